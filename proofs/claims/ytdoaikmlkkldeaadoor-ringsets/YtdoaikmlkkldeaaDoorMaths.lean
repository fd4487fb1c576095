/-
  THE PLAIN MATHEMATICS of a ring: what its 1027 numbers are behind the pushes L; the sums; no text of the program.
-/
import Derived.Below
namespace Go.Proofs.YtdoaikmlkkldeaaDoor
set_option linter.unusedVariables false
set_option linter.unusedSimpArgs false

theorem mod_ne {a b N : Nat} (h1 : a < b) (h2 : b < a + N) : a % N ≠ b % N := by
  intro e
  have h : (b - a) % N = 0 := Nat.sub_mod_eq_zero_of_mod_eq e.symm
  have := Nat.le_of_dvd (by omega) (Nat.dvd_of_mod_eq_zero h)
  omega

/-- What a ring for N numbers holds behind the pushes L: numbers 0 to 1023 the pieces, 1024 the size, 1025 the next place, 1026 how many. -/
structure RInv (N : Nat) (z : Nat → Int) (L : List Int) : Prop where
  n1 : 1 ≤ N
  n2 : N ≤ 1024
  sz : z 1024 = (N : Int)
  nx : z 1025 = ((L.length % N : Nat) : Int)
  mn : z 1026 = ((min L.length N : Nat) : Int)
  has : ∀ p, p < L.length → L.length ≤ p + N → z (p % N) = L.getD p 0

theorem RInv.start {N : Nat} {z : Nat → Int} (h1 : 1 ≤ N) (h2 : N ≤ 1024) (a : z 1024 = (N : Int)) (b : z 1025 = 0) (c : z 1026 = 0) : RInv N z [] :=
  ⟨h1, h2, a, by simpa using b, by simpa using c, fun p hp _ => by simp at hp⟩

theorem RInv.push {N : Nat} {z z' : Nat → Int} {L : List Int} {x : Int} (h : RInv N z L)
    (a : z' 1024 = z 1024) (b : z' 1025 = (((L.length % N + 1) % N : Nat) : Int)) (c : z' 1026 = ((min (min L.length N + 1) N : Nat) : Int)) (d : z' (L.length % N) = x)
    (e : ∀ j, j < 1024 → j ≠ L.length % N → z' j = z j) : RInv N z' (L ++ [x]) := by
  have hN := h.n1
  have hN2 := h.n2
  refine ⟨h.n1, h.n2, a.trans h.sz, ?_, ?_, ?_⟩
  · rw [b]; simp [Nat.mod_add_mod]
  · rw [c]; simp; omega
  · intro p hp hq
    simp at hp hq
    by_cases hpe : p = L.length
    · subst hpe; rw [d]; simp
    · have hm : p % N < 1024 := Nat.lt_of_lt_of_le (Nat.mod_lt _ hN) hN2
      have hne : p % N ≠ L.length % N := mod_ne (by omega) (by omega)
      rw [e _ hm hne, h.has p (by omega) (by omega)]
      have : p < L.length := by omega
      simp [List.getElem?_append_left this]

/-- The place of the number that was pushed k pushes ahead of the newest. -/
theorem back_place {N k len : Nat} (h1 : 1 ≤ N) (hk : k < min len N) : (((len % N : Nat) : Int) - 1 - (k : Int) + (N : Int)) % (N : Int) = (((len - 1 - k) % N : Nat) : Int) := by
  have hlt := Nat.mod_lt len h1
  have e : ((len % N : Nat) : Int) - 1 - (k : Int) + (N : Int) = ((len % N + N - 1 - k : Nat) : Int) := by omega
  rw [e]
  have hd := Nat.div_add_mod len N
  have key : (len % N + N - 1 - k) % N = (len - 1 - k) % N := by
    by_cases hc : k + 1 ≤ len % N
    · have e1 : len % N + N - 1 - k = (len % N - 1 - k) + N := by omega
      have e2 : len - 1 - k = (len % N - 1 - k) + N * (len / N) := by omega
      rw [e1, e2, Nat.add_mod_right, Nat.add_mul_mod_self_left]
    · have h0 : 1 ≤ len / N := by
        rcases Nat.eq_zero_or_pos (len / N) with hz | hz
        · rw [hz] at hd; simp at hd; omega
        · exact hz
      obtain ⟨c, hc2⟩ : ∃ c, len / N = c + 1 := ⟨len / N - 1, by omega⟩
      have e2 : len - 1 - k = (len % N + N - 1 - k) + N * c := by
        rw [hc2, Nat.mul_add] at hd; omega
      rw [e2, Nat.add_mul_mod_self_left]
  rw [← key]; rfl

/-- The numbers that a ring for N has behind the pushes L. -/
def lastN (N : Nat) (L : List Int) : List Int := L.drop (L.length - N)
theorem lastN_length (N : Nat) (L : List Int) : (lastN N L).length = min L.length N := by simp [lastN]; omega
theorem lastN_getD (N : Nat) (L : List Int) (j : Nat) (h : j < min L.length N) : (lastN N L).getD j 0 = L.getD (L.length - min L.length N + j) 0 := by
  simp only [lastN, List.getD_eq_getElem?_getD, List.getElem?_drop]
  congr 2; omega
theorem lastN_back (N : Nat) (L : List Int) (j : Nat) (h : j < min L.length N) : L.getD (L.length - 1 - (min L.length N - 1 - j)) 0 = (lastN N L).getD j 0 := by
  rw [lastN_getD N L j h]; congr 1; omega

/-- A sum of the first k of g. -/
def sm (g : Nat → Int) : Nat → Int
  | 0 => 0
  | k + 1 => sm g k + g k
theorem sm_succ (g : Nat → Int) (k : Nat) : sm g (k + 1) = sm g k + g k := rfl
theorem sm_congr {f g : Nat → Int} (k : Nat) (h : ∀ j, j < k → f j = g j) : sm f k = sm g k := by
  induction k with
  | zero => rfl
  | succ k ih => rw [sm_succ, sm_succ, ih (fun j hj => h j (by omega)), h k (by omega)]
theorem sm_shift (g : Nat → Int) (k : Nat) : sm g (k + 1) = g 0 + sm (fun j => g (j + 1)) k := by
  induction k with
  | zero => simp [sm]
  | succ k ih => rw [sm_succ, ih, sm_succ]; omega
theorem sm_rev (g : Nat → Int) (k : Nat) : sm (fun j => g (k - 1 - j)) k = sm g k := by
  induction k with
  | zero => rfl
  | succ k ih =>
    rw [sm_shift, sm_succ, ← ih]
    have : sm (fun j => g (k + 1 - 1 - (j + 1))) k = sm (fun j => g (k - 1 - j)) k := sm_congr k (fun j hj => by congr 1; omega)
    rw [this]; simp; omega
theorem sm_bound (g : Nat → Int) (k : Nat) (lo hi : Int) (h : ∀ j, lo ≤ g j ∧ g j ≤ hi) : lo * k ≤ sm g k ∧ sm g k ≤ hi * k := by
  induction k with
  | zero => simp [sm]
  | succ k ih =>
    have := h k
    rw [sm_succ]; push_cast; rw [Int.mul_add, Int.mul_add]; omega

/-- The sum of a list, from its head. -/
def lsum (l : List Int) : Int := sm (fun j => l.getD j 0) l.length

/-- Stopped at 2^62 and at -2^62. -/
def stopS (s : Int) : Int := if 4611686018427387904 ≤ s then 4611686018427387904 else if s < -4611686018427387904 then -4611686018427387904 else s
theorem stopS_bd (s : Int) : -4611686018427387904 ≤ stopS s ∧ stopS s ≤ 4611686018427387904 := by
  unfold stopS; repeat' split
  all_goals omega

/-- The two halves. -/
theorem halves (g : Nat → Int) (k : Nat) : sm (fun j => g j / 4294967296) k * 4294967296 + sm (fun j => g j % 4294967296) k = sm g k := by
  induction k with
  | zero => rfl
  | succ k ih => rw [sm_succ, sm_succ, sm_succ]; have := Int.mul_ediv_add_emod (g k) 4294967296; omega

end Go.Proofs.YtdoaikmlkkldeaaDoor
