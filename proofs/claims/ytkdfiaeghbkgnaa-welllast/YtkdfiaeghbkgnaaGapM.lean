/-
  GAPS, in numbers: when they may be, a tick later, behind many ticks, the share of the last ticks.
-/
import Derived.Test.YtkdfiaeghbkgnaaBoM
import Derived.Test.YtkdfiaeghbkgnaaPopM
import Derived.Test.YtkdfiaeghbkgnaaFixM
namespace Go.Proofs.Ytkdfiaeghbkgnaa
open Go.RowKit Go.Lib Go.Deep
set_option linter.unusedVariables false
set_option linter.unusedSimpArgs false

theorem Hid.mk' {p : Prop} (h : p) : Hid p := h
structure Ga where
  up : Bool
  held : Int
  opn : Int
  came : Int
  last : Int
abbrev Ga.zero : Ga := ⟨false, 0, 0, 0, 0⟩
abbrev gaC (g : Ga) : Array Value := #[.bool g.up, .int .i64 g.held, .int .i64 g.opn, .int .i64 g.came, .int .u64 g.last]
abbrev gaV (g : Ga) : Value := .agg (gaC g)
/-- From 0 to a bound. -/
def wiB (n l h : Int) : Bool := decide (l ≤ n ∧ n ≤ h)
def mayG (g : Ga) : Bool := wiB g.held 0 1048576 && (wiB g.opn 0 1048576 && (wiB g.came 0 1073741824 && ((g.up || decide (g.held = 0)) && ((!g.up || decide (g.opn = 0)) && (g.up == decide (g.last % 2 = 1))))))
/-- One more, at most m. -/
def incG (n m : Int) : Int := if n + 1 < m then n + 1 else m
/-- The bits, a tick later. -/
def lasG (z : Int) (u : Bool) : Int := if u = true then z * 2 % 18446744073709551616 + 1 else z * 2 % 18446744073709551616
def stepG (g : Ga) (u : Bool) : Ga := ⟨u, if u = true then incG g.held 1048576 else 0, if u = true then 0 else incG g.opn 1048576, if u = true ∧ g.up = false then incG g.came 1073741824 else g.came, lasG g.last u⟩
def nxE (g : Ga) : Int := if mayG g = true then 0 else 8
def nxG (g : Ga) (u : Bool) : Ga := if mayG g = true then stepG g u else Ga.zero
def shE (g : Ga) (n : Int) : Int := if mayG g = true then (if wiB n 1 64 = true then 0 else 2) else 8
/-- In how many of the n newest ticks something stood there. -/
def stand (z n : Int) : Int := (cnt z.toNat n.toNat : Int)
def shV (g : Ga) (n : Int) : Int := if mayG g = true ∧ wiB n 1 64 = true then fDiv (fOf (stand g.last n)) (fOf n) else 0
def paE (g : Ga) (n : Int) : Int := if mayG g = true then (if wiB n 0 1048576 = true then 0 else 2) else 8
def paB (g : Ga) (n : Int) : Bool := mayG g && (wiB n 0 1048576 && (!g.up && decide (n ≤ g.opn)))

theorem wi_iff {n l h : Int} : wiB n l h = true ↔ l ≤ n ∧ n ≤ h := ⟨of_decide_eq_true, decide_eq_true⟩
theorem incG_le {n m : Int} : incG n m ≤ m := by unfold incG; split <;> omega
theorem incG_ge {n m : Int} (h : 0 ≤ n) (hm : 0 ≤ m) : 0 ≤ incG n m := by unfold incG; split <;> omega
theorem lasG_bd (z : Int) (u : Bool) : 0 ≤ lasG z u ∧ lasG z u < 18446744073709551616 := by unfold lasG; split <;> omega
theorem lasG_two (z : Int) (u : Bool) : decide (lasG z u % 2 = 1) = u := by
  unfold lasG
  cases u
  · rw [if_neg (by decide)]; exact decide_eq_false (by omega)
  · rw [if_pos rfl]; exact decide_eq_true (by omega)
/-- What it is to may be. -/
structure May (g : Ga) : Prop where
  h0 : 0 ≤ g.held
  h1 : g.held ≤ 1048576
  o0 : 0 ≤ g.opn
  o1 : g.opn ≤ 1048576
  c0 : 0 ≤ g.came
  c1 : g.came ≤ 1073741824
  hz : g.up = false → g.held = 0
  oz : g.up = true → g.opn = 0
  lo : g.up = decide (g.last % 2 = 1)
theorem may_iff {g : Ga} : mayG g = true ↔ May g := by
  unfold mayG
  simp only [Bool.and_eq_true, wi_iff]
  constructor
  · rintro ⟨⟨a, b⟩, ⟨c, d⟩, ⟨e, f⟩, h, i, j⟩
    refine ⟨a, b, c, d, e, f, fun q => ?_, fun q => ?_, by simpa using j⟩
    · rw [q] at h; simpa using h
    · rw [q] at i; simpa using i
  · rintro ⟨a, b, c, d, e, f, h, i, j⟩
    refine ⟨⟨a, b⟩, ⟨c, d⟩, ⟨e, f⟩, ?_, ?_, by simpa using j⟩
    · cases hu : g.up
      · simp [h hu]
      · rfl
    · cases hu : g.up
      · rfl
      · simp [i hu]
theorem may_zero : mayG Ga.zero = true := by decide
theorem may_step {g : Ga} {u : Bool} (h : mayG g = true) : mayG (stepG g u) = true := by
  obtain ⟨a, b, c, d, e, f, i, j, k⟩ := may_iff.1 h
  refine may_iff.2 ⟨?_, ?_, ?_, ?_, ?_, ?_, ?_, ?_, (lasG_two _ _).symm⟩
  · show 0 ≤ if u = true then incG g.held 1048576 else 0
    split
    · exact incG_ge a (by omega)
    · omega
  · show (if u = true then incG g.held 1048576 else 0) ≤ _
    split
    · exact incG_le
    · omega
  · show 0 ≤ if u = true then 0 else incG g.opn 1048576
    split
    · omega
    · exact incG_ge c (by omega)
  · show (if u = true then 0 else incG g.opn 1048576) ≤ _
    split
    · omega
    · exact incG_le
  · show 0 ≤ if u = true ∧ g.up = false then incG g.came 1073741824 else g.came
    split
    · exact incG_ge e (by omega)
    · exact e
  · show (if u = true ∧ g.up = false then incG g.came 1073741824 else g.came) ≤ _
    split
    · exact incG_le
    · exact f
  · intro q
    have q' : u = false := q
    show (if u = true then incG g.held 1048576 else 0) = 0
    rw [q']; rfl
  · intro q
    have q' : u = true := q
    show (if u = true then 0 else incG g.opn 1048576) = 0
    rw [q']; rfl

/-! ### The bits -/
theorem cnt_zero_low (x k : Nat) : cnt (x * 2 ^ k) k = 0 := by
  have h := cnt_flat (x * 2 ^ k) 0 k (fun j _ hj => by rw [Nat.testBit_mul_two_pow]; simp; omega)
  rw [Nat.zero_add] at h
  exact h
theorem cnt_moved (x n : Nat) (hn : n ≤ 64) : cnt (x * 2 ^ (64 - n) % 18446744073709551616) 64 = cnt x n := by
  rw [show (18446744073709551616 : Nat) = 2 ^ 64 from rfl, cnt_mod]
  have e : 64 = (64 - n) + n := by omega
  have h := cnt_split (x * 2 ^ (64 - n)) (64 - n) n
  rw [cnt_zero_low, Nat.mul_div_cancel _ (Nat.two_pow_pos _), Nat.zero_add, ← e] at h
  exact h
theorem stand_bd (z n : Int) : 0 ≤ stand z n ∧ stand z n ≤ n.toNat := by unfold stand; have := cnt_le z.toNat n.toNat; omega
theorem stand_zero (z : Int) : stand z 0 = 0 := rfl
/-- The bits one by one, from the lowest. -/
theorem cnt_half (x n : Nat) : cnt x (n + 1) = x % 2 + cnt (x / 2) n := by
  rw [Nat.add_comm n 1, cnt_split]
  show cnt x 1 + cnt (x / 2) n = _
  have : cnt x 1 = x % 2 := by
    show 0 + (x.testBit 0).toNat = _
    rw [Nat.testBit_zero]
    rcases Nat.mod_two_eq_zero_or_one x with h | h <;> simp [h]
  omega
/-- Behind a tick. -/
theorem stand_las (z : Int) (u : Bool) (n : Nat) (hz : 0 ≤ z) (hn : n < 64) : stand (lasG z u) (n + 1 : Nat) = (if u = true then 1 else 0) + stand z n := by
  unfold stand
  have e1 : ((n + 1 : Nat) : Int).toNat = n + 1 := by omega
  have e2 : ((n : Nat) : Int).toNat = n := by omega
  have e3 : (lasG z u).toNat = (z.toNat * 2 + if u = true then 1 else 0) % 2 ^ 64 := by unfold lasG; cases u <;> simp <;> omega
  rw [e1, e2, e3]
  have h := cnt_congr (S := (z.toNat * 2 + if u = true then 1 else 0) % 2 ^ 64) (T := z.toNat * 2 + if u = true then 1 else 0) (n + 1) (fun j hj => by rw [Nat.testBit_mod_two_pow]; simp; omega)
  rw [h, cnt_half]
  have e4 : (z.toNat * 2 + if u = true then 1 else 0) % 2 = if u = true then 1 else 0 := by split <;> omega
  have e5 : (z.toNat * 2 + if u = true then 1 else 0) / 2 = z.toNat := by split <;> omega
  rw [e4, e5]
  split <;> omega

end Go.Proofs.Ytkdfiaeghbkgnaa
