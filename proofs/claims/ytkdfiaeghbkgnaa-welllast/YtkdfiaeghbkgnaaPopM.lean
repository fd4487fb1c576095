/-
  HOW MANY BITS OF 64 ARE SET, as Go's math/bits counts them: fields of a word that are added side by side; no text of the program.
-/
import Derived.Test.YtkdfiaeghbkgnaaSetM
namespace Go.Proofs.Ytkdfiaeghbkgnaa
set_option linter.unusedVariables false
set_option linter.unusedSimpArgs false

/-- A word whose n digits to the base B are f of x's digits. -/
def dg (B : Nat) (f : Nat → Nat) : Nat → Nat → Nat
  | 0, _ => 0
  | n + 1, x => f (x % B) + B * dg B f n (x / B)
/-- The sum of f of x's n digits to the base B. -/
def ds (B : Nat) (f : Nat → Nat) : Nat → Nat → Nat
  | 0, _ => 0
  | n + 1, x => f (x % B) + ds B f n (x / B)
/-- A word whose n digits to the base B are m. -/
def mk9 (B m : Nat) : Nat → Nat
  | 0 => 0
  | n + 1 => m + B * mk9 B m n
/-- The two halves of a digit, added. -/
def hv (b d : Nat) : Nat := d / b + d % b

theorem and_parts (k x y : Nat) : x &&& y = (x % 2 ^ k &&& y % 2 ^ k) + 2 ^ k * (x / 2 ^ k &&& y / 2 ^ k) := by
  rw [← Nat.and_mod_two_pow, ← Nat.and_div_two_pow]
  exact (Nat.mod_add_div _ _).symm
theorem dg_succ (B : Nat) (f : Nat → Nat) (n x : Nat) : dg B f (n + 1) x = f (x % B) + B * dg B f n (x / B) := rfl
theorem ds_succ (B : Nat) (f : Nat → Nat) (n x : Nat) : ds B f (n + 1) x = f (x % B) + ds B f n (x / B) := rfl
theorem mk9_succ (B m n : Nat) : mk9 B m (n + 1) = m + B * mk9 B m n := rfl
theorem mk9_parts (k m n : Nat) (hm : m < 2 ^ k) : mk9 (2 ^ k) m (n + 1) % 2 ^ k = m ∧ mk9 (2 ^ k) m (n + 1) / 2 ^ k = mk9 (2 ^ k) m n := by
  have hp : 0 < 2 ^ k := by omega
  rw [mk9_succ]
  exact ⟨by rw [Nat.add_mul_mod_self_left, Nat.mod_eq_of_lt hm], by rw [Nat.add_mul_div_left _ _ hp, Nat.div_eq_of_lt hm, Nat.zero_add]⟩
/-- Two words under one mask, the first one moved down by half a digit. -/
theorem and_mk9 (k j : Nat) (hk : 2 ^ k = 2 ^ j * 2 ^ j) : ∀ n x, (x / 2 ^ j &&& mk9 (2 ^ k) (2 ^ j - 1) n) + (x &&& mk9 (2 ^ k) (2 ^ j - 1) n) = dg (2 ^ k) (hv (2 ^ j)) n x
  | 0, x => by simp [mk9, dg]
  | n + 1, x => by
    have hp : 0 < 2 ^ j := Nat.two_pow_pos j
    have hm : 2 ^ j - 1 < 2 ^ k := by
      rw [hk]
      have := Nat.le_mul_of_pos_left (2 ^ j) hp
      omega
    obtain ⟨e1, e2⟩ := mk9_parts k (2 ^ j - 1) n hm
    rw [and_parts k (x / 2 ^ j), and_parts k x, e1, e2]
    have q1 : x / 2 ^ j / 2 ^ k = x / 2 ^ k / 2 ^ j := by rw [Nat.div_div_eq_div_mul, Nat.div_div_eq_div_mul, Nat.mul_comm]
    have q2 : (x / 2 ^ j % 2 ^ k &&& 2 ^ j - 1) = x % 2 ^ k / 2 ^ j := by
      rw [Nat.and_two_pow_sub_one_eq_mod, hk, Nat.mod_mul_left_mod, Nat.mod_mul_right_div_self]
    have q3 : (x % 2 ^ k &&& 2 ^ j - 1) = x % 2 ^ k % 2 ^ j := Nat.and_two_pow_sub_one_eq_mod _ _
    rw [q1, q2, q3]
    have ih := and_mk9 k j hk n (x / 2 ^ k)
    show _ = hv (2 ^ j) (x % 2 ^ k) + 2 ^ k * dg (2 ^ k) (hv (2 ^ j)) n (x / 2 ^ k)
    rw [← ih, Nat.mul_add]
    unfold hv
    omega
theorem dg_mod (B : Nat) (f : Nat → Nat) (hf : ∀ d, d < B → f d < B) (hB : 0 < B) (n x : Nat) : dg B f (n + 1) x % B = f (x % B) ∧ dg B f (n + 1) x / B = dg B f n (x / B) := by
  have h := hf (x % B) (Nat.mod_lt _ hB)
  rw [dg_succ]
  exact ⟨by rw [Nat.add_mul_mod_self_left, Nat.mod_eq_of_lt h], by rw [Nat.add_mul_div_left _ _ hB, Nat.div_eq_of_lt h, Nat.zero_add]⟩
/-- Digits that are added two by two have the same sum. -/
theorem ds_two (B : Nat) (f : Nat → Nat) (hf : ∀ d, d < B → f d < B) (hB : 0 < B) : ∀ n x, ds (B * B) (hv B) n (dg B f (n + n) x) = ds B f (n + n) x
  | 0, x => rfl
  | n + 1, x => by
    have e : n + 1 + (n + 1) = n + n + 1 + 1 := by omega
    rw [e]
    obtain ⟨a1, a2⟩ := dg_mod B f hf hB (n + n + 1) x
    obtain ⟨b1, b2⟩ := dg_mod B f hf hB (n + n) (x / B)
    have ih := ds_two B f hf hB n (x / B / B)
    show hv B (dg B f (n + n + 1 + 1) x % (B * B)) + ds (B * B) (hv B) n (dg B f (n + n + 1 + 1) x / (B * B)) = f (x % B) + (f (x / B % B) + ds B f (n + n) (x / B / B))
    rw [← Nat.div_div_eq_div_mul, a2, b2, ih]
    unfold hv
    rw [Nat.mod_mul_right_div_self, a2, b1, Nat.mod_mul_left_mod, a1]
    omega
theorem cnt_two (x : Nat) : cnt x 2 = hv 2 (x % 4) := by
  have h : x % 4 < 4 := Nat.mod_lt _ (by omega)
  rw [← cnt_mod x 2]
  show cnt (x % 4) 2 = _
  generalize x % 4 = d at *
  rcases d with _|_|_|_|d <;> first | rfl | omega
theorem cnt_ds : ∀ n x, cnt x (n + n) = ds 4 (hv 2) n x
  | 0, x => rfl
  | n + 1, x => by
    rw [show n + 1 + (n + 1) = 2 + (n + n) by omega, cnt_split, cnt_two, cnt_ds n]
    rfl
theorem hv2 : ∀ d, d < 4 → hv 2 d ≤ 2 := fun d hd => by unfold hv; omega
theorem hv4 : ∀ d, d < 16 → hv 4 d ≤ 6 := fun d hd => by unfold hv; omega
/-- The third step: fields of at most 4 are added ahead of the mask. -/
theorem and_last (f : Nat → Nat) (hf : ∀ d, d < 16 → f d ≤ 7) : ∀ n x, (dg 16 f (n + n) x / 16 + dg 16 f (n + n) x) &&& mk9 256 15 n = dg 256 (hv 16) n (dg 16 f (n + n) x)
  | 0, x => by simp [mk9, dg]
  | n + 1, x => by
    have e : n + 1 + (n + 1) = n + n + 1 + 1 := by omega
    have h16 : ∀ d, d < 16 → f d < 16 := fun d hd => by have := hf d hd; omega
    rw [e]
    obtain ⟨a1, a2⟩ := dg_mod 16 f h16 (by omega) (n + n + 1) x
    obtain ⟨b1, b2⟩ := dg_mod 16 f h16 (by omega) (n + n) (x / 16)
    have c0 := hf (x % 16) (Nat.mod_lt _ (by omega))
    have c1 := hf (x / 16 % 16) (Nat.mod_lt _ (by omega))
    have c2 : dg 16 f (n + n) (x / 16 / 16) % 16 ≤ 7 := by
      rcases n with _ | n
      · exact Nat.zero_le _
      · have := dg_mod 16 f h16 (by omega) (n + n + 1) (x / 16 / 16)
        rw [show n + 1 + (n + 1) = n + n + 1 + 1 by omega, this.1]
        exact hf _ (Nat.mod_lt _ (by omega))
    have ih := and_last f hf n (x / 16 / 16)
    obtain ⟨e1, e2⟩ := mk9_parts 8 15 n (by decide)
    have hp := and_parts 8 (dg 16 f (n + n + 1 + 1) x / 16 + dg 16 f (n + n + 1 + 1) x) (mk9 256 15 (n + 1))
    rw [hp]
    have e1' : mk9 256 15 (n + 1) % 2 ^ 8 = 15 := e1
    have e2' : mk9 256 15 (n + 1) / 2 ^ 8 = mk9 256 15 n := e2
    rw [e1', e2']
    show _ = hv 16 (dg 16 f (n + n + 1 + 1) x % 256) + 256 * dg 256 (hv 16) n (dg 16 f (n + n + 1 + 1) x / 256)
    have q : dg 16 f (n + n + 1 + 1) x / 256 = dg 16 f (n + n) (x / 16 / 16) := by
      rw [show (256 : Nat) = 16 * 16 from rfl, ← Nat.div_div_eq_div_mul, a2, b2]
    have q2 : dg 16 f (n + n + 1 + 1) x / 16 % 16 = f (x / 16 % 16) := by rw [a2]; exact b1
    rw [q, ← ih]
    have hand : ((dg 16 f (n + n + 1 + 1) x / 16 + dg 16 f (n + n + 1 + 1) x) % 2 ^ 8 &&& 15) = (dg 16 f (n + n + 1 + 1) x / 16 + dg 16 f (n + n + 1 + 1) x) % 2 ^ 8 % 16 := Nat.and_two_pow_sub_one_eq_mod _ 4
    rw [hand]
    generalize dg 16 f (n + n + 1 + 1) x = D at *
    generalize dg 16 f (n + n) (x / 16 / 16) = E at *
    have r1 : (D / 16 + D) / 2 ^ 8 = E / 16 + E := by omega
    rw [r1]
    unfold hv
    omega

/-- What each step leaves. -/
def s1N (x : Nat) : Nat := dg 4 (hv 2) 32 x
def s2N (x : Nat) : Nat := dg 16 (hv 4) 16 (s1N x)
def s3N (x : Nat) : Nat := dg 256 (hv 16) 8 (s2N x)
theorem m1_is : mk9 (2 ^ 2) (2 ^ 1 - 1) 32 = 6148914691236517205 := by decide +kernel
theorem m2_is : mk9 (2 ^ 4) (2 ^ 2 - 1) 16 = 3689348814741910323 := by decide +kernel
theorem m3_is : mk9 256 15 8 = 1085102592571150095 := by decide +kernel
theorem s1_is (x : Nat) : (x / 2 &&& 6148914691236517205) + (x &&& 6148914691236517205) = s1N x := by
  have h := and_mk9 2 1 rfl 32 x
  rw [m1_is] at h
  exact h
theorem s2_is (x : Nat) : (s1N x / 4 &&& 3689348814741910323) + (s1N x &&& 3689348814741910323) = s2N x := by
  have h := and_mk9 4 2 rfl 16 (s1N x)
  rw [m2_is] at h
  exact h
theorem s3_is (x : Nat) : (s2N x / 16 + s2N x) &&& 1085102592571150095 = s3N x := by
  have h := and_last (hv 4) (fun d hd => by have := hv4 d hd; omega) 8 (s1N x)
  rw [m3_is] at h
  exact h
theorem s3_sum (x : Nat) : ds 256 (hv 16) 8 (s2N x) = cnt x 64 := by
  unfold s2N
  rw [show (256 : Nat) = 16 * 16 from rfl, show (16 : Nat) = 8 + 8 from rfl]
  have h1 := ds_two 16 (hv 4) (fun d hd => by have := hv4 d hd; omega) (by omega) 8 (s1N x)
  have h2 := ds_two 4 (hv 2) (fun d hd => by have := hv2 d hd; omega) (by omega) 16 x
  have h3 := cnt_ds 32 x
  exact h1.trans (h2.trans h3.symm)
/-- The digits of the third word are at most 8: what they were made of is at most 4. -/
theorem dg_le (B : Nat) (f : Nat → Nat) (c : Nat) (hB : 0 < B) (hf : ∀ d, d < B → f d ≤ c) (hc : c < B) : ∀ n x, ∀ i, dg B f n x / B ^ i % B ≤ c
  | 0, x, i => by simp [dg]
  | n + 1, x, 0 => by
    rw [Nat.pow_zero, Nat.div_one, (dg_mod B f (fun d hd => by have := hf d hd; omega) hB n x).1]
    exact hf _ (Nat.mod_lt _ hB)
  | n + 1, x, i + 1 => by
    rw [Nat.pow_succ, Nat.mul_comm, ← Nat.div_div_eq_div_mul, (dg_mod B f (fun d hd => by have := hf d hd; omega) hB n x).2]
    exact dg_le B f c hB hf hc n (x / B) i
theorem s3_out (x : Nat) (hx : x < 18446744073709551616) : ∃ c0 c1 c2 c3 c4 c5 c6 c7 : Nat, s3N x = c0 + 256 * (c1 + 256 * (c2 + 256 * (c3 + 256 * (c4 + 256 * (c5 + 256 * (c6 + 256 * c7)))))) ∧ c0 + c1 + c2 + c3 + c4 + c5 + c6 + c7 = cnt x 64 ∧ c0 ≤ 15 ∧ c1 ≤ 15 ∧ c2 ≤ 15 ∧ c3 ≤ 15 ∧ c4 ≤ 15 ∧ c5 ≤ 15 ∧ c6 ≤ 15 ∧ c7 ≤ 15 := by
  have hb : ∀ i, s2N x / 16 ^ i % 16 ≤ 6 := dg_le 16 (hv 4) 6 (by omega) hv4 (by omega) 16 (s1N x)
  have hv16 : ∀ i, hv 16 (s2N x / 256 ^ i % 256) ≤ 15 := fun i => by
    have h0 := hb (i + i)
    have h1 := hb (i + i + 1)
    unfold hv
    have p0 : (16 : Nat) ^ (i + i) = 256 ^ i := by rw [← Nat.two_mul, Nat.pow_mul]
    rw [Nat.pow_succ, p0, ← Nat.div_div_eq_div_mul] at h1
    rw [p0] at h0
    omega
  have hs := s3_sum x
  have hd : s3N x = dg 256 (hv 16) 8 (s2N x) := rfl
  rw [show (8 : Nat) = 0 + 1 + 1 + 1 + 1 + 1 + 1 + 1 + 1 from rfl] at hs hd
  simp only [ds_succ] at hs
  simp only [dg_succ] at hd
  have e0 : ∀ y, dg 256 (hv 16) 0 y = 0 := fun _ => rfl
  have e1 : ∀ y, ds 256 (hv 16) 0 y = 0 := fun _ => rfl
  rw [e0] at hd
  rw [e1] at hs
  have g0 : hv 16 (s2N x % 256) ≤ 15 := by have := hv16 0; simpa [Nat.div_div_eq_div_mul] using this
  have g1 : hv 16 (s2N x / 256 % 256) ≤ 15 := by have := hv16 1; simpa [Nat.div_div_eq_div_mul] using this
  have g2 : hv 16 (s2N x / 256 / 256 % 256) ≤ 15 := by have := hv16 2; simpa [Nat.div_div_eq_div_mul] using this
  have g3 : hv 16 (s2N x / 256 / 256 / 256 % 256) ≤ 15 := by have := hv16 3; simpa [Nat.div_div_eq_div_mul] using this
  have g4 : hv 16 (s2N x / 256 / 256 / 256 / 256 % 256) ≤ 15 := by have := hv16 4; simpa [Nat.div_div_eq_div_mul] using this
  have g5 : hv 16 (s2N x / 256 / 256 / 256 / 256 / 256 % 256) ≤ 15 := by have := hv16 5; simpa [Nat.div_div_eq_div_mul] using this
  have g6 : hv 16 (s2N x / 256 / 256 / 256 / 256 / 256 / 256 % 256) ≤ 15 := by have := hv16 6; simpa [Nat.div_div_eq_div_mul] using this
  have g7 : hv 16 (s2N x / 256 / 256 / 256 / 256 / 256 / 256 / 256 % 256) ≤ 15 := by have := hv16 7; simpa [Nat.div_div_eq_div_mul] using this
  generalize hq : s2N x = q at *
  generalize hv 16 (q % 256) = c0 at *
  generalize hv 16 (q / 256 % 256) = c1 at *
  generalize hv 16 (q / 256 / 256 % 256) = c2 at *
  generalize hv 16 (q / 256 / 256 / 256 % 256) = c3 at *
  generalize hv 16 (q / 256 / 256 / 256 / 256 % 256) = c4 at *
  generalize hv 16 (q / 256 / 256 / 256 / 256 / 256 % 256) = c5 at *
  generalize hv 16 (q / 256 / 256 / 256 / 256 / 256 / 256 % 256) = c6 at *
  generalize hv 16 (q / 256 / 256 / 256 / 256 / 256 / 256 / 256 % 256) = c7 at *
  exact ⟨c0, c1, c2, c3, c4, c5, c6, c7, by rw [hd]; omega, by rw [← hs]; omega, g0, g1, g2, g3, g4, g5, g6, g7⟩
/-- The last steps. -/
theorem dv9 {b c m z : Nat} (hz : z = c + b * m) (h : c < b) : z / b = m := by rw [hz, Nat.add_mul_div_left _ _ (by omega), Nat.div_eq_of_lt h, Nat.zero_add]
theorem sm9 {a b c d m n : Nat} (h1 : a = c + 256 * m) (h2 : b = d + 256 * n) : a + b = (c + d) + 256 * (m + n) := by omega
theorem l1 {a : Nat} (h : a ≤ 15) : a < 256 := by omega
theorem l2 {a b : Nat} (h : a ≤ 15) (h' : b ≤ 15) : a + b < 256 := by omega
theorem l4 {a b c d : Nat} (h : a ≤ 15) (h' : b ≤ 15) (g : c ≤ 15) (g' : d ≤ 15) : a + b + (c + d) < 256 := by omega
theorem t9 {a b c d e f g h : Nat} : a + b + (c + d) + (e + f + (g + h)) = a + b + c + d + e + f + g + h := by omega
theorem md9 {v t K : Nat} (h : v = t + 256 * K) (ht : t ≤ 64) : v % 128 = t := by omega
theorem s_end {c0 c1 c2 c3 c4 c5 c6 c7 z t : Nat} (hz : z = c0 + 256 * (c1 + 256 * (c2 + 256 * (c3 + 256 * (c4 + 256 * (c5 + 256 * (c6 + 256 * c7))))))) (ht : c0 + c1 + c2 + c3 + c4 + c5 + c6 + c7 = t) (h64 : t ≤ 64) (h0 : c0 ≤ 15) (h1 : c1 ≤ 15) (h2 : c2 ≤ 15) (h3 : c3 ≤ 15) (h4 : c4 ≤ 15) (h5 : c5 ≤ 15) (h6 : c6 ≤ 15) (h7 : c7 ≤ 15) :
    (z + z / 256 + (z + z / 256) / 65536 + (z + z / 256 + (z + z / 256) / 65536) / 4294967296) % 128 = t := by
  have e7 : ∃ m7, m7 = c7 + 256 * 0 := ⟨_, rfl⟩
  obtain ⟨m7, e7⟩ := e7
  have e6 : ∃ m6, m6 = c6 + 256 * m7 := ⟨_, rfl⟩
  obtain ⟨m6, e6⟩ := e6
  have e5 : ∃ m5, m5 = c5 + 256 * m6 := ⟨_, rfl⟩
  obtain ⟨m5, e5⟩ := e5
  have e4 : ∃ m4, m4 = c4 + 256 * m5 := ⟨_, rfl⟩
  obtain ⟨m4, e4⟩ := e4
  have e3 : ∃ m3, m3 = c3 + 256 * m4 := ⟨_, rfl⟩
  obtain ⟨m3, e3⟩ := e3
  have e2 : ∃ m2, m2 = c2 + 256 * m3 := ⟨_, rfl⟩
  obtain ⟨m2, e2⟩ := e2
  have e1 : ∃ m1, m1 = c1 + 256 * m2 := ⟨_, rfl⟩
  obtain ⟨m1, e1⟩ := e1
  have ez : z = c0 + 256 * m1 := by
    have g7 : m7 = c7 := by rw [e7]; rfl
    rw [hz, e1, e2, e3, e4, e5, e6, g7]
  clear hz
  have d1 : z / 256 = m1 := dv9 ez (l1 h0)
  rw [d1]
  have y0 := sm9 ez e1
  have y1 := sm9 e1 e2
  have y2 := sm9 e2 e3
  have y3 := sm9 e3 e4
  have y4 := sm9 e4 e5
  have y5 := sm9 e5 e6
  have y6 := sm9 e6 e7
  have d2 : (z + m1) / 65536 = m2 + m3 := by
    rw [show (65536 : Nat) = 256 * 256 from rfl, ← Nat.div_div_eq_div_mul, dv9 y0 (l2 h0 h1), dv9 y1 (l2 h1 h2)]
  rw [d2]
  have u0 := sm9 y0 y2
  have u1 := sm9 y1 y3
  have u2 := sm9 y2 y4
  have u3 := sm9 y3 y5
  have u4 := sm9 y4 y6
  have d3 : (z + m1 + (m2 + m3)) / 4294967296 = m4 + m5 + (m6 + m7) := by
    rw [show (4294967296 : Nat) = 256 * 256 * 256 * 256 from rfl, ← Nat.div_div_eq_div_mul, ← Nat.div_div_eq_div_mul, ← Nat.div_div_eq_div_mul, dv9 u0 (l4 h0 h1 h2 h3), dv9 u1 (l4 h1 h2 h3 h4), dv9 u2 (l4 h2 h3 h4 h5), dv9 u3 (l4 h3 h4 h5 h6)]
  rw [d3]
  have v := sm9 u0 u4
  exact md9 (v.trans (congrArg (fun q => q + 256 * _) (t9.trans ht))) h64
theorem s3_lt (x : Nat) (hx : x < 18446744073709551616) : s3N x ≤ 1085102592571150095 := by
  obtain ⟨c0, c1, c2, c3, c4, c5, c6, c7, hz, _, h0, h1, h2, h3, h4, h5, h6, h7⟩ := s3_out x hx
  omega
theorem s1_lt (x : Nat) : s1N x ≤ 12297829382473034410 := by
  rw [← s1_is]
  have h1 : x / 2 &&& 6148914691236517205 ≤ 6148914691236517205 := Nat.and_le_right
  have h2 : x &&& 6148914691236517205 ≤ 6148914691236517205 := Nat.and_le_right
  omega
theorem s2_lt (x : Nat) : s2N x ≤ 7378697629483820646 := by
  rw [← s2_is]
  have h1 : s1N x / 4 &&& 3689348814741910323 ≤ 3689348814741910323 := Nat.and_le_right
  have h2 : s1N x &&& 3689348814741910323 ≤ 3689348814741910323 := Nat.and_le_right
  omega
theorem s_out (x : Nat) (hx : x < 18446744073709551616) : (s3N x + s3N x / 256 + (s3N x + s3N x / 256) / 65536 + (s3N x + s3N x / 256 + (s3N x + s3N x / 256) / 65536) / 4294967296) % 128 = cnt x 64 := by
  obtain ⟨c0, c1, c2, c3, c4, c5, c6, c7, hz, ht, h0, h1, h2, h3, h4, h5, h6, h7⟩ := s3_out x hx
  exact s_end hz ht (cnt_le x 64) h0 h1 h2 h3 h4 h5 h6 h7

end Go.Proofs.Ytkdfiaeghbkgnaa
