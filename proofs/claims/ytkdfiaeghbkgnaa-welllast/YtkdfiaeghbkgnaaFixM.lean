/-
  PLAIN MATHEMATICS of fixed numbers (no model's run in this text): what Add, Sub, Mul, Div, Of, Round, Clamp and Mix of package fix come to, over integers, and what follows of them.
-/
namespace Go.Proofs.Ytkdfiaeghbkgnaa

/-- A number stopped. -/
def stF (x : Int) : Int := if 70368744177664 < x then 70368744177664 else if x < -70368744177664 then -70368744177664 else x
theorem stF_hi {x : Int} (h : 70368744177664 < x) : stF x = 70368744177664 := by unfold stF; rw [if_pos h]
theorem stF_lo {x : Int} (h : x < -70368744177664) : stF x = -70368744177664 := by unfold stF; rw [if_neg (by omega), if_pos h]
theorem stF_id {x : Int} (h : -70368744177664 ≤ x) (h' : x ≤ 70368744177664) : stF x = x := by unfold stF; rw [if_neg (by omega), if_neg (by omega)]
theorem stF_ge (x : Int) : -70368744177664 ≤ stF x := by unfold stF; split <;> (try split) <;> omega
theorem stF_le (x : Int) : stF x ≤ 70368744177664 := by unfold stF; split <;> (try split) <;> omega
theorem stF_mono {x y : Int} (h : x ≤ y) : stF x ≤ stF y := by unfold stF; split <;> split <;> (try split) <;> (try split) <;> omega
theorem stF_stp (x : Int) : stF (stF x) = stF x := stF_id (stF_ge x) (stF_le x)
theorem stF_zero : stF 0 = 0 := stF_id (by decide) (by decide)
theorem stF_neg (x : Int) : stF (-x) = - stF x := by unfold stF; split <;> split <;> (try split) <;> (try split) <;> omega

/-- A quotient by a number above 0 is the only one that lies right. -/
theorem div_uniq {a b q : Int} (hb : 0 < b) (h1 : q * b ≤ a) (h2 : a < (q + 1) * b) : a / b = q := by
  have e1 : q ≤ a / b := (Int.le_ediv_iff_mul_le hb).2 h1
  have e2 : a / b < q + 1 := (Int.ediv_lt_iff_lt_mul hb).2 h2
  omega

/-- A quotient rounded down, whatever the divisor's sign (it is not 0). -/
def qdn (a b : Int) : Int := if b < 0 then (-a) / (-b) else a / b

/-- Go's quotient, one less where it was rounded up, is the one that is rounded down. -/
theorem tdiv_pos {a b : Int} (hb : 0 < b) : (a.tdiv b - if a.tmod b ≠ 0 ∧ a < 0 then 1 else 0) = a / b := by
  by_cases h0 : 0 ≤ a
  · rw [if_neg (by omega), Int.tdiv_eq_ediv_of_nonneg h0]; omega
  · have e := Int.tmod_add_mul_tdiv a b
    have hm : a.tmod b ≤ 0 := by
      have := Int.tmod_nonneg b (show 0 ≤ -a by omega)
      rw [Int.neg_tmod] at this; omega
    have hm2 : -b < a.tmod b := by
      have := Int.tmod_lt_of_pos (-a) hb
      rw [Int.neg_tmod] at this; omega
    generalize a.tmod b = m at *
    generalize a.tdiv b = q at *
    have c : b * q = q * b := Int.mul_comm _ _
    by_cases hz : m = 0
    · rw [if_neg (by omega)]
      exact (div_uniq hb (by rw [Int.sub_zero]; omega) (by rw [Int.add_mul, Int.sub_zero]; omega)).symm
    · rw [if_pos ⟨hz, by omega⟩]
      exact (div_uniq hb (by rw [Int.sub_mul]; omega) (by rw [Int.sub_add_cancel]; omega)).symm
theorem quot_eq {a b : Int} (hb : b ≠ 0) : (a.tdiv b - if a.tmod b ≠ 0 ∧ ((a < 0 ∧ 0 ≤ b) ∨ (0 ≤ a ∧ b < 0)) then 1 else 0) = qdn a b := by
  unfold qdn
  by_cases h : b < 0
  · rw [if_pos h, ← tdiv_pos (show 0 < -b by omega), Int.tdiv_neg, Int.neg_tdiv, Int.neg_neg, Int.tmod_neg, Int.neg_tmod]
    by_cases hz : a.tmod b = 0
    · rw [if_neg (by omega), if_neg (by omega)]
    · have : a ≠ 0 := by intro h0; rw [h0] at hz; simp at hz
      by_cases h0 : 0 ≤ a
      · rw [if_pos (by omega), if_pos (by omega)]
      · rw [if_neg (by omega), if_neg (by omega)]
  · rw [if_neg h, ← tdiv_pos (show 0 < b by omega)]
    by_cases hz : a.tmod b ≠ 0 ∧ a < 0
    · rw [if_pos (by omega), if_pos hz]
    · rw [if_neg (by omega), if_neg hz]

theorem tdiv_bd {a : Int} (b : Int) (h0 : -9223372036854775808 < a) (h1 : a ≤ 9223372036854775807) : -9223372036854775808 < a.tdiv b ∧ a.tdiv b ≤ 9223372036854775807 := by
  have := Int.natAbs_tdiv a b
  have h2 : a.natAbs.div b.natAbs ≤ a.natAbs := Nat.div_le_self _ _
  omega
theorem q_zero {a b : Int} (hb : b ≠ 0) (hm : a.tmod b = 0) : a.tdiv b = qdn a b := by
  rw [← quot_eq hb, if_neg (by omega)]; omega
theorem q_nn {a b : Int} (ha : a < 0) (hb : b < 0) : a.tdiv b = qdn a b := by
  rw [← quot_eq (by omega), if_neg (by omega)]; omega
theorem q_np {a b : Int} (hz : b ≠ 0) (ha : a < 0) (hb : 0 ≤ b) (hm : ¬ a.tmod b = 0) : a.tdiv b - 1 = qdn a b := by
  rw [← quot_eq hz, if_pos (by omega)]
theorem q_pn0 {a b : Int} (ha : 0 ≤ a) (hb : b < 0) (hm : a % b = 0) : a.tdiv b = qdn a b :=
  q_zero (by omega) (by rw [Int.tmod_eq_emod_of_nonneg ha]; exact hm)
theorem q_pn {a b : Int} (ha : 0 ≤ a) (hb : b < 0) (hm : ¬ a % b = 0) : a.tdiv b - 1 = qdn a b := by
  have : a.tmod b = a % b := Int.tmod_eq_emod_of_nonneg ha
  rw [← quot_eq (by omega), if_pos (by omega)]
theorem q_pp {a b : Int} (hb : 0 ≤ b) : a / b = qdn a b := by unfold qdn; rw [if_neg (by omega)]

/-! ### Wide numbers: an upper word with the sign, a lower one without. -/
def hiW (n : Int) : Int := n / 18446744073709551616
def loW (n : Int) : Int := n % 18446744073709551616
def wide (h l : Int) : Int := h * 18446744073709551616 + l
theorem wide_hi_lo (n : Int) : wide (hiW n) (loW n) = n := by unfold wide hiW loW; omega
theorem loW_ge (n : Int) : 0 ≤ loW n := by unfold loW; omega
theorem loW_le (n : Int) : loW n ≤ 18446744073709551615 := by unfold loW; omega
theorem loW_lt (n : Int) : loW n < 18446744073709551616 := by unfold loW; omega
theorem hiW_wide {h l : Int} (h0 : 0 ≤ l) (h1 : l ≤ 18446744073709551615) : hiW (wide h l) = h := by unfold hiW wide; omega
theorem loW_wide {h l : Int} (h0 : 0 ≤ l) (h1 : l ≤ 18446744073709551615) : loW (wide h l) = l := by unfold loW wide; omega

theorem mul_abs_le {a b A B : Int} (ha : -A ≤ a) (ha' : a ≤ A) (hb : -B ≤ b) (hb' : b ≤ B) : -(A * B) ≤ a * b ∧ a * b ≤ A * B := by
  have h1 : (a.natAbs * b.natAbs : Nat) ≤ A.toNat * B.toNat := Nat.mul_le_mul (by omega) (by omega)
  rw [← Int.natAbs_mul] at h1
  have hA : ((A.toNat : Nat) : Int) = A := Int.toNat_of_nonneg (by omega)
  have hB : ((B.toNat : Nat) : Int) = B := Int.toNat_of_nonneg (by omega)
  have h2 : ((A.toNat * B.toNat : Nat) : Int) = A * B := by rw [Int.natCast_mul, hA, hB]
  omega

/-- The product of two numbers of one word with a sign: its upper word fits a word with a sign. -/
theorem prod_bd {a b : Int} (ha : -9223372036854775808 ≤ a) (ha' : a ≤ 9223372036854775807) (hb : -9223372036854775808 ≤ b) (hb' : b ≤ 9223372036854775807) :
    -4611686018427387904 ≤ hiW (a * b) ∧ hiW (a * b) ≤ 4611686018427387904 := by
  have := mul_abs_le (A := 9223372036854775808) (B := 9223372036854775808) ha (by omega) hb (by omega)
  unfold hiW; omega

/-- Add, Sub, Mul, Div, Of, Round, Clamp, Mix. -/
def fAdd (a b : Int) : Int := stF (stF a + stF b)
def fSub (a b : Int) : Int := stF (stF a - stF b)
def fMul (a b : Int) : Int := stF (stF a * stF b / 65536)
def fDiv (a b : Int) : Int := stF (qdn (stF a * 65536) (stF b))
def fDq (a b : Int) : Int := if b = 0 then 0 else fDiv a b
def fDe (b : Int) : Int := if b = 0 then 10 else 0
def fOf (n : Int) : Int := stF (n * 65536)
def fRound (x : Int) : Int := (stF x + 32768) / 65536
def fClamp (x l h : Int) : Int := if x < l ∨ h < l then l else if h < x then h else x
def fMix (o n p : Int) : Int := stF o + (stF n - stF o) * fClamp p 0 65536 / 65536

theorem clamp_ge (p : Int) : 0 ≤ fClamp p 0 65536 := by unfold fClamp; split <;> (try split) <;> omega
theorem clamp_le (p : Int) : fClamp p 0 65536 ≤ 65536 := by unfold fClamp; split <;> (try split) <;> omega
theorem clamp_mono {p q : Int} (h : p ≤ q) : fClamp p 0 65536 ≤ fClamp q 0 65536 := by unfold fClamp; split <;> split <;> (try split) <;> (try split) <;> omega


theorem mul_bd (a b : Int) : -4951760157141521099596496896 ≤ stF a * stF b ∧ stF a * stF b ≤ 4951760157141521099596496896 :=
  mul_abs_le (A := 70368744177664) (B := 70368744177664) (stF_ge a) (stF_le a) (stF_ge b) (stF_le b)
theorem mul_hi_bd (a b : Int) : -9223372036854775808 ≤ hiW (stF a * stF b) ∧ hiW (stF a * stF b) ≤ 9223372036854775807 := by
  have := mul_bd a b
  unfold hiW; omega
theorem mix_bd (o n p : Int) : -9223372036854775808 ≤ (stF n - stF o) * fClamp p 0 65536 ∧ (stF n - stF o) * fClamp p 0 65536 ≤ 9223372036854775808 := by
  have := stF_ge o; have := stF_le o; have := stF_ge n; have := stF_le n; have := clamp_ge p; have := clamp_le p
  exact mul_abs_le (A := 140737488355328) (B := 65536) (by omega) (by omega) (by omega) (by omega)
theorem stF_ne {b : Int} (h : b ≠ 0) : stF b ≠ 0 := by unfold stF; split <;> (try split) <;> omega

def ab (x : Int) : Int := if x < 0 then -x else x
theorem ab_ge (x : Int) : 0 ≤ ab x := by unfold ab; split <;> omega
theorem ab_le (a : Int) : ab (stF a) ≤ 70368744177664 := by have := stF_ge a; have := stF_le a; unfold ab; split <;> omega
theorem ab_mul_same {x y : Int} (h : (x < 0 ∧ y < 0) ∨ (0 ≤ x ∧ 0 ≤ y)) : x * y = ab x * ab y := by
  unfold ab; rcases h with ⟨h, h'⟩ | ⟨h, h'⟩
  · rw [if_pos h, if_pos h', Int.neg_mul_neg]
  · rw [if_neg (by omega), if_neg (by omega)]
theorem ab_mul_else {x y : Int} (h : (x < 0 ∧ 0 ≤ y) ∨ (0 ≤ x ∧ y < 0)) : x * y = -(ab x * ab y) := by
  unfold ab; rcases h with ⟨h, h'⟩ | ⟨h, h'⟩
  · rw [if_pos h, if_neg (by omega), Int.neg_mul, Int.neg_neg]
  · rw [if_neg (by omega), if_pos h', Int.mul_neg, Int.neg_neg]
/-- Two numbers in digits to the base 2^24. -/
theorem mul_le_of {a b A B : Int} (h0 : 0 ≤ a) (h1 : a ≤ A) (h2 : 0 ≤ b) (h3 : b ≤ B) : 0 ≤ a * b ∧ a * b ≤ A * B :=
  ⟨Int.mul_nonneg h0 h2, (mul_abs_le (by omega) h1 (by omega) h3).2⟩
theorem digits {X Y : Int} (hX : 0 ≤ X) (hX' : X ≤ 70368744177664) (hY : 0 ≤ Y) (hY' : Y ≤ 70368744177664) :
    (0 ≤ X % 16777216 * (Y % 16777216) ∧ X % 16777216 * (Y % 16777216) ≤ 281474976710656) ∧
    (0 ≤ X / 16777216 * (Y % 16777216) ∧ X / 16777216 * (Y % 16777216) ≤ 70368744177664) ∧
    (0 ≤ X % 16777216 * (Y / 16777216) ∧ X % 16777216 * (Y / 16777216) ≤ 70368744177664) ∧
    (0 ≤ X / 16777216 * (Y / 16777216) ∧ X / 16777216 * (Y / 16777216) ≤ 17592186044416) ∧
    X * Y = X / 16777216 * (Y / 16777216) * 281474976710656 + (X / 16777216 * (Y % 16777216) + X % 16777216 * (Y / 16777216)) * 16777216 + X % 16777216 * (Y % 16777216) := by
  refine ⟨mul_le_of (A := 16777216) (B := 16777216) (by omega) (by omega) (by omega) (by omega), mul_le_of (A := 4194304) (B := 16777216) (by omega) (by omega) (by omega) (by omega), mul_le_of (A := 16777216) (B := 4194304) (by omega) (by omega) (by omega) (by omega), mul_le_of (A := 4194304) (B := 4194304) (by omega) (by omega) (by omega) (by omega), ?_⟩
  have eX : X = X / 16777216 * 16777216 + X % 16777216 := by omega
  have eY : Y = Y / 16777216 * 16777216 + Y % 16777216 := by omega
  generalize X / 16777216 = x1 at *
  generalize X % 16777216 = x0 at *
  generalize Y / 16777216 = y1 at *
  generalize Y % 16777216 = y0 at *
  rw [eX, eY, Int.add_mul, Int.mul_add, Int.mul_add, Int.mul_right_comm x1 16777216 y0, ← Int.mul_assoc x0 y1 16777216, Int.mul_assoc x1 16777216 (y1 * 16777216), Int.mul_left_comm 16777216 y1 16777216, ← Int.mul_assoc x1 y1]
  generalize x1 * y1 = p at *
  generalize x1 * y0 = q at *
  generalize x0 * y1 = r at *
  generalize x0 * y0 = s at *
  omega

theorem of_hi {n : Int} (h : 1073741824 < n) : fOf n = 70368744177664 := stF_hi (by omega)
theorem of_lo {n : Int} (h : n < -1073741824) : fOf n = -70368744177664 := stF_lo (by omega)
theorem of_id {n : Int} (h : -1073741824 ≤ n) (h' : n ≤ 1073741824) : fOf n = n * 65536 := stF_id (by omega) (by omega)
/-- A part of a difference: of its whole units, and of what is left. -/
theorem mix_parts {d p : Int} (h0 : -140737488355328 ≤ d) (h1 : d ≤ 140737488355328) (h2 : 0 ≤ p) (h3 : p ≤ 65536) :
    (-140737488355328 ≤ d / 65536 * p ∧ d / 65536 * p ≤ 140737488355328) ∧ (0 ≤ (d - d / 65536 * 65536) * p ∧ (d - d / 65536 * 65536) * p ≤ 4294967296) ∧ d / 65536 * p + (d - d / 65536 * 65536) * p / 65536 = d * p / 65536 := by
  refine ⟨mul_abs_le (A := 2147483648) (B := 65536) (by omega) (by omega) (by omega) h3, mul_le_of (A := 65536) (B := 65536) (by omega) (by omega) h2 h3, ?_⟩
  have e : d * p = d / 65536 * p * 65536 + (d - d / 65536 * 65536) * p := by
    have e1 : d = d / 65536 * 65536 + (d - d / 65536 * 65536) := by omega
    generalize d - d / 65536 * 65536 = l at *
    generalize d / 65536 = k at *
    rw [e1, Int.add_mul, Int.mul_right_comm]
  generalize (d - d / 65536 * 65536) * p = l at *
  generalize d / 65536 * p = k at *
  omega

/-- A part of a difference lies between nothing and all of it, and grows with the part. -/
theorem part_pos {d p : Int} (hd : 0 ≤ d) (h2 : 0 ≤ p) (h3 : p ≤ 65536) : 0 ≤ d * p / 65536 ∧ d * p / 65536 ≤ d := by
  have h := mul_le_of hd (Int.le_refl d) h2 h3
  omega
theorem part_neg {d p : Int} (hd : d ≤ 0) (h2 : 0 ≤ p) (h3 : p ≤ 65536) : d ≤ d * p / 65536 ∧ d * p / 65536 ≤ 0 := by
  have h := mul_le_of (a := -d) (by omega) (Int.le_refl _) h2 h3
  rw [Int.neg_mul] at h
  omega
theorem part_mono {d p q : Int} (hd : 0 ≤ d) (h : p ≤ q) : d * p / 65536 ≤ d * q / 65536 :=
  Int.ediv_le_ediv (by decide) (Int.mul_le_mul_of_nonneg_left h hd)
theorem part_anti {d p q : Int} (hd : d ≤ 0) (h : p ≤ q) : d * q / 65536 ≤ d * p / 65536 :=
  Int.ediv_le_ediv (by decide) (Int.mul_le_mul_of_nonpos_left hd h)
theorem mix_between (o n p : Int) : (stF o ≤ stF n ∧ stF o ≤ fMix o n p ∧ fMix o n p ≤ stF n) ∨ (stF n ≤ stF o ∧ stF n ≤ fMix o n p ∧ fMix o n p ≤ stF o) := by
  unfold fMix
  by_cases h : stF o ≤ stF n
  · have := part_pos (d := stF n - stF o) (by omega) (clamp_ge p) (clamp_le p); omega
  · have := part_neg (d := stF n - stF o) (by omega) (clamp_ge p) (clamp_le p); omega

end Go.Proofs.Ytkdfiaeghbkgnaa
