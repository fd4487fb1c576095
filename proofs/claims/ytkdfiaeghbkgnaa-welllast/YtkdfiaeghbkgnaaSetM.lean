/-
  THE PLAIN MATHEMATICS of sets of numbers from 0 to 31 as the bits of a number; no text of the program.
-/
import Derived.Below
namespace Go.Proofs.Ytkdfiaeghbkgnaa
set_option linter.unusedVariables false
set_option linter.unusedSimpArgs false

/-- How many of the first k bits are there. -/
def cnt (S : Nat) : Nat → Nat
  | 0 => 0
  | k + 1 => cnt S k + (S.testBit k).toNat
theorem cnt_succ (S k : Nat) : cnt S (k + 1) = cnt S k + (S.testBit k).toNat := rfl
theorem cnt_le (S k : Nat) : cnt S k ≤ k := by
  induction k with
  | zero => exact Nat.le_refl _
  | succ k ih => rw [cnt_succ]; have := Bool.toNat_le (S.testBit k); omega
theorem cnt_congr {S T : Nat} (k : Nat) (h : ∀ j, j < k → S.testBit j = T.testBit j) : cnt S k = cnt T k := by
  induction k with
  | zero => rfl
  | succ k ih => rw [cnt_succ, cnt_succ, ih (fun j hj => h j (by omega)), h k (by omega)]
theorem cnt_split (S a b : Nat) : cnt S (a + b) = cnt S a + cnt (S / 2 ^ a) b := by
  induction b with
  | zero => rfl
  | succ b ih =>
    rw [← Nat.add_assoc, cnt_succ, cnt_succ, ih, Nat.testBit_div_two_pow]
    rw [Nat.add_comm b a]; omega
theorem cnt_flat (S a b : Nat) (h : ∀ j, a ≤ j → j < a + b → S.testBit j = false) : cnt S (a + b) = cnt S a := by
  induction b with
  | zero => rfl
  | succ b ih =>
    rw [← Nat.add_assoc, cnt_succ, ih (fun j h1 h2 => h j h1 (by omega)), h (a + b) (by omega) (by omega)]; rfl
theorem cnt_mod (S k : Nat) : cnt (S % 2 ^ k) k = cnt S k := cnt_congr k (fun j hj => by rw [Nat.testBit_mod_two_pow]; simp [hj])

/-- The least of the bits. -/
def lowN : Nat → Nat → Nat
  | 0, _ => 0
  | f + 1, S => if S % 2 = 1 then 0 else lowN f (S / 2) + 1
theorem lowN_spec (f : Nat) : ∀ S, 0 < S → S < 2 ^ f → lowN f S < f ∧ S.testBit (lowN f S) = true ∧ ∀ j, j < lowN f S → S.testBit j = false := by
  induction f with
  | zero => intro S h1 h2; simp at h2; omega
  | succ f ih =>
    intro S h1 h2
    unfold lowN
    split
    · rename_i h
      exact ⟨by omega, by simp [Nat.testBit_zero, h], fun j hj => by omega⟩
    · rename_i h
      obtain ⟨a, b, c⟩ := ih (S / 2) (by omega) (by rw [Nat.pow_succ] at h2; omega)
      refine ⟨by omega, by rw [Nat.testBit_succ]; exact b, fun j hj => ?_⟩
      cases j with
      | zero => simp [Nat.testBit_zero]; omega
      | succ j => rw [Nat.testBit_succ]; exact c j (by omega)
theorem low_unique {S i k : Nat} (h1 : S.testBit i = true) (h2 : ∀ j, j < i → S.testBit j = false) (h3 : S.testBit k = true) (h4 : ∀ j, j < k → S.testBit j = false) : i = k := by
  rcases Nat.lt_trichotomy i k with h | h | h
  · rw [h4 i h] at h1; cases h1
  · exact h
  · rw [h2 k h] at h3; cases h3

theorem and_two (x y : Nat) : x &&& y = 2 * (x / 2 &&& y / 2) + (x % 2) * (y % 2) := by
  have h1 : (x &&& y) / 2 = x / 2 &&& y / 2 := Nat.and_div_two
  have h2 : (x &&& y) % 2 = (x % 2) * (y % 2) := by
    have := Nat.testBit_and x y 0
    simp only [Nat.testBit_zero] at this
    have e := decide_eq_decide.1 (by rw [this, ← Bool.decide_and] : decide ((x &&& y) % 2 = 1) = decide (x % 2 = 1 ∧ y % 2 = 1))
    by_cases hh : x % 2 = 1 ∧ y % 2 = 1
    · rw [e.2 hh, hh.1, hh.2]
    · have hn : ¬ (x &&& y) % 2 = 1 := fun k => hh (e.1 k)
      have h0 : (x &&& y) % 2 = 0 := by omega
      rw [h0]
      rcases Nat.mod_two_eq_zero_or_one x with hx | hx <;> rcases Nat.mod_two_eq_zero_or_one y with hy | hy
      · rw [hx, hy]
      · rw [hx, hy]
      · rw [hx, hy]
      · exact absurd ⟨hx, hy⟩ hh
  omega
theorem and_rest (f : Nat) : ∀ a, a < 2 ^ f → a &&& (2 ^ f - 1 - a) = 0 := by
  induction f with
  | zero => intro a h; simp at h; subst h; rfl
  | succ f ih =>
    intro a h
    rw [Nat.pow_succ] at h ⊢
    have := ih (a / 2) (by omega)
    rw [and_two]
    have e : (2 ^ f * 2 - 1 - a) / 2 = 2 ^ f - 1 - a / 2 := by omega
    rw [e, this]
    rcases Nat.mod_two_eq_zero_or_one a with ha | ha
    · rw [ha]; omega
    · have : (2 ^ f * 2 - 1 - a) % 2 = 0 := by omega
      rw [this]; omega
/-- A number and its turned one: the least bit is left. -/
theorem and_neg (f : Nat) : ∀ S, 0 < S → S < 2 ^ f → S &&& (2 ^ f - S) = 2 ^ lowN f S := by
  induction f with
  | zero => intro S h1 h2; simp at h2; omega
  | succ f ih =>
    intro S h1 h2
    rw [Nat.pow_succ] at h2
    rw [and_two]
    unfold lowN
    split
    · rename_i h
      have e : (2 ^ (f + 1) - S) / 2 = 2 ^ f - 1 - S / 2 := by rw [Nat.pow_succ]; omega
      have e2 : (2 ^ (f + 1) - S) % 2 = 1 := by rw [Nat.pow_succ]; omega
      rw [e, e2, h, and_rest f (S / 2) (by omega)]
    · rename_i h
      have h0 : S % 2 = 0 := by omega
      have e : (2 ^ (f + 1) - S) / 2 = 2 ^ f - S / 2 := by rw [Nat.pow_succ]; omega
      rw [e, h0, ih (S / 2) (by omega) (by omega), Nat.pow_succ]; omega

/-- Two numbers that share no bit: joined is added. -/
theorem or_two (x y : Nat) : x ||| y = 2 * (x / 2 ||| y / 2) + (if x % 2 = 1 ∨ y % 2 = 1 then 1 else 0) := by
  have h1 : (x ||| y) / 2 = x / 2 ||| y / 2 := Nat.or_div_two
  have h2 : (x ||| y) % 2 = (if x % 2 = 1 ∨ y % 2 = 1 then 1 else 0) := by
    have := Nat.testBit_or x y 0
    simp only [Nat.testBit_zero] at this
    have e := decide_eq_decide.1 (by rw [this, ← Bool.decide_or] : decide ((x ||| y) % 2 = 1) = decide (x % 2 = 1 ∨ y % 2 = 1))
    split
    · rename_i h; exact e.2 h
    · rename_i h
      have : ¬ (x ||| y) % 2 = 1 := fun k => h (e.1 k)
      omega
  omega
theorem or_add : ∀ (n x y : Nat), x + y ≤ n → x &&& y = 0 → x ||| y = x + y := by
  intro n
  induction n with
  | zero => intro x y h _; obtain rfl : x = 0 := by omega
            obtain rfl : y = 0 := by omega
            rfl
  | succ n ih =>
    intro x y h e
    by_cases hz : x + y = 0
    · obtain rfl : x = 0 := by omega
      obtain rfl : y = 0 := by omega
      rfl
    rw [and_two] at e
    have e1 : x / 2 &&& y / 2 = 0 := by omega
    have e2 : (x % 2) * (y % 2) = 0 := by omega
    rw [or_two, ih (x / 2) (y / 2) (by omega) e1]
    rcases Nat.mod_two_eq_zero_or_one x with hx | hx <;> rcases Nat.mod_two_eq_zero_or_one y with hy | hy
    · rw [hx, hy, if_neg (by omega)]; omega
    · rw [hx, hy, if_pos (by omega)]; omega
    · rw [hx, hy, if_pos (by omega)]; omega
    · rw [hx, hy] at e2; omega

theorem and_pow (S i : Nat) (h : S.testBit i = false) : S &&& 2 ^ i = 0 := by
  apply Nat.eq_of_testBit_eq
  intro j
  rw [Nat.testBit_and, Nat.testBit_two_pow]
  by_cases e : i = j
  · subst e; simp [h]
  · simp [e]
theorem and_pow_yes (S i : Nat) (h : S.testBit i = true) : S &&& 2 ^ i = 2 ^ i := by
  apply Nat.eq_of_testBit_eq
  intro j
  rw [Nat.testBit_and, Nat.testBit_two_pow]
  by_cases e : i = j
  · subst e; simp [h]
  · simp [e]
theorem or_pow_no (S i : Nat) (h : S.testBit i = false) : S ||| 2 ^ i = S + 2 ^ i := or_add _ _ _ (Nat.le_refl _) (and_pow S i h)
theorem or_pow_yes (S i : Nat) (h : S.testBit i = true) : S ||| 2 ^ i = S := by
  apply Nat.eq_of_testBit_eq
  intro j
  rw [Nat.testBit_or, Nat.testBit_two_pow]
  by_cases e : i = j
  · subst e; simp [h]
  · simp [e]
/-- All 32 bits but one. -/
theorem but_bit (i j : Nat) (hi : i < 32) : (4294967295 - 2 ^ i).testBit j = (decide (j < 32) && !decide (i = j)) := by
  have h : 2 ^ i < 2 ^ 32 := Nat.pow_lt_pow_right (by omega) hi
  have := Nat.testBit_two_pow_sub_succ h j
  rw [Nat.testBit_two_pow] at this
  rw [← this]
  congr 1
  have : (2 : Nat) ^ 32 = 4294967296 := by decide
  omega
theorem lt_bit {S : Nat} (h : S < 4294967296) {j : Nat} (hj : S.testBit j = true) : j < 32 := by
  by_cases hh : j < 32
  · exact hh
  · have : S < 2 ^ j := Nat.lt_of_lt_of_le h (Nat.pow_le_pow_right (by omega) (by omega) : 2 ^ 32 ≤ 2 ^ j)
    rw [Nat.testBit_lt_two_pow this] at hj; cases hj
theorem without_bit (S i j : Nat) (hS : S < 4294967296) (hi : i < 32) : (S &&& (4294967295 - 2 ^ i)).testBit j = (S.testBit j && !decide (i = j)) := by
  rw [Nat.testBit_and, but_bit i j hi]
  cases h : S.testBit j with
  | false => simp
  | true => simp [lt_bit hS h]
theorem without_no (S i : Nat) (hS : S < 4294967296) (hi : i < 32) (h : S.testBit i = false) : S &&& (4294967295 - 2 ^ i) = S := by
  apply Nat.eq_of_testBit_eq
  intro j
  rw [without_bit S i j hS hi]
  by_cases e : i = j
  · subst e; simp [h]
  · simp [e]
theorem without_yes (S i : Nat) (hS : S < 4294967296) (hi : i < 32) (h : S.testBit i = true) : S &&& (4294967295 - 2 ^ i) = S - 2 ^ i := by
  have e : (S &&& (4294967295 - 2 ^ i)) ||| 2 ^ i = S := by
    apply Nat.eq_of_testBit_eq
    intro j
    rw [Nat.testBit_or, without_bit S i j hS hi, Nat.testBit_two_pow]
    by_cases e : i = j
    · subst e; simp [h]
    · simp [e]
  have hb : (S &&& (4294967295 - 2 ^ i)).testBit i = false := by rw [without_bit S i i hS hi]; simp
  rw [or_pow_no _ i hb] at e
  omega
theorem or_pow_lt (S i : Nat) (hS : S < 4294967296) (hi : i < 32) : S ||| 2 ^ i < 4294967296 :=
  Nat.or_lt_two_pow (n := 32) hS (Nat.pow_lt_pow_right (by omega) hi)
theorem without_le (S m : Nat) : S &&& m ≤ S := Nat.and_le_left

end Go.Proofs.Ytkdfiaeghbkgnaa
