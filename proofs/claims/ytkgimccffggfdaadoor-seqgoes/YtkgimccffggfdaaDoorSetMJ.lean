/-
  Texts joined: some of those that the proofs of this seat stand on.
-/
import Derived.Below
import Derived.Test.YtkgimccffggfdaaDoorWorld
import Derived.Laws.BitsAllLaws
import Derived.Lib.LaidTab
import Derived.Deep.QuietTactic
import Derived.BigQuiet
/-
  THE PLAIN MATHEMATICS of sets of numbers from 0 to 31 as the bits of a number; no text of the program.
-/
namespace Go.Proofs.YtkgimccffggfdaaDoor
set_option linter.unusedVariables false
set_option linter.unusedSimpArgs false

/-- How many of the first k bits are there. -/
def cnt (S : Nat) : Nat → Nat
  | 0 => 0
  | k + 1 => cnt S k + (S.testBit k).toNat
theorem cnt_succ (S k : Nat) : cnt S (k + 1) = cnt S k + (S.testBit k).toNat := rfl
theorem cnt_le (S k : Nat) : cnt S k ≤ k := by
  induction k with
  | zero => exact Nat.le_refl _
  | succ k ih => rw [cnt_succ]; have := Bool.toNat_le (S.testBit k); omega
theorem cnt_congr {S T : Nat} (k : Nat) (h : ∀ j, j < k → S.testBit j = T.testBit j) : cnt S k = cnt T k := by
  induction k with
  | zero => rfl
  | succ k ih => rw [cnt_succ, cnt_succ, ih (fun j hj => h j (by omega)), h k (by omega)]
theorem cnt_split (S a b : Nat) : cnt S (a + b) = cnt S a + cnt (S / 2 ^ a) b := by
  induction b with
  | zero => rfl
  | succ b ih =>
    rw [← Nat.add_assoc, cnt_succ, cnt_succ, ih, Nat.testBit_div_two_pow]
    rw [Nat.add_comm b a]; omega
theorem cnt_flat (S a b : Nat) (h : ∀ j, a ≤ j → j < a + b → S.testBit j = false) : cnt S (a + b) = cnt S a := by
  induction b with
  | zero => rfl
  | succ b ih =>
    rw [← Nat.add_assoc, cnt_succ, ih (fun j h1 h2 => h j h1 (by omega)), h (a + b) (by omega) (by omega)]; rfl
theorem cnt_mod (S k : Nat) : cnt (S % 2 ^ k) k = cnt S k := cnt_congr k (fun j hj => by rw [Nat.testBit_mod_two_pow]; simp [hj])

/-- The least of the bits. -/
def lowN : Nat → Nat → Nat
  | 0, _ => 0
  | f + 1, S => if S % 2 = 1 then 0 else lowN f (S / 2) + 1
theorem lowN_spec (f : Nat) : ∀ S, 0 < S → S < 2 ^ f → lowN f S < f ∧ S.testBit (lowN f S) = true ∧ ∀ j, j < lowN f S → S.testBit j = false := by
  induction f with
  | zero => intro S h1 h2; simp at h2; omega
  | succ f ih =>
    intro S h1 h2
    unfold lowN
    split
    · rename_i h
      exact ⟨by omega, by simp [Nat.testBit_zero, h], fun j hj => by omega⟩
    · rename_i h
      obtain ⟨a, b, c⟩ := ih (S / 2) (by omega) (by rw [Nat.pow_succ] at h2; omega)
      refine ⟨by omega, by rw [Nat.testBit_succ]; exact b, fun j hj => ?_⟩
      cases j with
      | zero => simp [Nat.testBit_zero]; omega
      | succ j => rw [Nat.testBit_succ]; exact c j (by omega)
theorem low_unique {S i k : Nat} (h1 : S.testBit i = true) (h2 : ∀ j, j < i → S.testBit j = false) (h3 : S.testBit k = true) (h4 : ∀ j, j < k → S.testBit j = false) : i = k := by
  rcases Nat.lt_trichotomy i k with h | h | h
  · rw [h4 i h] at h1; cases h1
  · exact h
  · rw [h2 k h] at h3; cases h3

theorem and_two (x y : Nat) : x &&& y = 2 * (x / 2 &&& y / 2) + (x % 2) * (y % 2) := by
  have h1 : (x &&& y) / 2 = x / 2 &&& y / 2 := Nat.and_div_two
  have h2 : (x &&& y) % 2 = (x % 2) * (y % 2) := by
    have := Nat.testBit_and x y 0
    simp only [Nat.testBit_zero] at this
    have e := decide_eq_decide.1 (by rw [this, ← Bool.decide_and] : decide ((x &&& y) % 2 = 1) = decide (x % 2 = 1 ∧ y % 2 = 1))
    by_cases hh : x % 2 = 1 ∧ y % 2 = 1
    · rw [e.2 hh, hh.1, hh.2]
    · have hn : ¬ (x &&& y) % 2 = 1 := fun k => hh (e.1 k)
      have h0 : (x &&& y) % 2 = 0 := by omega
      rw [h0]
      rcases Nat.mod_two_eq_zero_or_one x with hx | hx <;> rcases Nat.mod_two_eq_zero_or_one y with hy | hy
      · rw [hx, hy]
      · rw [hx, hy]
      · rw [hx, hy]
      · exact absurd ⟨hx, hy⟩ hh
  omega
theorem and_rest (f : Nat) : ∀ a, a < 2 ^ f → a &&& (2 ^ f - 1 - a) = 0 := by
  induction f with
  | zero => intro a h; simp at h; subst h; rfl
  | succ f ih =>
    intro a h
    rw [Nat.pow_succ] at h ⊢
    have := ih (a / 2) (by omega)
    rw [and_two]
    have e : (2 ^ f * 2 - 1 - a) / 2 = 2 ^ f - 1 - a / 2 := by omega
    rw [e, this]
    rcases Nat.mod_two_eq_zero_or_one a with ha | ha
    · rw [ha]; omega
    · have : (2 ^ f * 2 - 1 - a) % 2 = 0 := by omega
      rw [this]; omega
/-- A number and its turned one: the least bit is left. -/
theorem and_neg (f : Nat) : ∀ S, 0 < S → S < 2 ^ f → S &&& (2 ^ f - S) = 2 ^ lowN f S := by
  induction f with
  | zero => intro S h1 h2; simp at h2; omega
  | succ f ih =>
    intro S h1 h2
    rw [Nat.pow_succ] at h2
    rw [and_two]
    unfold lowN
    split
    · rename_i h
      have e : (2 ^ (f + 1) - S) / 2 = 2 ^ f - 1 - S / 2 := by rw [Nat.pow_succ]; omega
      have e2 : (2 ^ (f + 1) - S) % 2 = 1 := by rw [Nat.pow_succ]; omega
      rw [e, e2, h, and_rest f (S / 2) (by omega)]
    · rename_i h
      have h0 : S % 2 = 0 := by omega
      have e : (2 ^ (f + 1) - S) / 2 = 2 ^ f - S / 2 := by rw [Nat.pow_succ]; omega
      rw [e, h0, ih (S / 2) (by omega) (by omega), Nat.pow_succ]; omega

/-- Two numbers that share no bit: joined is added. -/
theorem or_two (x y : Nat) : x ||| y = 2 * (x / 2 ||| y / 2) + (if x % 2 = 1 ∨ y % 2 = 1 then 1 else 0) := by
  have h1 : (x ||| y) / 2 = x / 2 ||| y / 2 := Nat.or_div_two
  have h2 : (x ||| y) % 2 = (if x % 2 = 1 ∨ y % 2 = 1 then 1 else 0) := by
    have := Nat.testBit_or x y 0
    simp only [Nat.testBit_zero] at this
    have e := decide_eq_decide.1 (by rw [this, ← Bool.decide_or] : decide ((x ||| y) % 2 = 1) = decide (x % 2 = 1 ∨ y % 2 = 1))
    split
    · rename_i h; exact e.2 h
    · rename_i h
      have : ¬ (x ||| y) % 2 = 1 := fun k => h (e.1 k)
      omega
  omega
theorem or_add : ∀ (n x y : Nat), x + y ≤ n → x &&& y = 0 → x ||| y = x + y := by
  intro n
  induction n with
  | zero => intro x y h _; obtain rfl : x = 0 := by omega
            obtain rfl : y = 0 := by omega
            rfl
  | succ n ih =>
    intro x y h e
    by_cases hz : x + y = 0
    · obtain rfl : x = 0 := by omega
      obtain rfl : y = 0 := by omega
      rfl
    rw [and_two] at e
    have e1 : x / 2 &&& y / 2 = 0 := by omega
    have e2 : (x % 2) * (y % 2) = 0 := by omega
    rw [or_two, ih (x / 2) (y / 2) (by omega) e1]
    rcases Nat.mod_two_eq_zero_or_one x with hx | hx <;> rcases Nat.mod_two_eq_zero_or_one y with hy | hy
    · rw [hx, hy, if_neg (by omega)]; omega
    · rw [hx, hy, if_pos (by omega)]; omega
    · rw [hx, hy, if_pos (by omega)]; omega
    · rw [hx, hy] at e2; omega

theorem and_pow (S i : Nat) (h : S.testBit i = false) : S &&& 2 ^ i = 0 := by
  apply Nat.eq_of_testBit_eq
  intro j
  rw [Nat.testBit_and, Nat.testBit_two_pow]
  by_cases e : i = j
  · subst e; simp [h]
  · simp [e]
theorem and_pow_yes (S i : Nat) (h : S.testBit i = true) : S &&& 2 ^ i = 2 ^ i := by
  apply Nat.eq_of_testBit_eq
  intro j
  rw [Nat.testBit_and, Nat.testBit_two_pow]
  by_cases e : i = j
  · subst e; simp [h]
  · simp [e]
theorem or_pow_no (S i : Nat) (h : S.testBit i = false) : S ||| 2 ^ i = S + 2 ^ i := or_add _ _ _ (Nat.le_refl _) (and_pow S i h)
theorem or_pow_yes (S i : Nat) (h : S.testBit i = true) : S ||| 2 ^ i = S := by
  apply Nat.eq_of_testBit_eq
  intro j
  rw [Nat.testBit_or, Nat.testBit_two_pow]
  by_cases e : i = j
  · subst e; simp [h]
  · simp [e]
/-- All 32 bits but one. -/
theorem but_bit (i j : Nat) (hi : i < 32) : (4294967295 - 2 ^ i).testBit j = (decide (j < 32) && !decide (i = j)) := by
  have h : 2 ^ i < 2 ^ 32 := Nat.pow_lt_pow_right (by omega) hi
  have := Nat.testBit_two_pow_sub_succ h j
  rw [Nat.testBit_two_pow] at this
  rw [← this]
  congr 1
  have : (2 : Nat) ^ 32 = 4294967296 := by decide
  omega
theorem lt_bit {S : Nat} (h : S < 4294967296) {j : Nat} (hj : S.testBit j = true) : j < 32 := by
  by_cases hh : j < 32
  · exact hh
  · have : S < 2 ^ j := Nat.lt_of_lt_of_le h (Nat.pow_le_pow_right (by omega) (by omega) : 2 ^ 32 ≤ 2 ^ j)
    rw [Nat.testBit_lt_two_pow this] at hj; cases hj
theorem without_bit (S i j : Nat) (hS : S < 4294967296) (hi : i < 32) : (S &&& (4294967295 - 2 ^ i)).testBit j = (S.testBit j && !decide (i = j)) := by
  rw [Nat.testBit_and, but_bit i j hi]
  cases h : S.testBit j with
  | false => simp
  | true => simp [lt_bit hS h]
theorem without_no (S i : Nat) (hS : S < 4294967296) (hi : i < 32) (h : S.testBit i = false) : S &&& (4294967295 - 2 ^ i) = S := by
  apply Nat.eq_of_testBit_eq
  intro j
  rw [without_bit S i j hS hi]
  by_cases e : i = j
  · subst e; simp [h]
  · simp [e]
theorem without_yes (S i : Nat) (hS : S < 4294967296) (hi : i < 32) (h : S.testBit i = true) : S &&& (4294967295 - 2 ^ i) = S - 2 ^ i := by
  have e : (S &&& (4294967295 - 2 ^ i)) ||| 2 ^ i = S := by
    apply Nat.eq_of_testBit_eq
    intro j
    rw [Nat.testBit_or, without_bit S i j hS hi, Nat.testBit_two_pow]
    by_cases e : i = j
    · subst e; simp [h]
    · simp [e]
  have hb : (S &&& (4294967295 - 2 ^ i)).testBit i = false := by rw [without_bit S i i hS hi]; simp
  rw [or_pow_no _ i hb] at e
  omega
theorem or_pow_lt (S i : Nat) (hS : S < 4294967296) (hi : i < 32) : S ||| 2 ^ i < 4294967296 :=
  Nat.or_lt_two_pow (n := 32) hS (Nat.pow_lt_pow_right (by omega) hi)
theorem without_le (S m : Nat) : S &&& m ≤ S := Nat.and_le_left

end Go.Proofs.YtkgimccffggfdaaDoor

/-
  THE CONTRACTS of the calls on sets: of package ring, of Go's own math/bits beneath it, and of the document's answer.
-/
namespace Go.Proofs.YtkgimccffggfdaaDoor
open Go.RowKit Go.Lib Go.Deep
set_option linter.unusedVariables false
set_option linter.unusedSimpArgs false

theorem pow_lt32 {i : Nat} (h : i < 32) : 2 ^ i < 4294967296 := by
  have h' : 2 ^ i < 2 ^ 32 := Nat.pow_lt_pow_right (by omega) h
  simpa using h'
theorem pow_int {i : Nat} (h : i < 32) : (2 : Int) ^ i % 4294967296 = ((2 ^ i : Nat) : Int) := by
  have := pow_lt32 h
  have e : (2 : Int) ^ i = ((2 ^ i : Nat) : Int) := by simp
  rw [e]
  generalize 2 ^ i = P at this ⊢
  omega

/-- What a set may have: the number's bit, none beyond. -/
def bitV (i : Int) : Nat := if 0 ≤ i ∧ i < 32 then 2 ^ i.toNat else 0
theorem bitV_lt (i : Int) : bitV i < 4294967296 := by
  unfold bitV; split
  · exact pow_lt32 (by omega)
  · omega
theorem bit_core (i : Nat) (w : World) (h : i < 32) : Calls Tryd.prog 106 #[.int .i64 i] w fun e w' => e = .returned (.int .u32 ((2 ^ i : Nat) : Int)) ∧ w' = w := by
  go_enter Tryd.func106, Tryd.ntmps106
  go_wp2
  go_ret
  exact ⟨ret_int (pow_int h), rfl⟩
theorem bit_no (i : Int) (w : World) (h : i < 0 ∨ 31 < i) : Calls Tryd.prog 106 #[.int .i64 i] w fun e w' => e = .returned (.int .u32 0) ∧ w' = w := by
  rcases h with h | h
  all_goals
    go_enter Tryd.func106, Tryd.ntmps106
    go_wp2
    go_ret
    exact ⟨rfl, rfl⟩
theorem bit_any (i : Int) (w : World) : Calls Tryd.prog 106 #[.int .i64 i] w fun e w' => e = .returned (.int .u32 ((bitV i : Nat) : Int)) ∧ w' = w := by
  unfold bitV
  by_cases h : 0 ≤ i ∧ i < 32
  · rw [if_pos h]
    obtain ⟨n, rfl⟩ : ∃ n : Nat, i = (n : Int) := ⟨i.toNat, by omega⟩
    exact bit_core n w (by omega)
  · rw [if_neg h]
    exact bit_no i w (by omega)

/-- Is i in S? -/
def hasB (S : Nat) (i : Int) : Bool := decide (0 ≤ i ∧ i < 32) && S.testBit i.toNat
/-- S with i; S without i. -/
def withV (S : Nat) (i : Int) : Nat := S ||| bitV i
def withoutV (S : Nat) (i : Int) : Nat := S &&& (4294967295 - bitV i)
theorem withV_lt {S : Nat} (h : S < 4294967296) (i : Int) : withV S i < 4294967296 := Nat.or_lt_two_pow (n := 32) h (bitV_lt i)
theorem withoutV_lt {S : Nat} (h : S < 4294967296) (i : Int) : withoutV S i < 4294967296 := Nat.lt_of_le_of_lt Nat.and_le_left h
theorem has_eq (S : Nat) (i : Int) : (((S &&& bitV i : Nat) : Int) != 0) = hasB S i := by
  unfold hasB bitV
  by_cases h : 0 ≤ i ∧ i < 32
  · rw [if_pos h, decide_eq_true h, Bool.true_and]
    have hp : 0 < 2 ^ i.toNat := Nat.two_pow_pos _
    cases hb : S.testBit i.toNat with
    | false => rw [and_pow S _ hb]; rfl
    | true =>
      rw [and_pow_yes S _ hb, bne_iff_ne]
      exact_mod_cast Nat.ne_of_gt hp
  · rw [if_neg h, decide_eq_false h, Nat.and_zero]; rfl

theorem has_any (S : Nat) (i : Int) (w : World) (hS : S < 4294967296) : Calls Tryd.prog 95 #[.int .u32 S, .int .i64 i] w fun e w' => e = .returned (.bool (hasB S i)) ∧ w' = w := by
  have hand := u32_and_nat S (bitV i) hS (bitV_lt i)
  go_enter Tryd.func95, Tryd.ntmps95
  go_wp2_with (go_at_call 106; refine (bit_any _ _).mono ?_; rintro e w ⟨rfl, rfl⟩)
  go_ret
  exact ⟨ret_bool (has_eq S i), rfl⟩
theorem without_any (S : Nat) (i : Int) (w : World) (hS : S < 4294967296) : Calls Tryd.prog 109 #[.int .u32 S, .int .i64 i] w fun e w' => e = .returned (.int .u32 ((withoutV S i : Nat) : Int)) ∧ w' = w := by
  have han := u32_andNot_nat S (bitV i) hS (bitV_lt i)
  go_enter Tryd.func109, Tryd.ntmps109
  go_wp2_with (go_at_call 106; refine (bit_any _ _).mono ?_; rintro e w ⟨rfl, rfl⟩)
  go_ret
  exact ⟨rfl, rfl⟩

/-! ### The document's -/
theorem has_ref (S i : Nat) : ((((S : Int) / 2 ^ i).tmod 2 == 1) : Bool) = S.testBit i := by
  have e : (S : Int) / 2 ^ i = ((S / 2 ^ i : Nat) : Int) := by simp
  rw [e, Int.tmod_eq_emod_of_nonneg (Int.natCast_nonneg _), Nat.testBit_eq_decide_div_mod_eq, Bool.eq_iff_iff]
  simp; omega
theorem rhas_core (S i : Nat) (w : World) (hS : S < 4294967296) (h : i < 32) : Calls Tryd.prog 76 #[.int .u32 S, .int .i64 i] w fun e w' => e = .returned (.bool (S.testBit i)) ∧ w' = w := by
  go_enter Tryd.func76, Tryd.ntmps76
  go_wp2
  go_ret
  exact ⟨ret_bool (has_ref S i), rfl⟩
theorem rhas_no (S : Nat) (i : Int) (w : World) (h : i < 0 ∨ 31 < i) : Calls Tryd.prog 76 #[.int .u32 S, .int .i64 i] w fun e w' => e = .returned (.bool false) ∧ w' = w := by
  rcases h with h | h
  · have h1 : decide (0 ≤ i) = false := by simp; omega
    go_enter Tryd.func76, Tryd.ntmps76
    go_wp2
    go_ret
    exact ⟨rfl, rfl⟩
  · have h0 : 0 ≤ i := by omega
    have h1 : decide (i < 32) = false := by simp; omega
    go_enter Tryd.func76, Tryd.ntmps76
    go_wp2
    go_ret
    exact ⟨rfl, rfl⟩
theorem rhas_any (S : Nat) (i : Int) (w : World) (hS : S < 4294967296) : Calls Tryd.prog 76 #[.int .u32 S, .int .i64 i] w fun e w' => e = .returned (.bool (hasB S i)) ∧ w' = w := by
  unfold hasB
  by_cases h : 0 ≤ i ∧ i < 32
  · rw [decide_eq_true h, Bool.true_and]
    obtain ⟨n, rfl⟩ : ∃ n : Nat, i = (n : Int) := ⟨i.toNat, by omega⟩
    exact rhas_core S n w hS (by omega)
  · rw [decide_eq_false h, Bool.false_and]
    exact rhas_no S i w (by omega)
theorem has_in {S n : Nat} (h : n < 32) : hasB S (n : Int) = S.testBit n := by
  unfold hasB; rw [decide_eq_true (by omega)]; simp
theorem has_out {S : Nat} {i : Int} (h : ¬ (0 ≤ i ∧ i < 32)) : hasB S i = false := by unfold hasB; rw [decide_eq_false h]; rfl
theorem rwith_yes (S : Nat) (i : Int) (w : World) (hS : S < 4294967296) (h : ¬ (0 ≤ i ∧ i < 32) ∨ hasB S i = true) : Calls Tryd.prog 77 #[.int .u32 S, .int .i64 i] w fun e w' => e = .returned (.int .u32 (S : Int)) ∧ w' = w := by
  by_cases h0 : 0 ≤ i ∧ i < 32
  · obtain ⟨h1, h2⟩ := h0
    have h3 : hasB S i = true := by rcases h with h | h; exact absurd ⟨h1, h2⟩ h; exact h
    clear h
    go_enter Tryd.func77, Tryd.ntmps77
    go_wp2_with (go_at_call 76; refine (rhas_any _ _ _ hS).mono ?_; rintro e w ⟨rfl, rfl⟩; rw [h3])
    go_ret
    exact ⟨rfl, rfl⟩
  · rcases (show i < 0 ∨ 31 < i by omega) with h1 | h1
    all_goals
      clear h h0
      go_enter Tryd.func77, Tryd.ntmps77
      go_wp2_with fail
      go_ret
      exact ⟨rfl, rfl⟩
theorem rwith_no (S n : Nat) (w : World) (hS : S < 4294967296) (hn : n < 32) (h : S.testBit n = false) : Calls Tryd.prog 77 #[.int .u32 S, .int .i64 n] w fun e w' => e = .returned (.int .u32 ((S + 2 ^ n : Nat) : Int)) ∧ w' = w := by
  have h3 : hasB S (n : Int) = false := by rw [has_in hn]; exact h
  have hp := pow_int hn
  have hlt : S + 2 ^ n < 4294967296 := by rw [← or_pow_no S n h]; exact or_pow_lt S n hS hn
  generalize 2 ^ n = P at hp hlt ⊢
  go_enter Tryd.func77, Tryd.ntmps77
  go_wp2_with (go_at_call 76; refine (rhas_any _ _ _ hS).mono ?_; rintro e w ⟨rfl, rfl⟩; rw [h3])
  go_ret
  exact ⟨ret_int (by omega), rfl⟩
theorem with_no {S : Nat} {i : Int} (h : ¬ (0 ≤ i ∧ i < 32)) : withV S i = S := by unfold withV bitV; rw [if_neg h, Nat.or_zero]
theorem with_in {S n : Nat} (h : n < 32) : withV S (n : Int) = S ||| 2 ^ n := by unfold withV bitV; rw [if_pos (by omega)]; simp
theorem without_out {S : Nat} {i : Int} (hS : S < 4294967296) (h : ¬ (0 ≤ i ∧ i < 32)) : withoutV S i = S := by
  unfold withoutV bitV
  rw [if_neg h, Nat.sub_zero]
  have : S &&& (2 ^ 32 - 1) = S % 2 ^ 32 := Nat.and_two_pow_sub_one_eq_mod S 32
  have e : (2 : Nat) ^ 32 = 4294967296 := by decide
  rw [e] at this
  rw [this]
  exact Nat.mod_eq_of_lt hS
theorem without_in {S n : Nat} (h : n < 32) : withoutV S (n : Int) = S &&& (4294967295 - 2 ^ n) := by unfold withoutV bitV; rw [if_pos (by omega)]; simp
theorem rwith_any (S : Nat) (i : Int) (w : World) (hS : S < 4294967296) : Calls Tryd.prog 77 #[.int .u32 S, .int .i64 i] w fun e w' => e = .returned (.int .u32 ((withV S i : Nat) : Int)) ∧ w' = w := by
  by_cases h : 0 ≤ i ∧ i < 32
  · obtain ⟨n, rfl⟩ : ∃ n : Nat, i = (n : Int) := ⟨i.toNat, by omega⟩
    have hn : n < 32 := by omega
    rw [with_in hn]
    cases hb : S.testBit n with
    | true => rw [or_pow_yes S n hb]; exact rwith_yes S n w hS (.inr (by rw [has_in hn]; exact hb))
    | false => rw [or_pow_no S n hb]; exact rwith_no S n w hS hn hb
  · rw [with_no h]; exact rwith_yes S i w hS (.inl h)
theorem rcount_any (S : Nat) (w : World) (hS : S < 4294967296) : Calls Tryd.prog 78 #[.int .u32 S] w fun e w' => e = .returned (.int .i64 ((cnt S 32 : Nat) : Int)) ∧ w' = w := by
  go_enter Tryd.func78, Tryd.ntmps78
  go_wp2_with fail
  go_loop [3, 4] (fun c i => ∃ k : Nat, k ≤ 32 ∧ i = .int .i64 k ∧ c = .int .i64 ((cnt S k : Nat) : Int)) (fun _ i => 32 - (intOf i).toNat)
  case atStart => exact ⟨0, Nat.zero_le _, rfl, rfl⟩
  case round =>
    obtain ⟨k, hk, rfl, rfl⟩ := hrel
    have hc := cnt_le S k
    by_cases hlt : k < 32
    · have HS : Hid (cnt S (k + 1) = cnt S k + (S.testBit k).toNat) := cnt_succ S k
      generalize cnt S k = C at *
      cases hb : S.testBit k with
      | true =>
        have h3 : hasB S (k : Int) = true := by rw [has_in hlt]; exact hb
        rw [hb] at HS
        go_wp2_with (go_at_call 76; refine (rhas_any _ _ _ hS).mono ?_; rintro e w ⟨rfl, rfl⟩; rw [h3])
        go_round
        case rel => exact ⟨k + 1, by omega, by go_num, by rw [HS.out]; go_num⟩
        case measure => simp [intOf]; omega
      | false =>
        have h3 : hasB S (k : Int) = false := by rw [has_in hlt]; exact hb
        rw [hb] at HS
        go_wp2_with (go_at_call 76; refine (rhas_any _ _ _ hS).mono ?_; rintro e w ⟨rfl, rfl⟩; rw [h3])
        go_round
        case rel => exact ⟨k + 1, by omega, by go_num, by rw [HS.out]; go_num⟩
        case measure => simp [intOf]; omega
    · obtain rfl : k = 32 := by omega
      go_wp2_with fail
      go_ret
      exact ⟨rfl, rfl⟩

/-- The least one, -1 if there is none. -/
def leastV (S : Nat) : Int := if S = 0 then -1 else (lowN 32 S : Int)
end Go.Proofs.YtkgimccffggfdaaDoor

/-
  THE CONTRACTS of Go's math/bits.OnesCount32 and TrailingZeros32, and of Count and Least over them.
-/
namespace Go.Proofs.YtkgimccffggfdaaDoor
open Go.RowKit Go.Lib Go.Deep
set_option linter.unusedVariables false
set_option linter.unusedSimpArgs false

/-- How many bits a byte has, as the string that Go keeps. -/
def popL : List UInt8 := (List.range 256).map fun n => UInt8.ofNat (cnt n 8)
def popS : ByteArray := ByteArray.mk popL.toArray
theorem popS_size : popS.size = 256 := by show popL.toArray.size = 256; simp [popL]
theorem popS_get (n : Nat) (h : n < popS.size) : (popS[n]'h).toNat = cnt n 8 := by
  have hn : n < 256 := by rw [popS_size] at h; exact h
  show (popL.toArray[n]'_).toNat = _
  have := cnt_le n 8
  simp [popL]
  omega
theorem hide_pop (S : ByteArray) (hS : S = popS) (l : List UInt8) (h : l = popL) : ByteArray.mk l.toArray = S := by rw [h, hS]; rfl
/-- The number of bits of a byte, of an integer. -/
def popV (x : Int) : Int := (cnt x.toNat 8 : Int)
theorem popV_bd (x : Int) : 0 ≤ popV x ∧ popV x ≤ 8 := by unfold popV; have := cnt_le x.toNat 8; omega
theorem low8 (n : Int) (h0 : 0 ≤ n) (h1 : n < 4294967296) : bits .and .u32 n 255 = n % 256 := by
  have h := u32_and n 255 h0 h1 (by omega) (by omega)
  have e : n.toNat &&& 255 = n.toNat % 2 ^ 8 := Nat.and_two_pow_sub_one_eq_mod n.toNat 8
  have e2 : (255 : Int).toNat = 255 := rfl
  rw [h, e2, e]
  omega
/-- The four bytes. -/
theorem four (S : Nat) (hS : S < 4294967296) : popV ((S : Int) / 16777216) + popV ((S : Int) / 65536 % 256) + popV ((S : Int) / 256 % 256) + popV ((S : Int) % 256) = ((cnt S 32 : Nat) : Int) := by
  have e0 : cnt S 32 = cnt S 8 + (cnt (S / 256) 8 + (cnt (S / 65536) 8 + cnt (S / 16777216) 8)) := by
    rw [show 32 = 8 + 24 from rfl, cnt_split, show 24 = 8 + 16 from rfl, cnt_split, show 16 = 8 + 8 from rfl, cnt_split, Nat.div_div_eq_div_mul, Nat.div_div_eq_div_mul]
  have m : ∀ x : Nat, cnt (x % 256) 8 = cnt x 8 := fun x => cnt_mod x 8
  unfold popV
  have t1 : ((S : Int) / 16777216).toNat = S / 16777216 := by omega
  have t2 : ((S : Int) / 65536 % 256).toNat = S / 65536 % 256 := by omega
  have t3 : ((S : Int) / 256 % 256).toNat = S / 256 % 256 := by omega
  have t4 : ((S : Int) % 256).toNat = S % 256 := by omega
  rw [t1, t2, t3, t4, m, m, m, e0]
  omega

theorem popV_nat (x : Int) : ((cnt x.toNat 8 : Nat) : Int) = popV x := rfl
/-! ### The least bit, by Go's table -/
def deB : List Int := [0, 1, 28, 2, 29, 14, 24, 3, 30, 22, 20, 15, 25, 17, 4, 8, 31, 27, 13, 23, 21, 19, 16, 7, 26, 12, 18, 6, 11, 5, 10, 9]
/-- The table lies in the program's first variable. -/
def Tabb (w : World) : Prop := ∀ i, i < 32 → w.cell? ⟨0, i, none⟩ = some (.int .u8 (deB.getD i 0))
theorem Tabb.lt {w : World} (h : Tabb w) : 0 < w.heap.size := by
  by_cases hh : 0 < w.heap.size
  · exact hh
  · have hn : w.heap[0]? = none := Array.getElem?_eq_none (by omega)
    have := h 0 (by omega)
    simp [World.cell?, hn] at this
theorem Tabb.keptR {w w' : World} {r : Option Nat} (h : Tabb w) (k : Kept w w' r) (hr : some 0 ≠ r) : Tabb w' := fun i hi =>
  (World.cell?_of_block (w := w) (a := ⟨0, i, none⟩) (k.block 0 h.lt hr)).trans (h i hi)
theorem Tabb.kept {w w' : World} (h : Tabb w) (k : Kept w w' none) : Tabb w' := h.keptR k (by simp)
/-- Where the least bit's place stands in the table. -/
def spot (k : Nat) : Nat := 2 ^ k * 125613361 % 4294967296 / 134217728
theorem spot_lt (k : Nat) : spot k < 32 := by unfold spot; omega
theorem spot_tab : ∀ k, k < 32 → deB.getD (spot k) 0 = (k : Int) := by decide +kernel
theorem zeros_any (S : Nat) (w : World) (hS : S < 4294967296) (h0 : 0 < S) (ht : Tabb w) : Calls Tryd.prog 73 #[.int .u32 S] w fun e w' => e = .returned (.int .i64 ((lowN 32 S : Nat) : Int)) ∧ w' = w := by
  have hk := (lowN_spec 32 S h0 (by simpa using hS)).1
  have hand : bits .and .u32 (S : Int) ((4294967296 - S : Nat) : Int) = ((2 ^ lowN 32 S : Nat) : Int) := by
    rw [u32_and_nat S _ hS (by omega)]
    have := and_neg 32 S h0 (by simpa using hS)
    rw [← this]
  have hsp := spot_tab _ hk
  have hlt := spot_lt (lowN 32 S)
  have hcell := ht (spot (lowN 32 S)) hlt
  rw [hsp] at hcell
  have hneg : -(S : Int) % 4294967296 = ((4294967296 - S : Nat) : Int) := by omega
  have hoff : (bits BinOp.and IntKind.u32 (S : Int) (-(S : Int) % 4294967296) * 125613361 % 4294967296 / 134217728).toNat = spot (lowN 32 S) := by
    rw [hneg, hand]
    unfold spot
    generalize 2 ^ lowN 32 S = P
    have e : (P : Int) * 125613361 % 4294967296 / 134217728 = ((P * 125613361 % 4294967296 / 134217728 : Nat) : Int) := by simp
    rw [e]
    exact Int.toNat_natCast _
  have hcell' : w.cell? ⟨0, (bits BinOp.and IntKind.u32 (S : Int) (-(S : Int) % 4294967296) * 125613361 % 4294967296 / 134217728).toNat, none⟩ = some (.int .u8 ((lowN 32 S : Nat) : Int)) := by rw [hoff]; exact hcell
  clear hsp hlt hcell hneg hoff hand ht
  generalize lowN 32 S = K at *
  go_enter Tryd.func73, Tryd.ntmps73
  go_wp2
  go_ret
  exact ⟨rfl, rfl⟩
theorem least_any (S : Nat) (w : World) (hS : S < 4294967296) (ht : Tabb w) : Calls Tryd.prog 108 #[.int .u32 S] w fun e w' => e = .returned (.int .i64 (leastV S)) ∧ w' = w := by
  unfold leastV
  by_cases h : S = 0
  · rw [if_pos h]
    subst h
    go_enter Tryd.func108, Tryd.ntmps108
    go_wp2_with fail
    go_ret
    exact ⟨rfl, rfl⟩
  · rw [if_neg h]
    have h0 : 0 < S := by omega
    have HT : Hid (Tabb w) := ht
    clear ht
    go_enter Tryd.func108, Tryd.ntmps108
    go_wp2_with (go_at_call 73; refine (zeros_any _ _ hS h0 HT.out).mono ?_; rintro e w ⟨rfl, rfl⟩)
    go_ret
    exact ⟨rfl, rfl⟩

end Go.Proofs.YtkgimccffggfdaaDoor

