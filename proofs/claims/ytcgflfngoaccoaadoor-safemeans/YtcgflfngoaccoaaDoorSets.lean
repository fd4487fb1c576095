/-
  THE CONTRACTS of the calls on sets: of package ring, of Go's own math/bits beneath it, and of the document's answer.
-/
import Derived.Test.YtcgflfngoaccoaaDoorWorld
import Derived.Test.YtcgflfngoaccoaaDoorSetM
import Derived.Laws.BitsAllLaws
namespace Go.Proofs.YtcgflfngoaccoaaDoor
open Go.RowKit Go.Lib Go.Deep
set_option linter.unusedVariables false
set_option linter.unusedSimpArgs false

theorem pow_lt32 {i : Nat} (h : i < 32) : 2 ^ i < 4294967296 := by
  have h' : 2 ^ i < 2 ^ 32 := Nat.pow_lt_pow_right (by omega) h
  simpa using h'
theorem pow_int {i : Nat} (h : i < 32) : (2 : Int) ^ i % 4294967296 = ((2 ^ i : Nat) : Int) := by
  have := pow_lt32 h
  have e : (2 : Int) ^ i = ((2 ^ i : Nat) : Int) := by simp
  rw [e]
  generalize 2 ^ i = P at this ⊢
  omega

/-- What a set may have: the number's bit, none beyond. -/
def bitV (i : Int) : Nat := if 0 ≤ i ∧ i < 32 then 2 ^ i.toNat else 0
theorem bitV_lt (i : Int) : bitV i < 4294967296 := by
  unfold bitV; split
  · exact pow_lt32 (by omega)
  · omega
theorem bit_core (i : Nat) (w : World) (h : i < 32) : Calls Tryd.prog 54 #[.int .i64 i] w fun e w' => e = .returned (.int .u32 ((2 ^ i : Nat) : Int)) ∧ w' = w := by
  go_enter Tryd.func54, Tryd.ntmps54
  go_wp2
  go_ret
  exact ⟨ret_int (pow_int h), rfl⟩
theorem bit_no (i : Int) (w : World) (h : i < 0 ∨ 31 < i) : Calls Tryd.prog 54 #[.int .i64 i] w fun e w' => e = .returned (.int .u32 0) ∧ w' = w := by
  rcases h with h | h
  all_goals
    go_enter Tryd.func54, Tryd.ntmps54
    go_wp2
    go_ret
    exact ⟨rfl, rfl⟩
theorem bit_any (i : Int) (w : World) : Calls Tryd.prog 54 #[.int .i64 i] w fun e w' => e = .returned (.int .u32 ((bitV i : Nat) : Int)) ∧ w' = w := by
  unfold bitV
  by_cases h : 0 ≤ i ∧ i < 32
  · rw [if_pos h]
    obtain ⟨n, rfl⟩ : ∃ n : Nat, i = (n : Int) := ⟨i.toNat, by omega⟩
    exact bit_core n w (by omega)
  · rw [if_neg h]
    exact bit_no i w (by omega)

/-- Is i in S? -/
def hasB (S : Nat) (i : Int) : Bool := decide (0 ≤ i ∧ i < 32) && S.testBit i.toNat
/-- S with i; S without i. -/
def withV (S : Nat) (i : Int) : Nat := S ||| bitV i
def withoutV (S : Nat) (i : Int) : Nat := S &&& (4294967295 - bitV i)
theorem withV_lt {S : Nat} (h : S < 4294967296) (i : Int) : withV S i < 4294967296 := Nat.or_lt_two_pow (n := 32) h (bitV_lt i)
theorem withoutV_lt {S : Nat} (h : S < 4294967296) (i : Int) : withoutV S i < 4294967296 := Nat.lt_of_le_of_lt Nat.and_le_left h
theorem has_eq (S : Nat) (i : Int) : (((S &&& bitV i : Nat) : Int) != 0) = hasB S i := by
  unfold hasB bitV
  by_cases h : 0 ≤ i ∧ i < 32
  · rw [if_pos h, decide_eq_true h, Bool.true_and]
    have hp : 0 < 2 ^ i.toNat := Nat.two_pow_pos _
    cases hb : S.testBit i.toNat with
    | false => rw [and_pow S _ hb]; rfl
    | true =>
      rw [and_pow_yes S _ hb, bne_iff_ne]
      exact_mod_cast Nat.ne_of_gt hp
  · rw [if_neg h, decide_eq_false h, Nat.and_zero]; rfl

theorem has_any (S : Nat) (i : Int) (w : World) (hS : S < 4294967296) : Calls Tryd.prog 50 #[.int .u32 S, .int .i64 i] w fun e w' => e = .returned (.bool (hasB S i)) ∧ w' = w := by
  have hand := u32_and_nat S (bitV i) hS (bitV_lt i)
  go_enter Tryd.func50, Tryd.ntmps50
  go_wp2_with (go_at_call 54; refine (bit_any _ _).mono ?_; rintro e w ⟨rfl, rfl⟩)
  go_ret
  exact ⟨ret_bool (has_eq S i), rfl⟩
theorem without_any (S : Nat) (i : Int) (w : World) (hS : S < 4294967296) : Calls Tryd.prog 57 #[.int .u32 S, .int .i64 i] w fun e w' => e = .returned (.int .u32 ((withoutV S i : Nat) : Int)) ∧ w' = w := by
  have han := u32_andNot_nat S (bitV i) hS (bitV_lt i)
  go_enter Tryd.func57, Tryd.ntmps57
  go_wp2_with (go_at_call 54; refine (bit_any _ _).mono ?_; rintro e w ⟨rfl, rfl⟩)
  go_ret
  exact ⟨rfl, rfl⟩

/-! ### The document's -/
theorem has_ref (S i : Nat) : ((((S : Int) / 2 ^ i).tmod 2 == 1) : Bool) = S.testBit i := by
  have e : (S : Int) / 2 ^ i = ((S / 2 ^ i : Nat) : Int) := by simp
  rw [e, Int.tmod_eq_emod_of_nonneg (Int.natCast_nonneg _), Nat.testBit_eq_decide_div_mod_eq, Bool.eq_iff_iff]
  simp; omega
theorem has_in {S n : Nat} (h : n < 32) : hasB S (n : Int) = S.testBit n := by
  unfold hasB; rw [decide_eq_true (by omega)]; simp
theorem has_out {S : Nat} {i : Int} (h : ¬ (0 ≤ i ∧ i < 32)) : hasB S i = false := by unfold hasB; rw [decide_eq_false h]; rfl
theorem with_no {S : Nat} {i : Int} (h : ¬ (0 ≤ i ∧ i < 32)) : withV S i = S := by unfold withV bitV; rw [if_neg h, Nat.or_zero]
theorem with_in {S n : Nat} (h : n < 32) : withV S (n : Int) = S ||| 2 ^ n := by unfold withV bitV; rw [if_pos (by omega)]; simp
theorem without_out {S : Nat} {i : Int} (hS : S < 4294967296) (h : ¬ (0 ≤ i ∧ i < 32)) : withoutV S i = S := by
  unfold withoutV bitV
  rw [if_neg h, Nat.sub_zero]
  have : S &&& (2 ^ 32 - 1) = S % 2 ^ 32 := Nat.and_two_pow_sub_one_eq_mod S 32
  have e : (2 : Nat) ^ 32 = 4294967296 := by decide
  rw [e] at this
  rw [this]
  exact Nat.mod_eq_of_lt hS
theorem without_in {S n : Nat} (h : n < 32) : withoutV S (n : Int) = S &&& (4294967295 - 2 ^ n) := by unfold withoutV bitV; rw [if_pos (by omega)]; simp
/-- The least one, -1 if there is none. -/
def leastV (S : Nat) : Int := if S = 0 then -1 else (lowN 32 S : Int)
end Go.Proofs.YtcgflfngoaccoaaDoor
