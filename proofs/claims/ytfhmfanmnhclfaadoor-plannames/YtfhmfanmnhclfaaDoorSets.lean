/-
  THE CONTRACTS of the calls on sets: of package ring, of Go's own math/bits beneath it, and of the document's answer.
-/
import Derived.Test.YtfhmfanmnhclfaaDoorWorld
import Derived.Test.YtfhmfanmnhclfaaDoorSetM
import Derived.Laws.BitsAllLaws
namespace Go.Proofs.YtfhmfanmnhclfaaDoor
open Go.RowKit Go.Lib Go.Deep
set_option linter.unusedVariables false
set_option linter.unusedSimpArgs false

theorem pow_lt32 {i : Nat} (h : i < 32) : 2 ^ i < 4294967296 := by
  have h' : 2 ^ i < 2 ^ 32 := Nat.pow_lt_pow_right (by omega) h
  simpa using h'
theorem pow_int {i : Nat} (h : i < 32) : (2 : Int) ^ i % 4294967296 = ((2 ^ i : Nat) : Int) := by
  have := pow_lt32 h
  have e : (2 : Int) ^ i = ((2 ^ i : Nat) : Int) := by simp
  rw [e]
  generalize 2 ^ i = P at this ⊢
  omega

/-- What a set may have: the number's bit, none beyond. -/
def bitV (i : Int) : Nat := if 0 ≤ i ∧ i < 32 then 2 ^ i.toNat else 0
theorem bitV_lt (i : Int) : bitV i < 4294967296 := by
  unfold bitV; split
  · exact pow_lt32 (by omega)
  · omega
theorem bit_core (i : Nat) (w : World) (h : i < 32) : Calls Tryd.prog 115 #[.int .i64 i] w fun e w' => e = .returned (.int .u32 ((2 ^ i : Nat) : Int)) ∧ w' = w := by
  go_enter Tryd.func115, Tryd.ntmps115
  go_wp2
  go_ret
  exact ⟨ret_int (pow_int h), rfl⟩
theorem bit_no (i : Int) (w : World) (h : i < 0 ∨ 31 < i) : Calls Tryd.prog 115 #[.int .i64 i] w fun e w' => e = .returned (.int .u32 0) ∧ w' = w := by
  rcases h with h | h
  all_goals
    go_enter Tryd.func115, Tryd.ntmps115
    go_wp2
    go_ret
    exact ⟨rfl, rfl⟩
theorem bit_any (i : Int) (w : World) : Calls Tryd.prog 115 #[.int .i64 i] w fun e w' => e = .returned (.int .u32 ((bitV i : Nat) : Int)) ∧ w' = w := by
  unfold bitV
  by_cases h : 0 ≤ i ∧ i < 32
  · rw [if_pos h]
    obtain ⟨n, rfl⟩ : ∃ n : Nat, i = (n : Int) := ⟨i.toNat, by omega⟩
    exact bit_core n w (by omega)
  · rw [if_neg h]
    exact bit_no i w (by omega)

/-- Is i in S? -/
def hasB (S : Nat) (i : Int) : Bool := decide (0 ≤ i ∧ i < 32) && S.testBit i.toNat
/-- S with i; S without i. -/
def withV (S : Nat) (i : Int) : Nat := S ||| bitV i
def withoutV (S : Nat) (i : Int) : Nat := S &&& (4294967295 - bitV i)
theorem withV_lt {S : Nat} (h : S < 4294967296) (i : Int) : withV S i < 4294967296 := Nat.or_lt_two_pow (n := 32) h (bitV_lt i)
theorem withoutV_lt {S : Nat} (h : S < 4294967296) (i : Int) : withoutV S i < 4294967296 := Nat.lt_of_le_of_lt Nat.and_le_left h
theorem has_eq (S : Nat) (i : Int) : (((S &&& bitV i : Nat) : Int) != 0) = hasB S i := by
  unfold hasB bitV
  by_cases h : 0 ≤ i ∧ i < 32
  · rw [if_pos h, decide_eq_true h, Bool.true_and]
    have hp : 0 < 2 ^ i.toNat := Nat.two_pow_pos _
    cases hb : S.testBit i.toNat with
    | false => rw [and_pow S _ hb]; rfl
    | true =>
      rw [and_pow_yes S _ hb, bne_iff_ne]
      exact_mod_cast Nat.ne_of_gt hp
  · rw [if_neg h, decide_eq_false h, Nat.and_zero]; rfl

theorem has_any (S : Nat) (i : Int) (w : World) (hS : S < 4294967296) : Calls Tryd.prog 103 #[.int .u32 S, .int .i64 i] w fun e w' => e = .returned (.bool (hasB S i)) ∧ w' = w := by
  have hand := u32_and_nat S (bitV i) hS (bitV_lt i)
  go_enter Tryd.func103, Tryd.ntmps103
  go_wp2_with (go_at_call 115; refine (bit_any _ _).mono ?_; rintro e w ⟨rfl, rfl⟩)
  go_ret
  exact ⟨ret_bool (has_eq S i), rfl⟩
theorem without_any (S : Nat) (i : Int) (w : World) (hS : S < 4294967296) : Calls Tryd.prog 118 #[.int .u32 S, .int .i64 i] w fun e w' => e = .returned (.int .u32 ((withoutV S i : Nat) : Int)) ∧ w' = w := by
  have han := u32_andNot_nat S (bitV i) hS (bitV_lt i)
  go_enter Tryd.func118, Tryd.ntmps118
  go_wp2_with (go_at_call 115; refine (bit_any _ _).mono ?_; rintro e w ⟨rfl, rfl⟩)
  go_ret
  exact ⟨rfl, rfl⟩

/-! ### The document's -/
theorem has_ref (S i : Nat) : ((((S : Int) / 2 ^ i).tmod 2 == 1) : Bool) = S.testBit i := by
  have e : (S : Int) / 2 ^ i = ((S / 2 ^ i : Nat) : Int) := by simp
  rw [e, Int.tmod_eq_emod_of_nonneg (Int.natCast_nonneg _), Nat.testBit_eq_decide_div_mod_eq, Bool.eq_iff_iff]
  simp; omega
theorem rhas_core (S i : Nat) (w : World) (hS : S < 4294967296) (h : i < 32) : Calls Tryd.prog 97 #[.int .u32 S, .int .i64 i] w fun e w' => e = .returned (.bool (S.testBit i)) ∧ w' = w := by
  go_enter Tryd.func97, Tryd.ntmps97
  go_wp2
  go_ret
  exact ⟨ret_bool (has_ref S i), rfl⟩
theorem rhas_no (S : Nat) (i : Int) (w : World) (h : i < 0 ∨ 31 < i) : Calls Tryd.prog 97 #[.int .u32 S, .int .i64 i] w fun e w' => e = .returned (.bool false) ∧ w' = w := by
  rcases h with h | h
  · have h1 : decide (0 ≤ i) = false := by simp; omega
    go_enter Tryd.func97, Tryd.ntmps97
    go_wp2
    go_ret
    exact ⟨rfl, rfl⟩
  · have h0 : 0 ≤ i := by omega
    have h1 : decide (i < 32) = false := by simp; omega
    go_enter Tryd.func97, Tryd.ntmps97
    go_wp2
    go_ret
    exact ⟨rfl, rfl⟩
theorem rhas_any (S : Nat) (i : Int) (w : World) (hS : S < 4294967296) : Calls Tryd.prog 97 #[.int .u32 S, .int .i64 i] w fun e w' => e = .returned (.bool (hasB S i)) ∧ w' = w := by
  unfold hasB
  by_cases h : 0 ≤ i ∧ i < 32
  · rw [decide_eq_true h, Bool.true_and]
    obtain ⟨n, rfl⟩ : ∃ n : Nat, i = (n : Int) := ⟨i.toNat, by omega⟩
    exact rhas_core S n w hS (by omega)
  · rw [decide_eq_false h, Bool.false_and]
    exact rhas_no S i w (by omega)
theorem has_in {S n : Nat} (h : n < 32) : hasB S (n : Int) = S.testBit n := by
  unfold hasB; rw [decide_eq_true (by omega)]; simp
theorem has_out {S : Nat} {i : Int} (h : ¬ (0 ≤ i ∧ i < 32)) : hasB S i = false := by unfold hasB; rw [decide_eq_false h]; rfl
theorem rwith_yes (S : Nat) (i : Int) (w : World) (hS : S < 4294967296) (h : ¬ (0 ≤ i ∧ i < 32) ∨ hasB S i = true) : Calls Tryd.prog 98 #[.int .u32 S, .int .i64 i] w fun e w' => e = .returned (.int .u32 (S : Int)) ∧ w' = w := by
  by_cases h0 : 0 ≤ i ∧ i < 32
  · obtain ⟨h1, h2⟩ := h0
    have h3 : hasB S i = true := by rcases h with h | h; exact absurd ⟨h1, h2⟩ h; exact h
    clear h
    go_enter Tryd.func98, Tryd.ntmps98
    go_wp2_with (go_at_call 97; refine (rhas_any _ _ _ hS).mono ?_; rintro e w ⟨rfl, rfl⟩; rw [h3])
    go_ret
    exact ⟨rfl, rfl⟩
  · rcases (show i < 0 ∨ 31 < i by omega) with h1 | h1
    all_goals
      clear h h0
      go_enter Tryd.func98, Tryd.ntmps98
      go_wp2_with fail
      go_ret
      exact ⟨rfl, rfl⟩
theorem rwith_no (S n : Nat) (w : World) (hS : S < 4294967296) (hn : n < 32) (h : S.testBit n = false) : Calls Tryd.prog 98 #[.int .u32 S, .int .i64 n] w fun e w' => e = .returned (.int .u32 ((S + 2 ^ n : Nat) : Int)) ∧ w' = w := by
  have h3 : hasB S (n : Int) = false := by rw [has_in hn]; exact h
  have hp := pow_int hn
  have hlt : S + 2 ^ n < 4294967296 := by rw [← or_pow_no S n h]; exact or_pow_lt S n hS hn
  generalize 2 ^ n = P at hp hlt ⊢
  go_enter Tryd.func98, Tryd.ntmps98
  go_wp2_with (go_at_call 97; refine (rhas_any _ _ _ hS).mono ?_; rintro e w ⟨rfl, rfl⟩; rw [h3])
  go_ret
  exact ⟨ret_int (by omega), rfl⟩
theorem with_no {S : Nat} {i : Int} (h : ¬ (0 ≤ i ∧ i < 32)) : withV S i = S := by unfold withV bitV; rw [if_neg h, Nat.or_zero]
theorem with_in {S n : Nat} (h : n < 32) : withV S (n : Int) = S ||| 2 ^ n := by unfold withV bitV; rw [if_pos (by omega)]; simp
theorem without_out {S : Nat} {i : Int} (hS : S < 4294967296) (h : ¬ (0 ≤ i ∧ i < 32)) : withoutV S i = S := by
  unfold withoutV bitV
  rw [if_neg h, Nat.sub_zero]
  have : S &&& (2 ^ 32 - 1) = S % 2 ^ 32 := Nat.and_two_pow_sub_one_eq_mod S 32
  have e : (2 : Nat) ^ 32 = 4294967296 := by decide
  rw [e] at this
  rw [this]
  exact Nat.mod_eq_of_lt hS
theorem without_in {S n : Nat} (h : n < 32) : withoutV S (n : Int) = S &&& (4294967295 - 2 ^ n) := by unfold withoutV bitV; rw [if_pos (by omega)]; simp
theorem rwith_any (S : Nat) (i : Int) (w : World) (hS : S < 4294967296) : Calls Tryd.prog 98 #[.int .u32 S, .int .i64 i] w fun e w' => e = .returned (.int .u32 ((withV S i : Nat) : Int)) ∧ w' = w := by
  by_cases h : 0 ≤ i ∧ i < 32
  · obtain ⟨n, rfl⟩ : ∃ n : Nat, i = (n : Int) := ⟨i.toNat, by omega⟩
    have hn : n < 32 := by omega
    rw [with_in hn]
    cases hb : S.testBit n with
    | true => rw [or_pow_yes S n hb]; exact rwith_yes S n w hS (.inr (by rw [has_in hn]; exact hb))
    | false => rw [or_pow_no S n hb]; exact rwith_no S n w hS hn hb
  · rw [with_no h]; exact rwith_yes S i w hS (.inl h)
theorem rcount_any (S : Nat) (w : World) (hS : S < 4294967296) : Calls Tryd.prog 99 #[.int .u32 S] w fun e w' => e = .returned (.int .i64 ((cnt S 32 : Nat) : Int)) ∧ w' = w := by
  go_enter Tryd.func99, Tryd.ntmps99
  go_wp2_with fail
  go_loop [3, 4] (fun c i => ∃ k : Nat, k ≤ 32 ∧ i = .int .i64 k ∧ c = .int .i64 ((cnt S k : Nat) : Int)) (fun _ i => 32 - (intOf i).toNat)
  case atStart => exact ⟨0, Nat.zero_le _, rfl, rfl⟩
  case round =>
    obtain ⟨k, hk, rfl, rfl⟩ := hrel
    have hc := cnt_le S k
    by_cases hlt : k < 32
    · have HS : Hid (cnt S (k + 1) = cnt S k + (S.testBit k).toNat) := cnt_succ S k
      generalize cnt S k = C at *
      cases hb : S.testBit k with
      | true =>
        have h3 : hasB S (k : Int) = true := by rw [has_in hlt]; exact hb
        rw [hb] at HS
        go_wp2_with (go_at_call 97; refine (rhas_any _ _ _ hS).mono ?_; rintro e w ⟨rfl, rfl⟩; rw [h3])
        go_round
        case rel => exact ⟨k + 1, by omega, by go_num, by rw [HS.out]; go_num⟩
        case measure => simp [intOf]; omega
      | false =>
        have h3 : hasB S (k : Int) = false := by rw [has_in hlt]; exact hb
        rw [hb] at HS
        go_wp2_with (go_at_call 97; refine (rhas_any _ _ _ hS).mono ?_; rintro e w ⟨rfl, rfl⟩; rw [h3])
        go_round
        case rel => exact ⟨k + 1, by omega, by go_num, by rw [HS.out]; go_num⟩
        case measure => simp [intOf]; omega
    · obtain rfl : k = 32 := by omega
      go_wp2_with fail
      go_ret
      exact ⟨rfl, rfl⟩

/-- The least one, -1 if there is none. -/
def leastV (S : Nat) : Int := if S = 0 then -1 else (lowN 32 S : Int)
end Go.Proofs.YtfhmfanmnhclfaaDoor
