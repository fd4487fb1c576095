/-
  THE CONTRACTS of the conditions that ask nothing of phases' groups.
-/
import Derived.Test.YtchjbagipbmcoaaGreatDoorLay
import Derived.Test.YtchjbagipbmcoaaGreatDoorBits
import Derived.Deep.RegionWith
namespace Go.Proofs.YtchjbagipbmcoaaGreatDoor
open Go.RowKit Go.Lib Go.Deep
set_option linter.unusedVariables false
set_option linter.unusedSimpArgs false

theorem within_any (n lo hi : Int) (w : World) : Calls Tryz.prog 88 #[.int .i64 n, .int .i64 lo, .int .i64 hi] w fun e w' => e = .returned (.bool (inB n lo hi)) ∧ w' = w := by
  go_enter Tryz.func88, Tryz.ntmps88
  go_wp2
  all_goals
    go_ret
    refine ⟨?_, rfl⟩
    simp [inB, *] <;> (first | omega | (intros; omega))
theorem time_any (n : Int) (w : World) : Calls Tryz.prog 89 #[.int .i64 n] w fun e w' => e = .returned (.bool (timeB n)) ∧ w' = w := by
  go_enter Tryz.func89, Tryz.ntmps89
  go_wp2_with (go_at_call 88; refine (within_any _ _ _ _).mono ?_; rintro e w ⟨rfl, rfl⟩)
  go_ret
  exact ⟨rfl, rfl⟩
theorem own_any {B : Nat} {X : Sa} {S : St} {w : World} (h : Sbox w B X S) (i : Int) : Calls Tryz.prog 61 #[.pointer (some ⟨B, 0, none⟩), .int .i64 i] w fun e w' => e = .returned (.bool (ownB S)) ∧ w' = w := by
  have c0 := h.c0
  have c6 := h.c6
  have c7 := h.c7
  have c8 := h.c8
  clear h
  go_enter Tryz.func61, Tryz.ntmps61
  go_wp2_with (first
    | (go_at_call 88; refine (within_any _ _ _ _).mono ?_; rintro e w ⟨rfl, rfl⟩)
    | (go_at_call 89; refine (time_any _ _).mono ?_; rintro e w ⟨rfl, rfl⟩))
  all_goals
    go_ret
    refine ⟨?_, rfl⟩
    simp [ownB, *] <;> (first | omega | (intros; omega))
theorem counts_any {B : Nat} {X : Sa} {S : St} {w : World} (h : Sbox w B X S) (i : Int) : Calls Tryz.prog 60 #[.pointer (some ⟨B, 0, none⟩), .int .i64 i] w fun e w' => e = .returned (.bool (countsB S)) ∧ w' = w := by
  have c1 := h.c1
  have c2 := h.c2
  have c3 := h.c3
  have c4 := h.c4
  have c5 := h.c5
  have c11 := h.c11
  clear h
  go_enter Tryz.func60, Tryz.ntmps60
  go_wp2_with (go_at_call 88; refine (within_any _ _ _ _).mono ?_; rintro e w ⟨rfl, rfl⟩)
  all_goals
    go_ret
    refine ⟨?_, rfl⟩
    simp [countsB, *] <;> (first | omega | (intros; omega) | (rw [Bool.eq_iff_iff]; simp only [Bool.and_eq_true, decide_eq_true_eq]; omega))
theorem group_any {B : Nat} {X : Sa} {S : St} {w : World} (h : Sbox w B X S) (i : Nat) (hi : i < S.groups.length) (hl : S.groups.length ≤ 16) : Calls Tryz.prog 62 #[.pointer (some ⟨B, 0, none⟩), .int .i64 i] w fun e w' => e = .returned (.bool (groupB S i)) ∧ Kept w w' none := by
  have c1 := h.c1
  obtain ⟨b, off, e, k0, k1, k2⟩ := h.sat.grAt hi
  rw [e] at c1
  clear h e
  go_enter Tryz.func62, Tryz.ntmps62
  go_wp2_with (go_at_call 89; refine (time_any _ _).mono ?_; rintro e w ⟨rfl, rfl⟩)
  all_goals
    go_ret
    refine ⟨?_, Kept.alloc _ _ _ _ _⟩
    simp [groupB, *] <;> (first | omega | (intros; omega))
theorem allGroups_any {B : Nat} {X : Sa} {S : St} {w : World} (h : Sbox w B X S) (hl : S.groups.length ≤ 16) : Calls Tryz.prog 90 #[.pointer (some ⟨B, 0, none⟩)] w fun e w' => e = .returned (.int .u32 ((2 ^ S.groups.length - 1 : Nat) : Int)) ∧ w' = w := by
  have c1 := h.c1
  clear h
  have hp := pow_int (i := S.groups.length) (by omega)
  have hq : 1 ≤ 2 ^ S.groups.length := Nat.one_le_two_pow
  have hr := pow_lt32 (i := S.groups.length) (by omega)
  go_enter Tryz.func90, Tryz.ntmps90
  go_wp2
  go_ret
  refine ⟨?_, rfl⟩
  refine Eq.trans (b := Ending.returned (.int .u32 (((2 : Int) ^ S.groups.length % 4294967296 - 1) % 4294967296))) ?_ (ret_int ?_)
  · simp
  · rw [hp]; omega
/-- Numbers of groups alone. -/
theorem low_andn (x n : Nat) (hx : x < 4294967296) (hn : n ≤ 32) : (x &&& (4294967295 - (2 ^ n - 1)) = 0) ↔ x < 2 ^ n := by
  have hb : ∀ j, (4294967295 - (2 ^ n - 1)).testBit j = (decide (j < 32) && !decide (j < n)) := by
    intro j
    have h : 2 ^ n - 1 < 2 ^ 32 := by
      have : 2 ^ n ≤ 2 ^ 32 := Nat.pow_le_pow_right (by omega) hn
      have : 1 ≤ 2 ^ n := Nat.one_le_two_pow
      omega
    have := Nat.testBit_two_pow_sub_succ h j
    rw [Nat.testBit_two_pow_sub_one] at this
    rw [← this]
    congr 1
    omega
  constructor
  · intro h
    apply Nat.lt_pow_two_of_testBit
    intro j hj
    have := congrArg (fun y => y.testBit j) h
    simp only [Nat.testBit_and, hb, Nat.zero_testBit] at this
    cases hx2 : x.testBit j with
    | false => rfl
    | true =>
      have := lt_bit hx hx2
      simp_all
      omega
  · intro h
    apply Nat.eq_of_testBit_eq
    intro j
    rw [Nat.testBit_and, hb, Nat.zero_testBit]
    by_cases hj : j < n
    · simp [hj]
    · rw [Nat.testBit_lt_two_pow (Nat.lt_of_lt_of_le h (Nat.pow_le_pow_right (by omega) (by omega)))]
      rfl

end Go.Proofs.YtchjbagipbmcoaaGreatDoor
