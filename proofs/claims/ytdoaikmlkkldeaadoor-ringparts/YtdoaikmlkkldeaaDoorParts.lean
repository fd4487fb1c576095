/-
  THE WALK of RingParts.
-/
import Derived.Test.YtdoaikmlkkldeaaDoorBits
import Derived.Test.YtdoaikmlkkldeaaDoorAlive
import Derived.Deep.RegionWith
namespace Go.Proofs.YtdoaikmlkkldeaaDoor
open Go.RowKit Go.Lib Go.Deep
set_option linter.unusedVariables false
set_option linter.unusedSimpArgs false

/-- The numbers of S from m on. -/
def hiV (S m : Nat) : Nat := S / 2 ^ m * 2 ^ m
theorem hi_bit (S m j : Nat) : (hiV S m).testBit j = (decide (m ≤ j) && S.testBit j) := by
  unfold hiV
  rw [Nat.testBit_mul_two_pow]
  by_cases h : m ≤ j
  · rw [Nat.testBit_div_two_pow]
    have e : j - m + m = j := by omega
    simp [h, e]
  · simp [h]
theorem hi_le (S m : Nat) : hiV S m ≤ S := Nat.div_mul_le_self S (2 ^ m)
theorem hi_zero (S : Nat) : hiV S 0 = S := by simp [hiV]
theorem part_made {S m k : Nat} (hm : m ≤ k) (hk : S.testBit k = true) (hno : ∀ j, m ≤ j → j < k → S.testBit j = false) : S % 2 ^ m ||| 2 ^ k = S % 2 ^ (k + 1) := by
  apply Nat.eq_of_testBit_eq
  intro j
  rw [Nat.testBit_or, Nat.testBit_mod_two_pow, Nat.testBit_mod_two_pow, Nat.testBit_two_pow]
  by_cases h1 : k = j
  · subst h1; simp [hk]
  · by_cases h2 : j < m
    · simp [h1, h2, show j < k + 1 by omega]
    · by_cases h3 : j < k
      · simp [h1, h2, hno j (by omega) h3]
      · simp [h1, h2, show ¬ j < k + 1 by omega]
theorem part_left {S m k : Nat} (hS : S < 4294967296) (hk32 : k < 32) (hm : m ≤ k) (hno : ∀ j, m ≤ j → j < k → S.testBit j = false) : hiV S m &&& (4294967295 - 2 ^ k) = hiV S (k + 1) := by
  apply Nat.eq_of_testBit_eq
  intro j
  rw [without_bit _ k j (Nat.lt_of_le_of_lt (hi_le S m) hS) hk32, hi_bit, hi_bit]
  by_cases h1 : k = j
  · subst h1; simp [show ¬ k + 1 ≤ k by omega]
  · by_cases h2 : j < m
    · simp [h1, show ¬ m ≤ j by omega, show ¬ k + 1 ≤ j by omega]
    · by_cases h3 : j < k
      · simp [h1, hno j (by omega) h3]
      · simp [h1, show m ≤ j by omega, show k + 1 ≤ j by omega]
theorem part_cnt {S m k : Nat} (hm : m ≤ k) (hk : S.testBit k = true) (hno : ∀ j, m ≤ j → j < k → S.testBit j = false) : cnt S (k + 1) = cnt S m + 1 := by
  have := cnt_flat S m (k - m) (fun j h1 h2 => hno j h1 (by omega))
  rw [show m + (k - m) = k by omega] at this
  rw [cnt_succ, this, hk]; rfl
theorem part_end {S m : Nat} (hS : S < 4294967296) (hm : m ≤ 32) (h : hiV S m = 0) : S % 2 ^ m = S ∧ cnt S m = cnt S 32 := by
  have hb : ∀ j, m ≤ j → S.testBit j = false := by
    intro j hj
    have := hi_bit S m j
    rw [h] at this
    simpa [hj] using this.symm
  constructor
  · apply Nat.eq_of_testBit_eq
    intro j
    rw [Nat.testBit_mod_two_pow]
    by_cases h1 : j < m
    · simp [h1]
    · simp [h1, hb j (by omega)]
  · have := cnt_flat S m (32 - m) (fun j h1 _ => hb j h1)
    rw [show m + (32 - m) = 32 by omega] at this
    exact this.symm
/-- The next least one. -/
theorem part_next {S m : Nat} (hS : S < 4294967296) (h : hiV S m ≠ 0) : ∃ k : Nat, leastV (hiV S m) = (k : Int) ∧ m ≤ k ∧ k < 32 ∧ S.testBit k = true ∧ ∀ j, m ≤ j → j < k → S.testBit j = false := by
  have hl := hi_le S m
  have hp : (2 : Nat) ^ 32 = 4294967296 := by decide
  obtain ⟨h1, h2, h3⟩ := lowN_spec 32 (hiV S m) (by omega) (by omega)
  rw [hi_bit] at h2
  have h2' : m ≤ lowN 32 (hiV S m) ∧ S.testBit (lowN 32 (hiV S m)) = true := by simpa using h2
  refine ⟨lowN 32 (hiV S m), by unfold leastV; rw [if_neg h], h2'.1, h1, h2'.2, fun j hj1 hj2 => ?_⟩
  have := h3 j hj2
  rw [hi_bit] at this
  simpa [hj1] using this

theorem has_with_ne {S : Nat} {i k : Int} (h : k ≠ i) : hasB (withV S i) k = hasB S k := by
  by_cases hk : 0 ≤ k ∧ k < 32
  · obtain ⟨n, rfl⟩ : ∃ n : Nat, k = (n : Int) := ⟨k.toNat, by omega⟩
    rw [has_in (by omega), has_in (by omega)]
    by_cases hi : 0 ≤ i ∧ i < 32
    · obtain ⟨p, rfl⟩ : ∃ p : Nat, i = (p : Int) := ⟨i.toNat, by omega⟩
      rw [with_in (by omega), Nat.testBit_or, Nat.testBit_two_pow]
      simp [show ¬ p = n by omega]
    · rw [with_no hi]
  · rw [has_out hk, has_out hk]
theorem has_without_ne {S : Nat} {i k : Int} (hS : S < 4294967296) (h : k ≠ i) : hasB (withoutV S i) k = hasB S k := by
  by_cases hk : 0 ≤ k ∧ k < 32
  · obtain ⟨n, rfl⟩ : ∃ n : Nat, k = (n : Int) := ⟨k.toNat, by omega⟩
    rw [has_in (by omega), has_in (by omega)]
    by_cases hi : 0 ≤ i ∧ i < 32
    · obtain ⟨p, rfl⟩ : ∃ p : Nat, i = (p : Int) := ⟨i.toNat, by omega⟩
      rw [without_in (by omega), without_bit S p n hS (by omega)]
      simp [show ¬ p = n by omega]
    · rw [without_out hS hi]
  · rw [has_out hk, has_out hk]
theorem has_with_eq {S : Nat} {i : Int} : hasB (withV S i) i = decide (0 ≤ i ∧ i < 32) := by
  by_cases hi : 0 ≤ i ∧ i < 32
  · rw [decide_eq_true hi]
    obtain ⟨p, rfl⟩ : ∃ p : Nat, i = (p : Int) := ⟨i.toNat, by omega⟩
    rw [has_in (by omega), with_in (by omega), Nat.testBit_or, Nat.testBit_two_pow]
    simp
  · rw [decide_eq_false hi, has_out hi]
theorem has_without_eq {S : Nat} {i : Int} (hS : S < 4294967296) : hasB (withoutV S i) i = false := by
  by_cases hi : 0 ≤ i ∧ i < 32
  · obtain ⟨p, rfl⟩ : ∃ p : Nat, i = (p : Int) := ⟨i.toNat, by omega⟩
    rw [has_in (by omega), without_in (by omega), without_bit S p p hS (by omega)]
    simp
  · rw [has_out hi]

set_option maxRecDepth 100000 in
set_option maxHeartbeats 2000000 in
theorem parts_main (S : Nat) (i : Int) (w : World) (hS : S < 4294967296) (hi1 : -9223372036854775808 ≤ i) (hi2 : i ≤ 9223372036854775807) (ht : Table w) :
    Calls Tryd.prog 5 #[.int .u32 S, .int .i64 i] w fun e w' => e = .returned (.bool true) ∧ Grown w w' := by
  have HT : Hid (Table w) := ht
  clear ht
  go_enter Tryd.func5, Tryd.ntmps5
  go_wp2_with (go_at_call 6; refine (alive_any _).mono ?_; rintro e w1 ⟨rfl, ho, hs⟩)
  have HT1 : Hid (Table w1) := fun i hi => (ho.below.cell (p := ⟨0, i, none⟩) (by exact HT.out.lt)).trans (HT.out i hi)
  have HO : Hid (Old w.heap.size w w1) := ho
  clear ho hs HT
  go_loop [6, 7, 8, 9] (fun a b c d => ∃ m : Nat, m ≤ 32 ∧ a = .int .u32 ((S % 2 ^ m : Nat) : Int) ∧ b = .int .u32 ((hiV S m : Nat) : Int) ∧ c = .int .i64 ((cnt S m : Nat) : Int) ∧ d = .int .i64 ((m : Int) - 1)) (fun _ _ _ d => 32 - (intOf d + 1).toNat)
  case atStart => exact ⟨0, Nat.zero_le _, by simp, by rw [hi_zero], rfl, rfl⟩
  case round =>
    obtain ⟨m, hm, rfl, rfl, rfl, rfl⟩ := hrel
    have hle := hi_le S m
    have hmo : S % 2 ^ m < 4294967296 := Nat.lt_of_le_of_lt (Nat.mod_le _ _) hS
    have hc := cnt_le S m
    by_cases hz : hiV S m = 0
    · obtain ⟨he1, he2⟩ := part_end hS hm hz
      rw [he1, he2, hz]
      clear he1 he2 hz hmo hle
      have hc32 := cnt_le S 32
      have HC : Hid (∃ C, C = cnt S 32) := ⟨_, rfl⟩
      have HN : Hid (∀ wx : World, Calls Tryd.prog 15 #[.int .u32 S] wx fun e w' => e = .returned (.int .i64 ((cnt S 32 : Nat) : Int)) ∧ ∃ m, w' = wx.drewN m) := fun wx => count_any S wx hS
      generalize cnt S 32 = C at *
      have hnS : ((S : Int) != (S : Int)) = false := by simp
      have hnC : ((C : Int) != (C : Int)) = false := by simp
      have HL : Hid (∀ wx : World, Table wx → Calls Tryd.prog 16 #[.int .u32 ((0 : Nat) : Int)] wx fun e w' => e = .returned (.int .i64 (-1)) ∧ w' = wx) := fun wx h => least_any 0 wx (by omega) h
      go_wp2_with (first
        | (go_at_call 15; refine (HN.out _).mono ?_; rintro e w2 ⟨rfl, m2, rfl⟩)
        | (go_at_call 16; refine (HL.out _ (HT1.out.kept (Kept.drewN _ _ _))).mono ?_; rintro e w3 ⟨rfl, hw3⟩; subst hw3))
      clear HL HN HC hc hc32 hnC hnS HT1
      have HO2 : Hid (Old w.heap.size w (w1.drewN m2)) := HO.out.kept (Kept.drewN _ _ none) HO.out.below.size (fun _ h => by cases h)
      clear HO
      generalize w1.drewN m2 = W at *
      go_loop [11] (fun u => ∃ k : Nat, k ≤ 34 ∧ u = .int .i64 ((k : Int) - 1)) (fun u => 34 - (intOf u + 1).toNat)
      case atStart => exact ⟨0, Nat.zero_le _, rfl⟩
      case round =>
        obtain ⟨k, hk, rfl⟩ := hrel
        by_cases hlt : k < 34
        · obtain ⟨x, hx⟩ : ∃ x : Int, x = (k : Int) - 1 := ⟨_, rfl⟩
          have hw1 := withV_lt hS i
          have hw2 := withoutV_lt hS i
          have hx33 : x < 33 := by omega
          have hxl : -1 ≤ x := by omega
          have HX : Hid (x = (k : Int) - 1) := hx
          rw [← hx]
          clear hx
          have HWA : Hid (∀ wx : World, Calls Tryd.prog 17 #[.int .u32 (S : Int), .int .i64 i] wx fun e w' => e = .returned (.int .u32 ((withV S i : Nat) : Int)) ∧ w' = wx) := fun wx => with_any _ _ _ hS
          have HWO : Hid (∀ wx : World, Calls Tryd.prog 14 #[.int .u32 (S : Int), .int .i64 i] wx fun e w' => e = .returned (.int .u32 ((withoutV S i : Nat) : Int)) ∧ w' = wx) := fun wx => without_any _ _ _ hS
          by_cases hxi : x = i
          · have HA : Hid (hasB (withV S i) x = decide (0 ≤ i ∧ i < 32)) := by rw [hxi]; exact has_with_eq
            have HB : Hid (hasB (withoutV S i) x = false) := by rw [hxi]; exact has_without_eq hS
            have hne : (x != i) = false := by simp [hxi]
            have heq : (x == i) = true := by simp [hxi]
            have HS2 : Hid (∀ wx : World, Calls Tryd.prog 13 #[.int .u32 ((withoutV S i : Nat) : Int), .int .i64 x] wx fun e w' => e = .returned (.bool false) ∧ w' = wx) := fun wx => by rw [← HB.out]; exact has_any _ _ _ hw2
            have HS3 : Hid (∀ wx : World, Calls Tryd.prog 13 #[.int .u32 (S : Int), .int .i64 x] wx fun e w' => e = .returned (.bool (hasB S x)) ∧ w' = wx) := fun wx => has_any _ _ _ hS
            by_cases hin : 0 ≤ i ∧ i < 32
            · have HS1 : Hid (∀ wx : World, Calls Tryd.prog 13 #[.int .u32 ((withV S i : Nat) : Int), .int .i64 x] wx fun e w' => e = .returned (.bool true) ∧ w' = wx) := fun wx => by rw [← decide_eq_true hin, ← HA.out]; exact has_any _ _ _ hw1
              obtain ⟨hin1, hin2⟩ := hin
              generalize withV S i = WA at *
              generalize withoutV S i = WO at *
              clear hxi HA HB
              go_wp2_with (first
                | (go_at_call 17; refine (HWA.out _).mono ?_; rintro e w5 ⟨rfl, hw5⟩; subst hw5)
                | (go_at_call 14; refine (HWO.out _).mono ?_; rintro e w5 ⟨rfl, hw5⟩; subst hw5)
                | (go_at_call_of 13 (Value.int IntKind.u32 (WA : Int)); refine (HS1.out _).mono ?_; rintro e w5 ⟨rfl, hw5⟩; subst hw5)
                | (go_at_call_of 13 (Value.int IntKind.u32 (WO : Int)); refine (HS2.out _).mono ?_; rintro e w5 ⟨rfl, hw5⟩; subst hw5)
                | (go_at_call_of 13 (Value.int IntKind.u32 (S : Int)); refine (HS3.out _).mono ?_; rintro e w5 ⟨rfl, hw5⟩; subst hw5))
              go_round
              case rel => exact ⟨k + 1, by omega, by rw [HX.out]; go_num⟩
              case measure => rw [HX.out]; simp [intOf]; omega
            · have HS1 : Hid (∀ wx : World, Calls Tryd.prog 13 #[.int .u32 ((withV S i : Nat) : Int), .int .i64 x] wx fun e w' => e = .returned (.bool false) ∧ w' = wx) := fun wx => by rw [← decide_eq_false hin, ← HA.out]; exact has_any _ _ _ hw1
              generalize withV S i = WA at *
              generalize withoutV S i = WO at *
              clear hxi HA HB
              rcases (show i < 0 ∨ (0 ≤ i ∧ 32 ≤ i) by omega) with hin1 | ⟨hin1, hin2⟩
              all_goals
                clear hin
                go_wp2_with (first
                  | (go_at_call 17; refine (HWA.out _).mono ?_; rintro e w5 ⟨rfl, hw5⟩; subst hw5)
                  | (go_at_call 14; refine (HWO.out _).mono ?_; rintro e w5 ⟨rfl, hw5⟩; subst hw5)
                  | (go_at_call_of 13 (Value.int IntKind.u32 (WA : Int)); refine (HS1.out _).mono ?_; rintro e w5 ⟨rfl, hw5⟩; subst hw5)
                  | (go_at_call_of 13 (Value.int IntKind.u32 (WO : Int)); refine (HS2.out _).mono ?_; rintro e w5 ⟨rfl, hw5⟩; subst hw5)
                  | (go_at_call_of 13 (Value.int IntKind.u32 (S : Int)); refine (HS3.out _).mono ?_; rintro e w5 ⟨rfl, hw5⟩; subst hw5))
                go_round
                case rel => exact ⟨k + 1, by omega, by rw [HX.out]; go_num⟩
                case measure => rw [HX.out]; simp [intOf]; omega
          · have HA : Hid (hasB (withV S i) x = hasB S x) := has_with_ne hxi
            have HB : Hid (hasB (withoutV S i) x = hasB S x) := has_without_ne hS hxi
            have hne : (x != i) = true := by rw [bne_iff_ne]; exact hxi
            have heq : (x == i) = false := by rw [beq_eq_false_iff_ne]; exact hxi
            have HS1 : Hid (∀ wx : World, Calls Tryd.prog 13 #[.int .u32 ((withV S i : Nat) : Int), .int .i64 x] wx fun e w' => e = .returned (.bool (hasB S x)) ∧ w' = wx) := fun wx => by rw [← HA.out]; exact has_any _ _ _ hw1
            have HS2 : Hid (∀ wx : World, Calls Tryd.prog 13 #[.int .u32 ((withoutV S i : Nat) : Int), .int .i64 x] wx fun e w' => e = .returned (.bool (hasB S x)) ∧ w' = wx) := fun wx => by rw [← HB.out]; exact has_any _ _ _ hw2
            have HS3 : Hid (∀ wx : World, Calls Tryd.prog 13 #[.int .u32 (S : Int), .int .i64 x] wx fun e w' => e = .returned (.bool (hasB S x)) ∧ w' = wx) := fun wx => has_any _ _ _ hS
            generalize hasB S x = bv at *
            generalize withV S i = WA at *
            generalize withoutV S i = WO at *
            have hbv : (bv != bv) = false := by simp
            clear hxi HA HB
            go_wp2_with (first
              | (go_at_call 17; refine (HWA.out _).mono ?_; rintro e w5 ⟨rfl, hw5⟩; subst hw5)
              | (go_at_call 14; refine (HWO.out _).mono ?_; rintro e w5 ⟨rfl, hw5⟩; subst hw5)
              | (go_at_call_of 13 (Value.int IntKind.u32 (WA : Int)); refine (HS1.out _).mono ?_; rintro e w5 ⟨rfl, hw5⟩; subst hw5)
              | (go_at_call_of 13 (Value.int IntKind.u32 (WO : Int)); refine (HS2.out _).mono ?_; rintro e w5 ⟨rfl, hw5⟩; subst hw5)
              | (go_at_call_of 13 (Value.int IntKind.u32 (S : Int)); refine (HS3.out _).mono ?_; rintro e w5 ⟨rfl, hw5⟩; subst hw5))
            go_round
            case rel => exact ⟨k + 1, by omega, by rw [HX.out]; go_num⟩
            case measure => rw [HX.out]; simp [intOf]; omega
        · go_wp2_with fail
          go_ret
          exact ⟨rfl, HO2.out.grown⟩
    · obtain ⟨k, hk1, hk2, hk3, hk4, hk5⟩ := part_next hS hz
      have hp1 := part_made hk2 hk4 hk5
      have hp2 := part_left hS hk3 hk2 hk5
      have hp3 := part_cnt hk2 hk4 hk5
      have HW : Hid (withV (S % 2 ^ m) (k : Int) = S % 2 ^ (k + 1)) := by show _ = _; rw [with_in hk3]; exact hp1
      have HL : Hid (withoutV (hiV S m) (k : Int) = hiV S (k + 1)) := by show _ = _; rw [without_in hk3]; exact hp2
      have HC : Hid (cnt S (k + 1) = cnt S m + 1) := hp3
      have HB : Hid (hasB S (k : Int) = true) := by show _ = _; rw [has_in hk3]; exact hk4
      have HK : Hid (leastV (hiV S m) = (k : Int)) := hk1
      clear hp1 hp2 hp3 hk1 hk4 hk5
      have hnz : (((hiV S m : Nat) : Int) != 0) = true := by rw [bne_iff_ne]; omega
      have hlt : hiV S m < 4294967296 := by omega
      generalize S % 2 ^ m = MA at *
      generalize hiV S m = HI at *
      generalize cnt S m = C at *
      go_wp2_with (first
        | (go_at_call 16; refine (least_any _ _ hlt HT1.out).mono ?_; rintro e w1 ⟨rfl, rfl⟩; rw [HK.out])
        | (go_at_call 13; refine (has_any _ _ _ hS).mono ?_; rintro e w1 ⟨rfl, rfl⟩; rw [HB.out])
        | (go_at_call 17; refine (with_any _ _ _ hmo).mono ?_; rintro e w1 ⟨rfl, rfl⟩; rw [HW.out])
        | (go_at_call 14; refine (without_any _ _ _ hlt).mono ?_; rintro e w1 ⟨rfl, rfl⟩; rw [HL.out]))
      go_round
      case rel => exact ⟨k + 1, by omega, rfl, rfl, by rw [HC.out]; go_num, by go_num⟩
      case measure => simp [intOf]; omega

end Go.Proofs.YtdoaikmlkkldeaaDoor
