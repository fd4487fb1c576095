/-
  Texts joined: some of those that the proofs of this seat stand on.
-/
import Derived.Test.YtfhmfanmnhclfaaDoorLay
import Derived.Test.YtfhmfanmnhclfaaDoorBits
import Derived.Deep.RegionWith
/-
  THE CONTRACTS of the conditions that ask nothing of phases' groups.
-/
namespace Go.Proofs.YtfhmfanmnhclfaaDoor
open Go.RowKit Go.Lib Go.Deep
set_option linter.unusedVariables false
set_option linter.unusedSimpArgs false

theorem within_any (n lo hi : Int) (w : World) : Calls Tryd.prog 76 #[.int .i64 n, .int .i64 lo, .int .i64 hi] w fun e w' => e = .returned (.bool (inB n lo hi)) ∧ w' = w := by
  go_enter Tryd.func76, Tryd.ntmps76
  go_wp2
  all_goals
    go_ret
    refine ⟨?_, rfl⟩
    simp [inB, *] <;> (first | omega | (intros; omega))
theorem time_any (n : Int) (w : World) : Calls Tryd.prog 101 #[.int .i64 n] w fun e w' => e = .returned (.bool (timeB n)) ∧ w' = w := by
  go_enter Tryd.func101, Tryd.ntmps101
  go_wp2_with (go_at_call 76; refine (within_any _ _ _ _).mono ?_; rintro e w ⟨rfl, rfl⟩)
  go_ret
  exact ⟨rfl, rfl⟩
theorem own_any {B : Nat} {X : Sa} {S : St} {w : World} (h : Sbox w B X S) (i : Int) : Calls Tryd.prog 67 #[.pointer (some ⟨B, 0, none⟩), .int .i64 i] w fun e w' => e = .returned (.bool (ownB S)) ∧ w' = w := by
  have c0 := h.c0
  have c6 := h.c6
  have c7 := h.c7
  have c8 := h.c8
  clear h
  go_enter Tryd.func67, Tryd.ntmps67
  go_wp2_with (first
    | (go_at_call 76; refine (within_any _ _ _ _).mono ?_; rintro e w ⟨rfl, rfl⟩)
    | (go_at_call 101; refine (time_any _ _).mono ?_; rintro e w ⟨rfl, rfl⟩))
  all_goals
    go_ret
    refine ⟨?_, rfl⟩
    simp [ownB, *] <;> (first | omega | (intros; omega))
theorem counts_any {B : Nat} {X : Sa} {S : St} {w : World} (h : Sbox w B X S) (i : Int) : Calls Tryd.prog 66 #[.pointer (some ⟨B, 0, none⟩), .int .i64 i] w fun e w' => e = .returned (.bool (countsB S)) ∧ w' = w := by
  have c1 := h.c1
  have c2 := h.c2
  have c3 := h.c3
  have c4 := h.c4
  have c5 := h.c5
  have c11 := h.c11
  clear h
  go_enter Tryd.func66, Tryd.ntmps66
  go_wp2_with (go_at_call 76; refine (within_any _ _ _ _).mono ?_; rintro e w ⟨rfl, rfl⟩)
  all_goals
    go_ret
    refine ⟨?_, rfl⟩
    simp [countsB, *] <;> (first | omega | (intros; omega) | (rw [Bool.eq_iff_iff]; simp only [Bool.and_eq_true, decide_eq_true_eq]; omega))
theorem group_any {B : Nat} {X : Sa} {S : St} {w : World} (h : Sbox w B X S) (i : Nat) (hi : i < S.groups.length) (hl : S.groups.length ≤ 16) : Calls Tryd.prog 68 #[.pointer (some ⟨B, 0, none⟩), .int .i64 i] w fun e w' => e = .returned (.bool (groupB S i)) ∧ Kept w w' none := by
  have c1 := h.c1
  obtain ⟨b, off, e, k0, k1, k2⟩ := h.sat.grAt hi
  rw [e] at c1
  clear h e
  go_enter Tryd.func68, Tryd.ntmps68
  go_wp2_with (go_at_call 101; refine (time_any _ _).mono ?_; rintro e w ⟨rfl, rfl⟩)
  all_goals
    go_ret
    refine ⟨?_, Kept.alloc _ _ _ _ _⟩
    simp [groupB, *] <;> (first | omega | (intros; omega))
theorem allGroups_any {B : Nat} {X : Sa} {S : St} {w : World} (h : Sbox w B X S) (hl : S.groups.length ≤ 16) : Calls Tryd.prog 102 #[.pointer (some ⟨B, 0, none⟩)] w fun e w' => e = .returned (.int .u32 ((2 ^ S.groups.length - 1 : Nat) : Int)) ∧ w' = w := by
  have c1 := h.c1
  clear h
  have hp := pow_int (i := S.groups.length) (by omega)
  have hq : 1 ≤ 2 ^ S.groups.length := Nat.one_le_two_pow
  have hr := pow_lt32 (i := S.groups.length) (by omega)
  go_enter Tryd.func102, Tryd.ntmps102
  go_wp2
  go_ret
  refine ⟨?_, rfl⟩
  refine Eq.trans (b := Ending.returned (.int .u32 (((2 : Int) ^ S.groups.length % 4294967296 - 1) % 4294967296))) ?_ (ret_int ?_)
  · simp
  · rw [hp]; omega
/-- Numbers of groups alone. -/
theorem low_andn (x n : Nat) (hx : x < 4294967296) (hn : n ≤ 32) : (x &&& (4294967295 - (2 ^ n - 1)) = 0) ↔ x < 2 ^ n := by
  have hb : ∀ j, (4294967295 - (2 ^ n - 1)).testBit j = (decide (j < 32) && !decide (j < n)) := by
    intro j
    have h : 2 ^ n - 1 < 2 ^ 32 := by
      have : 2 ^ n ≤ 2 ^ 32 := Nat.pow_le_pow_right (by omega) hn
      have : 1 ≤ 2 ^ n := Nat.one_le_two_pow
      omega
    have := Nat.testBit_two_pow_sub_succ h j
    rw [Nat.testBit_two_pow_sub_one] at this
    rw [← this]
    congr 1
    omega
  constructor
  · intro h
    apply Nat.lt_pow_two_of_testBit
    intro j hj
    have := congrArg (fun y => y.testBit j) h
    simp only [Nat.testBit_and, hb, Nat.zero_testBit] at this
    cases hx2 : x.testBit j with
    | false => rfl
    | true =>
      have := lt_bit hx hx2
      simp_all
      omega
  · intro h
    apply Nat.eq_of_testBit_eq
    intro j
    rw [Nat.testBit_and, hb, Nat.zero_testBit]
    by_cases hj : j < n
    · simp [hj]
    · rw [Nat.testBit_lt_two_pow (Nat.lt_of_lt_of_le h (Nat.pow_le_pow_right (by omega) (by omega)))]
      rfl

end Go.Proofs.YtfhmfanmnhclfaaDoor

/-
  THE CONTRACTS of apartHolds, betweenHolds, allGroupsServed, eyeHolds.
-/
namespace Go.Proofs.YtfhmfanmnhclfaaDoor
open Go.RowKit Go.Lib Go.Deep
set_option linter.unusedVariables false
set_option linter.unusedSimpArgs false

theorem has_n (S i : Nat) (w : World) (hS : S < 4294967296) (hi : i < 32) : Calls Tryd.prog 103 #[.int .u32 S, .int .i64 i] w fun e w' => e = .returned (.bool (S.testBit i)) ∧ w' = w := by
  rw [← has_in hi]; exact has_any S i w hS
theorem has_is (S i : Nat) (b : Bool) (w : World) (hS : S < 4294967296) (hi : i < 32) (h : S.testBit i = b) : Calls Tryd.prog 103 #[.int .u32 S, .int .i64 i] w fun e w' => e = .returned (.bool b) ∧ w' = w := by
  rw [← h]; exact has_n S i w hS hi
set_option maxHeartbeats 1000000 in
theorem apart_any {B : Nat} {X : Sa} {S : St} {w : World} (h : Sbox w B X S) (a : Nat) (ha : a < S.groups.length) (hO : Okay S) : Calls Tryd.prog 69 #[.pointer (some ⟨B, 0, none⟩), .int .i64 a] w fun e w' => e = .returned (.bool (apartB S a)) ∧ ∃ m, w' = w.drewN m := by
  have c1 := h.c1
  have c2 := h.c2
  have hg16 := hO.ng.2
  have hna := hO.na
  have HB := Hid.mk' h
  obtain ⟨b, off, e, hc⟩ := h.sat.apAt (n := S.groups.length) (by omega) (by omega)
  rw [e] at c2
  have HC := Hid.mk' hc
  have ka := hc a ha
  have hr : ∀ i, S.ap i < 4294967296 := fun i => by
    by_cases hi : i < S.apart.length
    · exact h.sat.ar _ (getD_mem hi)
    · unfold St.ap; rw [List.getD_eq_getElem?_getD, List.getElem?_eq_none (by omega)]; simp
  have HR := Hid.mk' hr
  have har := hr a
  have hpl : 2 ^ S.groups.length - 1 < 4294967296 := by have := pow_lt32 (i := S.groups.length) (by omega); omega
  have han := u32_andNot_nat (S.ap a) (2 ^ S.groups.length - 1) har hpl
  have hlo := low_andn (S.ap a) S.groups.length har (by omega)
  by_cases hlow : S.ap a < 2 ^ S.groups.length
  · have hz := hlo.2 hlow
    have hz2 : (bits .andNot .u32 (S.ap a : Int) ((2 ^ S.groups.length - 1 : Nat) : Int) != 0) = false := by rw [han, hz]; rfl
    clear han hlo hz hc hr h e
    cases hself : (S.ap a).testBit a with
    | true =>
      have hans : apartB S a = false := by simp [apartB, hself]
      have HA := Hid.mk' hans
      clear hans
      go_enter Tryd.func69, Tryd.ntmps69
      go_wp2
      go_quiet ((first | (go_at_call 102; exact Calls.quiet_of_same (allGroups_any (HB.out.kept (Kept.drewN _ _ _)) hg16)) | (go_at_call 103; exact Calls.quiet_of_same (has_is _ _ _ _ har (by omega) hself))))
      go_wp2
      go_ret
      exact ⟨by rw [HA.out]; rfl, _, rfl⟩
    | false =>
      go_enter Tryd.func69, Tryd.ntmps69
      go_wp2
      go_quiet ((first | (go_at_call 102; exact Calls.quiet_of_same (allGroups_any (HB.out.kept (Kept.drewN _ _ _)) hg16)) | (go_at_call 103; exact Calls.quiet_of_same (has_is _ _ _ _ har (by omega) hself))))
      go_wp2
      go_loopw [34] (fun i wr => ∃ k : Nat, k ≤ S.groups.length ∧ i = .int .i64 k ∧ (∀ b, b < k → (S.ap a).testBit b = (S.ap b).testBit a) ∧ ∃ m, wr = w.drewN m) (fun i _ => S.groups.length - (intOf i).toNat)
      case atStart => exact ⟨0, Nat.zero_le _, rfl, fun b hb => by omega, _, rfl⟩
      case round =>
        obtain ⟨k, hk, rfl, hall, m, rfl⟩ := hrel
        have HALL := Hid.mk' hall
        have HLOW := Hid.mk' hlow
        have HSELF := Hid.mk' hself
        clear hall
        by_cases hlt : k < S.groups.length
        · have kb := HC.out k hlt
          have hbr := HR.out k
          cases heq : ((S.ap a).testBit k == (S.ap k).testBit a) with
          | true =>
            have hne : (!((S.ap a).testBit k == (S.ap k).testBit a)) = false := by rw [heq]; rfl
            have HEQ := Hid.mk' heq
            clear heq
            go_wp2_with (first | (go_at_call_of 103 (S.ap a); refine (has_n _ _ _ har (by omega)).mono ?_; rintro e w' ⟨rfl, rfl⟩) | (go_at_call 103; refine (has_n _ _ _ hbr (by omega)).mono ?_; rintro e w' ⟨rfl, rfl⟩))
            all_goals
              go_roundw
              case rel => exact ⟨k + 1, by omega, by go_num, fun b hb => by
                by_cases e : b = k
                · subst e; exact eq_of_beq HEQ.out
                · exact HALL.out b (by omega), _, rfl⟩
              case measure => simp [intOf]; omega
          | false =>
            have hne : (!((S.ap a).testBit k == (S.ap k).testBit a)) = true := by rw [heq]; rfl
            have hans : apartB S a = false := by
              unfold apartB
              rw [allB_no hlt heq]
              simp
            have HA := Hid.mk' hans
            clear heq hans
            go_wp2_with (first | (go_at_call_of 103 (S.ap a); refine (has_n _ _ _ har (by omega)).mono ?_; rintro e w' ⟨rfl, rfl⟩) | (go_at_call 103; refine (has_n _ _ _ hbr (by omega)).mono ?_; rintro e w' ⟨rfl, rfl⟩))
            all_goals
              go_ret
              exact ⟨by rw [HA.out]; rfl, _, rfl⟩
        · have hkk : k = S.groups.length := by omega
          have hans : apartB S a = true := by
            unfold apartB
            rw [allB_iff.2 (fun b hb => by rw [HALL.out b (by omega)]; exact beq_self_eq_true _), HSELF.out, decide_eq_true HLOW.out]
            rfl
          have HA := Hid.mk' hans
          clear hans
          go_wp2
          go_ret
          exact ⟨by rw [HA.out]; rfl, _, rfl⟩
  · have hz := fun e => hlow (hlo.1 e)
    have hz2 : (bits .andNot .u32 (S.ap a : Int) ((2 ^ S.groups.length - 1 : Nat) : Int) != 0) = true := by
      rw [han, bne_iff_ne]
      intro e
      exact hz (by omega)
    have hans : apartB S a = false := by simp [apartB, hlow]
    have HA := Hid.mk' hans
    clear han hlo hz hc hr h e hans
    go_enter Tryd.func69, Tryd.ntmps69
    go_wp2
    go_quiet ((go_at_call 102; exact Calls.quiet_of_same (allGroups_any (HB.out.kept (Kept.drewN _ _ _)) hg16)))
    go_wp2
    go_ret
    exact ⟨by rw [HA.out]; rfl, _, rfl⟩

end Go.Proofs.YtfhmfanmnhclfaaDoor

/-
  THE CONTRACTS of betweenHolds, allGroupsServed, eyeHolds.
-/
namespace Go.Proofs.YtfhmfanmnhclfaaDoor
open Go.RowKit Go.Lib Go.Deep
set_option linter.unusedVariables false
set_option linter.unusedSimpArgs false

theorem Sat.apr {w : World} {X : Sa} {S : St} (h : Sat w X S) (i : Nat) : S.ap i < 4294967296 := by
  by_cases hi : i < S.apart.length
  · exact h.ar _ (getD_mem hi)
  · unfold St.ap; rw [List.getD_eq_getElem?_getD, List.getElem?_eq_none (by omega)]; simp
theorem Sat.phr {w : World} {X : Sa} {S : St} (h : Sat w X S) (i : Nat) : (S.ph i).groups < 4294967296 := by
  by_cases hi : i < S.phases.length
  · exact (h.pr _ (getD_mem hi)).1
  · unfold St.ph; rw [List.getD_eq_getElem?_getD, List.getElem?_eq_none (by omega)]; simp [p0]
theorem within_is (n lo hi : Int) (b : Bool) (w : World) (h : inB n lo hi = b) : Calls Tryd.prog 76 #[.int .i64 n, .int .i64 lo, .int .i64 hi] w fun e w' => e = .returned (.bool b) ∧ w' = w := by
  rw [← h]; exact within_any n lo hi w
theorem time_is (n : Int) (b : Bool) (w : World) (h : timeB n = b) : Calls Tryd.prog 101 #[.int .i64 n] w fun e w' => e = .returned (.bool b) ∧ w' = w := by
  rw [← h]; exact time_any n w
set_option maxHeartbeats 1000000 in
theorem between_any {B : Nat} {X : Sa} {S : St} {w : World} (h : Sbox w B X S) (a : Nat) (ha : a < S.groups.length) (hO : Okay S) : Calls Tryd.prog 70 #[.pointer (some ⟨B, 0, none⟩), .int .i64 a] w fun e w' => e = .returned (.bool (betweenB S a)) ∧ ∃ m, w' = w.drewN m := by
  have c1 := h.c1
  have c2 := h.c2
  have c3 := h.c3
  have hg16 := hO.ng.2
  have hna := hO.na
  have hnb := hO.nb
  obtain ⟨b, off, e, hc⟩ := h.sat.apAt (n := S.groups.length) (by omega) (by omega)
  have ka := hc a ha
  have har := h.sat.apr a
  obtain ⟨bg, og, eg, g0, g1, g2⟩ := h.sat.grAt ha
  obtain ⟨bb, ob, a', c', eb, kb, hI⟩ := h.sat.b.at_ (i := a) (by omega)
  rw [e] at c2
  rw [eg] at c1
  rw [eb] at c3
  have HI := Hid.mk' hI
  have HNA := Hid.mk' hna
  have HNB := Hid.mk' hnb
  have hlm : (S.between.getD a []).length ≤ 9223372036854775807 := by have := hI.cap.room; have := hI.cap.max; omega
  have hab : a < S.between.length := by omega
  have haa : a < S.apart.length := by omega
  clear hc h e eg eb hI hna hnb hO g0 g1
  generalize hL : S.between.getD a [] = L at *
  have HL := Hid.mk' hL
  clear hL
  by_cases hlen : L.length = S.groups.length
  · have hn0 : (((L.length : Nat) : Int) != ((S.groups.length : Nat) : Int)) = false := by rw [hlen]; simp
    have HLEN := Hid.mk' hlen
    obtain ⟨bi, oi, ea, _, hc⟩ := HI.out.at_ (by omega)
    have HC := Hid.mk' hc
    subst ea
    have hln : (L.length : Int) = (S.groups.length : Int) := by omega
    clear hlen hc
    go_enter Tryd.func70, Tryd.ntmps70
    go_wp2
    go_quiet (fail)
    go_wp2
    go_loopw [31] (fun i wr => ∃ k : Nat, k ≤ S.groups.length ∧ i = .int .i64 k ∧ (∀ b, b < k → betB S a b = true) ∧ ∃ m, wr = w.drewN m) (fun i _ => S.groups.length - (intOf i).toNat)
    case atStart => exact ⟨0, Nat.zero_le _, rfl, fun b hb => by omega, _, rfl⟩
    case round =>
      obtain ⟨k, hk, rfl, hall, m, rfl⟩ := hrel
      have HALL := Hid.mk' hall
      clear hall
      by_cases hlt : k < S.groups.length
      · have hlt2 : k < L.length := by have := HLEN.out; omega
        have kk := HC.out k hlt2
        have hbt : Hid (S.bt a k = L.getD k 0) := by show S.bt a k = _; unfold St.bt; rw [HL.out]
        have ebt := hbt.out
        rw [← ebt] at kk
        clear ebt
        have hans : betB S a k = false → betweenB S a = false := fun hh => by
          unfold betweenB
          rw [allB_no hlt hh]
          simp
        have HA := Hid.mk' hans
        clear hans
        cases hb : (S.ap a).testBit k with
        | true =>
          cases hv : inB (S.bt a k) (S.gr a).yellow 1048576 with
          | true =>
            have HV : Hid (betB S a k = true) := by show betB S a k = true; unfold betB; rw [if_pos hb]; exact hv
            go_wp2_with (first | (go_at_call 103; refine (has_is _ _ _ _ har (by omega) hb).mono ?_; rintro e w' ⟨rfl, rfl⟩) | (go_at_call 76; refine (within_any _ _ _ _).mono ?_; rintro e w' ⟨rfl, rfl⟩))
            go_roundw
            case rel => exact ⟨k + 1, by omega, by go_num, fun b hb => (by
              by_cases e : b = k
              · subst e; exact HV.out
              · exact HALL.out b (by omega)), _, rfl⟩
            case measure => simp [intOf]; omega
          | false =>
            have HV : Hid (betweenB S a = false) := HA.out (by unfold betB; rw [if_pos hb]; exact hv)
            go_wp2_with (first | (go_at_call 103; refine (has_is _ _ _ _ har (by omega) hb).mono ?_; rintro e w' ⟨rfl, rfl⟩) | (go_at_call 76; refine (within_any _ _ _ _).mono ?_; rintro e w' ⟨rfl, rfl⟩))
            go_ret
            exact ⟨by rw [HV.out]; rfl, _, rfl⟩
        | false =>
          have hcv : inB (S.bt a k) 0 0 = betB S a k := by
            unfold betB inB
            rw [if_neg (by simp [hb])]
            rw [Bool.eq_iff_iff]
            simp
            omega
          cases hv : inB (S.bt a k) 0 0 with
          | true =>
            have HV : Hid (betB S a k = true) := by show betB S a k = true; rw [← hcv]; exact hv
            clear hcv
            go_wp2_with (first | (go_at_call 103; refine (has_is _ _ _ _ har (by omega) hb).mono ?_; rintro e w' ⟨rfl, rfl⟩) | (go_at_call 76; refine (within_any _ _ _ _).mono ?_; rintro e w' ⟨rfl, rfl⟩))
            go_roundw
            case rel => exact ⟨k + 1, by omega, by go_num, fun b hb => (by
              by_cases e : b = k
              · subst e; exact HV.out
              · exact HALL.out b (by omega)), _, rfl⟩
            case measure => simp [intOf]; omega
          | false =>
            have HV : Hid (betweenB S a = false) := HA.out (by rw [← hcv]; exact hv)
            clear hcv
            go_wp2_with (first | (go_at_call 103; refine (has_is _ _ _ _ har (by omega) hb).mono ?_; rintro e w' ⟨rfl, rfl⟩) | (go_at_call 76; refine (within_any _ _ _ _).mono ?_; rintro e w' ⟨rfl, rfl⟩))
            go_ret
            exact ⟨by rw [HV.out]; rfl, _, rfl⟩
      · have hkk : k = S.groups.length := by omega
        have hans : betweenB S a = true := by
          unfold betweenB
          rw [allB_iff.2 (fun b hb => HALL.out b (by omega)), HL.out, decide_eq_true HLEN.out]
          rfl
        have HA := Hid.mk' hans
        clear hans
        go_wp2
        go_ret
        exact ⟨by rw [HA.out]; rfl, _, rfl⟩
  · have hn0 : (((L.length : Nat) : Int) != ((S.groups.length : Nat) : Int)) = true := by rw [bne_iff_ne]; omega
    have hans : betweenB S a = false := by unfold betweenB; rw [HL.out, decide_eq_false hlen]; rfl
    have HA := Hid.mk' hans
    clear hans
    go_enter Tryd.func70, Tryd.ntmps70
    go_wp2
    go_quiet (fail)
    go_wp2
    go_ret
    exact ⟨by rw [HA.out]; rfl, _, rfl⟩

theorem unionN_lt {S : St} (h : ∀ i, (S.ph i).groups < 4294967296) : ∀ k, unionN S k < 4294967296
  | 0 => by simp [unionN]
  | k + 1 => Nat.or_lt_two_pow (n := 32) (unionN_lt h k) (h k)
set_option maxHeartbeats 1000000 in
theorem served_any {B : Nat} {X : Sa} {S : St} {w : World} (h : Sbox w B X S) (i : Int) (hO : Okay S) : Calls Tryd.prog 72 #[.pointer (some ⟨B, 0, none⟩), .int .i64 i] w fun e w' => e = .returned (.bool (servedB S)) ∧ Kept w w' none := by
  have c4 := h.c4
  have hg16 := hO.ng.2
  have hp8 := hO.np
  have HB := Hid.mk' h
  have hu : ∀ k, unionN S k < 4294967296 := unionN_lt h.sat.phr
  have HU := Hid.mk' hu
  clear hu h
  go_enter Tryd.func72, Tryd.ntmps72
  go_wp2
  go_loopw [5, 13] (fun s i wr => ∃ k : Nat, k ≤ S.phases.length ∧ i = .int .i64 k ∧ s = .int .u32 ((unionN S k : Nat) : Int) ∧ Kept w wr none) (fun _ i _ => S.phases.length - (intOf i).toNat)
  case atStart => exact ⟨0, Nat.zero_le _, rfl, rfl, Kept.refl _ _⟩
  case round =>
    obtain ⟨k, hk, rfl, rfl, hkw⟩ := hrel
    by_cases hlt : k < S.phases.length
    · obtain ⟨b, off, e, k0, k1, k2, k3, k4⟩ := (HB.out.kept hkw).sat.phAt hlt
      have hor := u32_or_nat (unionN S k) (S.ph k).groups (HU.out k) (HB.out.sat.phr k)
      rw [e] at *
      go_wp2
      go_roundw
      case rel => exact ⟨k + 1, by omega, by go_num, by rw [unionN], hkw.tr (Kept.alloc _ _ _ _ _)⟩
      case measure => simp [intOf]; omega
    · have hkk : k = S.phases.length := by omega
      subst hkk
      have hans : (((unionN S S.phases.length : Nat) : Int) == ((2 ^ S.groups.length - 1 : Nat) : Int)) = servedB S := by
        unfold servedB
        rw [Bool.eq_iff_iff]
        simp
        omega
      have HA := Hid.mk' hans
      clear hans
      go_wp2_with (go_at_call 102; refine (allGroups_any (HB.out.kept hkw) hg16).mono ?_; rintro e w' ⟨rfl, rfl⟩)
      go_ret
      exact ⟨ret_bool HA.out, hkw⟩
set_option maxHeartbeats 1000000 in
theorem eye_any {B : Nat} {X : Sa} {S : St} {w : World} (h : Sbox w B X S) (i : Nat) (hi : i < S.eyes.length) (hO : Okay S) : Calls Tryd.prog 73 #[.pointer (some ⟨B, 0, none⟩), .int .i64 i] w fun e w' => e = .returned (.bool (eyeB S i)) ∧ Kept w w' none := by
  have c4 := h.c4
  have c5 := h.c5
  have hp8 := hO.np
  have hle := hO.ne
  have hBl := h.lt
  obtain ⟨b, off, e, k0, k1, k2, k3⟩ := h.sat.eyAt hi
  rw [e] at c5
  clear h e hO
  have hkA : ∀ m, Kept w ((w.alloc (.cells #[.int .i64 (S.ey i).phase, .int .i64 (S.ey i).on, .int .i64 (S.ey i).off, .int .i64 (S.ey i).turns] 113)).drewN m) none := fun m => (Kept.alloc _ _ _ _ _ : Kept w _ none).tr (Kept.drewN _ _ _)
  cases h1 : inB (S.ey i).phase 0 ((S.phases.length : Int) - 1) with
  | false =>
    have HA : Hid (eyeB S i = false) := by show eyeB S i = false; simp [eyeB, h1]
    go_enter Tryd.func73, Tryd.ntmps73
    go_wp2
    go_quiet ((go_at_call 76; exact Calls.quiet_of_same (within_is _ _ _ _ _ h1)))
    go_wp2
    go_ret
    exact ⟨by rw [HA.out]; rfl, hkA _⟩
  | true =>
    cases h2 : timeB (S.ey i).on with
    | false =>
      have HA : Hid (eyeB S i = false) := by show eyeB S i = false; simp [eyeB, h1, h2]
      go_enter Tryd.func73, Tryd.ntmps73
      go_wp2
      go_quiet ((first | (go_at_call 76; exact Calls.quiet_of_same (within_is _ _ _ _ _ h1)) | (go_at_call 101; exact Calls.quiet_of_same (time_is _ _ _ h2))))
      go_wp2
      go_ret
      exact ⟨by rw [HA.out]; rfl, hkA _⟩
    | true =>
      cases h3 : timeB (S.ey i).off with
      | false =>
        have HA : Hid (eyeB S i = false) := by show eyeB S i = false; simp [eyeB, h1, h2, h3]
        go_enter Tryd.func73, Tryd.ntmps73
        go_wp2
        go_quiet ((first | (go_at_call 76; exact Calls.quiet_of_same (within_is _ _ _ _ _ h1)) | (go_at_call_of 101 (S.ey i).on; exact Calls.quiet_of_same (time_is _ _ _ h2)) | (go_at_call 101; exact Calls.quiet_of_same (time_is _ _ _ h3))))
        go_wp2
        go_ret
        exact ⟨by rw [HA.out]; rfl, hkA _⟩
      | true =>
        have HA : Hid (eyeB S i = inB (S.ey i).turns 1 64) := by show eyeB S i = _; simp [eyeB, h1, h2, h3]
        go_enter Tryd.func73, Tryd.ntmps73
        go_wp2
        go_quiet ((first | (go_at_call_of 76 (S.ey i).phase; exact Calls.quiet_of_same (within_is _ _ _ _ _ h1)) | (go_at_call 76; exact Calls.quiet_of_same (within_any _ _ _ _)) | (go_at_call_of 101 (S.ey i).on; exact Calls.quiet_of_same (time_is _ _ _ h2)) | (go_at_call 101; exact Calls.quiet_of_same (time_is _ _ _ h3))))
        go_wp2
        go_ret
        exact ⟨by rw [HA.out]; rfl, hkA _⟩

end Go.Proofs.YtfhmfanmnhclfaaDoor

