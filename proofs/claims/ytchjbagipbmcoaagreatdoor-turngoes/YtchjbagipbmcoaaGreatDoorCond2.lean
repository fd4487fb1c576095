/-
  THE CONTRACTS of apartHolds, betweenHolds, allGroupsServed, eyeHolds.
-/
import Derived.Test.YtchjbagipbmcoaaGreatDoorCond
namespace Go.Proofs.YtchjbagipbmcoaaGreatDoor
open Go.RowKit Go.Lib Go.Deep
set_option linter.unusedVariables false
set_option linter.unusedSimpArgs false

theorem has_n (S i : Nat) (w : World) (hS : S < 4294967296) (hi : i < 32) : Calls Tryz.prog 91 #[.int .u32 S, .int .i64 i] w fun e w' => e = .returned (.bool (S.testBit i)) ∧ w' = w := by
  rw [← has_in hi]; exact has_any S i w hS
theorem has_is (S i : Nat) (b : Bool) (w : World) (hS : S < 4294967296) (hi : i < 32) (h : S.testBit i = b) : Calls Tryz.prog 91 #[.int .u32 S, .int .i64 i] w fun e w' => e = .returned (.bool b) ∧ w' = w := by
  rw [← h]; exact has_n S i w hS hi
set_option maxHeartbeats 1000000 in
theorem apart_any {B : Nat} {X : Sa} {S : St} {w : World} (h : Sbox w B X S) (a : Nat) (ha : a < S.groups.length) (hO : Okay S) : Calls Tryz.prog 63 #[.pointer (some ⟨B, 0, none⟩), .int .i64 a] w fun e w' => e = .returned (.bool (apartB S a)) ∧ ∃ m, w' = w.drewN m := by
  have c1 := h.c1
  have c2 := h.c2
  have hg16 := hO.ng.2
  have hna := hO.na
  have HB := Hid.mk' h
  obtain ⟨b, off, e, hc⟩ := h.sat.apAt (n := S.groups.length) (by omega) (by omega)
  rw [e] at c2
  have HC := Hid.mk' hc
  have ka := hc a ha
  have hr : ∀ i, S.ap i < 4294967296 := fun i => by
    by_cases hi : i < S.apart.length
    · exact h.sat.ar _ (getD_mem hi)
    · unfold St.ap; rw [List.getD_eq_getElem?_getD, List.getElem?_eq_none (by omega)]; simp
  have HR := Hid.mk' hr
  have har := hr a
  have hpl : 2 ^ S.groups.length - 1 < 4294967296 := by have := pow_lt32 (i := S.groups.length) (by omega); omega
  have han := u32_andNot_nat (S.ap a) (2 ^ S.groups.length - 1) har hpl
  have hlo := low_andn (S.ap a) S.groups.length har (by omega)
  by_cases hlow : S.ap a < 2 ^ S.groups.length
  · have hz := hlo.2 hlow
    have hz2 : (bits .andNot .u32 (S.ap a : Int) ((2 ^ S.groups.length - 1 : Nat) : Int) != 0) = false := by rw [han, hz]; rfl
    clear han hlo hz hc hr h e
    cases hself : (S.ap a).testBit a with
    | true =>
      have hans : apartB S a = false := by simp [apartB, hself]
      have HA := Hid.mk' hans
      clear hans
      go_enter Tryz.func63, Tryz.ntmps63
      go_wp2
      go_quiet ((first | (go_at_call 90; exact Calls.quiet_of_same (allGroups_any (HB.out.kept (Kept.drewN _ _ _)) hg16)) | (go_at_call 91; exact Calls.quiet_of_same (has_is _ _ _ _ har (by omega) hself))))
      go_wp2
      go_ret
      exact ⟨by rw [HA.out]; rfl, _, rfl⟩
    | false =>
      go_enter Tryz.func63, Tryz.ntmps63
      go_wp2
      go_quiet ((first | (go_at_call 90; exact Calls.quiet_of_same (allGroups_any (HB.out.kept (Kept.drewN _ _ _)) hg16)) | (go_at_call 91; exact Calls.quiet_of_same (has_is _ _ _ _ har (by omega) hself))))
      go_wp2
      go_loopw [34] (fun i wr => ∃ k : Nat, k ≤ S.groups.length ∧ i = .int .i64 k ∧ (∀ b, b < k → (S.ap a).testBit b = (S.ap b).testBit a) ∧ ∃ m, wr = w.drewN m) (fun i _ => S.groups.length - (intOf i).toNat)
      case atStart => exact ⟨0, Nat.zero_le _, rfl, fun b hb => by omega, _, rfl⟩
      case round =>
        obtain ⟨k, hk, rfl, hall, m, rfl⟩ := hrel
        have HALL := Hid.mk' hall
        have HLOW := Hid.mk' hlow
        have HSELF := Hid.mk' hself
        clear hall
        by_cases hlt : k < S.groups.length
        · have kb := HC.out k hlt
          have hbr := HR.out k
          cases heq : ((S.ap a).testBit k == (S.ap k).testBit a) with
          | true =>
            have hne : (!((S.ap a).testBit k == (S.ap k).testBit a)) = false := by rw [heq]; rfl
            have HEQ := Hid.mk' heq
            clear heq
            go_wp2_with (first | (go_at_call_of 91 (S.ap a); refine (has_n _ _ _ har (by omega)).mono ?_; rintro e w' ⟨rfl, rfl⟩) | (go_at_call 91; refine (has_n _ _ _ hbr (by omega)).mono ?_; rintro e w' ⟨rfl, rfl⟩))
            all_goals
              go_roundw
              case rel => exact ⟨k + 1, by omega, by go_num, fun b hb => by
                by_cases e : b = k
                · subst e; exact eq_of_beq HEQ.out
                · exact HALL.out b (by omega), _, rfl⟩
              case measure => simp [intOf]; omega
          | false =>
            have hne : (!((S.ap a).testBit k == (S.ap k).testBit a)) = true := by rw [heq]; rfl
            have hans : apartB S a = false := by
              unfold apartB
              rw [allB_no hlt heq]
              simp
            have HA := Hid.mk' hans
            clear heq hans
            go_wp2_with (first | (go_at_call_of 91 (S.ap a); refine (has_n _ _ _ har (by omega)).mono ?_; rintro e w' ⟨rfl, rfl⟩) | (go_at_call 91; refine (has_n _ _ _ hbr (by omega)).mono ?_; rintro e w' ⟨rfl, rfl⟩))
            all_goals
              go_ret
              exact ⟨by rw [HA.out]; rfl, _, rfl⟩
        · have hkk : k = S.groups.length := by omega
          have hans : apartB S a = true := by
            unfold apartB
            rw [allB_iff.2 (fun b hb => by rw [HALL.out b (by omega)]; exact beq_self_eq_true _), HSELF.out, decide_eq_true HLOW.out]
            rfl
          have HA := Hid.mk' hans
          clear hans
          go_wp2
          go_ret
          exact ⟨by rw [HA.out]; rfl, _, rfl⟩
  · have hz := fun e => hlow (hlo.1 e)
    have hz2 : (bits .andNot .u32 (S.ap a : Int) ((2 ^ S.groups.length - 1 : Nat) : Int) != 0) = true := by
      rw [han, bne_iff_ne]
      intro e
      exact hz (by omega)
    have hans : apartB S a = false := by simp [apartB, hlow]
    have HA := Hid.mk' hans
    clear han hlo hz hc hr h e hans
    go_enter Tryz.func63, Tryz.ntmps63
    go_wp2
    go_quiet ((go_at_call 90; exact Calls.quiet_of_same (allGroups_any (HB.out.kept (Kept.drewN _ _ _)) hg16)))
    go_wp2
    go_ret
    exact ⟨by rw [HA.out]; rfl, _, rfl⟩

end Go.Proofs.YtchjbagipbmcoaaGreatDoor
