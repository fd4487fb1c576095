/-
  THE CONTRACTS of betweenHolds, allGroupsServed, eyeHolds.
-/
import Derived.Test.YtchjbagipbmcoaaGreatDoorCond2
namespace Go.Proofs.YtchjbagipbmcoaaGreatDoor
open Go.RowKit Go.Lib Go.Deep
set_option linter.unusedVariables false
set_option linter.unusedSimpArgs false

theorem Sat.apr {w : World} {X : Sa} {S : St} (h : Sat w X S) (i : Nat) : S.ap i < 4294967296 := by
  by_cases hi : i < S.apart.length
  · exact h.ar _ (getD_mem hi)
  · unfold St.ap; rw [List.getD_eq_getElem?_getD, List.getElem?_eq_none (by omega)]; simp
theorem Sat.phr {w : World} {X : Sa} {S : St} (h : Sat w X S) (i : Nat) : (S.ph i).groups < 4294967296 := by
  by_cases hi : i < S.phases.length
  · exact (h.pr _ (getD_mem hi)).1
  · unfold St.ph; rw [List.getD_eq_getElem?_getD, List.getElem?_eq_none (by omega)]; simp [p0]
theorem within_is (n lo hi : Int) (b : Bool) (w : World) (h : inB n lo hi = b) : Calls Tryz.prog 88 #[.int .i64 n, .int .i64 lo, .int .i64 hi] w fun e w' => e = .returned (.bool b) ∧ w' = w := by
  rw [← h]; exact within_any n lo hi w
theorem time_is (n : Int) (b : Bool) (w : World) (h : timeB n = b) : Calls Tryz.prog 89 #[.int .i64 n] w fun e w' => e = .returned (.bool b) ∧ w' = w := by
  rw [← h]; exact time_any n w
set_option maxHeartbeats 1000000 in
theorem between_any {B : Nat} {X : Sa} {S : St} {w : World} (h : Sbox w B X S) (a : Nat) (ha : a < S.groups.length) (hO : Okay S) : Calls Tryz.prog 64 #[.pointer (some ⟨B, 0, none⟩), .int .i64 a] w fun e w' => e = .returned (.bool (betweenB S a)) ∧ ∃ m, w' = w.drewN m := by
  have c1 := h.c1
  have c2 := h.c2
  have c3 := h.c3
  have hg16 := hO.ng.2
  have hna := hO.na
  have hnb := hO.nb
  obtain ⟨b, off, e, hc⟩ := h.sat.apAt (n := S.groups.length) (by omega) (by omega)
  have ka := hc a ha
  have har := h.sat.apr a
  obtain ⟨bg, og, eg, g0, g1, g2⟩ := h.sat.grAt ha
  obtain ⟨bb, ob, a', c', eb, kb, hI⟩ := h.sat.b.at_ (i := a) (by omega)
  rw [e] at c2
  rw [eg] at c1
  rw [eb] at c3
  have HI := Hid.mk' hI
  have HNA := Hid.mk' hna
  have HNB := Hid.mk' hnb
  have hlm : (S.between.getD a []).length ≤ 9223372036854775807 := by have := hI.cap.room; have := hI.cap.max; omega
  have hab : a < S.between.length := by omega
  have haa : a < S.apart.length := by omega
  clear hc h e eg eb hI hna hnb hO g0 g1
  generalize hL : S.between.getD a [] = L at *
  have HL := Hid.mk' hL
  clear hL
  by_cases hlen : L.length = S.groups.length
  · have hn0 : (((L.length : Nat) : Int) != ((S.groups.length : Nat) : Int)) = false := by rw [hlen]; simp
    have HLEN := Hid.mk' hlen
    obtain ⟨bi, oi, ea, _, hc⟩ := HI.out.at_ (by omega)
    have HC := Hid.mk' hc
    subst ea
    have hln : (L.length : Int) = (S.groups.length : Int) := by omega
    clear hlen hc
    go_enter Tryz.func64, Tryz.ntmps64
    go_wp2
    go_quiet (fail)
    go_wp2
    go_loopw [31] (fun i wr => ∃ k : Nat, k ≤ S.groups.length ∧ i = .int .i64 k ∧ (∀ b, b < k → betB S a b = true) ∧ ∃ m, wr = w.drewN m) (fun i _ => S.groups.length - (intOf i).toNat)
    case atStart => exact ⟨0, Nat.zero_le _, rfl, fun b hb => by omega, _, rfl⟩
    case round =>
      obtain ⟨k, hk, rfl, hall, m, rfl⟩ := hrel
      have HALL := Hid.mk' hall
      clear hall
      by_cases hlt : k < S.groups.length
      · have hlt2 : k < L.length := by have := HLEN.out; omega
        have kk := HC.out k hlt2
        have hbt : Hid (S.bt a k = L.getD k 0) := by show S.bt a k = _; unfold St.bt; rw [HL.out]
        have ebt := hbt.out
        rw [← ebt] at kk
        clear ebt
        have hans : betB S a k = false → betweenB S a = false := fun hh => by
          unfold betweenB
          rw [allB_no hlt hh]
          simp
        have HA := Hid.mk' hans
        clear hans
        cases hb : (S.ap a).testBit k with
        | true =>
          cases hv : inB (S.bt a k) (S.gr a).yellow 1048576 with
          | true =>
            have HV : Hid (betB S a k = true) := by show betB S a k = true; unfold betB; rw [if_pos hb]; exact hv
            go_wp2_with (first | (go_at_call 91; refine (has_is _ _ _ _ har (by omega) hb).mono ?_; rintro e w' ⟨rfl, rfl⟩) | (go_at_call 88; refine (within_any _ _ _ _).mono ?_; rintro e w' ⟨rfl, rfl⟩))
            go_roundw
            case rel => exact ⟨k + 1, by omega, by go_num, fun b hb => (by
              by_cases e : b = k
              · subst e; exact HV.out
              · exact HALL.out b (by omega)), _, rfl⟩
            case measure => simp [intOf]; omega
          | false =>
            have HV : Hid (betweenB S a = false) := HA.out (by unfold betB; rw [if_pos hb]; exact hv)
            go_wp2_with (first | (go_at_call 91; refine (has_is _ _ _ _ har (by omega) hb).mono ?_; rintro e w' ⟨rfl, rfl⟩) | (go_at_call 88; refine (within_any _ _ _ _).mono ?_; rintro e w' ⟨rfl, rfl⟩))
            go_ret
            exact ⟨by rw [HV.out]; rfl, _, rfl⟩
        | false =>
          have hcv : inB (S.bt a k) 0 0 = betB S a k := by
            unfold betB inB
            rw [if_neg (by simp [hb])]
            rw [Bool.eq_iff_iff]
            simp
            omega
          cases hv : inB (S.bt a k) 0 0 with
          | true =>
            have HV : Hid (betB S a k = true) := by show betB S a k = true; rw [← hcv]; exact hv
            clear hcv
            go_wp2_with (first | (go_at_call 91; refine (has_is _ _ _ _ har (by omega) hb).mono ?_; rintro e w' ⟨rfl, rfl⟩) | (go_at_call 88; refine (within_any _ _ _ _).mono ?_; rintro e w' ⟨rfl, rfl⟩))
            go_roundw
            case rel => exact ⟨k + 1, by omega, by go_num, fun b hb => (by
              by_cases e : b = k
              · subst e; exact HV.out
              · exact HALL.out b (by omega)), _, rfl⟩
            case measure => simp [intOf]; omega
          | false =>
            have HV : Hid (betweenB S a = false) := HA.out (by rw [← hcv]; exact hv)
            clear hcv
            go_wp2_with (first | (go_at_call 91; refine (has_is _ _ _ _ har (by omega) hb).mono ?_; rintro e w' ⟨rfl, rfl⟩) | (go_at_call 88; refine (within_any _ _ _ _).mono ?_; rintro e w' ⟨rfl, rfl⟩))
            go_ret
            exact ⟨by rw [HV.out]; rfl, _, rfl⟩
      · have hkk : k = S.groups.length := by omega
        have hans : betweenB S a = true := by
          unfold betweenB
          rw [allB_iff.2 (fun b hb => HALL.out b (by omega)), HL.out, decide_eq_true HLEN.out]
          rfl
        have HA := Hid.mk' hans
        clear hans
        go_wp2
        go_ret
        exact ⟨by rw [HA.out]; rfl, _, rfl⟩
  · have hn0 : (((L.length : Nat) : Int) != ((S.groups.length : Nat) : Int)) = true := by rw [bne_iff_ne]; omega
    have hans : betweenB S a = false := by unfold betweenB; rw [HL.out, decide_eq_false hlen]; rfl
    have HA := Hid.mk' hans
    clear hans
    go_enter Tryz.func64, Tryz.ntmps64
    go_wp2
    go_quiet (fail)
    go_wp2
    go_ret
    exact ⟨by rw [HA.out]; rfl, _, rfl⟩

theorem unionN_lt {S : St} (h : ∀ i, (S.ph i).groups < 4294967296) : ∀ k, unionN S k < 4294967296
  | 0 => by simp [unionN]
  | k + 1 => Nat.or_lt_two_pow (n := 32) (unionN_lt h k) (h k)
set_option maxHeartbeats 1000000 in
theorem served_any {B : Nat} {X : Sa} {S : St} {w : World} (h : Sbox w B X S) (i : Int) (hO : Okay S) : Calls Tryz.prog 66 #[.pointer (some ⟨B, 0, none⟩), .int .i64 i] w fun e w' => e = .returned (.bool (servedB S)) ∧ Kept w w' none := by
  have c4 := h.c4
  have hg16 := hO.ng.2
  have hp8 := hO.np
  have HB := Hid.mk' h
  have hu : ∀ k, unionN S k < 4294967296 := unionN_lt h.sat.phr
  have HU := Hid.mk' hu
  clear hu h
  go_enter Tryz.func66, Tryz.ntmps66
  go_wp2
  go_loopw [5, 13] (fun s i wr => ∃ k : Nat, k ≤ S.phases.length ∧ i = .int .i64 k ∧ s = .int .u32 ((unionN S k : Nat) : Int) ∧ Kept w wr none) (fun _ i _ => S.phases.length - (intOf i).toNat)
  case atStart => exact ⟨0, Nat.zero_le _, rfl, rfl, Kept.refl _ _⟩
  case round =>
    obtain ⟨k, hk, rfl, rfl, hkw⟩ := hrel
    by_cases hlt : k < S.phases.length
    · obtain ⟨b, off, e, k0, k1, k2, k3, k4⟩ := (HB.out.kept hkw).sat.phAt hlt
      have hor := u32_or_nat (unionN S k) (S.ph k).groups (HU.out k) (HB.out.sat.phr k)
      rw [e] at *
      go_wp2
      go_roundw
      case rel => exact ⟨k + 1, by omega, by go_num, by rw [unionN], hkw.tr (Kept.alloc _ _ _ _ _)⟩
      case measure => simp [intOf]; omega
    · have hkk : k = S.phases.length := by omega
      subst hkk
      have hans : (((unionN S S.phases.length : Nat) : Int) == ((2 ^ S.groups.length - 1 : Nat) : Int)) = servedB S := by
        unfold servedB
        rw [Bool.eq_iff_iff]
        simp
        omega
      have HA := Hid.mk' hans
      clear hans
      go_wp2_with (go_at_call 90; refine (allGroups_any (HB.out.kept hkw) hg16).mono ?_; rintro e w' ⟨rfl, rfl⟩)
      go_ret
      exact ⟨ret_bool HA.out, hkw⟩
set_option maxHeartbeats 1000000 in
theorem eye_any {B : Nat} {X : Sa} {S : St} {w : World} (h : Sbox w B X S) (i : Nat) (hi : i < S.eyes.length) (hO : Okay S) : Calls Tryz.prog 67 #[.pointer (some ⟨B, 0, none⟩), .int .i64 i] w fun e w' => e = .returned (.bool (eyeB S i)) ∧ Kept w w' none := by
  have c4 := h.c4
  have c5 := h.c5
  have hp8 := hO.np
  have hle := hO.ne
  have hBl := h.lt
  obtain ⟨b, off, e, k0, k1, k2, k3⟩ := h.sat.eyAt hi
  rw [e] at c5
  clear h e hO
  have hkA : ∀ m, Kept w ((w.alloc (.cells #[.int .i64 (S.ey i).phase, .int .i64 (S.ey i).on, .int .i64 (S.ey i).off, .int .i64 (S.ey i).turns] 74)).drewN m) none := fun m => (Kept.alloc _ _ _ _ _ : Kept w _ none).tr (Kept.drewN _ _ _)
  cases h1 : inB (S.ey i).phase 0 ((S.phases.length : Int) - 1) with
  | false =>
    have HA : Hid (eyeB S i = false) := by show eyeB S i = false; simp [eyeB, h1]
    go_enter Tryz.func67, Tryz.ntmps67
    go_wp2
    go_quiet ((go_at_call 88; exact Calls.quiet_of_same (within_is _ _ _ _ _ h1)))
    go_wp2
    go_ret
    exact ⟨by rw [HA.out]; rfl, hkA _⟩
  | true =>
    cases h2 : timeB (S.ey i).on with
    | false =>
      have HA : Hid (eyeB S i = false) := by show eyeB S i = false; simp [eyeB, h1, h2]
      go_enter Tryz.func67, Tryz.ntmps67
      go_wp2
      go_quiet ((first | (go_at_call 88; exact Calls.quiet_of_same (within_is _ _ _ _ _ h1)) | (go_at_call 89; exact Calls.quiet_of_same (time_is _ _ _ h2))))
      go_wp2
      go_ret
      exact ⟨by rw [HA.out]; rfl, hkA _⟩
    | true =>
      cases h3 : timeB (S.ey i).off with
      | false =>
        have HA : Hid (eyeB S i = false) := by show eyeB S i = false; simp [eyeB, h1, h2, h3]
        go_enter Tryz.func67, Tryz.ntmps67
        go_wp2
        go_quiet ((first | (go_at_call 88; exact Calls.quiet_of_same (within_is _ _ _ _ _ h1)) | (go_at_call_of 89 (S.ey i).on; exact Calls.quiet_of_same (time_is _ _ _ h2)) | (go_at_call 89; exact Calls.quiet_of_same (time_is _ _ _ h3))))
        go_wp2
        go_ret
        exact ⟨by rw [HA.out]; rfl, hkA _⟩
      | true =>
        have HA : Hid (eyeB S i = inB (S.ey i).turns 1 64) := by show eyeB S i = _; simp [eyeB, h1, h2, h3]
        go_enter Tryz.func67, Tryz.ntmps67
        go_wp2
        go_quiet ((first | (go_at_call_of 88 (S.ey i).phase; exact Calls.quiet_of_same (within_is _ _ _ _ _ h1)) | (go_at_call 88; exact Calls.quiet_of_same (within_any _ _ _ _)) | (go_at_call_of 89 (S.ey i).on; exact Calls.quiet_of_same (time_is _ _ _ h2)) | (go_at_call 89; exact Calls.quiet_of_same (time_is _ _ _ h3))))
        go_wp2
        go_ret
        exact ⟨by rw [HA.out]; rfl, hkA _⟩

end Go.Proofs.YtchjbagipbmcoaaGreatDoor
