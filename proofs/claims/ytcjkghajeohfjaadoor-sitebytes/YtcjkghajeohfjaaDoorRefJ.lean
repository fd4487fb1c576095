/-
  Texts joined: some of those that the proofs of this seat stand on.
-/
import Derived.Test.YtcjkghajeohfjaaDoorRefI
import Derived.Test.YtcjkghajeohfjaaDoorRefK2
import Derived.Test.YtcjkghajeohfjaaDoorCodM
import Derived.Test.YtcjkghajeohfjaaDoorSiteBJ
/-
  THE DOCUMENT'S OWN Write of a site: what the program's Write answers.
-/
namespace Go.Proofs.YtcjkghajeohfjaaDoor
open Go.RowKit Go.Lib Go.Deep
set_option linter.unusedVariables false
set_option linter.unusedSimpArgs false

theorem whole_may {X : Sa} {S : St} {w : World} (h : Sat w X S) (hs : siteB S = true) : wholeE S.plans = 0 := by
  have hR := rok_may h hs
  have hP := pos_may hs
  have hSp := span_may hs
  have hO := hP.ok
  have hall : ∀ i, i < S.plans.length → planB S (S.plans.getD i q0) = true := by
    intro i hi
    have hs' := hs
    unfold siteB at hs'
    simp only [Bool.and_eq_true, allB_iff] at hs'
    exact hs'.2 i hi
  have h8 : cyclesB S = true := all_of hs 8 (by omega) 0 Nat.zero_lt_one
  unfold cyclesB at h8
  simp only [Bool.and_eq_true, inB_iff] at h8
  have hlow := hSp.low
  have hhi := hSp.high
  unfold wholeE
  rw [if_neg (by have := hR.ln; omega), if_pos]
  rw [mayL_iff]
  intro p hp
  obtain ⟨i, hi, rfl⟩ := List.getElem_of_mem hp
  have h1 := hall i hi
  have e : S.plans.getD i q0 = S.plans[i] := by simp [hi]
  rw [e] at h1
  have h2 := hR.pl _ hp
  unfold planB at h1
  simp only [Bool.and_eq_true, inB_iff, decide_eq_true_eq] at h1
  unfold tickP at h2
  unfold mayB timeB
  simp only [Bool.and_eq_true, inB_iff, List.all_eq_true]
  have hnp := hO.np
  refine ⟨⟨⟨⟨by omega, by omega⟩, by omega, by omega⟩, by omega, by omega⟩, fun x hx => ?_⟩
  have := h2.2.2.2 x hx
  omega
set_option maxRecDepth 100000 in
set_option maxHeartbeats 2000000 in
theorem rwrite5_any {X : Sa} {S : St} {w : World} (h : Sat w X S) : Calls Tryd.prog 7 #[siteV X S] w fun e w' => ∃ a' c', e = .returned (.tuple #[.slice a' (writeL S).length c', .int .i64 (checkE S)]) ∧ Mine w' w.heap.size a' (writeL S).length c' (writeL S) ∧ Kept w w' none := by
  have hkA : Kept w (w.alloc (.cells #[.int .i64 S.id, .slice X.g S.groups.length X.gc, .slice X.a S.apart.length X.ac, .slice X.b S.between.length X.bc, .slice X.p S.phases.length X.pc, .slice X.e S.eyes.length X.ec, .int .i64 S.watch, .int .i64 S.feed, .int .i64 S.heal, .int .i64 S.low, .int .i64 S.high, .slice X.l S.plans.length X.lc] 29)) none := Kept.alloc _ _ _ _ _
  have HK := Hid.mk' hkA
  have HS := Hid.mk' (h.kept hkA)
  have HSB := Hid.mk' (sbox_alloc h 29)
  cases hs : siteB S with
  | false =>
    have hce := checkE_no hs
    have hL : writeL S = [] := by unfold writeL; rw [if_neg (by rw [hs]; decide)]
    rw [hL, hce]
    clear h hkA hL
    go_enter Tryd.func7, Tryd.ntmps7
    go_wp2_with (go_at_call 20; refine (rcheck_any HS.out).mono ?_; rintro e w2 ⟨rfl, hk2⟩; rw [hce])
    go_ret2
    exact ⟨none, 0, rfl, Mine.empty _ _, HK.out.tr hk2⟩
  | true =>
    have hce := checkE_yes hs
    have hL : writeL S = siteL S ++ sum4 (siteL S) := by unfold writeL; rw [if_pos hs]
    have HPo := Hid.mk' (pos_may hs)
    have HWh := Hid.mk' (whole_may h hs)
    have hlen := siteL_len h hs
    have hlen2 : (writeL S).length = (siteL S).length + 4 := by rw [hL, List.length_append, sum4_len]
    rw [hlen2, hL, hce]
    clear h hkA hL hlen2
    go_enter Tryd.func7, Tryd.ntmps7
    go_wp2_with (first
      | (have hgo := M3; clear hgo; go_at_call 21; refine (rsummed_any w.heap.size M3.out (by have := HK.out.size; have := hk2.size; have := hk3.size; omega) (siteL_lt S) (by omega)).mono ?_; rintro e w5 ⟨a5, c5, rfl, hm5, hg5⟩)
      | (go_at_call 22; refine (rinside_any (HS.out.kept hk2) HPo.out HWh.out).mono ?_; rintro e w3 ⟨a3, c3, rfl, hm3, hk3⟩; have M3 := Hid.mk' (hm3.lower (Nat.le_trans HK.out.size hk2.size)); clear hm3)
      | (go_at_call 20; refine (rcheck_any HS.out).mono ?_; rintro e w2 ⟨rfl, hk2⟩; rw [hce]; have c0 := (HSB.out.kept hk2).c0; have c1 := (HSB.out.kept hk2).c1; have c2 := (HSB.out.kept hk2).c2; have c3 := (HSB.out.kept hk2).c3; have c4 := (HSB.out.kept hk2).c4; have c5 := (HSB.out.kept hk2).c5; have c6 := (HSB.out.kept hk2).c6; have c7 := (HSB.out.kept hk2).c7; have c8 := (HSB.out.kept hk2).c8; have c9 := (HSB.out.kept hk2).c9; have c10 := (HSB.out.kept hk2).c10; have c11 := (HSB.out.kept hk2).c11))
    go_ret2
    exact ⟨a5, c5, rfl, hm5, ((HK.out.tr hk2).tr hk3).newRow hg5 (fun i e => (M3.out.lt i e).1)⟩

end Go.Proofs.YtcjkghajeohfjaaDoor

