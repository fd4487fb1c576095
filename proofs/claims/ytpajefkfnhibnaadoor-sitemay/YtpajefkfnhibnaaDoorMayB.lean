/-
  THE WALK of SiteMay: numbers beyond one of the lists.
-/
import Derived.Test.YtpajefkfnhibnaaDoorMayL
namespace Go.Proofs.YtpajefkfnhibnaaDoor
open Go.RowKit Go.Lib Go.Deep
set_option linter.unusedVariables false
set_option linter.unusedSimpArgs false

set_option maxRecDepth 100000 in
set_option maxHeartbeats 20000000 in
theorem smay_ft {X : Sa} {S : St} {w : World} {p : Pl} {pa : Option Addr} {pc : Nat} (h : Sat w X S) (hI : Ints w pa p.splits.length pc p.splits) (hT : Tabb w) (a b : Nat) (hs : siteB S = true) (hg : ¬ (a < S.groups.length ∧ b < S.groups.length)) (hpa : a < S.phases.length) (hpb : b < S.phases.length) : Calls Tryd.prog 4 #[siteV X S, .int .i64 a, .int .i64 b, planV p pa pc] w fun e w' => e = .returned (.bool true) ∧ Below w.heap.size w w' := by
  obtain ⟨xg, xgc, xa, xac, xb, xbc, xp, xpc, xe, xec, xl, xlc⟩ := X
  have k1 : Kept w (w.alloc (.cells #[.int .i64 S.id, .slice xg S.groups.length xgc, .slice xa S.apart.length xac, .slice xb S.between.length xbc, .slice xp S.phases.length xpc, .slice xe S.eyes.length xec, .int .i64 S.watch, .int .i64 S.feed, .int .i64 S.heal, .int .i64 S.low, .int .i64 S.high, .slice xl S.plans.length xlc] 29)) none := Kept.alloc _ _ _ _ _
  have k2 : Kept (w.alloc (.cells #[.int .i64 S.id, .slice xg S.groups.length xgc, .slice xa S.apart.length xac, .slice xb S.between.length xbc, .slice xp S.phases.length xpc, .slice xe S.eyes.length xec, .int .i64 S.watch, .int .i64 S.feed, .int .i64 S.heal, .int .i64 S.low, .int .i64 S.high, .slice xl S.plans.length xlc] 29)) ((w.alloc (.cells #[.int .i64 S.id, .slice xg S.groups.length xgc, .slice xa S.apart.length xac, .slice xb S.between.length xbc, .slice xp S.phases.length xpc, .slice xe S.eyes.length xec, .int .i64 S.watch, .int .i64 S.feed, .int .i64 S.heal, .int .i64 S.low, .int .i64 S.high, .slice xl S.plans.length xlc] 29)).alloc (.cells #[.int .i64 p.cycle, .int .i64 p.offset, .slice pa p.splits.length pc] 43)) none := Kept.alloc _ _ _ _ _
  have HX := Hid.mk' ((sbox_alloc h 29).kept k2)
  have HK := Hid.mk' (k1.tr k2)
  have HT := Hid.mk' (hT.kept (k1.tr k2))
  have HI := Hid.mk' (hI.kept (k1.tr k2))
  have q := box3 (w.alloc (.cells #[.int .i64 S.id, .slice xg S.groups.length xgc, .slice xa S.apart.length xac, .slice xb S.between.length xbc, .slice xp S.phases.length xpc, .slice xe S.eyes.length xec, .int .i64 S.watch, .int .i64 S.feed, .int .i64 S.heal, .int .i64 S.low, .int .i64 S.high, .slice xl S.plans.length xlc] 29)) (.int .i64 p.cycle) (.int .i64 p.offset) (.slice pa p.splits.length pc) 43
  rw [show (w.alloc (.cells #[.int .i64 S.id, .slice xg S.groups.length xgc, .slice xa S.apart.length xac, .slice xb S.between.length xbc, .slice xp S.phases.length xpc, .slice xe S.eyes.length xec, .int .i64 S.watch, .int .i64 S.feed, .int .i64 S.heal, .int .i64 S.low, .int .i64 S.high, .slice xl S.plans.length xlc] 29)).heap.size = w.heap.size + 1 by simp] at q
  have HP : Hid (∀ w', Kept ((w.alloc (.cells #[.int .i64 S.id, .slice xg S.groups.length xgc, .slice xa S.apart.length xac, .slice xb S.between.length xbc, .slice xp S.phases.length xpc, .slice xe S.eyes.length xec, .int .i64 S.watch, .int .i64 S.feed, .int .i64 S.heal, .int .i64 S.low, .int .i64 S.high, .slice xl S.plans.length xlc] 29)).alloc (.cells #[.int .i64 p.cycle, .int .i64 p.offset, .slice pa p.splits.length pc] 43)) w' none → w'.cell? ⟨w.heap.size + 1, 0, none⟩ = some (.int .i64 p.cycle) ∧ w'.cell? ⟨w.heap.size + 1, 1, none⟩ = some (.int .i64 p.offset) ∧ w'.cell? ⟨w.heap.size + 1, 2, none⟩ = some (.slice pa p.splits.length pc)) := fun w' z => ⟨cell_kept0 q.1 z, cell_kept0 q.2.1 z, cell_kept0 q.2.2 z⟩
  have hlm : p.splits.length ≤ 9223372036854775807 := by have := hI.cap.room; have := hI.cap.max; omega
  have hgm : S.groups.length ≤ 9223372036854775807 := manyN_le h 1
  have hpm : S.phases.length ≤ 9223372036854775807 := manyN_le h 2
  have HSB := Hid.mk' hs
  have HCE := Hid.mk' (checkE_yes hs)
  have HSN := Hid.mk' (span_may hs)
  have HSH := Hid.mk' (span_may hs).base.sh
  obtain ⟨WM, hWM⟩ : ∃ x, worstM S = x := ⟨_, rfl⟩
  have HWM := Hid.mk' hWM
  obtain ⟨PL, hPL⟩ : ∃ x, planB S p = x := ⟨_, rfl⟩
  have HPL := Hid.mk' hPL
  clear hWM hPL
  have HPG : Hid (pairE S a b S.groups.length = 2) := pairE_out hs (by omega)
  obtain ⟨LM, hLM⟩ : ∃ x, liesM S a b = x := ⟨_, rfl⟩
  have HLM := Hid.mk' hLM
  clear hLM
  clear hs
  clear h hI hT k1 k2 q
  obtain ⟨c0, c1, c2, c3, c4, c5, c6, c7, c8, c9, c10, c11, _⟩ := HX.out
  obtain ⟨p0, p1, p2⟩ := HP.out _ (Kept.refl _ _)
  go_enter Tryd.func4, Tryd.ntmps4
  go_wp2_with fail
  go_at_call 18
  refine (rgreat_any HX.out.sat).mono ?_
  rintro e w1 ⟨gr, rfl, hgr, hk1⟩
  clear c0 c1 c2 c3 c4 c5 c6 c7 c8 c9 c10 c11 p0 p1 p2
  have K1 := Hid.mk' hk1
  obtain ⟨c0, c1, c2, c3, c4, c5, c6, c7, c8, c9, c10, c11, _⟩ := HX.out.kept hk1
  obtain ⟨p0, p1, p2⟩ := HP.out _ hk1
  clear hk1
  cases gr with
  | true =>
    go_wp2
    go_ret
    exact ⟨rfl, (HK.out.tr K1.out).below⟩
  | false =>
  by_cases h40 : (40 : Int) < (p.splits.length : Int)
  case pos =>
    go_wp2
    go_ret
    exact ⟨rfl, (HK.out.tr K1.out).below⟩
  have hF := hgr rfl
  clear hgr
  go_wp2_with fail
  go_at_call 19
  refine (twin_any (HX.out.sat.kept K1.out) (by have := hF.g; omega) (by have := hF.a; omega) hF.b (by have := hF.p; omega) hF.e hF.l (fun i hi => by have := hF.br i hi; omega) hF.lr).mono ?_
  rintro e w2 ⟨⟨yg, ygc, ya, yac, yb, ybc, yp, ypc, ye, yec, yl, ylc⟩, rfl, hS2, hk2⟩
  clear c0 c1 c2 c3 c4 c5 c6 c7 c8 c9 c10 c11 p0 p1 p2
  have k3 : Kept w2 (w2.alloc (.cells #[.int .i64 S.id, .slice yg S.groups.length ygc, .slice ya S.apart.length yac, .slice yb S.between.length ybc, .slice yp S.phases.length ypc, .slice ye S.eyes.length yec, .int .i64 S.watch, .int .i64 S.feed, .int .i64 S.heal, .int .i64 S.low, .int .i64 S.high, .slice yl S.plans.length ylc] 29)) none := Kept.alloc _ _ _ _ _
  have HO := Hid.mk' (sbox_alloc hS2 29)
  have KA := Hid.mk' ((K1.out.tr hk2).tr k3)
  have HX := Hid.mk' (HX.out.kept KA.out)
  have HT3 := Hid.mk' (HT.out.kept KA.out)
  have HI := Hid.mk' (HI.out.kept KA.out)
  have HP : Hid (∀ w', Kept (w2.alloc (.cells #[.int .i64 S.id, .slice yg S.groups.length ygc, .slice ya S.apart.length yac, .slice yb S.between.length ybc, .slice yp S.phases.length ypc, .slice ye S.eyes.length yec, .int .i64 S.watch, .int .i64 S.feed, .int .i64 S.heal, .int .i64 S.low, .int .i64 S.high, .slice yl S.plans.length ylc] 29)) w' none → w'.cell? ⟨w.heap.size + 1, 0, none⟩ = some (.int .i64 p.cycle) ∧ w'.cell? ⟨w.heap.size + 1, 1, none⟩ = some (.int .i64 p.offset) ∧ w'.cell? ⟨w.heap.size + 1, 2, none⟩ = some (.slice pa p.splits.length pc)) := fun w' z => HP.out w' (KA.out.tr z)
  have K2 : Hid (Kept (w2.alloc (.cells #[.int .i64 S.id, .slice yg S.groups.length ygc, .slice ya S.apart.length yac, .slice yb S.between.length ybc, .slice yp S.phases.length ypc, .slice ye S.eyes.length yec, .int .i64 S.watch, .int .i64 S.feed, .int .i64 S.heal, .int .i64 S.low, .int .i64 S.high, .slice yl S.plans.length ylc] 29)) (w2.alloc (.cells #[.int .i64 S.id, .slice yg S.groups.length ygc, .slice ya S.apart.length yac, .slice yb S.between.length ybc, .slice yp S.phases.length ypc, .slice ye S.eyes.length yec, .int .i64 S.watch, .int .i64 S.feed, .int .i64 S.heal, .int .i64 S.low, .int .i64 S.high, .slice yl S.plans.length ylc] 29)) none) := Kept.refl _ _
  clear hS2 hk2 k3 hF
  obtain ⟨c0, c1, c2, c3, c4, c5, c6, c7, c8, c9, c10, c11, _⟩ := HX.out.kept (Kept.refl _ _); obtain ⟨d0, d1, d2, d3, d4, d5, d6, d7, d8, d9, d10, d11, _⟩ := HO.out.kept (Kept.refl _ _); obtain ⟨p0, p1, p2⟩ := HP.out _ (Kept.refl _ _)
  go_wp2_with (first
    | (have hgo := K12; clear hgo; go_at_call 27; have hn := rsame_site (HO.out.sat.kept K12.out) (HX.out.sat.kept K12.out); refine hn.mono ?_; rintro e v13 ⟨rfl, hk13⟩; have K13 := Hid.mk' (K12.out.tr hk13); clear hk13 hn; clear c0 c1 c2 c3 c4 c5 c6 c7 c8 c9 c10 c11 d0 d1 d2 d3 d4 d5 d6 d7 d8 d9 d10 d11 p0 p1 p2; obtain ⟨c0, c1, c2, c3, c4, c5, c6, c7, c8, c9, c10, c11, _⟩ := HX.out.kept K13.out; obtain ⟨d0, d1, d2, d3, d4, d5, d6, d7, d8, d9, d10, d11, _⟩ := HO.out.kept K13.out; obtain ⟨p0, p1, p2⟩ := HP.out _ K13.out)
    | (have hgo := K11; clear hgo; go_at_call 26; have hn := rplan_yes (HX.out.sat.kept K11.out) HSN.out p pa pc (HI.out.kept K11.out); rw [HPL.out] at hn; refine hn.mono ?_; rintro e v12 ⟨rfl, hk12⟩; have K12 := Hid.mk' (K11.out.tr hk12); clear hk12 hn; clear c0 c1 c2 c3 c4 c5 c6 c7 c8 c9 c10 c11 d0 d1 d2 d3 d4 d5 d6 d7 d8 d9 d10 d11 p0 p1 p2; obtain ⟨c0, c1, c2, c3, c4, c5, c6, c7, c8, c9, c10, c11, _⟩ := HX.out.kept K12.out; obtain ⟨d0, d1, d2, d3, d4, d5, d6, d7, d8, d9, d10, d11, _⟩ := HO.out.kept K12.out; obtain ⟨p0, p1, p2⟩ := HP.out _ K12.out)
    | (have hgo := K10; clear hgo; go_at_call 25; have hn := rworst_yes (HX.out.sat.kept K10.out) HSH.out; rw [HWM.out] at hn; refine hn.mono ?_; rintro e v11 ⟨rfl, hk11⟩; have K11 := Hid.mk' (K10.out.tr hk11); clear hk11 hn; clear c0 c1 c2 c3 c4 c5 c6 c7 c8 c9 c10 c11 d0 d1 d2 d3 d4 d5 d6 d7 d8 d9 d10 d11 p0 p1 p2; obtain ⟨c0, c1, c2, c3, c4, c5, c6, c7, c8, c9, c10, c11, _⟩ := HX.out.kept K11.out; obtain ⟨d0, d1, d2, d3, d4, d5, d6, d7, d8, d9, d10, d11, _⟩ := HO.out.kept K11.out; obtain ⟨p0, p1, p2⟩ := HP.out _ K11.out)
    | (have hgo := K9; clear hgo; go_at_call 24; have hn := rclear_yes (HX.out.sat.kept K9.out) HSH.out a b hpa hpb; rw [HLM.out] at hn; refine hn.mono ?_; rintro e v10 ⟨rfl, hk10⟩; have K10 := Hid.mk' (K9.out.tr hk10); clear hk10 hn; clear c0 c1 c2 c3 c4 c5 c6 c7 c8 c9 c10 c11 d0 d1 d2 d3 d4 d5 d6 d7 d8 d9 d10 d11 p0 p1 p2; obtain ⟨c0, c1, c2, c3, c4, c5, c6, c7, c8, c9, c10, c11, _⟩ := HX.out.kept K10.out; obtain ⟨d0, d1, d2, d3, d4, d5, d6, d7, d8, d9, d10, d11, _⟩ := HO.out.kept K10.out; obtain ⟨p0, p1, p2⟩ := HP.out _ K10.out)
    | (have hgo := K8; clear hgo; go_at_call 13; have hn := planq_yes (HO.out.sat.kept K8.out) (HT3.out.kept K8.out) HSB.out p pa pc (HI.out.kept K8.out); rw [HPL.out] at hn; refine hn.mono ?_; rintro e v9 ⟨rfl, hk9⟩; have K9 := Hid.mk' (K8.out.tr hk9); clear hk9 hn; clear c0 c1 c2 c3 c4 c5 c6 c7 c8 c9 c10 c11 d0 d1 d2 d3 d4 d5 d6 d7 d8 d9 d10 d11 p0 p1 p2; obtain ⟨c0, c1, c2, c3, c4, c5, c6, c7, c8, c9, c10, c11, _⟩ := HX.out.kept K9.out; obtain ⟨d0, d1, d2, d3, d4, d5, d6, d7, d8, d9, d10, d11, _⟩ := HO.out.kept K9.out; obtain ⟨p0, p1, p2⟩ := HP.out _ K9.out)
    | (have hgo := K7; clear hgo; go_at_call 11; have hn := clearq_yes (HO.out.sat.kept K7.out) (HT3.out.kept K7.out) a b HSB.out hpa hpb; rw [HLM.out] at hn; refine hn.mono ?_; rintro e v8 ⟨rfl, hk8⟩; have K8 := Hid.mk' (K7.out.tr hk8); clear hk8 hn; clear c0 c1 c2 c3 c4 c5 c6 c7 c8 c9 c10 c11 d0 d1 d2 d3 d4 d5 d6 d7 d8 d9 d10 d11 p0 p1 p2; obtain ⟨c0, c1, c2, c3, c4, c5, c6, c7, c8, c9, c10, c11, _⟩ := HX.out.kept K8.out; obtain ⟨d0, d1, d2, d3, d4, d5, d6, d7, d8, d9, d10, d11, _⟩ := HO.out.kept K8.out; obtain ⟨p0, p1, p2⟩ := HP.out _ K8.out)
    | (have hgo := K6; clear hgo; go_at_call 10; have hn := worst_yes (HO.out.sat.kept K6.out) (HT3.out.kept K6.out) HSB.out; rw [HWM.out] at hn; refine hn.mono ?_; rintro e v7 ⟨rfl, hk7⟩; have K7 := Hid.mk' (K6.out.tr hk7); clear hk7 hn; clear c0 c1 c2 c3 c4 c5 c6 c7 c8 c9 c10 c11 d0 d1 d2 d3 d4 d5 d6 d7 d8 d9 d10 d11 p0 p1 p2; obtain ⟨c0, c1, c2, c3, c4, c5, c6, c7, c8, c9, c10, c11, _⟩ := HX.out.kept K7.out; obtain ⟨d0, d1, d2, d3, d4, d5, d6, d7, d8, d9, d10, d11, _⟩ := HO.out.kept K7.out; obtain ⟨p0, p1, p2⟩ := HP.out _ K7.out)
    | (have hgo := K5; clear hgo; go_at_call 21; have hn := betweenq_no (HO.out.sat.kept K5.out) (HT3.out.kept K5.out) a b (by rw [HPG.out]; decide); rw [HPG.out] at hn; refine hn.mono ?_; rintro e v6 ⟨rfl, hk6⟩; have K6 := Hid.mk' (K5.out.tr hk6); clear hk6 hn; clear c0 c1 c2 c3 c4 c5 c6 c7 c8 c9 c10 c11 d0 d1 d2 d3 d4 d5 d6 d7 d8 d9 d10 d11 p0 p1 p2; obtain ⟨c0, c1, c2, c3, c4, c5, c6, c7, c8, c9, c10, c11, _⟩ := HX.out.kept K6.out; obtain ⟨d0, d1, d2, d3, d4, d5, d6, d7, d8, d9, d10, d11, _⟩ := HO.out.kept K6.out; obtain ⟨p0, p1, p2⟩ := HP.out _ K6.out)
    | (have hgo := K4; clear hgo; go_at_call 12; have hn := apartq_no (HO.out.sat.kept K4.out) (HT3.out.kept K4.out) a b (by rw [HPG.out]; decide); rw [HPG.out] at hn; refine hn.mono ?_; rintro e v5 ⟨rfl, hk5⟩; have K5 := Hid.mk' (K4.out.tr hk5); clear hk5 hn; clear c0 c1 c2 c3 c4 c5 c6 c7 c8 c9 c10 c11 d0 d1 d2 d3 d4 d5 d6 d7 d8 d9 d10 d11 p0 p1 p2; obtain ⟨c0, c1, c2, c3, c4, c5, c6, c7, c8, c9, c10, c11, _⟩ := HX.out.kept K5.out; obtain ⟨d0, d1, d2, d3, d4, d5, d6, d7, d8, d9, d10, d11, _⟩ := HO.out.kept K5.out; obtain ⟨p0, p1, p2⟩ := HP.out _ K5.out)
    | (have hgo := K3; clear hgo; go_at_call 16; have hn := check_any (HO.out.sat.kept K3.out) (HT3.out.kept K3.out); rw [HCE.out] at hn; refine hn.mono ?_; rintro e v4 ⟨rfl, hk4⟩; have K4 := Hid.mk' (K3.out.tr hk4); clear hk4 hn; clear c0 c1 c2 c3 c4 c5 c6 c7 c8 c9 c10 c11 d0 d1 d2 d3 d4 d5 d6 d7 d8 d9 d10 d11 p0 p1 p2; obtain ⟨c0, c1, c2, c3, c4, c5, c6, c7, c8, c9, c10, c11, _⟩ := HX.out.kept K4.out; obtain ⟨d0, d1, d2, d3, d4, d5, d6, d7, d8, d9, d10, d11, _⟩ := HO.out.kept K4.out; obtain ⟨p0, p1, p2⟩ := HP.out _ K4.out)
    | (have hgo := K2; clear hgo; go_at_call 20; have hn := rcheck_any (HX.out.sat.kept K2.out); rw [HCE.out] at hn; refine hn.mono ?_; rintro e v3 ⟨rfl, hk3⟩; have K3 := Hid.mk' (K2.out.tr hk3); clear hk3 hn; clear c0 c1 c2 c3 c4 c5 c6 c7 c8 c9 c10 c11 d0 d1 d2 d3 d4 d5 d6 d7 d8 d9 d10 d11 p0 p1 p2; obtain ⟨c0, c1, c2, c3, c4, c5, c6, c7, c8, c9, c10, c11, _⟩ := HX.out.kept K3.out; obtain ⟨d0, d1, d2, d3, d4, d5, d6, d7, d8, d9, d10, d11, _⟩ := HO.out.kept K3.out; obtain ⟨p0, p1, p2⟩ := HP.out _ K3.out))
  all_goals first
    | (go_ret; exact ⟨rfl, ((HK.out.tr KA.out).tr K13.out).below⟩)
    | (exfalso; omega)
set_option maxRecDepth 100000 in
set_option maxHeartbeats 20000000 in
theorem smay_tf {X : Sa} {S : St} {w : World} {p : Pl} {pa : Option Addr} {pc : Nat} (h : Sat w X S) (hI : Ints w pa p.splits.length pc p.splits) (hT : Tabb w) (a b : Nat) (hs : siteB S = true) (hga : a < S.groups.length) (hgb : b < S.groups.length) (hp : ¬ (a < S.phases.length ∧ b < S.phases.length)) : Calls Tryd.prog 4 #[siteV X S, .int .i64 a, .int .i64 b, planV p pa pc] w fun e w' => e = .returned (.bool true) ∧ Below w.heap.size w w' := by
  obtain ⟨xg, xgc, xa, xac, xb, xbc, xp, xpc, xe, xec, xl, xlc⟩ := X
  have k1 : Kept w (w.alloc (.cells #[.int .i64 S.id, .slice xg S.groups.length xgc, .slice xa S.apart.length xac, .slice xb S.between.length xbc, .slice xp S.phases.length xpc, .slice xe S.eyes.length xec, .int .i64 S.watch, .int .i64 S.feed, .int .i64 S.heal, .int .i64 S.low, .int .i64 S.high, .slice xl S.plans.length xlc] 29)) none := Kept.alloc _ _ _ _ _
  have k2 : Kept (w.alloc (.cells #[.int .i64 S.id, .slice xg S.groups.length xgc, .slice xa S.apart.length xac, .slice xb S.between.length xbc, .slice xp S.phases.length xpc, .slice xe S.eyes.length xec, .int .i64 S.watch, .int .i64 S.feed, .int .i64 S.heal, .int .i64 S.low, .int .i64 S.high, .slice xl S.plans.length xlc] 29)) ((w.alloc (.cells #[.int .i64 S.id, .slice xg S.groups.length xgc, .slice xa S.apart.length xac, .slice xb S.between.length xbc, .slice xp S.phases.length xpc, .slice xe S.eyes.length xec, .int .i64 S.watch, .int .i64 S.feed, .int .i64 S.heal, .int .i64 S.low, .int .i64 S.high, .slice xl S.plans.length xlc] 29)).alloc (.cells #[.int .i64 p.cycle, .int .i64 p.offset, .slice pa p.splits.length pc] 43)) none := Kept.alloc _ _ _ _ _
  have HX := Hid.mk' ((sbox_alloc h 29).kept k2)
  have HK := Hid.mk' (k1.tr k2)
  have HT := Hid.mk' (hT.kept (k1.tr k2))
  have HI := Hid.mk' (hI.kept (k1.tr k2))
  have q := box3 (w.alloc (.cells #[.int .i64 S.id, .slice xg S.groups.length xgc, .slice xa S.apart.length xac, .slice xb S.between.length xbc, .slice xp S.phases.length xpc, .slice xe S.eyes.length xec, .int .i64 S.watch, .int .i64 S.feed, .int .i64 S.heal, .int .i64 S.low, .int .i64 S.high, .slice xl S.plans.length xlc] 29)) (.int .i64 p.cycle) (.int .i64 p.offset) (.slice pa p.splits.length pc) 43
  rw [show (w.alloc (.cells #[.int .i64 S.id, .slice xg S.groups.length xgc, .slice xa S.apart.length xac, .slice xb S.between.length xbc, .slice xp S.phases.length xpc, .slice xe S.eyes.length xec, .int .i64 S.watch, .int .i64 S.feed, .int .i64 S.heal, .int .i64 S.low, .int .i64 S.high, .slice xl S.plans.length xlc] 29)).heap.size = w.heap.size + 1 by simp] at q
  have HP : Hid (∀ w', Kept ((w.alloc (.cells #[.int .i64 S.id, .slice xg S.groups.length xgc, .slice xa S.apart.length xac, .slice xb S.between.length xbc, .slice xp S.phases.length xpc, .slice xe S.eyes.length xec, .int .i64 S.watch, .int .i64 S.feed, .int .i64 S.heal, .int .i64 S.low, .int .i64 S.high, .slice xl S.plans.length xlc] 29)).alloc (.cells #[.int .i64 p.cycle, .int .i64 p.offset, .slice pa p.splits.length pc] 43)) w' none → w'.cell? ⟨w.heap.size + 1, 0, none⟩ = some (.int .i64 p.cycle) ∧ w'.cell? ⟨w.heap.size + 1, 1, none⟩ = some (.int .i64 p.offset) ∧ w'.cell? ⟨w.heap.size + 1, 2, none⟩ = some (.slice pa p.splits.length pc)) := fun w' z => ⟨cell_kept0 q.1 z, cell_kept0 q.2.1 z, cell_kept0 q.2.2 z⟩
  have hlm : p.splits.length ≤ 9223372036854775807 := by have := hI.cap.room; have := hI.cap.max; omega
  have hgm : S.groups.length ≤ 9223372036854775807 := manyN_le h 1
  have hpm : S.phases.length ≤ 9223372036854775807 := manyN_le h 2
  have HSB := Hid.mk' hs
  have HCE := Hid.mk' (checkE_yes hs)
  have HSN := Hid.mk' (span_may hs)
  have HSH := Hid.mk' (span_may hs).base.sh
  obtain ⟨WM, hWM⟩ : ∃ x, worstM S = x := ⟨_, rfl⟩
  have HWM := Hid.mk' hWM
  obtain ⟨PL, hPL⟩ : ∃ x, planB S p = x := ⟨_, rfl⟩
  have HPL := Hid.mk' hPL
  clear hWM hPL
  have hO := HSH.out.ok
  have haa : a < S.apart.length := by have := hO.na; omega
  have hab : a < S.between.length := by have := hO.nb; omega
  have hb32 : b < 32 := by have := hO.ng; omega
  have hrb : b < (S.between.getD a []).length := by rw [HSH.out.row a hga]; exact hgb
  obtain ⟨XB, hXB⟩ : ∃ x, (S.ap a).testBit b = x := ⟨_, rfl⟩
  have HXB := Hid.mk' hXB
  obtain ⟨BT, hBT⟩ : ∃ x, S.bt a b = x := ⟨_, rfl⟩
  have HBT := Hid.mk' hBT
  clear hXB hBT hO
  have HPP : Hid (pairE S a b S.phases.length = 2) := pairE_out hs (by omega)
  clear hs
  clear h hI hT k1 k2 q
  obtain ⟨c0, c1, c2, c3, c4, c5, c6, c7, c8, c9, c10, c11, _⟩ := HX.out
  obtain ⟨p0, p1, p2⟩ := HP.out _ (Kept.refl _ _)
  go_enter Tryd.func4, Tryd.ntmps4
  go_wp2_with fail
  go_at_call 18
  refine (rgreat_any HX.out.sat).mono ?_
  rintro e w1 ⟨gr, rfl, hgr, hk1⟩
  clear c0 c1 c2 c3 c4 c5 c6 c7 c8 c9 c10 c11 p0 p1 p2
  have K1 := Hid.mk' hk1
  obtain ⟨c0, c1, c2, c3, c4, c5, c6, c7, c8, c9, c10, c11, _⟩ := HX.out.kept hk1
  obtain ⟨p0, p1, p2⟩ := HP.out _ hk1
  clear hk1
  cases gr with
  | true =>
    go_wp2
    go_ret
    exact ⟨rfl, (HK.out.tr K1.out).below⟩
  | false =>
  by_cases h40 : (40 : Int) < (p.splits.length : Int)
  case pos =>
    go_wp2
    go_ret
    exact ⟨rfl, (HK.out.tr K1.out).below⟩
  have hF := hgr rfl
  clear hgr
  go_wp2_with fail
  go_at_call 19
  refine (twin_any (HX.out.sat.kept K1.out) (by have := hF.g; omega) (by have := hF.a; omega) hF.b (by have := hF.p; omega) hF.e hF.l (fun i hi => by have := hF.br i hi; omega) hF.lr).mono ?_
  rintro e w2 ⟨⟨yg, ygc, ya, yac, yb, ybc, yp, ypc, ye, yec, yl, ylc⟩, rfl, hS2, hk2⟩
  clear c0 c1 c2 c3 c4 c5 c6 c7 c8 c9 c10 c11 p0 p1 p2
  have k3 : Kept w2 (w2.alloc (.cells #[.int .i64 S.id, .slice yg S.groups.length ygc, .slice ya S.apart.length yac, .slice yb S.between.length ybc, .slice yp S.phases.length ypc, .slice ye S.eyes.length yec, .int .i64 S.watch, .int .i64 S.feed, .int .i64 S.heal, .int .i64 S.low, .int .i64 S.high, .slice yl S.plans.length ylc] 29)) none := Kept.alloc _ _ _ _ _
  have HO := Hid.mk' (sbox_alloc hS2 29)
  have KA := Hid.mk' ((K1.out.tr hk2).tr k3)
  have HX := Hid.mk' (HX.out.kept KA.out)
  have HT3 := Hid.mk' (HT.out.kept KA.out)
  have HI := Hid.mk' (HI.out.kept KA.out)
  have HP : Hid (∀ w', Kept (w2.alloc (.cells #[.int .i64 S.id, .slice yg S.groups.length ygc, .slice ya S.apart.length yac, .slice yb S.between.length ybc, .slice yp S.phases.length ypc, .slice ye S.eyes.length yec, .int .i64 S.watch, .int .i64 S.feed, .int .i64 S.heal, .int .i64 S.low, .int .i64 S.high, .slice yl S.plans.length ylc] 29)) w' none → w'.cell? ⟨w.heap.size + 1, 0, none⟩ = some (.int .i64 p.cycle) ∧ w'.cell? ⟨w.heap.size + 1, 1, none⟩ = some (.int .i64 p.offset) ∧ w'.cell? ⟨w.heap.size + 1, 2, none⟩ = some (.slice pa p.splits.length pc)) := fun w' z => HP.out w' (KA.out.tr z)
  have K2 : Hid (Kept (w2.alloc (.cells #[.int .i64 S.id, .slice yg S.groups.length ygc, .slice ya S.apart.length yac, .slice yb S.between.length ybc, .slice yp S.phases.length ypc, .slice ye S.eyes.length yec, .int .i64 S.watch, .int .i64 S.feed, .int .i64 S.heal, .int .i64 S.low, .int .i64 S.high, .slice yl S.plans.length ylc] 29)) (w2.alloc (.cells #[.int .i64 S.id, .slice yg S.groups.length ygc, .slice ya S.apart.length yac, .slice yb S.between.length ybc, .slice yp S.phases.length ypc, .slice ye S.eyes.length yec, .int .i64 S.watch, .int .i64 S.feed, .int .i64 S.heal, .int .i64 S.low, .int .i64 S.high, .slice yl S.plans.length ylc] 29)) none) := Kept.refl _ _
  clear hS2 hk2 k3 hF
  obtain ⟨c0, c1, c2, c3, c4, c5, c6, c7, c8, c9, c10, c11, _⟩ := HX.out.kept (Kept.refl _ _); obtain ⟨d0, d1, d2, d3, d4, d5, d6, d7, d8, d9, d10, d11, _⟩ := HO.out.kept (Kept.refl _ _); obtain ⟨p0, p1, p2⟩ := HP.out _ (Kept.refl _ _)
  go_wp2_with (first
    | (have hgo := K13; clear hgo; go_at_call 27; have hn := rsame_site (HO.out.sat.kept K13.out) (HX.out.sat.kept K13.out); refine hn.mono ?_; rintro e v14 ⟨rfl, hk14⟩; have K14 := Hid.mk' (K13.out.tr hk14); clear hk14 hn; clear c0 c1 c2 c3 c4 c5 c6 c7 c8 c9 c10 c11 d0 d1 d2 d3 d4 d5 d6 d7 d8 d9 d10 d11 p0 p1 p2; obtain ⟨c0, c1, c2, c3, c4, c5, c6, c7, c8, c9, c10, c11, _⟩ := HX.out.kept K14.out; obtain ⟨d0, d1, d2, d3, d4, d5, d6, d7, d8, d9, d10, d11, _⟩ := HO.out.kept K14.out; obtain ⟨p0, p1, p2⟩ := HP.out _ K14.out)
    | (have hgo := K12; clear hgo; go_at_call 26; have hn := rplan_yes (HX.out.sat.kept K12.out) HSN.out p pa pc (HI.out.kept K12.out); rw [HPL.out] at hn; refine hn.mono ?_; rintro e v13 ⟨rfl, hk13⟩; have K13 := Hid.mk' (K12.out.tr hk13); clear hk13 hn; clear c0 c1 c2 c3 c4 c5 c6 c7 c8 c9 c10 c11 d0 d1 d2 d3 d4 d5 d6 d7 d8 d9 d10 d11 p0 p1 p2; obtain ⟨c0, c1, c2, c3, c4, c5, c6, c7, c8, c9, c10, c11, _⟩ := HX.out.kept K13.out; obtain ⟨d0, d1, d2, d3, d4, d5, d6, d7, d8, d9, d10, d11, _⟩ := HO.out.kept K13.out; obtain ⟨p0, p1, p2⟩ := HP.out _ K13.out)
    | (have hgo := K11; clear hgo; go_at_call 25; have hn := rworst_yes (HX.out.sat.kept K11.out) HSH.out; rw [HWM.out] at hn; refine hn.mono ?_; rintro e v12 ⟨rfl, hk12⟩; have K12 := Hid.mk' (K11.out.tr hk12); clear hk12 hn; clear c0 c1 c2 c3 c4 c5 c6 c7 c8 c9 c10 c11 d0 d1 d2 d3 d4 d5 d6 d7 d8 d9 d10 d11 p0 p1 p2; obtain ⟨c0, c1, c2, c3, c4, c5, c6, c7, c8, c9, c10, c11, _⟩ := HX.out.kept K12.out; obtain ⟨d0, d1, d2, d3, d4, d5, d6, d7, d8, d9, d10, d11, _⟩ := HO.out.kept K12.out; obtain ⟨p0, p1, p2⟩ := HP.out _ K12.out)
    | (have hgo := K10; clear hgo; go_at_call 23; have hn := rbetween_yes (HX.out.sat.kept K10.out) a b hab hrb; rw [HBT.out] at hn; refine hn.mono ?_; rintro e v11 ⟨rfl, hk11⟩; have K11 := Hid.mk' (K10.out.tr hk11); clear hk11 hn; clear c0 c1 c2 c3 c4 c5 c6 c7 c8 c9 c10 c11 d0 d1 d2 d3 d4 d5 d6 d7 d8 d9 d10 d11 p0 p1 p2; obtain ⟨c0, c1, c2, c3, c4, c5, c6, c7, c8, c9, c10, c11, _⟩ := HX.out.kept K11.out; obtain ⟨d0, d1, d2, d3, d4, d5, d6, d7, d8, d9, d10, d11, _⟩ := HO.out.kept K11.out; obtain ⟨p0, p1, p2⟩ := HP.out _ K11.out)
    | (have hgo := K9; clear hgo; go_at_call 22; have hn := rapart_yes (HX.out.sat.kept K9.out) a b haa hb32; rw [HXB.out] at hn; refine hn.mono ?_; rintro e v10 ⟨rfl, hk10⟩; have K10 := Hid.mk' (K9.out.tr hk10); clear hk10 hn; clear c0 c1 c2 c3 c4 c5 c6 c7 c8 c9 c10 c11 d0 d1 d2 d3 d4 d5 d6 d7 d8 d9 d10 d11 p0 p1 p2; obtain ⟨c0, c1, c2, c3, c4, c5, c6, c7, c8, c9, c10, c11, _⟩ := HX.out.kept K10.out; obtain ⟨d0, d1, d2, d3, d4, d5, d6, d7, d8, d9, d10, d11, _⟩ := HO.out.kept K10.out; obtain ⟨p0, p1, p2⟩ := HP.out _ K10.out)
    | (have hgo := K8; clear hgo; go_at_call 13; have hn := planq_yes (HO.out.sat.kept K8.out) (HT3.out.kept K8.out) HSB.out p pa pc (HI.out.kept K8.out); rw [HPL.out] at hn; refine hn.mono ?_; rintro e v9 ⟨rfl, hk9⟩; have K9 := Hid.mk' (K8.out.tr hk9); clear hk9 hn; clear c0 c1 c2 c3 c4 c5 c6 c7 c8 c9 c10 c11 d0 d1 d2 d3 d4 d5 d6 d7 d8 d9 d10 d11 p0 p1 p2; obtain ⟨c0, c1, c2, c3, c4, c5, c6, c7, c8, c9, c10, c11, _⟩ := HX.out.kept K9.out; obtain ⟨d0, d1, d2, d3, d4, d5, d6, d7, d8, d9, d10, d11, _⟩ := HO.out.kept K9.out; obtain ⟨p0, p1, p2⟩ := HP.out _ K9.out)
    | (have hgo := K7; clear hgo; go_at_call 11; have hn := clearq_no (HO.out.sat.kept K7.out) (HT3.out.kept K7.out) a b (by rw [HPP.out]; decide); rw [HPP.out] at hn; refine hn.mono ?_; rintro e v8 ⟨rfl, hk8⟩; have K8 := Hid.mk' (K7.out.tr hk8); clear hk8 hn; clear c0 c1 c2 c3 c4 c5 c6 c7 c8 c9 c10 c11 d0 d1 d2 d3 d4 d5 d6 d7 d8 d9 d10 d11 p0 p1 p2; obtain ⟨c0, c1, c2, c3, c4, c5, c6, c7, c8, c9, c10, c11, _⟩ := HX.out.kept K8.out; obtain ⟨d0, d1, d2, d3, d4, d5, d6, d7, d8, d9, d10, d11, _⟩ := HO.out.kept K8.out; obtain ⟨p0, p1, p2⟩ := HP.out _ K8.out)
    | (have hgo := K6; clear hgo; go_at_call 10; have hn := worst_yes (HO.out.sat.kept K6.out) (HT3.out.kept K6.out) HSB.out; rw [HWM.out] at hn; refine hn.mono ?_; rintro e v7 ⟨rfl, hk7⟩; have K7 := Hid.mk' (K6.out.tr hk7); clear hk7 hn; clear c0 c1 c2 c3 c4 c5 c6 c7 c8 c9 c10 c11 d0 d1 d2 d3 d4 d5 d6 d7 d8 d9 d10 d11 p0 p1 p2; obtain ⟨c0, c1, c2, c3, c4, c5, c6, c7, c8, c9, c10, c11, _⟩ := HX.out.kept K7.out; obtain ⟨d0, d1, d2, d3, d4, d5, d6, d7, d8, d9, d10, d11, _⟩ := HO.out.kept K7.out; obtain ⟨p0, p1, p2⟩ := HP.out _ K7.out)
    | (have hgo := K5; clear hgo; go_at_call 21; have hn := betweenq_yes (HO.out.sat.kept K5.out) (HT3.out.kept K5.out) a b HSB.out hga hgb; rw [HBT.out] at hn; refine hn.mono ?_; rintro e v6 ⟨rfl, hk6⟩; have K6 := Hid.mk' (K5.out.tr hk6); clear hk6 hn; clear c0 c1 c2 c3 c4 c5 c6 c7 c8 c9 c10 c11 d0 d1 d2 d3 d4 d5 d6 d7 d8 d9 d10 d11 p0 p1 p2; obtain ⟨c0, c1, c2, c3, c4, c5, c6, c7, c8, c9, c10, c11, _⟩ := HX.out.kept K6.out; obtain ⟨d0, d1, d2, d3, d4, d5, d6, d7, d8, d9, d10, d11, _⟩ := HO.out.kept K6.out; obtain ⟨p0, p1, p2⟩ := HP.out _ K6.out)
    | (have hgo := K4; clear hgo; go_at_call 12; have hn := apartq_yes (HO.out.sat.kept K4.out) (HT3.out.kept K4.out) a b HSB.out hga hgb; rw [HXB.out] at hn; refine hn.mono ?_; rintro e v5 ⟨rfl, hk5⟩; have K5 := Hid.mk' (K4.out.tr hk5); clear hk5 hn; clear c0 c1 c2 c3 c4 c5 c6 c7 c8 c9 c10 c11 d0 d1 d2 d3 d4 d5 d6 d7 d8 d9 d10 d11 p0 p1 p2; obtain ⟨c0, c1, c2, c3, c4, c5, c6, c7, c8, c9, c10, c11, _⟩ := HX.out.kept K5.out; obtain ⟨d0, d1, d2, d3, d4, d5, d6, d7, d8, d9, d10, d11, _⟩ := HO.out.kept K5.out; obtain ⟨p0, p1, p2⟩ := HP.out _ K5.out)
    | (have hgo := K3; clear hgo; go_at_call 16; have hn := check_any (HO.out.sat.kept K3.out) (HT3.out.kept K3.out); rw [HCE.out] at hn; refine hn.mono ?_; rintro e v4 ⟨rfl, hk4⟩; have K4 := Hid.mk' (K3.out.tr hk4); clear hk4 hn; clear c0 c1 c2 c3 c4 c5 c6 c7 c8 c9 c10 c11 d0 d1 d2 d3 d4 d5 d6 d7 d8 d9 d10 d11 p0 p1 p2; obtain ⟨c0, c1, c2, c3, c4, c5, c6, c7, c8, c9, c10, c11, _⟩ := HX.out.kept K4.out; obtain ⟨d0, d1, d2, d3, d4, d5, d6, d7, d8, d9, d10, d11, _⟩ := HO.out.kept K4.out; obtain ⟨p0, p1, p2⟩ := HP.out _ K4.out)
    | (have hgo := K2; clear hgo; go_at_call 20; have hn := rcheck_any (HX.out.sat.kept K2.out); rw [HCE.out] at hn; refine hn.mono ?_; rintro e v3 ⟨rfl, hk3⟩; have K3 := Hid.mk' (K2.out.tr hk3); clear hk3 hn; clear c0 c1 c2 c3 c4 c5 c6 c7 c8 c9 c10 c11 d0 d1 d2 d3 d4 d5 d6 d7 d8 d9 d10 d11 p0 p1 p2; obtain ⟨c0, c1, c2, c3, c4, c5, c6, c7, c8, c9, c10, c11, _⟩ := HX.out.kept K3.out; obtain ⟨d0, d1, d2, d3, d4, d5, d6, d7, d8, d9, d10, d11, _⟩ := HO.out.kept K3.out; obtain ⟨p0, p1, p2⟩ := HP.out _ K3.out))
  all_goals first
    | (go_ret; exact ⟨rfl, ((HK.out.tr KA.out).tr K14.out).below⟩)
    | (exfalso; omega)

end Go.Proofs.YtpajefkfnhibnaaDoor
