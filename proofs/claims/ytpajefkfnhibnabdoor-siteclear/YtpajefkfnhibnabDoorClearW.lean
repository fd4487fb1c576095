/-
  THE WALK of SiteClear.
-/
import Derived.Test.YtpajefkfnhibnabDoorApartM
import Derived.Test.YtpajefkfnhibnabDoorSmallS
import Derived.Test.YtpajefkfnhibnabDoorAlive
namespace Go.Proofs.YtpajefkfnhibnabDoor
open Go.RowKit Go.Lib Go.Deep
set_option linter.unusedVariables false
set_option linter.unusedSimpArgs false

set_option maxRecDepth 100000 in
set_option maxHeartbeats 3000000 in
theorem clear_no {X : Sa} {S : St} {w : World} (h : Sat w X S) (hT : Tabb w ∧ Table w) (f t : Int) (hpm : S.phases.length ≤ 9223372036854775807) (hs : siteB S = false) : Calls Tryd.prog 3 #[siteV X S, .int .i64 f, .int .i64 t] w fun e w' => e = .returned (.bool true) ∧ Below w.heap.size w w' := by
  obtain ⟨xg, xgc, xa, xac, xb, xbc, xp, xpc, xe, xec, xl, xlc⟩ := X
  have hkA : Kept w (w.alloc (.cells #[.int .i64 S.id, .slice xg S.groups.length xgc, .slice xa S.apart.length xac, .slice xb S.between.length xbc, .slice xp S.phases.length xpc, .slice xe S.eyes.length xec, .int .i64 S.watch, .int .i64 S.feed, .int .i64 S.heal, .int .i64 S.low, .int .i64 S.high, .slice xl S.plans.length xlc] 29)) none := Kept.alloc _ _ _ _ _
  have HSB := Hid.mk' (sbox_alloc h 29)
  have HK := Hid.mk' hkA
  have HT := Hid.mk' (hT.1.kept hkA)
  have HTb := Hid.mk' (hT.2.kept hkA)
  have HSE := Hid.mk' (checkE_no hs)
  have HS' := Hid.mk' hs
  clear h hT hkA hs
  go_enter Tryd.func3, Tryd.ntmps3
  go_wp2_with (go_at_call 5; refine (alive_any HT.out HTb.out).mono ?_; rintro e w1 ⟨rfl, hk1⟩; obtain ⟨c0, c1, c2, c3, c4, c5, c6, c7, c8, c9, c10, c11, _⟩ := HSB.out.kept hk1)
  go_at_call 6
  refine (smallS_any (HSB.out.sat.kept hk1)).mono ?_
  rintro e w2 ⟨z, rfl, hk2⟩
  clear c0 c1 c2 c3 c4 c5 c6 c7 c8 c9 c10 c11
  have K2 := Hid.mk' (hk1.tr hk2)
  clear hk1 hk2
  by_cases hz : z < 150
  case neg =>
    go_wp2
    go_ret
    exact ⟨rfl, (HK.out.tr K2.out).below⟩
  obtain ⟨c0, c1, c2, c3, c4, c5, c6, c7, c8, c9, c10, c11, _⟩ := HSB.out.kept K2.out
  by_cases hf0 : f < 0
  case pos =>
    go_wp2; go_ret; exact ⟨rfl, (HK.out.tr K2.out).below⟩
  by_cases ht0 : t < 0
  case pos =>
    go_wp2; go_ret; exact ⟨rfl, (HK.out.tr K2.out).below⟩
  by_cases hf1 : (S.phases.length : Int) ≤ f
  case pos =>
    go_wp2; go_ret; exact ⟨rfl, (HK.out.tr K2.out).below⟩
  by_cases ht1 : (S.phases.length : Int) ≤ t
  case pos =>
    go_wp2; go_ret; exact ⟨rfl, (HK.out.tr K2.out).below⟩
  go_wp2_with (go_at_call 7; have hn := check_any (HSB.out.sat.kept K2.out) (HT.out.kept K2.out); rw [HSE.out] at hn; refine hn.mono ?_; rintro e w3 ⟨rfl, hk3⟩; have K3 := Hid.mk' (K2.out.tr hk3); clear hk3)
  go_ret
  exact ⟨rfl, (HK.out.tr K3.out).below⟩
set_option maxRecDepth 100000 in
set_option maxHeartbeats 3000000 in
theorem clear_out {X : Sa} {S : St} {w : World} (h : Sat w X S) (hT : Tabb w ∧ Table w) (f t : Int) (ho : f < 0 ∨ t < 0 ∨ (S.phases.length : Int) ≤ f ∨ (S.phases.length : Int) ≤ t) (hs : siteB S = true) : Calls Tryd.prog 3 #[siteV X S, .int .i64 f, .int .i64 t] w fun e w' => e = .returned (.bool true) ∧ Below w.heap.size w w' := by
  obtain ⟨xg, xgc, xa, xac, xb, xbc, xp, xpc, xe, xec, xl, xlc⟩ := X
  have hSh := (span_may hs).base.sh
  have hg16 := hSh.ok.ng
  have hp8 := hSh.ok.np
  obtain ⟨bp, op, ep, _⟩ := h.phAt (i := 0) (by omega)
  obtain ⟨bg, og, eg, _⟩ := h.grAt (i := 0) (by omega)
  dsimp only at ep eg
  subst ep eg
  have hphr := h.phr
  have HPH0 : Hid (∀ i, i < S.phases.length → w.cell? ⟨bp, op + i * 5, none⟩ = some (.int .u32 ((S.ph i).groups : Int))) := fun i hi => by
    obtain ⟨b, o, e, hc, _⟩ := h.phAt hi
    injection e with e; injection e with e1 e2
    subst e1 e2
    exact hc
  have HMN0 : Hid (∀ i, i < S.phases.length → w.cell? ⟨bp, op + i * 5 + 1, none⟩ = some (.int .i64 (S.ph i).min)) := fun i hi => by
    obtain ⟨b, o, e, _, hc, _⟩ := h.phAt hi
    injection e with e; injection e with e1 e2
    subst e1 e2
    exact hc
  have HGR0 : Hid (∀ i, i < S.groups.length → w.cell? ⟨bg, og + i * 3 + 2, none⟩ = some (.int .i64 (S.gr i).yellow)) := fun i hi => by
    obtain ⟨b, o, e, _, _, hc⟩ := h.grAt hi
    injection e with e; injection e with e1 e2
    subst e1 e2
    exact hc
  have hkA : Kept w (w.alloc (.cells #[.int .i64 S.id, .slice (some ⟨bg, og, none⟩) S.groups.length xgc, .slice xa S.apart.length xac, .slice xb S.between.length xbc, .slice (some ⟨bp, op, none⟩) S.phases.length xpc, .slice xe S.eyes.length xec, .int .i64 S.watch, .int .i64 S.feed, .int .i64 S.heal, .int .i64 S.low, .int .i64 S.high, .slice xl S.plans.length xlc] 29)) none := Kept.alloc _ _ _ _ _
  have HSB := Hid.mk' (sbox_alloc h 29)
  have HK := Hid.mk' hkA
  have HT := Hid.mk' (hT.1.kept hkA)
  have HTb := Hid.mk' (hT.2.kept hkA)
  have HSE := Hid.mk' (checkE_yes hs)
  have HS' := Hid.mk' hs
  have HPH : Hid (∀ w', Kept (w.alloc (.cells #[.int .i64 S.id, .slice (some ⟨bg, og, none⟩) S.groups.length xgc, .slice xa S.apart.length xac, .slice xb S.between.length xbc, .slice (some ⟨bp, op, none⟩) S.phases.length xpc, .slice xe S.eyes.length xec, .int .i64 S.watch, .int .i64 S.feed, .int .i64 S.heal, .int .i64 S.low, .int .i64 S.high, .slice xl S.plans.length xlc] 29)) w' none → ∀ i, i < S.phases.length → w'.cell? ⟨bp, op + i * 5, none⟩ = some (.int .u32 ((S.ph i).groups : Int))) := fun w' q i hi => cell_kept0 (HPH0.out i hi) (HK.out.tr q)
  have HGR : Hid (∀ w', Kept (w.alloc (.cells #[.int .i64 S.id, .slice (some ⟨bg, og, none⟩) S.groups.length xgc, .slice xa S.apart.length xac, .slice xb S.between.length xbc, .slice (some ⟨bp, op, none⟩) S.phases.length xpc, .slice xe S.eyes.length xec, .int .i64 S.watch, .int .i64 S.feed, .int .i64 S.heal, .int .i64 S.low, .int .i64 S.high, .slice xl S.plans.length xlc] 29)) w' none → ∀ i, i < S.groups.length → w'.cell? ⟨bg, og + i * 3 + 2, none⟩ = some (.int .i64 (S.gr i).yellow)) := fun w' q i hi => cell_kept0 (HGR0.out i hi) (HK.out.tr q)
  have HMN : Hid (∀ w', Kept (w.alloc (.cells #[.int .i64 S.id, .slice (some ⟨bg, og, none⟩) S.groups.length xgc, .slice xa S.apart.length xac, .slice xb S.between.length xbc, .slice (some ⟨bp, op, none⟩) S.phases.length xpc, .slice xe S.eyes.length xec, .int .i64 S.watch, .int .i64 S.feed, .int .i64 S.heal, .int .i64 S.low, .int .i64 S.high, .slice xl S.plans.length xlc] 29)) w' none → ∀ i, i < S.phases.length → w'.cell? ⟨bp, op + i * 5 + 1, none⟩ = some (.int .i64 (S.ph i).min)) := fun w' q i hi => cell_kept0 (HMN0.out i hi) (HK.out.tr q)
  have HBS := Hid.mk' (span_may hs).base
  have HKP := Hid.mk' (keeps_may hs)
  have HSH := Hid.mk' hSh
  clear hSh HPH0 HGR0 HMN0
  clear h hT hkA hs
  go_enter Tryd.func3, Tryd.ntmps3
  go_wp2_with (go_at_call 5; refine (alive_any HT.out HTb.out).mono ?_; rintro e w1 ⟨rfl, hk1⟩; obtain ⟨c0, c1, c2, c3, c4, c5, c6, c7, c8, c9, c10, c11, _⟩ := HSB.out.kept hk1)
  go_at_call 6
  refine (smallS_any (HSB.out.sat.kept hk1)).mono ?_
  rintro e w2 ⟨z, rfl, hk2⟩
  clear c0 c1 c2 c3 c4 c5 c6 c7 c8 c9 c10 c11
  have K2 := Hid.mk' (hk1.tr hk2)
  clear hk1 hk2
  by_cases hz : z < 150
  case neg =>
    go_wp2
    go_ret
    exact ⟨rfl, (HK.out.tr K2.out).below⟩
  obtain ⟨c0, c1, c2, c3, c4, c5, c6, c7, c8, c9, c10, c11, _⟩ := HSB.out.kept K2.out
  by_cases hf0 : f < 0
  case pos =>
    go_wp2; go_ret; exact ⟨rfl, (HK.out.tr K2.out).below⟩
  by_cases ht0 : t < 0
  case pos =>
    go_wp2; go_ret; exact ⟨rfl, (HK.out.tr K2.out).below⟩
  by_cases hf1 : (S.phases.length : Int) ≤ f
  case pos =>
    go_wp2; go_ret; exact ⟨rfl, (HK.out.tr K2.out).below⟩
  by_cases ht1 : (S.phases.length : Int) ≤ t
  case pos =>
    go_wp2; go_ret; exact ⟨rfl, (HK.out.tr K2.out).below⟩
  omega
set_option maxRecDepth 100000 in
set_option maxHeartbeats 6000000 in
theorem clear_yes {X : Sa} {S : St} {w : World} (h : Sat w X S) (hT : Tabb w ∧ Table w) (f t : Nat) (hf : f < S.phases.length) (ht : t < S.phases.length) (hs : siteB S = true) : Calls Tryd.prog 3 #[siteV X S, .int .i64 f, .int .i64 t] w fun e w' => e = .returned (.bool true) ∧ Below w.heap.size w w' := by
  obtain ⟨xg, xgc, xa, xac, xb, xbc, xp, xpc, xe, xec, xl, xlc⟩ := X
  have hSh := (span_may hs).base.sh
  have hg16 := hSh.ok.ng
  have hp8 := hSh.ok.np
  obtain ⟨bp, op, ep, _⟩ := h.phAt (i := 0) (by omega)
  obtain ⟨bg, og, eg, _⟩ := h.grAt (i := 0) (by omega)
  dsimp only at ep eg
  subst ep eg
  have hphr := h.phr
  have HPH0 : Hid (∀ i, i < S.phases.length → w.cell? ⟨bp, op + i * 5, none⟩ = some (.int .u32 ((S.ph i).groups : Int))) := fun i hi => by
    obtain ⟨b, o, e, hc, _⟩ := h.phAt hi
    injection e with e; injection e with e1 e2
    subst e1 e2
    exact hc
  have HMN0 : Hid (∀ i, i < S.phases.length → w.cell? ⟨bp, op + i * 5 + 1, none⟩ = some (.int .i64 (S.ph i).min)) := fun i hi => by
    obtain ⟨b, o, e, _, hc, _⟩ := h.phAt hi
    injection e with e; injection e with e1 e2
    subst e1 e2
    exact hc
  have HGR0 : Hid (∀ i, i < S.groups.length → w.cell? ⟨bg, og + i * 3 + 2, none⟩ = some (.int .i64 (S.gr i).yellow)) := fun i hi => by
    obtain ⟨b, o, e, _, _, hc⟩ := h.grAt hi
    injection e with e; injection e with e1 e2
    subst e1 e2
    exact hc
  have hkA : Kept w (w.alloc (.cells #[.int .i64 S.id, .slice (some ⟨bg, og, none⟩) S.groups.length xgc, .slice xa S.apart.length xac, .slice xb S.between.length xbc, .slice (some ⟨bp, op, none⟩) S.phases.length xpc, .slice xe S.eyes.length xec, .int .i64 S.watch, .int .i64 S.feed, .int .i64 S.heal, .int .i64 S.low, .int .i64 S.high, .slice xl S.plans.length xlc] 29)) none := Kept.alloc _ _ _ _ _
  have HSB := Hid.mk' (sbox_alloc h 29)
  have HK := Hid.mk' hkA
  have HT := Hid.mk' (hT.1.kept hkA)
  have HTb := Hid.mk' (hT.2.kept hkA)
  have HSE := Hid.mk' (checkE_yes hs)
  have HS' := Hid.mk' hs
  have HPH : Hid (∀ w', Kept (w.alloc (.cells #[.int .i64 S.id, .slice (some ⟨bg, og, none⟩) S.groups.length xgc, .slice xa S.apart.length xac, .slice xb S.between.length xbc, .slice (some ⟨bp, op, none⟩) S.phases.length xpc, .slice xe S.eyes.length xec, .int .i64 S.watch, .int .i64 S.feed, .int .i64 S.heal, .int .i64 S.low, .int .i64 S.high, .slice xl S.plans.length xlc] 29)) w' none → ∀ i, i < S.phases.length → w'.cell? ⟨bp, op + i * 5, none⟩ = some (.int .u32 ((S.ph i).groups : Int))) := fun w' q i hi => cell_kept0 (HPH0.out i hi) (HK.out.tr q)
  have HGR : Hid (∀ w', Kept (w.alloc (.cells #[.int .i64 S.id, .slice (some ⟨bg, og, none⟩) S.groups.length xgc, .slice xa S.apart.length xac, .slice xb S.between.length xbc, .slice (some ⟨bp, op, none⟩) S.phases.length xpc, .slice xe S.eyes.length xec, .int .i64 S.watch, .int .i64 S.feed, .int .i64 S.heal, .int .i64 S.low, .int .i64 S.high, .slice xl S.plans.length xlc] 29)) w' none → ∀ i, i < S.groups.length → w'.cell? ⟨bg, og + i * 3 + 2, none⟩ = some (.int .i64 (S.gr i).yellow)) := fun w' q i hi => cell_kept0 (HGR0.out i hi) (HK.out.tr q)
  have HMN : Hid (∀ w', Kept (w.alloc (.cells #[.int .i64 S.id, .slice (some ⟨bg, og, none⟩) S.groups.length xgc, .slice xa S.apart.length xac, .slice xb S.between.length xbc, .slice (some ⟨bp, op, none⟩) S.phases.length xpc, .slice xe S.eyes.length xec, .int .i64 S.watch, .int .i64 S.feed, .int .i64 S.heal, .int .i64 S.low, .int .i64 S.high, .slice xl S.plans.length xlc] 29)) w' none → ∀ i, i < S.phases.length → w'.cell? ⟨bp, op + i * 5 + 1, none⟩ = some (.int .i64 (S.ph i).min)) := fun w' q i hi => cell_kept0 (HMN0.out i hi) (HK.out.tr q)
  have HBS := Hid.mk' (span_may hs).base
  have HKP := Hid.mk' (keeps_may hs)
  have HSH := Hid.mk' hSh
  clear hSh HPH0 HGR0 HMN0
  clear h hT hkA hs
  go_enter Tryd.func3, Tryd.ntmps3
  go_wp2_with (go_at_call 5; refine (alive_any HT.out HTb.out).mono ?_; rintro e w1 ⟨rfl, hk1⟩; obtain ⟨c0, c1, c2, c3, c4, c5, c6, c7, c8, c9, c10, c11, _⟩ := HSB.out.kept hk1)
  go_at_call 6
  refine (smallS_any (HSB.out.sat.kept hk1)).mono ?_
  rintro e w2 ⟨z, rfl, hk2⟩
  clear c0 c1 c2 c3 c4 c5 c6 c7 c8 c9 c10 c11
  have K2 := Hid.mk' (hk1.tr hk2)
  clear hk1 hk2
  by_cases hz : z < 150
  case neg =>
    go_wp2
    go_ret
    exact ⟨rfl, (HK.out.tr K2.out).below⟩
  obtain ⟨c0, c1, c2, c3, c4, c5, c6, c7, c8, c9, c10, c11, _⟩ := HSB.out.kept K2.out
  obtain ⟨V, hV⟩ : ∃ V, worstM S = V := ⟨_, rfl⟩
  obtain ⟨C, hC⟩ : ∃ C, liesM S f t = C := ⟨_, rfl⟩
  have hCV : C ≤ V := by rw [← hV, ← hC]; exact lies_worst HSH.out f t
  have HV := Hid.mk' hV
  have HC := Hid.mk' hC
  clear hV hC
  go_wp2_with (first
    | (have hgo := K4; clear hgo; go_at_call 9; have hn := worst_yes (HSB.out.sat.kept K4.out) (HT.out.kept K4.out) HS'.out; rw [HV.out] at hn; refine hn.mono ?_; rintro e w5 ⟨rfl, hk5⟩; have K5 := Hid.mk' (K4.out.tr hk5); clear hk5 c0 c1 c2 c3 c4 c5 c6 c7 c8 c9 c10 c11; obtain ⟨c0, c1, c2, c3, c4, c5, c6, c7, c8, c9, c10, c11, _⟩ := HSB.out.kept K5.out)
    | (have hgo := K3; clear hgo; go_at_call 8; have hn := clearq_yes (HSB.out.sat.kept K3.out) (HT.out.kept K3.out) f t HS'.out hf ht; rw [HC.out] at hn; refine hn.mono ?_; rintro e w4 ⟨rfl, hk4⟩; have K4 := Hid.mk' (K3.out.tr hk4); clear hk4 c0 c1 c2 c3 c4 c5 c6 c7 c8 c9 c10 c11; obtain ⟨c0, c1, c2, c3, c4, c5, c6, c7, c8, c9, c10, c11, _⟩ := HSB.out.kept K4.out)
    | (go_at_call 7; have hn := check_any (HSB.out.sat.kept K2.out) (HT.out.kept K2.out); rw [HSE.out] at hn; refine hn.mono ?_; rintro e w3 ⟨rfl, hk3⟩; have K3 := Hid.mk' (K2.out.tr hk3); clear hk3 c0 c1 c2 c3 c4 c5 c6 c7 c8 c9 c10 c11; obtain ⟨c0, c1, c2, c3, c4, c5, c6, c7, c8, c9, c10, c11, _⟩ := HSB.out.kept K3.out))
  clear c0 c1 c2 c3 c4 c5 c6 c7 c8 c9 c10 c11
  generalize (w.alloc (.cells #[.int .i64 S.id, .slice (some ⟨bg, og, none⟩) S.groups.length xgc, .slice xa S.apart.length xac, .slice xb S.between.length xbc, .slice (some ⟨bp, op, none⟩) S.phases.length xpc, .slice xe S.eyes.length xec, .int .i64 S.watch, .int .i64 S.feed, .int .i64 S.heal, .int .i64 S.low, .int .i64 S.high, .slice xl S.plans.length xlc] 29)) = W0 at *
  go_loopw [12, 13] (fun m a wr => ∃ (k : Nat) (M : Int), k ≤ S.groups.length ∧ a = .int .i64 k ∧ m = .int .i64 M ∧ Hid (IsMost (PairsP S (fun a b => (S.ph f).groups.testBit a = true ∧ (S.ph t).groups.testBit b = true) k 0) M) ∧ Kept W0 wr none) (fun _ a _ => S.groups.length - (intOf a).toNat)
  case atStart => exact ⟨0, 0, by omega, rfl, rfl, pairs_start _ _, K5.out⟩
  case round =>
    obtain ⟨a, M, ha, rfl, rfl, HM, hkr⟩ := hrel
    have KR := Hid.mk' hkr
    clear hkr
    obtain ⟨c0, c1, c2, c3, c4, c5, c6, c7, c8, c9, c10, c11, _⟩ := HSB.out.kept KR.out
    by_cases hlt : a < S.groups.length
    case neg =>
      have e : a = S.groups.length := by omega
      subst e
      have hw : C = M := HC.out.symm.trans (lies_pairs HKP.out HM.out)
      subst hw
      go_wp2
      clear c0 c1 c2 c3 c4 c5 c6 c7 c8 c9 c10 c11
      go_loopw [17, 18] (fun r i wx => ∃ k : Nat, k ≤ S.phases.length ∧ i = .int .i64 k ∧ r = .int .i64 (roundN S k) ∧ Kept W0 wx none) (fun _ i _ => S.phases.length - (intOf i).toNat)
      case atStart => exact ⟨0, Nat.zero_le _, rfl, rfl, KR.out⟩
      case round =>
        obtain ⟨i, hi, rfl, rfl, hkx⟩ := hrel
        have KX := Hid.mk' hkx
        clear hkx
        obtain ⟨c0, c1, c2, c3, c4, c5, c6, c7, c8, c9, c10, c11, _⟩ := HSB.out.kept KX.out
        by_cases hil : i < S.phases.length
        case neg =>
          have e : i = S.phases.length := by omega
          subst e
          have hlow : roundN S S.phases.length ≤ S.low := HKP.out.low
          generalize roundN S S.phases.length = R at *
          by_cases hft : f = t
          case pos =>
            subst hft
            have h0 : C = 0 := HC.out.symm.trans (lies_self HKP.out hf)
            subst h0
            go_wp2
            go_ret
            exact ⟨rfl, (HK.out.tr KX.out).below⟩
          have hft2 : ¬ (f : Int) = t := by omega
          go_wp2
          go_ret
          exact ⟨rfl, (HK.out.tr KX.out).below⟩
        have hr := HBS.out.round i hi
        have hmn := HBS.out.mn i hil
        have hli := HBS.out.lies i ((i + 1) % S.phases.length)
        have HR : Hid (roundN S (i + 1) = roundN S i + ((S.ph i).min + liesM S i ((i + 1) % S.phases.length))) := rfl
        have hmod : ((i : Int) + 1) % (S.phases.length : Int) = (((i + 1) % S.phases.length : Nat) : Int) := by simp
        have hml : (i + 1) % S.phases.length < S.phases.length := Nat.mod_lt _ (by omega)
        have hwr : (IntKind.i64.wrap ((i : Int) + 1)).tmod (S.phases.length : Int) = (((i + 1) % S.phases.length : Nat) : Int) := by
          rw [wrap_in (by omega) (by omega), Int.tmod_eq_emod_of_nonneg (by omega)]
          exact hmod
        have hwr2 : ((i : Int) + 1).tmod (S.phases.length : Int) = (((i + 1) % S.phases.length : Nat) : Int) := by
          rw [Int.tmod_eq_emod_of_nonneg (by omega)]
          exact hmod
        have hnz : ((S.phases.length : Int) == 0) = false := by rw [beq_eq_false_iff_ne]; omega
        have hnz1 : ¬ (S.phases.length : Int) = 0 := by omega
        have hnz2 : ¬ S.phases = [] := by intro e; rw [e] at hil; simp at hil
        generalize hj : (i + 1) % S.phases.length = j at *
        generalize roundN S i = R at *
        generalize hL : liesM S i j = L at *
        have HL := Hid.mk' hL
        clear hj hL
        go_wp2
        clear c0 c1 c2 c3 c4 c5 c6 c7 c8 c9 c10 c11
        have f0 : ∀ w', Kept W0 w' none → w'.cell? ⟨w.heap.size, 0, none⟩ = some (.int .i64 S.id) := fun w' k => (HSB.out.kept k).c0
        have f1 : ∀ w', Kept W0 w' none → w'.cell? ⟨w.heap.size, 1, none⟩ = some (.slice (some ⟨bg, og, none⟩) S.groups.length xgc) := fun w' k => (HSB.out.kept k).c1
        have f2 : ∀ w', Kept W0 w' none → w'.cell? ⟨w.heap.size, 2, none⟩ = some (.slice xa S.apart.length xac) := fun w' k => (HSB.out.kept k).c2
        have f3 : ∀ w', Kept W0 w' none → w'.cell? ⟨w.heap.size, 3, none⟩ = some (.slice xb S.between.length xbc) := fun w' k => (HSB.out.kept k).c3
        have f4 : ∀ w', Kept W0 w' none → w'.cell? ⟨w.heap.size, 4, none⟩ = some (.slice (some ⟨bp, op, none⟩) S.phases.length xpc) := fun w' k => (HSB.out.kept k).c4
        have f5 : ∀ w', Kept W0 w' none → w'.cell? ⟨w.heap.size, 5, none⟩ = some (.slice xe S.eyes.length xec) := fun w' k => (HSB.out.kept k).c5
        have f6 : ∀ w', Kept W0 w' none → w'.cell? ⟨w.heap.size, 6, none⟩ = some (.int .i64 S.watch) := fun w' k => (HSB.out.kept k).c6
        have f7 : ∀ w', Kept W0 w' none → w'.cell? ⟨w.heap.size, 7, none⟩ = some (.int .i64 S.feed) := fun w' k => (HSB.out.kept k).c7
        have f8 : ∀ w', Kept W0 w' none → w'.cell? ⟨w.heap.size, 8, none⟩ = some (.int .i64 S.heal) := fun w' k => (HSB.out.kept k).c8
        have f9 : ∀ w', Kept W0 w' none → w'.cell? ⟨w.heap.size, 9, none⟩ = some (.int .i64 S.low) := fun w' k => (HSB.out.kept k).c9
        have f10 : ∀ w', Kept W0 w' none → w'.cell? ⟨w.heap.size, 10, none⟩ = some (.int .i64 S.high) := fun w' k => (HSB.out.kept k).c10
        have f11 : ∀ w', Kept W0 w' none → w'.cell? ⟨w.heap.size, 11, none⟩ = some (.slice xl S.plans.length xlc) := fun w' k => (HSB.out.kept k).c11
        have fm : ∀ w', Kept W0 w' none → w'.cell? ⟨bp, op + i * 5 + 1, none⟩ = some (.int .i64 (S.ph i).min) := fun w' k => HMN.out w' k i hil
        go_region_held (fun w' => Kept W0 w' none)
          ((first | exact KX.out | exact Kept.tr KX.out (Kept.drew _ _) | assumption | exact Kept.tr (by assumption) (Kept.drew _ _)))
          ((go_at_call 8; have hn := clearq_yes (HSB.out.sat.kept (by assumption)) (HT.out.kept (by assumption)) i j HS'.out hil hml; rw [HL.out] at hn; refine hn.mono ?_; rintro e wS ⟨rfl, hkS⟩; have hKS : Kept W0 wS none := Kept.tr (by assumption) hkS))
        all_goals
          go_wp2
          go_roundw
          case rel => exact ⟨i + 1, by omega, by go_num, by rw [HR.out], by assumption⟩
          case measure => simp [intOf]; omega
    go_wp2
    clear c0 c1 c2 c3 c4 c5 c6 c7 c8 c9 c10 c11
    go_loopw [12, 14] (fun m b wx => ∃ (k : Nat) (M : Int), k ≤ S.groups.length ∧ b = .int .i64 k ∧ m = .int .i64 M ∧ Hid (IsMost (PairsP S (fun a b => (S.ph f).groups.testBit a = true ∧ (S.ph t).groups.testBit b = true) a k) M) ∧ Kept W0 wx none) (fun _ b _ => S.groups.length - (intOf b).toNat)
    case atStart => exact ⟨0, M, by omega, rfl, rfl, HM, KR.out⟩
    case round =>
      obtain ⟨b, N, hb, rfl, rfl, HN, hkx⟩ := hrel
      have KX := Hid.mk' hkx
      clear hkx
      obtain ⟨c0, c1, c2, c3, c4, c5, c6, c7, c8, c9, c10, c11, _⟩ := HSB.out.kept KX.out
      by_cases hbl : b < S.groups.length
      case neg =>
        have e : b = S.groups.length := by omega
        subst e
        go_wp2
        go_roundw
        case rel => exact ⟨a + 1, N, by omega, by go_num, rfl, pairs_row HN.out, KX.out⟩
        case measure => simp [intOf]; omega
      generalize hBT : S.bt a b = BT at *
      have HBT := Hid.mk' hBT
      clear hBT
      have hgf := hphr f
      have hgt := hphr t
      have hbf := has_ref (S.ph f).groups a
      have hbt := has_ref (S.ph t).groups b
      cases hx : (S.ph f).groups.testBit a with
      | false =>
        rw [hx] at hbf
        go_wp2_with (go_at_call 10; have hn := betweenq_yes (HSB.out.sat.kept KX.out) (HT.out.kept KX.out) a b HS'.out hlt hbl; rw [HBT.out] at hn; refine hn.mono ?_; rintro e w7 ⟨rfl, hk7⟩; have KU := Hid.mk' (KX.out.tr hk7); clear hk7 c0 c1 c2 c3 c4 c5 c6 c7 c8 c9 c10 c11; obtain ⟨c0, c1, c2, c3, c4, c5, c6, c7, c8, c9, c10, c11, _⟩ := HSB.out.kept KU.out; have hcf := HPH.out _ KU.out f hf; have hct := HPH.out _ KU.out t ht)
        go_roundw
        case rel => exact ⟨b + 1, N, by omega, by go_num, rfl, pairs_no HN.out (fun q => by rw [hx] at q; cases q.1), KU.out⟩
        case measure => simp [intOf]; omega
      | true =>
        rw [hx] at hbf
        cases hy : (S.ph t).groups.testBit b with
        | false =>
          rw [hy] at hbt
          go_wp2_with (go_at_call 10; have hn := betweenq_yes (HSB.out.sat.kept KX.out) (HT.out.kept KX.out) a b HS'.out hlt hbl; rw [HBT.out] at hn; refine hn.mono ?_; rintro e w7 ⟨rfl, hk7⟩; have KU := Hid.mk' (KX.out.tr hk7); clear hk7 c0 c1 c2 c3 c4 c5 c6 c7 c8 c9 c10 c11; obtain ⟨c0, c1, c2, c3, c4, c5, c6, c7, c8, c9, c10, c11, _⟩ := HSB.out.kept KU.out; have hcf := HPH.out _ KU.out f hf; have hct := HPH.out _ KU.out t ht)
          go_roundw
          case rel => exact ⟨b + 1, N, by omega, by go_num, rfl, pairs_no HN.out (fun q => by rw [hy] at q; cases q.2), KU.out⟩
          case measure => simp [intOf]; omega
        | true =>
          rw [hy] at hbt
          have HMX : Hid (IsMost (PairsP S (fun a b => (S.ph f).groups.testBit a = true ∧ (S.ph t).groups.testBit b = true) a (b + 1)) (max N BT)) := by
            have := pairs_yes HN.out hbl ⟨hx, hy⟩
            rw [HBT.out] at this
            exact this
          go_wp2_with (go_at_call 10; have hn := betweenq_yes (HSB.out.sat.kept KX.out) (HT.out.kept KX.out) a b HS'.out hlt hbl; rw [HBT.out] at hn; refine hn.mono ?_; rintro e w7 ⟨rfl, hk7⟩; have KU := Hid.mk' (KX.out.tr hk7); clear hk7 c0 c1 c2 c3 c4 c5 c6 c7 c8 c9 c10 c11; obtain ⟨c0, c1, c2, c3, c4, c5, c6, c7, c8, c9, c10, c11, _⟩ := HSB.out.kept KU.out; have hcf := HPH.out _ KU.out f hf; have hct := HPH.out _ KU.out t ht)
          go_roundw
          case rel => exact ⟨b + 1, max N BT, by omega, by go_num, by rw [max_if], HMX, KU.out⟩
          case measure => simp [intOf]; omega
theorem sclear_any {X : Sa} {S : St} {w : World} (h : Sat w X S) (hT : Tabb w ∧ Table w) (f t : Int) : Calls Tryd.prog 3 #[siteV X S, .int .i64 f, .int .i64 t] w fun e w' => e = .returned (.bool true) ∧ Below w.heap.size w w' := by
  cases hs : siteB S
  · exact clear_no h hT f t (manyN_le h 2) hs
  · by_cases ho : f < 0 ∨ t < 0 ∨ (S.phases.length : Int) ≤ f ∨ (S.phases.length : Int) ≤ t
    · exact clear_out h hT f t ho hs
    · obtain ⟨f', rfl⟩ : ∃ n : Nat, f = n := ⟨f.toNat, by omega⟩
      obtain ⟨t', rfl⟩ : ∃ n : Nat, t = n := ⟨t.toNat, by omega⟩
      exact clear_yes h hT f' t' (by omega) (by omega) hs

end Go.Proofs.YtpajefkfnhibnabDoor
