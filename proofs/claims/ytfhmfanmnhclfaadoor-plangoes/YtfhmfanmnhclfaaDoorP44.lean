import Derived.Test.YtfhmfanmnhclfaaDoorP41
import Derived.Test.YtfhmfanmnhclfaaDoorP43
namespace Go.Proofs.YtfhmfanmnhclfaaDoor
set_option linter.unusedVariables false
set_option linter.unusedSimpArgs false
open Go.RowKit Go.Lib Go.Deep


theorem own_ints {w : World} {a : Option Addr} {c : Nat} {l : List Int} (hI : Ints w a l.length c l) (hn : l.length ≤ 1000) : ∃ a' cap w', (Builtin.append_ #[22, 22] 22 #[.slice none 0 0, .slice a l.length c]).run Tryd.prog w = .ok (.slice a' l.length cap) w' ∧ Ints w' a' l.length cap l ∧ (∀ b, a' = some b → w.heap.size ≤ b.block) ∧ Kept w w' none := by
  obtain ⟨i0, hi0, hz0, hz1, hz2⟩ := info_parts Tryd.infoIn
  obtain ⟨h1, h2, h3, h4⟩ := hI
  obtain ⟨a', cap, w', hr, hL, hC, hb, hk⟩ := twin_run (t := 22) (ty := 22) Tryd.uIns hi0 hz0 hz1 hz2 rfl (by omega) (by omega) h1 h3 hn (fun i j => rfl)
  exact ⟨a', cap, w', hr, ⟨hL, h2, hC, h4⟩, fun b e => (hb b e).1, hk⟩
theorem rclampP {X : Sa} {S : St} {w : World} (h : Sat w X S) {P : Pl} {a : Option Addr} {c : Nat} (hI : Ints w a P.splits.length c P.splits) (hO : i64B P.offset) (hs : siteB S = true) : Calls Tryd.prog 15 #[siteV X S, planV P a c] w fun e w' => ∃ g cp, e = .returned (.tuple #[planV (nearP S P) (some ⟨g, 0, none⟩) cp, .int .i64 0]) ∧ Ints w' (some ⟨g, 0, none⟩) (nearP S P).splits.length cp (nearP S P).splits ∧ Kept w w' none := by
  refine (rclamp_yes h hI hO hs).mono ?_
  rintro e w' ⟨g, cp, rfl, hg, hR, hk⟩
  have hx := RowI.map hR (spl_rng hs P)
  refine ⟨g, cp, ?_, ?_, hk⟩
  · rw [planV, near_len]; rfl
  · rw [near_len]; exact hx
theorem pclampQ {X : Sa} {S : St} {w : World} (h : Sat w X S) (hT : Tabb w) {P : Pl} {a : Option Addr} {c : Nat} (hI : Ints w a P.splits.length c P.splits) (hO : i64B P.offset) (hs : siteB S = true) : Calls Tryd.prog 8 #[siteV X S, planV P a c] w fun e w' => ∃ g cp, e = .returned (.tuple #[planV (nearP S P) (some ⟨g, 0, none⟩) cp, .int .i64 0]) ∧ w.heap.size ≤ g ∧ Ints w' (some ⟨g, 0, none⟩) (nearP S P).splits.length cp (nearP S P).splits ∧ RowI w' g (nearP S P).splits.length cp (splC S P) ∧ Kept w w' none := by
  refine (pclampP h hT hI hO hs).mono ?_
  rintro e w' ⟨g, cp, rfl, hg, h2, hR, hk⟩
  refine ⟨g, cp, rfl, hg, h2, ?_, hk⟩
  rw [near_len]; exact hR
set_option maxRecDepth 100000 in
set_option maxHeartbeats 4000000 in
theorem pgow_long {X : Sa} {S : St} {w : World} (h : Sat w X S) (hT : Tabb w) {P : Pl} {a : Option Addr} {c : Nat} (hI : Ints w a P.splits.length c P.splits) (t : Int) (hl : 100 < P.splits.length) : Calls Tryd.prog 4 #[siteV X S, planV P a c, .int .i64 t] w fun e w' => e = .returned (.bool true) ∧ Below w.heap.size w w' := by
  have hlb : decide ((100 : Int) < (P.splits.length : Int)) = true := by simp; omega
  obtain ⟨WA, hWA⟩ : ∃ WA, ((w.alloc (.cells #[.int .i64 S.id, .slice X.g S.groups.length X.gc, .slice X.a S.apart.length X.ac, .slice X.b S.between.length X.bc, .slice X.p S.phases.length X.pc, .slice X.e S.eyes.length X.ec, .int .i64 S.watch, .int .i64 S.feed, .int .i64 S.heal, .int .i64 S.low, .int .i64 S.high, .slice X.l S.plans.length X.lc] 35)).alloc (.cells #[.int .i64 P.cycle, .int .i64 P.offset, .slice a P.splits.length c] 24)) = WA := ⟨_, rfl⟩
  obtain ⟨HSB, HBP, HSZ, HK, HS, HI, p0_, p1_, p2_, s0_, s1_, s2_, s3_, s4_, s5_, s6_, s7_, s8_, s9_, s10_, s11_⟩ := hdp h hI hWA
  have HT := Hid.mk' (hT.kept HK.out)
  have hK0 := Kept.refl WA none
  clear h hT hI
  go_enter Tryd.func4, Tryd.ntmps4
  go_wp2_with (rw [hWA])
  go_at_call 14
  refine (rgreat_any (HS.out.kept hK0)).mono ?_
  rintro e wg ⟨gr, rfl, hgr, hkg⟩
  have hKg : Kept WA wg none := hkg
  clear hgr
  cases gr with
  | true =>
    go_wp2
    go_ret
    exact ⟨rfl, (HK.out.tr hKg).below⟩
  | false =>
    go_wp2
    go_ret
    exact ⟨rfl, (HK.out.tr hKg).below⟩
set_option maxRecDepth 100000 in
set_option maxHeartbeats 4000000 in
theorem pgow_no {X : Sa} {S : St} {w : World} (h : Sat w X S) (hT : Tabb w) {P : Pl} {a : Option Addr} {c : Nat} (hI : Ints w a P.splits.length c P.splits) (t : Int) (hl : P.splits.length ≤ 100) (hs : siteB S = false) : Calls Tryd.prog 4 #[siteV X S, planV P a c, .int .i64 t] w fun e w' => e = .returned (.bool true) ∧ Below w.heap.size w w' := by
  have hlb : decide ((100 : Int) < (P.splits.length : Int)) = false := by simp; omega
  obtain ⟨WA, hWA⟩ : ∃ WA, ((w.alloc (.cells #[.int .i64 S.id, .slice X.g S.groups.length X.gc, .slice X.a S.apart.length X.ac, .slice X.b S.between.length X.bc, .slice X.p S.phases.length X.pc, .slice X.e S.eyes.length X.ec, .int .i64 S.watch, .int .i64 S.feed, .int .i64 S.heal, .int .i64 S.low, .int .i64 S.high, .slice X.l S.plans.length X.lc] 35)).alloc (.cells #[.int .i64 P.cycle, .int .i64 P.offset, .slice a P.splits.length c] 24)) = WA := ⟨_, rfl⟩
  obtain ⟨HSB, HBP, HSZ, HK, HS, HI, p0_, p1_, p2_, s0_, s1_, s2_, s3_, s4_, s5_, s6_, s7_, s8_, s9_, s10_, s11_⟩ := hdp h hI hWA
  have HT := Hid.mk' (hT.kept HK.out)
  have hK0 := Kept.refl WA none
  clear h hT hI
  go_enter Tryd.func4, Tryd.ntmps4
  go_wp2_with (rw [hWA])
  go_at_call 14
  refine (rgreat_any (HS.out.kept hK0)).mono ?_
  rintro e wg ⟨gr, rfl, hgr, hkg⟩
  have hKg : Kept WA wg none := hkg
  clear hgr
  cases gr with
  | true =>
    go_wp2
    go_ret
    exact ⟨rfl, (HK.out.tr hKg).below⟩
  | false =>
    have hB2 := box_alloc wg (.int .i64 P.cycle) (.int .i64 P.offset) (.slice a P.splits.length c) 24
    have hK2 : Kept WA (wg.alloc (.cells #[.int .i64 P.cycle, .int .i64 P.offset, .slice a P.splits.length c] 24)) none := hKg.tr (Kept.alloc _ _ _ _ _)
    have hG2 : Kept wg (wg.alloc (.cells #[.int .i64 P.cycle, .int .i64 P.offset, .slice a P.splits.length c] 24)) none := Kept.alloc _ _ _ _ _
    obtain ⟨U2, hU2⟩ : ∃ U2, (wg.alloc (.cells #[.int .i64 P.cycle, .int .i64 P.offset, .slice a P.splits.length c] 24)) = U2 := ⟨_, rfl⟩
    rw [hU2] at hB2 hK2 hG2
    have hB3 := hB2.set2 (.slice none 0 0)
    have hK3 := hK2.setNew (p := ⟨wg.heap.size, 2, none⟩) (by show WA.heap.size ≤ wg.heap.size; exact hKg.size) (.slice none 0 0)
    obtain ⟨U3, hU3⟩ : ∃ U3, (U2.setCell ⟨wg.heap.size, 2, none⟩ (.slice none 0 0)) = U3 := ⟨_, rfl⟩
    rw [hU3] at hB3 hK3
    obtain ⟨a2, c2, w4, hr4, hI2, hb2, hk4⟩ := own_ints (HI.out.kept hK3) (by omega)
    have hB4 := hB3.kept hk4
    have hK4 := hK3.tr hk4
    have hB5 := hB4.set2 (.slice a2 P.splits.length c2)
    have hK5 := hK4.setNew (p := ⟨wg.heap.size, 2, none⟩) (by show WA.heap.size ≤ wg.heap.size; exact hKg.size) (.slice a2 P.splits.length c2)
    have hI5 := hI2.keptS (kept_setZ w4 wg.heap.size 2 (.slice a2 P.splits.length c2)) (fun b e => by have h1 := hb2 b e; have h2 := hB3.lt; intro e2; injection e2 with e2; omega)
    obtain ⟨U5, hU5⟩ : ∃ U5, (w4.setCell ⟨wg.heap.size, 2, none⟩ (.slice a2 P.splits.length c2)) = U5 := ⟨_, rfl⟩
    rw [hU5] at hB5 hK5 hI5
    have HI5 := Hid.mk' hI5
    have HB5 := Hid.mk' hB5
    have HR4 := Hid.mk' hr4
    have o0_ : ∀ w', Kept U5 w' none → w'.cell? ⟨wg.heap.size, 0, none⟩ = some (.int .i64 P.cycle) := fun w' q => (HB5.out.kept q).c0
    have o1_ : ∀ w', Kept U5 w' none → w'.cell? ⟨wg.heap.size, 1, none⟩ = some (.int .i64 P.offset) := fun w' q => (HB5.out.kept q).c1
    have o2_ : ∀ w', Kept U5 w' none → w'.cell? ⟨wg.heap.size, 2, none⟩ = some (.slice a2 P.splits.length c2) := fun w' q => (HB5.out.kept q).c2
    have x22 := hB2.c2
    have x2f := hB2.f2
    have x32 := hB3.c2
    have x42 := hB4.c2
    have x4f := hB4.f2
    have hUA := Kept.refl U5 none
    clear hB2 hB3 hB4 hB5 hr4 hI2 hI5 hb2 hG2
    have M0 := True.intro
    have hAA : Kept WA U5 none := hK5
    have HA1 : Hid (∀ w', Kept U5 w' none → Calls Tryd.prog 11 #[siteV X S, planV P a2 c2, .int .i64 t] w' fun e w2 => e = .returned (.tuple #[.int .i64 (atPh S P t), .int .i64 (atIn S P t), .int .i64 (atE S P t)]) ∧ Kept w' w2 none) := fun w' q => pat_any (HS.out.kept (hAA.tr q)) (HT.out.kept (hAA.tr q)) (HI5.out.kept q) t
    have HA2 : Hid (∀ w', Kept WA w' none → Calls Tryd.prog 16 #[siteV X S, planV P a c, .int .i64 t] w' fun e w2 => e = .returned (.tuple #[.int .i64 (atPh S P t), .int .i64 (atIn S P t), .int .i64 (atE S P t)]) ∧ Kept w' w2 none) := fun w' q => rat_any (HS.out.kept q) (HI.out.kept q) t
    have HW1 : Hid (∀ w', Kept U5 w' none → Calls Tryd.prog 12 #[siteV X S, planV P a2 c2, .int .i64 t] w' fun e w2 => e = .returned (.tuple #[.int .i64 (wtV S P t), .int .i64 (atE S P t)]) ∧ Kept w' w2 none) := fun w' q => pwan_any (HS.out.kept (hAA.tr q)) (HT.out.kept (hAA.tr q)) (HI5.out.kept q) t
    have HW2 : Hid (∀ w', Kept WA w' none → Calls Tryd.prog 17 #[siteV X S, planV P a c, .int .i64 t] w' fun e w2 => e = .returned (.tuple #[.int .i64 (wtV S P t), .int .i64 (atE S P t)]) ∧ Kept w' w2 none) := fun w' q => rwan_any (HS.out.kept q) (HI.out.kept q) t
    have HC1 : Hid (Calls Tryd.prog 8 #[siteV X S, planV P a2 c2] U5 fun e w2 => e = .returned (.tuple #[.agg #[.int .i64 0, .int .i64 0, .slice none 0 0], .int .i64 50]) ∧ Kept U5 w2 none) := pclamp_no (HS.out.kept hAA) (HT.out.kept hAA) HI5.out hs
    have HC2 : Hid (∀ w', Kept WA w' none → Calls Tryd.prog 15 #[siteV X S, planV P a c] w' fun e w2 => e = .returned (.tuple #[.agg #[.int .i64 0, .int .i64 0, .slice none 0 0], .int .i64 50]) ∧ Kept w' w2 none) := fun w' q => rclamp_no (HS.out.kept q) (HI.out.kept q) hs
    generalize atPh S P t = xph at *
    generalize atIn S P t = xin at *
    generalize atE S P t = xe at *
    generalize wtV S P t = xw at *
    go_wp2_with (first | (have hgo := hUJ; clear hgo; go_at_call 18; refine (rsame17_yes (P := ⟨0, 0, []⟩) (ints_nil _) (ints_nil _)).mono ?_; rintro e wk ⟨rfl, hkwk⟩; have hAK : Kept WA wk none := hAJ.tr hkwk; have hUK : Kept U5 wk none := hUJ.tr hkwk; have hBK : Kept w7 wk none := (hBC.tr hCJ).tr hkwk) | (have hgo := hUG; clear hgo; go_at_call 17; refine (HW2.out _ hAG).mono ?_; rintro e wj ⟨rfl, hkwj⟩; have hAJ : Kept WA wj none := hAG.tr hkwj; have hUJ : Kept U5 wj none := hUG.tr hkwj; have hCJ : Kept w9 wj none := ((hkwd.tr hkwe).tr hkwf).tr hkwj; have u0 := (HBB.out.kept (hBC.tr hCJ)).c0; have u1 := (HBB.out.kept (hBC.tr hCJ)).c1; have u2 := (HBB.out.kept (hBC.tr hCJ)).c2; have v0 := (HBC.out.kept hCJ).c0; have v1 := (HBC.out.kept hCJ).c1; have v2 := (HBC.out.kept hCJ).c2) | (have hgo := hUE; clear hgo; go_at_call 12; refine (HW1.out _ hUE).mono ?_; rintro e wf ⟨rfl, hkwf⟩; have hAG : Kept WA wf none := hAE.tr hkwf; have hUG : Kept U5 wf none := hUE.tr hkwf) | (have hgo := hUD; clear hgo; go_at_call 16; refine (HA2.out _ hAD).mono ?_; rintro e we ⟨rfl, hkwe⟩; have hAE : Kept WA we none := hAD.tr hkwe; have hUE : Kept U5 we none := hUD.tr hkwe) | (have hgo := hUC; clear hgo; go_at_call 11; rw [HWC.out]; clear hAlC hUlC; refine (HA1.out _ hUC).mono ?_; rintro e wd ⟨rfl, hkwd⟩; have hAD : Kept WA wd none := hAC.tr hkwd; have hUD : Kept U5 wd none := hUC.tr hkwd) | (have hgo := hUB; clear hgo; go_at_call 15; rw [HWB.out]; clear hAlB hUlB; refine (HC2.out _ hAB).mono ?_; rintro e w8 ⟨rfl, hkw8⟩; have kC : Kept w8 (w8.alloc (.cells #[.int .i64 0, .int .i64 0, .slice none 0 0] 24)) none := Kept.alloc _ _ _ _ _; have bC := box_alloc w8 (.int .i64 0) (.int .i64 0) (.slice none 0 0) 24; have hAlC := (hAB.tr hkw8).tr kC; have hUlC := (hUB.tr hkw8).tr kC; obtain ⟨w9, hw9⟩ : ∃ wb, w8.alloc (.cells #[.int .i64 0, .int .i64 0, .slice none 0 0] 24) = wb := ⟨_, rfl⟩; rw [hw9] at kC bC; have hAC : Kept WA w9 none := (hAB.tr hkw8).tr kC; have hUC : Kept U5 w9 none := (hUB.tr hkw8).tr kC; have HBC := Hid.mk' bC; have HWC := Hid.mk' hw9; have hBC : Kept w7 w9 none := hkw8.tr kC; clear bC hw9) | (have hgo := hUA; clear hgo; go_at_call 8; refine (HC1.out).mono ?_; rintro e w6 ⟨rfl, hkw6⟩; have kB : Kept w6 (w6.alloc (.cells #[.int .i64 0, .int .i64 0, .slice none 0 0] 24)) none := Kept.alloc _ _ _ _ _; have bB := box_alloc w6 (.int .i64 0) (.int .i64 0) (.slice none 0 0) 24; have hAlB := (hAA.tr hkw6).tr kB; have hUlB := (hUA.tr hkw6).tr kB; obtain ⟨w7, hw7⟩ : ∃ wb, w6.alloc (.cells #[.int .i64 0, .int .i64 0, .slice none 0 0] 24) = wb := ⟨_, rfl⟩; rw [hw7] at kB bB; have hAB : Kept WA w7 none := (hAA.tr hkw6).tr kB; have hUB : Kept U5 w7 none := (hUA.tr hkw6).tr kB; have HBB := Hid.mk' bB; have HWB := Hid.mk' hw7; clear bB hw7) | rw [hU5] | rw [hU3] | rw [hU2] | (have hgo := M0; clear hgo; at_builtin; refine wpList_app (by rfl) _ _ _ (by rfl) (by rfl) (by rfl) HR4.out ?_; clear M0))
    have HBK := Hid.mk' (HBB.out.kept hBK)
    have hUz := hUK
    go_loopw [23] (fun i wr => i = .int .i64 0 ∧ Kept U5 wr none ∧ Kept wk wr none) (fun _ _ => 0)
    case atStart => exact ⟨rfl, hUK, Kept.refl _ _⟩
    case round =>
      obtain ⟨rfl, hUz, hkr⟩ := hrel
      have hAz : Kept WA wr none := hAA.tr hUz
      have n2 := (HBK.out.kept hkr).c2
      go_wp2_with (first | (have hgo := hUz; clear hgo; go_at_call 18; refine (rsame17_yes (P := P) (HI5.out.kept hUz) (HI.out.kept hAz)).mono ?_; rintro e wz ⟨rfl, hkz⟩))
      go_ret
      exact ⟨by simp, (HK.out.tr (hAz.tr hkz)).below⟩
set_option maxRecDepth 100000 in
set_option maxHeartbeats 4000000 in
theorem pgow_yes {X : Sa} {S : St} {w : World} (h : Sat w X S) (hT : Tabb w) {P : Pl} {a : Option Addr} {c : Nat} (hI : Ints w a P.splits.length c P.splits) (t : Int) (hO : i64B P.offset) (hl : P.splits.length ≤ 100) (hs : siteB S = true) (Q : Pl) (hQ : nearP S P = Q) : Calls Tryd.prog 4 #[siteV X S, planV P a c, .int .i64 t] w fun e w' => e = .returned (.bool true) ∧ Below w.heap.size w w' := by
  have hlb : decide ((100 : Int) < (P.splits.length : Int)) = false := by simp; omega
  obtain ⟨WA, hWA⟩ : ∃ WA, ((w.alloc (.cells #[.int .i64 S.id, .slice X.g S.groups.length X.gc, .slice X.a S.apart.length X.ac, .slice X.b S.between.length X.bc, .slice X.p S.phases.length X.pc, .slice X.e S.eyes.length X.ec, .int .i64 S.watch, .int .i64 S.feed, .int .i64 S.heal, .int .i64 S.low, .int .i64 S.high, .slice X.l S.plans.length X.lc] 35)).alloc (.cells #[.int .i64 P.cycle, .int .i64 P.offset, .slice a P.splits.length c] 24)) = WA := ⟨_, rfl⟩
  obtain ⟨HSB, HBP, HSZ, HK, HS, HI, p0_, p1_, p2_, s0_, s1_, s2_, s3_, s4_, s5_, s6_, s7_, s8_, s9_, s10_, s11_⟩ := hdp h hI hWA
  have HT := Hid.mk' (hT.kept HK.out)
  have hK0 := Kept.refl WA none
  clear h hT hI
  go_enter Tryd.func4, Tryd.ntmps4
  go_wp2_with (rw [hWA])
  go_at_call 14
  refine (rgreat_any (HS.out.kept hK0)).mono ?_
  rintro e wg ⟨gr, rfl, hgr, hkg⟩
  have hKg : Kept WA wg none := hkg
  clear hgr
  cases gr with
  | true =>
    go_wp2
    go_ret
    exact ⟨rfl, (HK.out.tr hKg).below⟩
  | false =>
    have hB2 := box_alloc wg (.int .i64 P.cycle) (.int .i64 P.offset) (.slice a P.splits.length c) 24
    have hK2 : Kept WA (wg.alloc (.cells #[.int .i64 P.cycle, .int .i64 P.offset, .slice a P.splits.length c] 24)) none := hKg.tr (Kept.alloc _ _ _ _ _)
    have hG2 : Kept wg (wg.alloc (.cells #[.int .i64 P.cycle, .int .i64 P.offset, .slice a P.splits.length c] 24)) none := Kept.alloc _ _ _ _ _
    obtain ⟨U2, hU2⟩ : ∃ U2, (wg.alloc (.cells #[.int .i64 P.cycle, .int .i64 P.offset, .slice a P.splits.length c] 24)) = U2 := ⟨_, rfl⟩
    rw [hU2] at hB2 hK2 hG2
    have hB3 := hB2.set2 (.slice none 0 0)
    have hK3 := hK2.setNew (p := ⟨wg.heap.size, 2, none⟩) (by show WA.heap.size ≤ wg.heap.size; exact hKg.size) (.slice none 0 0)
    obtain ⟨U3, hU3⟩ : ∃ U3, (U2.setCell ⟨wg.heap.size, 2, none⟩ (.slice none 0 0)) = U3 := ⟨_, rfl⟩
    rw [hU3] at hB3 hK3
    obtain ⟨a2, c2, w4, hr4, hI2, hb2, hk4⟩ := own_ints (HI.out.kept hK3) (by omega)
    have hB4 := hB3.kept hk4
    have hK4 := hK3.tr hk4
    have hB5 := hB4.set2 (.slice a2 P.splits.length c2)
    have hK5 := hK4.setNew (p := ⟨wg.heap.size, 2, none⟩) (by show WA.heap.size ≤ wg.heap.size; exact hKg.size) (.slice a2 P.splits.length c2)
    have hI5 := hI2.keptS (kept_setZ w4 wg.heap.size 2 (.slice a2 P.splits.length c2)) (fun b e => by have h1 := hb2 b e; have h2 := hB3.lt; intro e2; injection e2 with e2; omega)
    obtain ⟨U5, hU5⟩ : ∃ U5, (w4.setCell ⟨wg.heap.size, 2, none⟩ (.slice a2 P.splits.length c2)) = U5 := ⟨_, rfl⟩
    rw [hU5] at hB5 hK5 hI5
    have HI5 := Hid.mk' hI5
    have HB5 := Hid.mk' hB5
    have HR4 := Hid.mk' hr4
    have o0_ : ∀ w', Kept U5 w' none → w'.cell? ⟨wg.heap.size, 0, none⟩ = some (.int .i64 P.cycle) := fun w' q => (HB5.out.kept q).c0
    have o1_ : ∀ w', Kept U5 w' none → w'.cell? ⟨wg.heap.size, 1, none⟩ = some (.int .i64 P.offset) := fun w' q => (HB5.out.kept q).c1
    have o2_ : ∀ w', Kept U5 w' none → w'.cell? ⟨wg.heap.size, 2, none⟩ = some (.slice a2 P.splits.length c2) := fun w' q => (HB5.out.kept q).c2
    have x22 := hB2.c2
    have x2f := hB2.f2
    have x32 := hB3.c2
    have x42 := hB4.c2
    have x4f := hB4.f2
    have hUA := Kept.refl U5 none
    clear hB2 hB3 hB4 hB5 hr4 hI2 hI5 hb2 hG2
    have M0 := True.intro
    have hAA : Kept WA U5 none := hK5
    have HA1 : Hid (∀ w', Kept U5 w' none → Calls Tryd.prog 11 #[siteV X S, planV P a2 c2, .int .i64 t] w' fun e w2 => e = .returned (.tuple #[.int .i64 (atPh S P t), .int .i64 (atIn S P t), .int .i64 (atE S P t)]) ∧ Kept w' w2 none) := fun w' q => pat_any (HS.out.kept (hAA.tr q)) (HT.out.kept (hAA.tr q)) (HI5.out.kept q) t
    have HA2 : Hid (∀ w', Kept WA w' none → Calls Tryd.prog 16 #[siteV X S, planV P a c, .int .i64 t] w' fun e w2 => e = .returned (.tuple #[.int .i64 (atPh S P t), .int .i64 (atIn S P t), .int .i64 (atE S P t)]) ∧ Kept w' w2 none) := fun w' q => rat_any (HS.out.kept q) (HI.out.kept q) t
    have HW1 : Hid (∀ w', Kept U5 w' none → Calls Tryd.prog 12 #[siteV X S, planV P a2 c2, .int .i64 t] w' fun e w2 => e = .returned (.tuple #[.int .i64 (wtV S P t), .int .i64 (atE S P t)]) ∧ Kept w' w2 none) := fun w' q => pwan_any (HS.out.kept (hAA.tr q)) (HT.out.kept (hAA.tr q)) (HI5.out.kept q) t
    have HW2 : Hid (∀ w', Kept WA w' none → Calls Tryd.prog 17 #[siteV X S, planV P a c, .int .i64 t] w' fun e w2 => e = .returned (.tuple #[.int .i64 (wtV S P t), .int .i64 (atE S P t)]) ∧ Kept w' w2 none) := fun w' q => rwan_any (HS.out.kept q) (HI.out.kept q) t
    have HC1 : Hid (Calls Tryd.prog 8 #[siteV X S, planV P a2 c2] U5 fun e w2 => ∃ g cp, e = .returned (.tuple #[planV Q (some ⟨g, 0, none⟩) cp, .int .i64 0]) ∧ U5.heap.size ≤ g ∧ Ints w2 (some ⟨g, 0, none⟩) Q.splits.length cp Q.splits ∧ RowI w2 g Q.splits.length cp (splC S P) ∧ Kept U5 w2 none) := by
      have hx := pclampQ (HS.out.kept hAA) (HT.out.kept hAA) HI5.out hO hs
      rw [hQ] at hx
      exact hx
    have HC2 : Hid (∀ w', Kept WA w' none → Calls Tryd.prog 15 #[siteV X S, planV P a c] w' fun e w2 => ∃ g cp, e = .returned (.tuple #[planV Q (some ⟨g, 0, none⟩) cp, .int .i64 0]) ∧ Ints w2 (some ⟨g, 0, none⟩) Q.splits.length cp Q.splits ∧ Kept w' w2 none) := fun w' q => by
      have hx := rclampP (HS.out.kept q) (HI.out.kept q) hO hs
      rw [hQ] at hx
      exact hx
    clear hQ hs
    generalize atPh S P t = xph at *
    generalize atIn S P t = xin at *
    generalize atE S P t = xe at *
    generalize wtV S P t = xw at *
    generalize splC S P = f0 at *
    go_wp2_with (first | (have hgo := hUJ; clear hgo; go_at_call 18; refine (rsame17_yes (P := Q) (HI1.out.kept (hBC.tr hCJ)) (HI2.out.kept hCJ)).mono ?_; rintro e wk ⟨rfl, hkwk⟩; have hAK : Kept WA wk none := hAJ.tr hkwk; have hUK : Kept U5 wk none := hUJ.tr hkwk; have hBK : Kept w7 wk none := (hBC.tr hCJ).tr hkwk) | (have hgo := hUG; clear hgo; go_at_call 17; refine (HW2.out _ hAG).mono ?_; rintro e wj ⟨rfl, hkwj⟩; have hAJ : Kept WA wj none := hAG.tr hkwj; have hUJ : Kept U5 wj none := hUG.tr hkwj; have hCJ : Kept w9 wj none := ((hkwd.tr hkwe).tr hkwf).tr hkwj; have u0 := (HBB.out.kept (hBC.tr hCJ)).c0; have u1 := (HBB.out.kept (hBC.tr hCJ)).c1; have u2 := (HBB.out.kept (hBC.tr hCJ)).c2; have v0 := (HBC.out.kept hCJ).c0; have v1 := (HBC.out.kept hCJ).c1; have v2 := (HBC.out.kept hCJ).c2) | (have hgo := hUE; clear hgo; go_at_call 12; refine (HW1.out _ hUE).mono ?_; rintro e wf ⟨rfl, hkwf⟩; have hAG : Kept WA wf none := hAE.tr hkwf; have hUG : Kept U5 wf none := hUE.tr hkwf) | (have hgo := hUD; clear hgo; go_at_call 16; refine (HA2.out _ hAD).mono ?_; rintro e we ⟨rfl, hkwe⟩; have hAE : Kept WA we none := hAD.tr hkwe; have hUE : Kept U5 we none := hUD.tr hkwe) | (have hgo := hUC; clear hgo; go_at_call 11; refine (HA1.out _ hUC).mono ?_; rintro e wd ⟨rfl, hkwd⟩; have hAD : Kept WA wd none := hAC.tr hkwd; have hUD : Kept U5 wd none := hUC.tr hkwd) | rw [hw9] | (have hgo := hUB; clear hgo; go_at_call 15; refine (HC2.out _ hAB).mono ?_; rintro e w8 ⟨g2, cp2, rfl, hi2, hkw8⟩; have kC : Kept w8 (w8.alloc (.cells #[.int .i64 Q.cycle, .int .i64 Q.offset, .slice (some ⟨g2, 0, none⟩) Q.splits.length cp2] 24)) none := Kept.alloc _ _ _ _ _; have bC := box_alloc w8 (.int .i64 Q.cycle) (.int .i64 Q.offset) (.slice (some ⟨g2, 0, none⟩) Q.splits.length cp2) 24; obtain ⟨w9, hw9⟩ : ∃ wb, w8.alloc (.cells #[.int .i64 Q.cycle, .int .i64 Q.offset, .slice (some ⟨g2, 0, none⟩) Q.splits.length cp2] 24) = wb := ⟨_, rfl⟩; rw [hw9] at kC bC; have hAC : Kept WA w9 none := (hAB.tr hkw8).tr kC; have hUC : Kept U5 w9 none := (hUB.tr hkw8).tr kC; have HBC := Hid.mk' bC; have HI2 := Hid.mk' (hi2.kept kC); have hBC : Kept w7 w9 none := hkw8.tr kC; clear hi2; clear bC) | rw [hw7] | (have hgo := hUA; clear hgo; go_at_call 8; refine (HC1.out).mono ?_; rintro e w6 ⟨g1, cp1, rfl, hg1, hi1, hR1, hkw6⟩; have kB : Kept w6 (w6.alloc (.cells #[.int .i64 Q.cycle, .int .i64 Q.offset, .slice (some ⟨g1, 0, none⟩) Q.splits.length cp1] 24)) none := Kept.alloc _ _ _ _ _; have bB := box_alloc w6 (.int .i64 Q.cycle) (.int .i64 Q.offset) (.slice (some ⟨g1, 0, none⟩) Q.splits.length cp1) 24; obtain ⟨w7, hw7⟩ : ∃ wb, w6.alloc (.cells #[.int .i64 Q.cycle, .int .i64 Q.offset, .slice (some ⟨g1, 0, none⟩) Q.splits.length cp1] 24) = wb := ⟨_, rfl⟩; rw [hw7] at kB bB; have hAB : Kept WA w7 none := (hAA.tr hkw6).tr kB; have hUB : Kept U5 w7 none := (hUA.tr hkw6).tr kB; have HBB := Hid.mk' bB; have HG1 := Hid.mk' hg1; have HI1 := Hid.mk' (hi1.kept kB); have HR1 := Hid.mk' (hR1.kept kB (by simp)); have HL1 := Hid.mk' hR1.lt; clear hg1 hi1 hR1; clear bB) | rw [hU5] | rw [hU3] | rw [hU2] | (have hgo := M0; clear hgo; at_builtin; refine wpList_app (by rfl) _ _ _ (by rfl) (by rfl) (by rfl) HR4.out ?_; clear M0))
    have HBK := Hid.mk' (HBB.out.kept hBK)
    have HRK := Hid.mk' (HR1.out.kept hBK (by simp))
    have hmx := HR1.out.mx
    have hcp := HR1.out.le
    go_loopw [23] (fun i wr => ∃ k : Nat, k ≤ Q.splits.length ∧ i = .int .i64 k ∧ Kept U5 wr none ∧ Kept wk wr (some g1) ∧ ∃ f, RowI wr g1 Q.splits.length cp1 f) (fun i _ => Q.splits.length - (intOf i).toNat)
    case atStart => exact ⟨0, by omega, rfl, hUK, Kept.refl _ _, f0, HRK.out⟩
    case round =>
      obtain ⟨k, hk, rfl, hUz, hkr, f, hrow⟩ := hrel
      have hAz : Kept WA wr none := hAA.tr hUz
      have n2 := (HBK.out.keptN hkr (fun e => by have := HL1.out; injection e with e; omega)).c2
      have HRO := Hid.mk' hrow
      have HKR := Hid.mk' hkr
      have hlr := hrow.lt
      by_cases hlt : k < Q.splits.length
      · have y0 := hrow.cell hlt
        have z0 := hrow.fz k
        have HUZ := Hid.mk' hUz
        obtain ⟨y, hy⟩ : ∃ y, f k = y := ⟨_, rfl⟩
        rw [hy] at y0
        clear hrow hkr hy
        go_wp2
        go_roundw
        case rel => exact ⟨k + 1, by omega, by go_num, HUZ.out.setNew (p := ⟨g1, k, none⟩) HG1.out _, HKR.out.setRow k _, _, HRO.out.set hlt _⟩
        case measure => simp [intOf]; omega
      · obtain rfl : k = Q.splits.length := by omega
        clear hrow hkr
        go_wp2_with (first | (have hgo := hUz; clear hgo; go_at_call 18; refine (rsame17_yes (P := P) (HI5.out.kept hUz) (HI.out.kept hAz)).mono ?_; rintro e wz ⟨rfl, hkz⟩))
        go_ret
        exact ⟨by simp, (HK.out.tr (hAz.tr hkz)).below⟩
theorem pgow_any {X : Sa} {S : St} {w : World} (h : Sat w X S) (hT : Tabb w) {P : Pl} {a : Option Addr} {c : Nat} (hI : Ints w a P.splits.length c P.splits) (hO : i64B P.offset) (t : Int) : Calls Tryd.prog 4 #[siteV X S, planV P a c, .int .i64 t] w fun e w' => e = .returned (.bool true) ∧ Below w.heap.size w w' := by
  by_cases hl : P.splits.length ≤ 100
  · cases hs : siteB S with
    | false => exact pgow_no h hT hI t hl hs
    | true => exact pgow_yes h hT hI t hO hl hs _ rfl
  · exact pgow_long h hT hI t (by omega)

end Go.Proofs.YtfhmfanmnhclfaaDoor
