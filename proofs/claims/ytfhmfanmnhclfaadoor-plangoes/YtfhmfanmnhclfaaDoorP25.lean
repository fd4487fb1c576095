import Derived.Deep.RegionHeld
import Derived.Test.YtfhmfanmnhclfaaDoorP24
namespace Go.Proofs.YtfhmfanmnhclfaaDoor
set_option linter.unusedVariables false
set_option linter.unusedSimpArgs false
open Go.RowKit Go.Lib Go.Deep

set_option maxRecDepth 100000 in
set_option maxHeartbeats 2000000 in
theorem pclamp_no {X : Sa} {S : St} {w : World} (h : Sat w X S) (hT : Tabb w) {P : Pl} {a : Option Addr} {c : Nat} (hI : Ints w a P.splits.length c P.splits) (hs : siteB S = false) : Calls Tryd.prog 8 #[siteV X S, planV P a c] w fun e w' => e = .returned (.tuple #[.agg #[.int .i64 0, .int .i64 0, .slice none 0 0], .int .i64 50]) ∧ Kept w w' none := by
  have hce : checkE S = 50 := by unfold checkE; rw [hs]; rfl
  obtain ⟨WA, hWA⟩ : ∃ WA, (((w.alloc (.cells #[.int .i64 S.id, .slice X.g S.groups.length X.gc, .slice X.a S.apart.length X.ac, .slice X.b S.between.length X.bc, .slice X.p S.phases.length X.pc, .slice X.e S.eyes.length X.ec, .int .i64 S.watch, .int .i64 S.feed, .int .i64 S.heal, .int .i64 S.low, .int .i64 S.high, .slice X.l S.plans.length X.lc] 35)).alloc (.cells #[.int .i64 P.cycle, .int .i64 P.offset, .slice a P.splits.length c] 24)).alloc (.cells #[.int .i64 0, .int .i64 0, .slice none 0 0] 24)) = WA := ⟨_, rfl⟩
  obtain ⟨HSB, HBP, HSZ, HK, HS, HI, p0_, p1_, p2_, s0_, s1_, s2_, s3_, s4_, s5_, s6_, s7_, s8_, s9_, s10_, s11_, HBZ⟩ := hdpz h hI hWA
  have HT := Hid.mk' (hT.kept HK.out)
  have hK0 := Kept.refl WA none
  clear h hT hI
  go_enter Tryd.func8, Tryd.ntmps8
  go_wp2_with (first | rw [hWA] | (go_at_call 20; have hx := check_any HS.out HT.out; rw [hce] at hx; refine hx.mono ?_; rintro e wC ⟨rfl, hkC⟩; have hKC : Kept WA wC none := hkC; clear hx; have z0 := (HBZ.out.kept hkC).c0; have u0 := (HBZ.out.kept hkC).f0; have z1 := (HBZ.out.kept hkC).c1; have u1 := (HBZ.out.kept hkC).f1; have z2 := (HBZ.out.kept hkC).c2; have u2 := (HBZ.out.kept hkC).f2;))
  refine bodyPost_ret (v := .tuple #[.agg #[.int .i64 0, .int .i64 0, .slice none 0 0], .int .i64 50]) (by simp [results, Tryd.results8, go_sem, z0, z1, z2]) rfl ⟨rfl, ?_⟩
  exact (((HK.out.tr hkC).setNew (p := ⟨w.heap.size + 1 + 1, 0, none⟩) (by show w.heap.size ≤ w.heap.size + 1 + 1; omega) _).setNew (p := ⟨w.heap.size + 1 + 1, 1, none⟩) (by show w.heap.size ≤ w.heap.size + 1 + 1; omega) _).setNew (p := ⟨w.heap.size + 1 + 1, 2, none⟩) (by show w.heap.size ≤ w.heap.size + 1 + 1; omega) _
set_option maxRecDepth 100000 in
set_option maxHeartbeats 4000000 in
theorem pclamp_lo {X : Sa} {S : St} {w : World} (h : Sat w X S) (hT : Tabb w) {P : Pl} {a : Option Addr} {c : Nat} (hI : Ints w a P.splits.length c P.splits) (hO : i64B P.offset) (hs : siteB S = true) (hl : P.cycle < S.low) : Calls Tryd.prog 8 #[siteV X S, planV P a c] w fun e w' => ∃ g cp, e = .returned (.tuple #[.agg #[.int .i64 S.low, .int .i64 (offC S P), .slice (some ⟨g, 0, none⟩) S.phases.length cp], .int .i64 0]) ∧ w.heap.size ≤ g ∧ RowI w' g S.phases.length cp (splC S P) ∧ Kept w w' none := by
  have hce : checkE S = 0 := by unfold checkE; rw [hs]; rfl
  have hn := (span_may hs).base.sh.ok.np
  have hcf := cyc_facts hs
  have HV : Hid (cycC S P = S.low) := by show cycC S P = S.low; unfold cycC; rw [if_pos hl]
  have hv1 : 1 ≤ S.low ∧ S.low ≤ 1048576 := by
    have h1 := cycC_rng hs P
    have h2 := part_low hs (i := 0) (by omega)
    have h3 := partM_ge hs (i := 0) (by omega)
    rw [HV.out] at h1
    omega
  have HSI := Hid.mk' hs
  have HREM : Hid (∀ w' : World, Calls Tryd.prog 29 #[.int .i64 P.offset, .int .i64 S.low] w' fun e w2 => e = .returned (.int .i64 (offC S P)) ∧ w2 = w') := fun w' => by
    have hx := prem_any P.offset S.low hO hv1.1 hv1.2 w'
    rw [← HV.out] at hx ⊢
    exact hx
  obtain ⟨WA, hWA⟩ : ∃ WA, (((w.alloc (.cells #[.int .i64 S.id, .slice X.g S.groups.length X.gc, .slice X.a S.apart.length X.ac, .slice X.b S.between.length X.bc, .slice X.p S.phases.length X.pc, .slice X.e S.eyes.length X.ec, .int .i64 S.watch, .int .i64 S.feed, .int .i64 S.heal, .int .i64 S.low, .int .i64 S.high, .slice X.l S.plans.length X.lc] 35)).alloc (.cells #[.int .i64 P.cycle, .int .i64 P.offset, .slice a P.splits.length c] 24)).alloc (.cells #[.int .i64 0, .int .i64 0, .slice none 0 0] 24)) = WA := ⟨_, rfl⟩
  obtain ⟨HSB, HBP, HSZ, HK, HS, HI, p0_, p1_, p2_, s0_, s1_, s2_, s3_, s4_, s5_, s6_, s7_, s8_, s9_, s10_, s11_, HBZ⟩ := hdpz h hI hWA
  have HT := Hid.mk' (hT.kept HK.out)
  have hK0 := Kept.refl WA none
  clear h hT hI
  have hsl : S.low ≤ S.high := by omega
  clear hcf hv1 hs hO
  go_enter Tryd.func8, Tryd.ntmps8
  go_wp2_with (first | rw [hWA] | (have hgo := hKC; clear hgo; go_at_call 28; refine (pleast_any (HSB.out.kept hKC) (HT.out.kept hKC) HSI.out).mono ?_; rintro e wL ⟨rfl, hrL, hkL⟩; have hKL : Kept WA wL none := hKC.tr hkL; have HRL := Hid.mk' hrL; clear hrL) | (go_at_call 20; have hx := check_any HS.out HT.out; rw [hce] at hx; refine hx.mono ?_; rintro e wC ⟨rfl, hkC⟩; have hKC : Kept WA wC none := hkC; clear hx; ))
  have HKL := Hid.mk' hKL
  have hlC : w.heap.size + 1 + 1 < wC.heap.size := Nat.lt_of_lt_of_le HBZ.out.lt hKC.size
  have HWI : Hid (∀ w', Kept wL w' none → Calls Tryd.prog 31 #[.pointer (some ⟨w.heap.size, 0, none⟩), .slice (some ⟨wC.heap.size, 0, none⟩) S.phases.length S.phases.length, .slice a P.splits.length c] w' fun e w2 => e = .returned (.slice (some ⟨w'.heap.size, 0, none⟩) S.phases.length S.phases.length) ∧ RowI w2 w'.heap.size S.phases.length S.phases.length (wshC S P) ∧ Kept w' w2 none) := fun w' q => pwish_any ((HSB.out.kept HKL.out).kept q) HSI.out (HRL.out.kept q (by simp)) ((HI.out.kept HKL.out).kept q)
  have HSP : Hid (∀ w' wb, Kept wL w' none → RowI w' wb S.phases.length S.phases.length (wshC S P) → Calls Tryd.prog 30 #[.int .i64 S.low, .slice (some ⟨wC.heap.size, 0, none⟩) S.phases.length S.phases.length, .slice (some ⟨wb, 0, none⟩) S.phases.length S.phases.length] w' fun e w2 => ∃ g cp, e = .returned (.slice (some ⟨g, 0, none⟩) S.phases.length cp) ∧ w'.heap.size ≤ g ∧ RowI w2 g S.phases.length cp (splC S P) ∧ Kept w' w2 none) := fun w' wb q hb => by
    have hx := pspl_any (w := w') HSI.out (HRL.out.kept q (by simp)) hb
    rw [HV.out] at hx
    exact hx
  have HSS : Hid (∀ w', Kept wL w' none → Kept w w' none ∧ w'.cell? ⟨w.heap.size + 1, 1, none⟩ = some (.int .i64 P.offset) ∧ w'.cell? ⟨w.heap.size + 1, 2, none⟩ = some (.slice a P.splits.length c)) := fun w' q => ⟨HK.out.tr (HKL.out.tr q), (HBP.out.kept (HKL.out.tr q)).c1, (HBP.out.kept (HKL.out.tr q)).c2⟩
  have HZ9 : Hid (∀ w', Kept wL w' none → Box w' (w.heap.size + 1 + 1) (.int .i64 0) (.int .i64 0) (.slice none 0 0)) := fun w' q => HBZ.out.kept (HKL.out.tr q)
  have hH0 := HSS.out wL.drew (Kept.drew _ _)
  have HST : Hid (∀ (wS : World) (v0 v1 v2 : Value), Kept w wS none ∧ wS.cell? ⟨w.heap.size + 1, 1, none⟩ = some (.int .i64 P.offset) ∧ wS.cell? ⟨w.heap.size + 1, 2, none⟩ = some (.slice a P.splits.length c) → Kept w (((wS.setCell ⟨w.heap.size + 1 + 1, 0, none⟩ (v0)).setCell ⟨w.heap.size + 1 + 1, 1, none⟩ (v1)).setCell ⟨w.heap.size + 1 + 1, 2, none⟩ (v2)) none ∧ (((wS.setCell ⟨w.heap.size + 1 + 1, 0, none⟩ (v0)).setCell ⟨w.heap.size + 1 + 1, 1, none⟩ (v1)).setCell ⟨w.heap.size + 1 + 1, 2, none⟩ (v2)).cell? ⟨w.heap.size + 1, 1, none⟩ = some (.int .i64 P.offset) ∧ (((wS.setCell ⟨w.heap.size + 1 + 1, 0, none⟩ (v0)).setCell ⟨w.heap.size + 1 + 1, 1, none⟩ (v1)).setCell ⟨w.heap.size + 1 + 1, 2, none⟩ (v2)).cell? ⟨w.heap.size + 1, 2, none⟩ = some (.slice a P.splits.length c)) := fun wS v0 v1 v2 ⟨h1, h2, h3⟩ =>
    ⟨(((h1).setNew (p := ⟨w.heap.size + 1 + 1, 0, none⟩) (by show w.heap.size ≤ w.heap.size + 1 + 1; omega) _).setNew (p := ⟨w.heap.size + 1 + 1, 1, none⟩) (by show w.heap.size ≤ w.heap.size + 1 + 1; omega) _).setNew (p := ⟨w.heap.size + 1 + 1, 2, none⟩) (by show w.heap.size ≤ w.heap.size + 1 + 1; omega) _, (World.cell?_setCell_far _ _ _ _ (by simp)).trans ((World.cell?_setCell_far _ _ _ _ (by simp)).trans ((World.cell?_setCell_far _ _ _ _ (by simp)).trans h2)), (World.cell?_setCell_far _ _ _ _ (by simp)).trans ((World.cell?_setCell_far _ _ _ _ (by simp)).trans ((World.cell?_setCell_far _ _ _ _ (by simp)).trans h3))⟩
  clear hkL hKL hkC hKC hK0 s0_ s1_ s2_ s3_ s4_ s5_ s6_ s7_ s8_ s9_ s10_ s11_ p0_ p1_ p2_
  go_region_held (fun w' => Kept w w' none ∧ w'.cell? ⟨w.heap.size + 1, 1, none⟩ = some (.int .i64 P.offset) ∧ w'.cell? ⟨w.heap.size + 1, 2, none⟩ = some (.slice a P.splits.length c))
    ((first | exact hH0 | assumption | exact HST.out _ _ _ _ hHS))
    ((first
      | (have hgo := HWR9; clear hgo; go_at_call 30; refine (HSP.out _ _ (by assumption) HWR9.out).mono ?_; rintro e wS ⟨g, cp, rfl, hg, hrow, hkS⟩; have hKS : Kept wL wS none := hKW.tr hkS; have HR9 := Hid.mk' hrow; have hgL := Hid.mk' (Nat.le_trans hKW.size hg); have hHS : Kept w wS none ∧ wS.cell? ⟨w.heap.size + 1, 1, none⟩ = some (.int .i64 P.offset) ∧ wS.cell? ⟨w.heap.size + 1, 2, none⟩ = some (.slice a P.splits.length c) := HSS.out _ hKS; have z0 := (HZ9.out _ hKS).c0; have z1 := (HZ9.out _ hKS).c1; have z2 := (HZ9.out _ hKS).c2; have u0 := (HZ9.out _ hKS).f0; have u1 := (HZ9.out _ hKS).f1; have u2 := (HZ9.out _ hKS).f2; clear hrow)
      | (go_at_call 31; refine (HWI.out _ (Kept.drew _ _)).mono ?_; rintro e wW ⟨rfl, hrW, hkW⟩; have hKW : Kept wL wW none := (Kept.drew _ _).tr hkW; have HWR9 := Hid.mk' hrW; have hHW : Kept w wW none ∧ wW.cell? ⟨w.heap.size + 1, 1, none⟩ = some (.int .i64 P.offset) ∧ wW.cell? ⟨w.heap.size + 1, 2, none⟩ = some (.slice a P.splits.length c) := HSS.out _ hKW; clear hrW)
      | (go_at_call 29; refine (HREM.out _).mono ?_; rintro e wR ⟨rfl, rfl⟩)))
  all_goals
    go_wp2
    refine bodyPost_ret (v := .tuple #[.agg #[.int .i64 S.low, .int .i64 (offC S P), .slice (some ⟨g, 0, none⟩) S.phases.length cp], .int .i64 0]) (by simp [results, Tryd.results8, go_sem, z0, z1, z2]) rfl ⟨g, cp, rfl, ?_, ?_, ?_⟩
    · exact Nat.le_trans (HK.out.tr HKL.out).size hgL.out
    · have hLs := HKL.out.size
      have hlz := HBZ.out.lt
      have hgl := hgL.out
      have kz : Kept wS (((wS.setCell ⟨w.heap.size + 1 + 1, 0, none⟩ (.int .i64 S.low)).setCell ⟨w.heap.size + 1 + 1, 1, none⟩ (.int .i64 (offC S P))).setCell ⟨w.heap.size + 1 + 1, 2, none⟩ (.slice (some ⟨g, 0, none⟩) S.phases.length cp)) (some (w.heap.size + 1 + 1)) := (((Kept.refl wS (some (w.heap.size + 1 + 1))).setRow _ _).setRow _ _).setRow _ _
      exact HR9.out.kept kz (fun e => by have e : g = w.heap.size + 1 + 1 := Option.some.inj e; omega)
    · exact (((hHS.1).setNew (p := ⟨w.heap.size + 1 + 1, 0, none⟩) (by show w.heap.size ≤ w.heap.size + 1 + 1; omega) _).setNew (p := ⟨w.heap.size + 1 + 1, 1, none⟩) (by show w.heap.size ≤ w.heap.size + 1 + 1; omega) _).setNew (p := ⟨w.heap.size + 1 + 1, 2, none⟩) (by show w.heap.size ≤ w.heap.size + 1 + 1; omega) _
set_option maxRecDepth 100000 in
set_option maxHeartbeats 4000000 in
theorem pclamp_hi {X : Sa} {S : St} {w : World} (h : Sat w X S) (hT : Tabb w) {P : Pl} {a : Option Addr} {c : Nat} (hI : Ints w a P.splits.length c P.splits) (hO : i64B P.offset) (hs : siteB S = true) (hl : ¬ P.cycle < S.low) (hh : S.high < P.cycle) : Calls Tryd.prog 8 #[siteV X S, planV P a c] w fun e w' => ∃ g cp, e = .returned (.tuple #[.agg #[.int .i64 S.high, .int .i64 (offC S P), .slice (some ⟨g, 0, none⟩) S.phases.length cp], .int .i64 0]) ∧ w.heap.size ≤ g ∧ RowI w' g S.phases.length cp (splC S P) ∧ Kept w w' none := by
  have hce : checkE S = 0 := by unfold checkE; rw [hs]; rfl
  have hn := (span_may hs).base.sh.ok.np
  have hcf := cyc_facts hs
  have HV : Hid (cycC S P = S.high) := by show cycC S P = S.high; unfold cycC; rw [if_neg hl, if_pos hh]
  have hv1 : 1 ≤ S.high ∧ S.high ≤ 1048576 := by
    have h1 := cycC_rng hs P
    have h2 := part_low hs (i := 0) (by omega)
    have h3 := partM_ge hs (i := 0) (by omega)
    rw [HV.out] at h1
    omega
  have HSI := Hid.mk' hs
  have HREM : Hid (∀ w' : World, Calls Tryd.prog 29 #[.int .i64 P.offset, .int .i64 S.high] w' fun e w2 => e = .returned (.int .i64 (offC S P)) ∧ w2 = w') := fun w' => by
    have hx := prem_any P.offset S.high hO hv1.1 hv1.2 w'
    rw [← HV.out] at hx ⊢
    exact hx
  obtain ⟨WA, hWA⟩ : ∃ WA, (((w.alloc (.cells #[.int .i64 S.id, .slice X.g S.groups.length X.gc, .slice X.a S.apart.length X.ac, .slice X.b S.between.length X.bc, .slice X.p S.phases.length X.pc, .slice X.e S.eyes.length X.ec, .int .i64 S.watch, .int .i64 S.feed, .int .i64 S.heal, .int .i64 S.low, .int .i64 S.high, .slice X.l S.plans.length X.lc] 35)).alloc (.cells #[.int .i64 P.cycle, .int .i64 P.offset, .slice a P.splits.length c] 24)).alloc (.cells #[.int .i64 0, .int .i64 0, .slice none 0 0] 24)) = WA := ⟨_, rfl⟩
  obtain ⟨HSB, HBP, HSZ, HK, HS, HI, p0_, p1_, p2_, s0_, s1_, s2_, s3_, s4_, s5_, s6_, s7_, s8_, s9_, s10_, s11_, HBZ⟩ := hdpz h hI hWA
  have HT := Hid.mk' (hT.kept HK.out)
  have hK0 := Kept.refl WA none
  clear h hT hI
  have hsl : S.low ≤ S.high := by omega
  clear hcf hv1 hs hO
  go_enter Tryd.func8, Tryd.ntmps8
  go_wp2_with (first | rw [hWA] | (have hgo := hKC; clear hgo; go_at_call 28; refine (pleast_any (HSB.out.kept hKC) (HT.out.kept hKC) HSI.out).mono ?_; rintro e wL ⟨rfl, hrL, hkL⟩; have hKL : Kept WA wL none := hKC.tr hkL; have HRL := Hid.mk' hrL; clear hrL) | (go_at_call 20; have hx := check_any HS.out HT.out; rw [hce] at hx; refine hx.mono ?_; rintro e wC ⟨rfl, hkC⟩; have hKC : Kept WA wC none := hkC; clear hx; ))
  have HKL := Hid.mk' hKL
  have hlC : w.heap.size + 1 + 1 < wC.heap.size := Nat.lt_of_lt_of_le HBZ.out.lt hKC.size
  have HWI : Hid (∀ w', Kept wL w' none → Calls Tryd.prog 31 #[.pointer (some ⟨w.heap.size, 0, none⟩), .slice (some ⟨wC.heap.size, 0, none⟩) S.phases.length S.phases.length, .slice a P.splits.length c] w' fun e w2 => e = .returned (.slice (some ⟨w'.heap.size, 0, none⟩) S.phases.length S.phases.length) ∧ RowI w2 w'.heap.size S.phases.length S.phases.length (wshC S P) ∧ Kept w' w2 none) := fun w' q => pwish_any ((HSB.out.kept HKL.out).kept q) HSI.out (HRL.out.kept q (by simp)) ((HI.out.kept HKL.out).kept q)
  have HSP : Hid (∀ w' wb, Kept wL w' none → RowI w' wb S.phases.length S.phases.length (wshC S P) → Calls Tryd.prog 30 #[.int .i64 S.high, .slice (some ⟨wC.heap.size, 0, none⟩) S.phases.length S.phases.length, .slice (some ⟨wb, 0, none⟩) S.phases.length S.phases.length] w' fun e w2 => ∃ g cp, e = .returned (.slice (some ⟨g, 0, none⟩) S.phases.length cp) ∧ w'.heap.size ≤ g ∧ RowI w2 g S.phases.length cp (splC S P) ∧ Kept w' w2 none) := fun w' wb q hb => by
    have hx := pspl_any (w := w') HSI.out (HRL.out.kept q (by simp)) hb
    rw [HV.out] at hx
    exact hx
  have HSS : Hid (∀ w', Kept wL w' none → Kept w w' none ∧ w'.cell? ⟨w.heap.size + 1, 1, none⟩ = some (.int .i64 P.offset) ∧ w'.cell? ⟨w.heap.size + 1, 2, none⟩ = some (.slice a P.splits.length c)) := fun w' q => ⟨HK.out.tr (HKL.out.tr q), (HBP.out.kept (HKL.out.tr q)).c1, (HBP.out.kept (HKL.out.tr q)).c2⟩
  have HZ9 : Hid (∀ w', Kept wL w' none → Box w' (w.heap.size + 1 + 1) (.int .i64 0) (.int .i64 0) (.slice none 0 0)) := fun w' q => HBZ.out.kept (HKL.out.tr q)
  have hH0 := HSS.out wL.drew (Kept.drew _ _)
  have HST : Hid (∀ (wS : World) (v0 v1 v2 : Value), Kept w wS none ∧ wS.cell? ⟨w.heap.size + 1, 1, none⟩ = some (.int .i64 P.offset) ∧ wS.cell? ⟨w.heap.size + 1, 2, none⟩ = some (.slice a P.splits.length c) → Kept w (((wS.setCell ⟨w.heap.size + 1 + 1, 0, none⟩ (v0)).setCell ⟨w.heap.size + 1 + 1, 1, none⟩ (v1)).setCell ⟨w.heap.size + 1 + 1, 2, none⟩ (v2)) none ∧ (((wS.setCell ⟨w.heap.size + 1 + 1, 0, none⟩ (v0)).setCell ⟨w.heap.size + 1 + 1, 1, none⟩ (v1)).setCell ⟨w.heap.size + 1 + 1, 2, none⟩ (v2)).cell? ⟨w.heap.size + 1, 1, none⟩ = some (.int .i64 P.offset) ∧ (((wS.setCell ⟨w.heap.size + 1 + 1, 0, none⟩ (v0)).setCell ⟨w.heap.size + 1 + 1, 1, none⟩ (v1)).setCell ⟨w.heap.size + 1 + 1, 2, none⟩ (v2)).cell? ⟨w.heap.size + 1, 2, none⟩ = some (.slice a P.splits.length c)) := fun wS v0 v1 v2 ⟨h1, h2, h3⟩ =>
    ⟨(((h1).setNew (p := ⟨w.heap.size + 1 + 1, 0, none⟩) (by show w.heap.size ≤ w.heap.size + 1 + 1; omega) _).setNew (p := ⟨w.heap.size + 1 + 1, 1, none⟩) (by show w.heap.size ≤ w.heap.size + 1 + 1; omega) _).setNew (p := ⟨w.heap.size + 1 + 1, 2, none⟩) (by show w.heap.size ≤ w.heap.size + 1 + 1; omega) _, (World.cell?_setCell_far _ _ _ _ (by simp)).trans ((World.cell?_setCell_far _ _ _ _ (by simp)).trans ((World.cell?_setCell_far _ _ _ _ (by simp)).trans h2)), (World.cell?_setCell_far _ _ _ _ (by simp)).trans ((World.cell?_setCell_far _ _ _ _ (by simp)).trans ((World.cell?_setCell_far _ _ _ _ (by simp)).trans h3))⟩
  clear hkL hKL hkC hKC hK0 s0_ s1_ s2_ s3_ s4_ s5_ s6_ s7_ s8_ s9_ s10_ s11_ p0_ p1_ p2_
  go_region_held (fun w' => Kept w w' none ∧ w'.cell? ⟨w.heap.size + 1, 1, none⟩ = some (.int .i64 P.offset) ∧ w'.cell? ⟨w.heap.size + 1, 2, none⟩ = some (.slice a P.splits.length c))
    ((first | exact hH0 | assumption | exact HST.out _ _ _ _ hHS))
    ((first
      | (have hgo := HWR9; clear hgo; go_at_call 30; refine (HSP.out _ _ (by assumption) HWR9.out).mono ?_; rintro e wS ⟨g, cp, rfl, hg, hrow, hkS⟩; have hKS : Kept wL wS none := hKW.tr hkS; have HR9 := Hid.mk' hrow; have hgL := Hid.mk' (Nat.le_trans hKW.size hg); have hHS : Kept w wS none ∧ wS.cell? ⟨w.heap.size + 1, 1, none⟩ = some (.int .i64 P.offset) ∧ wS.cell? ⟨w.heap.size + 1, 2, none⟩ = some (.slice a P.splits.length c) := HSS.out _ hKS; have z0 := (HZ9.out _ hKS).c0; have z1 := (HZ9.out _ hKS).c1; have z2 := (HZ9.out _ hKS).c2; have u0 := (HZ9.out _ hKS).f0; have u1 := (HZ9.out _ hKS).f1; have u2 := (HZ9.out _ hKS).f2; clear hrow)
      | (go_at_call 31; refine (HWI.out _ (Kept.drew _ _)).mono ?_; rintro e wW ⟨rfl, hrW, hkW⟩; have hKW : Kept wL wW none := (Kept.drew _ _).tr hkW; have HWR9 := Hid.mk' hrW; have hHW : Kept w wW none ∧ wW.cell? ⟨w.heap.size + 1, 1, none⟩ = some (.int .i64 P.offset) ∧ wW.cell? ⟨w.heap.size + 1, 2, none⟩ = some (.slice a P.splits.length c) := HSS.out _ hKW; clear hrW)
      | (go_at_call 29; refine (HREM.out _).mono ?_; rintro e wR ⟨rfl, rfl⟩)))
  all_goals
    go_wp2
    refine bodyPost_ret (v := .tuple #[.agg #[.int .i64 S.high, .int .i64 (offC S P), .slice (some ⟨g, 0, none⟩) S.phases.length cp], .int .i64 0]) (by simp [results, Tryd.results8, go_sem, z0, z1, z2]) rfl ⟨g, cp, rfl, ?_, ?_, ?_⟩
    · exact Nat.le_trans (HK.out.tr HKL.out).size hgL.out
    · have hLs := HKL.out.size
      have hlz := HBZ.out.lt
      have hgl := hgL.out
      have kz : Kept wS (((wS.setCell ⟨w.heap.size + 1 + 1, 0, none⟩ (.int .i64 S.high)).setCell ⟨w.heap.size + 1 + 1, 1, none⟩ (.int .i64 (offC S P))).setCell ⟨w.heap.size + 1 + 1, 2, none⟩ (.slice (some ⟨g, 0, none⟩) S.phases.length cp)) (some (w.heap.size + 1 + 1)) := (((Kept.refl wS (some (w.heap.size + 1 + 1))).setRow _ _).setRow _ _).setRow _ _
      exact HR9.out.kept kz (fun e => by have e : g = w.heap.size + 1 + 1 := Option.some.inj e; omega)
    · exact (((hHS.1).setNew (p := ⟨w.heap.size + 1 + 1, 0, none⟩) (by show w.heap.size ≤ w.heap.size + 1 + 1; omega) _).setNew (p := ⟨w.heap.size + 1 + 1, 1, none⟩) (by show w.heap.size ≤ w.heap.size + 1 + 1; omega) _).setNew (p := ⟨w.heap.size + 1 + 1, 2, none⟩) (by show w.heap.size ≤ w.heap.size + 1 + 1; omega) _
set_option maxRecDepth 100000 in
set_option maxHeartbeats 4000000 in
theorem pclamp_in {X : Sa} {S : St} {w : World} (h : Sat w X S) (hT : Tabb w) {P : Pl} {a : Option Addr} {c : Nat} (hI : Ints w a P.splits.length c P.splits) (hO : i64B P.offset) (hs : siteB S = true) (hl : ¬ P.cycle < S.low) (hh : ¬ S.high < P.cycle) : Calls Tryd.prog 8 #[siteV X S, planV P a c] w fun e w' => ∃ g cp, e = .returned (.tuple #[.agg #[.int .i64 P.cycle, .int .i64 (offC S P), .slice (some ⟨g, 0, none⟩) S.phases.length cp], .int .i64 0]) ∧ w.heap.size ≤ g ∧ RowI w' g S.phases.length cp (splC S P) ∧ Kept w w' none := by
  have hce : checkE S = 0 := by unfold checkE; rw [hs]; rfl
  have hn := (span_may hs).base.sh.ok.np
  have hcf := cyc_facts hs
  have HV : Hid (cycC S P = P.cycle) := by show cycC S P = P.cycle; unfold cycC; rw [if_neg hl, if_neg hh]
  have hv1 : 1 ≤ P.cycle ∧ P.cycle ≤ 1048576 := by
    have h1 := cycC_rng hs P
    have h2 := part_low hs (i := 0) (by omega)
    have h3 := partM_ge hs (i := 0) (by omega)
    rw [HV.out] at h1
    omega
  have HSI := Hid.mk' hs
  have HREM : Hid (∀ w' : World, Calls Tryd.prog 29 #[.int .i64 P.offset, .int .i64 P.cycle] w' fun e w2 => e = .returned (.int .i64 (offC S P)) ∧ w2 = w') := fun w' => by
    have hx := prem_any P.offset P.cycle hO hv1.1 hv1.2 w'
    rw [← HV.out] at hx ⊢
    exact hx
  obtain ⟨WA, hWA⟩ : ∃ WA, (((w.alloc (.cells #[.int .i64 S.id, .slice X.g S.groups.length X.gc, .slice X.a S.apart.length X.ac, .slice X.b S.between.length X.bc, .slice X.p S.phases.length X.pc, .slice X.e S.eyes.length X.ec, .int .i64 S.watch, .int .i64 S.feed, .int .i64 S.heal, .int .i64 S.low, .int .i64 S.high, .slice X.l S.plans.length X.lc] 35)).alloc (.cells #[.int .i64 P.cycle, .int .i64 P.offset, .slice a P.splits.length c] 24)).alloc (.cells #[.int .i64 0, .int .i64 0, .slice none 0 0] 24)) = WA := ⟨_, rfl⟩
  obtain ⟨HSB, HBP, HSZ, HK, HS, HI, p0_, p1_, p2_, s0_, s1_, s2_, s3_, s4_, s5_, s6_, s7_, s8_, s9_, s10_, s11_, HBZ⟩ := hdpz h hI hWA
  have HT := Hid.mk' (hT.kept HK.out)
  have hK0 := Kept.refl WA none
  clear h hT hI
  have hsl : S.low ≤ S.high := by omega
  clear hcf hv1 hs hO
  go_enter Tryd.func8, Tryd.ntmps8
  go_wp2_with (first | rw [hWA] | (have hgo := hKC; clear hgo; go_at_call 28; refine (pleast_any (HSB.out.kept hKC) (HT.out.kept hKC) HSI.out).mono ?_; rintro e wL ⟨rfl, hrL, hkL⟩; have hKL : Kept WA wL none := hKC.tr hkL; have HRL := Hid.mk' hrL; clear hrL) | (go_at_call 20; have hx := check_any HS.out HT.out; rw [hce] at hx; refine hx.mono ?_; rintro e wC ⟨rfl, hkC⟩; have hKC : Kept WA wC none := hkC; clear hx; ))
  have HKL := Hid.mk' hKL
  have hlC : w.heap.size + 1 + 1 < wC.heap.size := Nat.lt_of_lt_of_le HBZ.out.lt hKC.size
  have HWI : Hid (∀ w', Kept wL w' none → Calls Tryd.prog 31 #[.pointer (some ⟨w.heap.size, 0, none⟩), .slice (some ⟨wC.heap.size, 0, none⟩) S.phases.length S.phases.length, .slice a P.splits.length c] w' fun e w2 => e = .returned (.slice (some ⟨w'.heap.size, 0, none⟩) S.phases.length S.phases.length) ∧ RowI w2 w'.heap.size S.phases.length S.phases.length (wshC S P) ∧ Kept w' w2 none) := fun w' q => pwish_any ((HSB.out.kept HKL.out).kept q) HSI.out (HRL.out.kept q (by simp)) ((HI.out.kept HKL.out).kept q)
  have HSP : Hid (∀ w' wb, Kept wL w' none → RowI w' wb S.phases.length S.phases.length (wshC S P) → Calls Tryd.prog 30 #[.int .i64 P.cycle, .slice (some ⟨wC.heap.size, 0, none⟩) S.phases.length S.phases.length, .slice (some ⟨wb, 0, none⟩) S.phases.length S.phases.length] w' fun e w2 => ∃ g cp, e = .returned (.slice (some ⟨g, 0, none⟩) S.phases.length cp) ∧ w'.heap.size ≤ g ∧ RowI w2 g S.phases.length cp (splC S P) ∧ Kept w' w2 none) := fun w' wb q hb => by
    have hx := pspl_any (w := w') HSI.out (HRL.out.kept q (by simp)) hb
    rw [HV.out] at hx
    exact hx
  have HSS : Hid (∀ w', Kept wL w' none → Kept w w' none ∧ w'.cell? ⟨w.heap.size + 1, 1, none⟩ = some (.int .i64 P.offset) ∧ w'.cell? ⟨w.heap.size + 1, 2, none⟩ = some (.slice a P.splits.length c)) := fun w' q => ⟨HK.out.tr (HKL.out.tr q), (HBP.out.kept (HKL.out.tr q)).c1, (HBP.out.kept (HKL.out.tr q)).c2⟩
  have HZ9 : Hid (∀ w', Kept wL w' none → Box w' (w.heap.size + 1 + 1) (.int .i64 0) (.int .i64 0) (.slice none 0 0)) := fun w' q => HBZ.out.kept (HKL.out.tr q)
  have hH0 := HSS.out wL.drew (Kept.drew _ _)
  have HST : Hid (∀ (wS : World) (v0 v1 v2 : Value), Kept w wS none ∧ wS.cell? ⟨w.heap.size + 1, 1, none⟩ = some (.int .i64 P.offset) ∧ wS.cell? ⟨w.heap.size + 1, 2, none⟩ = some (.slice a P.splits.length c) → Kept w (((wS.setCell ⟨w.heap.size + 1 + 1, 0, none⟩ (v0)).setCell ⟨w.heap.size + 1 + 1, 1, none⟩ (v1)).setCell ⟨w.heap.size + 1 + 1, 2, none⟩ (v2)) none ∧ (((wS.setCell ⟨w.heap.size + 1 + 1, 0, none⟩ (v0)).setCell ⟨w.heap.size + 1 + 1, 1, none⟩ (v1)).setCell ⟨w.heap.size + 1 + 1, 2, none⟩ (v2)).cell? ⟨w.heap.size + 1, 1, none⟩ = some (.int .i64 P.offset) ∧ (((wS.setCell ⟨w.heap.size + 1 + 1, 0, none⟩ (v0)).setCell ⟨w.heap.size + 1 + 1, 1, none⟩ (v1)).setCell ⟨w.heap.size + 1 + 1, 2, none⟩ (v2)).cell? ⟨w.heap.size + 1, 2, none⟩ = some (.slice a P.splits.length c)) := fun wS v0 v1 v2 ⟨h1, h2, h3⟩ =>
    ⟨(((h1).setNew (p := ⟨w.heap.size + 1 + 1, 0, none⟩) (by show w.heap.size ≤ w.heap.size + 1 + 1; omega) _).setNew (p := ⟨w.heap.size + 1 + 1, 1, none⟩) (by show w.heap.size ≤ w.heap.size + 1 + 1; omega) _).setNew (p := ⟨w.heap.size + 1 + 1, 2, none⟩) (by show w.heap.size ≤ w.heap.size + 1 + 1; omega) _, (World.cell?_setCell_far _ _ _ _ (by simp)).trans ((World.cell?_setCell_far _ _ _ _ (by simp)).trans ((World.cell?_setCell_far _ _ _ _ (by simp)).trans h2)), (World.cell?_setCell_far _ _ _ _ (by simp)).trans ((World.cell?_setCell_far _ _ _ _ (by simp)).trans ((World.cell?_setCell_far _ _ _ _ (by simp)).trans h3))⟩
  clear hkL hKL hkC hKC hK0 s0_ s1_ s2_ s3_ s4_ s5_ s6_ s7_ s8_ s9_ s10_ s11_ p0_ p1_ p2_
  go_region_held (fun w' => Kept w w' none ∧ w'.cell? ⟨w.heap.size + 1, 1, none⟩ = some (.int .i64 P.offset) ∧ w'.cell? ⟨w.heap.size + 1, 2, none⟩ = some (.slice a P.splits.length c))
    ((first | exact hH0 | assumption | exact HST.out _ _ _ _ hHS))
    ((first
      | (have hgo := HWR9; clear hgo; go_at_call 30; refine (HSP.out _ _ (by assumption) HWR9.out).mono ?_; rintro e wS ⟨g, cp, rfl, hg, hrow, hkS⟩; have hKS : Kept wL wS none := hKW.tr hkS; have HR9 := Hid.mk' hrow; have hgL := Hid.mk' (Nat.le_trans hKW.size hg); have hHS : Kept w wS none ∧ wS.cell? ⟨w.heap.size + 1, 1, none⟩ = some (.int .i64 P.offset) ∧ wS.cell? ⟨w.heap.size + 1, 2, none⟩ = some (.slice a P.splits.length c) := HSS.out _ hKS; have z0 := (HZ9.out _ hKS).c0; have z1 := (HZ9.out _ hKS).c1; have z2 := (HZ9.out _ hKS).c2; have u0 := (HZ9.out _ hKS).f0; have u1 := (HZ9.out _ hKS).f1; have u2 := (HZ9.out _ hKS).f2; clear hrow)
      | (go_at_call 31; refine (HWI.out _ (Kept.drew _ _)).mono ?_; rintro e wW ⟨rfl, hrW, hkW⟩; have hKW : Kept wL wW none := (Kept.drew _ _).tr hkW; have HWR9 := Hid.mk' hrW; have hHW : Kept w wW none ∧ wW.cell? ⟨w.heap.size + 1, 1, none⟩ = some (.int .i64 P.offset) ∧ wW.cell? ⟨w.heap.size + 1, 2, none⟩ = some (.slice a P.splits.length c) := HSS.out _ hKW; clear hrW)
      | (go_at_call 29; refine (HREM.out _).mono ?_; rintro e wR ⟨rfl, rfl⟩)))
  all_goals
    go_wp2
    refine bodyPost_ret (v := .tuple #[.agg #[.int .i64 P.cycle, .int .i64 (offC S P), .slice (some ⟨g, 0, none⟩) S.phases.length cp], .int .i64 0]) (by simp [results, Tryd.results8, go_sem, z0, z1, z2]) rfl ⟨g, cp, rfl, ?_, ?_, ?_⟩
    · exact Nat.le_trans (HK.out.tr HKL.out).size hgL.out
    · have hLs := HKL.out.size
      have hlz := HBZ.out.lt
      have hgl := hgL.out
      have kz : Kept wS (((wS.setCell ⟨w.heap.size + 1 + 1, 0, none⟩ (.int .i64 P.cycle)).setCell ⟨w.heap.size + 1 + 1, 1, none⟩ (.int .i64 (offC S P))).setCell ⟨w.heap.size + 1 + 1, 2, none⟩ (.slice (some ⟨g, 0, none⟩) S.phases.length cp)) (some (w.heap.size + 1 + 1)) := (((Kept.refl wS (some (w.heap.size + 1 + 1))).setRow _ _).setRow _ _).setRow _ _
      exact HR9.out.kept kz (fun e => by have e : g = w.heap.size + 1 + 1 := Option.some.inj e; omega)
    · exact (((hHS.1).setNew (p := ⟨w.heap.size + 1 + 1, 0, none⟩) (by show w.heap.size ≤ w.heap.size + 1 + 1; omega) _).setNew (p := ⟨w.heap.size + 1 + 1, 1, none⟩) (by show w.heap.size ≤ w.heap.size + 1 + 1; omega) _).setNew (p := ⟨w.heap.size + 1 + 1, 2, none⟩) (by show w.heap.size ≤ w.heap.size + 1 + 1; omega) _

/-- Clamp of a site that may be. -/
theorem pclamp_yes {X : Sa} {S : St} {w : World} (h : Sat w X S) (hT : Tabb w) {P : Pl} {a : Option Addr} {c : Nat} (hI : Ints w a P.splits.length c P.splits) (hO : i64B P.offset) (hs : siteB S = true) : Calls Tryd.prog 8 #[siteV X S, planV P a c] w fun e w' => ∃ g cp, e = .returned (.tuple #[.agg #[.int .i64 (cycC S P), .int .i64 (offC S P), .slice (some ⟨g, 0, none⟩) S.phases.length cp], .int .i64 0]) ∧ w.heap.size ≤ g ∧ RowI w' g S.phases.length cp (splC S P) ∧ Kept w w' none := by
  by_cases hl : P.cycle < S.low
  · rw [show cycC S P = S.low by unfold cycC; rw [if_pos hl]]
    exact pclamp_lo h hT hI hO hs hl
  · by_cases hh : S.high < P.cycle
    · rw [show cycC S P = S.high by unfold cycC; rw [if_neg hl, if_pos hh]]
      exact pclamp_hi h hT hI hO hs hl hh
    · rw [show cycC S P = P.cycle by unfold cycC; rw [if_neg hl, if_neg hh]]
      exact pclamp_in h hT hI hO hs hl hh

end Go.Proofs.YtfhmfanmnhclfaaDoor
