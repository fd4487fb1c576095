import Derived.Deep.QuietTactic
import Derived.BigQuiet
import Derived.Deep.RegionHeld
import Derived.Test.YtfhmfanmnhclfaaDoorP26
namespace Go.Proofs.YtfhmfanmnhclfaaDoor
set_option linter.unusedVariables false
set_option linter.unusedSimpArgs false
open Go.RowKit Go.Lib Go.Deep

set_option maxRecDepth 100000 in
set_option maxHeartbeats 4000000 in
theorem rnear_hi_n {X : Sa} {S : St} {w : World} (h : Sat w X S) {P : Pl} {a : Option Addr} {c : Nat} (hI : Ints w a P.splits.length c P.splits) (hO : i64B P.offset) (hs : siteB S = true) (hl : ¬ P.cycle < S.low) (hh : S.high < P.cycle) (hneg : P.offset.tmod S.high < 0) : Calls Tryd.prog 36 #[siteV X S, planV P a c] w fun e w' => ∃ g cp, e = .returned (.agg #[.int .i64 (cycC S P), .int .i64 (offC S P), .slice (some ⟨g, 0, none⟩) S.phases.length cp]) ∧ w.heap.size ≤ g ∧ RowI w' g S.phases.length cp (splC S P) ∧ Kept w w' none := by
  have hnp := (span_may hs).base.sh.ok.np
  have hcf := cyc_facts hs
  have hcr := cycC_rng hs P
  have hpl0 := part_low hs (i := 0) (by omega)
  have hpg0 := (partM_ge hs (i := 0) (by omega)).1
  have HC : Hid (cycC S P = S.high) := by show cycC S P = S.high; unfold cycC; rw [if_neg hl, if_pos hh]
  rw [HC.out] at hcr
  have hof := off_tm (n := P.offset) (b := S.high) (by omega)
  have hot := hof.1
  rw [if_pos hneg] at hot
  have HOF : Hid (offC S P = P.offset.tmod S.high + S.high) := by show P.offset % cycC S P = _; rw [HC.out]; exact hot.symm
  have ho1 := hof.2
  clear hot hof
  have HPS : Hid (∀ k, k ≤ S.phases.length → 0 ≤ sumF (partM S) k ∧ sumF (partM S) k ≤ 1048576) := fun k hk => by
    have h2 := sumF_part (f := partM S) (n := S.phases.length) (fun i hi => by have := partM_ge hs hi; omega) hk
    omega
  have HPG : Hid (∀ k, k < S.phases.length → 1 ≤ partM S k ∧ partM S k ≤ S.low ∧ gapM S k + (S.ph k).min = partM S k ∧ 0 ≤ gapM S k ∧ gapM S k ≤ 1048576) := fun k hk => ⟨(partM_ge hs hk).1, part_low hs hk, (partM_ge hs hk).2, ((span_may hs).base.lies _ _).1, ((span_may hs).base.lies _ _).2⟩
  have HPR := Hid.mk' (fun k (hk : k < S.phases.length) => (span_may hs).base.mn k hk)
  have HWR : Hid (∀ k, k < S.phases.length → 0 ≤ wshC S P k ∧ wshC S P k ≤ 1048576) := fun k hk => wsh_rng hs P hk
  have HWS : Hid (∀ k, k ≤ S.phases.length → 0 ≤ sumF (wshC S P) k ∧ sumF (wshC S P) k ≤ 8388608) := fun k hk => by
    have := sumF_bd (f := wshC S P) (M := 1048576) (by omega) (k := k) (fun i hi => wsh_rng hs P (by omega))
    have : (k : Int) ≤ 8 := by omega
    omega
  have HSI := Hid.mk' hs
  obtain ⟨pb, po, ep, _⟩ := h.phAt (i := 0) (by omega)
  have HPH : Hid (∀ k, k < S.phases.length → w.cell? ⟨pb, po + k * 5 + 1, none⟩ = some (.int .i64 (S.ph k).min)) := fun k hk => by
    obtain ⟨pb2, po2, ep2, _, q1, _⟩ := h.phAt (i := k) (by omega)
    rw [ep] at ep2
    injection ep2 with ep2
    injection ep2 with e1 e2
    subst e1; subst e2
    exact q1
  have hIw := Hid.mk' hI
  have hgl : P.splits.length ≤ 9223372036854775807 := by have := hI.cap.room; have := hI.cap.max; omega
  have hz : (S.high == 0) = false := by simp; omega
  have hz1 : ¬ S.high = 0 := by omega
  obtain ⟨WA, hWA⟩ : ∃ WA, (((w.alloc (.cells #[.int .i64 S.id, .slice X.g S.groups.length X.gc, .slice X.a S.apart.length X.ac, .slice X.b S.between.length X.bc, .slice X.p S.phases.length X.pc, .slice X.e S.eyes.length X.ec, .int .i64 S.watch, .int .i64 S.feed, .int .i64 S.heal, .int .i64 S.low, .int .i64 S.high, .slice X.l S.plans.length X.lc] 35)).alloc (.cells #[.int .i64 P.cycle, .int .i64 P.offset, .slice a P.splits.length c] 24)).alloc (.cells #[.int .i64 0, .int .i64 0, .slice none 0 0] 24)) = WA := ⟨_, rfl⟩
  obtain ⟨HSB, HBP, HSZ, HK, HS, HI, p0_, p1_, p2_, s0_, s1_, s2_, s3_, s4_, s5_, s6_, s7_, s8_, s9_, s10_, s11_, HBZ⟩ := hdpz h hI hWA
  have hK0 := Kept.refl WA none
  clear h hI
  have HGP : Hid (∀ (k : Nat), k < S.phases.length → ∀ w', Kept WA w' none → Calls Tryd.prog 39 #[.agg #[.int .i64 S.id, .slice X.g S.groups.length X.gc, .slice X.a S.apart.length X.ac, .slice X.b S.between.length X.bc, .slice (some ⟨pb, po, none⟩) S.phases.length X.pc, .slice X.e S.eyes.length X.ec, .int .i64 S.watch, .int .i64 S.feed, .int .i64 S.heal, .int .i64 S.low, .int .i64 S.high, .slice X.l S.plans.length X.lc], .int .i64 (k : Int)] w' fun e w2 => e = .returned (.int .i64 (gapM S k)) ∧ Kept w' w2 none) := fun k hk w' q => by
    have hx := rgap_any (HS.out.kept q) hs (p := k) hk
    unfold siteV at hx
    rw [ep] at hx
    exact hx
  rw [ep] at s4_
  clear hs ep
  have hB1 := box_alloc WA (.int .i64 0) (.int .i64 0) (.slice none 0 0) 24
  have hK1 : Kept WA (WA.alloc (.cells #[.int .i64 0, .int .i64 0, .slice none 0 0] 24)) none := Kept.alloc _ _ _ _ _
  obtain ⟨W1, hW1⟩ : ∃ W1, (WA.alloc (.cells #[.int .i64 0, .int .i64 0, .slice none 0 0] 24)) = W1 := ⟨_, rfl⟩
  rw [hW1] at hB1 hK1
  have hB2 : Box (((W1.setCell ⟨WA.heap.size, 0, none⟩ (.int .i64 P.cycle)).setCell ⟨WA.heap.size, 1, none⟩ (.int .i64 0)).setCell ⟨WA.heap.size, 2, none⟩ (.slice none 0 0)) WA.heap.size (.int .i64 P.cycle) (.int .i64 0) (.slice none 0 0) := (((hB1.setZ _).set1 _).set2 _)
  have hK2 : Kept WA (((W1.setCell ⟨WA.heap.size, 0, none⟩ (.int .i64 P.cycle)).setCell ⟨WA.heap.size, 1, none⟩ (.int .i64 0)).setCell ⟨WA.heap.size, 2, none⟩ (.slice none 0 0)) none := ((((((hK1).setNew (p := ⟨WA.heap.size, _, none⟩) (Nat.le_refl _) _)).setNew (p := ⟨WA.heap.size, _, none⟩) (Nat.le_refl _) _)).setNew (p := ⟨WA.heap.size, _, none⟩) (Nat.le_refl _) _)
  obtain ⟨W2, hW2⟩ : ∃ W2, (((W1.setCell ⟨WA.heap.size, 0, none⟩ (.int .i64 P.cycle)).setCell ⟨WA.heap.size, 1, none⟩ (.int .i64 0)).setCell ⟨WA.heap.size, 2, none⟩ (.slice none 0 0)) = W2 := ⟨_, rfl⟩
  rw [hW2] at hB2 hK2
  have hB3 : Box (W2.setCell ⟨WA.heap.size, 0, none⟩ (.int .i64 S.high)) WA.heap.size (.int .i64 S.high) (.int .i64 0) (.slice none 0 0) := hB2.setZ _
  have hK3 : Kept WA (W2.setCell ⟨WA.heap.size, 0, none⟩ (.int .i64 S.high)) none := ((hK2).setNew (p := ⟨WA.heap.size, _, none⟩) (Nat.le_refl _) _)
  obtain ⟨W3, hW3⟩ : ∃ W3, (W2.setCell ⟨WA.heap.size, 0, none⟩ (.int .i64 S.high)) = W3 := ⟨_, rfl⟩
  rw [hW3] at hB3 hK3
  have hB4 : Box (W3.setCell ⟨WA.heap.size, 1, none⟩ (.int .i64 (P.offset.tmod S.high))) WA.heap.size (.int .i64 S.high) (.int .i64 (P.offset.tmod S.high)) (.slice none 0 0) := hB3.set1 _
  have hK4 : Kept WA (W3.setCell ⟨WA.heap.size, 1, none⟩ (.int .i64 (P.offset.tmod S.high))) none := ((hK3).setNew (p := ⟨WA.heap.size, _, none⟩) (Nat.le_refl _) _)
  obtain ⟨W4, hW4⟩ : ∃ W4, (W3.setCell ⟨WA.heap.size, 1, none⟩ (.int .i64 (P.offset.tmod S.high))) = W4 := ⟨_, rfl⟩
  rw [hW4] at hB4 hK4
  have hB5 : Box (W4.setCell ⟨WA.heap.size, 1, none⟩ (.int .i64 (P.offset.tmod S.high + S.high))) WA.heap.size (.int .i64 S.high) (.int .i64 (P.offset.tmod S.high + S.high)) (.slice none 0 0) := hB4.set1 _
  have hK5 : Kept WA (W4.setCell ⟨WA.heap.size, 1, none⟩ (.int .i64 (P.offset.tmod S.high + S.high))) none := ((hK4).setNew (p := ⟨WA.heap.size, _, none⟩) (Nat.le_refl _) _)
  obtain ⟨W5, hW5⟩ : ∃ W5, (W4.setCell ⟨WA.heap.size, 1, none⟩ (.int .i64 (P.offset.tmod S.high + S.high))) = W5 := ⟨_, rfl⟩
  rw [hW5] at hB5 hK5
  have x10 := hB1.c0
  have y10 := hB1.f0
  have x11 := hB1.c1
  have y11 := hB1.f1
  have x12 := hB1.c2
  have y12 := hB1.f2
  have t14 := s4_ W1 hK1
  have t19 := s9_ W1 hK1
  have t110 := s10_ W1 hK1
  have u10 := p0_ W1 hK1
  have u11 := p1_ W1 hK1
  have u12 := p2_ W1 hK1
  have x20 := hB2.c0
  have y20 := hB2.f0
  have x21 := hB2.c1
  have y21 := hB2.f1
  have x22 := hB2.c2
  have y22 := hB2.f2
  have t24 := s4_ W2 hK2
  have t29 := s9_ W2 hK2
  have t210 := s10_ W2 hK2
  have u20 := p0_ W2 hK2
  have u21 := p1_ W2 hK2
  have u22 := p2_ W2 hK2
  have x30 := hB3.c0
  have y30 := hB3.f0
  have x31 := hB3.c1
  have y31 := hB3.f1
  have x32 := hB3.c2
  have y32 := hB3.f2
  have t34 := s4_ W3 hK3
  have t39 := s9_ W3 hK3
  have t310 := s10_ W3 hK3
  have u30 := p0_ W3 hK3
  have u31 := p1_ W3 hK3
  have u32 := p2_ W3 hK3
  have x40 := hB4.c0
  have y40 := hB4.f0
  have x41 := hB4.c1
  have y41 := hB4.f1
  have x42 := hB4.c2
  have y42 := hB4.f2
  have t44 := s4_ W4 hK4
  have t49 := s9_ W4 hK4
  have t410 := s10_ W4 hK4
  have u40 := p0_ W4 hK4
  have u41 := p1_ W4 hK4
  have u42 := p2_ W4 hK4
  have x50 := hB5.c0
  have y50 := hB5.f0
  have x51 := hB5.c1
  have y51 := hB5.f1
  have x52 := hB5.c2
  have y52 := hB5.f2
  have t54 := s4_ W5 hK5
  have t59 := s9_ W5 hK5
  have t510 := s10_ W5 hK5
  have u50 := p0_ W5 hK5
  have u51 := p1_ W5 hK5
  have u52 := p2_ W5 hK5
  have HBL := Hid.mk' hB5
  have HKL := Hid.mk' hK5
  clear hB1 hK1 hB2 hK2 hB3 hK3 hB4 hK4 hB5 hK5
  have hov : IntKind.i64.wrap (P.offset.tmod S.high + S.high) = P.offset.tmod S.high + S.high := wrap_in (by omega) (by omega)
  go_enter Tryd.func36, Tryd.ntmps36
  go_wp2_with (first | rw [hW5] | rw [hW4] | rw [hW3] | rw [hW2] | rw [hW1] | rw [hWA])
  clear x10 y10 u10 x11 y11 u11 x12 y12 u12 x20 y20 u20 x21 y21 u21 x22 y22 u22 x30 y30 u30 x31 y31 u31 x32 y32 u32 x40 y40 u40 x41 y41 u41 x42 y42 u42 x50 y50 u50 x51 y51 u51 x52 y52 u52 t14 t19 t110 t24 t29 t210 t34 t39 t310 t44 t49 t410 t54 t59 t510
  have HST : Hid (Nr WA W5 S.high (P.offset.tmod S.high + S.high) (.slice none 0 0) (.slice none 0 0) (lstF (wshC S P) 0) (lstF (partM S) 0)) := ⟨HKL.out, HBL.out, OwI.nil _ _, OwI.nil _ _, fun g e => by cases e⟩
  go_loopw [6, 7, 8, 9, 10, 11] (fun rs al v8 i _ _ wr => ∃ k : Nat, k ≤ S.phases.length ∧ i = .int .i64 k ∧ rs = .int .i64 (S.high - sumF (partM S) k) ∧ al = .int .i64 (sumF (wshC S P) k) ∧ ∃ v2, Nr WA wr S.high (P.offset.tmod S.high + S.high) v8 v2 (lstF (wshC S P) k) (lstF (partM S) k)) (fun _ _ _ i _ _ _ => S.phases.length - (intOf i).toNat)
  case atStart => exact ⟨0, by omega, rfl, by rw [show sumF (partM S) 0 = 0 from rfl, Int.sub_zero], rfl, _, HST.out⟩
  case round =>
    obtain ⟨k, hk, rfl, rfl, rfl, v2, hnr⟩ := hrel
    have HNR := Hid.mk' hnr
    have HKR := Hid.mk' hnr.k
    have hH := Kept.refl wr none
    have g1 := HPS.out k hk
    have g4 := HWS.out k hk
    by_cases hlt : k < S.phases.length
    · have hpg := HPG.out k hlt
      have hmr := HPR.out k hlt
      have g3 := HWR.out k hlt
      have f1_ : ∀ w', Kept wr w' none → w'.cell? ⟨pb, po + k * 5 + 1, none⟩ = some (.int .i64 (S.ph k).min) := fun w' q => cell_kept0 (HPH.out k hlt) (HK.out.tr (HKR.out.tr q))
      have HGP := Hid.mk' (HGP.out k hlt)
      have hpm : partM S k = (S.ph k).min + gapM S k := by omega
      have H1 : Hid (sumF (partM S) (k + 1) = sumF (partM S) k + ((S.ph k).min + gapM S k)) := by show _ = _; rw [← hpm]; exact sumF_succ _ _
      have H2 : Hid (sumF (wshC S P) (k + 1) = sumF (wshC S P) k + wshC S P k) := sumF_succ _ _
      have HLW : Hid (lstF (wshC S P) k ++ [wshC S P k] = lstF (wshC S P) (k + 1)) := lstF_succ _ _
      have HLS : Hid (lstF (partM S) k ++ [(S.ph k).min + gapM S k] = lstF (partM S) (k + 1)) := by show _ = _; rw [← hpm]; exact lstF_succ _ _
      have HLWL : Hid ((lstF (wshC S P) k).length ≤ 1000) := by show _ ≤ _; rw [lstF_len]; omega
      have HLSL : Hid ((lstF (partM S) k).length ≤ 1000) := by show _ ≤ _; rw [lstF_len]; omega
      have HWD : Hid (wshC S P k = if k < P.splits.length ∧ (S.ph k).min + gapM S k < P.splits.getD k 0 then (if S.high < P.splits.getD k 0 then S.high else P.splits.getD k 0) - ((S.ph k).min + gapM S k) else 0) := by show _ = _; unfold wshC; rw [hpm]
      have r0_ := fun w' (q : Kept wr w' none) => s0_ w' (HKR.out.tr q)
      have r1_ := fun w' (q : Kept wr w' none) => s1_ w' (HKR.out.tr q)
      have r2_ := fun w' (q : Kept wr w' none) => s2_ w' (HKR.out.tr q)
      have r3_ := fun w' (q : Kept wr w' none) => s3_ w' (HKR.out.tr q)
      have r4_ := fun w' (q : Kept wr w' none) => s4_ w' (HKR.out.tr q)
      have r5_ := fun w' (q : Kept wr w' none) => s5_ w' (HKR.out.tr q)
      have r6_ := fun w' (q : Kept wr w' none) => s6_ w' (HKR.out.tr q)
      have r7_ := fun w' (q : Kept wr w' none) => s7_ w' (HKR.out.tr q)
      have r8_ := fun w' (q : Kept wr w' none) => s8_ w' (HKR.out.tr q)
      have r9_ := fun w' (q : Kept wr w' none) => s9_ w' (HKR.out.tr q)
      have r10_ := fun w' (q : Kept wr w' none) => s10_ w' (HKR.out.tr q)
      have r11_ := fun w' (q : Kept wr w' none) => s11_ w' (HKR.out.tr q)
      have q0_ := fun w' (q : Kept wr w' none) => p0_ w' (HKR.out.tr q)
      have q1_ := fun w' (q : Kept wr w' none) => p1_ w' (HKR.out.tr q)
      have q2_ := fun w' (q : Kept wr w' none) => p2_ w' (HKR.out.tr q)
      clear hnr s0_ s1_ s2_ s3_ s4_ s5_ s6_ s7_ s8_ s9_ s10_ s11_ p0_ p1_ p2_
      rw [hpm] at hpg
      clear hpm
      generalize sumF (partM S) k = A at *
      generalize sumF (wshC S P) k = B at *
      generalize gapM S k = gm at *
      generalize (S.ph k).min = mn at *
      generalize hwv : wshC S P k = wv at *
      clear hwv
      by_cases hgv : k < P.splits.length
      · obtain ⟨gb, go_, ea, hgb, hgc⟩ := hIw.out.at_ (by omega)
        have g1_ : ∀ w', Kept wr w' none → w'.cell? ⟨gb, go_ + k, none⟩ = some (.int .i64 (P.splits.getD k 0)) := fun w' q => cell_kept0 (hgc k hgv) (HK.out.tr (HKR.out.tr q))
        subst ea
        clear hgc
        generalize P.splits.getD k 0 = y at *
        by_cases c1 : mn + gm < y
        · by_cases c2 : S.high < y
          · have HWV : Hid (wv = S.high - (mn + gm)) := by
              show wv = _
              rw [HWD.out]
              rw [if_pos ⟨hgv, c1⟩, if_pos c2]
            clear HWD
            go_wp2
            go_region_held (fun w' => Kept wr w' none)
              ((first | exact hH | exact Kept.tr hH (Kept.drew _ _) | assumption | exact Kept.tr (by assumption) (Kept.drew _ _)))
              ((go_at_call 39; refine (HGP.out _ (HKR.out.tr (by assumption))).mono ?_; rintro e wG ⟨rfl, hkG⟩; have hKG : Kept wr wG none := Kept.tr (by assumption) hkG))
            all_goals
              have hH2 := hKG
              go_wp2
              go_region_held (fun w' => Kept wr w' none)
                ((first | exact hH2.tr (Kept.drew _ _) | assumption | exact Kept.tr (by assumption) (Kept.drew _ _)))
                (fail)
            all_goals
              go_wp2_with (first
                | (have hgo := HN9; clear hgo; at_builtin; obtain ⟨v10, w10, ⟨a10, n10, c10_, rfl⟩, hr10, hB10, hN10⟩ := HN9.out.least (mn + gm) HLSL.out; refine wpList_app (by rfl) _ _ _ (by rfl) (by rfl) (by rfl) hr10 ?_; have c10 := hB10.c2; have d10 := hB10.f2; clear hr10)
                | (at_builtin; obtain ⟨v9, w9, hr9, hN9⟩ := (HNR.out.kept (hKG.tr (Kept.drew _ _))).wish (S.high - (mn + gm)) HLWL.out; refine wpList_app (by rfl) _ _ _ (by rfl) (by rfl) (by rfl) hr9 ?_; have HN9 := Hid.mk' hN9; have z9 := hN9.b.c2; have f9 := hN9.b.f2; clear hr9))
            all_goals
              go_roundw
              case rel => exact ⟨k + 1, by omega, by go_num, by (rw [H1.out]; try go_num), by (rw [H2.out, HWV.out]; try go_num), _, by rw [← HLW.out, ← HLS.out, HWV.out]; exact hN10⟩
              case measure => simp [intOf]; omega
          · have HWV : Hid (wv = y - (mn + gm)) := by
              show wv = _
              rw [HWD.out]
              rw [if_pos ⟨hgv, c1⟩, if_neg c2]
            clear HWD
            go_wp2
            go_region_held (fun w' => Kept wr w' none)
              ((first | exact hH | exact Kept.tr hH (Kept.drew _ _) | assumption | exact Kept.tr (by assumption) (Kept.drew _ _)))
              ((go_at_call 39; refine (HGP.out _ (HKR.out.tr (by assumption))).mono ?_; rintro e wG ⟨rfl, hkG⟩; have hKG : Kept wr wG none := Kept.tr (by assumption) hkG))
            all_goals
              have hH2 := hKG
              go_wp2
              go_region_held (fun w' => Kept wr w' none)
                ((first | exact hH2.tr (Kept.drew _ _) | assumption | exact Kept.tr (by assumption) (Kept.drew _ _)))
                (fail)
            all_goals
              go_wp2_with (first
                | (have hgo := HN9; clear hgo; at_builtin; obtain ⟨v10, w10, ⟨a10, n10, c10_, rfl⟩, hr10, hB10, hN10⟩ := HN9.out.least (mn + gm) HLSL.out; refine wpList_app (by rfl) _ _ _ (by rfl) (by rfl) (by rfl) hr10 ?_; have c10 := hB10.c2; have d10 := hB10.f2; clear hr10)
                | (at_builtin; obtain ⟨v9, w9, hr9, hN9⟩ := (HNR.out.kept (hKG.tr (Kept.drew _ _))).wish (y - (mn + gm)) HLWL.out; refine wpList_app (by rfl) _ _ _ (by rfl) (by rfl) (by rfl) hr9 ?_; have HN9 := Hid.mk' hN9; have z9 := hN9.b.c2; have f9 := hN9.b.f2; clear hr9))
            all_goals
              go_roundw
              case rel => exact ⟨k + 1, by omega, by go_num, by (rw [H1.out]; try go_num), by (rw [H2.out, HWV.out]; try go_num), _, by rw [← HLW.out, ← HLS.out, HWV.out]; exact hN10⟩
              case measure => simp [intOf]; omega
        · have HWV : Hid (wv = 0) := by
            show wv = _
            rw [HWD.out]
            rw [if_neg (fun e => c1 e.2)]
          clear HWD
          go_wp2
          go_region_held (fun w' => Kept wr w' none)
            ((first | exact hH | exact Kept.tr hH (Kept.drew _ _) | assumption | exact Kept.tr (by assumption) (Kept.drew _ _)))
            ((go_at_call 39; refine (HGP.out _ (HKR.out.tr (by assumption))).mono ?_; rintro e wG ⟨rfl, hkG⟩; have hKG : Kept wr wG none := Kept.tr (by assumption) hkG))
          all_goals
            go_wp2_with (first
              | (have hgo := HN9; clear hgo; at_builtin; obtain ⟨v10, w10, ⟨a10, n10, c10_, rfl⟩, hr10, hB10, hN10⟩ := HN9.out.least (mn + gm) HLSL.out; refine wpList_app (by rfl) _ _ _ (by rfl) (by rfl) (by rfl) hr10 ?_; have c10 := hB10.c2; have d10 := hB10.f2; clear hr10)
              | (at_builtin; obtain ⟨v9, w9, hr9, hN9⟩ := (HNR.out.kept (hKG)).wish (0) HLWL.out; refine wpList_app (by rfl) _ _ _ (by rfl) (by rfl) (by rfl) hr9 ?_; have HN9 := Hid.mk' hN9; have z9 := hN9.b.c2; have f9 := hN9.b.f2; clear hr9))
          all_goals
            go_roundw
            case rel => exact ⟨k + 1, by omega, by go_num, by (rw [H1.out]; try go_num), by (rw [H2.out, HWV.out]; try go_num), _, by rw [← HLW.out, ← HLS.out, HWV.out]; exact hN10⟩
            case measure => simp [intOf]; omega
      · have HWV : Hid (wv = 0) := by
          show wv = _
          rw [HWD.out]
          rw [if_neg (fun e => hgv e.1)]
        clear HWD
        go_wp2
        go_region_held (fun w' => Kept wr w' none)
          ((first | exact hH | exact Kept.tr hH (Kept.drew _ _) | assumption | exact Kept.tr (by assumption) (Kept.drew _ _)))
          ((go_at_call 39; refine (HGP.out _ (HKR.out.tr (by assumption))).mono ?_; rintro e wG ⟨rfl, hkG⟩; have hKG : Kept wr wG none := Kept.tr (by assumption) hkG))
        all_goals
          go_wp2_with (first
            | (have hgo := HN9; clear hgo; at_builtin; obtain ⟨v10, w10, ⟨a10, n10, c10_, rfl⟩, hr10, hB10, hN10⟩ := HN9.out.least (mn + gm) HLSL.out; refine wpList_app (by rfl) _ _ _ (by rfl) (by rfl) (by rfl) hr10 ?_; have c10 := hB10.c2; have d10 := hB10.f2; clear hr10)
            | (at_builtin; obtain ⟨v9, w9, hr9, hN9⟩ := (HNR.out.kept (hKG)).wish (0) HLWL.out; refine wpList_app (by rfl) _ _ _ (by rfl) (by rfl) (by rfl) hr9 ?_; have HN9 := Hid.mk' hN9; have z9 := hN9.b.c2; have f9 := hN9.b.f2; clear hr9))
        all_goals
          go_roundw
          case rel => exact ⟨k + 1, by omega, by go_num, by (rw [H1.out]; try go_num), by (rw [H2.out, HWV.out]; try go_num), _, by rw [← HLW.out, ← HLS.out, HWV.out]; exact hN10⟩
          case measure => simp [intOf]; omega
    · obtain rfl : k = S.phases.length := by omega
      obtain ⟨gw, cw, gs, cs, rfl, rfl, hns⟩ := hnr.done (by omega)
      have HNS := Hid.mk' hns
      have hn0 : 0 < S.phases.length := by omega
      have HR : Hid (S.high - sumF (partM S) S.phases.length = rstC S P) := by show _ = _; unfold rstC; rw [HC.out]
      have HA : Hid (sumF (wshC S P) S.phases.length = allC S P) := rfl
      have hrr := rst_ge HSI.out P
      rw [HR.out, HA.out]
      rw [HA.out] at g4
      have ob2 := hns.b.c2
      have hgl2 := hns.s.lt
      have hcx := hns.s.mx
      have hcw := hns.w.mx
      have hs4 := s4_ wr hnr.k
      clear g1 hnr HNR hlt hk s0_ s1_ s2_ s3_ s4_ s5_ s6_ s7_ s8_ s9_ s10_ s11_ p0_ p1_ p2_ hneg ho1 hz hz1 hov
      by_cases e0 : allC S P = 0
      · have y0 := hns.s.cell hn0
        have yf := hns.s.fz 0
        have hpg0' := HPG.out 0 hn0
        have HSP : Hid (∀ i, i < S.phases.length → (if i = 0 then partM S 0 + rstC S P else partM S i) = splC S P i) := fun i hi => by
          unfold splC extC
          rw [if_pos e0]
          by_cases e : i = 0
          · subst e; rw [if_pos rfl, if_pos rfl]
          · rw [if_neg e, if_neg e]; omega
        have HFS := Hid.mk' ((hns.set hn0 (partM S 0 + rstC S P)).congr HSP.out)
        obtain ⟨WZ, hWZ⟩ : ∃ WZ, (wr.setCell ⟨gs, 0, none⟩ (.int .i64 (partM S 0 + rstC S P))) = WZ := ⟨_, rfl⟩
        rw [hWZ] at HFS
        have bz := HBZ.out.kept HFS.out.k
        have z0 := bz.c0
        have z1 := bz.c1
        have z2 := bz.c2
        have zf0 := bz.f0
        have zf1 := bz.f1
        have zf2 := bz.f2
        have o0 := HFS.out.b.c0
        have o1 := HFS.out.b.c1
        have o2 := HFS.out.b.c2
        clear bz
        clear hns
        generalize rstC S P = rs at *
        generalize partM S 0 = m0 at *
        rw [e0]
        go_wp2_with (rw [hWZ])
        refine bodyPost_ret (v := .agg #[.int .i64 S.high, .int .i64 (P.offset.tmod S.high + S.high), .slice (some ⟨gs, 0, none⟩) S.phases.length cs]) (by simp [results, Tryd.results36, go_sem, z0, z1, z2]) rfl ⟨gs, cs, by rw [HC.out, HOF.out], ?_, ?_, ?_⟩
        · have h1 := HK.out.size
          have h2 := HFS.out.g
          omega
        · have hlz := HBZ.out.lt
          have h2 := HFS.out.g
          have kz : Kept WZ (((WZ.setCell ⟨w.heap.size + 1 + 1, 0, none⟩ (.int .i64 S.high)).setCell ⟨w.heap.size + 1 + 1, 1, none⟩ (.int .i64 (P.offset.tmod S.high + S.high))).setCell ⟨w.heap.size + 1 + 1, 2, none⟩ (.slice (some ⟨gs, 0, none⟩) S.phases.length cs)) (some (w.heap.size + 1 + 1)) := (((Kept.refl WZ (some (w.heap.size + 1 + 1))).setRow _ _).setRow _ _).setRow _ _
          exact HFS.out.s.kept kz (fun e => by have e : gs = w.heap.size + 1 + 1 := Option.some.inj e; omega)
        · exact (((HK.out.tr HFS.out.k).setNew (p := ⟨w.heap.size + 1 + 1, 0, none⟩) (by show w.heap.size ≤ w.heap.size + 1 + 1; omega) _).setNew (p := ⟨w.heap.size + 1 + 1, 1, none⟩) (by show w.heap.size ≤ w.heap.size + 1 + 1; omega) _).setNew (p := ⟨w.heap.size + 1 + 1, 2, none⟩) (by show w.heap.size ≤ w.heap.size + 1 + 1; omega) _
      · have hal : 0 < allC S P := by omega
        have hab : (allC S P == 0) = false := by simp; omega
        have HNS0 : Hid (Ns WA wr S.high (P.offset.tmod S.high + S.high) gw S.phases.length cw gs cs (wshC S P) (spQ S P 0)) := hns.congr (fun i hi => by unfold spQ; rw [if_neg (by omega)])
        have HQR := Hid.mk' (shrQ_rng HSI.out P)
        have HE0 := Hid.mk' e0
        clear hns HNS ob2 hgl2
        go_wp2
        go_loopw [12, 13, 14, 15] (fun lf fi i _ wq => ∃ k : Nat, ∃ z : Int, k ≤ S.phases.length ∧ i = .int .i64 k ∧ lf = .int .i64 (rstC S P - sumF (shrQ S P) k) ∧ fi = .int .i64 z ∧ ((z = -1 ∧ ∀ j, j < k → ¬ 0 < wshC S P j) ∨ ∃ q : Nat, z = q ∧ q < k ∧ 0 < wshC S P q ∧ ∀ j, j < q → ¬ 0 < wshC S P j) ∧ Ns WA wq S.high (P.offset.tmod S.high + S.high) gw S.phases.length cw gs cs (wshC S P) (spQ S P k)) (fun _ _ i _ _ => S.phases.length - (intOf i).toNat)
        case atStart => exact ⟨0, -1, by omega, rfl, by rw [show sumF (shrQ S P) 0 = 0 from rfl, Int.sub_zero], rfl, .inl ⟨rfl, fun j hj => by omega⟩, HNS0.out⟩
        case round =>
          obtain ⟨k, z, hk, rfl, rfl, rfl, hzz, hns⟩ := hrel
          have HNS := Hid.mk' hns
          have HZZ := Hid.mk' hzz
          have g5 := HQR.out k hk
          by_cases hlt : k < S.phases.length
          · have y0 := hns.s.cell hlt
            have yf := hns.s.fz k
            have wc := hns.w.cell hlt
            have ob2 := hns.b.c2
            have hgl2 := hns.s.lt
            rw [show spQ S P k k = partM S k by unfold spQ; rw [if_neg (by omega)]] at y0
            have g2 := HPG.out k hlt
            have g3 := HWR.out k hlt
            have g6 := shrQ_one HSI.out P hlt
            have hm0 : 0 ≤ rstC S P * wshC S P k := Int.mul_nonneg hrr.1 g3.1
            have hm1 : rstC S P * wshC S P k ≤ 1048576 * 1048576 := Int.mul_le_mul hrr.2 g3.2 g3.1 (by omega)
            have H1 : Hid (sumF (shrQ S P) (k + 1) = sumF (shrQ S P) k + shrQ S P k) := sumF_succ _ _
            have hq : shrP (rstC S P) (allC S P) (wshC S P k) = shrQ S P k := shrP_is HSI.out P hlt
            unfold shrP at hq
            rw [show max (allC S P) 1 = allC S P by omega] at hq
            have HSET : Hid (Ns WA (wr.setCell ⟨gs, k, none⟩ (.int .i64 (partM S k + shrQ S P k))) S.high (P.offset.tmod S.high + S.high) gw S.phases.length cw gs cs (wshC S P) (spQ S P (k + 1))) := by
              show Ns _ _ _ _ _ _ _ _ _ _ _
              rw [← spQ_set]
              exact hns.set hlt _
            obtain ⟨W9, hW9⟩ : ∃ W9, (wr.setCell ⟨gs, k, none⟩ (.int .i64 (partM S k + shrQ S P k))) = W9 := ⟨_, rfl⟩
            rw [hW9] at HSET
            have wc9 := HSET.out.w.cell hlt
            have HZN : Hid (z = -1 → 0 < wshC S P k → ((k : Int) = -1 ∧ ∀ j, j < k + 1 → ¬ 0 < wshC S P j) ∨ ∃ q : Nat, (k : Int) = q ∧ q < k + 1 ∧ 0 < wshC S P q ∧ ∀ j, j < q → ¬ 0 < wshC S P j) := fun e1 e2 => by
              rcases HZZ.out with ⟨_, h2⟩ | ⟨q, h1, _⟩
              · exact .inr ⟨k, rfl, by omega, e2, h2⟩
              · omega
            have HZO : Hid (z = -1 → ¬ 0 < wshC S P k → (z = -1 ∧ ∀ j, j < k + 1 → ¬ 0 < wshC S P j) ∨ ∃ q : Nat, z = q ∧ q < k + 1 ∧ 0 < wshC S P q ∧ ∀ j, j < q → ¬ 0 < wshC S P j) := fun e1 e2 => by
              rcases HZZ.out with ⟨h1, h2⟩ | ⟨q, h1, _⟩
              · exact .inl ⟨h1, fun j hj => by
                  by_cases e : j = k
                  · subst e; exact e2
                  · exact h2 j (by omega)⟩
              · omega
            have HZP : Hid (¬ z = -1 → (z = -1 ∧ ∀ j, j < k + 1 → ¬ 0 < wshC S P j) ∨ ∃ q : Nat, z = q ∧ q < k + 1 ∧ 0 < wshC S P q ∧ ∀ j, j < q → ¬ 0 < wshC S P j) := fun e1 => by
              rcases HZZ.out with ⟨h1, _⟩ | ⟨q, h1, h2, h3, h4⟩
              · exact absurd h1 e1
              · exact .inr ⟨q, h1, by omega, h3, h4⟩
            have hzr : z = -1 ∨ 0 ≤ z := by
              rcases hzz with ⟨h1, _⟩ | ⟨q, h1, _⟩ <;> omega
            clear hns hzz
            generalize sumF (shrQ S P) k = B2 at *
            generalize shrQ S P k = q at *
            generalize partM S k = x at *
            generalize hMM : rstC S P * wshC S P k = M at *
            generalize wshC S P k = y at *
            generalize rstC S P = rs at *
            generalize allC S P = al at *
            by_cases hz0 : z = -1
            · by_cases hy : 0 < y
              · have hzn : z < 0 := by omega
                go_wp2_with (rw [hW9])
                go_roundw
                case rel => exact ⟨k + 1, k, by omega, by go_num, by (rw [H1.out]; try go_num), by first | rfl | go_num, HZN.out hz0 hy, HSET.out⟩
                case measure => simp [intOf]; omega
              · have hzn : z < 0 := by omega
                go_wp2_with (rw [hW9])
                go_roundw
                case rel => exact ⟨k + 1, z, by omega, by go_num, by (rw [H1.out]; try go_num), rfl, HZO.out hz0 hy, HSET.out⟩
                case measure => simp [intOf]; omega
            · have hzn : ¬ z < 0 := by omega
              go_wp2_with (rw [hW9])
              go_roundw
              case rel => exact ⟨k + 1, z, by omega, by go_num, by (rw [H1.out]; try go_num), rfl, HZP.out hz0, HSET.out⟩
              case measure => simp [intOf]; omega
          · obtain rfl : k = S.phases.length := by omega
            have htk := tk_is HSI.out (P := P) hzz
            have htl := tk_lt HSI.out P
            have hfl := (fst_lt HSI.out P HE0.out)
            have hz1 : z = (tkQ S P : Int) := by
              rcases hzz with ⟨h1, h2⟩ | ⟨q, h1, _⟩
              · have := h2 _ hfl.1
                have := hfl.2.1
                have := (HWR.out _ hfl.1).1
                omega
              · have := htk.1
                rw [if_neg (by omega)] at this
                exact this
            subst hz1
            have y0 := hns.s.cell htl
            have yf := hns.s.fz (tkQ S P)
            have ob2 := hns.b.c2
            have hgl2 := hns.s.lt
            have HSP : Hid (∀ i, i < S.phases.length → (if i = tkQ S P then spQ S P S.phases.length (tkQ S P) + (rstC S P - sumF (shrQ S P) S.phases.length) else spQ S P S.phases.length i) = splC S P i) := fun i hi => by
              rw [← spl_fin hi]
              by_cases e : i = tkQ S P
              · rw [if_pos e, if_pos e, e]
              · rw [if_neg e, if_neg e]
            have hsq : 0 ≤ spQ S P S.phases.length (tkQ S P) ∧ spQ S P S.phases.length (tkQ S P) ≤ 4194304 := by
              have h1 := HPG.out _ htl
              have h2 := shrQ_one HSI.out P htl
              unfold spQ
              rw [if_pos htl]
              omega
            have HFS := Hid.mk' ((hns.set htl (spQ S P S.phases.length (tkQ S P) + (rstC S P - sumF (shrQ S P) S.phases.length))).congr HSP.out)
            obtain ⟨WZ, hWZ⟩ : ∃ WZ, (wr.setCell ⟨gs, tkQ S P, none⟩ (.int .i64 (spQ S P S.phases.length (tkQ S P) + (rstC S P - sumF (shrQ S P) S.phases.length)))) = WZ := ⟨_, rfl⟩
            rw [hWZ] at HFS
            have bz := HBZ.out.kept HFS.out.k
            have z0 := bz.c0
            have z1 := bz.c1
            have z2 := bz.c2
            have zf0 := bz.f0
            have zf1 := bz.f1
            have zf2 := bz.f2
            have o0 := HFS.out.b.c0
            have o1 := HFS.out.b.c1
            have o2 := HFS.out.b.c2
            clear bz
            clear hns hzz htk HNS HZZ HSP hfl
            generalize spQ S P S.phases.length (tkQ S P) = v0 at *
            generalize sumF (shrQ S P) S.phases.length = B2 at *
            generalize rstC S P = rs at *
            generalize tkQ S P = tk at *
            go_wp2_with (rw [hWZ])
            refine bodyPost_ret (v := .agg #[.int .i64 S.high, .int .i64 (P.offset.tmod S.high + S.high), .slice (some ⟨gs, 0, none⟩) S.phases.length cs]) (by simp [results, Tryd.results36, go_sem, z0, z1, z2]) rfl ⟨gs, cs, by rw [HC.out, HOF.out], ?_, ?_, ?_⟩
            · have h1 := HK.out.size
              have h2 := HFS.out.g
              omega
            · have hlz := HBZ.out.lt
              have h2 := HFS.out.g
              have kz : Kept WZ (((WZ.setCell ⟨w.heap.size + 1 + 1, 0, none⟩ (.int .i64 S.high)).setCell ⟨w.heap.size + 1 + 1, 1, none⟩ (.int .i64 (P.offset.tmod S.high + S.high))).setCell ⟨w.heap.size + 1 + 1, 2, none⟩ (.slice (some ⟨gs, 0, none⟩) S.phases.length cs)) (some (w.heap.size + 1 + 1)) := (((Kept.refl WZ (some (w.heap.size + 1 + 1))).setRow _ _).setRow _ _).setRow _ _
              exact HFS.out.s.kept kz (fun e => by have e : gs = w.heap.size + 1 + 1 := Option.some.inj e; omega)
            · exact (((HK.out.tr HFS.out.k).setNew (p := ⟨w.heap.size + 1 + 1, 0, none⟩) (by show w.heap.size ≤ w.heap.size + 1 + 1; omega) _).setNew (p := ⟨w.heap.size + 1 + 1, 1, none⟩) (by show w.heap.size ≤ w.heap.size + 1 + 1; omega) _).setNew (p := ⟨w.heap.size + 1 + 1, 2, none⟩) (by show w.heap.size ≤ w.heap.size + 1 + 1; omega) _

end Go.Proofs.YtfhmfanmnhclfaaDoor
