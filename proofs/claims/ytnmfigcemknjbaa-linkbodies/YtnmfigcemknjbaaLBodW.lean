/-
  THE WALK of LinkBodies (made by a program).
-/
import Derived.Test.YtnmfigcemknjbaaLBacA
import Derived.Test.YtnmfigcemknjbaaLnkR
namespace Go.Proofs.Ytnmfigcemknjbaa
open Go.RowKit Go.Lib Go.Deep
set_option linter.unusedVariables false
set_option linter.unusedSimpArgs false

theorem come_mineB {w : World} {base n c : Nat} {a : Option Addr} {L : List Nat} (h : Mine w base a n c L) (hL : ∀ x ∈ L, x < 256) : Come w a n c L := ⟨h.by hL, fun e => (h.nil e).2, h.room, h.max⟩
theorem cm_ltB {c : Cm} : ∀ x ∈ cmL c, x < 256 := cm_ltP
theorem rp_ltB {r : Rp} : ∀ x ∈ rpL r, x < 256 := rp_ltP
set_option maxRecDepth 100000 in
set_option maxHeartbeats 16000000 in
theorem lbodies_any {w : World} {c : Cm} {ca : Option Addr} {ck : Nat} {r : Rp} {ra : Option Addr} {rk : Nat} {ba : Option Addr} {n nc : Nat} {L : List Nat} (h1 : Cok w c ca ck) (h2 : Rok w r ra rk) (h3 : Come w ba n nc L) : Calls Try.prog 5 #[cmV c ca ck, rpV r ra rk, .slice ba n nc] w fun e w' => e = .returned (.bool true) ∧ Kept w w' none := by
  have HCO := Hid.mk' h1
  have HRO := Hid.mk' h2
  have HC := Hid.mk' h3
  have hm1 : c.plan.splits.length ≤ 9223372036854775807 := by have := h1.ints.cap.room; have := h1.ints.cap.max; omega
  have hm2 : r.loads.length ≤ 9223372036854775807 := by have := h2.ints.cap.room; have := h2.ints.cap.max; omega
  have hm3 : n ≤ 9223372036854775807 := h3.by_.max
  have A0 := Hid.mk' ((c4_alloc w (.int .i64 c.site) (.int .i64 c.plan.cycle) (.int .i64 c.plan.offset) (.slice ca c.plan.splits.length ck) 39).kept (Kept.alloc _ (rpC4 r ra rk) 45 (0, 0) none) (by simp))
  have A1 : Hid (C4 ((w.alloc (.cells (cmC4 c ca ck) 39)).alloc (.cells (rpC4 r ra rk) 45)) (w.heap.size + 1) (.int .i64 r.site) (.int .u8 (r.mode : Int)) (.int .i64 r.tick) (.slice ra r.loads.length rk)) := Hid.mk' (by
    have := c4_alloc (w.alloc (.cells (cmC4 c ca ck) 39)) (.int .i64 r.site) (.int .u8 (r.mode : Int)) (.int .i64 r.tick) (.slice ra r.loads.length rk) 45
    rw [World.size_alloc] at this
    exact this)
  have KA : Hid (Kept w ((w.alloc (.cells (cmC4 c ca ck) 39)).alloc (.cells (rpC4 r ra rk) 45)) none) := Hid.mk' ((Kept.alloc _ _ _ _ _).tr (Kept.alloc _ _ _ _ _))
  obtain ⟨c0, c1, c2, c3⟩ := A0.out
  obtain ⟨d0, d1, d2, d3⟩ := A1.out
  have N3 := Hid.mk' trivial
  clear h1 h2 h3
  by_cases hc : (c.plan.splits.length ≤ 1000 ∧ r.loads.length ≤ 1000) ∧ n ≤ 5000
  case neg =>
    have hh : 1000 < (c.plan.splits.length : Int) ∨ (¬ 1000 < (c.plan.splits.length : Int) ∧ 1000 < (r.loads.length : Int)) ∨ (¬ 1000 < (c.plan.splits.length : Int) ∧ ¬ 1000 < (r.loads.length : Int) ∧ 5000 < (n : Int)) := by omega
    clear hc
    rcases hh with q | ⟨q, q'⟩ | ⟨q, q', q''⟩
    all_goals
      go_enter Try.func5, Try.ntmps5
      go_wp2
      go_ret
      exact ⟨rfl, KA.out⟩
  have q1 : ¬ 1000 < (c.plan.splits.length : Int) := by omega
  have q2 : ¬ 1000 < (r.loads.length : Int) := by omega
  have q3 : ¬ 5000 < (n : Int) := by omega
  have q4 : n ≤ 5000 := hc.2
  clear hc
  go_enter Try.func5, Try.ntmps5
  go_wp2_with (first
    | (have hgo := N13; clear hgo; go_at_call 29; refine (rsameR_yes RM.out RN.out).mono ?_; rintro e w13 ⟨rfl, hk0⟩; dsimp only; have hk := hk0; clear bm0 bm1 bm2 bm3; clear bn0 bn1 bn2 bn3; have HK := Hid.mk' (HK.out.tr hk); have IN := Hid.mk' (IN.out.keptL hk); have t5 := run_text IN.out.by_ ki; have t6 := run_text (HC.out.keptL HK.out).by_ nc; have N14 := Hid.mk' trivial; clear hk hk0 N13)
    | (have hgo := N12; clear hgo; go_at_call 28; refine (rsameC_yes CX.out CY.out).mono ?_; rintro e w12 ⟨rfl, hk0⟩; dsimp only; have hk := hk0; clear bx0 bx1 bx2 bx3; clear by0 by1 by2 by3; have HK := Hid.mk' (HK.out.tr hk); have IN := Hid.mk' (IN.out.keptL hk); have RM := Hid.mk' (RM.out.kept hk); have BM := Hid.mk' (BM.out.kept hk (by simp)); have RN := Hid.mk' (RN.out.kept hk); have BN := Hid.mk' (BN.out.kept hk (by simp)); obtain ⟨bm0, bm1, bm2, bm3⟩ := BM.out; obtain ⟨bn0, bn1, bn2, bn3⟩ := BN.out; have N13 := Hid.mk' trivial; clear hk hk0 N12)
    | (have hgo := N11; clear hgo; go_at_call 27; refine (rofr20_any (HC.out.keptL HK.out)).mono ?_; rintro e w11 ⟨a11, k11, rfl, hc, hk0⟩; dsimp only; have hk := hk0.tr (Kept.alloc w11 (rpC4 (ofrR L) a11 k11) 45 (0, 0) none); have HK := Hid.mk' (HK.out.tr hk); have IN := Hid.mk' (IN.out.keptL hk); have CX := Hid.mk' (CX.out.kept hk); have BX := Hid.mk' (BX.out.kept hk (by simp)); have CY := Hid.mk' (CY.out.kept hk); have BY := Hid.mk' (BY.out.kept hk (by simp)); have RM := Hid.mk' (RM.out.kept hk); have BM := Hid.mk' (BM.out.kept hk (by simp)); have P1 := Hid.mk' (P1.out.kept hk); have P2 := Hid.mk' (P2.out.kept hk); have U1 := Hid.mk' (U1.out.kept hk); have U2 := Hid.mk' (U2.out.kept hk); have RN := Hid.mk' (hc.kept (Kept.alloc w11 (rpC4 (ofrR L) a11 k11) 45 (0, 0) none)); have BN := Hid.mk' (c4_alloc w11 (.int .i64 (ofrR L).site) (.int .u8 ((ofrR L).mode : Int)) (.int .i64 (ofrR L).tick) (.slice a11 (ofrR L).loads.length k11) 45); have t1 := run_text P1.out k4; have t2 := run_text P2.out k5; have t3 := run_text U1.out k6; have t4 := run_text U2.out k7; clear hc; obtain ⟨bx0, bx1, bx2, bx3⟩ := BX.out; obtain ⟨by0, by1, by2, by3⟩ := BY.out; have N12 := Hid.mk' trivial; clear hk hk0 N11)
    | (have hgo := N10; clear hgo; go_at_call 26; refine (lofr_any IN.out).mono ?_; rintro e w10 ⟨a10, k10, rfl, hc, hk0⟩; dsimp only; have hk := hk0.tr (Kept.alloc w10 (rpC4 (ofrR L) a10 k10) 45 (0, 0) none); have HK := Hid.mk' (HK.out.tr hk); have IN := Hid.mk' (IN.out.keptL hk); have CX := Hid.mk' (CX.out.kept hk); have BX := Hid.mk' (BX.out.kept hk (by simp)); have CY := Hid.mk' (CY.out.kept hk); have BY := Hid.mk' (BY.out.kept hk (by simp)); have P1 := Hid.mk' (P1.out.kept hk); have P2 := Hid.mk' (P2.out.kept hk); have U1 := Hid.mk' (U1.out.kept hk); have U2 := Hid.mk' (U2.out.kept hk); have RM := Hid.mk' (hc.kept (Kept.alloc w10 (rpC4 (ofrR L) a10 k10) 45 (0, 0) none)); have BM := Hid.mk' (c4_alloc w10 (.int .i64 (ofrR L).site) (.int .u8 ((ofrR L).mode : Int)) (.int .i64 (ofrR L).tick) (.slice a10 (ofrR L).loads.length k10) 45); clear hc; have N11 := Hid.mk' trivial; clear hk hk0 N10)
    | (have hgo := N9; clear hgo; go_at_call 25; refine (rofc20_any (HC.out.keptL HK.out)).mono ?_; rintro e w9 ⟨a9, k9, rfl, hc, hk0⟩; dsimp only; have hk := hk0.tr (Kept.alloc w9 (cmC4 (ofcC L) a9 k9) 39 (0, 0) none); have HK := Hid.mk' (HK.out.tr hk); have IN := Hid.mk' (IN.out.keptL hk); have CX := Hid.mk' (CX.out.kept hk); have BX := Hid.mk' (BX.out.kept hk (by simp)); have P1 := Hid.mk' (P1.out.kept hk); have P2 := Hid.mk' (P2.out.kept hk); have U1 := Hid.mk' (U1.out.kept hk); have U2 := Hid.mk' (U2.out.kept hk); have CY := Hid.mk' (hc.kept (Kept.alloc w9 (cmC4 (ofcC L) a9 k9) 39 (0, 0) none)); have BY := Hid.mk' (c4_alloc w9 (.int .i64 (ofcC L).site) (.int .i64 (ofcC L).plan.cycle) (.int .i64 (ofcC L).plan.offset) (.slice a9 (ofcC L).plan.splits.length k9) 39); clear hc; have N10 := Hid.mk' trivial; clear hk hk0 N9)
    | (have hgo := N8; clear hgo; go_at_call 14; refine (lofc_any IN.out).mono ?_; rintro e w8 ⟨a8, k8, rfl, hc, hk0⟩; dsimp only; have hk := hk0.tr (Kept.alloc w8 (cmC4 (ofcC L) a8 k8) 39 (0, 0) none); have HK := Hid.mk' (HK.out.tr hk); have IN := Hid.mk' (IN.out.keptL hk); have P1 := Hid.mk' (P1.out.kept hk); have P2 := Hid.mk' (P2.out.kept hk); have U1 := Hid.mk' (U1.out.kept hk); have U2 := Hid.mk' (U2.out.kept hk); have CX := Hid.mk' (hc.kept (Kept.alloc w8 (cmC4 (ofcC L) a8 k8) 39 (0, 0) none)); have BX := Hid.mk' (c4_alloc w8 (.int .i64 (ofcC L).site) (.int .i64 (ofcC L).plan.cycle) (.int .i64 (ofcC L).plan.offset) (.slice a8 (ofcC L).plan.splits.length k8) 39); clear hc; have N9 := Hid.mk' trivial; clear hk hk0 N8)
    | (have hgo := N7; clear hgo; go_at_call 24; refine (rrep20_any r (HRO.out.kept HK.out)).mono ?_; rintro e w7 ⟨a7, k7, rfl, hm, hk0⟩; dsimp only; have hk := hk0; clear b10 b11 b12 b13; have HK := Hid.mk' (HK.out.tr hk); have IN := Hid.mk' (IN.out.keptL hk); have P1 := Hid.mk' (P1.out.kept hk); have P2 := Hid.mk' (P2.out.kept hk); have U1 := Hid.mk' (U1.out.kept hk); have U2 := Hid.mk' (hm.by rp_ltB); clear hm; have N8 := Hid.mk' trivial; clear hk hk0 N7)
    | (have hgo := N6; clear hgo; go_at_call 15; refine (lrep_any r (HRO.out.kept HK.out)).mono ?_; rintro e w6 ⟨a6, k6, rfl, hm, hk0⟩; dsimp only; have hk := hk0; clear b10 b11 b12 b13; have HK := Hid.mk' (HK.out.tr hk); have B1 := Hid.mk' (B1.out.kept hk (by simp)); have IN := Hid.mk' (IN.out.keptL hk); have P1 := Hid.mk' (P1.out.kept hk); have P2 := Hid.mk' (P2.out.kept hk); have U1 := Hid.mk' (hm.by rp_ltB); clear hm; obtain ⟨b10, b11, b12, b13⟩ := B1.out; have N7 := Hid.mk' trivial; clear hk hk0 N6)
    | (have hgo := N5; clear hgo; go_at_call 23; refine (rcmd20_any c (HCO.out.kept HK.out)).mono ?_; rintro e w5 ⟨a5, k5, rfl, hm, hk0⟩; dsimp only; have hk := hk0; clear b00 b01 b02 b03; have HK := Hid.mk' (HK.out.tr hk); have B0 := Hid.mk' (B0.out.kept hk (by simp)); have B1 := Hid.mk' (B1.out.kept hk (by simp)); have IN := Hid.mk' (IN.out.keptL hk); have P1 := Hid.mk' (P1.out.kept hk); have P2 := Hid.mk' (hm.by cm_ltB); clear hm; obtain ⟨b10, b11, b12, b13⟩ := B1.out; have N6 := Hid.mk' trivial; clear hk hk0 N5)
    | (have hgo := N4; clear hgo; go_at_call 13; refine (lcmd_any c (HCO.out.kept HK.out)).mono ?_; rintro e w4 ⟨a4, k4, rfl, hm, hk0⟩; dsimp only; have hk := hk0; clear b00 b01 b02 b03; have HK := Hid.mk' (HK.out.tr hk); have B0 := Hid.mk' (B0.out.kept hk (by simp)); have B1 := Hid.mk' (B1.out.kept hk (by simp)); have IN := Hid.mk' (IN.out.keptL hk); have P1 := Hid.mk' (hm.by cm_ltB); clear hm; obtain ⟨b00, b01, b02, b03⟩ := B0.out; have N5 := Hid.mk' trivial; clear hk hk0 N4)
    | (have hgo := N3; clear hgo; at_builtin; refine wpList_join (by rfl) _ _ (by rfl) w.heap.size (.slice none 0 0) 0 [] (by rfl) (World.ownsRow_nil _ _ _ _) ba n nc L (by rfl) (HC.out.keptL KA.out).by_ (HC.out.nil) (by omega) (by have := KA.out.size; omega) ?_; intro ai ki wi hm hg; simp only [Nat.zero_add, List.nil_append] at hm ⊢; have hk : Kept ((w.alloc (.cells (cmC4 c ca ck) 39)).alloc (.cells (rpC4 r ra rk) 45)) wi none := hg; have HK := Hid.mk' (KA.out.tr hk); have IN : Hid (Come wi ai n ki L) := Hid.mk' (come_mineB hm HC.out.by_.lt); have B0 := Hid.mk' (A0.out.kept hk (by simp)); have B1 := Hid.mk' (A1.out.kept hk (by simp)); clear c0 c1 c2 c3 d0 d1 d2 d3; obtain ⟨b00, b01, b02, b03⟩ := B0.out; have N4 := Hid.mk' trivial; clear hm hg hk A0 A1 N3))
  go_ret
  exact ⟨rfl, HK.out⟩

end Go.Proofs.Ytnmfigcemknjbaa
