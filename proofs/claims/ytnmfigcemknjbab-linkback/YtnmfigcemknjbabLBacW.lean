/-
  THE WALK of LinkBack (made by a program).
-/
import Derived.Test.YtnmfigcemknjbabLBacA
namespace Go.Proofs.Ytnmfigcemknjbab
open Go.RowKit Go.Lib Go.Deep
set_option linter.unusedVariables false
set_option linter.unusedSimpArgs false

theorem come_mine {w : World} {base n c : Nat} {a : Option Addr} {L : List Nat} (h : Mine w base a n c L) (hL : ∀ x ∈ L, x < 256) : Come w a n c L := ⟨h.by hL, fun e => (h.nil e).2, h.room, h.max⟩
theorem cm_lt {c : Cm} : ∀ x ∈ cmL c, x < 256 := by
  unfold cmL; split
  · exact smlI_lt _
  · intro x hx; cases hx
theorem rp_lt {r : Rp} : ∀ x ∈ rpL r, x < 256 := by
  unfold rpL; split
  · exact smlI_lt _
  · intro x hx; cases hx
theorem of_c0 {L : List Nat} (h : ofcE L = 0) : ofcB L = true := by
  unfold ofcE at h
  by_cases q : ofcB L = true
  · exact q
  · rw [if_neg q] at h; omega
theorem of_r0 {L : List Nat} (h : ofrE L = 0) : ofrB L = true := by
  unfold ofrE at h
  by_cases q : ofrB L = true
  · exact q
  · rw [if_neg q] at h; omega
theorem two (e : Int) : (Hid (e = 0) ∧ (e == 0) = true ∧ (e != 0) = false) ∨ ((e == 0) = false ∧ (e != 0) = true) := by
  by_cases h : e = 0
  · left; subst h; exact ⟨Hid.mk' rfl, rfl, rfl⟩
  · right; exact ⟨by simpa using h, by simpa using h⟩
set_option maxRecDepth 100000 in
set_option maxHeartbeats 16000000 in
theorem lback_any {w : World} {c : Cm} {ca : Option Addr} {ck : Nat} {r : Rp} {ra : Option Addr} {rk : Nat} {ba : Option Addr} {n nc : Nat} {L : List Nat} (h1 : Cok w c ca ck) (h2 : Rok w r ra rk) (h3 : Come w ba n nc L) : Calls Try.prog 3 #[cmV c ca ck, rpV r ra rk, .slice ba n nc] w fun e w' => e = .returned (.bool true) ∧ Kept w w' none := by
  have HCO := Hid.mk' h1
  have HRO := Hid.mk' h2
  have HC := Hid.mk' h3
  have HL := Hid.mk' h3.by_.lt
  have hm1 : c.plan.splits.length ≤ 9223372036854775807 := by have := h1.ints.cap.room; have := h1.ints.cap.max; omega
  have hm2 : r.loads.length ≤ 9223372036854775807 := by have := h2.ints.cap.room; have := h2.ints.cap.max; omega
  have hm3 : n ≤ 9223372036854775807 := h3.by_.max
  have A0 := Hid.mk' ((c4_alloc w (.int .i64 c.site) (.int .i64 c.plan.cycle) (.int .i64 c.plan.offset) (.slice ca c.plan.splits.length ck) 24).kept (Kept.alloc _ (rpC4 r ra rk) 27 (0, 0) none) (by simp))
  have A1 : Hid (C4 ((w.alloc (.cells (cmC4 c ca ck) 24)).alloc (.cells (rpC4 r ra rk) 27)) (w.heap.size + 1) (.int .i64 r.site) (.int .u8 (r.mode : Int)) (.int .i64 r.tick) (.slice ra r.loads.length rk)) := Hid.mk' (by
    have := c4_alloc (w.alloc (.cells (cmC4 c ca ck) 24)) (.int .i64 r.site) (.int .u8 (r.mode : Int)) (.int .i64 r.tick) (.slice ra r.loads.length rk) 27
    rw [World.size_alloc] at this
    exact this)
  clear h1 h2 h3
  rcases two (cmE c) with ⟨HE1, q1, q1'⟩ | ⟨q1, q1'⟩ <;> rcases two (rpE r) with ⟨HE2, q2, q2'⟩ | ⟨q2, q2'⟩ <;> rcases two (ofcE L) with ⟨HE3, q3, q3'⟩ | ⟨q3, q3'⟩ <;> rcases two (ofrE L) with ⟨HE4, q4, q4'⟩ | ⟨q4, q4'⟩
  all_goals go_enter Try.func3, Try.ntmps3
  all_goals go_wp2_with (first
    | (have hgo := PY; clear hgo; go_at_call 8; have hh := of_r0 (L := L) HE4.out; refine (lrep_any (ofrR L) PY.out).mono ?_; rw [(rp_only HL.out hh).1, (rp_only HL.out hh).2]; rintro e w10 ⟨a10, k10, rfl, hm10, hk10⟩; dsimp only; have t1 := run_text (hm10.by HL.out) k10; have t2 := run_text (HC.out.keptL (HK.out.tr ((Kept.alloc _ _ _ _ _).tr hk10))).by_ nc; have HK := Hid.mk' (HK.out.tr ((Kept.alloc _ _ _ _ _).tr hk10)); clear PY hm10 hk10)
    | (have hgo := PX; clear hgo; go_at_call 9; (first | refine (lofr_any (HC.out.keptL HK.out)).mono ?_ | (have HK := Hid.mk' (HK.out.tr (Kept.alloc w7 (cmC4 (ofcC L) a7 k7) 24 (0, 0) none)); refine (lofr_any (HC.out.keptL HK.out)).mono ?_)); rintro e w9 ⟨a9, k9, rfl, hc9, hk9⟩; dsimp only; have PY := Hid.mk' (hc9.kept (Kept.alloc w9 (rpC4 (ofrR L) a9 k9) 27 (0, 0) none)); have HK := Hid.mk' (HK.out.tr hk9); clear PX hc9 hk9)
    | (have hgo := PZ; clear hgo; go_at_call 5; have hh := of_c0 (L := L) HE3.out; refine (lcmd_any (ofcC L) PZ.out).mono ?_; rw [(cm_only HL.out hh).1, (cm_only HL.out hh).2]; rintro e w8 ⟨a8, k8, rfl, hm8, hk8⟩; dsimp only; have t1 := run_text (hm8.by HL.out) k8; have t2 := run_text (HC.out.keptL (HK.out.tr ((Kept.alloc _ _ _ _ _).tr hk8))).by_ nc; have HK := Hid.mk' (HK.out.tr ((Kept.alloc _ _ _ _ _).tr hk8)); have PX := Hid.mk' trivial; clear PZ hm8 hk8)
    | (have hgo := PR; clear hgo; go_at_call 6; refine (lofc_any (HC.out.keptL HK.out)).mono ?_; rintro e w7 ⟨a7, k7, rfl, hc7, hk7⟩; dsimp only; have PZ := Hid.mk' (hc7.kept (Kept.alloc w7 (cmC4 (ofcC L) a7 k7) 24 (0, 0) none)); have HK := Hid.mk' (HK.out.tr hk7); have PX := Hid.mk' trivial; clear PR hc7 hk7)
    | (have hgo := PQ; clear hgo; go_at_call 10; refine (rsameR_yes PQ.out (HRO.out.kept (HK.out.tr (Kept.alloc _ _ _ _ _)))).mono ?_; rintro e w6 ⟨rfl, hk6⟩; dsimp only; have HK := Hid.mk' (HK.out.tr ((Kept.alloc _ _ _ _ _).tr hk6)); have PR := Hid.mk' trivial; clear PQ hk6)
    | (have hgo := PO; clear hgo; go_at_call 9; have hb := rp_back (r := r) HE2.out; refine (lofr_any PO.out).mono ?_; unfold OfrP; rw [hb.2, show ofrE (rpL r) = 0 from if_pos hb.1]; rintro e w5 ⟨a5, k5, rfl, hc5, hk5⟩; dsimp only; have PQ := Hid.mk' (hc5.kept (Kept.alloc w5 (rpC4 r a5 k5) 27 (0, 0) none)); have HK := Hid.mk' (HK.out.tr hk5); have HB1 := Hid.mk' (HB1.out.kept hk5 (by simp)); clear d0 d1 d2 d3; obtain ⟨d0, d1, d2, d3⟩ := HB1.out.kept (Kept.alloc w5 (rpC4 r a5 k5) 27 (0, 0) none) (by simp); clear PO hc5 hk5)
    | (have hgo := PA; clear hgo; go_at_call 8; refine (lrep_any r (HRO.out.kept HK.out)).mono ?_; rintro e w4 ⟨a4, k4, rfl, hm4, hk4⟩; dsimp only; have hl4 := rp_len (r := r); have PO := Hid.mk' (come_mine hm4 rp_lt); have PR := Hid.mk' trivial; have HK := Hid.mk' (HK.out.tr hk4); have HB0 := Hid.mk' (HB0.out.kept hk4 (by simp)); have HB1 := Hid.mk' (HB1.out.kept hk4 (by simp)); clear c0 c1 c2 c3 d0 d1 d2 d3; obtain ⟨c0, c1, c2, c3⟩ := HB0.out; obtain ⟨d0, d1, d2, d3⟩ := HB1.out; clear PA hm4 hk4)
    | (have hgo := PP; clear hgo; go_at_call 7; refine (rsameC_yes PP.out (HCO.out.kept (HK.out.tr (Kept.alloc _ _ _ _ _)))).mono ?_; rintro e w3 ⟨rfl, hk3⟩; dsimp only; have PA := Hid.mk' trivial; have hk9 := (Kept.alloc w2 (cmC4 c a2 k2) 24 (0, 0) none).tr hk3; have HK := Hid.mk' (HK.out.tr hk9); have HB0 := Hid.mk' (HB0.out.kept hk9 (by simp)); have HB1 := Hid.mk' (HB1.out.kept hk9 (by simp)); clear c0 c1 c2 c3 d0 d1 d2 d3; obtain ⟨c0, c1, c2, c3⟩ := HB0.out; obtain ⟨d0, d1, d2, d3⟩ := HB1.out; clear PP hk3 hk9)
    | (have hgo := PC; clear hgo; go_at_call 6; have hb := cm_back (c := c) HE1.out; refine (lofc_any PC.out).mono ?_; unfold OfcP; rw [hb.2, show ofcE (cmL c) = 0 from if_pos hb.1]; rintro e w2 ⟨a2, k2, rfl, hc2, hk2⟩; dsimp only; have PP := Hid.mk' (hc2.kept (Kept.alloc w2 (cmC4 c a2 k2) 24 (0, 0) none)); have HK := Hid.mk' (HK.out.tr hk2); have HB0 := Hid.mk' (HB0.out.kept hk2 (by simp)); have HB1 := Hid.mk' (HB1.out.kept hk2 (by simp)); clear c0 c1 c2 c3 d0 d1 d2 d3; obtain ⟨c0, c1, c2, c3⟩ := HB0.out; obtain ⟨d0, d1, d2, d3⟩ := HB1.out; clear c0 c1 c2 c3; obtain ⟨c0, c1, c2, c3⟩ := HB0.out.kept (Kept.alloc w2 (cmC4 c a2 k2) 24 (0, 0) none) (by simp); clear PC hc2 hk2)
    | (have hgo := P0; clear hgo; go_at_call 5; refine (lcmd_any c (HCO.out.kept HK.out)).mono ?_; rintro e w1 ⟨a1, k1, rfl, hm1, hk1⟩; dsimp only; have hl1 := cm_len (c := c); have PC := Hid.mk' (come_mine hm1 cm_lt); have PA := Hid.mk' trivial; have HK := Hid.mk' (HK.out.tr hk1); have HB0 := Hid.mk' (HB0.out.kept hk1 (by simp)); have HB1 := Hid.mk' (HB1.out.kept hk1 (by simp)); clear c0 c1 c2 c3 d0 d1 d2 d3; obtain ⟨c0, c1, c2, c3⟩ := HB0.out; obtain ⟨d0, d1, d2, d3⟩ := HB1.out; clear P0 hm1 hk1)
    | (go_at_call 4; refine (alive_any _).mono ?_; rintro e w0 ⟨rfl, hk0⟩; have P0 := Hid.mk' trivial; have HK := Hid.mk' (((Kept.alloc w (cmC4 c ca ck) 24 (0, 0) none).tr (Kept.alloc _ (rpC4 r ra rk) 27 (0, 0) none)).tr hk0); have HB0 := Hid.mk' (A0.out.kept hk0 (by simp)); have HB1 := Hid.mk' (A1.out.kept hk0 (by simp)); obtain ⟨c0, c1, c2, c3⟩ := HB0.out; obtain ⟨d0, d1, d2, d3⟩ := HB1.out; clear A0 A1 hk0))
  all_goals first
    | (go_ret; exact ⟨rfl, HK.out.tr (Kept.alloc _ _ _ _ _)⟩)
    | (go_ret; exact ⟨rfl, HK.out⟩)
    | skip


end Go.Proofs.Ytnmfigcemknjbab
