/-
  THE CONTRACT of link's OfReport (made by a program of OfCommand's).
-/
import Derived.Test.YtnmfigcemknjbaaLnkZ
namespace Go.Proofs.Ytnmfigcemknjbaa
open Go.RowKit Go.Lib Go.Deep
set_option linter.unusedVariables false
set_option linter.unusedSimpArgs false

def OfrP (w : World) (b : List Nat) (e : Ending) (w' : World) : Prop := ∃ a' k', e = .returned (.tuple #[rpV (ofrR b) a' k', .int .i64 (ofrE b)]) ∧ Rok w' (ofrR b) a' k' ∧ Kept w w' none
theorem OfrP.no {w w' : World} {b : List Nat} (h : ofrB b = false) (k : Kept w w' none) : OfrP w b (.returned (.tuple #[rpV rp0 none 0, .int .i64 8])) w' := by
  have h1 : ofrR b = rp0 := if_neg (by rw [h]; decide)
  have h2 : ofrE b = 8 := if_neg (by rw [h]; decide)
  refine ⟨none, 0, by rw [h1, h2], ?_, k⟩
  rw [h1]
  exact ⟨⟨⟨fun hp => absurd hp (by show ¬ (0 < 0); omega)⟩, rfl, ⟨fun _ => ⟨rfl, rfl⟩, Nat.le_refl _, by omega⟩, fun x hx => nomatch hx⟩, by decide, by unfold i64B; decide, by unfold i64B; decide⟩
theorem OfrP.yes {w w' : World} {b : List Nat} {c : Rp} {a : Option Addr} {k : Nat} (h : ofrB b = true) (hc : ofrR b = c) (h3 : Rok w' c a k) (q : Kept w w' none) : OfrP w b (.returned (.tuple #[rpV c a k, .int .i64 0])) w' := by
  have h2 : ofrE b = 0 := if_pos h
  exact ⟨a, k, by rw [hc, h2], by rw [hc]; exact h3, q⟩
set_option maxRecDepth 100000 in
set_option maxHeartbeats 8000000 in
theorem lofr_any {w : World} {a : Option Addr} {n c : Nat} {L : List Nat} (h : Come w a n c L) : Calls Try.prog 26 #[.slice a n c] w fun e w' => OfrP w L e w' := by
  have HC := Hid.mk' h
  clear h
  obtain ⟨x1, s1, e1⟩ : ∃ x s, numK 65535 (L, false) = (x, s) := ⟨_, _, rfl⟩
  obtain ⟨m2, s2, e2⟩ : ∃ x s, upM 3 s1 = (x, s) := ⟨_, _, rfl⟩
  obtain ⟨x3, s3, e3⟩ : ∃ x s, numK 1073741824 s2 = (x, s) := ⟨_, _, rfl⟩
  obtain ⟨n4, s4, e4⟩ : ∃ x s, upM 8 s3 = (x, s) := ⟨_, _, rfl⟩
  obtain ⟨sp, s5, e5⟩ : ∃ x s, listM (numK 70368744177664) n4 s4 = (x, s) := ⟨_, _, rfl⟩
  have hsl : sp.length = n4 := by have := listM_len (numK 70368744177664) n4 s4; rw [e5] at this; exact this
  subst hsl
  have hn8 : sp.length ≤ 8 := by have := upM_le 8 s3; rw [e4] at this; exact this
  have hnk : ∀ q s, 0 ≤ (numK q s).1 ∧ (numK q s).1 ≤ (q : Int) := fun q s => by have := upM_le q s; show 0 ≤ ((upM q s).1 : Int) ∧ ((upM q s).1 : Int) ≤ (q : Int); omega
  have hx1 : 0 ≤ x1 ∧ x1 ≤ 65535 := by have := hnk 65535 (L, false); rw [e1] at this; exact this
  have hm2 : m2 ≤ 3 := by have := upM_le 3 s1; rw [e2] at this; exact this
  have hx3 : 0 ≤ x3 ∧ x3 ≤ 1073741824 := by have := hnk 1073741824 s2; rw [e3] at this; exact this
  have hsp : ∀ x ∈ sp, 0 ≤ x ∧ x ≤ 70368744177664 := by have := listM_all (P := fun x => 0 ≤ x ∧ x ≤ 70368744177664) (numK 70368744177664) (fun s => hnk 70368744177664 s) sp.length s4; rw [e5] at this; exact this
  have HCM : Hid (rpM (L, false) = (⟨x1, m2, x3, sp⟩, s5)) := Hid.mk' (by
    show ((⟨(numK 65535 (L, false)).1, (((upM 3 (numK 65535 (L, false)).2).1 : Nat) : Int).toNat, (numK 1073741824 (upM 3 (numK 65535 (L, false)).2).2).1, (listM (numK 70368744177664) (upM 8 (numK 1073741824 (upM 3 (numK 65535 (L, false)).2).2).2).1 (upM 8 (numK 1073741824 (upM 3 (numK 65535 (L, false)).2).2).2).2).1⟩ : Rp), (listM (numK 70368744177664) (upM 8 (numK 1073741824 (upM 3 (numK 65535 (L, false)).2).2).2).1 (upM 8 (numK 1073741824 (upM 3 (numK 65535 (L, false)).2).2).2).2).2) = _
    rw [e1, e2, e3, e4, e5]
    rfl)
  have HE := Hid.mk' (show numK 65535 (L, false) = (x1, s1) ∧ upM 3 s1 = (m2, s2) ∧ numK 1073741824 s2 = (x3, s3) ∧ upM 8 s3 = (sp.length, s4) ∧ listM (numK 70368744177664) sp.length s4 = (sp, s5) from ⟨e1, e2, e3, e4, e5⟩)
  have HX := Hid.mk' (show (0 ≤ x1 ∧ x1 ≤ 65535) ∧ m2 ≤ 3 ∧ (0 ≤ x3 ∧ x3 ≤ 1073741824) ∧ ∀ x ∈ sp, 0 ≤ x ∧ x ≤ 70368744177664 from ⟨hx1, hm2, hx3, hsp⟩)
  clear e1 e2 e3 e4 e5 hx1 hx3 hsp hnk
  go_enter Try.func26, Try.ntmps26
  go_wp2_with (first
    | (have hgo := P5; clear hgo; go_at_call 50; have hc := list_loadK R5.out (Nat.le_trans H5.out (Nat.le_refl _)) sp.length (by omega); rw [HE.out.2.2.2.2] at hc; refine hc.mono ?_; rintro e w6 ⟨rfl, hl6, hr6, hk6⟩; dsimp only at *; have P6 := Hid.mk' trivial; have L6 := Hid.mk' hl6; have R6 := Hid.mk' hr6; have K6 := Hid.mk' (ext_row K5.out hk6 HBW.out); have A6 := Hid.mk' (row_ne A5.out hk6 (Nat.ne_of_lt HAB.out)); have B6 := Hid.mk' (row_ne B5.out hk6 (Nat.ne_of_gt HBB.out)); obtain ⟨c0, c1, c2, c3, f0, f1, f2, f3, lt⟩ := ra_cells B6.out; clear hl6 hr6 hk6 P5)
    | (have hgo := P4; clear hgo; go_at_call 40; have hc := manyK_any (R4.out.kept (r := none) (Kept.alloc w4 #[.int .i64 x1, .int .u8 (m2 : Int), .int .i64 x3, .slice none 0 0] 45 (0, 0) none) (by intro i hi; cases hi)) 8 (by omega); rw [HE.out.2.2.2.1] at hc; refine hc.mono ?_; rintro e w5 ⟨rfl, hr5, hk5⟩; dsimp only at *; have P5 := Hid.mk' trivial; have R5 := Hid.mk' hr5; have B5 := Hid.mk' (row_ne (ra_alloc w4 45 (.int .i64 x1) (.int .u8 (m2 : Int)) (.int .i64 x3) (.slice none 0 0)) hk5 (Nat.ne_of_gt H4.out)); have K5 := Hid.mk' (ext_row (K4.out.tr (Kept.alloc _ _ _ _ _)) hk5 HBW.out); have A5 := Hid.mk' (row_ne ((A4.out).alloc _) hk5 (Nat.ne_of_lt HAB.out)); have HBB : Hid (w1.heap.size < w4.heap.size) := Hid.mk' H4.out; have H54 : Hid (w4.heap.size < w5.heap.size) := Hid.mk' (size_al hk5); have HWB : Hid (w.heap.size < w5.heap.size) := Hid.mk' (Nat.lt_of_le_of_lt K4.out.size (size_al hk5)); have H5 : Hid (w1.heap.size + 1 ≤ w5.heap.size) := Hid.mk' (Nat.le_trans H4.out (Nat.le_trans (Nat.le_succ _) (size_al hk5))); clear hr5 hk5 P4)
    | (have hgo := P3; clear hgo; go_at_call 49; have hc := ltick_any R3.out; rw [HE.out.2.2.1] at hc; refine hc.mono ?_; rintro e w4 ⟨rfl, hr4, hk4⟩; dsimp only at *; have P4 := Hid.mk' trivial; have R4 := Hid.mk' hr4; have K4 := Hid.mk' (ext_row K3.out hk4 HBW.out); have A4 := Hid.mk' (row_ne A3.out hk4 (Nat.ne_of_lt HAB.out)); have H4 : Hid (w1.heap.size + 1 ≤ w4.heap.size) := Hid.mk' (Nat.le_trans H3.out hk4.size); clear hr4 hk4 P3)
    | (have hgo := P2; clear hgo; go_at_call 48; have hc := lmode_any R2.out; rw [HE.out.2.1] at hc; refine hc.mono ?_; rintro e w3 ⟨rfl, hr3, hk3⟩; dsimp only at *; have P3 := Hid.mk' trivial; have R3 := Hid.mk' hr3; have K3 := Hid.mk' (ext_row K2.out hk3 HBW.out); have A3 := Hid.mk' (row_ne A2.out hk3 (Nat.ne_of_lt HAB.out)); have H3 : Hid (w1.heap.size + 1 ≤ w3.heap.size) := Hid.mk' (Nat.le_trans H2.out hk3.size); clear hr3 hk3 P2)
    | (have hgo := P1; clear hgo; go_at_call 37; have hc := lsite_any (rdk_new (HC.out.keptL K1.out) 87); rw [HE.out.1] at hc; refine hc.mono ?_; rintro e w2 ⟨rfl, hr2, hk2⟩; dsimp only at *; have P2 := Hid.mk' trivial; have R2 := Hid.mk' hr2; have HBW : Hid (w.heap.size ≤ w1.heap.size) := Hid.mk' K1.out.size; have HAB : Hid (w.heap.size < w1.heap.size) := Hid.mk' (World.rowIs.lt A1.out); have K2 := Hid.mk' (ext_row (K1.out.tr (Kept.alloc _ _ _ _ _)) hk2 HBW.out); have A2 := Hid.mk' (row_ne ((A1.out).alloc _) hk2 (Nat.ne_of_lt HAB.out)); have H2 : Hid (w1.heap.size + 1 ≤ w2.heap.size) := Hid.mk' (size_al hk2); clear hr2 hk2 P1)
    | (go_at_call 36; refine readerOf_any.mono ?_; rintro e w1 ⟨rfl, hk1⟩; dsimp only at *; have P1 := Hid.mk' trivial; have K1 := Hid.mk' ((Kept.alloc w #[.int .i64 0, .int .u8 0, .int .i64 0, .slice none 0 0] 45 (0, 0) none).tr hk1); have A1 := Hid.mk' (row_kept (ra_alloc w 45 (.int .i64 0) (.int .u8 0) (.int .i64 0) (.slice none 0 0)) hk1 (by simp)); clear hk1))
  have H45 : Hid (w4.heap.size < w5.heap.size) := Hid.mk' H54.out
  have hkS : Kept w6 (w6.setCell ⟨w4.heap.size, 3, none⟩ (.slice (some ⟨w5.heap.size, 0, none⟩) sp.length sp.length)) (some w4.heap.size) := kept_setZ _ _ _ _
  have HR7 := Hid.mk' (R6.out.setNew H4.out 3 (.slice (some ⟨w5.heap.size, 0, none⟩) sp.length sp.length))
  have HB7 := Hid.mk' (ra_set3 B6.out (.slice (some ⟨w5.heap.size, 0, none⟩) sp.length sp.length))
  have HA7 := Hid.mk' (row_ne A6.out hkS (by have h1 := HAB.out; have h2 := HBB.out; omega))
  have HK7 := Hid.mk' (ext_row K6.out hkS (by have h1 := HBW.out; have h2 := HBB.out; omega))
  have HI7 : Hid (Ints (w6.setCell ⟨w4.heap.size, 3, none⟩ (.slice (some ⟨w5.heap.size, 0, none⟩) sp.length sp.length)) (some ⟨w5.heap.size, 0, none⟩) sp.length sp.length sp) := Hid.mk' ⟨L6.out.keptR hkS (fun hp x hx e => by injection hx with hx; subst hx; injection e with e; have := H45.out; dsimp only at e; omega), rfl, ⟨fun e => (nomatch e), Nat.le_refl _, by omega⟩, fun x hx => by have := HX.out.2.2.2 x hx; omega⟩
  clear hkS c0 c1 c2 c3 f0 f1 f2 f3 lt L6 A6 B6 R6 K6
  generalize (w6.setCell ⟨w4.heap.size, 3, none⟩ (.slice (some ⟨w5.heap.size, 0, none⟩) sp.length sp.length)) = W7 at HR7 HB7 HA7 HK7 HI7 ⊢
  generalize hBC : w4.heap.size = BC at *
  generalize hBR : w1.heap.size = BR at *
  clear hBC hBR
  refine (doneK_any HR7.out).mono ?_
  rintro e w8 ⟨rfl, rfl⟩
  have HOC : Hid (Rok w8 ⟨x1, m2, x3, sp⟩ (some ⟨w5.heap.size, 0, none⟩) sp.length) := Hid.mk' ⟨HI7.out, by have := HX.out.2.1; show m2 < 256; omega, by unfold i64B; have := HX.out.2.2.1; dsimp only; omega, by unfold i64B; have := HX.out.1; dsimp only; omega⟩
  obtain ⟨a0, a1, a2, a3, g0, g1, g2, g3, alt⟩ := ra_cells HA7.out
  obtain ⟨b0, b1, b2, b3, _, _, _, _, blt⟩ := ra_cells HB7.out
  cases hd : doneB s5 with
  | false =>
    have HB : Hid (ofrB L = false) := Hid.mk' (by unfold ofrB; rw [HCM.out]; exact hd)
    have hKF := Hid.mk' (kept_rowL HK7.out (kept_set4 w8 w.heap.size (.int .i64 0) (.int .u8 0) (.int .i64 0) (.slice none 0 0)) (fun g e => by injection e with e; omega))
    dsimp only
    go_wp2
    refine bodyPost_ret (v := .tuple #[rpV rp0 none 0, .int .i64 8]) (by simp [results, Try.results26, go_sem, *]; done) rfl ?_
    exact OfrP.no HB.out hKF.out
  | true =>
    have HB : Hid (ofrB L = true ∧ ofrR L = ⟨x1, m2, x3, sp⟩) := Hid.mk' (by
      have h1 : ofrB L = true := by unfold ofrB; rw [HCM.out]; exact hd
      exact ⟨h1, by unfold ofrR; rw [if_pos h1, HCM.out]⟩)
    have HKF := Hid.mk' (kept_rowL HK7.out (kept_set4 w8 w.heap.size (.int .i64 x1) (.int .u8 (m2 : Int)) (.int .i64 x3) (.slice (some ⟨w5.heap.size, 0, none⟩) sp.length sp.length)) (fun g e => by injection e with e; omega))
    have HOF := Hid.mk' (HOC.out.ints.keptR (kept_set4 w8 w.heap.size (.int .i64 x1) (.int .u8 (m2 : Int)) (.int .i64 x3) (.slice (some ⟨w5.heap.size, 0, none⟩) sp.length sp.length)) (fun hp x hx e => by injection hx with hx; subst hx; injection e with e; have := HWB.out; dsimp only at e; omega))
    dsimp only
    go_wp2
    refine bodyPost_ret (v := .tuple #[rpV ⟨x1, m2, x3, sp⟩ (some ⟨w5.heap.size, 0, none⟩) sp.length, .int .i64 0]) (by simp [results, Try.results26, go_sem, *]; done) rfl ?_
    exact OfrP.yes HB.out.1 HB.out.2 ⟨HOF.out, HOC.out.mode, HOC.out.tick, HOC.out.site⟩ HKF.out

end Go.Proofs.Ytnmfigcemknjbaa
