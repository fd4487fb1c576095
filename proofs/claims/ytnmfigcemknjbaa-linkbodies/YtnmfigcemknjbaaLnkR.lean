/-
  THE CONTRACT of the document's OfReport (made by a program).
-/
import Derived.Test.YtnmfigcemknjbaaLnkP
import Derived.Test.YtnmfigcemknjbaaLnkI
import Derived.Test.YtnmfigcemknjbaaLnkQ
import Derived.Test.YtnmfigcemknjbaaLnkW
namespace Go.Proofs.Ytnmfigcemknjbaa
open Go.RowKit Go.Lib Go.Deep
set_option linter.unusedVariables false
set_option linter.unusedSimpArgs false

theorem rp_ltP {r : Rp} : ∀ x ∈ rpL r, x < 256 := by
  unfold rpL; split
  · exact smlI_lt _
  · intro x hx; cases hx
theorem rnumL_at {w : World} {H b : Nat} {s s' : Rd} {n : Nat} {M : Int} (h : Drd w H b s) (most : Nat) (hM : M = (most : Int)) (hm : most ≤ 4611686018427387904) (he : dnM most s = (n, s')) : Calls Try.prog 47 #[.pointer (some ⟨b, 0, none⟩), .int .i64 M] w fun e w' => e = .returned (.int .i64 (n : Int)) ∧ Drd w' H b s' ∧ Kept w w' (some b) := by
  subst hM
  have := rnumL_any h most hm
  rw [he] at this
  exact this
theorem sp_stepL {mv k : Nat} {t0 : Rd} {sp : List Int} {L4 : List Nat} {y : Nat} {s5 : Rd} (h : spD 70368744177664 mv t0 = (sp ++ (spD 70368744177664 (mv - k) (L4, false)).1, (spD 70368744177664 (mv - k) (L4, false)).2)) (hk : k < mv) (e : dnM 70368744177664 (L4, false) = (y, s5)) : spD 70368744177664 mv t0 = ((sp ++ [(y : Int)]) ++ (spD 70368744177664 (mv - (k + 1)) s5).1, (spD 70368744177664 (mv - (k + 1)) s5).2) := by
  have q : mv - k = (mv - (k + 1)) + 1 := by omega
  rw [q, spD_step (s := (L4, false)) rfl, e] at h
  rw [h, List.append_assoc]
  rfl
set_option maxRecDepth 100000 in
set_option maxHeartbeats 8000000 in
theorem rofr20_any {w : World} {a : Option Addr} {n c : Nat} {L : List Nat} (h : Come w a n c L) : Calls Try.prog 27 #[.slice a n c] w fun e w' => OfrP w L e w' := by
  have HC := Hid.mk' h
  have HLT := Hid.mk' h.by_.lt
  obtain ⟨⟨sv, s1⟩, hu1⟩ : ∃ u, dnM 65535 (L, false) = u := ⟨_, rfl⟩
  obtain ⟨⟨cv, s2⟩, hu2⟩ : ∃ u, dnM 3 s1 = u := ⟨_, rfl⟩
  obtain ⟨⟨ov, s3⟩, hu3⟩ : ∃ u, dnM 1073741824 s2 = u := ⟨_, rfl⟩
  obtain ⟨⟨mv, t3⟩, hu4⟩ : ∃ u, dnM 8 s3 = u := ⟨_, rfl⟩
  have hsv : sv ≤ 65535 := by have := dnM_le 65535 (L, false); rw [hu1] at this; exact this
  have hcv : cv ≤ 3 := by have := dnM_le 3 s1; rw [hu2] at this; exact this
  have hov : ov ≤ 1073741824 := by have := dnM_le 1073741824 s2; rw [hu3] at this; exact this
  have hmv : mv ≤ 8 := by have := dnM_le 8 s3; rw [hu4] at this; exact this
  have HDC : Hid (drM (L, false) = (⟨(sv : Int), cv, (ov : Int), (spD 70368744177664 mv t3).1⟩, (spD 70368744177664 mv t3).2)) := Hid.mk' (by unfold drM; rw [hu1]; dsimp only; rw [hu2]; dsimp only; rw [hu3]; dsimp only; rw [hu4])
  have HU1 := Hid.mk' hu1
  have HU2 := Hid.mk' hu2
  have HU3 := Hid.mk' hu3
  have HU4 := Hid.mk' hu4
  have kA : Kept w ((w.alloc (.cells #[.int .i64 0, .int .u8 0, .int .i64 0, .slice none 0 0] 45)).alloc (.cells #[.slice a n c, .bool false] 101)) none := (Kept.alloc _ _ _ _ _).tr (Kept.alloc _ _ _ _ _)
  have qB := World.rowIs_alloc (w.alloc (.cells #[.int .i64 0, .int .u8 0, .int .i64 0, .slice none 0 0] 45)) #[.slice a n c, .bool false] 101 (fun i => if i = 0 then .slice a n c else .bool false) (fun i hi => by
    have : i = 0 ∨ i = 1 := by simp at hi; omega
    rcases this with rfl | rfl <;> rfl)
  have R0 := bx4_alloc w (.int .i64 0) (.int .u8 0) (.int .i64 0) (.slice none 0 0) 45
  have R1 := R0.kept (Kept.alloc _ #[.slice a n c, .bool false] 101 (0, 0) none) (by simp)
  have hW : ((w.alloc (.cells #[.int .i64 0, .int .u8 0, .int .i64 0, .slice none 0 0] 45)).alloc (.cells #[.slice a n c, .bool false] 101)).heap.size = w.heap.size + 2 := by simp
  rw [World.size_alloc] at qB
  have hD : Drd ((w.alloc (.cells #[.int .i64 0, .int .u8 0, .int .i64 0, .slice none 0 0] 45)).alloc (.cells #[.slice a n c, .bool false] 101)) (w.heap.size + 2) (w.heap.size + 1) (L, false) := ⟨⟨a, n, c, qB.cell (i := 0) (by simp), ⟨h.by_.kept kA, h.nil, h.room, h.max⟩, fun hp x hx => by obtain ⟨b, off, e, hb, _⟩ := h.by_.at_ hp; rw [e] at hx; injection hx with hx; subst hx; exact ⟨by dsimp only; omega, by dsimp only; omega⟩⟩, qB.cell (i := 1) (by simp), qB.frozen 0, qB.frozen 1, by omega⟩
  have HD0 := Hid.mk' hD
  have HKA := Hid.mk' kA
  have HR0 := Hid.mk' R1
  clear h hu1 hu2 hu3 hu4 kA qB R0 R1 hD
  go_enter Try.func27, Try.ntmps27
  go_wp2_with (first
    | (have hgo := D3; clear hgo; go_at_call 47; refine (rnum_at D3.out 8 (by rfl) (by omega) HU4.out).mono ?_; rintro e w5 ⟨rfl, hD5, hk5⟩; clear D3)
    | (have hgo := D2; clear hgo; go_at_call 47; refine (rnum_at D2.out 1073741824 (by rfl) (by omega) HU3.out).mono ?_; rintro e w4 ⟨rfl, hD4, hk4⟩; have B4 := Hid.mk' ((B3.out.s1 (.int .u8 (cv : Int))).kept hk4 (by intro e; injection e with e; omega)); have y2 := B4.out.c2; have g2 := B4.out.f2; have D3 : Hid (Drd (w4.setCell ⟨w2.heap.size, 2, none⟩ (.int .i64 (ov : Int))) (w.heap.size + 2) (w.heap.size + 1) s3) := hD4.kept (dkept_set w4 w2.heap.size 2 _) (fun i e => by injection e with e; omega); clear D2)
    | (have hgo := D1; clear hgo; go_at_call 47; refine (rnum_at D1.out 3 (by rfl) (by omega) HU2.out).mono ?_; rintro e w3 ⟨rfl, hD3, hk3⟩; have B3 := Hid.mk' (B2.out.kept hk3 (by intro e; injection e with e; omega)); have y1 := B3.out.c1; have g1 := B3.out.f1; have D2 : Hid (Drd (w3.setCell ⟨w2.heap.size, 1, none⟩ (.int .u8 (cv : Int))) (w.heap.size + 2) (w.heap.size + 1) s2) := hD3.kept (dkept_set w3 w2.heap.size 1 _) (fun i e => by injection e with e; omega); clear D1)
    | (go_at_call 47; refine (rnum_at HD0.out 65535 (by rfl) (by omega) HU1.out).mono ?_; rintro e w2 ⟨rfl, hD2, hk2⟩; have hz2 := hk2.size; rw [hW] at hz2; have B2 := Hid.mk' (bx4_alloc w2 (.int .i64 (sv : Int)) (.int .u8 0) (.int .i64 0) (.slice none 0 0) 45); have D1 : Hid (Drd (w2.alloc (.cells #[.int .i64 (sv : Int), .int .u8 0, .int .i64 0, .slice none 0 0] 45)) (w.heap.size + 2) (w.heap.size + 1) s1) := hD2.kept (Kept.alloc w2 _ _ _ none) (fun i e => by cases e)))
  have hz3 := hk3.size
  have hz4 := hk4.size
  have hz5 := hk5.size
  have hbz : (w2.alloc (.cells #[.int .i64 (sv : Int), .int .u8 0, .int .i64 0, .slice none 0 0] 45)).heap.size = w2.heap.size + 1 := by simp
  have hbs : (w3.setCell ⟨w2.heap.size, 1, none⟩ (.int .u8 (cv : Int))).heap.size = w3.heap.size := by simp [World.setCell]
  have hbt : (w4.setCell ⟨w2.heap.size, 2, none⟩ (.int .i64 (ov : Int))).heap.size = w4.heap.size := by simp [World.setCell]
  rw [hbz] at hz3
  rw [hbs] at hz4
  rw [hbt] at hz5
  have B5 : Hid (Bx4 w5 w2.heap.size (.int .i64 (sv : Int)) (.int .u8 (cv : Int)) (.int .i64 (ov : Int)) (.slice none 0 0)) := (B4.out.s2 _).kept hk5 (by intro e; injection e with e; omega)
  have RR : Hid (Bx4 w5 w.heap.size (.int .i64 0) (.int .u8 0) (.int .i64 0) (.slice none 0 0)) := ((((((HR0.out.kept hk2 (by intro e; injection e with e; omega)).kept (Kept.alloc w2 _ _ (0, 0) none) (by simp)).kept hk3 (by intro e; injection e with e; omega)).kept (dkept_set w3 w2.heap.size 1 _) (by intro e; injection e with e; omega)).kept hk4 (by intro e; injection e with e; omega)).kept (dkept_set w4 w2.heap.size 2 _) (by intro e; injection e with e; omega)).kept hk5 (by intro e; injection e with e; omega)
  have K5 : Hid (Kept w w5 (some (w.heap.size + 1))) := kept_two (kept_two (kept_two (kept_two (kept_two (kept_two (kept_two (kept_two (a := w) (w := w) (r := some (w.heap.size + 1)) (r' := none) ⟨rfl, rfl, rfl, Nat.le_refl _, fun _ _ _ => rfl⟩ HKA.out (fun g e => by cases e)) hk2 (fun g e => .inl e)) (Kept.alloc w2 _ _ (0, 0) none) (fun g e => by cases e)) hk3 (fun g e => .inl e)) (dkept_set w3 w2.heap.size 1 (.int .u8 (cv : Int))) (fun g e => by injection e with e; exact .inr (by omega))) hk4 (fun g e => .inl e)) (dkept_set w4 w2.heap.size 2 (.int .i64 (ov : Int))) (fun g e => by injection e with e; exact .inr (by omega))) hk5 (fun g e => .inl e)
  have D5 := Hid.mk' hD5
  obtain ⟨G, hG⟩ : ∃ G, G = w2.heap.size := ⟨_, rfl⟩
  rw [← hG] at B5 ⊢
  have hG5 : G < w5.heap.size := by omega
  have hGw : w.heap.size + 2 ≤ G := by omega
  have hG0 : Hid (spD 70368744177664 mv t3 = ([] ++ (spD 70368744177664 (mv - 0) t3).1, (spD 70368744177664 (mv - 0) t3).2)) := Hid.mk' rfl
  clear hG hD2 hD3 hD4 hD5 hk2 hk3 hk4 hk5 hz2 hz3 hz4 hz5 B2 B3 B4 y1 g1 y2 g2 hbz hbs hbt HD0 HR0 HKA hW
  go_loopw [7] (fun iv wr => ∃ (k : Nat) (sp : List Int) (s4 : Rd) (a2 : Option Addr) (c2 : Nat), sp.length = k ∧ k ≤ mv ∧ iv = .int .i64 k ∧ Bx4 wr G (.int .i64 (sv : Int)) (.int .u8 (cv : Int)) (.int .i64 (ov : Int)) (.slice a2 k c2) ∧ OwL wr (G + 1) (.slice a2 k c2) sp ∧ Drd wr (w.heap.size + 2) (w.heap.size + 1) s4 ∧ Kept w wr (some (w.heap.size + 1)) ∧ Bx4 wr w.heap.size (.int .i64 0) (.int .u8 0) (.int .i64 0) (.slice none 0 0) ∧ G < wr.heap.size ∧ (∀ y ∈ sp, ldP y) ∧ spD 70368744177664 mv t3 = (sp ++ (spD 70368744177664 (mv - k) s4).1, (spD 70368744177664 (mv - k) s4).2)) (fun iv _ => mv - (intOf iv).toNat)
  case atStart => exact ⟨0, [], t3, none, 0, rfl, Nat.zero_le _, rfl, B5.out, OwL.nil _ _, D5.out, K5.out, RR.out, hG5, by simp, hG0.out⟩
  case round =>
    obtain ⟨k, sp, ⟨L4, bd4⟩, a2, c2, hkl, hkm, rfl, hB, hO, hDr4, hK4, hSt, hGz, hsp, hGG⟩ := hrel
    clear B5 D5 K5 RR hG5 hG0
    have HB := Hid.mk' hB
    have HO := Hid.mk' hO
    have HD4 := Hid.mk' hDr4
    have HK4 := Hid.mk' hK4
    have HST := Hid.mk' hSt
    have HSP := Hid.mk' hsp
    have HGG := Hid.mk' hGG
    have HKL := Hid.mk' hkl
    have hc4 := hDr4.c1
    have hb0 := hB.c0
    have hb1 := hB.c1
    have hb2 := hB.c2
    have hb3 := hB.c3
    clear hB hO hDr4 hK4 hSt hsp hGG hkl
    by_cases hgo : k < mv ∧ bd4 = false
    · obtain ⟨hk5, rfl⟩ := hgo
      obtain ⟨⟨yv, t5⟩, hu5⟩ : ∃ u, dnM 70368744177664 (L4, false) = u := ⟨_, rfl⟩
      have hyv : yv ≤ 70368744177664 := by have := dnM_le 70368744177664 (L4, false); rw [hu5] at this; exact this
      have HU5 := Hid.mk' hu5
      have HDd : Hid (Drd wr.drew (w.heap.size + 2) (w.heap.size + 1) (L4, false)) := HD4.out.kept (Kept.drew wr none) (fun g e => by cases e)
      have hki : (k : Int) < (mv : Int) := by omega
      have hb2d : wr.drew.cell? ⟨G, 3, none⟩ = some (.slice a2 k c2) := (HB.out.kept (Kept.drew wr none) (by simp)).c3
      have hzw4 := HK4.out.size
      clear hu5
      go_wp2
      refine wp_region_held_drew (S := fun _ => True) (by kernel_rfl) trivial (fun _ => ?_)
      refine held_take (i := 0) (v := ?v1) rfl rfl (by kernel_rfl) (by kernel_rfl) (by kernel_rfl) (fun _ _ _ h => h) (Or.inl ⟨by rfl, ?hy1⟩) trivial ?rest1
      case hy1 => first | (intro w hSw; go_simp; done) | (intro w hSw; go_simp; with_reducible rfl)
      try simp only [List.setIfInBounds_toArray, List.set_cons_zero, List.set_cons_succ]
      refine held_take (i := 2) (v := ?v2) rfl rfl (by kernel_rfl) (by kernel_rfl) (by kernel_rfl) (fun _ _ _ h => h) (Or.inl ⟨by rfl, ?hy2⟩) trivial ?rest2
      case hy2 => first | (intro w hSw; go_simp; done) | (intro w hSw; go_simp; with_reducible rfl)
      try simp only [List.setIfInBounds_toArray, List.set_cons_zero, List.set_cons_succ]
      refine wpAnyH_ready (rs := [1, 3]) (by kernel_rfl) (by simp) ?_
      refine AllReadyH.cons rfl (fun K hK => ?b1) (AllReadyH.cons rfl (fun K hK => ?b3) AllReadyH.nil)
      case b1 =>
        go_simp
        refine hK.out _ _ trivial (fun _ => ?_)
        clear hK K
        refine wpAnyH_ready (rs := [3]) (by kernel_rfl) (by simp) ?_
        refine AllReadyH.cons rfl (fun K hK => ?_) AllReadyH.nil
        go_simp
        go_wp2_with (go_at_call 47; refine (rnumL_at HDd.out 70368744177664 (by rfl) (by omega) HU5.out).mono ?_; rintro e w6 ⟨rfl, hD6, hk6⟩)
        refine hK.out _ _ trivial (fun _ => ?_)
        clear hK K
        have B6 := Hid.mk' ((HB.out.kept (Kept.drew wr none) (by simp)).kept hk6 (by intro e; injection e with e; omega))
        have O6 := Hid.mk' ((HO.out.kept (Kept.drew wr none)).keptR hk6 (fun g e ec => by have := (HO.out.lt g e).1; injection ec with ec; omega))
        have hz6 : wr.heap.size ≤ w6.heap.size := hk6.size
        obtain ⟨v7, w7, hr7, hO7, hk7, hv7⟩ := O6.out.grow (yv : Int) (by have := HKL.out; omega) (by omega)
        obtain ⟨a5, c5, hv5, _, _⟩ := lie_own (by omega) hO7
        have hln : (sp ++ [(yv : Int)]).length = k + 1 := by rw [List.length_append, HKL.out]; rfl
        rw [hln] at hv5
        subst hv5
        have HR := Hid.mk' hr7
        have hne7 : (Value.slice a2 k c2).ownBlock ≠ some G := fun e => by have := (HO.out.lt G e).1; omega
        have B7 := Hid.mk' (B6.out.kept hk7 hne7)
        have D7 : Hid (Drd w7 (w.heap.size + 2) (w.heap.size + 1) t5) := hD6.kept hk7 (fun g e => by have := (HO.out.lt g e).1; omega)
        have K7 : Hid (Kept w w7 (some (w.heap.size + 1))) := kept_two (kept_two (kept_two HK4.out (Kept.drew wr (some (w.heap.size + 1))) (fun g e => .inl e)) hk6 (fun g e => .inl e)) hk7 (fun g e => by have := (HO.out.lt g e).1; exact .inr (by omega))
        have ST7 : Hid (Bx4 w7 w.heap.size (.int .i64 0) (.int .u8 0) (.int .i64 0) (.slice none 0 0)) := ((HST.out.kept (Kept.drew wr none) (by simp)).kept hk6 (by intro e; injection e with e; omega)).kept hk7 (fun e => by have := (HO.out.lt _ e).1; omega)
        have OO7 := Hid.mk' hO7
        have b62 := B6.out.c3
        have b6a : (w6.alloc (.cells #[.int .i64 (yv : Int)] 2)).cell? ⟨G, 3, none⟩ = some (.slice a2 k c2) := (B6.out.kept (Kept.alloc w6 _ _ _ none) (by simp)).c3
        have b72 := B7.out.c3
        have f72 := B7.out.f3
        have hz7 := hk7.size
        clear hr7 hO7 hk7 hv7 hk6 hD6 hln hne7
        refine wpAnyH_ready (rs := [4]) (by kernel_rfl) (by simp) ?_
        refine AllReadyH.cons rfl (fun K hK => ?_) AllReadyH.nil
        go_simp
        refine hK.out _ _ trivial (fun _ => ?_)
        clear hK K
        refine wpAnyH_ready (rs := [5]) (by kernel_rfl) (by simp) ?_
        refine AllReadyH.cons rfl (fun K hK => ?_) AllReadyH.nil
        rw [if_pos (by rfl)]
        refine wp_app _ _ _ (by rfl) (by rfl) (by rfl) HR.out ?_
        try simp only [Act.put, List.setIfInBounds_toArray, List.set_cons_zero, List.set_cons_succ]
        refine hK.out _ _ trivial (fun _ => ?_)
        clear hK K
        refine held_take (i := 6) (v := ?v3) rfl rfl (by kernel_rfl) (by kernel_rfl) (by kernel_rfl) (fun _ _ _ h => h) (Or.inl ⟨by rfl, ?hy3⟩) trivial ?rest3
        case hy3 => first | (intro w hSw; go_simp; done) | (intro w hSw; go_simp; with_reducible rfl)
        try simp only [List.setIfInBounds_toArray, List.set_cons_zero, List.set_cons_succ]
        refine wpAnyH_ready (rs := [7]) (by kernel_rfl) (by simp) ?_
        refine AllReadyH.cons rfl (fun K hK => ?_) AllReadyH.nil
        go_simp
        refine hK.out _ _ trivial (fun _ => ?_)
        clear hK K
        refine wpAnyH_done (by kernel_rfl) ?_ _
        clear b62 b6a b72 f72 B6 O6 HR
        go_wp2
        go_roundw
        case rel => exact ⟨k + 1, sp ++ [(yv : Int)], t5, a5, c5, by rw [List.length_append, HKL.out]; rfl, by omega, by go_num, B7.out.s3 _, OO7.out.keptR (dkept_set w7 G 3 _) (fun g e ec => by have := (OO7.out.lt g e).1; injection ec with ec; omega), D7.out.kept (dkept_set w7 G 3 _) (fun g e => by injection e with e; omega), kept_two K7.out (dkept_set w7 G 3 _) (fun g e => by injection e with e; exact .inr (by omega)), ST7.out.kept (dkept_set w7 G 3 _) (by intro e; injection e with e; omega), by simp [World.setCell]; omega, fun y hy => by rcases List.mem_append.1 hy with q | q; (exact HSP.out y q); (simp at q; subst q; unfold ldP; omega), sp_stepL HGG.out hk5 HU5.out⟩
        case measure => simp [intOf]; omega
      case b3 =>
        go_simp
        go_wp2_with (go_at_call 47; refine (rnumL_at HDd.out 70368744177664 (by rfl) (by omega) HU5.out).mono ?_; rintro e w6 ⟨rfl, hD6, hk6⟩)
        refine hK.out _ _ trivial (fun _ => ?_)
        clear hK K
        have B6 := Hid.mk' ((HB.out.kept (Kept.drew wr none) (by simp)).kept hk6 (by intro e; injection e with e; omega))
        have O6 := Hid.mk' ((HO.out.kept (Kept.drew wr none)).keptR hk6 (fun g e ec => by have := (HO.out.lt g e).1; injection ec with ec; omega))
        have hz6 : wr.heap.size ≤ w6.heap.size := hk6.size
        obtain ⟨v7, w7, hr7, hO7, hk7, hv7⟩ := O6.out.grow (yv : Int) (by have := HKL.out; omega) (by omega)
        obtain ⟨a5, c5, hv5, _, _⟩ := lie_own (by omega) hO7
        have hln : (sp ++ [(yv : Int)]).length = k + 1 := by rw [List.length_append, HKL.out]; rfl
        rw [hln] at hv5
        subst hv5
        have HR := Hid.mk' hr7
        have hne7 : (Value.slice a2 k c2).ownBlock ≠ some G := fun e => by have := (HO.out.lt G e).1; omega
        have B7 := Hid.mk' (B6.out.kept hk7 hne7)
        have D7 : Hid (Drd w7 (w.heap.size + 2) (w.heap.size + 1) t5) := hD6.kept hk7 (fun g e => by have := (HO.out.lt g e).1; omega)
        have K7 : Hid (Kept w w7 (some (w.heap.size + 1))) := kept_two (kept_two (kept_two HK4.out (Kept.drew wr (some (w.heap.size + 1))) (fun g e => .inl e)) hk6 (fun g e => .inl e)) hk7 (fun g e => by have := (HO.out.lt g e).1; exact .inr (by omega))
        have ST7 : Hid (Bx4 w7 w.heap.size (.int .i64 0) (.int .u8 0) (.int .i64 0) (.slice none 0 0)) := ((HST.out.kept (Kept.drew wr none) (by simp)).kept hk6 (by intro e; injection e with e; omega)).kept hk7 (fun e => by have := (HO.out.lt _ e).1; omega)
        have OO7 := Hid.mk' hO7
        have b62 := B6.out.c3
        have b6a : (w6.alloc (.cells #[.int .i64 (yv : Int)] 2)).cell? ⟨G, 3, none⟩ = some (.slice a2 k c2) := (B6.out.kept (Kept.alloc w6 _ _ _ none) (by simp)).c3
        have b72 := B7.out.c3
        have f72 := B7.out.f3
        have hz7 := hk7.size
        clear hr7 hO7 hk7 hv7 hk6 hD6 hln hne7
        refine wpAnyH_ready (rs := [1, 4]) (by kernel_rfl) (by simp) ?_
        refine AllReadyH.cons rfl (fun K hK => ?d1) (AllReadyH.cons rfl (fun K hK => ?d4) AllReadyH.nil)
        case d1 =>
          go_simp
          refine hK.out _ _ trivial (fun _ => ?_)
          clear hK K
          refine wpAnyH_ready (rs := [4]) (by kernel_rfl) (by simp) ?_
          refine AllReadyH.cons rfl (fun K hK => ?_) AllReadyH.nil
          go_simp
          refine hK.out _ _ trivial (fun _ => ?_)
          clear hK K
          refine wpAnyH_ready (rs := [5]) (by kernel_rfl) (by simp) ?_
          refine AllReadyH.cons rfl (fun K hK => ?_) AllReadyH.nil
          rw [if_pos (by rfl)]
          refine wp_app _ _ _ (by rfl) (by rfl) (by rfl) HR.out ?_
          try simp only [Act.put, List.setIfInBounds_toArray, List.set_cons_zero, List.set_cons_succ]
          refine hK.out _ _ trivial (fun _ => ?_)
          clear hK K
          refine held_take (i := 6) (v := ?v21) rfl rfl (by kernel_rfl) (by kernel_rfl) (by kernel_rfl) (fun _ _ _ h => h) (Or.inl ⟨by rfl, ?hy21⟩) trivial ?rest21
          case hy21 => first | (intro w hSw; go_simp; done) | (intro w hSw; go_simp; with_reducible rfl)
          try simp only [List.setIfInBounds_toArray, List.set_cons_zero, List.set_cons_succ]
          refine wpAnyH_ready (rs := [7]) (by kernel_rfl) (by simp) ?_
          refine AllReadyH.cons rfl (fun K hK => ?_) AllReadyH.nil
          go_simp
          refine hK.out _ _ trivial (fun _ => ?_)
          clear hK K
          refine wpAnyH_done (by kernel_rfl) ?_ _
          clear b62 b6a b72 f72 B6 O6 HR
          go_wp2
          go_roundw
          case rel => exact ⟨k + 1, sp ++ [(yv : Int)], t5, a5, c5, by rw [List.length_append, HKL.out]; rfl, by omega, by go_num, B7.out.s3 _, OO7.out.keptR (dkept_set w7 G 3 _) (fun g e ec => by have := (OO7.out.lt g e).1; injection ec with ec; omega), D7.out.kept (dkept_set w7 G 3 _) (fun g e => by injection e with e; omega), kept_two K7.out (dkept_set w7 G 3 _) (fun g e => by injection e with e; exact .inr (by omega)), ST7.out.kept (dkept_set w7 G 3 _) (by intro e; injection e with e; omega), by simp [World.setCell]; omega, fun y hy => by rcases List.mem_append.1 hy with q | q; (exact HSP.out y q); (simp at q; subst q; unfold ldP; omega), sp_stepL HGG.out hk5 HU5.out⟩
          case measure => simp [intOf]; omega
        case d4 =>
          go_simp
          refine hK.out _ _ trivial (fun _ => ?_)
          clear hK K
          refine wpAnyH_ready (rs := [1]) (by kernel_rfl) (by simp) ?_
          refine AllReadyH.cons rfl (fun K hK => ?_) AllReadyH.nil
          go_simp
          refine hK.out _ _ trivial (fun _ => ?_)
          clear hK K
          refine wpAnyH_ready (rs := [5]) (by kernel_rfl) (by simp) ?_
          refine AllReadyH.cons rfl (fun K hK => ?_) AllReadyH.nil
          rw [if_pos (by rfl)]
          refine wp_app _ _ _ (by rfl) (by rfl) (by rfl) HR.out ?_
          try simp only [Act.put, List.setIfInBounds_toArray, List.set_cons_zero, List.set_cons_succ]
          refine hK.out _ _ trivial (fun _ => ?_)
          clear hK K
          refine held_take (i := 6) (v := ?v22) rfl rfl (by kernel_rfl) (by kernel_rfl) (by kernel_rfl) (fun _ _ _ h => h) (Or.inl ⟨by rfl, ?hy22⟩) trivial ?rest22
          case hy22 => first | (intro w hSw; go_simp; done) | (intro w hSw; go_simp; with_reducible rfl)
          try simp only [List.setIfInBounds_toArray, List.set_cons_zero, List.set_cons_succ]
          refine wpAnyH_ready (rs := [7]) (by kernel_rfl) (by simp) ?_
          refine AllReadyH.cons rfl (fun K hK => ?_) AllReadyH.nil
          go_simp
          refine hK.out _ _ trivial (fun _ => ?_)
          clear hK K
          refine wpAnyH_done (by kernel_rfl) ?_ _
          clear b62 b6a b72 f72 B6 O6 HR
          go_wp2
          go_roundw
          case rel => exact ⟨k + 1, sp ++ [(yv : Int)], t5, a5, c5, by rw [List.length_append, HKL.out]; rfl, by omega, by go_num, B7.out.s3 _, OO7.out.keptR (dkept_set w7 G 3 _) (fun g e ec => by have := (OO7.out.lt g e).1; injection ec with ec; omega), D7.out.kept (dkept_set w7 G 3 _) (fun g e => by injection e with e; omega), kept_two K7.out (dkept_set w7 G 3 _) (fun g e => by injection e with e; exact .inr (by omega)), ST7.out.kept (dkept_set w7 G 3 _) (by intro e; injection e with e; omega), by simp [World.setCell]; omega, fun y hy => by rcases List.mem_append.1 hy with q | q; (exact HSP.out y q); (simp at q; subst q; unfold ldP; omega), sp_stepL HGG.out hk5 HU5.out⟩
          case measure => simp [intOf]; omega

    · have hex : (¬ k < mv ∧ bd4 = false) ∨ bd4 = true := by
        cases bd4 <;> simp at hgo ⊢ <;> omega
      have KN := Hid.mk' (kept_newR HK4.out (by omega))
      clear hgo
      cases bd4 with
      | true =>
        have hno : ofrB L = false := by
          have e : (drM (L, false)).2.2 = true := by rw [HDC.out]; dsimp only; rw [HGG.out]; dsimp only; rw [spD_bad rfl]
          cases hq : ofrB L with
          | false => rfl
          | true => exact absurd ((dr_iff HLT.out).1 hq).1 (by rw [e]; decide)
        have HNO := Hid.mk' hno
        have KF := Hid.mk' (kept_rowL KN.out (kept_set4 wr w.heap.size (.int .i64 0) (.int .u8 0) (.int .i64 0) (.slice none 0 0)) (fun g e => by injection e with e; omega))
        have r0 := HST.out.c0
        have r1 := HST.out.c1
        have r2 := HST.out.c2
        have r3 := HST.out.c3
        have z0 := HST.out.f0
        have z1 := HST.out.f1
        have z2 := HST.out.f2
        have z3 := HST.out.f3
        clear hno hex
        by_cases hk : k < mv
        · have hki : (k : Int) < (mv : Int) := by omega
          go_wp2
          refine bodyPost_ret (v := .tuple #[rpV rp0 none 0, .int .i64 8]) (by simp [results, Try.results27, go_sem, q0, *]; done) rfl ?_
          exact OfrP.no HNO.out KF.out
        · have hki : ¬ (k : Int) < (mv : Int) := by omega
          go_wp2
          refine bodyPost_ret (v := .tuple #[rpV rp0 none 0, .int .i64 8]) (by simp [results, Try.results27, go_sem, q0, *]; done) rfl ?_
          exact OfrP.no HNO.out KF.out
      | false =>
        have hkm2 : k = mv := by rcases hex with ⟨q, _⟩ | q; omega; cases q
        have HR : Hid (drM (L, false) = (⟨(sv : Int), cv, (ov : Int), sp⟩, (L4, false))) := Hid.mk' (by rw [HDC.out]; have := HGG.out; rw [show mv - k = 0 by omega] at this; rw [this]; simp [spD])
        obtain ⟨a3, c3, e3, hI3, hNB⟩ := HO.out.ints (fun x hx => by have := HSP.out x hx; unfold ldP at this; omega)
        injection e3 with e4 e5 e6
        subst e4 e6
        clear e5 hex
        have hi64 : ∀ x : Nat, x ≤ 1073741824 → i64B (x : Int) := fun x hx => by unfold i64B; omega
        have HCK : Hid (Rok wr ⟨(sv : Int), cv, (ov : Int), sp⟩ a2 c2) := Hid.mk' ⟨hI3, by dsimp only; omega, hi64 _ (by omega), hi64 _ (by omega)⟩
        have NB := Hid.mk' (fun (x : Addr) (hx : a2 = some x) => (hNB x hx).1)
        clear hNB
        clear hI3 hi64
        have hki : ¬ (k : Int) < (mv : Int) := by omega
        have hkk := HKL.out
        clear hkm2
        subst hkk
        by_cases hq : ofrB L = true
        · have hs := dr_same HLT.out hq
          have h2 := (dr_iff HLT.out).1 hq
          rw [HR.out] at hs h2
          dsimp only at hs h2
          have HS := Hid.mk' hs
          have HE := Hid.mk' h2.2.1
          have HM := Hid.mk' h2.2.2
          have HQ := Hid.mk' hq
          clear hs h2 hq
          go_wp2_with (go_at_call 24; have HW := Hid.mk' (rrep20_any ⟨(sv : Int), cv, (ov : Int), sp⟩ HCK.out); rw [HE.out, HM.out] at HW; refine HW.out.mono ?_; rintro e w8 ⟨a8, c8, rfl, hm8, hk8⟩; have KN8 := Hid.mk' (KN.out.tr hk8); have t1 := run_text (hm8.by HLT.out) c8; have t2 := run_text (HC.out.keptL KN8.out).by_ c; have RX := Hid.mk' (HST.out.kept hk8 (by simp)); have BX := Hid.mk' (HB.out.kept hk8 (by simp)); have CK8 := Hid.mk' (HCK.out.kept hk8); have r0 := RX.out.c0; have r1 := RX.out.c1; have r2 := RX.out.c2; have r3 := RX.out.c3; have z0 := RX.out.f0; have z1 := RX.out.f1; have z2 := RX.out.f2; have z3 := RX.out.f3; have g0 := BX.out.c0; have g1 := BX.out.c1; have g2 := BX.out.c2; have g3 := BX.out.c3; clear hm8 hk8 HW)
          refine bodyPost_ret (v := .tuple #[rpV ⟨(sv : Int), cv, (ov : Int), sp⟩ a2 c2, .int .i64 0]) (by simp [results, Try.results27, go_sem, *]; done) rfl ?_
          have hk4 := kept_set4 w8 w.heap.size (.int .i64 (sv : Int)) (.int .u8 (cv : Int)) (.int .i64 (ov : Int)) (.slice a2 sp.length c2)
          have KF := kept_rowL KN8.out hk4 (fun g e => by injection e with e; omega)
          exact OfrP.yes HQ.out HS.out.symm ⟨CK8.out.ints.keptR hk4 (fun _ x hx e => by have := NB.out x hx; injection e with e; omega), CK8.out.mode, CK8.out.tick, CK8.out.site⟩ KF
        · have HNO : Hid (ofrB L = false) := Hid.mk' (by simpa using hq)
          have hno : ¬ (rpE ⟨(sv : Int), cv, (ov : Int), sp⟩ = 0 ∧ rpL ⟨(sv : Int), cv, (ov : Int), sp⟩ = L) := fun q => hq ((dr_iff HLT.out).2 (by rw [HR.out]; exact ⟨rfl, q.1, q.2⟩))
          clear hq
          by_cases hE : rpE ⟨(sv : Int), cv, (ov : Int), sp⟩ = 0
          · have hM : ¬ rpL ⟨(sv : Int), cv, (ov : Int), sp⟩ = L := fun q => hno ⟨hE, q⟩
            have HE := Hid.mk' hE
            have HM := Hid.mk' hM
            clear hE hM hno
            go_wp2_with (go_at_call 24; have HW := Hid.mk' (rrep20_any ⟨(sv : Int), cv, (ov : Int), sp⟩ HCK.out); rw [HE.out] at HW; refine HW.out.mono ?_; rintro e w8 ⟨a8, c8, rfl, hm8, hk8⟩; have KN8 := Hid.mk' (KN.out.tr hk8); have t1 := run_text (hm8.by rp_ltP) c8; have t2 := run_text (HC.out.keptL KN8.out).by_ c; have tq := textOf_eq (rp_ltP (r := ⟨(sv : Int), cv, (ov : Int), sp⟩)) HLT.out; rw [decide_eq_false HM.out] at tq; have RX := Hid.mk' (HST.out.kept hk8 (by simp)); have r0 := RX.out.c0; have r1 := RX.out.c1; have r2 := RX.out.c2; have r3 := RX.out.c3; have z0 := RX.out.f0; have z1 := RX.out.f1; have z2 := RX.out.f2; have z3 := RX.out.f3; clear hm8 hk8 HW)
            refine bodyPost_ret (v := .tuple #[rpV rp0 none 0, .int .i64 8]) (by simp [results, Try.results27, go_sem, q0, *]; done) rfl ?_
            exact OfrP.no HNO.out (kept_rowL KN8.out (kept_set4 w8 w.heap.size (.int .i64 0) (.int .u8 0) (.int .i64 0) (.slice none 0 0)) (fun g e => by injection e with e; omega))
          · have hne : ((rpE ⟨(sv : Int), cv, (ov : Int), sp⟩) != 0) = true := by simpa using hE
            clear hE hno
            go_wp2_with (go_at_call 24; have HW := Hid.mk' (rrep20_any ⟨(sv : Int), cv, (ov : Int), sp⟩ HCK.out); refine HW.out.mono ?_; rintro e w8 ⟨a8, c8, rfl, hm8, hk8⟩; have KN8 := Hid.mk' (KN.out.tr hk8); have RX := Hid.mk' (HST.out.kept hk8 (by simp)); have r0 := RX.out.c0; have r1 := RX.out.c1; have r2 := RX.out.c2; have r3 := RX.out.c3; have z0 := RX.out.f0; have z1 := RX.out.f1; have z2 := RX.out.f2; have z3 := RX.out.f3; clear hm8 hk8 HW)
            refine bodyPost_ret (v := .tuple #[rpV rp0 none 0, .int .i64 8]) (by simp [results, Try.results27, go_sem, q0, *]; done) rfl ?_
            exact OfrP.no HNO.out (kept_rowL KN8.out (kept_set4 w8 w.heap.size (.int .i64 0) (.int .u8 0) (.int .i64 0) (.slice none 0 0)) (fun g e => by injection e with e; omega))

end Go.Proofs.Ytnmfigcemknjbaa
