/-
  Of the text RefO2: what this stage needs (culled by a program).
-/
import Derived.Test.YtlabjamkaebnjaaMathsJ
import Derived.Test.YtlabjamkaebnjaaSPlGJ
namespace Go.Proofs.Ytlabjamkaebnjaa
open Go.RowKit Go.Lib Go.Deep
set_option linter.unusedVariables false
set_option linter.unusedSimpArgs false

/-- What the document's reader of plans answers. -/
structure PlsP (w : World) (H b : Nat) (s : Rd) (v : Value) (w' : World) (l : List Pl) (s' : Rd) : Prop where
  pl : PlS w' w.heap.size v l
  rd : Drd w' H b s'
  kept : Kept w w' (some b)
  many : l.length ≤ 8
  typ : ∀ p ∈ l, tickP p.cycle ∧ tickP p.offset
  fwd : ∀ x T, DPok x → s = (smlI (plansI x) ++ T, false) → l = x ∧ s' = (T, false)
def PlsR (w : World) (H b : Nat) (s : Rd) (e : Ending) (w' : World) : Prop := ∃ v l s', e = .returned v ∧ PlsP w H b s v w' l s'
set_option maxRecDepth 100000 in
set_option maxHeartbeats 4000000 in
theorem rplans_any {w : World} {H b : Nat} {s : Rd} (h : Drd w H b s) (hH : H ≤ w.heap.size) : Calls Try.prog 78 #[.pointer (some ⟨b, 0, none⟩)] w fun e w' => PlsR w H b s e w' := by
  have HD := Hid.mk' h
  have hbl := h.lt
  obtain ⟨⟨n, s1⟩, hu⟩ : ∃ u, dnM 8 s = u := ⟨_, rfl⟩
  have hn8 : n ≤ 8 := by have := dnM_le 8 s; rw [hu] at this; exact this
  have HU := Hid.mk' hu
  have HG0 := Hid.mk' (DG.start hu)
  clear h hu
  go_enter Try.func78, Try.ntmps78
  go_wp2_with (go_at_call 83; refine (rnum_at HD.out 8 (by rfl) (by omega) HU.out).mono ?_; rintro e w1 ⟨rfl, hD1, hk1⟩)
  go_loopw [3, 5] (fun lv iv wr => ∃ (i : Nat) (l : List Pl) (s' : Rd) (la : Option Addr) (lc : Nat), l.length = i ∧ i ≤ n ∧ iv = .int .i64 i ∧ lv = .slice la i lc ∧ PlS wr w.heap.size (.slice la i lc) l ∧ Drd wr H b s' ∧ Kept w wr (some b) ∧ (∀ p ∈ l, tickP p.cycle ∧ tickP p.offset) ∧ DG s n i l s') (fun _ iv _ => n - (intOf iv).toNat)
  case atStart => exact ⟨0, [], s1, none, 0, rfl, Nat.zero_le _, rfl, rfl, PlS.nil _ _, hD1, hk1, by simp, HG0.out⟩
  case round =>
    obtain ⟨i, l, ⟨L', bd⟩, la, lc, hil, hin, rfl, rfl, hPl, hDr, hK, hty, hG⟩ := hrel
    clear hD1 hk1
    have HPl := Hid.mk' hPl
    have HDr := Hid.mk' hDr
    have HK := Hid.mk' hK
    have HTy := Hid.mk' hty
    have HG := Hid.mk' hG
    have HIL := Hid.mk' hil
    have hc1 := hDr.c1
    clear hPl hDr hK hty hG hil
    by_cases hlt : i < n
    case neg =>
      have hii : ¬ (i : Int) < (n : Int) := by omega
      go_wp2
      go_ret
      exact ⟨_, l, _, rfl, HPl.out, HDr.out, HK.out, by have := HIL.out; omega, HTy.out, DG.out HG.out (.inl (by omega))⟩
    case pos =>
      have hii : (i : Int) < (n : Int) := by omega
      cases bd with
      | true =>
        go_wp2
        go_ret
        exact ⟨_, l, _, rfl, HPl.out, HDr.out, HK.out, by have := HIL.out; omega, HTy.out, DG.out HG.out (.inr rfl)⟩
      | false =>
        obtain ⟨⟨cv, t1⟩, hu1⟩ : ∃ u, dnM 1048576 (L', false) = u := ⟨_, rfl⟩
        obtain ⟨⟨ov, t2⟩, hu2⟩ : ∃ u, dnM 1048576 t1 = u := ⟨_, rfl⟩
        obtain ⟨⟨mv, t3⟩, hu3⟩ : ∃ u, dnM 8 t2 = u := ⟨_, rfl⟩
        have hcv : cv ≤ 1048576 := by have := dnM_le 1048576 (L', false); rw [hu1] at this; exact this
        have hov : ov ≤ 1048576 := by have := dnM_le 1048576 t1; rw [hu2] at this; exact this
        have hmv : mv ≤ 8 := by have := dnM_le 8 t2; rw [hu3] at this; exact this
        have HU1 := Hid.mk' hu1
        have HU2 := Hid.mk' hu2
        have HU3 := Hid.mk' hu3
        have HG2 := Hid.mk' (DG.step HG.out hlt hu1 hu2 hu3)
        have hbw : b < w.heap.size := by omega
        clear hu1 hu2 hu3
        go_wp2_with (first
          | (have hgo := D2; clear hgo; go_at_call 83; refine (rnum_at D2.out 8 (by rfl) (by omega) HU3.out).mono ?_; rintro e w4 ⟨rfl, hD4, hk4⟩)
          | (have hgo := D1; clear hgo; go_at_call 83; refine (rnum_at D1.out 1048576 (by rfl) (by omega) HU2.out).mono ?_; rintro e w3 ⟨rfl, hD3, hk3⟩; have B3 := Hid.mk' (B2.out.kept hk3 (by intro e; injection e with e; omega)); have y1 := B3.out.c1; have g1 := B3.out.f1; have D2 : Hid (Drd (w3.setCell ⟨w2.heap.size, 1, none⟩ (.int .i64 (ov : Int))) H b t2) := hD3.kept (dkept_set w3 w2.heap.size 1 _) (fun i e => by injection e with e; omega))
          | (go_at_call 83; refine (rnum_at HDr.out 1048576 (by rfl) (by omega) HU1.out).mono ?_; rintro e w2 ⟨rfl, hD2, hk2⟩; have hz2 := hk2.size; have hzw := HK.out.size; have B2 := Hid.mk' (bx3_alloc w2 (.int .i64 (cv : Int)) (.int .i64 0) (.slice none 0 0) 63); have D1 : Hid (Drd (w2.alloc (.cells #[.int .i64 (cv : Int), .int .i64 0, .slice none 0 0] 63)) H b t1) := hD2.kept (Kept.alloc w2 _ _ _ none) (fun i e => by cases e)))
        have hz3 := hk3.size
        have hz4 := hk4.size
        have hbz : (w2.alloc (.cells #[.int .i64 (cv : Int), .int .i64 0, .slice none 0 0] 63)).heap.size = w2.heap.size + 1 := by simp
        have hbs : (w3.setCell ⟨w2.heap.size, 1, none⟩ (.int .i64 (ov : Int))).heap.size = w3.heap.size := by simp [World.setCell]
        rw [hbz] at hz3
        rw [hbs] at hz4
        have B4 : Hid (Bx3 w4 w2.heap.size (.int .i64 (cv : Int)) (.int .i64 (ov : Int)) (.slice none 0 0)) := (B3.out.s1 _).kept hk4 (by intro e; injection e with e; omega)
        have hka : Kept w2 w3 (some b) := kept_two ((Kept.alloc w2 _ _ _ (some b))) hk3 (fun g e => .inl e)
        have hkb : Kept w2 w4 (some b) := kept_two (kept_two hka (dkept_set w3 w2.heap.size 1 (.int .i64 (ov : Int))) (fun g e => by injection e with e; exact .inr (by omega))) hk4 (fun g e => .inl e)
        have K4 : Hid (Kept w w4 (some b)) := kept_two (kept_two HK.out hk2 (fun g e => .inl e)) hkb (fun g e => .inl e)
        have ST4 : Hid (Stay w.heap.size wr w4) := (((Stay.refl _ _).step hk2 (fun g e => by injection e with e; exact .inl (by omega))).step hkb (fun g e => by injection e with e; exact .inl (by omega)))
        have D4 := Hid.mk' hD4
        obtain ⟨G, hG⟩ : ∃ G, G = w2.heap.size := ⟨_, rfl⟩
        rw [← hG] at B4 ⊢
        have hGw : wr.heap.size ≤ G := by omega
        have hG4 : G < w4.heap.size := by omega
        clear hG hD2 hD3 hD4 hk2 hk3 hk4 hka hkb B2 B3 D1 D2 y1 g1 hbz hbs
        obtain ⟨wo, hwo⟩ : ∃ wo, wo = wr := ⟨_, rfl⟩
        subst hwo
        go_loopw [8] (fun iv wr => ∃ (k : Nat) (sp : List Int) (s4 : Rd) (a2 : Option Addr) (c2 : Nat), sp.length = k ∧ k ≤ mv ∧ iv = .int .i64 k ∧ Bx3 wr G (.int .i64 (cv : Int)) (.int .i64 (ov : Int)) (.slice a2 k c2) ∧ OwI wr (G + 1) (.slice a2 k c2) sp ∧ Drd wr H b s4 ∧ Kept w wr (some b) ∧ Stay w.heap.size wo wr ∧ G < wr.heap.size ∧ (∀ y ∈ sp, tickP y) ∧ DG2 s i cv ov mv k sp s4) (fun iv _ => mv - (intOf iv).toNat)
        case atStart => exact ⟨0, [], t3, none, 0, rfl, Nat.zero_le _, rfl, B4.out, OwI.nil _ _, D4.out, K4.out, ST4.out, hG4, by simp, HG2.out⟩
        case round =>
          obtain ⟨k, sp, ⟨L4, bd4⟩, a2, c2, hkl, hkm, rfl, hB, hO, hDr4, hK4, hSt, hGz, hsp, hGG⟩ := hrel
          clear B4 D4 K4 ST4 hG4
          have HB := Hid.mk' hB
          have HO := Hid.mk' hO
          have HD4 := Hid.mk' hDr4
          have HK4 := Hid.mk' hK4
          have HST := Hid.mk' hSt
          have HSP := Hid.mk' hsp
          have HGG := Hid.mk' hGG
          have HKL := Hid.mk' hkl
          have hc4 := hDr4.c1
          have hb0 := hB.c0
          have hb1 := hB.c1
          have hb2 := hB.c2
          clear hB hO hDr4 hK4 hSt hsp hGG hkl hc1
          by_cases hgo : k < mv ∧ bd4 = false
          · obtain ⟨hk5, rfl⟩ := hgo
            obtain ⟨⟨yv, t5⟩, hu5⟩ : ∃ u, dnM 1048576 (L4, false) = u := ⟨_, rfl⟩
            have hyv : yv ≤ 1048576 := by have := dnM_le 1048576 (L4, false); rw [hu5] at this; exact this
            have HU5 := Hid.mk' hu5
            have HDd : Hid (Drd wr.drew H b (L4, false)) := HD4.out.kept (Kept.drew wr none) (fun g e => by cases e)
            have hki : (k : Int) < (mv : Int) := by omega
            have hb2d : wr.drew.cell? ⟨G, 2, none⟩ = some (.slice a2 k c2) := (HB.out.kept (Kept.drew wr none) (by simp)).c2
            have hzw4 := HK4.out.size
            clear hu5
            go_wp2
            refine wp_region_held_drew (S := fun _ => True) (by kernel_rfl) trivial (fun _ => ?_)
            refine held_take (i := 0) (v := ?v1) rfl rfl (by kernel_rfl) (by kernel_rfl) (by kernel_rfl) (fun _ _ _ h => h) (Or.inl ⟨by rfl, ?hy1⟩) trivial ?rest1
            case hy1 => first | (intro w hSw; go_simp; done) | (intro w hSw; go_simp; with_reducible rfl)
            try simp only [List.setIfInBounds_toArray, List.set_cons_zero, List.set_cons_succ]
            refine held_take (i := 2) (v := ?v2) rfl rfl (by kernel_rfl) (by kernel_rfl) (by kernel_rfl) (fun _ _ _ h => h) (Or.inl ⟨by rfl, ?hy2⟩) trivial ?rest2
            case hy2 => first | (intro w hSw; go_simp; done) | (intro w hSw; go_simp; with_reducible rfl)
            try simp only [List.setIfInBounds_toArray, List.set_cons_zero, List.set_cons_succ]
            refine wpAnyH_ready (rs := [1, 3]) (by kernel_rfl) (by simp) ?_
            refine AllReadyH.cons rfl (fun K hK => ?b1) (AllReadyH.cons rfl (fun K hK => ?b3) AllReadyH.nil)
            case b1 =>
              go_simp
              refine hK.out _ _ trivial (fun _ => ?_)
              clear hK K
              refine wpAnyH_ready (rs := [3]) (by kernel_rfl) (by simp) ?_
              refine AllReadyH.cons rfl (fun K hK => ?_) AllReadyH.nil
              go_simp
              go_wp2_with (go_at_call 83; refine (rnum_at HDd.out 1048576 (by rfl) (by omega) HU5.out).mono ?_; rintro e w6 ⟨rfl, hD6, hk6⟩)
              refine hK.out _ _ trivial (fun _ => ?_)
              clear hK K
              have B6 := Hid.mk' ((HB.out.kept (Kept.drew wr none) (by simp)).kept hk6 (by intro e; injection e with e; omega))
              have O6 := Hid.mk' ((HO.out.kept (Kept.drew wr none)).keptR hk6 (fun g e ec => by have := (HO.out.lt g e).1; injection ec with ec; omega))
              have hz6 : wr.heap.size ≤ w6.heap.size := hk6.size
              obtain ⟨v7, w7, hr7, hO7, hk7, hv7⟩ := O6.out.grow (yv : Int) (by have := HKL.out; omega) (by omega)
              obtain ⟨a5, c5, hv5, _, _⟩ := lie_own (by omega) hO7
              have hln : (sp ++ [(yv : Int)]).length = k + 1 := by rw [List.length_append, HKL.out]; rfl
              rw [hln] at hv5
              subst hv5
              have HR := Hid.mk' hr7
              have hne7 : (Value.slice a2 k c2).ownBlock ≠ some G := fun e => by have := (HO.out.lt G e).1; omega
              have B7 := Hid.mk' (B6.out.kept hk7 hne7)
              have D7 : Hid (Drd w7 H b t5) := hD6.kept hk7 (fun g e => by have := (HO.out.lt g e).1; omega)
              have K7 : Hid (Kept w w7 (some b)) := kept_two (kept_two (kept_two HK4.out (Kept.drew wr (some b)) (fun g e => .inl e)) hk6 (fun g e => .inl e)) hk7 (fun g e => by have := (HO.out.lt g e).1; exact .inr (by omega))
              have ST7 : Hid (Stay w.heap.size wo w7) := ((HST.out.step (Kept.drew wr none) (fun g e => by cases e)).step hk6 (fun g e => by injection e with e; exact .inl (by omega))).step hk7 (fun g e => by have := (HO.out.lt g e).1; exact .inr (by omega))
              have OO7 := Hid.mk' hO7
              have b62 := B6.out.c2
              have b6a : (w6.alloc (.cells #[.int .i64 (yv : Int)] 3)).cell? ⟨G, 2, none⟩ = some (.slice a2 k c2) := (B6.out.kept (Kept.alloc w6 _ _ _ none) (by simp)).c2
              have b72 := B7.out.c2
              have f72 := B7.out.f2
              have hz7 := hk7.size
              clear hr7 hO7 hk7 hv7 hk6 hD6 hln hne7
              refine wpAnyH_ready (rs := [4]) (by kernel_rfl) (by simp) ?_
              refine AllReadyH.cons rfl (fun K hK => ?_) AllReadyH.nil
              go_simp
              refine hK.out _ _ trivial (fun _ => ?_)
              clear hK K
              refine wpAnyH_ready (rs := [5]) (by kernel_rfl) (by simp) ?_
              refine AllReadyH.cons rfl (fun K hK => ?_) AllReadyH.nil
              rw [if_pos (by rfl)]
              refine wp_app _ _ _ (by rfl) (by rfl) (by rfl) HR.out ?_
              try simp only [Act.put, List.setIfInBounds_toArray, List.set_cons_zero, List.set_cons_succ]
              refine hK.out _ _ trivial (fun _ => ?_)
              clear hK K
              refine held_take (i := 6) (v := ?v3) rfl rfl (by kernel_rfl) (by kernel_rfl) (by kernel_rfl) (fun _ _ _ h => h) (Or.inl ⟨by rfl, ?hy3⟩) trivial ?rest3
              case hy3 => first | (intro w hSw; go_simp; done) | (intro w hSw; go_simp; with_reducible rfl)
              try simp only [List.setIfInBounds_toArray, List.set_cons_zero, List.set_cons_succ]
              refine wpAnyH_ready (rs := [7]) (by kernel_rfl) (by simp) ?_
              refine AllReadyH.cons rfl (fun K hK => ?_) AllReadyH.nil
              go_simp
              refine hK.out _ _ trivial (fun _ => ?_)
              clear hK K
              refine wpAnyH_done (by kernel_rfl) ?_ _
              clear b62 b6a b72 f72 B6 O6 HR
              go_wp2
              go_roundw
              case rel => exact ⟨k + 1, sp ++ [(yv : Int)], t5, a5, c5, by rw [List.length_append, HKL.out]; rfl, by omega, by go_num, B7.out.s2 _, OO7.out.keptR (dkept_set w7 G 2 _) (fun g e ec => by have := (OO7.out.lt g e).1; injection ec with ec; omega), D7.out.kept (dkept_set w7 G 2 _) (fun g e => by injection e with e; omega), kept_two K7.out (dkept_set w7 G 2 _) (fun g e => by injection e with e; exact .inr (by omega)), ST7.out.step (dkept_set w7 G 2 _) (fun g e => by injection e with e; exact .inr (by omega)), by simp [World.setCell]; omega, fun y hy => by rcases List.mem_append.1 hy with q | q; (exact HSP.out y q); (simp at q; subst q; unfold tickP; omega), HGG.out.step hk5 HU5.out⟩
              case measure => simp [intOf]; omega
            case b3 =>
              go_simp
              go_wp2_with (go_at_call 83; refine (rnum_at HDd.out 1048576 (by rfl) (by omega) HU5.out).mono ?_; rintro e w6 ⟨rfl, hD6, hk6⟩)
              refine hK.out _ _ trivial (fun _ => ?_)
              clear hK K
              have B6 := Hid.mk' ((HB.out.kept (Kept.drew wr none) (by simp)).kept hk6 (by intro e; injection e with e; omega))
              have O6 := Hid.mk' ((HO.out.kept (Kept.drew wr none)).keptR hk6 (fun g e ec => by have := (HO.out.lt g e).1; injection ec with ec; omega))
              have hz6 : wr.heap.size ≤ w6.heap.size := hk6.size
              obtain ⟨v7, w7, hr7, hO7, hk7, hv7⟩ := O6.out.grow (yv : Int) (by have := HKL.out; omega) (by omega)
              obtain ⟨a5, c5, hv5, _, _⟩ := lie_own (by omega) hO7
              have hln : (sp ++ [(yv : Int)]).length = k + 1 := by rw [List.length_append, HKL.out]; rfl
              rw [hln] at hv5
              subst hv5
              have HR := Hid.mk' hr7
              have hne7 : (Value.slice a2 k c2).ownBlock ≠ some G := fun e => by have := (HO.out.lt G e).1; omega
              have B7 := Hid.mk' (B6.out.kept hk7 hne7)
              have D7 : Hid (Drd w7 H b t5) := hD6.kept hk7 (fun g e => by have := (HO.out.lt g e).1; omega)
              have K7 : Hid (Kept w w7 (some b)) := kept_two (kept_two (kept_two HK4.out (Kept.drew wr (some b)) (fun g e => .inl e)) hk6 (fun g e => .inl e)) hk7 (fun g e => by have := (HO.out.lt g e).1; exact .inr (by omega))
              have ST7 : Hid (Stay w.heap.size wo w7) := ((HST.out.step (Kept.drew wr none) (fun g e => by cases e)).step hk6 (fun g e => by injection e with e; exact .inl (by omega))).step hk7 (fun g e => by have := (HO.out.lt g e).1; exact .inr (by omega))
              have OO7 := Hid.mk' hO7
              have b62 := B6.out.c2
              have b6a : (w6.alloc (.cells #[.int .i64 (yv : Int)] 3)).cell? ⟨G, 2, none⟩ = some (.slice a2 k c2) := (B6.out.kept (Kept.alloc w6 _ _ _ none) (by simp)).c2
              have b72 := B7.out.c2
              have f72 := B7.out.f2
              have hz7 := hk7.size
              clear hr7 hO7 hk7 hv7 hk6 hD6 hln hne7
              refine wpAnyH_ready (rs := [1, 4]) (by kernel_rfl) (by simp) ?_
              refine AllReadyH.cons rfl (fun K hK => ?d1) (AllReadyH.cons rfl (fun K hK => ?d4) AllReadyH.nil)
              case d1 =>
                go_simp
                refine hK.out _ _ trivial (fun _ => ?_)
                clear hK K
                refine wpAnyH_ready (rs := [4]) (by kernel_rfl) (by simp) ?_
                refine AllReadyH.cons rfl (fun K hK => ?_) AllReadyH.nil
                go_simp
                refine hK.out _ _ trivial (fun _ => ?_)
                clear hK K
                refine wpAnyH_ready (rs := [5]) (by kernel_rfl) (by simp) ?_
                refine AllReadyH.cons rfl (fun K hK => ?_) AllReadyH.nil
                rw [if_pos (by rfl)]
                refine wp_app _ _ _ (by rfl) (by rfl) (by rfl) HR.out ?_
                try simp only [Act.put, List.setIfInBounds_toArray, List.set_cons_zero, List.set_cons_succ]
                refine hK.out _ _ trivial (fun _ => ?_)
                clear hK K
                refine held_take (i := 6) (v := ?v21) rfl rfl (by kernel_rfl) (by kernel_rfl) (by kernel_rfl) (fun _ _ _ h => h) (Or.inl ⟨by rfl, ?hy21⟩) trivial ?rest21
                case hy21 => first | (intro w hSw; go_simp; done) | (intro w hSw; go_simp; with_reducible rfl)
                try simp only [List.setIfInBounds_toArray, List.set_cons_zero, List.set_cons_succ]
                refine wpAnyH_ready (rs := [7]) (by kernel_rfl) (by simp) ?_
                refine AllReadyH.cons rfl (fun K hK => ?_) AllReadyH.nil
                go_simp
                refine hK.out _ _ trivial (fun _ => ?_)
                clear hK K
                refine wpAnyH_done (by kernel_rfl) ?_ _
                clear b62 b6a b72 f72 B6 O6 HR
                go_wp2
                go_roundw
                case rel => exact ⟨k + 1, sp ++ [(yv : Int)], t5, a5, c5, by rw [List.length_append, HKL.out]; rfl, by omega, by go_num, B7.out.s2 _, OO7.out.keptR (dkept_set w7 G 2 _) (fun g e ec => by have := (OO7.out.lt g e).1; injection ec with ec; omega), D7.out.kept (dkept_set w7 G 2 _) (fun g e => by injection e with e; omega), kept_two K7.out (dkept_set w7 G 2 _) (fun g e => by injection e with e; exact .inr (by omega)), ST7.out.step (dkept_set w7 G 2 _) (fun g e => by injection e with e; exact .inr (by omega)), by simp [World.setCell]; omega, fun y hy => by rcases List.mem_append.1 hy with q | q; (exact HSP.out y q); (simp at q; subst q; unfold tickP; omega), HGG.out.step hk5 HU5.out⟩
                case measure => simp [intOf]; omega
              case d4 =>
                go_simp
                refine hK.out _ _ trivial (fun _ => ?_)
                clear hK K
                refine wpAnyH_ready (rs := [1]) (by kernel_rfl) (by simp) ?_
                refine AllReadyH.cons rfl (fun K hK => ?_) AllReadyH.nil
                go_simp
                refine hK.out _ _ trivial (fun _ => ?_)
                clear hK K
                refine wpAnyH_ready (rs := [5]) (by kernel_rfl) (by simp) ?_
                refine AllReadyH.cons rfl (fun K hK => ?_) AllReadyH.nil
                rw [if_pos (by rfl)]
                refine wp_app _ _ _ (by rfl) (by rfl) (by rfl) HR.out ?_
                try simp only [Act.put, List.setIfInBounds_toArray, List.set_cons_zero, List.set_cons_succ]
                refine hK.out _ _ trivial (fun _ => ?_)
                clear hK K
                refine held_take (i := 6) (v := ?v22) rfl rfl (by kernel_rfl) (by kernel_rfl) (by kernel_rfl) (fun _ _ _ h => h) (Or.inl ⟨by rfl, ?hy22⟩) trivial ?rest22
                case hy22 => first | (intro w hSw; go_simp; done) | (intro w hSw; go_simp; with_reducible rfl)
                try simp only [List.setIfInBounds_toArray, List.set_cons_zero, List.set_cons_succ]
                refine wpAnyH_ready (rs := [7]) (by kernel_rfl) (by simp) ?_
                refine AllReadyH.cons rfl (fun K hK => ?_) AllReadyH.nil
                go_simp
                refine hK.out _ _ trivial (fun _ => ?_)
                clear hK K
                refine wpAnyH_done (by kernel_rfl) ?_ _
                clear b62 b6a b72 f72 B6 O6 HR
                go_wp2
                go_roundw
                case rel => exact ⟨k + 1, sp ++ [(yv : Int)], t5, a5, c5, by rw [List.length_append, HKL.out]; rfl, by omega, by go_num, B7.out.s2 _, OO7.out.keptR (dkept_set w7 G 2 _) (fun g e ec => by have := (OO7.out.lt g e).1; injection ec with ec; omega), D7.out.kept (dkept_set w7 G 2 _) (fun g e => by injection e with e; omega), kept_two K7.out (dkept_set w7 G 2 _) (fun g e => by injection e with e; exact .inr (by omega)), ST7.out.step (dkept_set w7 G 2 _) (fun g e => by injection e with e; exact .inr (by omega)), by simp [World.setCell]; omega, fun y hy => by rcases List.mem_append.1 hy with q | q; (exact HSP.out y q); (simp at q; subst q; unfold tickP; omega), HGG.out.step hk5 HU5.out⟩
                case measure => simp [intOf]; omega
          · have hex : (¬ k < mv) ∨ (k < mv ∧ bd4 = true) := by
              cases bd4 <;> simp at hgo ⊢ <;> omega
            have hkm2 : k = mv ∨ ((L4, bd4) : Rd).2 = true := by
              rcases hex with q | q
              · exact .inl (by omega)
              · exact .inr q.2
            have hP2 := HPl.out.stay HST.out
            obtain ⟨a3, c3, e3, hI3, hb3⟩ := HO.out.ints (fun x hx => by have := HSP.out x hx; unfold tickP at this; omega)
            injection e3 with e4 e5 e6
            subst e4 e6
            clear e5
            have hzw4 := HK4.out.size
            have hvl := HPl.out.lt
            obtain ⟨v5, W5, hr5, hP5, hk5⟩ := PlS.grow (p := ⟨(cv : Int), (ov : Int), sp⟩) hP2 hI3 (fun bb e => ⟨fun ec => by have h1 := (hb3 bb e).1; have h2 := (hvl _ ec).2; omega, (hb3 bb e).2, by have h1 := (hb3 bb e).1; omega⟩) (by have := HIL.out; omega) (by omega)
            obtain ⟨a6, c6, hv6⟩ := hP5.shape
            have hln : (l ++ [(⟨(cv : Int), (ov : Int), sp⟩ : Pl)]).length = i + 1 := by rw [List.length_append, HIL.out]; rfl
            rw [hln] at hv6
            subst hv6
            have hr6 : (Builtin.append_ #[25, 25] 25 #[.slice la i lc, .slice (some ⟨wr.heap.size, 0, none⟩) 1 1]).run Try.prog (wr.alloc (.cells #[.int .i64 (cv : Int), .int .i64 (ov : Int), .slice a2 k c2] 63)) = .ok (.slice a6 (i + 1) c6) W5 := by
              have := hr5
              simp only [plB, HKL.out] at this
              exact this
            have HR := Hid.mk' hr6
            have HP5 := Hid.mk' hP5
            have K5 : Hid (Kept w W5 (some b)) := kept_two HK4.out hk5 (fun g e => .inr (hvl g e).1)
            have D5 : Hid (Drd W5 H b (L4, bd4)) := HD4.out.kept hk5 (fun g e => by have := (hvl g e).1; omega)
            have G5 := Hid.mk' (HGG.out.out HG.out hkm2)
            have TY5 : Hid (∀ p ∈ l ++ [(⟨(cv : Int), (ov : Int), sp⟩ : Pl)], tickP p.cycle ∧ tickP p.offset) := fun p hp => by
              rcases List.mem_append.1 hp with q | q
              · exact HTy.out p q
              · simp at q; subst q; unfold tickP; dsimp only; omega
            clear hr5 hr6 hP5 hk5 hI3 hb3 hP2 hvl hkm2 hgo
            rcases hex with hex | ⟨hex, rfl⟩
            · have hki : ¬ (k : Int) < (mv : Int) := by omega
              go_wp2_with (at_builtin; refine wpList_app (by rfl) _ _ _ (by rfl) (by rfl) (by rfl) HR.out ?_)
              go_roundw
              case rel => exact ⟨i + 1, _, (L4, bd4), a6, c6, by rw [List.length_append, HIL.out]; rfl, by omega, by go_num, rfl, HP5.out, D5.out, K5.out, TY5.out, G5.out⟩
              case measure => simp [intOf]; omega
            · have hki : (k : Int) < (mv : Int) := by omega
              go_wp2_with (at_builtin; refine wpList_app (by rfl) _ _ _ (by rfl) (by rfl) (by rfl) HR.out ?_)
              go_roundw
              case rel => exact ⟨i + 1, _, (L4, true), a6, c6, by rw [List.length_append, HIL.out]; rfl, by omega, by go_num, rfl, HP5.out, D5.out, K5.out, TY5.out, G5.out⟩
              case measure => simp [intOf]; omega

end Go.Proofs.Ytlabjamkaebnjaa
