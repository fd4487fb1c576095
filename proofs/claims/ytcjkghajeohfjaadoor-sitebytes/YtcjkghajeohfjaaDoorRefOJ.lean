/-
  Texts joined: some of those that the proofs of this seat stand on.
-/
import Derived.Test.YtcjkghajeohfjaaDoorRefNJ
import Derived.Test.YtcjkghajeohfjaaDoorTwinCJ
import Derived.Test.YtcjkghajeohfjaaDoorRnd
import Derived.Deep.RegionHeld
/-
  THE DOCUMENT'S OWN reader of plans.
-/
namespace Go.Proofs.YtcjkghajeohfjaaDoor
open Go.RowKit Go.Lib Go.Deep
set_option linter.unusedVariables false
set_option linter.unusedSimpArgs false

/-- A struct of three cells. -/
structure Bx3 (w : World) (b : Nat) (v0 v1 v2 : Value) : Prop where
  c0 : w.cell? ⟨b, 0, none⟩ = some v0
  c1 : w.cell? ⟨b, 1, none⟩ = some v1
  c2 : w.cell? ⟨b, 2, none⟩ = some v2
  f0 : w.frozen? ⟨b, 0, none⟩ = false
  f1 : w.frozen? ⟨b, 1, none⟩ = false
  f2 : w.frozen? ⟨b, 2, none⟩ = false
theorem bx3_alloc (w : World) (v0 v1 v2 : Value) (t : TypeId) : Bx3 (w.alloc (.cells #[v0, v1, v2] t)) w.heap.size v0 v1 v2 := by
  have h := heap_alloc_new w (.cells #[v0, v1, v2] t)
  exact ⟨World.cell?_alloc_mark .., World.cell?_alloc_mark .., World.cell?_alloc_mark .., by simp only [World.frozen?, h]; rfl, by simp only [World.frozen?, h]; rfl, by simp only [World.frozen?, h]; rfl⟩
theorem Bx3.kept {w w' : World} {b : Nat} {v0 v1 v2 : Value} {r : Option Nat} (h : Bx3 w b v0 v1 v2) (k : Kept w w' r) (hr : r ≠ some b) : Bx3 w' b v0 v1 v2 := by
  have hb := block_lt h.c0
  have hk := k.block b hb (fun e => hr e.symm)
  exact ⟨(World.cell?_of_block (w := w) (a := ⟨b, 0, none⟩) hk).trans h.c0, (World.cell?_of_block (w := w) (a := ⟨b, 1, none⟩) hk).trans h.c1, (World.cell?_of_block (w := w) (a := ⟨b, 2, none⟩) hk).trans h.c2, (dfrozen_block hk).trans h.f0, (dfrozen_block hk).trans h.f1, (dfrozen_block hk).trans h.f2⟩
theorem Bx3.s1 {w : World} {b : Nat} {v0 v1 v2 : Value} (h : Bx3 w b v0 v1 v2) (u : Value) : Bx3 (w.setCell ⟨b, 1, none⟩ u) b v0 u v2 :=
  ⟨(World.cell?_setCell_other _ _ _ _ (by simp)).trans h.c0, World.cell?_setCell_same' _ _ _ (by rw [h.c1]; rfl), (World.cell?_setCell_other _ _ _ _ (by simp)).trans h.c2, (dfrozen_set _ _ _ _).trans h.f0, (dfrozen_set _ _ _ _).trans h.f1, (dfrozen_set _ _ _ _).trans h.f2⟩
theorem Bx3.s2 {w : World} {b : Nat} {v0 v1 v2 : Value} (h : Bx3 w b v0 v1 v2) (u : Value) : Bx3 (w.setCell ⟨b, 2, none⟩ u) b v0 v1 u :=
  ⟨(World.cell?_setCell_other _ _ _ _ (by simp)).trans h.c0, (World.cell?_setCell_other _ _ _ _ (by simp)).trans h.c1, World.cell?_setCell_same' _ _ _ (by rw [h.c2]; rfl), (dfrozen_set _ _ _ _).trans h.f0, (dfrozen_set _ _ _ _).trans h.f1, (dfrozen_set _ _ _ _).trans h.f2⟩
theorem rnum_at {w : World} {H b : Nat} {s s' : Rd} {n : Nat} {M : Int} (h : Drd w H b s) (most : Nat) (hM : M = (most : Int)) (hm : most ≤ 1099511627776) (he : dnM most s = (n, s')) : Calls Tryd.prog 59 #[.pointer (some ⟨b, 0, none⟩), .int .i64 M] w fun e w' => e = .returned (.int .i64 (n : Int)) ∧ Drd w' H b s' ∧ Kept w w' (some b) := by
  subst hM
  have := rnum_any h most hm
  rw [he] at this
  exact this
def DPok (x : List Pl) : Prop := x.length ≤ 8 ∧ ∀ p ∈ x, tickP p.cycle ∧ tickP p.offset ∧ p.splits.length ≤ 8 ∧ ∀ y ∈ p.splits, tickP y
/-- What is known between two plans, of bytes that plans make. -/
def DG (s : Rd) (n i : Nat) (l : List Pl) (s' : Rd) : Prop := ∀ x T, DPok x → s = (smlI (plansI x) ++ T, false) → n = x.length ∧ l = x.take i ∧ s' = ((x.drop i).flatMap (fun p => smlI (plI p)) ++ T, false)
/-- And within one. -/
def DG2 (s : Rd) (i cv ov mv k : Nat) (sp : List Int) (s' : Rd) : Prop := ∀ x T, DPok x → s = (smlI (plansI x) ++ T, false) → i < x.length ∧ (cv : Int) = (x.getD i q0).cycle ∧ (ov : Int) = (x.getD i q0).offset ∧ mv = (x.getD i q0).splits.length ∧ sp = (x.getD i q0).splits.take k ∧ s' = (smlI ((x.getD i q0).splits.drop k) ++ ((x.drop (i + 1)).flatMap (fun p => smlI (plI p)) ++ T), false)
theorem getD_memP {x : List Pl} {i : Nat} (h : i < x.length) : x.getD i q0 ∈ x := by
  have : x.getD i q0 = x[i] := by simp [h]
  rw [this]; exact List.getElem_mem h
theorem drop_consP {x : List Pl} {i : Nat} (h : i < x.length) : x.drop i = x.getD i q0 :: x.drop (i + 1) := by
  rw [List.drop_eq_getElem_cons h]
  simp [h]
theorem DG.start {s s1 : Rd} {n : Nat} (he : dnM 8 s = (n, s1)) : DG s n 0 [] s1 := by
  intro x T hx hs
  have e : smlI (plansI x) ++ T = sml x.length ++ (x.flatMap (fun p => smlI (plI p)) ++ T) := by
    unfold plansI
    simp [smlI, List.flatMap_assoc]
  rw [hs, e, dn_fwd (by omega) hx.1] at he
  injection he with h1 h2
  exact ⟨h1.symm, rfl, by rw [← h2]; simp⟩
theorem DG.step {s s' s1 s2 s3 : Rd} {n i cv ov mv : Nat} {l : List Pl} (h : DG s n i l s') (hi : i < n) (e1 : dnM 1048576 s' = (cv, s1)) (e2 : dnM 1048576 s1 = (ov, s2)) (e3 : dnM 8 s2 = (mv, s3)) : DG2 s i cv ov mv 0 [] s3 := by
  intro x T hx hs
  obtain ⟨h1, h2, h3⟩ := h x T hx hs
  have hix : i < x.length := by omega
  obtain ⟨p1, p2, p3, p4⟩ := hx.2 _ (getD_memP hix)
  unfold tickP at p1 p2
  have e : (x.drop i).flatMap (fun p => smlI (plI p)) ++ T = sml (x.getD i q0).cycle.toNat ++ (sml (x.getD i q0).offset.toNat ++ (sml (x.getD i q0).splits.length ++ (smlI (x.getD i q0).splits ++ ((x.drop (i + 1)).flatMap (fun p => smlI (plI p)) ++ T)))) := by
    rw [drop_consP hix, List.flatMap_cons]
    unfold plI
    simp [smlI]
  rw [e] at h3
  rw [h3, dn_fwd (by omega) (by omega)] at e1
  injection e1 with a1 a2
  rw [← a2, dn_fwd (by omega) (by omega)] at e2
  injection e2 with b1 b2
  rw [← b2, dn_fwd (by omega) (by omega)] at e3
  injection e3 with c1 c2
  refine ⟨hix, by omega, by omega, c1.symm, rfl, ?_⟩
  rw [← c2]
  simp
theorem DG2.step {s s4 s5 : Rd} {i cv ov mv k y : Nat} {sp : List Int} (h : DG2 s i cv ov mv k sp s4) (hk : k < mv) (e : dnM 1048576 s4 = (y, s5)) : DG2 s i cv ov mv (k + 1) (sp ++ [(y : Int)]) s5 := by
  intro x T hx hs
  obtain ⟨h1, h2, h3, h4, h5, h6⟩ := h x T hx hs
  obtain ⟨p1, p2, p3, p4⟩ := hx.2 _ (getD_memP h1)
  generalize (x.getD i q0) = p at *
  have hkp : k < p.splits.length := by omega
  have hmem : p.splits[k] ∈ p.splits := List.getElem_mem hkp
  have ht := p4 _ hmem
  unfold tickP at ht
  have ed : p.splits.drop k = p.splits[k] :: p.splits.drop (k + 1) := List.drop_eq_getElem_cons hkp
  rw [h6, ed] at e
  have e' : smlI (p.splits[k] :: p.splits.drop (k + 1)) = sml (p.splits[k]).toNat ++ smlI (p.splits.drop (k + 1)) := by unfold smlI; rw [List.flatMap_cons]
  rw [e', List.append_assoc, dn_fwd (by omega) (by omega)] at e
  injection e with a1 a2
  refine ⟨h1, h2, h3, h4, ?_, a2.symm⟩
  rw [List.take_succ_eq_append_getElem hkp, ← h5, ← a1]
  have hy : ((p.splits[k].toNat : Nat) : Int) = p.splits[k] := by omega
  rw [hy]
theorem DG2.out {s s4 : Rd} {n i cv ov mv k : Nat} {l : List Pl} {s' : Rd} {sp : List Int} (h : DG2 s i cv ov mv k sp s4) (h0 : DG s n i l s') (hk : k = mv ∨ s4.2 = true) : DG s n (i + 1) (l ++ [⟨(cv : Int), (ov : Int), sp⟩]) s4 := by
  intro x T hx hs
  obtain ⟨h1, h2, h3, h4, h5, h6⟩ := h x T hx hs
  obtain ⟨g1, g2, g3⟩ := h0 x T hx hs
  have hkm : k = mv := by
    rcases hk with q | q
    · exact q
    · rw [h6] at q; cases q
  refine ⟨g1, ?_, ?_⟩
  · have e : x.take (i + 1) = x.take i ++ [x.getD i q0] := by
      rw [List.take_succ_eq_append_getElem h1]
      simp [h1]
    rw [e, ← g2, h2, h3, h5, hkm, h4, List.take_length]
  · rw [h6, hkm, h4, List.drop_length]
    simp [smlI]
theorem DG.out {s s' : Rd} {n i : Nat} {l : List Pl} (h : DG s n i l s') (hi : i = n ∨ s'.2 = true) : ∀ x T, DPok x → s = (smlI (plansI x) ++ T, false) → l = x ∧ s' = (T, false) := by
  intro x T hx hs
  obtain ⟨h1, h2, h3⟩ := h x T hx hs
  have hin : i = x.length := by
    rcases hi with q | q
    · omega
    · rw [h3] at q; cases q
  refine ⟨by rw [h2, hin, List.take_length], ?_⟩
  rw [h3, hin, List.drop_length]
  simp

end Go.Proofs.YtcjkghajeohfjaaDoor

/-
  THE DOCUMENT'S OWN reader of plans: the walk.
-/
namespace Go.Proofs.YtcjkghajeohfjaaDoor
open Go.RowKit Go.Lib Go.Deep
set_option linter.unusedVariables false
set_option linter.unusedSimpArgs false

/-- What the document's reader of plans answers. -/
structure PlsP (w : World) (H b : Nat) (s : Rd) (v : Value) (w' : World) (l : List Pl) (s' : Rd) : Prop where
  pl : PlS w' w.heap.size v l
  rd : Drd w' H b s'
  kept : Kept w w' (some b)
  many : l.length ≤ 8
  typ : ∀ p ∈ l, tickP p.cycle ∧ tickP p.offset
  fwd : ∀ x T, DPok x → s = (smlI (plansI x) ++ T, false) → l = x ∧ s' = (T, false)
def PlsR (w : World) (H b : Nat) (s : Rd) (e : Ending) (w' : World) : Prop := ∃ v l s', e = .returned v ∧ PlsP w H b s v w' l s'
set_option maxRecDepth 100000 in
set_option maxHeartbeats 4000000 in
theorem rplans_any {w : World} {H b : Nat} {s : Rd} (h : Drd w H b s) (hH : H ≤ w.heap.size) : Calls Tryd.prog 33 #[.pointer (some ⟨b, 0, none⟩)] w fun e w' => PlsR w H b s e w' := by
  have HD := Hid.mk' h
  have hbl := h.lt
  obtain ⟨⟨n, s1⟩, hu⟩ : ∃ u, dnM 8 s = u := ⟨_, rfl⟩
  have hn8 : n ≤ 8 := by have := dnM_le 8 s; rw [hu] at this; exact this
  have HU := Hid.mk' hu
  have HG0 := Hid.mk' (DG.start hu)
  clear h hu
  go_enter Tryd.func33, Tryd.ntmps33
  go_wp2_with (go_at_call 59; refine (rnum_at HD.out 8 (by rfl) (by omega) HU.out).mono ?_; rintro e w1 ⟨rfl, hD1, hk1⟩)
  go_loopw [3, 5] (fun lv iv wr => ∃ (i : Nat) (l : List Pl) (s' : Rd) (la : Option Addr) (lc : Nat), l.length = i ∧ i ≤ n ∧ iv = .int .i64 i ∧ lv = .slice la i lc ∧ PlS wr w.heap.size (.slice la i lc) l ∧ Drd wr H b s' ∧ Kept w wr (some b) ∧ (∀ p ∈ l, tickP p.cycle ∧ tickP p.offset) ∧ DG s n i l s') (fun _ iv _ => n - (intOf iv).toNat)
  case atStart => exact ⟨0, [], s1, none, 0, rfl, Nat.zero_le _, rfl, rfl, PlS.nil _ _, hD1, hk1, by simp, HG0.out⟩
  case round =>
    obtain ⟨i, l, ⟨L', bd⟩, la, lc, hil, hin, rfl, rfl, hPl, hDr, hK, hty, hG⟩ := hrel
    clear hD1 hk1
    have HPl := Hid.mk' hPl
    have HDr := Hid.mk' hDr
    have HK := Hid.mk' hK
    have HTy := Hid.mk' hty
    have HG := Hid.mk' hG
    have HIL := Hid.mk' hil
    have hc1 := hDr.c1
    clear hPl hDr hK hty hG hil
    by_cases hlt : i < n
    case neg =>
      have hii : ¬ (i : Int) < (n : Int) := by omega
      go_wp2
      go_ret
      exact ⟨_, l, _, rfl, HPl.out, HDr.out, HK.out, by have := HIL.out; omega, HTy.out, DG.out HG.out (.inl (by omega))⟩
    case pos =>
      have hii : (i : Int) < (n : Int) := by omega
      cases bd with
      | true =>
        go_wp2
        go_ret
        exact ⟨_, l, _, rfl, HPl.out, HDr.out, HK.out, by have := HIL.out; omega, HTy.out, DG.out HG.out (.inr rfl)⟩
      | false =>
        obtain ⟨⟨cv, t1⟩, hu1⟩ : ∃ u, dnM 1048576 (L', false) = u := ⟨_, rfl⟩
        obtain ⟨⟨ov, t2⟩, hu2⟩ : ∃ u, dnM 1048576 t1 = u := ⟨_, rfl⟩
        obtain ⟨⟨mv, t3⟩, hu3⟩ : ∃ u, dnM 8 t2 = u := ⟨_, rfl⟩
        have hcv : cv ≤ 1048576 := by have := dnM_le 1048576 (L', false); rw [hu1] at this; exact this
        have hov : ov ≤ 1048576 := by have := dnM_le 1048576 t1; rw [hu2] at this; exact this
        have hmv : mv ≤ 8 := by have := dnM_le 8 t2; rw [hu3] at this; exact this
        have HU1 := Hid.mk' hu1
        have HU2 := Hid.mk' hu2
        have HU3 := Hid.mk' hu3
        have HG2 := Hid.mk' (DG.step HG.out hlt hu1 hu2 hu3)
        have hbw : b < w.heap.size := by omega
        clear hu1 hu2 hu3
        go_wp2_with (first
          | (have hgo := D2; clear hgo; go_at_call 59; refine (rnum_at D2.out 8 (by rfl) (by omega) HU3.out).mono ?_; rintro e w4 ⟨rfl, hD4, hk4⟩)
          | (have hgo := D1; clear hgo; go_at_call 59; refine (rnum_at D1.out 1048576 (by rfl) (by omega) HU2.out).mono ?_; rintro e w3 ⟨rfl, hD3, hk3⟩; have B3 := Hid.mk' (B2.out.kept hk3 (by intro e; injection e with e; omega)); have y1 := B3.out.c1; have g1 := B3.out.f1; have D2 : Hid (Drd (w3.setCell ⟨w2.heap.size, 1, none⟩ (.int .i64 (ov : Int))) H b t2) := hD3.kept (dkept_set w3 w2.heap.size 1 _) (fun i e => by injection e with e; omega))
          | (go_at_call 59; refine (rnum_at HDr.out 1048576 (by rfl) (by omega) HU1.out).mono ?_; rintro e w2 ⟨rfl, hD2, hk2⟩; have hz2 := hk2.size; have hzw := HK.out.size; have B2 := Hid.mk' (bx3_alloc w2 (.int .i64 (cv : Int)) (.int .i64 0) (.slice none 0 0) 54); have D1 : Hid (Drd (w2.alloc (.cells #[.int .i64 (cv : Int), .int .i64 0, .slice none 0 0] 54)) H b t1) := hD2.kept (Kept.alloc w2 _ _ _ none) (fun i e => by cases e)))
        have hz3 := hk3.size
        have hz4 := hk4.size
        have hbz : (w2.alloc (.cells #[.int .i64 (cv : Int), .int .i64 0, .slice none 0 0] 54)).heap.size = w2.heap.size + 1 := by simp
        have hbs : (w3.setCell ⟨w2.heap.size, 1, none⟩ (.int .i64 (ov : Int))).heap.size = w3.heap.size := by simp [World.setCell]
        rw [hbz] at hz3
        rw [hbs] at hz4
        have B4 : Hid (Bx3 w4 w2.heap.size (.int .i64 (cv : Int)) (.int .i64 (ov : Int)) (.slice none 0 0)) := (B3.out.s1 _).kept hk4 (by intro e; injection e with e; omega)
        have hka : Kept w2 w3 (some b) := kept_two ((Kept.alloc w2 _ _ _ (some b))) hk3 (fun g e => .inl e)
        have hkb : Kept w2 w4 (some b) := kept_two (kept_two hka (dkept_set w3 w2.heap.size 1 (.int .i64 (ov : Int))) (fun g e => by injection e with e; exact .inr (by omega))) hk4 (fun g e => .inl e)
        have K4 : Hid (Kept w w4 (some b)) := kept_two (kept_two HK.out hk2 (fun g e => .inl e)) hkb (fun g e => .inl e)
        have ST4 : Hid (Stay w.heap.size wr w4) := (((Stay.refl _ _).step hk2 (fun g e => by injection e with e; exact .inl (by omega))).step hkb (fun g e => by injection e with e; exact .inl (by omega)))
        have D4 := Hid.mk' hD4
        obtain ⟨G, hG⟩ : ∃ G, G = w2.heap.size := ⟨_, rfl⟩
        rw [← hG] at B4 ⊢
        have hGw : wr.heap.size ≤ G := by omega
        have hG4 : G < w4.heap.size := by omega
        clear hG hD2 hD3 hD4 hk2 hk3 hk4 hka hkb B2 B3 D1 D2 y1 g1 hbz hbs
        obtain ⟨wo, hwo⟩ : ∃ wo, wo = wr := ⟨_, rfl⟩
        subst hwo
        go_loopw [8] (fun iv wr => ∃ (k : Nat) (sp : List Int) (s4 : Rd) (a2 : Option Addr) (c2 : Nat), sp.length = k ∧ k ≤ mv ∧ iv = .int .i64 k ∧ Bx3 wr G (.int .i64 (cv : Int)) (.int .i64 (ov : Int)) (.slice a2 k c2) ∧ OwI wr (G + 1) (.slice a2 k c2) sp ∧ Drd wr H b s4 ∧ Kept w wr (some b) ∧ Stay w.heap.size wo wr ∧ G < wr.heap.size ∧ (∀ y ∈ sp, tickP y) ∧ DG2 s i cv ov mv k sp s4) (fun iv _ => mv - (intOf iv).toNat)
        case atStart => exact ⟨0, [], t3, none, 0, rfl, Nat.zero_le _, rfl, B4.out, OwI.nil _ _, D4.out, K4.out, ST4.out, hG4, by simp, HG2.out⟩
        case round =>
          obtain ⟨k, sp, ⟨L4, bd4⟩, a2, c2, hkl, hkm, rfl, hB, hO, hDr4, hK4, hSt, hGz, hsp, hGG⟩ := hrel
          clear B4 D4 K4 ST4 hG4
          have HB := Hid.mk' hB
          have HO := Hid.mk' hO
          have HD4 := Hid.mk' hDr4
          have HK4 := Hid.mk' hK4
          have HST := Hid.mk' hSt
          have HSP := Hid.mk' hsp
          have HGG := Hid.mk' hGG
          have HKL := Hid.mk' hkl
          have hc4 := hDr4.c1
          have hb0 := hB.c0
          have hb1 := hB.c1
          have hb2 := hB.c2
          clear hB hO hDr4 hK4 hSt hsp hGG hkl hc1
          by_cases hgo : k < mv ∧ bd4 = false
          · obtain ⟨hk5, rfl⟩ := hgo
            obtain ⟨⟨yv, t5⟩, hu5⟩ : ∃ u, dnM 1048576 (L4, false) = u := ⟨_, rfl⟩
            have hyv : yv ≤ 1048576 := by have := dnM_le 1048576 (L4, false); rw [hu5] at this; exact this
            have HU5 := Hid.mk' hu5
            have HDd : Hid (Drd wr.drew H b (L4, false)) := HD4.out.kept (Kept.drew wr none) (fun g e => by cases e)
            have hki : (k : Int) < (mv : Int) := by omega
            have hb2d : wr.drew.cell? ⟨G, 2, none⟩ = some (.slice a2 k c2) := (HB.out.kept (Kept.drew wr none) (by simp)).c2
            have hzw4 := HK4.out.size
            clear hu5
            go_wp2
            refine wp_region_held_drew (S := fun _ => True) (by kernel_rfl) trivial (fun _ => ?_)
            refine held_take (i := 0) (v := ?v1) rfl rfl (by kernel_rfl) (by kernel_rfl) (by kernel_rfl) (fun _ _ _ h => h) (Or.inl ⟨by rfl, ?hy1⟩) trivial ?rest1
            case hy1 => first | (intro w hSw; go_simp; done) | (intro w hSw; go_simp; with_reducible rfl)
            try simp only [List.setIfInBounds_toArray, List.set_cons_zero, List.set_cons_succ]
            refine held_take (i := 2) (v := ?v2) rfl rfl (by kernel_rfl) (by kernel_rfl) (by kernel_rfl) (fun _ _ _ h => h) (Or.inl ⟨by rfl, ?hy2⟩) trivial ?rest2
            case hy2 => first | (intro w hSw; go_simp; done) | (intro w hSw; go_simp; with_reducible rfl)
            try simp only [List.setIfInBounds_toArray, List.set_cons_zero, List.set_cons_succ]
            refine wpAnyH_ready (rs := [1, 3]) (by kernel_rfl) (by simp) ?_
            refine AllReadyH.cons rfl (fun K hK => ?b1) (AllReadyH.cons rfl (fun K hK => ?b3) AllReadyH.nil)
            case b1 =>
              go_simp
              refine hK.out _ _ trivial (fun _ => ?_)
              clear hK K
              refine wpAnyH_ready (rs := [3]) (by kernel_rfl) (by simp) ?_
              refine AllReadyH.cons rfl (fun K hK => ?_) AllReadyH.nil
              go_simp
              go_wp2_with (go_at_call 59; refine (rnum_at HDd.out 1048576 (by rfl) (by omega) HU5.out).mono ?_; rintro e w6 ⟨rfl, hD6, hk6⟩)
              refine hK.out _ _ trivial (fun _ => ?_)
              clear hK K
              have B6 := Hid.mk' ((HB.out.kept (Kept.drew wr none) (by simp)).kept hk6 (by intro e; injection e with e; omega))
              have O6 := Hid.mk' ((HO.out.kept (Kept.drew wr none)).keptR hk6 (fun g e ec => by have := (HO.out.lt g e).1; injection ec with ec; omega))
              have hz6 : wr.heap.size ≤ w6.heap.size := hk6.size
              obtain ⟨v7, w7, hr7, hO7, hk7, hv7⟩ := O6.out.grow (yv : Int) (by have := HKL.out; omega) (by omega)
              obtain ⟨a5, c5, hv5, _, _⟩ := lie_own (by omega) hO7
              have hln : (sp ++ [(yv : Int)]).length = k + 1 := by rw [List.length_append, HKL.out]; rfl
              rw [hln] at hv5
              subst hv5
              have HR := Hid.mk' hr7
              have hne7 : (Value.slice a2 k c2).ownBlock ≠ some G := fun e => by have := (HO.out.lt G e).1; omega
              have B7 := Hid.mk' (B6.out.kept hk7 hne7)
              have D7 : Hid (Drd w7 H b t5) := hD6.kept hk7 (fun g e => by have := (HO.out.lt g e).1; omega)
              have K7 : Hid (Kept w w7 (some b)) := kept_two (kept_two (kept_two HK4.out (Kept.drew wr (some b)) (fun g e => .inl e)) hk6 (fun g e => .inl e)) hk7 (fun g e => by have := (HO.out.lt g e).1; exact .inr (by omega))
              have ST7 : Hid (Stay w.heap.size wo w7) := ((HST.out.step (Kept.drew wr none) (fun g e => by cases e)).step hk6 (fun g e => by injection e with e; exact .inl (by omega))).step hk7 (fun g e => by have := (HO.out.lt g e).1; exact .inr (by omega))
              have OO7 := Hid.mk' hO7
              have b62 := B6.out.c2
              have b6a : (w6.alloc (.cells #[.int .i64 (yv : Int)] 3)).cell? ⟨G, 2, none⟩ = some (.slice a2 k c2) := (B6.out.kept (Kept.alloc w6 _ _ _ none) (by simp)).c2
              have b72 := B7.out.c2
              have f72 := B7.out.f2
              have hz7 := hk7.size
              clear hr7 hO7 hk7 hv7 hk6 hD6 hln hne7
              refine wpAnyH_ready (rs := [4]) (by kernel_rfl) (by simp) ?_
              refine AllReadyH.cons rfl (fun K hK => ?_) AllReadyH.nil
              go_simp
              refine hK.out _ _ trivial (fun _ => ?_)
              clear hK K
              refine wpAnyH_ready (rs := [5]) (by kernel_rfl) (by simp) ?_
              refine AllReadyH.cons rfl (fun K hK => ?_) AllReadyH.nil
              rw [if_pos (by rfl)]
              refine wp_app _ _ _ (by rfl) (by rfl) (by rfl) HR.out ?_
              try simp only [Act.put, List.setIfInBounds_toArray, List.set_cons_zero, List.set_cons_succ]
              refine hK.out _ _ trivial (fun _ => ?_)
              clear hK K
              refine held_take (i := 6) (v := ?v3) rfl rfl (by kernel_rfl) (by kernel_rfl) (by kernel_rfl) (fun _ _ _ h => h) (Or.inl ⟨by rfl, ?hy3⟩) trivial ?rest3
              case hy3 => first | (intro w hSw; go_simp; done) | (intro w hSw; go_simp; with_reducible rfl)
              try simp only [List.setIfInBounds_toArray, List.set_cons_zero, List.set_cons_succ]
              refine wpAnyH_ready (rs := [7]) (by kernel_rfl) (by simp) ?_
              refine AllReadyH.cons rfl (fun K hK => ?_) AllReadyH.nil
              go_simp
              refine hK.out _ _ trivial (fun _ => ?_)
              clear hK K
              refine wpAnyH_done (by kernel_rfl) ?_ _
              clear b62 b6a b72 f72 B6 O6 HR
              go_wp2
              go_roundw
              case rel => exact ⟨k + 1, sp ++ [(yv : Int)], t5, a5, c5, by rw [List.length_append, HKL.out]; rfl, by omega, by go_num, B7.out.s2 _, OO7.out.keptR (dkept_set w7 G 2 _) (fun g e ec => by have := (OO7.out.lt g e).1; injection ec with ec; omega), D7.out.kept (dkept_set w7 G 2 _) (fun g e => by injection e with e; omega), kept_two K7.out (dkept_set w7 G 2 _) (fun g e => by injection e with e; exact .inr (by omega)), ST7.out.step (dkept_set w7 G 2 _) (fun g e => by injection e with e; exact .inr (by omega)), by simp [World.setCell]; omega, fun y hy => by rcases List.mem_append.1 hy with q | q; (exact HSP.out y q); (simp at q; subst q; unfold tickP; omega), HGG.out.step hk5 HU5.out⟩
              case measure => simp [intOf]; omega
            case b3 =>
              go_simp
              go_wp2_with (go_at_call 59; refine (rnum_at HDd.out 1048576 (by rfl) (by omega) HU5.out).mono ?_; rintro e w6 ⟨rfl, hD6, hk6⟩)
              refine hK.out _ _ trivial (fun _ => ?_)
              clear hK K
              have B6 := Hid.mk' ((HB.out.kept (Kept.drew wr none) (by simp)).kept hk6 (by intro e; injection e with e; omega))
              have O6 := Hid.mk' ((HO.out.kept (Kept.drew wr none)).keptR hk6 (fun g e ec => by have := (HO.out.lt g e).1; injection ec with ec; omega))
              have hz6 : wr.heap.size ≤ w6.heap.size := hk6.size
              obtain ⟨v7, w7, hr7, hO7, hk7, hv7⟩ := O6.out.grow (yv : Int) (by have := HKL.out; omega) (by omega)
              obtain ⟨a5, c5, hv5, _, _⟩ := lie_own (by omega) hO7
              have hln : (sp ++ [(yv : Int)]).length = k + 1 := by rw [List.length_append, HKL.out]; rfl
              rw [hln] at hv5
              subst hv5
              have HR := Hid.mk' hr7
              have hne7 : (Value.slice a2 k c2).ownBlock ≠ some G := fun e => by have := (HO.out.lt G e).1; omega
              have B7 := Hid.mk' (B6.out.kept hk7 hne7)
              have D7 : Hid (Drd w7 H b t5) := hD6.kept hk7 (fun g e => by have := (HO.out.lt g e).1; omega)
              have K7 : Hid (Kept w w7 (some b)) := kept_two (kept_two (kept_two HK4.out (Kept.drew wr (some b)) (fun g e => .inl e)) hk6 (fun g e => .inl e)) hk7 (fun g e => by have := (HO.out.lt g e).1; exact .inr (by omega))
              have ST7 : Hid (Stay w.heap.size wo w7) := ((HST.out.step (Kept.drew wr none) (fun g e => by cases e)).step hk6 (fun g e => by injection e with e; exact .inl (by omega))).step hk7 (fun g e => by have := (HO.out.lt g e).1; exact .inr (by omega))
              have OO7 := Hid.mk' hO7
              have b62 := B6.out.c2
              have b6a : (w6.alloc (.cells #[.int .i64 (yv : Int)] 3)).cell? ⟨G, 2, none⟩ = some (.slice a2 k c2) := (B6.out.kept (Kept.alloc w6 _ _ _ none) (by simp)).c2
              have b72 := B7.out.c2
              have f72 := B7.out.f2
              have hz7 := hk7.size
              clear hr7 hO7 hk7 hv7 hk6 hD6 hln hne7
              refine wpAnyH_ready (rs := [1, 4]) (by kernel_rfl) (by simp) ?_
              refine AllReadyH.cons rfl (fun K hK => ?d1) (AllReadyH.cons rfl (fun K hK => ?d4) AllReadyH.nil)
              case d1 =>
                go_simp
                refine hK.out _ _ trivial (fun _ => ?_)
                clear hK K
                refine wpAnyH_ready (rs := [4]) (by kernel_rfl) (by simp) ?_
                refine AllReadyH.cons rfl (fun K hK => ?_) AllReadyH.nil
                go_simp
                refine hK.out _ _ trivial (fun _ => ?_)
                clear hK K
                refine wpAnyH_ready (rs := [5]) (by kernel_rfl) (by simp) ?_
                refine AllReadyH.cons rfl (fun K hK => ?_) AllReadyH.nil
                rw [if_pos (by rfl)]
                refine wp_app _ _ _ (by rfl) (by rfl) (by rfl) HR.out ?_
                try simp only [Act.put, List.setIfInBounds_toArray, List.set_cons_zero, List.set_cons_succ]
                refine hK.out _ _ trivial (fun _ => ?_)
                clear hK K
                refine held_take (i := 6) (v := ?v21) rfl rfl (by kernel_rfl) (by kernel_rfl) (by kernel_rfl) (fun _ _ _ h => h) (Or.inl ⟨by rfl, ?hy21⟩) trivial ?rest21
                case hy21 => first | (intro w hSw; go_simp; done) | (intro w hSw; go_simp; with_reducible rfl)
                try simp only [List.setIfInBounds_toArray, List.set_cons_zero, List.set_cons_succ]
                refine wpAnyH_ready (rs := [7]) (by kernel_rfl) (by simp) ?_
                refine AllReadyH.cons rfl (fun K hK => ?_) AllReadyH.nil
                go_simp
                refine hK.out _ _ trivial (fun _ => ?_)
                clear hK K
                refine wpAnyH_done (by kernel_rfl) ?_ _
                clear b62 b6a b72 f72 B6 O6 HR
                go_wp2
                go_roundw
                case rel => exact ⟨k + 1, sp ++ [(yv : Int)], t5, a5, c5, by rw [List.length_append, HKL.out]; rfl, by omega, by go_num, B7.out.s2 _, OO7.out.keptR (dkept_set w7 G 2 _) (fun g e ec => by have := (OO7.out.lt g e).1; injection ec with ec; omega), D7.out.kept (dkept_set w7 G 2 _) (fun g e => by injection e with e; omega), kept_two K7.out (dkept_set w7 G 2 _) (fun g e => by injection e with e; exact .inr (by omega)), ST7.out.step (dkept_set w7 G 2 _) (fun g e => by injection e with e; exact .inr (by omega)), by simp [World.setCell]; omega, fun y hy => by rcases List.mem_append.1 hy with q | q; (exact HSP.out y q); (simp at q; subst q; unfold tickP; omega), HGG.out.step hk5 HU5.out⟩
                case measure => simp [intOf]; omega
              case d4 =>
                go_simp
                refine hK.out _ _ trivial (fun _ => ?_)
                clear hK K
                refine wpAnyH_ready (rs := [1]) (by kernel_rfl) (by simp) ?_
                refine AllReadyH.cons rfl (fun K hK => ?_) AllReadyH.nil
                go_simp
                refine hK.out _ _ trivial (fun _ => ?_)
                clear hK K
                refine wpAnyH_ready (rs := [5]) (by kernel_rfl) (by simp) ?_
                refine AllReadyH.cons rfl (fun K hK => ?_) AllReadyH.nil
                rw [if_pos (by rfl)]
                refine wp_app _ _ _ (by rfl) (by rfl) (by rfl) HR.out ?_
                try simp only [Act.put, List.setIfInBounds_toArray, List.set_cons_zero, List.set_cons_succ]
                refine hK.out _ _ trivial (fun _ => ?_)
                clear hK K
                refine held_take (i := 6) (v := ?v22) rfl rfl (by kernel_rfl) (by kernel_rfl) (by kernel_rfl) (fun _ _ _ h => h) (Or.inl ⟨by rfl, ?hy22⟩) trivial ?rest22
                case hy22 => first | (intro w hSw; go_simp; done) | (intro w hSw; go_simp; with_reducible rfl)
                try simp only [List.setIfInBounds_toArray, List.set_cons_zero, List.set_cons_succ]
                refine wpAnyH_ready (rs := [7]) (by kernel_rfl) (by simp) ?_
                refine AllReadyH.cons rfl (fun K hK => ?_) AllReadyH.nil
                go_simp
                refine hK.out _ _ trivial (fun _ => ?_)
                clear hK K
                refine wpAnyH_done (by kernel_rfl) ?_ _
                clear b62 b6a b72 f72 B6 O6 HR
                go_wp2
                go_roundw
                case rel => exact ⟨k + 1, sp ++ [(yv : Int)], t5, a5, c5, by rw [List.length_append, HKL.out]; rfl, by omega, by go_num, B7.out.s2 _, OO7.out.keptR (dkept_set w7 G 2 _) (fun g e ec => by have := (OO7.out.lt g e).1; injection ec with ec; omega), D7.out.kept (dkept_set w7 G 2 _) (fun g e => by injection e with e; omega), kept_two K7.out (dkept_set w7 G 2 _) (fun g e => by injection e with e; exact .inr (by omega)), ST7.out.step (dkept_set w7 G 2 _) (fun g e => by injection e with e; exact .inr (by omega)), by simp [World.setCell]; omega, fun y hy => by rcases List.mem_append.1 hy with q | q; (exact HSP.out y q); (simp at q; subst q; unfold tickP; omega), HGG.out.step hk5 HU5.out⟩
                case measure => simp [intOf]; omega
          · have hex : (¬ k < mv) ∨ (k < mv ∧ bd4 = true) := by
              cases bd4 <;> simp at hgo ⊢ <;> omega
            have hkm2 : k = mv ∨ ((L4, bd4) : Rd).2 = true := by
              rcases hex with q | q
              · exact .inl (by omega)
              · exact .inr q.2
            have hP2 := HPl.out.stay HST.out
            obtain ⟨a3, c3, e3, hI3, hb3⟩ := HO.out.ints (fun x hx => by have := HSP.out x hx; unfold tickP at this; omega)
            injection e3 with e4 e5 e6
            subst e4 e6
            clear e5
            have hzw4 := HK4.out.size
            have hvl := HPl.out.lt
            obtain ⟨v5, W5, hr5, hP5, hk5⟩ := PlS.grow (p := ⟨(cv : Int), (ov : Int), sp⟩) hP2 hI3 (fun bb e => ⟨fun ec => by have h1 := (hb3 bb e).1; have h2 := (hvl _ ec).2; omega, (hb3 bb e).2, by have h1 := (hb3 bb e).1; omega⟩) (by have := HIL.out; omega) (by omega)
            obtain ⟨a6, c6, hv6⟩ := hP5.shape
            have hln : (l ++ [(⟨(cv : Int), (ov : Int), sp⟩ : Pl)]).length = i + 1 := by rw [List.length_append, HIL.out]; rfl
            rw [hln] at hv6
            subst hv6
            have hr6 : (Builtin.append_ #[27, 27] 27 #[.slice la i lc, .slice (some ⟨wr.heap.size, 0, none⟩) 1 1]).run Tryd.prog (wr.alloc (.cells #[.int .i64 (cv : Int), .int .i64 (ov : Int), .slice a2 k c2] 54)) = .ok (.slice a6 (i + 1) c6) W5 := by
              have := hr5
              simp only [plB, HKL.out] at this
              exact this
            have HR := Hid.mk' hr6
            have HP5 := Hid.mk' hP5
            have K5 : Hid (Kept w W5 (some b)) := kept_two HK4.out hk5 (fun g e => .inr (hvl g e).1)
            have D5 : Hid (Drd W5 H b (L4, bd4)) := HD4.out.kept hk5 (fun g e => by have := (hvl g e).1; omega)
            have G5 := Hid.mk' (HGG.out.out HG.out hkm2)
            have TY5 : Hid (∀ p ∈ l ++ [(⟨(cv : Int), (ov : Int), sp⟩ : Pl)], tickP p.cycle ∧ tickP p.offset) := fun p hp => by
              rcases List.mem_append.1 hp with q | q
              · exact HTy.out p q
              · simp at q; subst q; unfold tickP; dsimp only; omega
            clear hr5 hr6 hP5 hk5 hI3 hb3 hP2 hvl hkm2 hgo
            rcases hex with hex | ⟨hex, rfl⟩
            · have hki : ¬ (k : Int) < (mv : Int) := by omega
              go_wp2_with (at_builtin; refine wpList_app (by rfl) _ _ _ (by rfl) (by rfl) (by rfl) HR.out ?_)
              go_roundw
              case rel => exact ⟨i + 1, _, (L4, bd4), a6, c6, by rw [List.length_append, HIL.out]; rfl, by omega, by go_num, rfl, HP5.out, D5.out, K5.out, TY5.out, G5.out⟩
              case measure => simp [intOf]; omega
            · have hki : (k : Int) < (mv : Int) := by omega
              go_wp2_with (at_builtin; refine wpList_app (by rfl) _ _ _ (by rfl) (by rfl) (by rfl) HR.out ?_)
              go_roundw
              case rel => exact ⟨i + 1, _, (L4, true), a6, c6, by rw [List.length_append, HIL.out]; rfl, by omega, by go_num, rfl, HP5.out, D5.out, K5.out, TY5.out, G5.out⟩
              case measure => simp [intOf]; omega

end Go.Proofs.YtcjkghajeohfjaaDoor

