import Derived.Test.YtfhmfanmnhclfaaDoorP22
import Derived.Test.YtfhmfanmnhclfaaDoorP25
namespace Go.Proofs.YtfhmfanmnhclfaaDoor
set_option linter.unusedVariables false
set_option linter.unusedSimpArgs false
open Go.RowKit Go.Lib Go.Deep


theorem Box.setZ {w : World} {b : Nat} {v0 v1 v2 : Value} (h : Box w b v0 v1 v2) (v : Value) : Box (w.setCell ⟨b, 0, none⟩ v) b v v1 v2 :=
  ⟨World.cell?_setCell_same _ _ _ h.c0, (World.cell?_setCell_other _ _ _ _ (by simp)).trans h.c1, (World.cell?_setCell_other _ _ _ _ (by simp)).trans h.c2, (World.frozen?_setCell ..).trans h.f0, (World.frozen?_setCell ..).trans h.f1, (World.frozen?_setCell ..).trans h.f2, by simpa [World.setCell] using h.lt⟩
theorem Box.keptN {w w' : World} {b : Nat} {v0 v1 v2 : Value} {r : Option Nat} (h : Box w b v0 v1 v2) (k : Kept w w' r) (hr : some b ≠ r) : Box w' b v0 v1 v2 := by
  have e := k.block b h.lt hr
  exact ⟨(World.cell?_of_block (w := w) (a := ⟨b, 0, none⟩) e).trans h.c0, (World.cell?_of_block (w := w) (a := ⟨b, 1, none⟩) e).trans h.c1, (World.cell?_of_block (w := w) (a := ⟨b, 2, none⟩) e).trans h.c2, (World.frozen?_of_block (w := w) (a := ⟨b, 0, none⟩) e).trans h.f0, (World.frozen?_of_block (w := w) (a := ⟨b, 1, none⟩) e).trans h.f1, (World.frozen?_of_block (w := w) (a := ⟨b, 2, none⟩) e).trans h.f2, Nat.lt_of_lt_of_le h.lt k.size⟩
/-- As many of a list's numbers as were reckoned. -/
def lstF (f : Nat → Int) (k : Nat) : List Int := (List.range k).map f
theorem lstF_succ (f : Nat → Int) (k : Nat) : lstF f k ++ [f k] = lstF f (k + 1) := by simp [lstF, List.range_succ]
theorem lstF_len (f : Nat → Int) (k : Nat) : (lstF f k).length = k := by simp [lstF]
theorem OwI.row {w : World} {base n : Nat} {v : Value} {f : Nat → Int} (h : OwI w base v (lstF f n)) (hn : 0 < n) : ∃ g cap, v = .slice (some ⟨g, 0, none⟩) n cap ∧ base ≤ g ∧ RowI w g n cap f := by
  unfold OwI at h
  rw [lstF_len] at h
  obtain ⟨g, cap, e, hb, hr⟩ := own_row (f := fun i => (lstF f n).getD i 0) h hn
  exact ⟨g, cap, e, hb, hr.congr (fun i hi => map_get hi)⟩
/-- How Near stands: the plan that is made, and what was appended. -/
structure Nr (WA wr : World) (C O : Int) (v8 v2 : Value) (lw ls : List Int) : Prop where
  k : Kept WA wr none
  b : Box wr WA.heap.size (.int .i64 C) (.int .i64 O) v2
  w : OwI wr (WA.heap.size + 1) v8 lw
  s : OwI wr (WA.heap.size + 1) v2 ls
  d : ∀ g, v8.ownBlock = some g → v2.ownBlock ≠ some g
theorem Nr.kept {WA wr w' : World} {C O : Int} {v8 v2 : Value} {lw ls : List Int} (h : Nr WA wr C O v8 v2 lw ls) (q : Kept wr w' none) : Nr WA w' C O v8 v2 lw ls := ⟨h.k.tr q, h.b.kept q, h.w.kept q, h.s.kept q, h.d⟩
theorem Nr.wish {WA wr : World} {C O : Int} {v8 v2 : Value} {lw ls : List Int} (h : Nr WA wr C O v8 v2 lw ls) (x : Int) (hn : lw.length ≤ 1000) : ∃ v' w', (Builtin.append_ #[22, 22] 22 #[v8, .slice (some ⟨wr.heap.size, 0, none⟩) 1 1]).run Tryd.prog (wr.alloc (.cells #[.int .i64 x] 3)) = .ok v' w' ∧ Nr WA w' C O v' v2 (lw ++ [x]) ls := by
  have hlt := h.b.lt
  obtain ⟨v', w', hr, hO, hk, hv⟩ := h.w.grow x hn (by omega)
  refine ⟨v', w', hr, h.w.far hk h.k (by omega), h.b.keptN hk (fun e => by have := (h.w.lt _ e.symm).1; omega), hO, h.s.keptR hk (fun g e e2 => h.d g e2.symm e), fun g e e2 => ?_⟩
  rcases hv with hv | hv
  · exact h.d g (by rw [← hv]; exact e) e2
  · rw [hv] at e
    have := (h.s.lt _ e2).2
    injection e with e
    omega
theorem Nr.least {WA wr : World} {C O : Int} {v8 v2 : Value} {lw ls : List Int} (h : Nr WA wr C O v8 v2 lw ls) (x : Int) (hn : ls.length ≤ 1000) : ∃ v' w', (∃ a n c, v' = .slice a n c) ∧ (Builtin.append_ #[22, 22] 22 #[v2, .slice (some ⟨wr.heap.size, 0, none⟩) 1 1]).run Tryd.prog (wr.alloc (.cells #[.int .i64 x] 3)) = .ok v' w' ∧ Box w' WA.heap.size (.int .i64 C) (.int .i64 O) v2 ∧ Nr WA (w'.setCell ⟨WA.heap.size, 2, none⟩ v') C O v8 v' lw (ls ++ [x]) := by
  have hlt := h.b.lt
  obtain ⟨v', w', hr, hO, hk, hv⟩ := h.s.grow x hn (by omega)
  have hb : Box w' WA.heap.size (.int .i64 C) (.int .i64 O) v2 := h.b.keptN hk (fun e => by have := (h.s.lt _ e.symm).1; omega)
  have hW : OwI w' (WA.heap.size + 1) v8 lw := h.w.keptR hk (fun g e e2 => h.d g e e2.symm)
  have kS : Kept w' (w'.setCell ⟨WA.heap.size, 2, none⟩ v') (some WA.heap.size) := (Kept.refl w' _).setRow _ _
  have hsh : ∃ a n c, v' = .slice a n c := by
    obtain ⟨_, ⟨e, _⟩ | ⟨g, cap, cur, e, _⟩⟩ := hO
    · exact ⟨_, _, _, e⟩
    · exact ⟨_, _, _, e⟩
  refine ⟨v', w', hsh, hr, hb, (h.s.far hk h.k (by omega)).setNew (p := ⟨WA.heap.size, 2, none⟩) (Nat.le_refl _) _, hb.set2 _, hW.keptR kS (fun g e e2 => by injection e2 with e2; have := (hW.lt _ e).1; omega), hO.keptR kS (fun g e e2 => by injection e2 with e2; have := (hO.lt _ e).1; omega), fun g e e2 => ?_⟩
  rcases hv with hv | hv
  · exact h.d g e (by rw [← hv]; exact e2)
  · rw [hv] at e2
    have := (h.w.lt _ e).2
    injection e2 with e2
    omega
/-- How Near stands while it shares. -/
structure Ns (WA wr : World) (C O : Int) (gw n cw gs cs : Nat) (fw fs : Nat → Int) : Prop where
  k : Kept WA wr none
  b : Box wr WA.heap.size (.int .i64 C) (.int .i64 O) (.slice (some ⟨gs, 0, none⟩) n cs)
  w : RowI wr gw n cw fw
  s : RowI wr gs n cs fs
  d : gw ≠ gs
  g : WA.heap.size + 1 ≤ gs
theorem Ns.set {WA wr : World} {C O : Int} {gw n cw gs cs : Nat} {fw fs : Nat → Int} (h : Ns WA wr C O gw n cw gs cs fw fs) {i : Nat} (hi : i < n) (v : Int) : Ns WA (wr.setCell ⟨gs, i, none⟩ (.int .i64 v)) C O gw n cw gs cs fw (fun j => if j = i then v else fs j) := by
  have hg := h.g
  have hd := h.d
  exact ⟨h.k.setNew (p := ⟨gs, i, none⟩) (by show WA.heap.size ≤ gs; omega) _, h.b.other (p := ⟨gs, i, none⟩) (by show gs ≠ WA.heap.size; omega) _, h.w.kept ((Kept.refl wr (some gs)).setRow i _) (fun e => by injection e with e; exact hd e), h.s.set hi v, h.d, h.g⟩
theorem Ns.congr {WA wr : World} {C O : Int} {gw n cw gs cs : Nat} {fw fs fs' : Nat → Int} (h : Ns WA wr C O gw n cw gs cs fw fs) (e : ∀ i, i < n → fs i = fs' i) : Ns WA wr C O gw n cw gs cs fw fs' := ⟨h.k, h.b, h.w, h.s.congr e, h.d, h.g⟩
theorem Nr.done {WA wr : World} {C O : Int} {v8 v2 : Value} {n : Nat} {fw fs : Nat → Int} (h : Nr WA wr C O v8 v2 (lstF fw n) (lstF fs n)) (hn : 0 < n) : ∃ gw cw gs cs, v8 = .slice (some ⟨gw, 0, none⟩) n cw ∧ v2 = .slice (some ⟨gs, 0, none⟩) n cs ∧ Ns WA wr C O gw n cw gs cs fw fs := by
  obtain ⟨gw, cw, rfl, hb1, hr1⟩ := h.w.row hn
  obtain ⟨gs, cs, rfl, hb2, hr2⟩ := h.s.row hn
  exact ⟨gw, cw, gs, cs, rfl, rfl, h.k, h.b, hr1, hr2, fun e => h.d gw rfl (by rw [e]; rfl), hb2⟩
/-- The remainder that is told for the Offset. -/
theorem off_tm {n b : Int} (h1 : 1 ≤ b) : (if n.tmod b < 0 then n.tmod b + b else n.tmod b) = n % b ∧ n.tmod b < b ∧ -b < n.tmod b := by
  have hm1 : n.tmod b < b := Int.tmod_lt_of_pos n (by omega)
  have hm2 : -b < n.tmod b := by
    have h3 : (-n).tmod b < b := Int.tmod_lt_of_pos (-n) (by omega)
    rw [Int.neg_tmod] at h3
    omega
  have hq : (n.tmod b + b) % b = n % b := by
    rw [Int.add_emod_right, Int.tmod_eq_emod]
    split
    · show (n % b - 0) % b = n % b
      rw [Int.sub_zero, Int.emod_emod_of_dvd _ (Int.dvd_refl b)]
    · rw [show (b.natAbs : Int) = b by omega, Int.sub_emod, Int.emod_self, Int.sub_zero, Int.emod_emod_of_dvd _ (Int.dvd_refl b), Int.emod_emod_of_dvd _ (Int.dvd_refl b)]
  refine ⟨?_, hm1, hm2⟩
  split
  · rw [← hq, Int.emod_eq_of_lt (by omega) (by omega)]
  · rw [← hq, Int.add_emod_right, Int.emod_eq_of_lt (by omega) (by omega)]

end Go.Proofs.YtfhmfanmnhclfaaDoor
