/-
  Texts joined: some of those that the proofs of this seat stand on.
-/
import Derived.Test.YtcjkghajeohfjaaDoorPlanRJ
/-
  HOW IT STANDS WHILE A SITE IS READ: the boxes, the reader, the lists that have been read.
-/
namespace Go.Proofs.YtcjkghajeohfjaaDoor
open Go.RowKit Go.Lib Go.Deep
set_option linter.unusedVariables false
set_option linter.unusedSimpArgs false

abbrev zS : Array Value := #[.int .i64 0, .slice none 0 0, .slice none 0 0, .slice none 0 0, .slice none 0 0, .slice none 0 0, .int .i64 0, .int .i64 0, .int .i64 0, .int .i64 0, .int .i64 0, .slice none 0 0]
def fS (c : Array Value) (i : Nat) : Value := c[i]?.getD undef
theorem fS_set (c : Array Value) (j : Nat) (v : Value) (hj : j < c.size) (i : Nat) : (if i = j then v else fS c i) = fS (c.setIfInBounds j v) i := by
  unfold fS
  rw [Array.getElem?_setIfInBounds]
  by_cases h : i = j
  · subst h; simp [hj]
  · rw [if_neg h, if_neg (fun e => h e.symm)]
/-- The boxes and the reader. -/
structure Sit (w wx : World) (H b g : Nat) (c : Array Value) (s : Rd) : Prop where
  rd : Rdr wx H b s
  bx : wx.cell? ⟨w.heap.size, 0, none⟩ = some (.pointer (some ⟨b, 0, none⟩))
  res : wx.rowIs (w.heap.size + 1) 29 12 (fS zS)
  box : wx.rowIs g 29 12 (fS c)
  gt : w.heap.size + 1 < g
  kept : Kept w wx (some b)
  hi : H ≤ w.heap.size
theorem Sit.lt {w wx : World} {H b g : Nat} {c : Array Value} {s : Rd} (h : Sit w wx H b g c s) : b < w.heap.size := by have := h.rd.lt; have := h.hi; omega
theorem Sit.up {w wx : World} {H b g : Nat} {c : Array Value} {s : Rd} (h : Sit w wx H b g c s) : H ≤ wx.heap.size := by have := h.hi; have := h.kept.size; omega
theorem Sit.call {w wx w' : World} {H b g : Nat} {c : Array Value} {s s' : Rd} (h : Sit w wx H b g c s) (hk : Kept wx w' (some b)) (hr : Rdr w' H b s') : Sit w w' H b g c s' := by
  have hb := h.lt
  have hg := h.gt
  exact ⟨hr, cell_keptR h.bx hk (fun e => by have := Option.some.inj e; omega), row_kept h.res hk (fun e => by have := Option.some.inj e; omega), row_kept h.box hk (fun e => by have := Option.some.inj e; omega), h.gt, h.kept.tr hk, h.hi⟩
theorem Sit.drew {w wx : World} {H b g : Nat} {c : Array Value} {s : Rd} (h : Sit w wx H b g c s) : Sit w wx.drew H b g c s := h.call (Kept.drew _ _) h.rd.drew
theorem Sit.alloc {w wx : World} {H b g : Nat} {c : Array Value} {s : Rd} (h : Sit w wx H b g c s) (d : Array Value) (t : TypeId) : Sit w (wx.alloc (.cells d t)) H b g c s := h.call (Kept.alloc _ _ _ (0, 0) _) (h.rd.alloc _ _)
theorem Sit.put {w wx : World} {H b g : Nat} {c : Array Value} {s : Rd} (h : Sit w wx H b g c s) (j : Nat) (v : Value) (hj : j < c.size) : Sit w (wx.setCell ⟨g, j, none⟩ v) H b g (c.setIfInBounds j v) s := by
  have hg := h.gt
  have hi := h.hi
  refine ⟨h.rd.setNew (by omega) j v, (World.cell?_setCell_other _ _ _ _ (by intro e; injection e with e1; omega)).trans h.bx, h.res.setOther (by show _ ≠ g; omega) v, (h.box.set j v).congr (fun i _ => fS_set c j v hj i), h.gt, kept_new h.kept (by omega) j v, h.hi⟩
/-- What leaves the blocks from lo on as they are. -/
structure Ltr (lo : Nat) (w w' : World) : Prop where
  size : w.heap.size ≤ w'.heap.size
  block : ∀ k, lo ≤ k → k < w.heap.size → w'.heap[k]? = w.heap[k]?
theorem Ltr.tr {lo : Nat} {a b c : World} (h : Ltr lo a b) (k : Ltr lo b c) : Ltr lo a c := ⟨Nat.le_trans h.size k.size, fun i hi hl => (k.block i hi (Nat.lt_of_lt_of_le hl h.size)).trans (h.block i hi hl)⟩
theorem Ltr.up {lo lo' : Nat} {a b : World} (h : Ltr lo a b) (q : lo ≤ lo') : Ltr lo' a b := ⟨h.size, fun i hi hl => h.block i (Nat.le_trans q hi) hl⟩
theorem Ltr.rfl' {lo : Nat} {a : World} : Ltr lo a a := ⟨Nat.le_refl _, fun _ _ _ => rfl⟩
theorem Ltr.of_none {lo : Nat} {w w' : World} (h : Kept w w' none) : Ltr lo w w' := ⟨h.size, fun k _ hl => h.block k hl (by simp)⟩
theorem Kept.ltr {w w' : World} {x lo : Nat} (h : Kept w w' (some x)) (hx : x < lo) : Ltr lo w w' := ⟨h.size, fun k hk hl => h.block k hl (fun e => by have := Option.some.inj e; omega)⟩
theorem Ltr.set {lo : Nat} (w : World) {g : Nat} (hg : g < lo) (j : Nat) (v : Value) : Ltr lo w (w.setCell ⟨g, j, none⟩ v) := (kept_set w g j v).ltr hg
theorem Ltr.cell {lo : Nat} {w w' : World} {b j : Nat} {v : Value} (q : Ltr lo w w') (h : w.cell? ⟨b, j, none⟩ = some v) (hb : lo ≤ b) : w'.cell? ⟨b, j, none⟩ = some v :=
  (World.cell?_of_block (w := w) (a := ⟨b, j, none⟩) (q.block b hb (block_lt h))).trans h
/-- A list in a new block. -/
structure LieN (w : World) (lo a n k : Nat) (f : Nat → Nat → Value) : Prop where
  lie : Lie w (some ⟨a, 0, none⟩) n k f
  lo : lo ≤ a
theorem Lie.ltr {lo : Nat} {w w' : World} {a n k : Nat} {f : Nat → Nat → Value} (h : Lie w (some ⟨a, 0, none⟩) n k f) (q : Ltr lo w w') (hl : lo ≤ a) : Lie w' (some ⟨a, 0, none⟩) n k f :=
  ⟨fun hp => by
    obtain ⟨b, off, e, hb, hc⟩ := h.at_ hp
    injection e with e
    injection e with e1 e2
    subst e1 e2
    exact ⟨a, 0, rfl, Nat.lt_of_lt_of_le hb q.size, fun i hi j hj => q.cell (hc i hi j hj) hl⟩⟩
theorem LieN.ltr {lo : Nat} {w w' : World} {a n k : Nat} {f : Nat → Nat → Value} (h : LieN w lo a n k f) (q : Ltr lo w w') : LieN w' lo a n k f := ⟨h.lie.ltr q h.lo, h.lo⟩
theorem GrN.ltr {lo : Nat} {w w' : World} {a n : Nat} {l : List (List Int)} (h : GrN w lo a n l) (q : Ltr lo w w') : GrN w' lo a n l := by
  obtain ⟨⟨r, h1, h2⟩, h3⟩ := h
  exact ⟨⟨r, h1.ltr q h3, fun i hi => ⟨(h2 i hi).1, (h2 i hi).2.ltr q (h2 i hi).1⟩⟩, h3⟩
theorem PlN.ltr {lo : Nat} {w w' : World} {a n : Nat} {l : List Pl} (h : PlN w lo a n l) (q : Ltr lo w w') : PlN w' lo a n l := by
  obtain ⟨⟨r, h1, h2⟩, h3⟩ := h
  exact ⟨⟨r, h1.ltr q h3, fun i hi => ⟨(h2 i hi).1, (h2 i hi).2.ltr q (h2 i hi).1⟩⟩, h3⟩
theorem GrN.down {lo lo' : Nat} {w : World} {a n : Nat} {l : List (List Int)} (h : GrN w lo a n l) (q : lo' ≤ lo) : GrN w lo' a n l := by
  obtain ⟨⟨r, h1, h2⟩, h3⟩ := h
  exact ⟨⟨r, h1, fun i hi => ⟨Nat.le_trans q (h2 i hi).1, (h2 i hi).2⟩⟩, Nat.le_trans q h3⟩
theorem PlN.down {lo lo' : Nat} {w : World} {a n : Nat} {l : List Pl} (h : PlN w lo a n l) (q : lo' ≤ lo) : PlN w lo' a n l := by
  obtain ⟨⟨r, h1, h2⟩, h3⟩ := h
  exact ⟨⟨r, h1, fun i hi => ⟨Nat.le_trans q (h2 i hi).1, (h2 i hi).2⟩⟩, Nat.le_trans q h3⟩
/-- The result's cells, one after another. -/
structure Fin12 (w wb wx : World) (H b g : Nat) (c : Array Value) (s : Rd) : Prop where
  rd : Rdr wx H b s
  row : wx.rowIs (w.heap.size + 1) 29 12 (fS c)
  kept : Kept w wx (some b)
  ltr : Ltr (g + 1) wb wx
  gt : w.heap.size + 1 < g
  hi : H ≤ w.heap.size
theorem Sit.fin {w wx : World} {H b g : Nat} {c : Array Value} {s : Rd} (h : Sit w wx H b g c s) (j : Nat) (v : Value) (hj : j < c.size) : Fin12 w wx (wx.setCell ⟨g, j, none⟩ v) H b g zS s :=
  ⟨(h.put j v hj).rd, (h.put j v hj).res, (h.put j v hj).kept, Ltr.set wx (Nat.lt_succ_self g) j v, h.gt, h.hi⟩
theorem Fin12.put {w wb wx : World} {H b g : Nat} {c : Array Value} {s : Rd} (h : Fin12 w wb wx H b g c s) (j : Nat) (v : Value) (hj : j < c.size) : Fin12 w wb (wx.setCell ⟨w.heap.size + 1, j, none⟩ v) H b g (c.setIfInBounds j v) s := by
  have hi := h.hi
  have hg := h.gt
  exact ⟨h.rd.setNew (by omega) j v, (h.row.set j v).congr (fun i _ => fS_set c j v hj i), kept_new h.kept (by omega) j v, h.ltr.tr (Ltr.set wx (by omega) j v), h.gt, h.hi⟩
theorem set12 (v0 v1 v2 v3 v4 v5 v6 v7 v8 v9 v10 v11 : Value) : ((((((((((((zS.setIfInBounds 0 v0).setIfInBounds 1 v1).setIfInBounds 2 v2).setIfInBounds 3 v3).setIfInBounds 4 v4).setIfInBounds 5 v5).setIfInBounds 6 v6).setIfInBounds 7 v7).setIfInBounds 8 v8).setIfInBounds 9 v9).setIfInBounds 10 v10).setIfInBounds 11 v11) = #[v0, v1, v2, v3, v4, v5, v6, v7, v8, v9, v10, v11] := by simp only [zS, List.setIfInBounds_toArray, List.set_cons_zero, List.set_cons_succ]
theorem row12 {w0 wx : World} {B lo : Nat} (h : wx.rowIs B 29 12 (fS zS)) (hk : Kept w0 wx none) (hB : w0.heap.size ≤ B) (hl : B < lo) (v0 v1 v2 v3 v4 v5 v6 v7 v8 v9 v10 v11 : Value) : Kept w0 ((((((((((((wx.setCell ⟨B, 0, none⟩ v0).setCell ⟨B, 1, none⟩ v1).setCell ⟨B, 2, none⟩ v2).setCell ⟨B, 3, none⟩ v3).setCell ⟨B, 4, none⟩ v4).setCell ⟨B, 5, none⟩ v5).setCell ⟨B, 6, none⟩ v6).setCell ⟨B, 7, none⟩ v7).setCell ⟨B, 8, none⟩ v8).setCell ⟨B, 9, none⟩ v9).setCell ⟨B, 10, none⟩ v10).setCell ⟨B, 11, none⟩ v11) none ∧ Ltr lo wx ((((((((((((wx.setCell ⟨B, 0, none⟩ v0).setCell ⟨B, 1, none⟩ v1).setCell ⟨B, 2, none⟩ v2).setCell ⟨B, 3, none⟩ v3).setCell ⟨B, 4, none⟩ v4).setCell ⟨B, 5, none⟩ v5).setCell ⟨B, 6, none⟩ v6).setCell ⟨B, 7, none⟩ v7).setCell ⟨B, 8, none⟩ v8).setCell ⟨B, 9, none⟩ v9).setCell ⟨B, 10, none⟩ v10).setCell ⟨B, 11, none⟩ v11) ∧ ((((((((((((wx.setCell ⟨B, 0, none⟩ v0).setCell ⟨B, 1, none⟩ v1).setCell ⟨B, 2, none⟩ v2).setCell ⟨B, 3, none⟩ v3).setCell ⟨B, 4, none⟩ v4).setCell ⟨B, 5, none⟩ v5).setCell ⟨B, 6, none⟩ v6).setCell ⟨B, 7, none⟩ v7).setCell ⟨B, 8, none⟩ v8).setCell ⟨B, 9, none⟩ v9).setCell ⟨B, 10, none⟩ v10).setCell ⟨B, 11, none⟩ v11).cell? ⟨B, 0, none⟩ = some v0 ∧ ((((((((((((wx.setCell ⟨B, 0, none⟩ v0).setCell ⟨B, 1, none⟩ v1).setCell ⟨B, 2, none⟩ v2).setCell ⟨B, 3, none⟩ v3).setCell ⟨B, 4, none⟩ v4).setCell ⟨B, 5, none⟩ v5).setCell ⟨B, 6, none⟩ v6).setCell ⟨B, 7, none⟩ v7).setCell ⟨B, 8, none⟩ v8).setCell ⟨B, 9, none⟩ v9).setCell ⟨B, 10, none⟩ v10).setCell ⟨B, 11, none⟩ v11).cell? ⟨B, 1, none⟩ = some v1 ∧ ((((((((((((wx.setCell ⟨B, 0, none⟩ v0).setCell ⟨B, 1, none⟩ v1).setCell ⟨B, 2, none⟩ v2).setCell ⟨B, 3, none⟩ v3).setCell ⟨B, 4, none⟩ v4).setCell ⟨B, 5, none⟩ v5).setCell ⟨B, 6, none⟩ v6).setCell ⟨B, 7, none⟩ v7).setCell ⟨B, 8, none⟩ v8).setCell ⟨B, 9, none⟩ v9).setCell ⟨B, 10, none⟩ v10).setCell ⟨B, 11, none⟩ v11).cell? ⟨B, 2, none⟩ = some v2 ∧ ((((((((((((wx.setCell ⟨B, 0, none⟩ v0).setCell ⟨B, 1, none⟩ v1).setCell ⟨B, 2, none⟩ v2).setCell ⟨B, 3, none⟩ v3).setCell ⟨B, 4, none⟩ v4).setCell ⟨B, 5, none⟩ v5).setCell ⟨B, 6, none⟩ v6).setCell ⟨B, 7, none⟩ v7).setCell ⟨B, 8, none⟩ v8).setCell ⟨B, 9, none⟩ v9).setCell ⟨B, 10, none⟩ v10).setCell ⟨B, 11, none⟩ v11).cell? ⟨B, 3, none⟩ = some v3 ∧ ((((((((((((wx.setCell ⟨B, 0, none⟩ v0).setCell ⟨B, 1, none⟩ v1).setCell ⟨B, 2, none⟩ v2).setCell ⟨B, 3, none⟩ v3).setCell ⟨B, 4, none⟩ v4).setCell ⟨B, 5, none⟩ v5).setCell ⟨B, 6, none⟩ v6).setCell ⟨B, 7, none⟩ v7).setCell ⟨B, 8, none⟩ v8).setCell ⟨B, 9, none⟩ v9).setCell ⟨B, 10, none⟩ v10).setCell ⟨B, 11, none⟩ v11).cell? ⟨B, 4, none⟩ = some v4 ∧ ((((((((((((wx.setCell ⟨B, 0, none⟩ v0).setCell ⟨B, 1, none⟩ v1).setCell ⟨B, 2, none⟩ v2).setCell ⟨B, 3, none⟩ v3).setCell ⟨B, 4, none⟩ v4).setCell ⟨B, 5, none⟩ v5).setCell ⟨B, 6, none⟩ v6).setCell ⟨B, 7, none⟩ v7).setCell ⟨B, 8, none⟩ v8).setCell ⟨B, 9, none⟩ v9).setCell ⟨B, 10, none⟩ v10).setCell ⟨B, 11, none⟩ v11).cell? ⟨B, 5, none⟩ = some v5 ∧ ((((((((((((wx.setCell ⟨B, 0, none⟩ v0).setCell ⟨B, 1, none⟩ v1).setCell ⟨B, 2, none⟩ v2).setCell ⟨B, 3, none⟩ v3).setCell ⟨B, 4, none⟩ v4).setCell ⟨B, 5, none⟩ v5).setCell ⟨B, 6, none⟩ v6).setCell ⟨B, 7, none⟩ v7).setCell ⟨B, 8, none⟩ v8).setCell ⟨B, 9, none⟩ v9).setCell ⟨B, 10, none⟩ v10).setCell ⟨B, 11, none⟩ v11).cell? ⟨B, 6, none⟩ = some v6 ∧ ((((((((((((wx.setCell ⟨B, 0, none⟩ v0).setCell ⟨B, 1, none⟩ v1).setCell ⟨B, 2, none⟩ v2).setCell ⟨B, 3, none⟩ v3).setCell ⟨B, 4, none⟩ v4).setCell ⟨B, 5, none⟩ v5).setCell ⟨B, 6, none⟩ v6).setCell ⟨B, 7, none⟩ v7).setCell ⟨B, 8, none⟩ v8).setCell ⟨B, 9, none⟩ v9).setCell ⟨B, 10, none⟩ v10).setCell ⟨B, 11, none⟩ v11).cell? ⟨B, 7, none⟩ = some v7 ∧ ((((((((((((wx.setCell ⟨B, 0, none⟩ v0).setCell ⟨B, 1, none⟩ v1).setCell ⟨B, 2, none⟩ v2).setCell ⟨B, 3, none⟩ v3).setCell ⟨B, 4, none⟩ v4).setCell ⟨B, 5, none⟩ v5).setCell ⟨B, 6, none⟩ v6).setCell ⟨B, 7, none⟩ v7).setCell ⟨B, 8, none⟩ v8).setCell ⟨B, 9, none⟩ v9).setCell ⟨B, 10, none⟩ v10).setCell ⟨B, 11, none⟩ v11).cell? ⟨B, 8, none⟩ = some v8 ∧ ((((((((((((wx.setCell ⟨B, 0, none⟩ v0).setCell ⟨B, 1, none⟩ v1).setCell ⟨B, 2, none⟩ v2).setCell ⟨B, 3, none⟩ v3).setCell ⟨B, 4, none⟩ v4).setCell ⟨B, 5, none⟩ v5).setCell ⟨B, 6, none⟩ v6).setCell ⟨B, 7, none⟩ v7).setCell ⟨B, 8, none⟩ v8).setCell ⟨B, 9, none⟩ v9).setCell ⟨B, 10, none⟩ v10).setCell ⟨B, 11, none⟩ v11).cell? ⟨B, 9, none⟩ = some v9 ∧ ((((((((((((wx.setCell ⟨B, 0, none⟩ v0).setCell ⟨B, 1, none⟩ v1).setCell ⟨B, 2, none⟩ v2).setCell ⟨B, 3, none⟩ v3).setCell ⟨B, 4, none⟩ v4).setCell ⟨B, 5, none⟩ v5).setCell ⟨B, 6, none⟩ v6).setCell ⟨B, 7, none⟩ v7).setCell ⟨B, 8, none⟩ v8).setCell ⟨B, 9, none⟩ v9).setCell ⟨B, 10, none⟩ v10).setCell ⟨B, 11, none⟩ v11).cell? ⟨B, 10, none⟩ = some v10 ∧ ((((((((((((wx.setCell ⟨B, 0, none⟩ v0).setCell ⟨B, 1, none⟩ v1).setCell ⟨B, 2, none⟩ v2).setCell ⟨B, 3, none⟩ v3).setCell ⟨B, 4, none⟩ v4).setCell ⟨B, 5, none⟩ v5).setCell ⟨B, 6, none⟩ v6).setCell ⟨B, 7, none⟩ v7).setCell ⟨B, 8, none⟩ v8).setCell ⟨B, 9, none⟩ v9).setCell ⟨B, 10, none⟩ v10).setCell ⟨B, 11, none⟩ v11).cell? ⟨B, 11, none⟩ = some v11 := by
  have e := ((((((((((((((((((((((((h.set 0 v0).congr (fun i _ => fS_set _ 0 v0 (by simp [zS]) i)).set 1 v1).congr (fun i _ => fS_set _ 1 v1 (by simp [zS]) i)).set 2 v2).congr (fun i _ => fS_set _ 2 v2 (by simp [zS]) i)).set 3 v3).congr (fun i _ => fS_set _ 3 v3 (by simp [zS]) i)).set 4 v4).congr (fun i _ => fS_set _ 4 v4 (by simp [zS]) i)).set 5 v5).congr (fun i _ => fS_set _ 5 v5 (by simp [zS]) i)).set 6 v6).congr (fun i _ => fS_set _ 6 v6 (by simp [zS]) i)).set 7 v7).congr (fun i _ => fS_set _ 7 v7 (by simp [zS]) i)).set 8 v8).congr (fun i _ => fS_set _ 8 v8 (by simp [zS]) i)).set 9 v9).congr (fun i _ => fS_set _ 9 v9 (by simp [zS]) i)).set 10 v10).congr (fun i _ => fS_set _ 10 v10 (by simp [zS]) i)).set 11 v11).congr (fun i _ => fS_set _ 11 v11 (by simp [zS]) i))
  rw [set12] at e
  exact ⟨(kept_new (kept_new (kept_new (kept_new (kept_new (kept_new (kept_new (kept_new (kept_new (kept_new (kept_new (kept_new hk hB 0 v0) hB 1 v1) hB 2 v2) hB 3 v3) hB 4 v4) hB 5 v5) hB 6 v6) hB 7 v7) hB 8 v8) hB 9 v9) hB 10 v10) hB 11 v11), ((((((((((((Ltr.rfl'.tr (Ltr.set _ hl 0 v0)).tr (Ltr.set _ hl 1 v1)).tr (Ltr.set _ hl 2 v2)).tr (Ltr.set _ hl 3 v3)).tr (Ltr.set _ hl 4 v4)).tr (Ltr.set _ hl 5 v5)).tr (Ltr.set _ hl 6 v6)).tr (Ltr.set _ hl 7 v7)).tr (Ltr.set _ hl 8 v8)).tr (Ltr.set _ hl 9 v9)).tr (Ltr.set _ hl 10 v10)).tr (Ltr.set _ hl 11 v11)), e.cell (i := 0) (by omega), e.cell (i := 1) (by omega), e.cell (i := 2) (by omega), e.cell (i := 3) (by omega), e.cell (i := 4) (by omega), e.cell (i := 5) (by omega), e.cell (i := 6) (by omega), e.cell (i := 7) (by omega), e.cell (i := 8) (by omega), e.cell (i := 9) (by omega), e.cell (i := 10) (by omega), e.cell (i := 11) (by omega)⟩
theorem Sit.fin12 {w wx : World} {H b g : Nat} {c : Array Value} {s : Rd} (h : Sit w wx H b g c s) (hc : c.size = 12) (p v0 v1 v2 v3 v4 v5 v6 v7 v8 v9 v10 v11 : Value) : Fin12 w wx (((((((((((((wx.setCell ⟨g, 11, none⟩ p).setCell ⟨w.heap.size + 1, 0, none⟩ v0).setCell ⟨w.heap.size + 1, 1, none⟩ v1).setCell ⟨w.heap.size + 1, 2, none⟩ v2).setCell ⟨w.heap.size + 1, 3, none⟩ v3).setCell ⟨w.heap.size + 1, 4, none⟩ v4).setCell ⟨w.heap.size + 1, 5, none⟩ v5).setCell ⟨w.heap.size + 1, 6, none⟩ v6).setCell ⟨w.heap.size + 1, 7, none⟩ v7).setCell ⟨w.heap.size + 1, 8, none⟩ v8).setCell ⟨w.heap.size + 1, 9, none⟩ v9).setCell ⟨w.heap.size + 1, 10, none⟩ v10).setCell ⟨w.heap.size + 1, 11, none⟩ v11) H b g #[v0, v1, v2, v3, v4, v5, v6, v7, v8, v9, v10, v11] s := by
  have e := (((((((((((((h.fin 11 p (by omega)).put 0 v0 (by simp)).put 1 v1 (by simp)).put 2 v2 (by simp)).put 3 v3 (by simp)).put 4 v4 (by simp)).put 5 v5 (by simp)).put 6 v6 (by simp)).put 7 v7 (by simp)).put 8 v8 (by simp)).put 9 v9 (by simp)).put 10 v10 (by simp)).put 11 v11 (by simp))
  rw [set12] at e
  exact e
theorem Fin12.cells {w wb wx : World} {H b g : Nat} {v0 v1 v2 v3 v4 v5 v6 v7 v8 v9 v10 v11 : Value} {s : Rd} (h : Fin12 w wb wx H b g #[v0, v1, v2, v3, v4, v5, v6, v7, v8, v9, v10, v11] s) : wx.cell? ⟨w.heap.size + 1, 0, none⟩ = some v0 ∧ wx.cell? ⟨w.heap.size + 1, 1, none⟩ = some v1 ∧ wx.cell? ⟨w.heap.size + 1, 2, none⟩ = some v2 ∧ wx.cell? ⟨w.heap.size + 1, 3, none⟩ = some v3 ∧ wx.cell? ⟨w.heap.size + 1, 4, none⟩ = some v4 ∧ wx.cell? ⟨w.heap.size + 1, 5, none⟩ = some v5 ∧ wx.cell? ⟨w.heap.size + 1, 6, none⟩ = some v6 ∧ wx.cell? ⟨w.heap.size + 1, 7, none⟩ = some v7 ∧ wx.cell? ⟨w.heap.size + 1, 8, none⟩ = some v8 ∧ wx.cell? ⟨w.heap.size + 1, 9, none⟩ = some v9 ∧ wx.cell? ⟨w.heap.size + 1, 10, none⟩ = some v10 ∧ wx.cell? ⟨w.heap.size + 1, 11, none⟩ = some v11 :=
  ⟨h.row.cell (i := 0) (by omega), h.row.cell (i := 1) (by omega), h.row.cell (i := 2) (by omega), h.row.cell (i := 3) (by omega), h.row.cell (i := 4) (by omega), h.row.cell (i := 5) (by omega), h.row.cell (i := 6) (by omega), h.row.cell (i := 7) (by omega), h.row.cell (i := 8) (by omega), h.row.cell (i := 9) (by omega), h.row.cell (i := 10) (by omega), h.row.cell (i := 11) (by omega)⟩

/-! ### What is read keeps within bounds -/
theorem listM_all {α : Type} {f : Rd → α × Rd} {P : α → Prop} (h : ∀ s, P (f s).1) : ∀ n s, ∀ x ∈ (listM f n s).1, P x
  | 0, s, x, hx => by simp [listM] at hx
  | n + 1, s, x, hx => by
    rw [listM, List.mem_cons] at hx
    rcases hx with rfl | hx
    · exact h s
    · exact listM_all h n _ x hx
theorem numM_le (s : Rd) : 0 ≤ (numM s).1 ∧ (numM s).1 ≤ 1048576 := by
  have := upM_le 1048576 s
  unfold numM
  dsimp only
  omega
theorem numM_i64 (s : Rd) : i64B (numM s).1 := by have := numM_le s; unfold i64B; omega
theorem grM_r (s : Rd) : (grM s).1.kind < 256 ∧ i64B (grM s).1.min ∧ i64B (grM s).1.yellow := ⟨by have := upM_le 255 s; show (upM 255 s).1 < 256; omega, numM_i64 _, numM_i64 _⟩
theorem phM_r (s : Rd) : (phM s).1.groups < 4294967296 ∧ i64B (phM s).1.min ∧ i64B (phM s).1.max ∧ i64B (phM s).1.gap := ⟨by have := upM_le 4294967295 s; show (upM 4294967295 s).1 < _; omega, numM_i64 _, numM_i64 _, numM_i64 _⟩
theorem eyM_r (s : Rd) : i64B (eyM s).1.phase ∧ i64B (eyM s).1.on ∧ i64B (eyM s).1.off ∧ i64B (eyM s).1.turns := ⟨numM_i64 _, numM_i64 _, numM_i64 _, numM_i64 _⟩
theorem plM_r (s : Rd) : (i64B (plM s).1.cycle ∧ i64B (plM s).1.offset) ∧ (plM s).1.splits.length ≤ 8 ∧ ∀ x ∈ (plM s).1.splits, i64B x :=
  ⟨⟨numM_i64 _, numM_i64 _⟩, by
    show (listM numM (upM 8 _).1 _).1.length ≤ 8
    rw [listM_len]
    exact upM_le _ _, listM_all numM_i64 _ _⟩
theorem plansM_r (s : Rd) : (plansM s).1.length ≤ 8 ∧ ∀ p ∈ (plansM s).1, (i64B p.cycle ∧ i64B p.offset) ∧ p.splits.length ≤ 8 ∧ ∀ x ∈ p.splits, i64B x :=
  ⟨by show (listM plM (upM 8 s).1 _).1.length ≤ 8; rw [listM_len]; exact upM_le _ _, listM_all (P := fun p : Pl => (i64B p.cycle ∧ i64B p.offset) ∧ p.splits.length ≤ 8 ∧ ∀ x ∈ p.splits, i64B x) plM_r _ _⟩
theorem cap_some {a : Addr} {n : Nat} (h : n ≤ 1000) : Cap (some a) n n := ⟨fun e => (nomatch e), Nat.le_refl _, by omega⟩
theorem PlN.plans {lo : Nat} {w : World} {a n : Nat} {l : List Pl} (h : PlN w lo a n l) (hn : l.length = n) (h8 : n ≤ 1000) (hr : ∀ p ∈ l, (i64B p.cycle ∧ i64B p.offset) ∧ p.splits.length ≤ 8 ∧ ∀ x ∈ p.splits, i64B x) : Plans w (some ⟨a, 0, none⟩) n n l := by
  obtain ⟨⟨r, h1, h2⟩, h3⟩ := h
  refine ⟨⟨fun i => (some ⟨r i, 0, none⟩, (l.getD i q0).splits.length), h1, fun i hi => ?_⟩, hn, cap_some h8, fun p hp => (hr p hp).1⟩
  have hm := hr _ (getD_mem (d := q0) (show i < l.length by omega))
  exact ⟨(h2 i hi).2, rfl, cap_some (by omega), hm.2.2⟩
theorem GrN.grid {lo : Nat} {w : World} {a n : Nat} {l : List (List Int)} (h : GrN w lo a n l) (hn : l.length = n) (h8 : n ≤ 1000) (hr : ∀ p ∈ l, p.length ≤ 1000 ∧ ∀ x ∈ p, i64B x) : Grid w (some ⟨a, 0, none⟩) n n l := by
  obtain ⟨⟨r, h1, h2⟩, h3⟩ := h
  refine ⟨⟨fun i => (some ⟨r i, 0, none⟩, (l.getD i []).length), h1, fun i hi => ?_⟩, hn, cap_some h8⟩
  have hm := hr _ (getD_mem (d := []) (show i < l.length by omega))
  exact ⟨(h2 i hi).2, rfl, cap_some hm.1, hm.2⟩

end Go.Proofs.YtcjkghajeohfjaaDoor

/-
  THE CONTRACT of site, the reader. (mksiter.py writes this text.)
-/
namespace Go.Proofs.YtcjkghajeohfjaaDoor
open Go.RowKit Go.Lib Go.Deep
set_option linter.unusedVariables false
set_option linter.unusedSimpArgs false

set_option maxRecDepth 100000 in
set_option maxHeartbeats 4000000 in
theorem site_rd {w : World} {H b : Nat} {s : Rd} (h : Rdr w H b s) (hH : H ≤ w.heap.size) : Calls Tryd.prog 25 #[.pointer (some ⟨b, 0, none⟩)] w fun e w' => ∃ X : Sa, e = .returned (siteV X (siteM s).1) ∧ (∀ w'', Ltr (w.heap.size + 1) w' w'' → Sat w'' X (siteM s).1) ∧ Rdr w' H b (siteM s).2 ∧ Kept w w' (some b) := by
  have hbl := h.lt
  have HE : siteM s = (⟨(numM s).1, (listM grM (upM 16 (numM s).2).1 (upM 16 (numM s).2).2).1, (listM (upM 4294967295) (listM grM (upM 16 (numM s).2).1 (upM 16 (numM s).2).2).1.length (listM grM (upM 16 (numM s).2).1 (upM 16 (numM s).2).2).2).1, (listM (listM numM (listM grM (upM 16 (numM s).2).1 (upM 16 (numM s).2).2).1.length) (listM grM (upM 16 (numM s).2).1 (upM 16 (numM s).2).2).1.length (listM (upM 4294967295) (listM grM (upM 16 (numM s).2).1 (upM 16 (numM s).2).2).1.length (listM grM (upM 16 (numM s).2).1 (upM 16 (numM s).2).2).2).2).1, (listM phM (upM 8 (listM (listM numM (listM grM (upM 16 (numM s).2).1 (upM 16 (numM s).2).2).1.length) (listM grM (upM 16 (numM s).2).1 (upM 16 (numM s).2).2).1.length (listM (upM 4294967295) (listM grM (upM 16 (numM s).2).1 (upM 16 (numM s).2).2).1.length (listM grM (upM 16 (numM s).2).1 (upM 16 (numM s).2).2).2).2).2).1 (upM 8 (listM (listM numM (listM grM (upM 16 (numM s).2).1 (upM 16 (numM s).2).2).1.length) (listM grM (upM 16 (numM s).2).1 (upM 16 (numM s).2).2).1.length (listM (upM 4294967295) (listM grM (upM 16 (numM s).2).1 (upM 16 (numM s).2).2).1.length (listM grM (upM 16 (numM s).2).1 (upM 16 (numM s).2).2).2).2).2).2).1, (listM eyM (upM 24 (listM phM (upM 8 (listM (listM numM (listM grM (upM 16 (numM s).2).1 (upM 16 (numM s).2).2).1.length) (listM grM (upM 16 (numM s).2).1 (upM 16 (numM s).2).2).1.length (listM (upM 4294967295) (listM grM (upM 16 (numM s).2).1 (upM 16 (numM s).2).2).1.length (listM grM (upM 16 (numM s).2).1 (upM 16 (numM s).2).2).2).2).2).1 (upM 8 (listM (listM numM (listM grM (upM 16 (numM s).2).1 (upM 16 (numM s).2).2).1.length) (listM grM (upM 16 (numM s).2).1 (upM 16 (numM s).2).2).1.length (listM (upM 4294967295) (listM grM (upM 16 (numM s).2).1 (upM 16 (numM s).2).2).1.length (listM grM (upM 16 (numM s).2).1 (upM 16 (numM s).2).2).2).2).2).2).2).1 (upM 24 (listM phM (upM 8 (listM (listM numM (listM grM (upM 16 (numM s).2).1 (upM 16 (numM s).2).2).1.length) (listM grM (upM 16 (numM s).2).1 (upM 16 (numM s).2).2).1.length (listM (upM 4294967295) (listM grM (upM 16 (numM s).2).1 (upM 16 (numM s).2).2).1.length (listM grM (upM 16 (numM s).2).1 (upM 16 (numM s).2).2).2).2).2).1 (upM 8 (listM (listM numM (listM grM (upM 16 (numM s).2).1 (upM 16 (numM s).2).2).1.length) (listM grM (upM 16 (numM s).2).1 (upM 16 (numM s).2).2).1.length (listM (upM 4294967295) (listM grM (upM 16 (numM s).2).1 (upM 16 (numM s).2).2).1.length (listM grM (upM 16 (numM s).2).1 (upM 16 (numM s).2).2).2).2).2).2).2).2).1, (numM (listM eyM (upM 24 (listM phM (upM 8 (listM (listM numM (listM grM (upM 16 (numM s).2).1 (upM 16 (numM s).2).2).1.length) (listM grM (upM 16 (numM s).2).1 (upM 16 (numM s).2).2).1.length (listM (upM 4294967295) (listM grM (upM 16 (numM s).2).1 (upM 16 (numM s).2).2).1.length (listM grM (upM 16 (numM s).2).1 (upM 16 (numM s).2).2).2).2).2).1 (upM 8 (listM (listM numM (listM grM (upM 16 (numM s).2).1 (upM 16 (numM s).2).2).1.length) (listM grM (upM 16 (numM s).2).1 (upM 16 (numM s).2).2).1.length (listM (upM 4294967295) (listM grM (upM 16 (numM s).2).1 (upM 16 (numM s).2).2).1.length (listM grM (upM 16 (numM s).2).1 (upM 16 (numM s).2).2).2).2).2).2).2).1 (upM 24 (listM phM (upM 8 (listM (listM numM (listM grM (upM 16 (numM s).2).1 (upM 16 (numM s).2).2).1.length) (listM grM (upM 16 (numM s).2).1 (upM 16 (numM s).2).2).1.length (listM (upM 4294967295) (listM grM (upM 16 (numM s).2).1 (upM 16 (numM s).2).2).1.length (listM grM (upM 16 (numM s).2).1 (upM 16 (numM s).2).2).2).2).2).1 (upM 8 (listM (listM numM (listM grM (upM 16 (numM s).2).1 (upM 16 (numM s).2).2).1.length) (listM grM (upM 16 (numM s).2).1 (upM 16 (numM s).2).2).1.length (listM (upM 4294967295) (listM grM (upM 16 (numM s).2).1 (upM 16 (numM s).2).2).1.length (listM grM (upM 16 (numM s).2).1 (upM 16 (numM s).2).2).2).2).2).2).2).2).2).1, (numM (numM (listM eyM (upM 24 (listM phM (upM 8 (listM (listM numM (listM grM (upM 16 (numM s).2).1 (upM 16 (numM s).2).2).1.length) (listM grM (upM 16 (numM s).2).1 (upM 16 (numM s).2).2).1.length (listM (upM 4294967295) (listM grM (upM 16 (numM s).2).1 (upM 16 (numM s).2).2).1.length (listM grM (upM 16 (numM s).2).1 (upM 16 (numM s).2).2).2).2).2).1 (upM 8 (listM (listM numM (listM grM (upM 16 (numM s).2).1 (upM 16 (numM s).2).2).1.length) (listM grM (upM 16 (numM s).2).1 (upM 16 (numM s).2).2).1.length (listM (upM 4294967295) (listM grM (upM 16 (numM s).2).1 (upM 16 (numM s).2).2).1.length (listM grM (upM 16 (numM s).2).1 (upM 16 (numM s).2).2).2).2).2).2).2).1 (upM 24 (listM phM (upM 8 (listM (listM numM (listM grM (upM 16 (numM s).2).1 (upM 16 (numM s).2).2).1.length) (listM grM (upM 16 (numM s).2).1 (upM 16 (numM s).2).2).1.length (listM (upM 4294967295) (listM grM (upM 16 (numM s).2).1 (upM 16 (numM s).2).2).1.length (listM grM (upM 16 (numM s).2).1 (upM 16 (numM s).2).2).2).2).2).1 (upM 8 (listM (listM numM (listM grM (upM 16 (numM s).2).1 (upM 16 (numM s).2).2).1.length) (listM grM (upM 16 (numM s).2).1 (upM 16 (numM s).2).2).1.length (listM (upM 4294967295) (listM grM (upM 16 (numM s).2).1 (upM 16 (numM s).2).2).1.length (listM grM (upM 16 (numM s).2).1 (upM 16 (numM s).2).2).2).2).2).2).2).2).2).2).1, (numM (numM (numM (listM eyM (upM 24 (listM phM (upM 8 (listM (listM numM (listM grM (upM 16 (numM s).2).1 (upM 16 (numM s).2).2).1.length) (listM grM (upM 16 (numM s).2).1 (upM 16 (numM s).2).2).1.length (listM (upM 4294967295) (listM grM (upM 16 (numM s).2).1 (upM 16 (numM s).2).2).1.length (listM grM (upM 16 (numM s).2).1 (upM 16 (numM s).2).2).2).2).2).1 (upM 8 (listM (listM numM (listM grM (upM 16 (numM s).2).1 (upM 16 (numM s).2).2).1.length) (listM grM (upM 16 (numM s).2).1 (upM 16 (numM s).2).2).1.length (listM (upM 4294967295) (listM grM (upM 16 (numM s).2).1 (upM 16 (numM s).2).2).1.length (listM grM (upM 16 (numM s).2).1 (upM 16 (numM s).2).2).2).2).2).2).2).1 (upM 24 (listM phM (upM 8 (listM (listM numM (listM grM (upM 16 (numM s).2).1 (upM 16 (numM s).2).2).1.length) (listM grM (upM 16 (numM s).2).1 (upM 16 (numM s).2).2).1.length (listM (upM 4294967295) (listM grM (upM 16 (numM s).2).1 (upM 16 (numM s).2).2).1.length (listM grM (upM 16 (numM s).2).1 (upM 16 (numM s).2).2).2).2).2).1 (upM 8 (listM (listM numM (listM grM (upM 16 (numM s).2).1 (upM 16 (numM s).2).2).1.length) (listM grM (upM 16 (numM s).2).1 (upM 16 (numM s).2).2).1.length (listM (upM 4294967295) (listM grM (upM 16 (numM s).2).1 (upM 16 (numM s).2).2).1.length (listM grM (upM 16 (numM s).2).1 (upM 16 (numM s).2).2).2).2).2).2).2).2).2).2).2).1, (numM (numM (numM (numM (listM eyM (upM 24 (listM phM (upM 8 (listM (listM numM (listM grM (upM 16 (numM s).2).1 (upM 16 (numM s).2).2).1.length) (listM grM (upM 16 (numM s).2).1 (upM 16 (numM s).2).2).1.length (listM (upM 4294967295) (listM grM (upM 16 (numM s).2).1 (upM 16 (numM s).2).2).1.length (listM grM (upM 16 (numM s).2).1 (upM 16 (numM s).2).2).2).2).2).1 (upM 8 (listM (listM numM (listM grM (upM 16 (numM s).2).1 (upM 16 (numM s).2).2).1.length) (listM grM (upM 16 (numM s).2).1 (upM 16 (numM s).2).2).1.length (listM (upM 4294967295) (listM grM (upM 16 (numM s).2).1 (upM 16 (numM s).2).2).1.length (listM grM (upM 16 (numM s).2).1 (upM 16 (numM s).2).2).2).2).2).2).2).1 (upM 24 (listM phM (upM 8 (listM (listM numM (listM grM (upM 16 (numM s).2).1 (upM 16 (numM s).2).2).1.length) (listM grM (upM 16 (numM s).2).1 (upM 16 (numM s).2).2).1.length (listM (upM 4294967295) (listM grM (upM 16 (numM s).2).1 (upM 16 (numM s).2).2).1.length (listM grM (upM 16 (numM s).2).1 (upM 16 (numM s).2).2).2).2).2).1 (upM 8 (listM (listM numM (listM grM (upM 16 (numM s).2).1 (upM 16 (numM s).2).2).1.length) (listM grM (upM 16 (numM s).2).1 (upM 16 (numM s).2).2).1.length (listM (upM 4294967295) (listM grM (upM 16 (numM s).2).1 (upM 16 (numM s).2).2).1.length (listM grM (upM 16 (numM s).2).1 (upM 16 (numM s).2).2).2).2).2).2).2).2).2).2).2).2).1, (numM (numM (numM (numM (numM (listM eyM (upM 24 (listM phM (upM 8 (listM (listM numM (listM grM (upM 16 (numM s).2).1 (upM 16 (numM s).2).2).1.length) (listM grM (upM 16 (numM s).2).1 (upM 16 (numM s).2).2).1.length (listM (upM 4294967295) (listM grM (upM 16 (numM s).2).1 (upM 16 (numM s).2).2).1.length (listM grM (upM 16 (numM s).2).1 (upM 16 (numM s).2).2).2).2).2).1 (upM 8 (listM (listM numM (listM grM (upM 16 (numM s).2).1 (upM 16 (numM s).2).2).1.length) (listM grM (upM 16 (numM s).2).1 (upM 16 (numM s).2).2).1.length (listM (upM 4294967295) (listM grM (upM 16 (numM s).2).1 (upM 16 (numM s).2).2).1.length (listM grM (upM 16 (numM s).2).1 (upM 16 (numM s).2).2).2).2).2).2).2).1 (upM 24 (listM phM (upM 8 (listM (listM numM (listM grM (upM 16 (numM s).2).1 (upM 16 (numM s).2).2).1.length) (listM grM (upM 16 (numM s).2).1 (upM 16 (numM s).2).2).1.length (listM (upM 4294967295) (listM grM (upM 16 (numM s).2).1 (upM 16 (numM s).2).2).1.length (listM grM (upM 16 (numM s).2).1 (upM 16 (numM s).2).2).2).2).2).1 (upM 8 (listM (listM numM (listM grM (upM 16 (numM s).2).1 (upM 16 (numM s).2).2).1.length) (listM grM (upM 16 (numM s).2).1 (upM 16 (numM s).2).2).1.length (listM (upM 4294967295) (listM grM (upM 16 (numM s).2).1 (upM 16 (numM s).2).2).1.length (listM grM (upM 16 (numM s).2).1 (upM 16 (numM s).2).2).2).2).2).2).2).2).2).2).2).2).2).1, (plansM (numM (numM (numM (numM (numM (listM eyM (upM 24 (listM phM (upM 8 (listM (listM numM (listM grM (upM 16 (numM s).2).1 (upM 16 (numM s).2).2).1.length) (listM grM (upM 16 (numM s).2).1 (upM 16 (numM s).2).2).1.length (listM (upM 4294967295) (listM grM (upM 16 (numM s).2).1 (upM 16 (numM s).2).2).1.length (listM grM (upM 16 (numM s).2).1 (upM 16 (numM s).2).2).2).2).2).1 (upM 8 (listM (listM numM (listM grM (upM 16 (numM s).2).1 (upM 16 (numM s).2).2).1.length) (listM grM (upM 16 (numM s).2).1 (upM 16 (numM s).2).2).1.length (listM (upM 4294967295) (listM grM (upM 16 (numM s).2).1 (upM 16 (numM s).2).2).1.length (listM grM (upM 16 (numM s).2).1 (upM 16 (numM s).2).2).2).2).2).2).2).1 (upM 24 (listM phM (upM 8 (listM (listM numM (listM grM (upM 16 (numM s).2).1 (upM 16 (numM s).2).2).1.length) (listM grM (upM 16 (numM s).2).1 (upM 16 (numM s).2).2).1.length (listM (upM 4294967295) (listM grM (upM 16 (numM s).2).1 (upM 16 (numM s).2).2).1.length (listM grM (upM 16 (numM s).2).1 (upM 16 (numM s).2).2).2).2).2).1 (upM 8 (listM (listM numM (listM grM (upM 16 (numM s).2).1 (upM 16 (numM s).2).2).1.length) (listM grM (upM 16 (numM s).2).1 (upM 16 (numM s).2).2).1.length (listM (upM 4294967295) (listM grM (upM 16 (numM s).2).1 (upM 16 (numM s).2).2).1.length (listM grM (upM 16 (numM s).2).1 (upM 16 (numM s).2).2).2).2).2).2).2).2).2).2).2).2).2).2).1⟩, (plansM (numM (numM (numM (numM (numM (listM eyM (upM 24 (listM phM (upM 8 (listM (listM numM (listM grM (upM 16 (numM s).2).1 (upM 16 (numM s).2).2).1.length) (listM grM (upM 16 (numM s).2).1 (upM 16 (numM s).2).2).1.length (listM (upM 4294967295) (listM grM (upM 16 (numM s).2).1 (upM 16 (numM s).2).2).1.length (listM grM (upM 16 (numM s).2).1 (upM 16 (numM s).2).2).2).2).2).1 (upM 8 (listM (listM numM (listM grM (upM 16 (numM s).2).1 (upM 16 (numM s).2).2).1.length) (listM grM (upM 16 (numM s).2).1 (upM 16 (numM s).2).2).1.length (listM (upM 4294967295) (listM grM (upM 16 (numM s).2).1 (upM 16 (numM s).2).2).1.length (listM grM (upM 16 (numM s).2).1 (upM 16 (numM s).2).2).2).2).2).2).2).1 (upM 24 (listM phM (upM 8 (listM (listM numM (listM grM (upM 16 (numM s).2).1 (upM 16 (numM s).2).2).1.length) (listM grM (upM 16 (numM s).2).1 (upM 16 (numM s).2).2).1.length (listM (upM 4294967295) (listM grM (upM 16 (numM s).2).1 (upM 16 (numM s).2).2).1.length (listM grM (upM 16 (numM s).2).1 (upM 16 (numM s).2).2).2).2).2).1 (upM 8 (listM (listM numM (listM grM (upM 16 (numM s).2).1 (upM 16 (numM s).2).2).1.length) (listM grM (upM 16 (numM s).2).1 (upM 16 (numM s).2).2).1.length (listM (upM 4294967295) (listM grM (upM 16 (numM s).2).1 (upM 16 (numM s).2).2).1.length (listM grM (upM 16 (numM s).2).1 (upM 16 (numM s).2).2).2).2).2).2).2).2).2).2).2).2).2).2).2) := rfl
  have hlen2 := listM_len grM (upM 16 (numM s).2).1 (upM 16 (numM s).2).2
  rw [hlen2] at HE
  have hle1 := upM_le 16 (numM s).2
  have hr2 := Hid.mk' (listM_all (P := fun g : Gr => g.kind < 256 ∧ i64B g.min ∧ i64B g.yellow) grM_r (upM 16 (numM s).2).1 (upM 16 (numM s).2).2)
  rw [HE]
  clear HE
  have hid := numM_i64 s
  generalize hu : numM s = u at *
  have HU0 := Hid.mk' hu
  clear hu
  obtain ⟨v0, s0⟩ := u
  dsimp only at *
  generalize hu : upM 16 s0 = u at *
  have HU1 := Hid.mk' hu
  clear hu
  obtain ⟨v1, s1⟩ := u
  dsimp only at *
  generalize hu : listM grM v1 s1 = u at *
  have HU2 := Hid.mk' hu
  clear hu
  obtain ⟨v2, s2⟩ := u
  dsimp only at *
  have hlen3 := listM_len (upM 4294967295) v1 s2
  have hr3 := Hid.mk' (listM_all (P := fun x : Nat => x < 4294967296) (fun s => by have := upM_le 4294967295 s; show (upM 4294967295 s).1 < 4294967296; omega) v1 s2)
  generalize hu : listM (upM 4294967295) v1 s2 = u at *
  have HU3 := Hid.mk' hu
  clear hu
  obtain ⟨v3, s3⟩ := u
  dsimp only at *
  have hlen4 := listM_len (listM numM v1) v1 s3
  have hr4 := Hid.mk' (listM_all (P := fun l : List Int => l.length ≤ 1000 ∧ ∀ x ∈ l, i64B x) (f := listM numM v1) (fun s => ⟨by rw [listM_len]; omega, listM_all numM_i64 v1 s⟩) v1 s3)
  generalize hu : listM (listM numM v1) v1 s3 = u at *
  have HU4 := Hid.mk' hu
  clear hu
  obtain ⟨v4, s4⟩ := u
  dsimp only at *
  have hle5 := upM_le 8 s4
  generalize hu : upM 8 s4 = u at *
  have HU5 := Hid.mk' hu
  clear hu
  obtain ⟨v5, s5⟩ := u
  dsimp only at *
  have hlen6 := listM_len phM v5 s5
  have hr6 := Hid.mk' (listM_all (P := fun p : Ph => p.groups < 4294967296 ∧ i64B p.min ∧ i64B p.max ∧ i64B p.gap) phM_r v5 s5)
  generalize hu : listM phM v5 s5 = u at *
  have HU6 := Hid.mk' hu
  clear hu
  obtain ⟨v6, s6⟩ := u
  dsimp only at *
  have hle7 := upM_le 24 s6
  generalize hu : upM 24 s6 = u at *
  have HU7 := Hid.mk' hu
  clear hu
  obtain ⟨v7, s7⟩ := u
  dsimp only at *
  have hlen8 := listM_len eyM v7 s7
  have hr8 := Hid.mk' (listM_all (P := fun e : Ey => i64B e.phase ∧ i64B e.on ∧ i64B e.off ∧ i64B e.turns) eyM_r v7 s7)
  generalize hu : listM eyM v7 s7 = u at *
  have HU8 := Hid.mk' hu
  clear hu
  obtain ⟨v8, s8⟩ := u
  dsimp only at *
  have hi9 := numM_i64 s8
  generalize hu : numM s8 = u at *
  have HU9 := Hid.mk' hu
  clear hu
  obtain ⟨v9, s9⟩ := u
  dsimp only at *
  have hi10 := numM_i64 s9
  generalize hu : numM s9 = u at *
  have HU10 := Hid.mk' hu
  clear hu
  obtain ⟨v10, s10⟩ := u
  dsimp only at *
  have hi11 := numM_i64 s10
  generalize hu : numM s10 = u at *
  have HU11 := Hid.mk' hu
  clear hu
  obtain ⟨v11, s11⟩ := u
  dsimp only at *
  have hi12 := numM_i64 s11
  generalize hu : numM s11 = u at *
  have HU12 := Hid.mk' hu
  clear hu
  obtain ⟨v12, s12⟩ := u
  dsimp only at *
  have hi13 := numM_i64 s12
  generalize hu : numM s12 = u at *
  have HU13 := Hid.mk' hu
  clear hu
  obtain ⟨v13, s13⟩ := u
  dsimp only at *
  have hr14 := Hid.mk' (plansM_r s13)
  generalize hu : plansM s13 = u at *
  have HU14 := Hid.mk' hu
  clear hu
  obtain ⟨v14, s14⟩ := u
  dsimp only at *
  have HNUM : Hid (i64B v0 ∧ i64B v9 ∧ i64B v10 ∧ i64B v11 ∧ i64B v12 ∧ i64B v13) := ⟨hid, hi9, hi10, hi11, hi12, hi13⟩
  have HLEN : Hid (v2.length = v1 ∧ v3.length = v1 ∧ v4.length = v1 ∧ v6.length = v5 ∧ v8.length = v7) := ⟨hlen2, hlen3, hlen4, hlen6, hlen8⟩
  clear hid hi9 hi10 hi11 hi12 hi13 hlen2 hlen3 hlen4 hlen6 hlen8
  have hA0 : Kept w ((w.alloc (.cells #[.pointer (some ⟨b, 0, none⟩)] 99)).alloc (.cells zS 29)) (some b) := (Kept.alloc w _ _ (0, 0) _).tr (Kept.alloc _ _ _ (0, 0) _)
  have HA := Hid.mk' ((h.alloc #[.pointer (some ⟨b, 0, none⟩)] 99).alloc zS 29)
  have HB : Hid (((w.alloc (.cells #[.pointer (some ⟨b, 0, none⟩)] 99)).alloc (.cells zS 29)).cell? ⟨w.heap.size, 0, none⟩ = some (.pointer (some ⟨b, 0, none⟩))) := by show _ = _; go_simp
  have hC := World.rowIs_alloc (w.alloc (.cells #[.pointer (some ⟨b, 0, none⟩)] 99)) zS 29 (fS zS) (fun i hi => by unfold fS; rw [Array.getElem?_eq_getElem hi]; rfl)
  rw [World.size_alloc] at hC
  have HC := Hid.mk' hC
  clear h hC
  go_enter Tryd.func25, Tryd.ntmps25
  go_wp2_with (go_at_call 46; have hn := number_any HA.out; rw [HU0.out] at hn; refine hn.mono ?_; rintro e w1 ⟨rfl, hr1, hk1⟩)
  have hsz1 : w.heap.size + 2 ≤ w1.heap.size := by have := hk1.size; simp at this; omega
  have T0 : Hid (Sit w (w1.alloc (.cells #[.int .i64 v0, .slice none 0 0, .slice none 0 0, .slice none 0 0, .slice none 0 0, .slice none 0 0, .int .i64 0, .int .i64 0, .int .i64 0, .int .i64 0, .int .i64 0, .slice none 0 0] 29)) H b w1.heap.size #[.int .i64 v0, .slice none 0 0, .slice none 0 0, .slice none 0 0, .slice none 0 0, .slice none 0 0, .int .i64 0, .int .i64 0, .int .i64 0, .int .i64 0, .int .i64 0, .slice none 0 0] s0) :=
    ⟨hr1.alloc _ _, (World.cell?_alloc_lt _ _ _ (by show w.heap.size < _; omega)).trans (cell_keptR HB.out hk1 (fun e => by have := Option.some.inj e; omega)), World.rowIs.alloc (row_kept HC.out hk1 (fun e => by have := Option.some.inj e; omega)) _, World.rowIs_alloc w1 _ _ _ (fun i hi => by unfold fS; rw [Array.getElem?_eq_getElem hi]; rfl), by omega, (hA0.tr hk1).tr (Kept.alloc _ _ _ (0, 0) _), hH⟩
  clear hn hA0 HA HB HC hr1 hk1
  generalize w1.alloc (.cells #[.int .i64 v0, .slice none 0 0, .slice none 0 0, .slice none 0 0, .slice none 0 0, .slice none 0 0, .int .i64 0, .int .i64 0, .int .i64 0, .int .i64 0, .int .i64 0, .slice none 0 0] 29) = x0 at *
  generalize hg : w1.heap.size = g at *
  clear hg
  have T := T0
  clear T0
  have hbg : b < g := by have := T.out.lt; omega
  -- groups
  refine wp_region_held_drew (S := fun w' => w'.cell? ⟨w.heap.size, 0, none⟩ = some (.pointer (some ⟨b, 0, none⟩))) (by kernel_rfl) T.out.drew.bx (fun hHeld => ?_)
  refine held_take (i := 0) (v := ?vh1x0) rfl rfl (by kernel_rfl) (by kernel_rfl) (by kernel_rfl) (fun _ _ _ h => h) (Or.inl ⟨by rfl, ?hyh1x0⟩) hHeld ?resth1x0
  case hyh1x0 => first | (intro w hSw; go_simp; done) | (intro w hSw; go_simp; with_reducible rfl)
  try simp only [List.setIfInBounds_toArray, List.set_cons_zero, List.set_cons_succ]
  refine held_take (i := 1) (v := ?vh1x1) rfl rfl (by kernel_rfl) (by kernel_rfl) (by kernel_rfl) (fun _ _ _ h => h) (Or.inl ⟨by rfl, ?hyh1x1⟩) hHeld ?resth1x1
  case hyh1x1 => first | (intro w hSw; go_simp; done) | (intro w hSw; go_simp; with_reducible rfl)
  try simp only [List.setIfInBounds_toArray, List.set_cons_zero, List.set_cons_succ]
  refine held_take (i := 2) (v := ?vh1x2) rfl rfl (by kernel_rfl) (by kernel_rfl) (by kernel_rfl) (fun _ _ _ h => h) (Or.inl ⟨by rfl, ?hyh1x2⟩) hHeld ?resth1x2
  case hyh1x2 => first | (intro w hSw; go_simp; done) | (intro w hSw; go_simp; with_reducible rfl)
  try simp only [List.setIfInBounds_toArray, List.set_cons_zero, List.set_cons_succ]
  refine held_take (i := 4) (v := ?vh1x4) rfl rfl (by kernel_rfl) (by kernel_rfl) (by kernel_rfl) (fun _ _ _ h => h) (Or.inl ⟨by rfl, ?hyh1x4⟩) hHeld ?resth1x4
  case hyh1x4 => first | (intro w hSw; go_simp; done) | (intro w hSw; go_simp; with_reducible rfl)
  try simp only [List.setIfInBounds_toArray, List.set_cons_zero, List.set_cons_succ]
  refine held_take (i := 5) (v := ?vh1x5) rfl rfl (by kernel_rfl) (by kernel_rfl) (by kernel_rfl) (fun _ _ _ h => h) (Or.inl ⟨by rfl, ?hyh1x5⟩) hHeld ?resth1x5
  case hyh1x5 => first | (intro w hSw; go_simp; done) | (intro w hSw; go_simp; with_reducible rfl)
  try simp only [List.setIfInBounds_toArray, List.set_cons_zero, List.set_cons_succ]
  refine wpAnyH_ready (rs := [3]) (by kernel_rfl) (by simp) ?_
  refine AllReadyH.cons rfl (fun K hK => ?_) AllReadyH.nil
  go_simp
  go_wp2_with (go_at_call 48; have hn := many_any T.out.drew.rd 16 (by omega); rw [HU1.out] at hn; refine hn.mono ?_; rintro e wA ⟨rfl, hrA, hkA⟩)
  have TA := Hid.mk' (T.out.drew.call hkA hrA)
  clear hrA
  refine hK.out _ _ TA.out.bx (fun hHeld => ?_)
  clear hK K
  refine wpAnyH_ready (rs := [6]) (by kernel_rfl) (by simp) ?_
  refine AllReadyH.cons rfl (fun K hK => ?_) AllReadyH.nil
  go_simp
  go_wp2_with (go_at_call 47; have hn := list_group TA.out.rd TA.out.up v1 (by omega); rw [HU2.out] at hn; refine hn.mono ?_; rintro e wB ⟨rfl, hlB, hrB, hkB⟩)
  have TB := Hid.mk' (TA.out.call hkB hrB)
  have LB : Hid (LieN wB (g + 1) wA.heap.size v1 3 (fun i j => grV (v2.getD i g0) j)) := ⟨hlB, TA.out.box.lt⟩
  clear hrB hlB
  refine hK.out _ _ TB.out.bx (fun hHeld => ?_)
  clear hK K
  refine held_take (i := 7) (v := ?vh2x7) rfl rfl (by kernel_rfl) (by kernel_rfl) (by kernel_rfl) (fun _ _ _ h => h) (Or.inl ⟨by rfl, ?hyh2x7⟩) hHeld ?resth2x7
  case hyh2x7 => first | (intro w hSw; go_simp; done) | (intro w hSw; go_simp; with_reducible rfl)
  try simp only [List.setIfInBounds_toArray, List.set_cons_zero, List.set_cons_succ]
  have hq1 : Ltr (g + 1) x0 wB := (((Kept.drew x0 (some b)).ltr (by omega)).tr (hkA.ltr (by omega))).tr (hkB.ltr (by omega))
  generalize wA.heap.size = a1 at *
  clear hkA hkB TA
  have k := TB.out.box.cell (i := 1) (by omega)
  have z := TB.out.box.frozen 1
  refine wpAnyH_ready (rs := [8]) (by kernel_rfl) (by simp) ?_
  refine AllReadyH.cons rfl (fun K hK => ?_) AllReadyH.nil
  go_simp
  refine hK.out _ _ (TB.out.put 1 _ (by simp)).bx (fun hHeld => ?_)
  clear hK K
  refine wpAnyH_done (by kernel_rfl) ?_ _
  have T : Hid (Sit w (wB.setCell ⟨g, 1, none⟩ (.slice (some ⟨a1, 0, none⟩) v1 v1)) H b g #[.int .i64 v0, .slice (some ⟨a1, 0, none⟩) v1 v1, .slice none 0 0, .slice none 0 0, .slice none 0 0, .slice none 0 0, .int .i64 0, .int .i64 0, .int .i64 0, .int .i64 0, .int .i64 0, .slice none 0 0] s2) := TB.out.put 1 _ (by simp)
  have hq := hq1.tr (Ltr.set wB (show g < g + 1 by omega) 1 (.slice (some ⟨a1, 0, none⟩) v1 v1))
  have hq2 := Ltr.set wB (show g < g + 1 by omega) 1 (.slice (some ⟨a1, 0, none⟩) v1 v1)
  clear k z TB hq1 hHeld
  have L1 := Hid.mk' (LB.out.ltr hq2)
  clear hq hq2 LB
  generalize wB.setCell ⟨g, 1, none⟩ (.slice (some ⟨a1, 0, none⟩) v1 v1) = x1 at *
  have k1 := T.out.box.cell (i := 1) (by omega)
  simp only [fS] at k1
  have gq := (Kept.alloc x1 #[.int .i64 (v1 : Int)] 3 (0, 0) (some b)).ltr (show b < g + 1 by omega)
  have G0 : Hid ((x1.alloc (.cells #[.int .i64 (v1 : Int)] 3)).cell? ⟨x1.heap.size, 0, none⟩ = some (.int .i64 (v1 : Int))) := by show _ = _; go_simp
  have hgb : g + 1 ≤ x1.heap.size := T.out.box.lt
  have T2 := Hid.mk' (T.out.alloc #[.int .i64 (v1 : Int)] 3)
  have L1a := Hid.mk' (L1.out.ltr gq)
  have bx2 := T2.out.bx
  have hwb : w.heap.size ≠ b := by have := T.out.lt; omega
  clear gq
  go_wp2_with (first
    | (have hgo := T3; clear hgo; go_at_call 52; have hn := list_row T3.out.rd T3.out.up v1 (by omega) G3.out T3.out.bx (show x1.heap.size ≠ b by omega) hwb; rw [HU4.out, E3.out] at hn; refine hn.mono ?_; rintro e wC ⟨rfl, hlC, hrC, hkC⟩; have TC := Hid.mk' (T3.out.call hkC hrC); have LC := Hid.mk' (hlC.down (show g + 1 ≤ _ from LT3.out)); clear hrC hlC hn; have k3 := TC.out.box.cell (i := 3) (by omega); have z3 := TC.out.box.frozen 3)
    | (go_at_call 50; have hn := list_set T2.out.rd T2.out.up v1 (by omega); rw [HU3.out, World.size_alloc] at hn; refine hn.mono ?_; rintro e wB ⟨rfl, hlB, hrB, hkB⟩; have TB := Hid.mk' (T2.out.call hkB hrB); have LB : Hid (LieN wB (g + 1) (x1.heap.size + 1) v1 1 (fun i j => .int .u32 (v3.getD i 0 : Int))) := ⟨hlB, by omega⟩; have k := TB.out.box.cell (i := 2) (by omega); have z := TB.out.box.frozen 2; have hq1 : Ltr (g + 1) (x1.alloc (.cells #[.int .i64 (v1 : Int)] 3)) wB := hkB.ltr (by omega); have hq2 := Ltr.set wB (show g < g + 1 by omega) 2 (.slice (some ⟨x1.heap.size + 1, 0, none⟩) v1 v1); have hq := hq1.tr hq2; have T3 : Hid (Sit w (wB.setCell ⟨g, 2, none⟩ (.slice (some ⟨x1.heap.size + 1, 0, none⟩) v1 v1)) H b g #[.int .i64 v0, .slice (some ⟨a1, 0, none⟩) v1 v1, .slice (some ⟨x1.heap.size + 1, 0, none⟩) v1 v1, .slice none 0 0, .slice none 0 0, .slice none 0 0, .int .i64 0, .int .i64 0, .int .i64 0, .int .i64 0, .int .i64 0, .slice none 0 0] s3) := TB.out.put 2 _ (by simp); have L1b := Hid.mk' (L1a.out.ltr hq); have G3 := Hid.mk' (Ltr.cell hq G0.out (by omega)); have L2b := Hid.mk' (LB.out.ltr hq2); have bx3 := T3.out.bx; have gx3 := G3.out; have E3 : Hid ((wB.setCell ⟨g, 2, none⟩ (.slice (some ⟨x1.heap.size + 1, 0, none⟩) v1 v1)).heap.size = wB.heap.size) := (by show _ = _; simp [World.setCell]); have LT3 : Hid (g + 1 ≤ wB.heap.size) := (by have h1 := hkB.size; rw [World.size_alloc] at h1; show _ ≤ _; omega); clear hn hrB hlB hkB LB TB hq hq1 hq2))
  clear k z k1 bx2 bx3 gx3 T2 G0 T
  have hqC : Ltr (g + 1) (wB.setCell ⟨g, 2, none⟩ (.slice (some ⟨x1.heap.size + 1, 0, none⟩) v1 v1)) wC := hkC.ltr (by omega)
  have T : Hid (Sit w (wC.setCell ⟨g, 3, none⟩ (.slice (some ⟨wB.heap.size, 0, none⟩) v1 v1)) H b g #[.int .i64 v0, .slice (some ⟨a1, 0, none⟩) v1 v1, .slice (some ⟨x1.heap.size + 1, 0, none⟩) v1 v1, .slice (some ⟨wB.heap.size, 0, none⟩) v1 v1, .slice none 0 0, .slice none 0 0, .int .i64 0, .int .i64 0, .int .i64 0, .int .i64 0, .int .i64 0, .slice none 0 0] s4) := TC.out.put 3 _ (by simp)
  have hq2 := Ltr.set wC (show g < g + 1 by omega) 3 (.slice (some ⟨wB.heap.size, 0, none⟩) v1 v1)
  have hq := hqC.tr hq2
  clear L1
  have L1 := Hid.mk' (L1b.out.ltr hq)
  have L2 := Hid.mk' (L2b.out.ltr hq)
  have L3 := Hid.mk' (LC.out.ltr hq2)
  have G := Hid.mk' (Ltr.cell hq G3.out (by omega))
  clear L1a L1b L2b hq hq2 hqC hkC LC TC T3 G3 E3 LT3 k3 z3
  generalize wC.setCell ⟨g, 3, none⟩ (.slice (some ⟨wB.heap.size, 0, none⟩) v1 v1) = x4 at *
  generalize wB.heap.size = a3 at *
  generalize x1.heap.size + 1 = a2 at *
  generalize x1.heap.size = gb at *
  -- phases
  refine wp_region_held_drew (S := fun w' => w'.cell? ⟨w.heap.size, 0, none⟩ = some (.pointer (some ⟨b, 0, none⟩))) (by kernel_rfl) T.out.drew.bx (fun hHeld => ?_)
  refine held_take (i := 0) (v := ?vh3x0) rfl rfl (by kernel_rfl) (by kernel_rfl) (by kernel_rfl) (fun _ _ _ h => h) (Or.inl ⟨by rfl, ?hyh3x0⟩) hHeld ?resth3x0
  case hyh3x0 => first | (intro w hSw; go_simp; done) | (intro w hSw; go_simp; with_reducible rfl)
  try simp only [List.setIfInBounds_toArray, List.set_cons_zero, List.set_cons_succ]
  refine held_take (i := 1) (v := ?vh3x1) rfl rfl (by kernel_rfl) (by kernel_rfl) (by kernel_rfl) (fun _ _ _ h => h) (Or.inl ⟨by rfl, ?hyh3x1⟩) hHeld ?resth3x1
  case hyh3x1 => first | (intro w hSw; go_simp; done) | (intro w hSw; go_simp; with_reducible rfl)
  try simp only [List.setIfInBounds_toArray, List.set_cons_zero, List.set_cons_succ]
  refine held_take (i := 2) (v := ?vh3x2) rfl rfl (by kernel_rfl) (by kernel_rfl) (by kernel_rfl) (fun _ _ _ h => h) (Or.inl ⟨by rfl, ?hyh3x2⟩) hHeld ?resth3x2
  case hyh3x2 => first | (intro w hSw; go_simp; done) | (intro w hSw; go_simp; with_reducible rfl)
  try simp only [List.setIfInBounds_toArray, List.set_cons_zero, List.set_cons_succ]
  refine held_take (i := 4) (v := ?vh3x4) rfl rfl (by kernel_rfl) (by kernel_rfl) (by kernel_rfl) (fun _ _ _ h => h) (Or.inl ⟨by rfl, ?hyh3x4⟩) hHeld ?resth3x4
  case hyh3x4 => first | (intro w hSw; go_simp; done) | (intro w hSw; go_simp; with_reducible rfl)
  try simp only [List.setIfInBounds_toArray, List.set_cons_zero, List.set_cons_succ]
  refine held_take (i := 5) (v := ?vh3x5) rfl rfl (by kernel_rfl) (by kernel_rfl) (by kernel_rfl) (fun _ _ _ h => h) (Or.inl ⟨by rfl, ?hyh3x5⟩) hHeld ?resth3x5
  case hyh3x5 => first | (intro w hSw; go_simp; done) | (intro w hSw; go_simp; with_reducible rfl)
  try simp only [List.setIfInBounds_toArray, List.set_cons_zero, List.set_cons_succ]
  refine wpAnyH_ready (rs := [3]) (by kernel_rfl) (by simp) ?_
  refine AllReadyH.cons rfl (fun K hK => ?_) AllReadyH.nil
  go_simp
  go_wp2_with (go_at_call 48; have hn := many_any T.out.drew.rd 8 (by omega); rw [HU5.out] at hn; refine hn.mono ?_; rintro e wA ⟨rfl, hrA, hkA⟩)
  have TA := Hid.mk' (T.out.drew.call hkA hrA)
  clear hrA
  refine hK.out _ _ TA.out.bx (fun hHeld => ?_)
  clear hK K
  refine wpAnyH_ready (rs := [6]) (by kernel_rfl) (by simp) ?_
  refine AllReadyH.cons rfl (fun K hK => ?_) AllReadyH.nil
  go_simp
  go_wp2_with (go_at_call 55; have hn := list_phase TA.out.rd TA.out.up v5 (by omega); rw [HU6.out] at hn; refine hn.mono ?_; rintro e wB ⟨rfl, hlB, hrB, hkB⟩)
  have TB := Hid.mk' (TA.out.call hkB hrB)
  have LB : Hid (LieN wB (g + 1) wA.heap.size v5 5 (fun i j => phV (v6.getD i p0) j)) := ⟨hlB, TA.out.box.lt⟩
  clear hrB hlB
  refine hK.out _ _ TB.out.bx (fun hHeld => ?_)
  clear hK K
  refine held_take (i := 7) (v := ?vh4x7) rfl rfl (by kernel_rfl) (by kernel_rfl) (by kernel_rfl) (fun _ _ _ h => h) (Or.inl ⟨by rfl, ?hyh4x7⟩) hHeld ?resth4x7
  case hyh4x7 => first | (intro w hSw; go_simp; done) | (intro w hSw; go_simp; with_reducible rfl)
  try simp only [List.setIfInBounds_toArray, List.set_cons_zero, List.set_cons_succ]
  have hq1 : Ltr (g + 1) x4 wB := (((Kept.drew x4 (some b)).ltr (by omega)).tr (hkA.ltr (by omega))).tr (hkB.ltr (by omega))
  generalize wA.heap.size = a4 at *
  clear hkA hkB TA
  have k := TB.out.box.cell (i := 4) (by omega)
  have z := TB.out.box.frozen 4
  refine wpAnyH_ready (rs := [8]) (by kernel_rfl) (by simp) ?_
  refine AllReadyH.cons rfl (fun K hK => ?_) AllReadyH.nil
  go_simp
  refine hK.out _ _ (TB.out.put 4 _ (by simp)).bx (fun hHeld => ?_)
  clear hK K
  refine wpAnyH_done (by kernel_rfl) ?_ _
  have T : Hid (Sit w (wB.setCell ⟨g, 4, none⟩ (.slice (some ⟨a4, 0, none⟩) v5 v5)) H b g #[.int .i64 v0, .slice (some ⟨a1, 0, none⟩) v1 v1, .slice (some ⟨a2, 0, none⟩) v1 v1, .slice (some ⟨a3, 0, none⟩) v1 v1, .slice (some ⟨a4, 0, none⟩) v5 v5, .slice none 0 0, .int .i64 0, .int .i64 0, .int .i64 0, .int .i64 0, .int .i64 0, .slice none 0 0] s6) := TB.out.put 4 _ (by simp)
  have hq := hq1.tr (Ltr.set wB (show g < g + 1 by omega) 4 (.slice (some ⟨a4, 0, none⟩) v5 v5))
  have hq2 := Ltr.set wB (show g < g + 1 by omega) 4 (.slice (some ⟨a4, 0, none⟩) v5 v5)
  clear k z TB hq1 hHeld
  have L1 := Hid.mk' (L1.out.ltr hq)
  have L2 := Hid.mk' (L2.out.ltr hq)
  have L3 := Hid.mk' (L3.out.ltr hq)
  have G := Hid.mk' (Ltr.cell hq G.out (by omega))
  have L4 := Hid.mk' (LB.out.ltr hq2)
  clear hq hq2 LB
  generalize wB.setCell ⟨g, 4, none⟩ (.slice (some ⟨a4, 0, none⟩) v5 v5) = x5 at *
  go_wp2_with fail
  -- eyes
  refine wp_region_held_drew (S := fun w' => w'.cell? ⟨w.heap.size, 0, none⟩ = some (.pointer (some ⟨b, 0, none⟩))) (by kernel_rfl) T.out.drew.bx (fun hHeld => ?_)
  refine held_take (i := 0) (v := ?vh5x0) rfl rfl (by kernel_rfl) (by kernel_rfl) (by kernel_rfl) (fun _ _ _ h => h) (Or.inl ⟨by rfl, ?hyh5x0⟩) hHeld ?resth5x0
  case hyh5x0 => first | (intro w hSw; go_simp; done) | (intro w hSw; go_simp; with_reducible rfl)
  try simp only [List.setIfInBounds_toArray, List.set_cons_zero, List.set_cons_succ]
  refine held_take (i := 1) (v := ?vh5x1) rfl rfl (by kernel_rfl) (by kernel_rfl) (by kernel_rfl) (fun _ _ _ h => h) (Or.inl ⟨by rfl, ?hyh5x1⟩) hHeld ?resth5x1
  case hyh5x1 => first | (intro w hSw; go_simp; done) | (intro w hSw; go_simp; with_reducible rfl)
  try simp only [List.setIfInBounds_toArray, List.set_cons_zero, List.set_cons_succ]
  refine held_take (i := 2) (v := ?vh5x2) rfl rfl (by kernel_rfl) (by kernel_rfl) (by kernel_rfl) (fun _ _ _ h => h) (Or.inl ⟨by rfl, ?hyh5x2⟩) hHeld ?resth5x2
  case hyh5x2 => first | (intro w hSw; go_simp; done) | (intro w hSw; go_simp; with_reducible rfl)
  try simp only [List.setIfInBounds_toArray, List.set_cons_zero, List.set_cons_succ]
  refine held_take (i := 4) (v := ?vh5x4) rfl rfl (by kernel_rfl) (by kernel_rfl) (by kernel_rfl) (fun _ _ _ h => h) (Or.inl ⟨by rfl, ?hyh5x4⟩) hHeld ?resth5x4
  case hyh5x4 => first | (intro w hSw; go_simp; done) | (intro w hSw; go_simp; with_reducible rfl)
  try simp only [List.setIfInBounds_toArray, List.set_cons_zero, List.set_cons_succ]
  refine held_take (i := 5) (v := ?vh5x5) rfl rfl (by kernel_rfl) (by kernel_rfl) (by kernel_rfl) (fun _ _ _ h => h) (Or.inl ⟨by rfl, ?hyh5x5⟩) hHeld ?resth5x5
  case hyh5x5 => first | (intro w hSw; go_simp; done) | (intro w hSw; go_simp; with_reducible rfl)
  try simp only [List.setIfInBounds_toArray, List.set_cons_zero, List.set_cons_succ]
  refine wpAnyH_ready (rs := [3]) (by kernel_rfl) (by simp) ?_
  refine AllReadyH.cons rfl (fun K hK => ?_) AllReadyH.nil
  go_simp
  go_wp2_with (go_at_call 48; have hn := many_any T.out.drew.rd 24 (by omega); rw [HU7.out] at hn; refine hn.mono ?_; rintro e wA ⟨rfl, hrA, hkA⟩)
  have TA := Hid.mk' (T.out.drew.call hkA hrA)
  clear hrA
  refine hK.out _ _ TA.out.bx (fun hHeld => ?_)
  clear hK K
  refine wpAnyH_ready (rs := [6]) (by kernel_rfl) (by simp) ?_
  refine AllReadyH.cons rfl (fun K hK => ?_) AllReadyH.nil
  go_simp
  go_wp2_with (go_at_call 57; have hn := list_eye TA.out.rd TA.out.up v7 (by omega); rw [HU8.out] at hn; refine hn.mono ?_; rintro e wB ⟨rfl, hlB, hrB, hkB⟩)
  have TB := Hid.mk' (TA.out.call hkB hrB)
  have LB : Hid (LieN wB (g + 1) wA.heap.size v7 4 (fun i j => eyV (v8.getD i e0) j)) := ⟨hlB, TA.out.box.lt⟩
  clear hrB hlB
  refine hK.out _ _ TB.out.bx (fun hHeld => ?_)
  clear hK K
  refine held_take (i := 7) (v := ?vh6x7) rfl rfl (by kernel_rfl) (by kernel_rfl) (by kernel_rfl) (fun _ _ _ h => h) (Or.inl ⟨by rfl, ?hyh6x7⟩) hHeld ?resth6x7
  case hyh6x7 => first | (intro w hSw; go_simp; done) | (intro w hSw; go_simp; with_reducible rfl)
  try simp only [List.setIfInBounds_toArray, List.set_cons_zero, List.set_cons_succ]
  have hq1 : Ltr (g + 1) x5 wB := (((Kept.drew x5 (some b)).ltr (by omega)).tr (hkA.ltr (by omega))).tr (hkB.ltr (by omega))
  generalize wA.heap.size = a5 at *
  clear hkA hkB TA
  have k := TB.out.box.cell (i := 5) (by omega)
  have z := TB.out.box.frozen 5
  refine wpAnyH_ready (rs := [8]) (by kernel_rfl) (by simp) ?_
  refine AllReadyH.cons rfl (fun K hK => ?_) AllReadyH.nil
  go_simp
  refine hK.out _ _ (TB.out.put 5 _ (by simp)).bx (fun hHeld => ?_)
  clear hK K
  refine wpAnyH_done (by kernel_rfl) ?_ _
  have T : Hid (Sit w (wB.setCell ⟨g, 5, none⟩ (.slice (some ⟨a5, 0, none⟩) v7 v7)) H b g #[.int .i64 v0, .slice (some ⟨a1, 0, none⟩) v1 v1, .slice (some ⟨a2, 0, none⟩) v1 v1, .slice (some ⟨a3, 0, none⟩) v1 v1, .slice (some ⟨a4, 0, none⟩) v5 v5, .slice (some ⟨a5, 0, none⟩) v7 v7, .int .i64 0, .int .i64 0, .int .i64 0, .int .i64 0, .int .i64 0, .slice none 0 0] s8) := TB.out.put 5 _ (by simp)
  have hq := hq1.tr (Ltr.set wB (show g < g + 1 by omega) 5 (.slice (some ⟨a5, 0, none⟩) v7 v7))
  have hq2 := Ltr.set wB (show g < g + 1 by omega) 5 (.slice (some ⟨a5, 0, none⟩) v7 v7)
  clear k z TB hq1 hHeld
  have L1 := Hid.mk' (L1.out.ltr hq)
  have L2 := Hid.mk' (L2.out.ltr hq)
  have L3 := Hid.mk' (L3.out.ltr hq)
  have L4 := Hid.mk' (L4.out.ltr hq)
  have G := Hid.mk' (Ltr.cell hq G.out (by omega))
  have L5 := Hid.mk' (LB.out.ltr hq2)
  clear hq hq2 LB
  generalize wB.setCell ⟨g, 5, none⟩ (.slice (some ⟨a5, 0, none⟩) v7 v7) = x6 at *
  go_wp2_with fail
  refine wp_region_held_drew (S := fun w' => w'.cell? ⟨w.heap.size, 0, none⟩ = some (.pointer (some ⟨b, 0, none⟩))) (by kernel_rfl) T.out.drew.bx (fun hHeld => ?_)
  refine held_take (i := 0) (v := ?vh7x0) rfl rfl (by kernel_rfl) (by kernel_rfl) (by kernel_rfl) (fun _ _ _ h => h) (Or.inl ⟨by rfl, ?hyh7x0⟩) hHeld ?resth7x0
  case hyh7x0 => first | (intro w hSw; go_simp; done) | (intro w hSw; go_simp; with_reducible rfl)
  try simp only [List.setIfInBounds_toArray, List.set_cons_zero, List.set_cons_succ]
  refine held_take (i := 1) (v := ?vh7x1) rfl rfl (by kernel_rfl) (by kernel_rfl) (by kernel_rfl) (fun _ _ _ h => h) (Or.inl ⟨by rfl, ?hyh7x1⟩) hHeld ?resth7x1
  case hyh7x1 => first | (intro w hSw; go_simp; done) | (intro w hSw; go_simp; with_reducible rfl)
  try simp only [List.setIfInBounds_toArray, List.set_cons_zero, List.set_cons_succ]
  refine held_take (i := 2) (v := ?vh7x2) rfl rfl (by kernel_rfl) (by kernel_rfl) (by kernel_rfl) (fun _ _ _ h => h) (Or.inl ⟨by rfl, ?hyh7x2⟩) hHeld ?resth7x2
  case hyh7x2 => first | (intro w hSw; go_simp; done) | (intro w hSw; go_simp; with_reducible rfl)
  try simp only [List.setIfInBounds_toArray, List.set_cons_zero, List.set_cons_succ]
  refine held_take (i := 4) (v := ?vh7x4) rfl rfl (by kernel_rfl) (by kernel_rfl) (by kernel_rfl) (fun _ _ _ h => h) (Or.inl ⟨by rfl, ?hyh7x4⟩) hHeld ?resth7x4
  case hyh7x4 => first | (intro w hSw; go_simp; done) | (intro w hSw; go_simp; with_reducible rfl)
  try simp only [List.setIfInBounds_toArray, List.set_cons_zero, List.set_cons_succ]
  refine held_take (i := 5) (v := ?vh7x5) rfl rfl (by kernel_rfl) (by kernel_rfl) (by kernel_rfl) (fun _ _ _ h => h) (Or.inl ⟨by rfl, ?hyh7x5⟩) hHeld ?resth7x5
  case hyh7x5 => first | (intro w hSw; go_simp; done) | (intro w hSw; go_simp; with_reducible rfl)
  try simp only [List.setIfInBounds_toArray, List.set_cons_zero, List.set_cons_succ]
  refine held_take (i := 6) (v := ?vh7x6) rfl rfl (by kernel_rfl) (by kernel_rfl) (by kernel_rfl) (fun _ _ _ h => h) (Or.inl ⟨by rfl, ?hyh7x6⟩) hHeld ?resth7x6
  case hyh7x6 => first | (intro w hSw; go_simp; done) | (intro w hSw; go_simp; with_reducible rfl)
  try simp only [List.setIfInBounds_toArray, List.set_cons_zero, List.set_cons_succ]
  refine held_take (i := 8) (v := ?vh7x8) rfl rfl (by kernel_rfl) (by kernel_rfl) (by kernel_rfl) (fun _ _ _ h => h) (Or.inl ⟨by rfl, ?hyh7x8⟩) hHeld ?resth7x8
  case hyh7x8 => first | (intro w hSw; go_simp; done) | (intro w hSw; go_simp; with_reducible rfl)
  try simp only [List.setIfInBounds_toArray, List.set_cons_zero, List.set_cons_succ]
  refine held_take (i := 9) (v := ?vh7x9) rfl rfl (by kernel_rfl) (by kernel_rfl) (by kernel_rfl) (fun _ _ _ h => h) (Or.inl ⟨by rfl, ?hyh7x9⟩) hHeld ?resth7x9
  case hyh7x9 => first | (intro w hSw; go_simp; done) | (intro w hSw; go_simp; with_reducible rfl)
  try simp only [List.setIfInBounds_toArray, List.set_cons_zero, List.set_cons_succ]
  refine held_take (i := 10) (v := ?vh7x10) rfl rfl (by kernel_rfl) (by kernel_rfl) (by kernel_rfl) (fun _ _ _ h => h) (Or.inl ⟨by rfl, ?hyh7x10⟩) hHeld ?resth7x10
  case hyh7x10 => first | (intro w hSw; go_simp; done) | (intro w hSw; go_simp; with_reducible rfl)
  try simp only [List.setIfInBounds_toArray, List.set_cons_zero, List.set_cons_succ]
  have TA := Hid.mk' T.out.drew
  have hq1 : Ltr (g + 1) x6 x6.drew := (Kept.drew _ (some b)).ltr (by omega)
  refine wpAnyH_ready (rs := [3]) (by kernel_rfl) (by simp) ?_
  refine AllReadyH.cons rfl (fun K hK => ?_) AllReadyH.nil
  go_simp
  go_wp2_with (go_at_call 46; have hn := number_any TA.out.rd; rw [HU9.out] at hn; refine hn.mono ?_; rintro e wA0 ⟨rfl, hrA, hkA⟩)
  have TA := Hid.mk' (TA.out.call hkA hrA)
  have hq1 := hq1.tr (hkA.ltr (show b < g + 1 by omega))
  clear hrA hkA
  refine hK.out _ _ TA.out.bx (fun hHeld => ?_)
  clear hK K
  refine held_take (i := 12) (v := ?vh8x12) rfl rfl (by kernel_rfl) (by kernel_rfl) (by kernel_rfl) (fun _ _ _ h => h) (Or.inl ⟨by rfl, ?hyh8x12⟩) hHeld ?resth8x12
  case hyh8x12 => first | (intro w hSw; go_simp; done) | (intro w hSw; go_simp; with_reducible rfl)
  try simp only [List.setIfInBounds_toArray, List.set_cons_zero, List.set_cons_succ]
  refine wpAnyH_ready (rs := [7]) (by kernel_rfl) (by simp) ?_
  refine AllReadyH.cons rfl (fun K hK => ?_) AllReadyH.nil
  go_simp
  go_wp2_with (go_at_call 46; have hn := number_any TA.out.rd; rw [HU10.out] at hn; refine hn.mono ?_; rintro e wA1 ⟨rfl, hrA, hkA⟩)
  have TA := Hid.mk' (TA.out.call hkA hrA)
  have hq1 := hq1.tr (hkA.ltr (show b < g + 1 by omega))
  clear hrA hkA
  refine hK.out _ _ TA.out.bx (fun hHeld => ?_)
  clear hK K
  refine wpAnyH_ready (rs := [11]) (by kernel_rfl) (by simp) ?_
  refine AllReadyH.cons rfl (fun K hK => ?_) AllReadyH.nil
  go_simp
  go_wp2_with (go_at_call 46; have hn := number_any TA.out.rd; rw [HU11.out] at hn; refine hn.mono ?_; rintro e wA2 ⟨rfl, hrA, hkA⟩)
  have TA := Hid.mk' (TA.out.call hkA hrA)
  have hq1 := hq1.tr (hkA.ltr (show b < g + 1 by omega))
  clear hrA hkA
  refine hK.out _ _ TA.out.bx (fun hHeld => ?_)
  clear hK K
  have k := TA.out.box.cell (i := 6) (by omega)
  have z := TA.out.box.frozen 6
  refine wpAnyH_ready (rs := [13]) (by kernel_rfl) (by simp) ?_
  refine AllReadyH.cons rfl (fun K hK => ?_) AllReadyH.nil
  go_simp
  refine hK.out _ _ (TA.out.put 6 _ (by simp)).bx (fun hHeld => ?_)
  clear hK K
  have TA : Hid (Sit w (wA2.setCell ⟨g, 6, none⟩ (.int .i64 v9)) H b g #[.int .i64 v0, .slice (some ⟨a1, 0, none⟩) v1 v1, .slice (some ⟨a2, 0, none⟩) v1 v1, .slice (some ⟨a3, 0, none⟩) v1 v1, .slice (some ⟨a4, 0, none⟩) v5 v5, .slice (some ⟨a5, 0, none⟩) v7 v7, .int .i64 v9, .int .i64 0, .int .i64 0, .int .i64 0, .int .i64 0, .slice none 0 0] s11) := TA.out.put 6 _ (by simp)
  have hq1 := hq1.tr (Ltr.set wA2 (show g < g + 1 by omega) 6 (.int .i64 v9))
  clear k z
  generalize (wA2.setCell ⟨g, 6, none⟩ (.int .i64 v9)) = y6c6 at *
  refine held_take (i := 14) (v := ?vh9x14) rfl rfl (by kernel_rfl) (by kernel_rfl) (by kernel_rfl) (fun _ _ _ h => h) (Or.inl ⟨by rfl, ?hyh9x14⟩) hHeld ?resth9x14
  case hyh9x14 => first | (intro w hSw; go_simp; done) | (intro w hSw; go_simp; with_reducible rfl)
  try simp only [List.setIfInBounds_toArray, List.set_cons_zero, List.set_cons_succ]
  have k := TA.out.box.cell (i := 7) (by omega)
  have z := TA.out.box.frozen 7
  refine wpAnyH_ready (rs := [15]) (by kernel_rfl) (by simp) ?_
  refine AllReadyH.cons rfl (fun K hK => ?_) AllReadyH.nil
  go_simp
  refine hK.out _ _ (TA.out.put 7 _ (by simp)).bx (fun hHeld => ?_)
  clear hK K
  have TA : Hid (Sit w (y6c6.setCell ⟨g, 7, none⟩ (.int .i64 v10)) H b g #[.int .i64 v0, .slice (some ⟨a1, 0, none⟩) v1 v1, .slice (some ⟨a2, 0, none⟩) v1 v1, .slice (some ⟨a3, 0, none⟩) v1 v1, .slice (some ⟨a4, 0, none⟩) v5 v5, .slice (some ⟨a5, 0, none⟩) v7 v7, .int .i64 v9, .int .i64 v10, .int .i64 0, .int .i64 0, .int .i64 0, .slice none 0 0] s11) := TA.out.put 7 _ (by simp)
  have hq1 := hq1.tr (Ltr.set y6c6 (show g < g + 1 by omega) 7 (.int .i64 v10))
  clear k z
  generalize (y6c6.setCell ⟨g, 7, none⟩ (.int .i64 v10)) = y6c7 at *
  refine held_take (i := 16) (v := ?vh10x16) rfl rfl (by kernel_rfl) (by kernel_rfl) (by kernel_rfl) (fun _ _ _ h => h) (Or.inl ⟨by rfl, ?hyh10x16⟩) hHeld ?resth10x16
  case hyh10x16 => first | (intro w hSw; go_simp; done) | (intro w hSw; go_simp; with_reducible rfl)
  try simp only [List.setIfInBounds_toArray, List.set_cons_zero, List.set_cons_succ]
  have k := TA.out.box.cell (i := 8) (by omega)
  have z := TA.out.box.frozen 8
  refine wpAnyH_ready (rs := [17]) (by kernel_rfl) (by simp) ?_
  refine AllReadyH.cons rfl (fun K hK => ?_) AllReadyH.nil
  go_simp
  refine hK.out _ _ (TA.out.put 8 _ (by simp)).bx (fun hHeld => ?_)
  clear hK K
  have TA : Hid (Sit w (y6c7.setCell ⟨g, 8, none⟩ (.int .i64 v11)) H b g #[.int .i64 v0, .slice (some ⟨a1, 0, none⟩) v1 v1, .slice (some ⟨a2, 0, none⟩) v1 v1, .slice (some ⟨a3, 0, none⟩) v1 v1, .slice (some ⟨a4, 0, none⟩) v5 v5, .slice (some ⟨a5, 0, none⟩) v7 v7, .int .i64 v9, .int .i64 v10, .int .i64 v11, .int .i64 0, .int .i64 0, .slice none 0 0] s11) := TA.out.put 8 _ (by simp)
  have hq1 := hq1.tr (Ltr.set y6c7 (show g < g + 1 by omega) 8 (.int .i64 v11))
  clear k z
  generalize (y6c7.setCell ⟨g, 8, none⟩ (.int .i64 v11)) = y6c8 at *
  refine wpAnyH_done (by kernel_rfl) ?_ _
  have T := TA
  clear TA hHeld
  have L1 := Hid.mk' (L1.out.ltr hq1)
  have L2 := Hid.mk' (L2.out.ltr hq1)
  have L3 := Hid.mk' (L3.out.ltr hq1)
  have L4 := Hid.mk' (L4.out.ltr hq1)
  have L5 := Hid.mk' (L5.out.ltr hq1)
  have G := Hid.mk' (Ltr.cell hq1 G.out (by omega))
  clear hq1
  generalize y6c8 = x7 at *
  go_wp2_with fail
  refine wp_region_held_drew (S := fun w' => w'.cell? ⟨w.heap.size, 0, none⟩ = some (.pointer (some ⟨b, 0, none⟩))) (by kernel_rfl) T.out.drew.bx (fun hHeld => ?_)
  refine held_take (i := 0) (v := ?vh11x0) rfl rfl (by kernel_rfl) (by kernel_rfl) (by kernel_rfl) (fun _ _ _ h => h) (Or.inl ⟨by rfl, ?hyh11x0⟩) hHeld ?resth11x0
  case hyh11x0 => first | (intro w hSw; go_simp; done) | (intro w hSw; go_simp; with_reducible rfl)
  try simp only [List.setIfInBounds_toArray, List.set_cons_zero, List.set_cons_succ]
  refine held_take (i := 1) (v := ?vh11x1) rfl rfl (by kernel_rfl) (by kernel_rfl) (by kernel_rfl) (fun _ _ _ h => h) (Or.inl ⟨by rfl, ?hyh11x1⟩) hHeld ?resth11x1
  case hyh11x1 => first | (intro w hSw; go_simp; done) | (intro w hSw; go_simp; with_reducible rfl)
  try simp only [List.setIfInBounds_toArray, List.set_cons_zero, List.set_cons_succ]
  refine held_take (i := 2) (v := ?vh11x2) rfl rfl (by kernel_rfl) (by kernel_rfl) (by kernel_rfl) (fun _ _ _ h => h) (Or.inl ⟨by rfl, ?hyh11x2⟩) hHeld ?resth11x2
  case hyh11x2 => first | (intro w hSw; go_simp; done) | (intro w hSw; go_simp; with_reducible rfl)
  try simp only [List.setIfInBounds_toArray, List.set_cons_zero, List.set_cons_succ]
  refine held_take (i := 4) (v := ?vh11x4) rfl rfl (by kernel_rfl) (by kernel_rfl) (by kernel_rfl) (fun _ _ _ h => h) (Or.inl ⟨by rfl, ?hyh11x4⟩) hHeld ?resth11x4
  case hyh11x4 => first | (intro w hSw; go_simp; done) | (intro w hSw; go_simp; with_reducible rfl)
  try simp only [List.setIfInBounds_toArray, List.set_cons_zero, List.set_cons_succ]
  refine held_take (i := 5) (v := ?vh11x5) rfl rfl (by kernel_rfl) (by kernel_rfl) (by kernel_rfl) (fun _ _ _ h => h) (Or.inl ⟨by rfl, ?hyh11x5⟩) hHeld ?resth11x5
  case hyh11x5 => first | (intro w hSw; go_simp; done) | (intro w hSw; go_simp; with_reducible rfl)
  try simp only [List.setIfInBounds_toArray, List.set_cons_zero, List.set_cons_succ]
  refine held_take (i := 6) (v := ?vh11x6) rfl rfl (by kernel_rfl) (by kernel_rfl) (by kernel_rfl) (fun _ _ _ h => h) (Or.inl ⟨by rfl, ?hyh11x6⟩) hHeld ?resth11x6
  case hyh11x6 => first | (intro w hSw; go_simp; done) | (intro w hSw; go_simp; with_reducible rfl)
  try simp only [List.setIfInBounds_toArray, List.set_cons_zero, List.set_cons_succ]
  have TA := Hid.mk' T.out.drew
  have hq1 : Ltr (g + 1) x7 x7.drew := (Kept.drew _ (some b)).ltr (by omega)
  refine wpAnyH_ready (rs := [3]) (by kernel_rfl) (by simp) ?_
  refine AllReadyH.cons rfl (fun K hK => ?_) AllReadyH.nil
  go_simp
  go_wp2_with (go_at_call 46; have hn := number_any TA.out.rd; rw [HU12.out] at hn; refine hn.mono ?_; rintro e wA0 ⟨rfl, hrA, hkA⟩)
  have TA := Hid.mk' (TA.out.call hkA hrA)
  have hq1 := hq1.tr (hkA.ltr (show b < g + 1 by omega))
  clear hrA hkA
  refine hK.out _ _ TA.out.bx (fun hHeld => ?_)
  clear hK K
  refine held_take (i := 8) (v := ?vh12x8) rfl rfl (by kernel_rfl) (by kernel_rfl) (by kernel_rfl) (fun _ _ _ h => h) (Or.inl ⟨by rfl, ?hyh12x8⟩) hHeld ?resth12x8
  case hyh12x8 => first | (intro w hSw; go_simp; done) | (intro w hSw; go_simp; with_reducible rfl)
  try simp only [List.setIfInBounds_toArray, List.set_cons_zero, List.set_cons_succ]
  refine wpAnyH_ready (rs := [7]) (by kernel_rfl) (by simp) ?_
  refine AllReadyH.cons rfl (fun K hK => ?_) AllReadyH.nil
  go_simp
  go_wp2_with (go_at_call 46; have hn := number_any TA.out.rd; rw [HU13.out] at hn; refine hn.mono ?_; rintro e wA1 ⟨rfl, hrA, hkA⟩)
  have TA := Hid.mk' (TA.out.call hkA hrA)
  have hq1 := hq1.tr (hkA.ltr (show b < g + 1 by omega))
  clear hrA hkA
  refine hK.out _ _ TA.out.bx (fun hHeld => ?_)
  clear hK K
  have k := TA.out.box.cell (i := 9) (by omega)
  have z := TA.out.box.frozen 9
  refine wpAnyH_ready (rs := [9]) (by kernel_rfl) (by simp) ?_
  refine AllReadyH.cons rfl (fun K hK => ?_) AllReadyH.nil
  go_simp
  refine hK.out _ _ (TA.out.put 9 _ (by simp)).bx (fun hHeld => ?_)
  clear hK K
  have TA : Hid (Sit w (wA1.setCell ⟨g, 9, none⟩ (.int .i64 v12)) H b g #[.int .i64 v0, .slice (some ⟨a1, 0, none⟩) v1 v1, .slice (some ⟨a2, 0, none⟩) v1 v1, .slice (some ⟨a3, 0, none⟩) v1 v1, .slice (some ⟨a4, 0, none⟩) v5 v5, .slice (some ⟨a5, 0, none⟩) v7 v7, .int .i64 v9, .int .i64 v10, .int .i64 v11, .int .i64 v12, .int .i64 0, .slice none 0 0] s13) := TA.out.put 9 _ (by simp)
  have hq1 := hq1.tr (Ltr.set wA1 (show g < g + 1 by omega) 9 (.int .i64 v12))
  clear k z
  generalize (wA1.setCell ⟨g, 9, none⟩ (.int .i64 v12)) = y7c9 at *
  refine held_take (i := 10) (v := ?vh13x10) rfl rfl (by kernel_rfl) (by kernel_rfl) (by kernel_rfl) (fun _ _ _ h => h) (Or.inl ⟨by rfl, ?hyh13x10⟩) hHeld ?resth13x10
  case hyh13x10 => first | (intro w hSw; go_simp; done) | (intro w hSw; go_simp; with_reducible rfl)
  try simp only [List.setIfInBounds_toArray, List.set_cons_zero, List.set_cons_succ]
  have k := TA.out.box.cell (i := 10) (by omega)
  have z := TA.out.box.frozen 10
  refine wpAnyH_ready (rs := [11]) (by kernel_rfl) (by simp) ?_
  refine AllReadyH.cons rfl (fun K hK => ?_) AllReadyH.nil
  go_simp
  refine hK.out _ _ (TA.out.put 10 _ (by simp)).bx (fun hHeld => ?_)
  clear hK K
  have TA : Hid (Sit w (y7c9.setCell ⟨g, 10, none⟩ (.int .i64 v13)) H b g #[.int .i64 v0, .slice (some ⟨a1, 0, none⟩) v1 v1, .slice (some ⟨a2, 0, none⟩) v1 v1, .slice (some ⟨a3, 0, none⟩) v1 v1, .slice (some ⟨a4, 0, none⟩) v5 v5, .slice (some ⟨a5, 0, none⟩) v7 v7, .int .i64 v9, .int .i64 v10, .int .i64 v11, .int .i64 v12, .int .i64 v13, .slice none 0 0] s13) := TA.out.put 10 _ (by simp)
  have hq1 := hq1.tr (Ltr.set y7c9 (show g < g + 1 by omega) 10 (.int .i64 v13))
  clear k z
  generalize (y7c9.setCell ⟨g, 10, none⟩ (.int .i64 v13)) = y7c10 at *
  refine wpAnyH_done (by kernel_rfl) ?_ _
  have T := TA
  clear TA hHeld
  have L1 := Hid.mk' (L1.out.ltr hq1)
  have L2 := Hid.mk' (L2.out.ltr hq1)
  have L3 := Hid.mk' (L3.out.ltr hq1)
  have L4 := Hid.mk' (L4.out.ltr hq1)
  have L5 := Hid.mk' (L5.out.ltr hq1)
  have G := Hid.mk' (Ltr.cell hq1 G.out (by omega))
  clear hq1
  generalize y7c10 = x8 at *
  have TX := Hid.mk' T.out
  clear T
  have bxx := TX.out.bx
  go_wp2_with (go_at_call 32; have hn := readPlans_any TX.out.rd TX.out.up; rw [HU14.out] at hn; refine hn.mono ?_; rintro e wB ⟨rfl, a11, c2, hlB, hrB, hkB⟩; have TB := Hid.mk' (TX.out.call hkB hrB); have LB := Hid.mk' (hlB.down (show g + 1 ≤ _ from TX.out.box.lt)); clear hrB hlB bxx; have bxx := TB.out.bx; have k0 := TB.out.box.cell (i := 0) (by omega); have r0 := TB.out.res.cell (i := 0) (by omega); have y0 := TB.out.res.frozen 0; have k1 := TB.out.box.cell (i := 1) (by omega); have r1 := TB.out.res.cell (i := 1) (by omega); have y1 := TB.out.res.frozen 1; have k2 := TB.out.box.cell (i := 2) (by omega); have r2 := TB.out.res.cell (i := 2) (by omega); have y2 := TB.out.res.frozen 2; have k3 := TB.out.box.cell (i := 3) (by omega); have r3 := TB.out.res.cell (i := 3) (by omega); have y3 := TB.out.res.frozen 3; have k4 := TB.out.box.cell (i := 4) (by omega); have r4 := TB.out.res.cell (i := 4) (by omega); have y4 := TB.out.res.frozen 4; have k5 := TB.out.box.cell (i := 5) (by omega); have r5 := TB.out.res.cell (i := 5) (by omega); have y5 := TB.out.res.frozen 5; have k6 := TB.out.box.cell (i := 6) (by omega); have r6 := TB.out.res.cell (i := 6) (by omega); have y6 := TB.out.res.frozen 6; have k7 := TB.out.box.cell (i := 7) (by omega); have r7 := TB.out.res.cell (i := 7) (by omega); have y7 := TB.out.res.frozen 7; have k8 := TB.out.box.cell (i := 8) (by omega); have r8 := TB.out.res.cell (i := 8) (by omega); have y8 := TB.out.res.frozen 8; have k9 := TB.out.box.cell (i := 9) (by omega); have r9 := TB.out.res.cell (i := 9) (by omega); have y9 := TB.out.res.frozen 9; have k10 := TB.out.box.cell (i := 10) (by omega); have r10 := TB.out.res.cell (i := 10) (by omega); have y10 := TB.out.res.frozen 10; have k11 := TB.out.box.cell (i := 11) (by omega); have r11 := TB.out.res.cell (i := 11) (by omega); have y11 := TB.out.res.frozen 11; have z := TB.out.box.frozen 11; simp only [fS, zS] at k0 r0 k1 r1 k2 r2 k3 r3 k4 r4 k5 r5 k6 r6 k7 r7 k8 r8 k9 r9 k10 r10 k11 r11)
  have F0 := Hid.mk' (TB.out.fin12 rfl (.slice (some ⟨a11, 0, none⟩) v14.length v14.length) (.int .i64 v0) (.slice (some ⟨a1, 0, none⟩) v1 v1) (.slice (some ⟨a2, 0, none⟩) v1 v1) (.slice (some ⟨a3, 0, none⟩) v1 v1) (.slice (some ⟨a4, 0, none⟩) v5 v5) (.slice (some ⟨a5, 0, none⟩) v7 v7) (.int .i64 v9) (.int .i64 v10) (.int .i64 v11) (.int .i64 v12) (.int .i64 v13) (.slice (some ⟨a11, 0, none⟩) v14.length v14.length))
  clear hn bxx z c2 k0 r0 y0 k1 r1 y1 k2 r2 y2 k3 r3 y3 k4 r4 y4 k5 r5 y5 k6 r6 y6 k7 r7 y7 k8 r8 y8 k9 r9 y9 k10 r10 y10 k11 r11 y11
  generalize (((((((((((((wB.setCell ⟨g, 11, none⟩ (.slice (some ⟨a11, 0, none⟩) v14.length v14.length)).setCell ⟨w.heap.size + 1, 0, none⟩ (.int .i64 v0)).setCell ⟨w.heap.size + 1, 1, none⟩ (.slice (some ⟨a1, 0, none⟩) v1 v1)).setCell ⟨w.heap.size + 1, 2, none⟩ (.slice (some ⟨a2, 0, none⟩) v1 v1)).setCell ⟨w.heap.size + 1, 3, none⟩ (.slice (some ⟨a3, 0, none⟩) v1 v1)).setCell ⟨w.heap.size + 1, 4, none⟩ (.slice (some ⟨a4, 0, none⟩) v5 v5)).setCell ⟨w.heap.size + 1, 5, none⟩ (.slice (some ⟨a5, 0, none⟩) v7 v7)).setCell ⟨w.heap.size + 1, 6, none⟩ (.int .i64 v9)).setCell ⟨w.heap.size + 1, 7, none⟩ (.int .i64 v10)).setCell ⟨w.heap.size + 1, 8, none⟩ (.int .i64 v11)).setCell ⟨w.heap.size + 1, 9, none⟩ (.int .i64 v12)).setCell ⟨w.heap.size + 1, 10, none⟩ (.int .i64 v13)).setCell ⟨w.heap.size + 1, 11, none⟩ (.slice (some ⟨a11, 0, none⟩) v14.length v14.length)) = W at *
  have hq1 : Ltr (g + 1) x8 W := (hkB.ltr (by omega)).tr F0.out.ltr
  have L1 := Hid.mk' (L1.out.ltr hq1)
  have L2 := Hid.mk' (L2.out.ltr hq1)
  have L3 := Hid.mk' (L3.out.ltr hq1)
  have L4 := Hid.mk' (L4.out.ltr hq1)
  have L5 := Hid.mk' (L5.out.ltr hq1)
  have G := Hid.mk' (Ltr.cell hq1 G.out (by omega))
  have L6 := Hid.mk' (LB.out.ltr F0.out.ltr)
  obtain ⟨q0, q1, q2, q3, q4, q5, q6, q7, q8, q9, q10, q11⟩ := F0.out.cells
  refine bodyPost_ret (v := .agg #[.int .i64 v0, .slice (some ⟨a1, 0, none⟩) v1 v1, .slice (some ⟨a2, 0, none⟩) v1 v1, .slice (some ⟨a3, 0, none⟩) v1 v1, .slice (some ⟨a4, 0, none⟩) v5 v5, .slice (some ⟨a5, 0, none⟩) v7 v7, .int .i64 v9, .int .i64 v10, .int .i64 v11, .int .i64 v12, .int .i64 v13, .slice (some ⟨a11, 0, none⟩) v14.length v14.length]) (by simp [results, Tryd.results25, go_sem, q0, q1, q2, q3, q4, q5, q6, q7, q8, q9, q10, q11]) rfl ?_
  clear q0 q1 q2 q3 q4 q5 q6 q7 q8 q9 q10 q11
  obtain ⟨l2, l3, l4, l6, l8⟩ := HLEN.out
  refine ⟨⟨some ⟨a1, 0, none⟩, v1, some ⟨a2, 0, none⟩, v1, some ⟨a3, 0, none⟩, v1, some ⟨a4, 0, none⟩, v5, some ⟨a5, 0, none⟩, v7, some ⟨a11, 0, none⟩, v14.length⟩, ?_, ?_, F0.out.rd, F0.out.kept⟩
  · simp only [siteV, l2, l3, l4, l6, l8]
  · intro w'' hqq
    have hqq := hqq.up (show w.heap.size + 1 ≤ g + 1 by have := F0.out.gt; omega)
    constructor
    · show Lie w'' (some ⟨a1, 0, none⟩) v2.length 3 (fun i j => grV (v2.getD i g0) j)
      rw [l2]; exact (L1.out.ltr hqq).lie
    · show Lie w'' (some ⟨a2, 0, none⟩) v3.length 1 (fun i _ => .int .u32 (v3.getD i 0 : Int))
      rw [l3]; exact (L2.out.ltr hqq).lie
    · show Grid w'' (some ⟨a3, 0, none⟩) v4.length v1 v4
      rw [l4]; exact (L3.out.ltr hqq).grid l4 (by omega) hr4.out
    · show Lie w'' (some ⟨a4, 0, none⟩) v6.length 5 (fun i j => phV (v6.getD i p0) j)
      rw [l6]; exact (L4.out.ltr hqq).lie
    · show Lie w'' (some ⟨a5, 0, none⟩) v8.length 4 (fun i j => eyV (v8.getD i e0) j)
      rw [l8]; exact (L5.out.ltr hqq).lie
    · exact (L6.out.ltr hqq).plans rfl (by have := hr14.out.1; omega) hr14.out.2
    · show Cap _ v2.length v1
      rw [l2]; exact cap_some (by omega)
    · show Cap _ v3.length v1
      rw [l3]; exact cap_some (by omega)
    · show Cap _ v6.length v5
      rw [l6]; exact cap_some (by omega)
    · show Cap _ v8.length v7
      rw [l8]; exact cap_some (by omega)
    · exact hr2.out
    · exact hr3.out
    · exact hr6.out
    · exact hr8.out
    · exact HNUM.out

end Go.Proofs.YtcjkghajeohfjaaDoor

