/-
  HOW IT STANDS WHILE A SITE IS READ: the boxes, the reader, the lists that have been read.
-/
import Derived.Test.YtpajefkfnhibnaaDoorPlanS
namespace Go.Proofs.YtpajefkfnhibnaaDoor
open Go.RowKit Go.Lib Go.Deep
set_option linter.unusedVariables false
set_option linter.unusedSimpArgs false

abbrev zS : Array Value := #[.int .i64 0, .slice none 0 0, .slice none 0 0, .slice none 0 0, .slice none 0 0, .slice none 0 0, .int .i64 0, .int .i64 0, .int .i64 0, .int .i64 0, .int .i64 0, .slice none 0 0]
def fS (c : Array Value) (i : Nat) : Value := c[i]?.getD undef
theorem fS_set (c : Array Value) (j : Nat) (v : Value) (hj : j < c.size) (i : Nat) : (if i = j then v else fS c i) = fS (c.setIfInBounds j v) i := by
  unfold fS
  rw [Array.getElem?_setIfInBounds]
  by_cases h : i = j
  · subst h; simp [hj]
  · rw [if_neg h, if_neg (fun e => h e.symm)]
/-- The boxes and the reader. -/
structure Sit (w wx : World) (H b g : Nat) (c : Array Value) (s : Rd) : Prop where
  rd : Rdr wx H b s
  bx : wx.cell? ⟨w.heap.size, 0, none⟩ = some (.pointer (some ⟨b, 0, none⟩))
  res : wx.rowIs (w.heap.size + 1) 29 12 (fS zS)
  box : wx.rowIs g 29 12 (fS c)
  gt : w.heap.size + 1 < g
  kept : Kept w wx (some b)
  hi : H ≤ w.heap.size
theorem Sit.lt {w wx : World} {H b g : Nat} {c : Array Value} {s : Rd} (h : Sit w wx H b g c s) : b < w.heap.size := by have := h.rd.lt; have := h.hi; omega
theorem Sit.up {w wx : World} {H b g : Nat} {c : Array Value} {s : Rd} (h : Sit w wx H b g c s) : H ≤ wx.heap.size := by have := h.hi; have := h.kept.size; omega
theorem Sit.call {w wx w' : World} {H b g : Nat} {c : Array Value} {s s' : Rd} (h : Sit w wx H b g c s) (hk : Kept wx w' (some b)) (hr : Rdr w' H b s') : Sit w w' H b g c s' := by
  have hb := h.lt
  have hg := h.gt
  exact ⟨hr, cell_keptR h.bx hk (fun e => by have := Option.some.inj e; omega), row_kept h.res hk (fun e => by have := Option.some.inj e; omega), row_kept h.box hk (fun e => by have := Option.some.inj e; omega), h.gt, h.kept.tr hk, h.hi⟩
theorem Sit.drew {w wx : World} {H b g : Nat} {c : Array Value} {s : Rd} (h : Sit w wx H b g c s) : Sit w wx.drew H b g c s := h.call (Kept.drew _ _) h.rd.drew
theorem Sit.alloc {w wx : World} {H b g : Nat} {c : Array Value} {s : Rd} (h : Sit w wx H b g c s) (d : Array Value) (t : TypeId) : Sit w (wx.alloc (.cells d t)) H b g c s := h.call (Kept.alloc _ _ _ (0, 0) _) (h.rd.alloc _ _)
theorem Sit.put {w wx : World} {H b g : Nat} {c : Array Value} {s : Rd} (h : Sit w wx H b g c s) (j : Nat) (v : Value) (hj : j < c.size) : Sit w (wx.setCell ⟨g, j, none⟩ v) H b g (c.setIfInBounds j v) s := by
  have hg := h.gt
  have hi := h.hi
  refine ⟨h.rd.setNew (by omega) j v, (World.cell?_setCell_other _ _ _ _ (by intro e; injection e with e1; omega)).trans h.bx, h.res.setOther (by show _ ≠ g; omega) v, (h.box.set j v).congr (fun i _ => fS_set c j v hj i), h.gt, kept_new h.kept (by omega) j v, h.hi⟩
/-- What leaves the blocks from lo on as they are. -/
structure Ltr (lo : Nat) (w w' : World) : Prop where
  size : w.heap.size ≤ w'.heap.size
  block : ∀ k, lo ≤ k → k < w.heap.size → w'.heap[k]? = w.heap[k]?
theorem Ltr.tr {lo : Nat} {a b c : World} (h : Ltr lo a b) (k : Ltr lo b c) : Ltr lo a c := ⟨Nat.le_trans h.size k.size, fun i hi hl => (k.block i hi (Nat.lt_of_lt_of_le hl h.size)).trans (h.block i hi hl)⟩
theorem Ltr.up {lo lo' : Nat} {a b : World} (h : Ltr lo a b) (q : lo ≤ lo') : Ltr lo' a b := ⟨h.size, fun i hi hl => h.block i (Nat.le_trans q hi) hl⟩
theorem Ltr.rfl' {lo : Nat} {a : World} : Ltr lo a a := ⟨Nat.le_refl _, fun _ _ _ => rfl⟩
theorem Ltr.of_none {lo : Nat} {w w' : World} (h : Kept w w' none) : Ltr lo w w' := ⟨h.size, fun k _ hl => h.block k hl (by simp)⟩
theorem Kept.ltr {w w' : World} {x lo : Nat} (h : Kept w w' (some x)) (hx : x < lo) : Ltr lo w w' := ⟨h.size, fun k hk hl => h.block k hl (fun e => by have := Option.some.inj e; omega)⟩
theorem Ltr.set {lo : Nat} (w : World) {g : Nat} (hg : g < lo) (j : Nat) (v : Value) : Ltr lo w (w.setCell ⟨g, j, none⟩ v) := (kept_set w g j v).ltr hg
theorem Ltr.cell {lo : Nat} {w w' : World} {b j : Nat} {v : Value} (q : Ltr lo w w') (h : w.cell? ⟨b, j, none⟩ = some v) (hb : lo ≤ b) : w'.cell? ⟨b, j, none⟩ = some v :=
  (World.cell?_of_block (w := w) (a := ⟨b, j, none⟩) (q.block b hb (block_lt h))).trans h
/-- A list in a new block. -/
structure LieN (w : World) (lo a n k : Nat) (f : Nat → Nat → Value) : Prop where
  lie : Lie w (some ⟨a, 0, none⟩) n k f
  lo : lo ≤ a
theorem Lie.ltr {lo : Nat} {w w' : World} {a n k : Nat} {f : Nat → Nat → Value} (h : Lie w (some ⟨a, 0, none⟩) n k f) (q : Ltr lo w w') (hl : lo ≤ a) : Lie w' (some ⟨a, 0, none⟩) n k f :=
  ⟨fun hp => by
    obtain ⟨b, off, e, hb, hc⟩ := h.at_ hp
    injection e with e
    injection e with e1 e2
    subst e1 e2
    exact ⟨a, 0, rfl, Nat.lt_of_lt_of_le hb q.size, fun i hi j hj => q.cell (hc i hi j hj) hl⟩⟩
theorem LieN.ltr {lo : Nat} {w w' : World} {a n k : Nat} {f : Nat → Nat → Value} (h : LieN w lo a n k f) (q : Ltr lo w w') : LieN w' lo a n k f := ⟨h.lie.ltr q h.lo, h.lo⟩
theorem GrN.ltr {lo : Nat} {w w' : World} {a n : Nat} {l : List (List Int)} (h : GrN w lo a n l) (q : Ltr lo w w') : GrN w' lo a n l := by
  obtain ⟨⟨r, h1, h2⟩, h3⟩ := h
  exact ⟨⟨r, h1.ltr q h3, fun i hi => ⟨(h2 i hi).1, (h2 i hi).2.ltr q (h2 i hi).1⟩⟩, h3⟩
theorem PlN.ltr {lo : Nat} {w w' : World} {a n : Nat} {l : List Pl} (h : PlN w lo a n l) (q : Ltr lo w w') : PlN w' lo a n l := by
  obtain ⟨⟨r, h1, h2⟩, h3⟩ := h
  exact ⟨⟨r, h1.ltr q h3, fun i hi => ⟨(h2 i hi).1, (h2 i hi).2.ltr q (h2 i hi).1⟩⟩, h3⟩
theorem GrN.down {lo lo' : Nat} {w : World} {a n : Nat} {l : List (List Int)} (h : GrN w lo a n l) (q : lo' ≤ lo) : GrN w lo' a n l := by
  obtain ⟨⟨r, h1, h2⟩, h3⟩ := h
  exact ⟨⟨r, h1, fun i hi => ⟨Nat.le_trans q (h2 i hi).1, (h2 i hi).2⟩⟩, Nat.le_trans q h3⟩
theorem PlN.down {lo lo' : Nat} {w : World} {a n : Nat} {l : List Pl} (h : PlN w lo a n l) (q : lo' ≤ lo) : PlN w lo' a n l := by
  obtain ⟨⟨r, h1, h2⟩, h3⟩ := h
  exact ⟨⟨r, h1, fun i hi => ⟨Nat.le_trans q (h2 i hi).1, (h2 i hi).2⟩⟩, Nat.le_trans q h3⟩
/-- The result's cells, one after another. -/
structure Fin12 (w wb wx : World) (H b g : Nat) (c : Array Value) (s : Rd) : Prop where
  rd : Rdr wx H b s
  row : wx.rowIs (w.heap.size + 1) 29 12 (fS c)
  kept : Kept w wx (some b)
  ltr : Ltr (g + 1) wb wx
  gt : w.heap.size + 1 < g
  hi : H ≤ w.heap.size
theorem Sit.fin {w wx : World} {H b g : Nat} {c : Array Value} {s : Rd} (h : Sit w wx H b g c s) (j : Nat) (v : Value) (hj : j < c.size) : Fin12 w wx (wx.setCell ⟨g, j, none⟩ v) H b g zS s :=
  ⟨(h.put j v hj).rd, (h.put j v hj).res, (h.put j v hj).kept, Ltr.set wx (Nat.lt_succ_self g) j v, h.gt, h.hi⟩
theorem Fin12.put {w wb wx : World} {H b g : Nat} {c : Array Value} {s : Rd} (h : Fin12 w wb wx H b g c s) (j : Nat) (v : Value) (hj : j < c.size) : Fin12 w wb (wx.setCell ⟨w.heap.size + 1, j, none⟩ v) H b g (c.setIfInBounds j v) s := by
  have hi := h.hi
  have hg := h.gt
  exact ⟨h.rd.setNew (by omega) j v, (h.row.set j v).congr (fun i _ => fS_set c j v hj i), kept_new h.kept (by omega) j v, h.ltr.tr (Ltr.set wx (by omega) j v), h.gt, h.hi⟩
theorem set12 (v0 v1 v2 v3 v4 v5 v6 v7 v8 v9 v10 v11 : Value) : ((((((((((((zS.setIfInBounds 0 v0).setIfInBounds 1 v1).setIfInBounds 2 v2).setIfInBounds 3 v3).setIfInBounds 4 v4).setIfInBounds 5 v5).setIfInBounds 6 v6).setIfInBounds 7 v7).setIfInBounds 8 v8).setIfInBounds 9 v9).setIfInBounds 10 v10).setIfInBounds 11 v11) = #[v0, v1, v2, v3, v4, v5, v6, v7, v8, v9, v10, v11] := by simp only [zS, List.setIfInBounds_toArray, List.set_cons_zero, List.set_cons_succ]
theorem row12 {w0 wx : World} {B lo : Nat} (h : wx.rowIs B 29 12 (fS zS)) (hk : Kept w0 wx none) (hB : w0.heap.size ≤ B) (hl : B < lo) (v0 v1 v2 v3 v4 v5 v6 v7 v8 v9 v10 v11 : Value) : Kept w0 ((((((((((((wx.setCell ⟨B, 0, none⟩ v0).setCell ⟨B, 1, none⟩ v1).setCell ⟨B, 2, none⟩ v2).setCell ⟨B, 3, none⟩ v3).setCell ⟨B, 4, none⟩ v4).setCell ⟨B, 5, none⟩ v5).setCell ⟨B, 6, none⟩ v6).setCell ⟨B, 7, none⟩ v7).setCell ⟨B, 8, none⟩ v8).setCell ⟨B, 9, none⟩ v9).setCell ⟨B, 10, none⟩ v10).setCell ⟨B, 11, none⟩ v11) none ∧ Ltr lo wx ((((((((((((wx.setCell ⟨B, 0, none⟩ v0).setCell ⟨B, 1, none⟩ v1).setCell ⟨B, 2, none⟩ v2).setCell ⟨B, 3, none⟩ v3).setCell ⟨B, 4, none⟩ v4).setCell ⟨B, 5, none⟩ v5).setCell ⟨B, 6, none⟩ v6).setCell ⟨B, 7, none⟩ v7).setCell ⟨B, 8, none⟩ v8).setCell ⟨B, 9, none⟩ v9).setCell ⟨B, 10, none⟩ v10).setCell ⟨B, 11, none⟩ v11) ∧ ((((((((((((wx.setCell ⟨B, 0, none⟩ v0).setCell ⟨B, 1, none⟩ v1).setCell ⟨B, 2, none⟩ v2).setCell ⟨B, 3, none⟩ v3).setCell ⟨B, 4, none⟩ v4).setCell ⟨B, 5, none⟩ v5).setCell ⟨B, 6, none⟩ v6).setCell ⟨B, 7, none⟩ v7).setCell ⟨B, 8, none⟩ v8).setCell ⟨B, 9, none⟩ v9).setCell ⟨B, 10, none⟩ v10).setCell ⟨B, 11, none⟩ v11).cell? ⟨B, 0, none⟩ = some v0 ∧ ((((((((((((wx.setCell ⟨B, 0, none⟩ v0).setCell ⟨B, 1, none⟩ v1).setCell ⟨B, 2, none⟩ v2).setCell ⟨B, 3, none⟩ v3).setCell ⟨B, 4, none⟩ v4).setCell ⟨B, 5, none⟩ v5).setCell ⟨B, 6, none⟩ v6).setCell ⟨B, 7, none⟩ v7).setCell ⟨B, 8, none⟩ v8).setCell ⟨B, 9, none⟩ v9).setCell ⟨B, 10, none⟩ v10).setCell ⟨B, 11, none⟩ v11).cell? ⟨B, 1, none⟩ = some v1 ∧ ((((((((((((wx.setCell ⟨B, 0, none⟩ v0).setCell ⟨B, 1, none⟩ v1).setCell ⟨B, 2, none⟩ v2).setCell ⟨B, 3, none⟩ v3).setCell ⟨B, 4, none⟩ v4).setCell ⟨B, 5, none⟩ v5).setCell ⟨B, 6, none⟩ v6).setCell ⟨B, 7, none⟩ v7).setCell ⟨B, 8, none⟩ v8).setCell ⟨B, 9, none⟩ v9).setCell ⟨B, 10, none⟩ v10).setCell ⟨B, 11, none⟩ v11).cell? ⟨B, 2, none⟩ = some v2 ∧ ((((((((((((wx.setCell ⟨B, 0, none⟩ v0).setCell ⟨B, 1, none⟩ v1).setCell ⟨B, 2, none⟩ v2).setCell ⟨B, 3, none⟩ v3).setCell ⟨B, 4, none⟩ v4).setCell ⟨B, 5, none⟩ v5).setCell ⟨B, 6, none⟩ v6).setCell ⟨B, 7, none⟩ v7).setCell ⟨B, 8, none⟩ v8).setCell ⟨B, 9, none⟩ v9).setCell ⟨B, 10, none⟩ v10).setCell ⟨B, 11, none⟩ v11).cell? ⟨B, 3, none⟩ = some v3 ∧ ((((((((((((wx.setCell ⟨B, 0, none⟩ v0).setCell ⟨B, 1, none⟩ v1).setCell ⟨B, 2, none⟩ v2).setCell ⟨B, 3, none⟩ v3).setCell ⟨B, 4, none⟩ v4).setCell ⟨B, 5, none⟩ v5).setCell ⟨B, 6, none⟩ v6).setCell ⟨B, 7, none⟩ v7).setCell ⟨B, 8, none⟩ v8).setCell ⟨B, 9, none⟩ v9).setCell ⟨B, 10, none⟩ v10).setCell ⟨B, 11, none⟩ v11).cell? ⟨B, 4, none⟩ = some v4 ∧ ((((((((((((wx.setCell ⟨B, 0, none⟩ v0).setCell ⟨B, 1, none⟩ v1).setCell ⟨B, 2, none⟩ v2).setCell ⟨B, 3, none⟩ v3).setCell ⟨B, 4, none⟩ v4).setCell ⟨B, 5, none⟩ v5).setCell ⟨B, 6, none⟩ v6).setCell ⟨B, 7, none⟩ v7).setCell ⟨B, 8, none⟩ v8).setCell ⟨B, 9, none⟩ v9).setCell ⟨B, 10, none⟩ v10).setCell ⟨B, 11, none⟩ v11).cell? ⟨B, 5, none⟩ = some v5 ∧ ((((((((((((wx.setCell ⟨B, 0, none⟩ v0).setCell ⟨B, 1, none⟩ v1).setCell ⟨B, 2, none⟩ v2).setCell ⟨B, 3, none⟩ v3).setCell ⟨B, 4, none⟩ v4).setCell ⟨B, 5, none⟩ v5).setCell ⟨B, 6, none⟩ v6).setCell ⟨B, 7, none⟩ v7).setCell ⟨B, 8, none⟩ v8).setCell ⟨B, 9, none⟩ v9).setCell ⟨B, 10, none⟩ v10).setCell ⟨B, 11, none⟩ v11).cell? ⟨B, 6, none⟩ = some v6 ∧ ((((((((((((wx.setCell ⟨B, 0, none⟩ v0).setCell ⟨B, 1, none⟩ v1).setCell ⟨B, 2, none⟩ v2).setCell ⟨B, 3, none⟩ v3).setCell ⟨B, 4, none⟩ v4).setCell ⟨B, 5, none⟩ v5).setCell ⟨B, 6, none⟩ v6).setCell ⟨B, 7, none⟩ v7).setCell ⟨B, 8, none⟩ v8).setCell ⟨B, 9, none⟩ v9).setCell ⟨B, 10, none⟩ v10).setCell ⟨B, 11, none⟩ v11).cell? ⟨B, 7, none⟩ = some v7 ∧ ((((((((((((wx.setCell ⟨B, 0, none⟩ v0).setCell ⟨B, 1, none⟩ v1).setCell ⟨B, 2, none⟩ v2).setCell ⟨B, 3, none⟩ v3).setCell ⟨B, 4, none⟩ v4).setCell ⟨B, 5, none⟩ v5).setCell ⟨B, 6, none⟩ v6).setCell ⟨B, 7, none⟩ v7).setCell ⟨B, 8, none⟩ v8).setCell ⟨B, 9, none⟩ v9).setCell ⟨B, 10, none⟩ v10).setCell ⟨B, 11, none⟩ v11).cell? ⟨B, 8, none⟩ = some v8 ∧ ((((((((((((wx.setCell ⟨B, 0, none⟩ v0).setCell ⟨B, 1, none⟩ v1).setCell ⟨B, 2, none⟩ v2).setCell ⟨B, 3, none⟩ v3).setCell ⟨B, 4, none⟩ v4).setCell ⟨B, 5, none⟩ v5).setCell ⟨B, 6, none⟩ v6).setCell ⟨B, 7, none⟩ v7).setCell ⟨B, 8, none⟩ v8).setCell ⟨B, 9, none⟩ v9).setCell ⟨B, 10, none⟩ v10).setCell ⟨B, 11, none⟩ v11).cell? ⟨B, 9, none⟩ = some v9 ∧ ((((((((((((wx.setCell ⟨B, 0, none⟩ v0).setCell ⟨B, 1, none⟩ v1).setCell ⟨B, 2, none⟩ v2).setCell ⟨B, 3, none⟩ v3).setCell ⟨B, 4, none⟩ v4).setCell ⟨B, 5, none⟩ v5).setCell ⟨B, 6, none⟩ v6).setCell ⟨B, 7, none⟩ v7).setCell ⟨B, 8, none⟩ v8).setCell ⟨B, 9, none⟩ v9).setCell ⟨B, 10, none⟩ v10).setCell ⟨B, 11, none⟩ v11).cell? ⟨B, 10, none⟩ = some v10 ∧ ((((((((((((wx.setCell ⟨B, 0, none⟩ v0).setCell ⟨B, 1, none⟩ v1).setCell ⟨B, 2, none⟩ v2).setCell ⟨B, 3, none⟩ v3).setCell ⟨B, 4, none⟩ v4).setCell ⟨B, 5, none⟩ v5).setCell ⟨B, 6, none⟩ v6).setCell ⟨B, 7, none⟩ v7).setCell ⟨B, 8, none⟩ v8).setCell ⟨B, 9, none⟩ v9).setCell ⟨B, 10, none⟩ v10).setCell ⟨B, 11, none⟩ v11).cell? ⟨B, 11, none⟩ = some v11 := by
  have e := ((((((((((((((((((((((((h.set 0 v0).congr (fun i _ => fS_set _ 0 v0 (by simp [zS]) i)).set 1 v1).congr (fun i _ => fS_set _ 1 v1 (by simp [zS]) i)).set 2 v2).congr (fun i _ => fS_set _ 2 v2 (by simp [zS]) i)).set 3 v3).congr (fun i _ => fS_set _ 3 v3 (by simp [zS]) i)).set 4 v4).congr (fun i _ => fS_set _ 4 v4 (by simp [zS]) i)).set 5 v5).congr (fun i _ => fS_set _ 5 v5 (by simp [zS]) i)).set 6 v6).congr (fun i _ => fS_set _ 6 v6 (by simp [zS]) i)).set 7 v7).congr (fun i _ => fS_set _ 7 v7 (by simp [zS]) i)).set 8 v8).congr (fun i _ => fS_set _ 8 v8 (by simp [zS]) i)).set 9 v9).congr (fun i _ => fS_set _ 9 v9 (by simp [zS]) i)).set 10 v10).congr (fun i _ => fS_set _ 10 v10 (by simp [zS]) i)).set 11 v11).congr (fun i _ => fS_set _ 11 v11 (by simp [zS]) i))
  rw [set12] at e
  exact ⟨(kept_new (kept_new (kept_new (kept_new (kept_new (kept_new (kept_new (kept_new (kept_new (kept_new (kept_new (kept_new hk hB 0 v0) hB 1 v1) hB 2 v2) hB 3 v3) hB 4 v4) hB 5 v5) hB 6 v6) hB 7 v7) hB 8 v8) hB 9 v9) hB 10 v10) hB 11 v11), ((((((((((((Ltr.rfl'.tr (Ltr.set _ hl 0 v0)).tr (Ltr.set _ hl 1 v1)).tr (Ltr.set _ hl 2 v2)).tr (Ltr.set _ hl 3 v3)).tr (Ltr.set _ hl 4 v4)).tr (Ltr.set _ hl 5 v5)).tr (Ltr.set _ hl 6 v6)).tr (Ltr.set _ hl 7 v7)).tr (Ltr.set _ hl 8 v8)).tr (Ltr.set _ hl 9 v9)).tr (Ltr.set _ hl 10 v10)).tr (Ltr.set _ hl 11 v11)), e.cell (i := 0) (by omega), e.cell (i := 1) (by omega), e.cell (i := 2) (by omega), e.cell (i := 3) (by omega), e.cell (i := 4) (by omega), e.cell (i := 5) (by omega), e.cell (i := 6) (by omega), e.cell (i := 7) (by omega), e.cell (i := 8) (by omega), e.cell (i := 9) (by omega), e.cell (i := 10) (by omega), e.cell (i := 11) (by omega)⟩
theorem Sit.fin12 {w wx : World} {H b g : Nat} {c : Array Value} {s : Rd} (h : Sit w wx H b g c s) (hc : c.size = 12) (p v0 v1 v2 v3 v4 v5 v6 v7 v8 v9 v10 v11 : Value) : Fin12 w wx (((((((((((((wx.setCell ⟨g, 11, none⟩ p).setCell ⟨w.heap.size + 1, 0, none⟩ v0).setCell ⟨w.heap.size + 1, 1, none⟩ v1).setCell ⟨w.heap.size + 1, 2, none⟩ v2).setCell ⟨w.heap.size + 1, 3, none⟩ v3).setCell ⟨w.heap.size + 1, 4, none⟩ v4).setCell ⟨w.heap.size + 1, 5, none⟩ v5).setCell ⟨w.heap.size + 1, 6, none⟩ v6).setCell ⟨w.heap.size + 1, 7, none⟩ v7).setCell ⟨w.heap.size + 1, 8, none⟩ v8).setCell ⟨w.heap.size + 1, 9, none⟩ v9).setCell ⟨w.heap.size + 1, 10, none⟩ v10).setCell ⟨w.heap.size + 1, 11, none⟩ v11) H b g #[v0, v1, v2, v3, v4, v5, v6, v7, v8, v9, v10, v11] s := by
  have e := (((((((((((((h.fin 11 p (by omega)).put 0 v0 (by simp)).put 1 v1 (by simp)).put 2 v2 (by simp)).put 3 v3 (by simp)).put 4 v4 (by simp)).put 5 v5 (by simp)).put 6 v6 (by simp)).put 7 v7 (by simp)).put 8 v8 (by simp)).put 9 v9 (by simp)).put 10 v10 (by simp)).put 11 v11 (by simp))
  rw [set12] at e
  exact e
theorem Fin12.cells {w wb wx : World} {H b g : Nat} {v0 v1 v2 v3 v4 v5 v6 v7 v8 v9 v10 v11 : Value} {s : Rd} (h : Fin12 w wb wx H b g #[v0, v1, v2, v3, v4, v5, v6, v7, v8, v9, v10, v11] s) : wx.cell? ⟨w.heap.size + 1, 0, none⟩ = some v0 ∧ wx.cell? ⟨w.heap.size + 1, 1, none⟩ = some v1 ∧ wx.cell? ⟨w.heap.size + 1, 2, none⟩ = some v2 ∧ wx.cell? ⟨w.heap.size + 1, 3, none⟩ = some v3 ∧ wx.cell? ⟨w.heap.size + 1, 4, none⟩ = some v4 ∧ wx.cell? ⟨w.heap.size + 1, 5, none⟩ = some v5 ∧ wx.cell? ⟨w.heap.size + 1, 6, none⟩ = some v6 ∧ wx.cell? ⟨w.heap.size + 1, 7, none⟩ = some v7 ∧ wx.cell? ⟨w.heap.size + 1, 8, none⟩ = some v8 ∧ wx.cell? ⟨w.heap.size + 1, 9, none⟩ = some v9 ∧ wx.cell? ⟨w.heap.size + 1, 10, none⟩ = some v10 ∧ wx.cell? ⟨w.heap.size + 1, 11, none⟩ = some v11 :=
  ⟨h.row.cell (i := 0) (by omega), h.row.cell (i := 1) (by omega), h.row.cell (i := 2) (by omega), h.row.cell (i := 3) (by omega), h.row.cell (i := 4) (by omega), h.row.cell (i := 5) (by omega), h.row.cell (i := 6) (by omega), h.row.cell (i := 7) (by omega), h.row.cell (i := 8) (by omega), h.row.cell (i := 9) (by omega), h.row.cell (i := 10) (by omega), h.row.cell (i := 11) (by omega)⟩

/-! ### What is read keeps within bounds -/
theorem listM_all {α : Type} {f : Rd → α × Rd} {P : α → Prop} (h : ∀ s, P (f s).1) : ∀ n s, ∀ x ∈ (listM f n s).1, P x
  | 0, s, x, hx => by simp [listM] at hx
  | n + 1, s, x, hx => by
    rw [listM, List.mem_cons] at hx
    rcases hx with rfl | hx
    · exact h s
    · exact listM_all h n _ x hx
theorem numM_le (s : Rd) : 0 ≤ (numM s).1 ∧ (numM s).1 ≤ 1048576 := by
  have := upM_le 1048576 s
  unfold numM
  dsimp only
  omega
theorem numM_i64 (s : Rd) : i64B (numM s).1 := by have := numM_le s; unfold i64B; omega
theorem grM_r (s : Rd) : (grM s).1.kind < 256 ∧ i64B (grM s).1.min ∧ i64B (grM s).1.yellow := ⟨by have := upM_le 255 s; show (upM 255 s).1 < 256; omega, numM_i64 _, numM_i64 _⟩
theorem phM_r (s : Rd) : (phM s).1.groups < 4294967296 ∧ i64B (phM s).1.min ∧ i64B (phM s).1.max ∧ i64B (phM s).1.gap := ⟨by have := upM_le 4294967295 s; show (upM 4294967295 s).1 < _; omega, numM_i64 _, numM_i64 _, numM_i64 _⟩
theorem eyM_r (s : Rd) : i64B (eyM s).1.phase ∧ i64B (eyM s).1.on ∧ i64B (eyM s).1.off ∧ i64B (eyM s).1.turns := ⟨numM_i64 _, numM_i64 _, numM_i64 _, numM_i64 _⟩
theorem plM_r (s : Rd) : (i64B (plM s).1.cycle ∧ i64B (plM s).1.offset) ∧ (plM s).1.splits.length ≤ 8 ∧ ∀ x ∈ (plM s).1.splits, i64B x :=
  ⟨⟨numM_i64 _, numM_i64 _⟩, by
    show (listM numM (upM 8 _).1 _).1.length ≤ 8
    rw [listM_len]
    exact upM_le _ _, listM_all numM_i64 _ _⟩
theorem plansM_r (s : Rd) : (plansM s).1.length ≤ 8 ∧ ∀ p ∈ (plansM s).1, (i64B p.cycle ∧ i64B p.offset) ∧ p.splits.length ≤ 8 ∧ ∀ x ∈ p.splits, i64B x :=
  ⟨by show (listM plM (upM 8 s).1 _).1.length ≤ 8; rw [listM_len]; exact upM_le _ _, listM_all (P := fun p : Pl => (i64B p.cycle ∧ i64B p.offset) ∧ p.splits.length ≤ 8 ∧ ∀ x ∈ p.splits, i64B x) plM_r _ _⟩
theorem cap_some {a : Addr} {n : Nat} (h : n ≤ 1000) : Cap (some a) n n := ⟨fun e => (nomatch e), Nat.le_refl _, by omega⟩
theorem PlN.plans {lo : Nat} {w : World} {a n : Nat} {l : List Pl} (h : PlN w lo a n l) (hn : l.length = n) (h8 : n ≤ 1000) (hr : ∀ p ∈ l, (i64B p.cycle ∧ i64B p.offset) ∧ p.splits.length ≤ 8 ∧ ∀ x ∈ p.splits, i64B x) : Plans w (some ⟨a, 0, none⟩) n n l := by
  obtain ⟨⟨r, h1, h2⟩, h3⟩ := h
  refine ⟨⟨fun i => (some ⟨r i, 0, none⟩, (l.getD i q0).splits.length), h1, fun i hi => ?_⟩, hn, cap_some h8, fun p hp => (hr p hp).1⟩
  have hm := hr _ (getD_mem (d := q0) (show i < l.length by omega))
  exact ⟨(h2 i hi).2, rfl, cap_some (by omega), hm.2.2⟩
theorem GrN.grid {lo : Nat} {w : World} {a n : Nat} {l : List (List Int)} (h : GrN w lo a n l) (hn : l.length = n) (h8 : n ≤ 1000) (hr : ∀ p ∈ l, p.length ≤ 1000 ∧ ∀ x ∈ p, i64B x) : Grid w (some ⟨a, 0, none⟩) n n l := by
  obtain ⟨⟨r, h1, h2⟩, h3⟩ := h
  refine ⟨⟨fun i => (some ⟨r i, 0, none⟩, (l.getD i []).length), h1, fun i hi => ?_⟩, hn, cap_some h8⟩
  have hm := hr _ (getD_mem (d := []) (show i < l.length by omega))
  exact ⟨(h2 i hi).2, rfl, cap_some hm.1, hm.2⟩

end Go.Proofs.YtpajefkfnhibnaaDoor
