/-
  TWO CELLS in a block of their own.
-/
import Derived.Test.YtkgimccffggfdaaDoorLampM
namespace Go.Proofs.YtkgimccffggfdaaDoor
open Go.RowKit Go.Lib Go.Deep
set_option linter.unusedVariables false
set_option linter.unusedSimpArgs false

structure Bx2 (w : World) (b : Nat) (v0 v1 : Value) : Prop where
  c0 : w.cell? ⟨b, 0, none⟩ = some v0
  c1 : w.cell? ⟨b, 1, none⟩ = some v1
  f0 : w.frozen? ⟨b, 0, none⟩ = false
  f1 : w.frozen? ⟨b, 1, none⟩ = false
  lt : b < w.heap.size
theorem bx2_alloc (w : World) (v0 v1 : Value) (t : TypeId) : Bx2 (w.alloc (.cells #[v0, v1] t)) w.heap.size v0 v1 := by
  have h := heap_alloc_new w (.cells #[v0, v1] t)
  exact ⟨World.cell?_alloc_mark .., World.cell?_alloc_mark .., by simp only [World.frozen?, h]; rfl, by simp only [World.frozen?, h]; rfl, by simp⟩
theorem Bx2.keptR {w w' : World} {b : Nat} {v0 v1 : Value} {r : Option Nat} (h : Bx2 w b v0 v1) (k : Kept w w' r) (hr : some b ≠ r) : Bx2 w' b v0 v1 := by
  have e := k.block b h.lt hr
  exact ⟨(World.cell?_of_block (w := w) (a := ⟨b, 0, none⟩) e).trans h.c0, (World.cell?_of_block (w := w) (a := ⟨b, 1, none⟩) e).trans h.c1, (World.frozen?_of_block (w := w) (a := ⟨b, 0, none⟩) e).trans h.f0, (World.frozen?_of_block (w := w) (a := ⟨b, 1, none⟩) e).trans h.f1, Nat.lt_of_lt_of_le h.lt k.size⟩
theorem Bx2.kept {w w' : World} {b : Nat} {v0 v1 : Value} (h : Bx2 w b v0 v1) (k : Kept w w' none) : Bx2 w' b v0 v1 := h.keptR k (by simp)
theorem Bx2.set {w : World} {b : Nat} {v0 v1 : Value} (h : Bx2 w b v0 v1) (x0 x1 : Value) : Bx2 ((w.setCell ⟨b, 0, none⟩ x0).setCell ⟨b, 1, none⟩ x1) b x0 x1 := by
  have h1 : Bx2 (w.setCell ⟨b, 0, none⟩ x0) b x0 v1 := ⟨World.cell?_setCell_same _ _ _ h.c0, (World.cell?_setCell_other _ _ _ _ (by simp)).trans h.c1, (World.frozen?_setCell ..).trans h.f0, (World.frozen?_setCell ..).trans h.f1, by simpa [World.setCell] using h.lt⟩
  exact ⟨(World.cell?_setCell_other _ _ _ _ (by simp)).trans h1.c0, World.cell?_setCell_same _ _ _ h1.c1, (World.frozen?_setCell ..).trans h1.f0, (World.frozen?_setCell ..).trans h1.f1, by simpa [World.setCell] using h1.lt⟩

end Go.Proofs.YtkgimccffggfdaaDoor
