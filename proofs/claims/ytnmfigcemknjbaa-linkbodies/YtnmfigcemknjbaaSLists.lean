/-
  Of the text Lists: what this stage needs (culled by a program).
-/
import Derived.Test.YtnmfigcemknjbaaWorld
import Derived.Test.YtnmfigcemknjbaaSRdr
import Derived.Laws.MakeOwn
namespace Go.Proofs.Ytnmfigcemknjbaa
open Go.RowKit Go.Lib Go.Deep
set_option linter.unusedVariables false
set_option linter.unusedSimpArgs false

theorem lie_row {w : World} {g t n K : Nat} {f : Nat → Value} {F : Nat → Nat → Value} (h : w.rowIs g t (n * K) f) (hf : ∀ i, i < n → ∀ j, j < K → f (i * K + j) = F i j) : Lie w (some ⟨g, 0, none⟩) n K F :=
  ⟨fun hp => ⟨g, 0, rfl, h.lt, fun i hi j hj => by
    have hlt : i * K + j < n * K := by
      have : (i + 1) * K ≤ n * K := Nat.mul_le_mul_right K hi
      rw [Nat.add_mul] at this
      omega
    rw [Nat.zero_add, h.cell hlt, hf i hi j hj]⟩⟩
theorem madeRow (w : World) (z : Array Value) (n : Nat) (t : TypeId) : (w.alloc (.cells (madeCells z n) t)).rowIs w.heap.size t n (fun i => (madeCells z n)[i]?.getD undef) :=
  ⟨_, blk_alloc_new _ _, size_madeCells _ _, fun i hi => by
    have : i < (madeCells z n).size := by rw [size_madeCells]; exact hi
    simp [this]⟩
theorem idx_lt {i j n K : Nat} (hi : i < n) (hj : j < K) : i * K + j < n * K := by
  have : (i + 1) * K ≤ n * K := Nat.mul_le_mul_right K hi
  rw [Nat.add_mul] at this
  omega
theorem idx_ne {i j k q K : Nat} (hi : i < k) (hj : j < K) : i * K + j ≠ k * K + q := by
  have : (i + 1) * K ≤ k * K := Nat.mul_le_mul_right K hi
  rw [Nat.add_mul] at this
  omega
theorem Rdr.setNew {w : World} {H b : Nat} {s : Rd} (h : Rdr w H b s) {g : Nat} (hg : H ≤ g) (j : Nat) (v : Value) : Rdr (w.setCell ⟨g, j, none⟩ v) H b s := h.kept (kept_set _ _ _ _) (fun i e => by cases e; exact hg)
theorem kept_new {w w' : World} {r : Option Nat} (h : Kept w w' r) {g : Nat} (hg : w.heap.size ≤ g) (j : Nat) (v : Value) : Kept w (w'.setCell ⟨g, j, none⟩ v) r :=
  ⟨h.os, h.tape, h.output, by simpa [World.setCell] using h.size, fun k hk hr => (Below.heap_setCell _ _ _ _ (by show k ≠ g; omega)).trans (h.block k hk hr)⟩
theorem getD_snoc_lt {α : Type} {l : List α} {x d : α} {i : Nat} (h : i < l.length) : (l ++ [x]).getD i d = l.getD i d := by
  simp [List.getElem?_append, h]
theorem getD_snoc_eq {α : Type} {l : List α} {x d : α} {i : Nat} (h : i = l.length) : (l ++ [x]).getD i d = x := by
  subst h; simp
end Go.Proofs.Ytnmfigcemknjbaa
