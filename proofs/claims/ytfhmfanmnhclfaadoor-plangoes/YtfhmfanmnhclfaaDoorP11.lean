import Derived.Test.YtfhmfanmnhclfaaDoorP10
import Derived.Laws.CopyOwn
import Derived.Laws.MakeOwn
namespace Go.Proofs.YtfhmfanmnhclfaaDoor
set_option linter.unusedVariables false
set_option linter.unusedSimpArgs false
open Go.RowKit Go.Lib Go.Deep

/-! ### faultOf -/
/-! ### moveOn -/
theorem Box.other {w : World} {b : Nat} {v0 v1 v2 : Value} (h : Box w b v0 v1 v2) {p : Addr} (hp : p.block ≠ b) (v : Value) : Box (w.setCell p v) b v0 v1 v2 := by
  have e : (w.setCell p v).heap[b]? = w.heap[b]? := blk_setCell_other _ _ _ _ (fun e => hp e.symm)
  exact ⟨(World.cell?_of_block (w := w) (a := ⟨b, 0, none⟩) e).trans h.c0, (World.cell?_of_block (w := w) (a := ⟨b, 1, none⟩) e).trans h.c1, (World.cell?_of_block (w := w) (a := ⟨b, 2, none⟩) e).trans h.c2, (World.frozen?_of_block (w := w) (a := ⟨b, 0, none⟩) e).trans h.f0, (World.frozen?_of_block (w := w) (a := ⟨b, 1, none⟩) e).trans h.f1, (World.frozen?_of_block (w := w) (a := ⟨b, 2, none⟩) e).trans h.f2, by simpa [World.setCell] using h.lt⟩
theorem Box.set1 {w : World} {b : Nat} {v0 v1 v2 : Value} (h : Box w b v0 v1 v2) (v : Value) : Box (w.setCell ⟨b, 1, none⟩ v) b v0 v v2 :=
  ⟨(World.cell?_setCell_other _ _ _ _ (by simp)).trans h.c0, World.cell?_setCell_same _ _ _ h.c1, (World.cell?_setCell_other _ _ _ _ (by simp)).trans h.c2, (World.frozen?_setCell ..).trans h.f0, (World.frozen?_setCell ..).trans h.f1, (World.frozen?_setCell ..).trans h.f2, by simpa [World.setCell] using h.lt⟩
theorem Box.set2 {w : World} {b : Nat} {v0 v1 v2 : Value} (h : Box w b v0 v1 v2) (v : Value) : Box (w.setCell ⟨b, 2, none⟩ v) b v0 v1 v :=
  ⟨(World.cell?_setCell_other _ _ _ _ (by simp)).trans h.c0, (World.cell?_setCell_other _ _ _ _ (by simp)).trans h.c1, World.cell?_setCell_same _ _ _ h.c2, (World.frozen?_setCell ..).trans h.f0, (World.frozen?_setCell ..).trans h.f1, (World.frozen?_setCell ..).trans h.f2, by simpa [World.setCell] using h.lt⟩
theorem Kept.setRow {a b : World} {g : Nat} (h : Kept a b (some g)) (i : Nat) (v : Value) : Kept a (b.setCell ⟨g, i, none⟩ v) (some g) :=
  ⟨h.os, h.tape, h.output, by simpa [World.setCell] using h.size, fun k hk hr => (Below.heap_setCell _ _ _ _ (fun e => hr (by rw [e]))).trans (h.block k hk hr)⟩
/-- A drawn region's one way, with what holds behind it. -/
def Rs (A : Act) (P : World → Prop) (e : Exit) (a : Act) (w : World) : Prop := match e with
  | .normal => a = A ∧ P w
  | _ => False
theorem Rs.out {A : Act} {P : World → Prop} {w : World} {e : Exit} {a : Act} (h : Rs A P e a w) : e = .normal ∧ a = A ∧ P w := by
  cases e with
  | normal => exact ⟨rfl, h.1, h.2⟩
  | _ => exact h.elim

theorem worst_rng {S : St} (h : siteB S = true) : 0 ≤ worstM S ∧ worstM S ≤ 1048576 := by
  have hb := (span_may h).base
  have h1 := mostL_is S.between.flatten
  refine ⟨h1.1, h1.le (by omega) (fun x hx => ?_)⟩
  obtain ⟨l, hl, hx⟩ := List.mem_flatten.1 hx
  obtain ⟨a, ha, rfl⟩ := List.getElem_of_mem hl
  obtain ⟨b, hb2, rfl⟩ := List.getElem_of_mem hx
  have hnb := hb.sh.ok.nb
  have hr := hb.sh.row a (by omega)
  have e : S.between.getD a [] = S.between[a] := by simp [ha]
  rw [e] at hr
  have := hb.bt a b (by omega) (by omega)
  unfold St.bt at this
  rw [e] at this
  simpa [hb2] using this
/-! ### make of standings -/
end Go.Proofs.YtfhmfanmnhclfaaDoor
