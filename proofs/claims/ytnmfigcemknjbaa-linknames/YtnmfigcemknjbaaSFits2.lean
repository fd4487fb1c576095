/-
  Of the text Fits2: what this stage needs (culled by a program).
-/
import Derived.Test.YtnmfigcemknjbaaSFits
namespace Go.Proofs.Ytnmfigcemknjbaa
open Go.RowKit Go.Lib Go.Deep
set_option linter.unusedVariables false
set_option linter.unusedSimpArgs false

theorem box3 (w : World) (a b c : Value) (t : TypeId) : (w.alloc (.cells #[a, b, c] t)).cell? ⟨w.heap.size, 0, none⟩ = some a ∧ (w.alloc (.cells #[a, b, c] t)).cell? ⟨w.heap.size, 1, none⟩ = some b ∧ (w.alloc (.cells #[a, b, c] t)).cell? ⟨w.heap.size, 2, none⟩ = some c :=
  ⟨by simp [World.cell?_alloc_mark], by simp [World.cell?_alloc_mark], by simp [World.cell?_alloc_mark]⟩
end Go.Proofs.Ytnmfigcemknjbaa
