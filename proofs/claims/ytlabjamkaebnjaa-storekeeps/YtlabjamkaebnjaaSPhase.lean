/-
  Of the text Phase: what this stage needs (culled by a program).
-/
import Derived.Test.YtlabjamkaebnjaaMathsJ
import Derived.Test.YtlabjamkaebnjaaSStMJ
namespace Go.Proofs.Ytlabjamkaebnjaa
open Go.RowKit Go.Lib Go.Deep Go.Shelf
set_option linter.unusedVariables false
set_option linter.unusedSimpArgs false
attribute [local go_sem] Oper.semAt_some

/-- The cells of a phase in a block of the call's own. -/
abbrev Pbox (W : World) (b : Nat) (p : Ph) : Prop := W.cell? ⟨b, 0, none⟩ = some (.int .u32 (p.groups : Int)) ∧ W.cell? ⟨b, 1, none⟩ = some (.int .i64 p.min) ∧ W.cell? ⟨b, 2, none⟩ = some (.int .i64 p.max) ∧ W.cell? ⟨b, 3, none⟩ = some (.int .i64 p.gap)
theorem Pbox.alloc {W : World} {b : Nat} {p : Ph} (h : Pbox W b p) (o : Obj) : Pbox (W.alloc o) b p := by
  have hb := block_lt h.1
  exact ⟨(World.cell?_alloc_lt _ _ ⟨b, 0, none⟩ hb).trans h.1, (World.cell?_alloc_lt _ _ ⟨b, 1, none⟩ hb).trans h.2.1, (World.cell?_alloc_lt _ _ ⟨b, 2, none⟩ hb).trans h.2.2.1, (World.cell?_alloc_lt _ _ ⟨b, 3, none⟩ hb).trans h.2.2.2⟩
theorem Pbox.other {W : World} {b c : Nat} {p : Ph} (h : Pbox W b p) (hne : c ≠ b) (v : Value) : Pbox (W.setCell ⟨c, 0, none⟩ v) b p :=
  ⟨(World.cell?_setCell_far _ _ _ _ hne).trans h.1, (World.cell?_setCell_far _ _ _ _ hne).trans h.2.1, (World.cell?_setCell_far _ _ _ _ hne).trans h.2.2.1, (World.cell?_setCell_far _ _ _ _ hne).trans h.2.2.2⟩

end Go.Proofs.Ytlabjamkaebnjaa
