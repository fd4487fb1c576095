/-
  THE CONTRACT of raw.Sum, over the table that the program's text lays.
-/
import Derived.Test.YtfhmfanmnhclfaaDoorWorld
import Derived.Test.YtfhmfanmnhclfaaDoorCrc
import Derived.Lib.LaidTab
namespace Go.Proofs.YtfhmfanmnhclfaaDoor
open Go.RowKit Go.Lib Go.Deep
set_option linter.unusedVariables false
set_option linter.unusedSimpArgs false

/-- The table lies in the program's first variable. -/
def Table (w : World) : Prop := ∀ i, i < 16 → w.cell? ⟨0, i, none⟩ = some (.int .u32 (halfs.getD i 0))
theorem Table.lt {w : World} (h : Table w) : 0 < w.heap.size := by
  by_cases hh : 0 < w.heap.size
  · exact hh
  · have hn : w.heap[0]? = none := Array.getElem?_eq_none (by omega)
    have := h 0 (by omega)
    simp [World.cell?, hn] at this
theorem Table.kept {w w' : World} (h : Table w) (k : Kept w w' none) : Table w' := fun i hi =>
  (World.cell?_of_block (w := w) (a := ⟨0, i, none⟩) (k.block 0 h.lt (by simp))).trans (h i hi)
theorem Table.drewN {w : World} (h : Table w) (m : Nat) : Table (w.drewN m) := h

theorem low4 (r : Nat) (h : r < 4294967296) : bits .and .u32 (r : Int) 15 = ((r % 16 : Nat) : Int) := by
  have e := u32_and_nat r 15 h (by omega)
  rw [nat_mask4] at e
  exact e
theorem half_xor (r : Nat) (h : r < 4294967296) : bits .xor .u32 ((r / 16 : Nat) : Int) ((st4 (r % 16) : Nat) : Int) = ((st4 r : Nat) : Int) := by
  rw [u32_xor_nat _ _ (by omega) (st4_lt (by omega)), st4_half]

theorem turn32 (r : Nat) (h : r < 4294967296) : bits .xor .u32 IntKind.u32.max (r : Int) = ((4294967295 ^^^ r : Nat) : Int) := by
  have e : IntKind.u32.max = ((4294967295 : Nat) : Int) := by decide
  rw [e, u32_xor_nat _ _ (by omega) h]
end Go.Proofs.YtfhmfanmnhclfaaDoor
