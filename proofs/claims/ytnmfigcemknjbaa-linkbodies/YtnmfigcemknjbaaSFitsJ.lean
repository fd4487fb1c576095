/-
  Texts joined: some of those that the proofs of this seat stand on.
-/
import Derived.Test.YtnmfigcemknjbaaWorld
import Derived.Test.YtnmfigcemknjbaaSPhase
import Derived.Deep.RegionHeld2
import Derived.WalkMore
import Derived.Laws.EntriesVeiled
import Derived.Deep.LoopGhost
import Derived.Test.YtnmfigcemknjbaaCrc
import Derived.Lib.LaidTab
/-
  Of the text Fits: what this stage needs (culled by a program).
-/
namespace Go.Proofs.Ytnmfigcemknjbaa
open Go.RowKit Go.Lib Go.Deep
set_option linter.unusedVariables false
set_option linter.unusedSimpArgs false

/-- What is asked of a site ahead of sums of times. -/
structure Base (S : St) : Prop where
  sh : Shape S
  mn : ∀ i, i < S.phases.length → 0 ≤ (S.ph i).min ∧ (S.ph i).min ≤ 1048576
  bt : ∀ a b, a < S.groups.length → b < S.groups.length → S.bt a b ≤ 1048576
theorem Base.lies {S : St} (h : Base S) (f t : Nat) : 0 ≤ liesM S f t ∧ liesM S f t ≤ 1048576 :=
  ⟨liesM_ge S f t, (liesM_is S f t).le (by omega) (fun x hx => by
    obtain ⟨a, b, ha, hb, _, _, _, rfl⟩ := hx
    exact h.bt a b ha hb)⟩
theorem Base.part {S : St} (h : Base S) {i : Nat} (hi : i < S.phases.length) : 0 ≤ partM S i ∧ partM S i ≤ 2097152 := by
  have h1 := h.mn i hi
  have h2 := h.lies i ((i + 1) % S.phases.length)
  unfold partM
  omega
theorem Base.round {S : St} (h : Base S) : ∀ k, k ≤ S.phases.length → 0 ≤ roundN S k ∧ roundN S k ≤ 2097152 * k
  | 0, _ => by simp [roundN]
  | k + 1, hk => by
    have h1 := h.round k (by omega)
    have h2 := h.part (i := k) (by omega)
    rw [roundN]
    omega
theorem Kept.drew (w : World) (r : Option Nat) : Kept w w.drew r := Kept.drewN w 1 r
end Go.Proofs.Ytnmfigcemknjbaa

/-
  Of the text Fits2: what this stage needs (culled by a program).
-/
namespace Go.Proofs.Ytnmfigcemknjbaa
open Go.RowKit Go.Lib Go.Deep
set_option linter.unusedVariables false
set_option linter.unusedSimpArgs false

theorem box3 (w : World) (a b c : Value) (t : TypeId) : (w.alloc (.cells #[a, b, c] t)).cell? ⟨w.heap.size, 0, none⟩ = some a ∧ (w.alloc (.cells #[a, b, c] t)).cell? ⟨w.heap.size, 1, none⟩ = some b ∧ (w.alloc (.cells #[a, b, c] t)).cell? ⟨w.heap.size, 2, none⟩ = some c :=
  ⟨by simp [World.cell?_alloc_mark], by simp [World.cell?_alloc_mark], by simp [World.cell?_alloc_mark]⟩
end Go.Proofs.Ytnmfigcemknjbaa

/-
  Of the text Check: what this stage needs (culled by a program).
-/
namespace Go.Proofs.Ytnmfigcemknjbaa
open Go.RowKit Go.Lib Go.Deep
set_option linter.unusedVariables false
set_option linter.unusedSimpArgs false

def manyN (S : St) (o : Nat) : Nat := [1, S.groups.length, S.phases.length, S.eyes.length, S.plans.length].getD o 0
/-- How many parts there are. -/
structure Manys (w : World) (g : Nat) (S : St) : Prop where
  at_ : ∀ o, o < 5 → w.cell? ⟨g, o, none⟩ = some (.int .i64 (manyN S o : Int))
theorem Manys.kept {w w' : World} {g : Nat} {S : St} (h : Manys w g S) (q : Kept w w' none) : Manys w' g S := ⟨fun o ho => cell_kept0 (h.at_ o ho) q⟩
end Go.Proofs.Ytnmfigcemknjbaa

/-
  Of the text Sum: what this stage needs (culled by a program).
-/
namespace Go.Proofs.Ytnmfigcemknjbaa
open Go.RowKit Go.Lib Go.Deep
set_option linter.unusedVariables false
set_option linter.unusedSimpArgs false

/-- The table lies in the program's first variable. -/
def Table (w : World) : Prop := ∀ i, i < 16 → w.cell? ⟨0, i, none⟩ = some (.int .u32 (halfs.getD i 0))
theorem Table.lt {w : World} (h : Table w) : 0 < w.heap.size := by
  by_cases hh : 0 < w.heap.size
  · exact hh
  · have hn : w.heap[0]? = none := Array.getElem?_eq_none (by omega)
    have := h 0 (by omega)
    simp [World.cell?, hn] at this
theorem Table.kept {w w' : World} (h : Table w) (k : Kept w w' none) : Table w' := fun i hi =>
  (World.cell?_of_block (w := w) (a := ⟨0, i, none⟩) (k.block 0 h.lt (by simp))).trans (h i hi)
theorem Table.drewN {w : World} (h : Table w) (m : Nat) : Table (w.drewN m) := h

end Go.Proofs.Ytnmfigcemknjbaa

