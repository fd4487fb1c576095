/-
  Texts joined: some of those that the proofs of this seat stand on.
-/
import Derived.Test.YtnmfigcemknjbaaWorld
import Derived.Lib.LaidTab
import Derived.Deep.QuietTactic
import Derived.BigQuiet
import Derived.Laws.BitsAllLaws
import Derived.Below
import Derived.Test.YtnmfigcemknjbaaSLay
import Derived.Deep.RegionWith
import Derived.Test.YtnmfigcemknjbaaSStM
import Derived.RangeFuncNested
import Derived.RangeFuncBound
import Derived.RangeFuncCalls
import Derived.RangeFuncLeaves
import Derived.Shelf.Abstract
import Derived.Shelf.RegionOpen
import Derived.OwnWalkIn
import Derived.TacticsInMore
import Derived.LoopNIn
import Derived.LoopIn
import Derived.Deep.RegionHeld
/-
  Of the text Bits: what this stage needs (culled by a program).
-/
namespace Go.Proofs.Ytnmfigcemknjbaa
open Go.RowKit Go.Lib Go.Deep
set_option linter.unusedVariables false
set_option linter.unusedSimpArgs false

/-! ### The least bit, by Go's table -/
def deB : List Int := [0, 1, 28, 2, 29, 14, 24, 3, 30, 22, 20, 15, 25, 17, 4, 8, 31, 27, 13, 23, 21, 19, 16, 7, 26, 12, 18, 6, 11, 5, 10, 9]
/-- The table lies in the program's first variable. -/
def Tabb (w : World) : Prop := ∀ i, i < 32 → w.cell? ⟨0, i, none⟩ = some (.int .u8 (deB.getD i 0))
theorem Tabb.lt {w : World} (h : Tabb w) : 0 < w.heap.size := by
  by_cases hh : 0 < w.heap.size
  · exact hh
  · have hn : w.heap[0]? = none := Array.getElem?_eq_none (by omega)
    have := h 0 (by omega)
    simp [World.cell?, hn] at this
theorem Tabb.keptR {w w' : World} {r : Option Nat} (h : Tabb w) (k : Kept w w' r) (hr : some 0 ≠ r) : Tabb w' := fun i hi =>
  (World.cell?_of_block (w := w) (a := ⟨0, i, none⟩) (k.block 0 h.lt hr)).trans (h i hi)
theorem Tabb.kept {w w' : World} (h : Tabb w) (k : Kept w w' none) : Tabb w' := h.keptR k (by simp)
end Go.Proofs.Ytnmfigcemknjbaa

/-
  Of the text Cond: what this stage needs (culled by a program).
-/
namespace Go.Proofs.Ytnmfigcemknjbaa
open Go.RowKit Go.Lib Go.Deep
set_option linter.unusedVariables false
set_option linter.unusedSimpArgs false

theorem within_any (n lo hi : Int) (w : World) : Calls Try.prog 66 #[.int .i64 n, .int .i64 lo, .int .i64 hi] w fun e w' => e = .returned (.bool (inB n lo hi)) ∧ w' = w := by
  go_enter Try.func66, Try.ntmps66
  go_wp2
  all_goals
    go_ret
    refine ⟨?_, rfl⟩
    simp [inB, *] <;> (first | omega | (intros; omega))
theorem time_any (n : Int) (w : World) : Calls Try.prog 65 #[.int .i64 n] w fun e w' => e = .returned (.bool (timeB n)) ∧ w' = w := by
  go_enter Try.func65, Try.ntmps65
  go_wp2_with (go_at_call 66; refine (within_any _ _ _ _).mono ?_; rintro e w ⟨rfl, rfl⟩)
  go_ret
  exact ⟨rfl, rfl⟩
end Go.Proofs.Ytnmfigcemknjbaa

/-
  Of the text Cond3: what this stage needs (culled by a program).
-/
namespace Go.Proofs.Ytnmfigcemknjbaa
open Go.RowKit Go.Lib Go.Deep
set_option linter.unusedVariables false
set_option linter.unusedSimpArgs false

theorem within_is (n lo hi : Int) (b : Bool) (w : World) (h : inB n lo hi = b) : Calls Try.prog 66 #[.int .i64 n, .int .i64 lo, .int .i64 hi] w fun e w' => e = .returned (.bool b) ∧ w' = w := by
  rw [← h]; exact within_any n lo hi w
theorem time_is (n : Int) (b : Bool) (w : World) (h : timeB n = b) : Calls Try.prog 65 #[.int .i64 n] w fun e w' => e = .returned (.bool b) ∧ w' = w := by
  rw [← h]; exact time_any n w
end Go.Proofs.Ytnmfigcemknjbaa

/-
  Of the text Mem: what this stage needs (culled by a program).
-/
namespace Go.Proofs.Ytnmfigcemknjbaa
open Go.RowKit Go.Lib Go.Deep Go.Shelf
set_option linter.unusedVariables false
set_option linter.unusedSimpArgs false
attribute [local go_sem] Oper.semAt_some

theorem Tabb.below {n : Nat} {w w' : World} (h : Tabb w) (hn : 0 < n) (k : Below n w w') : Tabb w' := fun i hi => (k.cell (p := ⟨0, i, none⟩) hn).trans (h i hi)
end Go.Proofs.Ytnmfigcemknjbaa

/-
  Of the text Rnd: what this stage needs (culled by a program).
-/
namespace Go.Proofs.Ytnmfigcemknjbaa
open Go.RowKit Go.Lib Go.Deep Go.Shelf
set_option linter.unusedVariables false
set_option linter.unusedSimpArgs false

theorem held_take {P : Program} {ops : Array Oper} {Q : Exit → Act → World → Prop} {md : Region.Mode} {S : World → Prop} {i d : Nat} {oi : Oper} {v : Value} {fuel : Nat} {listed : Array Bool} {a : Act} {w : World} (hi : ops[i]? = some oi) (hd : oi.dst = some d)
    (hs : Region.noSelect ops = true) (hf : Region.free md ops listed i = true) (hr : (Region.ready md ops listed).contains i = true)
    (hQ : ∀ c a w, Q (.panic c) (a.put oi.dst v) w → Q (.panic c) a w) (hy : YieldsIf P ops S oi v a) (hS : S w)
    (h : wpAnyH P md ops Q S fuel (listed.setIfInBounds i true) { tmps := a.tmps.setIfInBounds d v, defers := a.defers } w) : wpAnyH P md ops Q S (fuel + 1) listed a w :=
  wpAnyH_take hi hs hf hr hQ hy hS (by rw [hd]; exact h)

end Go.Proofs.Ytnmfigcemknjbaa

/-
  Of the text Lies: what this stage needs (culled by a program).
-/
namespace Go.Proofs.Ytnmfigcemknjbaa
open Go.RowKit Go.Lib Go.Deep Go.Shelf
set_option linter.unusedVariables false
set_option linter.unusedSimpArgs false
attribute [local go_sem] Oper.semAt_some

/-- What is asked of a site's lists ahead of what lies between phases. -/
structure Shape (S : St) : Prop where
  ok : Okay S
  row : ∀ a, a < S.groups.length → (S.between.getD a []).length = S.groups.length
  ph : ∀ i, i < S.phases.length → (S.ph i).groups < 2 ^ S.groups.length
end Go.Proofs.Ytnmfigcemknjbaa

