/-
  What lasts two ticks is seen: the statements' alive.
-/
import Derived.Test.YtbgnllpgogbmfaaPulS
import Derived.Laws.StructEq
namespace Go.Proofs.Ytbgnllpgogbmfaa
open Go.RowKit Go.Lib Go.Deep
set_option linter.unusedVariables false
set_option linter.unusedSimpArgs false

abbrev inA : List Bool := [true, false, true, true, true, false, true, false, false]
abbrev outA : List Bool := [false, false, false, true, true, true, true, true, false]
theorem alive_maths : rnV Pu.zero inA 2 = ⟨false, false, 2⟩ ∧ rnL Pu.zero inA 2 = outA ∧ runE Pu.zero inA.length 2 = 0 := ⟨by rfl, by rfl, by rfl⟩
theorem alive_run {w : World} {a : Option Addr} {c : Nat} (hA : Bo w a 9 inA) : Calls Try.prog 9 #[puV Pu.zero, .slice a 9 c, .int .i64 2] w fun e w' => ∃ a' c', e = .returned (.tuple #[puV ⟨false, false, 2⟩, .slice a' 9 c', .int .i64 0]) ∧ Bo w' a' 9 outA ∧ Kept w w' none := by
  refine (run_any Pu.zero 2 hA).mono ?_
  rintro e w' ⟨a', c', he, hb, hk⟩
  obtain ⟨x1, x2, x3⟩ := alive_maths
  rw [x1, x2, x3] at he
  rw [x2] at hb
  exact ⟨a', c', he, hb.bo, hk⟩
theorem cells_in : ∀ i, i < inA.length → (#[Value.bool true, .bool false, .bool true, .bool true, .bool true, .bool false, .bool true, .bool false, .bool false] : Array Value)[i]? = some (.bool (tr inA i)) := fun i hi => by
  have hi' : i < 9 := hi
  rcases i with _|_|_|_|_|_|_|_|_|i <;> first | rfl | omega
theorem cells_out : ∀ i, i < outA.length → (#[Value.bool false, .bool false, .bool false, .bool true, .bool true, .bool true, .bool true, .bool true, .bool false] : Array Value)[i]? = some (.bool (tr outA i)) := fun i hi => by
  have hi' : i < 9 := hi
  rcases i with _|_|_|_|_|_|_|_|_|i <;> first | rfl | omega
theorem in_lies {w : World} {H : Nat} (hH : w.heap.size = H) : Bo (w.alloc (.cells #[Value.bool true, .bool false, .bool true, .bool true, .bool true, .bool false, .bool true, .bool false, .bool false] 4)) (some ⟨H, 0, none⟩) 9 inA := by
  subst hH; exact Bo.alloc _ inA _ _ _ cells_in (by simp)
theorem out_lies {w : World} {H : Nat} (hH : w.heap.size = H) : Bo (w.alloc (.cells #[Value.bool false, .bool false, .bool false, .bool true, .bool true, .bool true, .bool true, .bool true, .bool false] 4)) (some ⟨H, 0, none⟩) 9 outA := by
  subst hH; exact Bo.alloc _ outA _ _ _ cells_out (by simp)
set_option maxHeartbeats 400000 in
theorem alive_any (w : World) : Calls Try.prog 10 #[] w fun e w' => e = .returned (.bool true) ∧ Kept w w' none := by
  go_enter Try.func10, Try.ntmps10
  go_wp2_with (first
    | (go_at_call 14; refine (same_any (L := outA) (M := outA) (hb1.out.kept (Kept.tr (Kept.alloc _ _ _ _ _) (Kept.alloc _ _ _ _ _))) (out_lies (w := w1.alloc (.cells #[.bool false, .bool false, .int .i64 2] 23)) (H := w1.heap.size + 1) (by simp))).mono ?_; rintro e w2 ⟨rfl, hk2⟩; have hB2 := (box_alloc w1 (.bool false) (.bool false) (.int .i64 2) 23).kept ((Kept.alloc _ _ _ _ _).tr hk2); have c0 := hB2.c0; have c1 := hB2.c1; have c2 := hB2.c2)
    | (go_at_call 9; refine (alive_run (in_lies (w := w) rfl)).mono ?_; rintro e w1 ⟨a', c', rfl, hb, hk1⟩; have hb1 := Hid.mk' hb; clear hb))
  go_ret
  exact ⟨by simp, (((Kept.alloc _ _ _ _ _).tr hk1).tr ((Kept.alloc _ _ _ _ _).tr (Kept.alloc _ _ _ _ _))).tr hk2⟩

end Go.Proofs.Ytbgnllpgogbmfaa
