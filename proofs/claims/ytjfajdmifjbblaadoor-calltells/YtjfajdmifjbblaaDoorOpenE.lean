/-
  WHAT CAME IN: a detector, detectors, truths, as the walks want them.
-/
import Derived.Test.YtjfajdmifjbblaaDoorOpenS
import Derived.Test.YtjfajdmifjbblaaDoorEyeT
namespace Go.Proofs.YtjfajdmifjbblaaDoor
open Go.ChangeShapes Go.WideShapes Go.ChangeAt Go.RowKit Go.Lib Go.Deep
set_option linter.unusedVariables false
set_option linter.unusedSimpArgs false

theorem u64_of {z : Int} (h : (Lit.int .u64 z).wf = true) : 0 ≤ z ∧ z < 18446744073709551616 := by
  simp [Lit.wf, IntKind.min, IntKind.max, IntKind.signed, IntKind.bits] at h
  omega
section
variable {H : Type} {enc : TypeId × Value → H}
theorem open_i1 {W : World} {n : Nat} {t : TypeId} {k : IntKind} {cs : List Value} {x : DataW H × List MemPlace} (ht : Tryd.prog.underlying t = some (.int k)) (h : Tr enc W n t cs x) : ∃ z, cs = [.int k z] ∧ (Lit.int k z).wf = true := by
  obtain ⟨z, e, _, hw⟩ := DataW.trod_int ht h
  exact ⟨z, e, hw⟩
theorem open_b1 {W : World} {n : Nat} {t : TypeId} {cs : List Value} {x : DataW H × List MemPlace} (ht : Tryd.prog.underlying t = some .bool) (h : Tr enc W n t cs x) : ∃ z, cs = [.bool z] := by
  obtain ⟨z, e, _⟩ := DataW.trod_bool ht h
  exact ⟨z, e⟩
set_option maxRecDepth 100000 in
theorem open_looked1 {W : World} {fuel : Nat} {cs : List Value} {x : DataW H × List MemPlace} (hf : Tr enc W fuel 56 cs x) : ∃ y : Lk, cs = (lkC y).toList ∧ Typ y := by
  have hC : Tryd.prog.cellsOf 56 = 5 := by kernel_rfl
  obtain ⟨n, hl, hall⟩ := flds Tryd.underlying56 hf
  rw [hC] at hl
  match cs, hl with
  | [c0, c1, c2, c3, c4], _ =>
    have g0 : ∃ y, Tr enc W n 4 (([c0, c1, c2, c3, c4].drop 0).take (Tryd.prog.cellsOf 4)) y := hall 0 _ rfl
    have g1 : ∃ y, Tr enc W n 3 (([c0, c1, c2, c3, c4].drop 1).take (Tryd.prog.cellsOf 3)) y := hall 1 _ rfl
    have g2 : ∃ y, Tr enc W n 54 (([c0, c1, c2, c3, c4].drop 2).take (Tryd.prog.cellsOf 54)) y := hall 2 _ rfl
    have g3 : ∃ y, Tr enc W n 4 (([c0, c1, c2, c3, c4].drop 3).take (Tryd.prog.cellsOf 4)) y := hall 3 _ rfl
    have g4 : ∃ y, Tr enc W n 3 (([c0, c1, c2, c3, c4].drop 4).take (Tryd.prog.cellsOf 3)) y := hall 4 _ rfl
    obtain ⟨y0, h0⟩ := g0
    obtain ⟨y1, h1⟩ := g1
    obtain ⟨y2, h2⟩ := g2
    obtain ⟨y3, h3⟩ := g3
    obtain ⟨y4, h4⟩ := g4
    rw [show Tryd.prog.cellsOf 4 = 1 by kernel_rfl] at h0 h3
    rw [show Tryd.prog.cellsOf 3 = 1 by kernel_rfl] at h1 h4
    rw [show Tryd.prog.cellsOf 54 = 1 by kernel_rfl] at h2
    obtain ⟨z0, q0⟩ := open_b1 Tryd.underlying4 h0
    obtain ⟨z1, q1, w1⟩ := open_i1 Tryd.underlying3 h1
    obtain ⟨z2, q2, w2⟩ := open_i1 Tryd.underlying54 h2
    obtain ⟨z3, q3⟩ := open_b1 Tryd.underlying4 h3
    obtain ⟨z4, q4, w4⟩ := open_i1 Tryd.underlying3 h4
    simp at q0 q1 q2 q3 q4
    subst q0 q1 q2 q3 q4
    exact ⟨⟨z0, z1, z2, z3, z4⟩, rfl, (u64_of w2).1, (u64_of w2).2, i64_of w1, i64_of w4⟩
set_option maxRecDepth 100000 in
theorem open_looked {W : World} {base : Nat} {v : Value} {d : DataW H} {p : List MemPlace} (hv : Value.okWide Tryd.prog W .any base 56 v) (h : DataW.Trod enc Tryd.prog W 0 (fun _ => true) true 56 v d p) : ∃ x : Lk, v = lkV x ∧ Typ x := by
  obtain ⟨cs, rfl, hsz⟩ := okWide_struct Tryd.underlying56 hv
  obtain ⟨l⟩ := cs
  obtain ⟨fuel, hf⟩ := h
  simp [Value.cells] at hf
  obtain ⟨y, e, ht⟩ := open_looked1 hf
  exact ⟨y, by rw [e], ht⟩
set_option maxRecDepth 100000 in
theorem open_lookeds {W : World} {a : Option Addr} {len cap : Nat} {d : DataW H} {p : List MemPlace} (h : DataW.Trod enc Tryd.prog W 0 (fun _ => true) true 31 (.slice a len cap) d p) : ∃ L, Lks W a len L ∧ Cap a len cap := by
  obtain ⟨m, hm⟩ := h
  simp [Value.cells] at hm
  obtain ⟨a', cap', l, e, h1, h2, h3⟩ := open_list Lk.zero (e := 56) (K := 5) (by omega) lkF Typ Tryd.underlying31 (by kernel_rfl) (fun n cs x h => by
    obtain ⟨y, e, ht⟩ := open_looked1 h
    refine ⟨y, fun j hj => ?_, ht⟩
    have := lkF_cs y j hj
    rw [e, ← this]
    simp) hm
  injection e with e1 e2 e3
  subst e1 e2 e3
  refine ⟨l, ⟨rfl, h1, fun i hi => h3 _ ?_⟩, h2⟩
  unfold lk
  rw [List.getD_eq_getElem?_getD, List.getElem?_eq_getElem hi]
  exact List.getElem_mem hi
end

end Go.Proofs.YtjfajdmifjbblaaDoor
