/-
  WHAT CAME IN: gaps, truths, as the walks want them.
-/
import Derived.Test.YtcckpdgknjjjmaaGapM
import Derived.Test.YtcckpdgknjjjmaaRows
import Derived.Deep.Grids
import Derived.Deep.Strs
import Derived.OpenShut
import Derived.ShutString
namespace Go.Proofs.Ytcckpdgknjjjmaa
open Go.ChangeShapes Go.WideShapes Go.ChangeAt Go.RowKit Go.Lib Go.Deep
set_option linter.unusedVariables false
set_option linter.unusedSimpArgs false

theorem lit_u64 {n : Int} (h : (Lit.int .u64 n).wf = true) : 0 ≤ n ∧ n < 18446744073709551616 := by
  simp [Lit.wf, IntKind.min, IntKind.max, IntKind.signed, IntKind.bits] at h
  omega
theorem lit_i64 {n : Int} (h : (Lit.int .i64 n).wf = true) : -9223372036854775808 ≤ n ∧ n ≤ 9223372036854775807 := by
  simp [Lit.wf, IntKind.min, IntKind.max, IntKind.signed, IntKind.bits] at h
  omega
section
variable {H : Type} {enc : TypeId × Value → H}
abbrev Tr (enc : TypeId × Value → H) (W : World) (n : Nat) (t : TypeId) (cs : List Value) (x : DataW H × List MemPlace) : Prop := DataW.trod enc Try.prog W 0 (fun _ => true) true n t cs = some x
theorem flds {W : World} {fuel : Nat} {t : TypeId} {fs : Array Field} {cs : List Value} {x : DataW H × List MemPlace} (ht : Try.prog.underlying t = some (.struct fs)) (h : Tr enc W fuel t cs x) : ∃ n, cs.length = Try.prog.cellsOf t ∧ ∀ (i : Nat) (f : Field), fs[i]? = some f → ∃ y, Tr enc W n f.type ((cs.drop f.offset).take (Try.prog.cellsOf f.type)) y := by
  obtain ⟨xs, n, _, _, hl, hlen, hf⟩ := DataW.trod_struct ht h
  refine ⟨n, hl, fun i f hi => ?_⟩
  have hi' : i < fs.size := (Array.getElem?_eq_some_iff.1 hi).1
  exact ⟨xs[i]'(by omega), (hf i f hi).trans (List.getElem?_eq_getElem (by omega))⟩
theorem open_int1 {W : World} {n : Nat} {t : TypeId} {k : IntKind} {cs : List Value} {x : DataW H × List MemPlace} (ht : Try.prog.underlying t = some (.int k)) (h : Tr enc W n t cs x) : ∃ z, cs = [.int k z] ∧ (Lit.int k z).wf = true := by
  obtain ⟨z, e, _, hw⟩ := DataW.trod_int ht h
  exact ⟨z, e, hw⟩
theorem open_bool1 {W : World} {n : Nat} {t : TypeId} {cs : List Value} {x : DataW H × List MemPlace} (ht : Try.prog.underlying t = some .bool) (h : Tr enc W n t cs x) : ∃ z, cs = [.bool z] := by
  obtain ⟨z, e, _⟩ := DataW.trod_bool ht h
  exact ⟨z, e⟩
theorem open_gapped {W : World} {base : Nat} {v : Value} {d : DataW H} {p : List MemPlace} (hv : Value.okWide Try.prog W .any base 24 v) (h : DataW.Trod enc Try.prog W 0 (fun _ => true) true 24 v d p) : ∃ (u : Bool) (a b c z : Int), v = .agg #[.bool u, .int .i64 a, .int .i64 b, .int .i64 c, .int .u64 z] ∧ (Lit.int .u64 z).wf = true := by
  have hC : Try.prog.cellsOf 24 = 5 := by kernel_rfl
  obtain ⟨cs, rfl, hsz⟩ := okWide_struct Try.underlying24 hv
  rw [hC] at hsz
  obtain ⟨l⟩ := cs
  match l, hsz with
  | [c0, c1, c2, c3, c4], _ =>
    obtain ⟨fuel, hf⟩ := h
    simp [Value.cells] at hf
    obtain ⟨n, _, hall⟩ := flds Try.underlying24 hf
    have g0 : ∃ y, Tr enc W n 4 (([c0, c1, c2, c3, c4].drop 0).take (Try.prog.cellsOf 4)) y := hall 0 _ rfl
    have g1 : ∃ y, Tr enc W n 3 (([c0, c1, c2, c3, c4].drop 1).take (Try.prog.cellsOf 3)) y := hall 1 _ rfl
    have g2 : ∃ y, Tr enc W n 3 (([c0, c1, c2, c3, c4].drop 2).take (Try.prog.cellsOf 3)) y := hall 2 _ rfl
    have g3 : ∃ y, Tr enc W n 3 (([c0, c1, c2, c3, c4].drop 3).take (Try.prog.cellsOf 3)) y := hall 3 _ rfl
    have g4 : ∃ y, Tr enc W n 22 (([c0, c1, c2, c3, c4].drop 4).take (Try.prog.cellsOf 22)) y := hall 4 _ rfl
    obtain ⟨y0, h0⟩ := g0
    obtain ⟨y1, h1⟩ := g1
    obtain ⟨y2, h2⟩ := g2
    obtain ⟨y3, h3⟩ := g3
    obtain ⟨y4, h4⟩ := g4
    rw [show Try.prog.cellsOf 4 = 1 by kernel_rfl] at h0
    rw [show Try.prog.cellsOf 3 = 1 by kernel_rfl] at h1 h2 h3
    rw [show Try.prog.cellsOf 22 = 1 by kernel_rfl] at h4
    obtain ⟨z0, q0⟩ := open_bool1 Try.underlying4 h0
    obtain ⟨z1, q1, w1⟩ := open_int1 Try.underlying3 h1
    obtain ⟨z2, q2, w2⟩ := open_int1 Try.underlying3 h2
    obtain ⟨z3, q3, w3⟩ := open_int1 Try.underlying3 h3
    obtain ⟨z4, q4, w4⟩ := open_int1 Try.underlying22 h4
    simp at q0 q1 q2 q3 q4
    subst q0 q1 q2 q3 q4
    exact ⟨z0, z1, z2, z3, z4, rfl, w4⟩
theorem open_truths {W : World} {a : Option Addr} {len cap : Nat} {d : DataW H} {p : List MemPlace} (h : DataW.Trod enc Try.prog W 0 (fun _ => true) true 27 (.slice a len cap) d p) : ∃ L, Bo W a len L ∧ (a = none → cap = 0) ∧ len ≤ cap ∧ cap ≤ 9223372036854775807 := by
  obtain ⟨fuel, hf⟩ := h
  simp [Value.cells] at hf
  rcases open_bools Try.underlying27 Try.underlying4 (by kernel_rfl) hf with ⟨hcs, _⟩ | ⟨x, l, c', B, hcs, _, hl, hm, _, hcell⟩
  · have e : Value.slice a len cap = .slice none 0 0 := by simpa using hcs
    injection e with e1 e2 e3
    subst e1 e2 e3
    exact ⟨[], Bo.nil _ _, fun _ => rfl, Nat.le_refl _, by omega⟩
  · have e : Value.slice a len cap = .slice (some x) l c' := by simpa using hcs
    injection e with e1 e2 e3
    subst e1 e2 e3
    unfold maxLen at hm
    refine ⟨(List.range len).map B, ⟨by simp, by omega, fun hp => ?_⟩, fun h => (nomatch h), hl, by omega⟩
    obtain ⟨b, off, spot⟩ := x
    have hspot : spot = none := by simpa [Addr.add] using World.cell?_spot (hcell 0 (by omega))
    subst hspot
    have hc : ∀ i, i < len → W.cell? ⟨b, off + i, none⟩ = some (.bool (tr ((List.range len).map B) i)) := fun i hi => by
      rw [← Go.WideShapes.add_plain, hcell i (by omega)]
      simp [tr, hi]
    exact ⟨b, off, rfl, block_lt (hc 0 hp), hc⟩
end

end Go.Proofs.Ytcckpdgknjjjmaa
