/-
  WHAT CAME IN: a link's last ticks, truths, as the walks want them.
-/
import Derived.Test.YtkdfiaeghbkgnaaWelC
import Derived.Test.YtkdfiaeghbkgnaaRows
import Derived.Deep.Grids
import Derived.Deep.Strs
import Derived.OpenShut
import Derived.ShutString
namespace Go.Proofs.Ytkdfiaeghbkgnaa
open Go.ChangeShapes Go.WideShapes Go.ChangeAt Go.RowKit Go.Lib Go.Deep
set_option linter.unusedVariables false
set_option linter.unusedSimpArgs false

theorem lit_u64 {n : Int} (h : (Lit.int .u64 n).wf = true) : 0 ≤ n ∧ n < 18446744073709551616 := by
  simp [Lit.wf, IntKind.min, IntKind.max, IntKind.signed, IntKind.bits] at h
  omega
theorem lit_i64 {n : Int} (h : (Lit.int .i64 n).wf = true) : -9223372036854775808 ≤ n ∧ n ≤ 9223372036854775807 := by
  simp [Lit.wf, IntKind.min, IntKind.max, IntKind.signed, IntKind.bits] at h
  omega
section
variable {H : Type} {enc : TypeId × Value → H}
abbrev Tr (enc : TypeId × Value → H) (W : World) (n : Nat) (t : TypeId) (cs : List Value) (x : DataW H × List MemPlace) : Prop := DataW.trod enc Try.prog W 0 (fun _ => true) true n t cs = some x
theorem flds {W : World} {fuel : Nat} {t : TypeId} {fs : Array Field} {cs : List Value} {x : DataW H × List MemPlace} (ht : Try.prog.underlying t = some (.struct fs)) (h : Tr enc W fuel t cs x) : ∃ n, cs.length = Try.prog.cellsOf t ∧ ∀ (i : Nat) (f : Field), fs[i]? = some f → ∃ y, Tr enc W n f.type ((cs.drop f.offset).take (Try.prog.cellsOf f.type)) y := by
  obtain ⟨xs, n, _, _, hl, hlen, hf⟩ := DataW.trod_struct ht h
  refine ⟨n, hl, fun i f hi => ?_⟩
  have hi' : i < fs.size := (Array.getElem?_eq_some_iff.1 hi).1
  exact ⟨xs[i]'(by omega), (hf i f hi).trans (List.getElem?_eq_getElem (by omega))⟩
theorem open_int1 {W : World} {n : Nat} {t : TypeId} {k : IntKind} {cs : List Value} {x : DataW H × List MemPlace} (ht : Try.prog.underlying t = some (.int k)) (h : Tr enc W n t cs x) : ∃ z, cs = [.int k z] ∧ (Lit.int k z).wf = true := by
  obtain ⟨z, e, _, hw⟩ := DataW.trod_int ht h
  exact ⟨z, e, hw⟩
theorem open_bool1 {W : World} {n : Nat} {t : TypeId} {cs : List Value} {x : DataW H × List MemPlace} (ht : Try.prog.underlying t = some .bool) (h : Tr enc W n t cs x) : ∃ z, cs = [.bool z] := by
  obtain ⟨z, e, _⟩ := DataW.trod_bool ht h
  exact ⟨z, e⟩
theorem open_well {W : World} {base : Nat} {v : Value} {d : DataW H} {p : List MemPlace} (hv : Value.okWide Try.prog W .any base 24 v) (h : DataW.Trod enc Try.prog W 0 (fun _ => true) true 24 v d p) : ∃ (b : Nat), v = weV b ∧ b < 18446744073709551616 := by
  have hC : Try.prog.cellsOf 24 = 1 := by kernel_rfl
  obtain ⟨cs, rfl, hsz⟩ := okWide_struct Try.underlying24 hv
  rw [hC] at hsz
  obtain ⟨l⟩ := cs
  match l, hsz with
  | [c0], _ =>
    obtain ⟨fuel, hf⟩ := h
    simp [Value.cells] at hf
    obtain ⟨n, _, hall⟩ := flds Try.underlying24 hf
    have g0 : ∃ y, Tr enc W n 22 (([c0].drop 0).take (Try.prog.cellsOf 22)) y := hall 0 _ rfl
    obtain ⟨y0, h0⟩ := g0
    rw [show Try.prog.cellsOf 22 = 1 by kernel_rfl] at h0
    obtain ⟨z0, q0, w0⟩ := open_int1 Try.underlying22 h0
    simp at q0
    subst q0
    obtain ⟨k0, k1⟩ := lit_u64 w0
    exact ⟨z0.toNat, by rw [weV, Int.toNat_of_nonneg k0], by omega⟩
theorem open_truths {W : World} {a : Option Addr} {len cap : Nat} {d : DataW H} {p : List MemPlace} (h : DataW.Trod enc Try.prog W 0 (fun _ => true) true 37 (.slice a len cap) d p) : ∃ L, Bo W a len L ∧ (a = none → cap = 0) ∧ len ≤ cap ∧ cap ≤ 9223372036854775807 := by
  obtain ⟨fuel, hf⟩ := h
  simp [Value.cells] at hf
  rcases open_bools Try.underlying37 Try.underlying4 (by kernel_rfl) hf with ⟨hcs, _⟩ | ⟨x, l, c', B, hcs, _, hl, hm, _, hcell⟩
  · have e : Value.slice a len cap = .slice none 0 0 := by simpa using hcs
    injection e with e1 e2 e3
    subst e1 e2 e3
    exact ⟨[], Bo.nil _ _, fun _ => rfl, Nat.le_refl _, by omega⟩
  · have e : Value.slice a len cap = .slice (some x) l c' := by simpa using hcs
    injection e with e1 e2 e3
    subst e1 e2 e3
    unfold maxLen at hm
    refine ⟨(List.range len).map B, ⟨by simp, by omega, fun hp => ?_⟩, fun h => (nomatch h), hl, by omega⟩
    obtain ⟨b, off, spot⟩ := x
    have hspot : spot = none := by simpa [Addr.add] using World.cell?_spot (hcell 0 (by omega))
    subst hspot
    have hc : ∀ i, i < len → W.cell? ⟨b, off + i, none⟩ = some (.bool (tr ((List.range len).map B) i)) := fun i hi => by
      rw [← Go.WideShapes.add_plain, hcell i (by omega)]
      simp [tr, hi]
    exact ⟨b, off, rfl, block_lt (hc 0 hp), hc⟩
end

end Go.Proofs.Ytkdfiaeghbkgnaa
