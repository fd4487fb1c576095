/-
  WHAT CAME IN: a group, how it stands, bytes, as the walks want them.
-/
import Derived.Test.YtpokkeobnflijaaLampM
import Derived.Test.YtpokkeobnflijaaRows
import Derived.Deep.Matrix
import Derived.Deep.Strs
import Derived.OpenShut
import Derived.ShutString
namespace Go.Proofs.Ytpokkeobnflijaa
open Go.ChangeShapes Go.WideShapes Go.ChangeAt Go.RowKit Go.Lib Go.Deep
set_option linter.unusedVariables false
set_option linter.unusedSimpArgs false

section
variable {H : Type} {enc : TypeId × Value → H}
abbrev Tr (enc : TypeId × Value → H) (W : World) (n : Nat) (t : TypeId) (cs : List Value) (x : DataW H × List MemPlace) : Prop := DataW.trod enc Try.prog W 0 (fun _ => true) true n t cs = some x
theorem flds {W : World} {fuel : Nat} {t : TypeId} {fs : Array Field} {cs : List Value} {x : DataW H × List MemPlace} (ht : Try.prog.underlying t = some (.struct fs)) (h : Tr enc W fuel t cs x) : ∃ n, cs.length = Try.prog.cellsOf t ∧ ∀ (i : Nat) (f : Field), fs[i]? = some f → ∃ y, Tr enc W n f.type ((cs.drop f.offset).take (Try.prog.cellsOf f.type)) y := by
  obtain ⟨xs, n, _, _, hl, hlen, hf⟩ := DataW.trod_struct ht h
  refine ⟨n, hl, fun i f hi => ?_⟩
  have hi' : i < fs.size := (Array.getElem?_eq_some_iff.1 hi).1
  exact ⟨xs[i]'(by omega), (hf i f hi).trans (List.getElem?_eq_getElem (by omega))⟩
theorem open_int1 {W : World} {n : Nat} {t : TypeId} {k : IntKind} {cs : List Value} {x : DataW H × List MemPlace} (ht : Try.prog.underlying t = some (.int k)) (h : Tr enc W n t cs x) : ∃ z, cs = [.int k z] ∧ (Lit.int k z).wf = true := by
  obtain ⟨z, e, _, hw⟩ := DataW.trod_int ht h
  exact ⟨z, e, hw⟩
theorem open_three {W : World} {base : Nat} {t : TypeId} {fs : Array Field} {f0 f1 f2 : Field} {v : Value} {d : DataW H} {p : List MemPlace} (ht : Try.prog.underlying t = some (.struct fs)) (hC : Try.prog.cellsOf t = 3) (g0 : fs[0]? = some f0) (g1 : fs[1]? = some f1) (g2 : fs[2]? = some f2)
    (t0 : f0.type = 5 ∧ f0.offset = 0) (t1 : f1.type = 3 ∧ f1.offset = 1) (t2 : f2.type = 3 ∧ f2.offset = 2)
    (hv : Value.okWide Try.prog W .any base t v) (h : DataW.Trod enc Try.prog W 0 (fun _ => true) true t v d p) : ∃ (k m y : Int), v = .agg #[.int .u8 k, .int .i64 m, .int .i64 y] ∧ (Lit.int .u8 k).wf = true ∧ (Lit.int .i64 m).wf = true ∧ (Lit.int .i64 y).wf = true := by
  obtain ⟨cs, rfl, hsz⟩ := okWide_struct ht hv
  rw [hC] at hsz
  obtain ⟨l⟩ := cs
  match l, hsz with
  | [c0, c1, c2], _ =>
    obtain ⟨fuel, hf⟩ := h
    simp [Value.cells] at hf
    obtain ⟨n, _, hall⟩ := flds ht hf
    obtain ⟨y0, h0⟩ := hall 0 f0 g0
    obtain ⟨y1, h1⟩ := hall 1 f1 g1
    obtain ⟨y2, h2⟩ := hall 2 f2 g2
    rw [t0.1, t0.2, show Try.prog.cellsOf 5 = 1 by kernel_rfl] at h0
    rw [t1.1, t1.2, show Try.prog.cellsOf 3 = 1 by kernel_rfl] at h1
    rw [t2.1, t2.2, show Try.prog.cellsOf 3 = 1 by kernel_rfl] at h2
    obtain ⟨z0, q0, w0⟩ := open_int1 Try.underlying5 h0
    obtain ⟨z1, q1, w1⟩ := open_int1 Try.underlying3 h1
    obtain ⟨z2, q2, w2⟩ := open_int1 Try.underlying3 h2
    simp at q0 q1 q2
    subst q0 q1 q2
    exact ⟨z0, z1, z2, rfl, w0, w1, w2⟩
theorem open_grp {W : World} {base : Nat} {v : Value} {d : DataW H} {p : List MemPlace} (hv : Value.okWide Try.prog W .any base 23 v) (h : DataW.Trod enc Try.prog W 0 (fun _ => true) true 23 v d p) : ∃ (k m y : Int), v = grpV k m y ∧ (Lit.int .u8 k).wf = true ∧ (Lit.int .i64 m).wf = true ∧ (Lit.int .i64 y).wf = true :=
  open_three Try.underlying23 (by kernel_rfl) rfl rfl rfl ⟨rfl, rfl⟩ ⟨rfl, rfl⟩ ⟨rfl, rfl⟩ hv h
theorem open_seen {W : World} {base : Nat} {v : Value} {d : DataW H} {p : List MemPlace} (hv : Value.okWide Try.prog W .any base 26 v) (h : DataW.Trod enc Try.prog W 0 (fun _ => true) true 26 v d p) : ∃ (k m y : Int), v = seenV k m y ∧ (Lit.int .u8 k).wf = true ∧ (Lit.int .i64 m).wf = true ∧ (Lit.int .i64 y).wf = true :=
  open_three Try.underlying26 (by kernel_rfl) rfl rfl rfl ⟨rfl, rfl⟩ ⟨rfl, rfl⟩ ⟨rfl, rfl⟩ hv h
theorem open_bytes {W : World} {a : Option Addr} {len cap : Nat} {d : DataW H} {p : List MemPlace} (h : DataW.Trod enc Try.prog W 0 (fun _ => true) true 32 (.slice a len cap) d p) : ∃ L, By W a len L := by
  obtain ⟨fuel, hf⟩ := h
  simp [Value.cells] at hf
  rcases open_ints Try.underlying32 Try.underlying5 (by kernel_rfl) hf with ⟨hcs, _⟩ | ⟨x, l, c', zs, hcs, _, hl, hm, hz, _, hcell, hwz⟩
  · have e : Value.slice a len cap = .slice none 0 0 := by simpa using hcs
    injection e with e1 e2 e3
    subst e1 e2 e3
    exact ⟨[], By.nil _ _⟩
  · have e : Value.slice a len cap = .slice (some x) l c' := by simpa using hcs
    injection e with e1 e2 e3
    subst e1 e2 e3
    exact ⟨_, by_of (.inr ⟨x, rfl, hl, hm, by simpa using hz, hcell, hwz⟩)⟩
end

end Go.Proofs.Ytpokkeobnflijaa
