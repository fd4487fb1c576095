/-
  WHAT CAME IN: devices, plans, what is kept, as the walks want them.
-/
import Derived.Test.YtlabjamkaebnjaaSOpenS
import Derived.Test.YtlabjamkaebnjaaBlkM
import Derived.Test.YtlabjamkaebnjaaRows
import Derived.Deep.Grids
import Derived.Deep.Strs
import Derived.OpenShut
import Derived.ShutString
namespace Go.Proofs.Ytlabjamkaebnjaa
open Go.ChangeShapes Go.WideShapes Go.ChangeAt Go.RowKit Go.Lib Go.Deep
set_option linter.unusedVariables false
set_option linter.unusedSimpArgs false

theorem nat_u8T {z : Int} (h : (Lit.int .u8 z).wf = true) : ∃ n : Nat, z = (n : Int) ∧ n < 256 := by
  have := bounds_u8 h
  exact ⟨z.toNat, by omega, by omega⟩
section
variable {H : Type} {enc : TypeId × Value → H}
theorem tr_come {W : World} {fuel : Nat} {c : Value} {x : DataW H × List MemPlace} (h : Tr enc W fuel 22 [c] x) : ∃ a len cap L, c = .slice a len cap ∧ L.length = len ∧ Come W a len cap L := by
  rcases open_ints Try.underlying22 Try.underlying5 (by kernel_rfl) h with ⟨hcs, _⟩ | ⟨x, l, c', zs, hcs, _, hl, hm, hz, _, hcell, hwz⟩
  · have e : c = .slice none 0 0 := by simpa using hcs
    exact ⟨none, 0, 0, [], e, rfl, By.nil _ _, fun _ => rfl, Nat.le_refl _, by omega⟩
  · have e : c = .slice (some x) l c' := by simpa using hcs
    have hC := come_of (w := W) (a := some x) (len := l) (cap := c') (zs := zs) (.inr ⟨x, rfl, hl, hm, by simpa using hz, hcell, hwz⟩)
    exact ⟨some x, l, c', _, e, hC.by_.size, hC⟩
set_option maxRecDepth 100000 in
theorem open_devT {W : World} {base : Nat} {v : Value} {d : DataW H} {p : List MemPlace} (hv : Value.okWide Try.prog W .any base 24 v) (h : DataW.Trod enc Try.prog W 0 (fun _ => true) true 24 v d p) : ∃ a n c L, v = .agg #[.slice a n c] ∧ Come W a n c L := by
  have hC : Try.prog.cellsOf 24 = 1 := by kernel_rfl
  obtain ⟨cs, rfl, hsz⟩ := okWide_struct Try.underlying24 hv
  rw [hC] at hsz
  obtain ⟨l⟩ := cs
  match l, hsz with
  | [c0], _ =>
    obtain ⟨fuel, hf⟩ := h
    simp [Value.cells] at hf
    obtain ⟨n, _, hall⟩ := flds Try.underlying24 hf
    have g0 : ∃ y, Tr enc W n 22 (([c0].drop 0).take (Try.prog.cellsOf 22)) y := hall 0 _ rfl
    obtain ⟨y0, h0⟩ := g0
    rw [show Try.prog.cellsOf 22 = 1 by kernel_rfl] at h0
    obtain ⟨a, len, cap, L, e, hl, hC⟩ := tr_come h0
    have e' : c0 = .slice a len cap := e
    subst e'
    exact ⟨a, len, cap, L, rfl, hC⟩
theorem open_plT {W : World} {a : Option Addr} {len cap : Nat} {d : DataW H} {p : List MemPlace} (h : DataW.Trod enc Try.prog W 0 (fun _ => true) true 25 (.slice a len cap) d p) : ∃ l, Plans W a len cap l := by
  obtain ⟨fuel, hf⟩ := h
  simp [Value.cells] at hf
  obtain ⟨a', cap', l, e, hP⟩ := open_plansC hf
  injection e with e1 e2 e3
  subst e1 e2 e3
  exact ⟨l, hP⟩
set_option maxRecDepth 100000 in
theorem open_keptT {W : World} {base : Nat} {v : Value} {d : DataW H} {p : List MemPlace} (hv : Value.okWide Try.prog W .any base 35 v) (h : DataW.Trod enc Try.prog W 0 (fun _ => true) true 35 v d p) : ∃ (g : Int) (m : Nat) (a : Option Addr) (n c : Nat) (l : List Pl), v = .agg #[.int .i64 g, .int .u8 (m : Int), .slice a n c] ∧ i64B g ∧ m < 256 ∧ Plans W a n c l := by
  have hC : Try.prog.cellsOf 35 = 3 := by kernel_rfl
  have kI : Try.prog.cellsOf 3 = 1 := by kernel_rfl
  have kU : Try.prog.cellsOf 5 = 1 := by kernel_rfl
  have kL : Try.prog.cellsOf 25 = 1 := by kernel_rfl
  obtain ⟨cs, rfl, hsz⟩ := okWide_struct Try.underlying35 hv
  rw [hC] at hsz
  obtain ⟨l⟩ := cs
  match l, hsz with
  | [c0, c1, c2], _ =>
    obtain ⟨fuel, hf⟩ := h
    simp [Value.cells] at hf
    obtain ⟨n, _, hall⟩ := flds Try.underlying35 hf
    obtain ⟨y0, h0⟩ := hall 0 _ rfl
    obtain ⟨y1, h1⟩ := hall 1 _ rfl
    obtain ⟨y2, h2⟩ := hall 2 _ rfl
    simp [kI] at h0
    simp [kU] at h1
    simp [kL] at h2
    obtain ⟨z0, e0, w0⟩ := open_int1 Try.underlying3 h0
    obtain ⟨z1, e1, w1⟩ := open_int1 Try.underlying5 h1
    obtain ⟨a, cap, l, rfl, hP⟩ := open_plansC h2
    simp at e0 e1
    subst e0 e1
    obtain ⟨m, rfl, hm⟩ := nat_u8T w1
    exact ⟨z0, m, a, l.length, cap, l, rfl, i64_of w0, hm, hP⟩
end

end Go.Proofs.Ytlabjamkaebnjaa
