/-
  WHAT CAME IN: commands, reports, bytes.
-/
import Derived.Test.YtnmfigcemknjbaaSOpenS
import Derived.Test.YtnmfigcemknjbaaLnkY
import Derived.Test.YtnmfigcemknjbaaRows
import Derived.Deep.Grids
import Derived.Deep.Strs
import Derived.OpenShut
import Derived.ShutString
namespace Go.Proofs.Ytnmfigcemknjbaa
open Go.ChangeShapes Go.WideShapes Go.ChangeAt Go.RowKit Go.Lib Go.Deep
set_option linter.unusedVariables false
set_option linter.unusedSimpArgs false

theorem nat_u8C {z : Int} (h : (Lit.int .u8 z).wf = true) : ∃ n : Nat, z = (n : Int) ∧ n < 256 := by
  have := bounds_u8 h
  exact ⟨z.toNat, by omega, by omega⟩
section
variable {H : Type} {enc : TypeId × Value → H}
theorem open_loads {W : World} {fuel : Nat} {c : Value} {x : DataW H × List MemPlace} (h : Tr enc W fuel 43 [c] x) : ∃ (a : Option Addr) (cap : Nat) (l : List Int), c = .slice a l.length cap ∧ Ints W a l.length cap l := by
  obtain ⟨a, cap, l, rfl, h1, h2, h3⟩ := open_list (0 : Int) (e := 2) (K := 1) (by omega) (fun z _ => .int .i64 z) (fun z => i64B z) Try.underlying43 (by kernel_rfl) (fun n cs x h => by
    obtain ⟨z, rfl, hw⟩ := open_int1 Try.underlying2 h
    exact ⟨z, fun j hj => by rw [show j = 0 by omega]; rfl, i64_of hw⟩) h
  exact ⟨a, cap, l, rfl, h1, rfl, h2, h3⟩
theorem open_bts {W : World} {a : Option Addr} {len cap : Nat} {d : DataW H} {p : List MemPlace} (h : DataW.Trod enc Try.prog W 0 (fun _ => true) true 34 (.slice a len cap) d p) : ∃ L, Come W a len cap L := by
  obtain ⟨fuel, hf⟩ := h
  simp [Value.cells] at hf
  rcases open_ints Try.underlying34 Try.underlying5 (by kernel_rfl) hf with ⟨hcs, _⟩ | ⟨x, l, c', zs, hcs, _, hl, hm, hz, _, hcell, hwz⟩
  · have e : Value.slice a len cap = .slice none 0 0 := by simpa using hcs
    injection e with e1 e2 e3
    subst e1 e2 e3
    exact ⟨[], By.nil _ _, fun _ => rfl, Nat.le_refl _, by omega⟩
  · have e : Value.slice a len cap = .slice (some x) l c' := by simpa using hcs
    injection e with e1 e2 e3
    subst e1 e2 e3
    exact ⟨_, come_of (w := W) (a := some x) (len := len) (cap := cap) (zs := zs) (.inr ⟨x, rfl, hl, hm, by simpa using hz, hcell, hwz⟩)⟩
set_option maxRecDepth 100000 in
theorem open_cmd {W : World} {base : Nat} {v : Value} {d : DataW H} {p : List MemPlace} (hv : Value.okWide Try.prog W .any base 39 v) (h : DataW.Trod enc Try.prog W 0 (fun _ => true) true 39 v d p) : ∃ (c : Cm) (a : Option Addr) (k : Nat), v = cmV c a k ∧ Cok W c a k := by
  have hC : Try.prog.cellsOf 39 = 4 := by kernel_rfl
  obtain ⟨cs, rfl, hsz⟩ := okWide_struct Try.underlying39 hv
  rw [hC] at hsz
  obtain ⟨l⟩ := cs
  match l, hsz with
  | [c0, c1, c2, c3], _ =>
    obtain ⟨fuel, hf⟩ := h
    simp [Value.cells] at hf
    obtain ⟨n, hl, hf⟩ := flds Try.underlying39 hf
    have kI : Try.prog.cellsOf 3 = 1 := by kernel_rfl
    have kL : Try.prog.cellsOf 37 = 1 := by kernel_rfl
    obtain ⟨y0, h0⟩ := hf 0 _ rfl
    obtain ⟨y1, h1⟩ := hf 1 _ rfl
    obtain ⟨y2, h2⟩ := hf 2 _ rfl
    obtain ⟨y3, h3⟩ := hf 3 _ rfl
    simp [kI] at h0 h1 h2
    simp [kL] at h3
    obtain ⟨z0, e0, w0⟩ := open_int1 Try.underlying3 h0
    obtain ⟨z1, e1, w1⟩ := open_int1 Try.underlying3 h1
    obtain ⟨z2, e2, w2⟩ := open_int1 Try.underlying3 h2
    obtain ⟨a, cap, l, rfl, hI⟩ := open_nums h3
    simp at e0 e1 e2
    subst e0 e1 e2
    exact ⟨⟨z0, ⟨z1, z2, l⟩⟩, a, cap, rfl, hI, i64_of w1, i64_of w2, i64_of w0⟩
set_option maxRecDepth 100000 in
theorem open_rep {W : World} {base : Nat} {v : Value} {d : DataW H} {p : List MemPlace} (hv : Value.okWide Try.prog W .any base 45 v) (h : DataW.Trod enc Try.prog W 0 (fun _ => true) true 45 v d p) : ∃ (r : Rp) (a : Option Addr) (k : Nat), v = rpV r a k ∧ Rok W r a k := by
  have hC : Try.prog.cellsOf 45 = 4 := by kernel_rfl
  obtain ⟨cs, rfl, hsz⟩ := okWide_struct Try.underlying45 hv
  rw [hC] at hsz
  obtain ⟨l⟩ := cs
  match l, hsz with
  | [c0, c1, c2, c3], _ =>
    obtain ⟨fuel, hf⟩ := h
    simp [Value.cells] at hf
    obtain ⟨n, hl, hf⟩ := flds Try.underlying45 hf
    have kI : Try.prog.cellsOf 3 = 1 := by kernel_rfl
    have kU : Try.prog.cellsOf 5 = 1 := by kernel_rfl
    have kL : Try.prog.cellsOf 43 = 1 := by kernel_rfl
    obtain ⟨y0, h0⟩ := hf 0 _ rfl
    obtain ⟨y1, h1⟩ := hf 1 _ rfl
    obtain ⟨y2, h2⟩ := hf 2 _ rfl
    obtain ⟨y3, h3⟩ := hf 3 _ rfl
    simp [kI] at h0 h2
    simp [kU] at h1
    simp [kL] at h3
    obtain ⟨z0, e0, w0⟩ := open_int1 Try.underlying3 h0
    obtain ⟨z1, e1, w1⟩ := open_int1 Try.underlying5 h1
    obtain ⟨z2, e2, w2⟩ := open_int1 Try.underlying3 h2
    obtain ⟨a, cap, l, rfl, hI⟩ := open_loads h3
    simp at e0 e1 e2
    subst e0 e1 e2
    obtain ⟨m, rfl, hm⟩ := nat_u8C w1
    exact ⟨⟨z0, m, z2, l⟩, a, cap, rfl, hI, hm, i64_of w2, i64_of w0⟩
end

end Go.Proofs.Ytnmfigcemknjbaa
