/-
  WHAT CAME IN: a standing, a trace, as the walks want them.
-/
import Derived.Test.YtkgimccffggfdaaDoorOpenS
import Derived.Test.YtkgimccffggfdaaDoorSafeK
namespace Go.Proofs.YtkgimccffggfdaaDoor
open Go.ChangeShapes Go.WideShapes Go.ChangeAt Go.RowKit Go.Lib Go.Deep
set_option linter.unusedVariables false
set_option linter.unusedSimpArgs false

section
variable {H : Type} {enc : TypeId × Value → H}
set_option maxRecDepth 100000 in
theorem open_seens {W : World} {fuel : Nat} {c : Value} {x : DataW H × List MemPlace} (h : Tr enc W fuel 24 [c] x) : ∃ (a : Option Addr) (cap : Nat) (l : List Sn), c = .slice a l.length cap ∧ Lie W a l.length 3 (fun i j => snV (l.getD i n0) j) ∧ Cap a l.length cap ∧ ∀ g ∈ l, g.asp < 256 ∧ i64B g.since ∧ i64B g.ended :=
  open_list n0 (e := 23) (K := 3) (by omega) snV (fun g => g.asp < 256 ∧ i64B g.since ∧ i64B g.ended) Tryd.underlying24 (by kernel_rfl) (fun n cs x h => by
    obtain ⟨n, hl, hf⟩ := flds Tryd.underlying23 h
    have hC : Tryd.prog.cellsOf 23 = 3 := by kernel_rfl
    have kI : Tryd.prog.cellsOf 3 = 1 := by kernel_rfl
    have k8 : Tryd.prog.cellsOf 5 = 1 := by kernel_rfl
    rw [hC] at hl
    match cs, hl with
    | [c0, c1, c2], _ =>
      obtain ⟨y0, h0⟩ := hf 0 _ rfl
      obtain ⟨y1, h1⟩ := hf 1 _ rfl
      obtain ⟨y2, h2⟩ := hf 2 _ rfl
      simp [k8] at h0
      simp [kI] at h1 h2
      obtain ⟨z0, e0, w0⟩ := open_int1 Tryd.underlying5 h0
      obtain ⟨z1, e1, w1⟩ := open_int1 Tryd.underlying3 h1
      obtain ⟨z2, e2, w2⟩ := open_int1 Tryd.underlying3 h2
      obtain ⟨m0, rfl, b0⟩ := nat_u8 w0
      simp at e0 e1 e2
      subst e0 e1 e2
      refine ⟨⟨m0, z1, z2⟩, fun j hj => ?_, b0, i64_of w1, i64_of w2⟩
      match j, hj with
      | 0, _ => rfl
      | 1, _ => rfl
      | 2, _ => rfl) h
set_option maxRecDepth 100000 in
theorem open_safe {W : World} {base : Nat} {v : Value} {d : DataW H} {p : List MemPlace} (hv : Value.okWide Tryd.prog W .any base 26 v) (h : DataW.Trod enc Tryd.prog W 0 (fun _ => true) true 26 v d p) : ∃ (a : Option Addr) (c : Nat) (F : Sf), v = safeV a c F ∧ SafeAt W a c F ∧ i64B F.start := by
  obtain ⟨cs, rfl, hsz⟩ := okWide_struct Tryd.underlying26 hv
  have hC : Tryd.prog.cellsOf 26 = 3 := by kernel_rfl
  rw [hC] at hsz
  obtain ⟨l⟩ := cs
  have kI : Tryd.prog.cellsOf 3 = 1 := by kernel_rfl
  have kb : Tryd.prog.cellsOf 4 = 1 := by kernel_rfl
  have k1 : Tryd.prog.cellsOf 24 = 1 := by kernel_rfl
  match l, hsz with
  | [c0, c1, c2], _ =>
    obtain ⟨fuel, hf0⟩ := h
    simp [Value.cells] at hf0
    obtain ⟨n, hl, hf⟩ := flds Tryd.underlying26 hf0
    obtain ⟨y0, h0⟩ := hf 0 _ rfl
    obtain ⟨y1, h1⟩ := hf 1 _ rfl
    obtain ⟨y2, h2⟩ := hf 2 _ rfl
    simp [k1] at h0
    simp [kI] at h1
    simp [kb] at h2
    obtain ⟨z1, q1, w1⟩ := open_int1 Tryd.underlying3 h1
    obtain ⟨b2, q2, _⟩ := DataW.trod_bool Tryd.underlying4 h2
    simp at q1 q2
    subst q1 q2
    obtain ⟨a, c, l, rfl, hL, hcap, hr⟩ := open_seens h0
    exact ⟨a, c, ⟨l, z1, b2⟩, rfl, ⟨hL, hcap, hr⟩, i64_of w1⟩
end

end Go.Proofs.YtkgimccffggfdaaDoor
