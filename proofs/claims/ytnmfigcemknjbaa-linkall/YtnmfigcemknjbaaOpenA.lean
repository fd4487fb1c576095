/-
  WHAT CAME IN: lists of truths.
-/
import Derived.Test.YtnmfigcemknjbaaOpenK
import Derived.Test.YtnmfigcemknjbaaLAllW
namespace Go.Proofs.Ytnmfigcemknjbaa
open Go.ChangeShapes Go.WideShapes Go.ChangeAt Go.RowKit Go.Lib Go.Deep
set_option linter.unusedVariables false
set_option linter.unusedSimpArgs false

section
variable {H : Type} {enc : TypeId × Value → H}
theorem open_bools1 {W : World} {fuel : Nat} {c : Value} {x : DataW H × List MemPlace} (h : Tr enc W fuel 73 [c] x) : ∃ (a : Option Addr) (cap : Nat) (l : List Bool), c = .slice a l.length cap ∧ Bls W a l.length l ∧ Cap a l.length cap := by
  obtain ⟨a, cap, l, rfl, h1, h2, _⟩ := open_list false (e := 4) (K := 1) (by omega) (fun b _ => .bool b) (fun _ => True) Try.underlying73 (by kernel_rfl) (fun n cs x h => by
    obtain ⟨b, rfl, _⟩ := DataW.trod_bool Try.underlying4 h
    exact ⟨b, fun j hj => by rw [show j = 0 by omega]; rfl, trivial⟩) h
  exact ⟨a, cap, l, rfl, ⟨rfl, h1⟩, h2⟩
theorem open_bools {W : World} {a : Option Addr} {len cap : Nat} {d : DataW H} {p : List MemPlace} (h : DataW.Trod enc Try.prog W 0 (fun _ => true) true 73 (.slice a len cap) d p) : ∃ l, Bls W a len l ∧ Cap a len cap := by
  obtain ⟨m, hm⟩ := h
  simp [Value.cells] at hm
  obtain ⟨a', cap', l, e, h1, h2⟩ := open_bools1 hm
  injection e with e1 e2 e3
  subst e1 e2 e3
  exact ⟨l, h1, h2⟩
end

end Go.Proofs.Ytnmfigcemknjbaa
