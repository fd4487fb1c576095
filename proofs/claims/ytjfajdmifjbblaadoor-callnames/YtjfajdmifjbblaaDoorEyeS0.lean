/-
  THE CONTRACT of seen, the chapter's site (made by a program).
-/
import Derived.Test.YtjfajdmifjbblaaDoorEyeN
import Derived.Test.YtjfajdmifjbblaaDoorEyeU
namespace Go.Proofs.YtjfajdmifjbblaaDoor
open Go.RowKit Go.Lib Go.Deep
set_option linter.unusedVariables false
set_option linter.unusedSimpArgs false

theorem cap_some {a : Addr} {n : Nat} (h : n ≤ 1000) : Cap (some a) n n := ⟨fun e => (nomatch e), Nat.le_refl _, by omega⟩
/-- The chapter's site. -/
def S13 : St := ⟨0, [⟨1, 2, 1⟩, ⟨1, 2, 1⟩], [2, 1], [[0, 2], [2, 0]], [⟨1, 2, 5, 1, false⟩, ⟨2, 2, 5, 1, false⟩], [⟨0, 3, 9, 2⟩], 3, 2, 4, 8, 20, []⟩
theorem s13_may : siteB S13 = true := by decide +kernel
theorem lie_of {w : World} {g n K : Nat} {F : Nat → Nat → Value} (hb : g < w.heap.size) (h : ∀ i, i < n → ∀ j, j < K → w.cell? ⟨g, i * K + j, none⟩ = some (F i j)) : Lie w (some ⟨g, 0, none⟩) n K F :=
  ⟨fun _ => ⟨g, 0, rfl, hb, fun i hi j hj => by rw [Nat.zero_add]; exact h i hi j hj⟩⟩
theorem two_cases {P : Nat → Prop} (h0 : P 0) (h1 : P 1) : ∀ i, i < 2 → P i := fun i hi => by
  have : i = 0 ∨ i = 1 := by omega
  rcases this with rfl | rfl
  · exact h0
  · exact h1
end Go.Proofs.YtjfajdmifjbblaaDoor
