/-
  Of the text Fits: what this stage needs (culled by a program).
-/
import Derived.Test.YtnmfigcemknjbaaWorld
import Derived.Test.YtnmfigcemknjbaaSPhase
import Derived.Deep.RegionHeld2
namespace Go.Proofs.Ytnmfigcemknjbaa
open Go.RowKit Go.Lib Go.Deep
set_option linter.unusedVariables false
set_option linter.unusedSimpArgs false

/-- What is asked of a site ahead of sums of times. -/
structure Base (S : St) : Prop where
  sh : Shape S
  mn : ∀ i, i < S.phases.length → 0 ≤ (S.ph i).min ∧ (S.ph i).min ≤ 1048576
  bt : ∀ a b, a < S.groups.length → b < S.groups.length → S.bt a b ≤ 1048576
theorem Base.lies {S : St} (h : Base S) (f t : Nat) : 0 ≤ liesM S f t ∧ liesM S f t ≤ 1048576 :=
  ⟨liesM_ge S f t, (liesM_is S f t).le (by omega) (fun x hx => by
    obtain ⟨a, b, ha, hb, _, _, _, rfl⟩ := hx
    exact h.bt a b ha hb)⟩
theorem Base.part {S : St} (h : Base S) {i : Nat} (hi : i < S.phases.length) : 0 ≤ partM S i ∧ partM S i ≤ 2097152 := by
  have h1 := h.mn i hi
  have h2 := h.lies i ((i + 1) % S.phases.length)
  unfold partM
  omega
theorem Base.round {S : St} (h : Base S) : ∀ k, k ≤ S.phases.length → 0 ≤ roundN S k ∧ roundN S k ≤ 2097152 * k
  | 0, _ => by simp [roundN]
  | k + 1, hk => by
    have h1 := h.round k (by omega)
    have h2 := h.part (i := k) (by omega)
    rw [roundN]
    omega
theorem Kept.drew (w : World) (r : Option Nat) : Kept w w.drew r := Kept.drewN w 1 r
end Go.Proofs.Ytnmfigcemknjbaa
