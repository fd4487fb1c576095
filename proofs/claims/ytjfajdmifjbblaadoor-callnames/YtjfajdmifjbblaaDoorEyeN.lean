/-
  THE CONTRACT of eye.Next (made by a program).
-/
import Derived.Test.YtjfajdmifjbblaaDoorEyeN0
namespace Go.Proofs.YtjfajdmifjbblaaDoor
open Go.RowKit Go.Lib Go.Deep
set_option linter.unusedVariables false
set_option linter.unusedSimpArgs false

theorem nxK_may {S : St} {i : Int} {x : Lk} (u : Bool) : mayK (nxK S i x u) = true ∧ Typ (nxK S i x u) := by
  by_cases e : nxE S i x = 0
  · obtain ⟨h1, h2, h3, h4⟩ := nxE_zero e
    have hf := eye_facts h1
    rw [show nxK S i x u = stepK (S.ey i.toNat) S.heal x u by unfold nxK; rw [if_pos e]]
    exact ⟨mayK_step _ hf.h1 _ h4, typ_step _ hf.h1 _ h4⟩
  · rw [nxK_no u e]
    exact ⟨mayK_zero, typ_zero⟩

end Go.Proofs.YtjfajdmifjbblaaDoor
