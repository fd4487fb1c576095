/-
  THE WALK of SiteMay.
-/
import Derived.Test.YtpajefkfnhibnaaDoorRefK2
import Derived.Test.YtpajefkfnhibnaaDoorTwinE
import Derived.Test.YtpajefkfnhibnaaDoorSameB
import Derived.Test.YtpajefkfnhibnaaDoorAsk2
namespace Go.Proofs.YtpajefkfnhibnaaDoor
open Go.RowKit Go.Lib Go.Deep
set_option linter.unusedVariables false
set_option linter.unusedSimpArgs false

theorem pairE_bad {S : St} {a b : Int} {n : Nat} (hs : siteB S = false) : pairE S a b n = 50 := by unfold pairE; rw [hs]; rfl
theorem pairE_out {S : St} {a b : Int} {n : Nat} (hs : siteB S = true) (h : ¬ (0 ≤ a ∧ a < n ∧ 0 ≤ b ∧ b < n)) : pairE S a b n = 2 := by
  unfold pairE
  rw [if_pos hs, if_neg]
  rw [Bool.and_eq_true, inB_iff, inB_iff]
  omega

end Go.Proofs.YtpajefkfnhibnaaDoor
