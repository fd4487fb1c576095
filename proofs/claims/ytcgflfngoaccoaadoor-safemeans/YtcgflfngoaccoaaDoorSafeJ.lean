/-
  Texts joined: some of those that the proofs of this seat stand on.
-/
import Derived.Test.YtcgflfngoaccoaaDoorSafeHJ
/-
  THE CONTRACT of Next (made by a program).
-/
namespace Go.Proofs.YtcgflfngoaccoaaDoor
open Go.RowKit Go.Lib Go.Deep
set_option linter.unusedVariables false
set_option linter.unusedSimpArgs false

theorem fault_len {S : St} {F : Sf} {L : List Nat} (h : faultV S F L = 0) : L.length = S.groups.length := by
  unfold faultV at h
  by_cases e : L.length = S.groups.length
  · exact e
  · rw [if_pos e] at h; cases h
end Go.Proofs.YtcgflfngoaccoaaDoor

