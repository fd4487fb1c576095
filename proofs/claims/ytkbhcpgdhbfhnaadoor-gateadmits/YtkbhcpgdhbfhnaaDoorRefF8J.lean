/-
  Texts joined: some of those that the proofs of this seat stand on.
-/
import Derived.Test.YtkbhcpgdhbfhnaaDoorRefA8
import Derived.Test.YtkbhcpgdhbfhnaaDoorLampR
/-
  THE DOCUMENT'S Fault of layer 8 (made by a program).
-/
namespace Go.Proofs.YtkbhcpgdhbfhnaaDoor
open Go.RowKit Go.Lib Go.Deep
set_option linter.unusedVariables false
set_option linter.unusedSimpArgs false

def Rg8 (A : Act) (W : World) (e : Exit) (a : Act) (w : World) : Prop := match e with
  | .normal => a = A ∧ Kept W w none
  | _ => False
theorem Rg8.out {A : Act} {W w : World} {e : Exit} {a : Act} (h : Rg8 A W e a w) : e = .normal ∧ a = A ∧ Kept W w none := by
  cases e with
  | normal => exact ⟨rfl, h.1, h.2⟩
  | _ => exact h.elim
/-- Nothing is asked red by a start. -/
def NoSt (F : Sf) (L : List Nat) : Prop := ¬ ((F.flashed = true ∨ 0 < F.start) ∧ allIs L 1 = false)
section
variable {S : St} {F : Sf} {L : List Nat} (hn : L.length = S.groups.length) (h4 : allIs L 4 = false) (hH : hasIt L 4 = false)
include hn h4 hH
theorem flt_rest : faultV S F L = if (F.flashed = true ∨ 0 < F.start) ∧ allIs L 1 = false then 8 else if oneV S F L ≠ 0 then oneV S F L else if mtB S L = true then 3 else if soonB S F L = true then 4 else 0 := by
  unfold faultV
  rw [if_neg (by simp [hn]), if_neg (by simp [h4]), if_neg (by simp [hH])]
theorem flt_is8 {k : Nat} (hs : F.flashed = true ∨ 0 < F.start) (hk : k < L.length) (e : lg L k ≠ 1) : faultV S F L = 8 := by
  rw [flt_rest hn h4 hH, if_pos ⟨hs, allIs_no hk e⟩]
variable (hR : NoSt F L)
include hR
theorem flt_isone {z : Int} (h : oneV S F L = z) (hz : z ≠ 0) : faultV S F L = z := by
  rw [flt_rest hn h4 hH, if_neg hR, h, if_pos hz]
variable (hO : oneV S F L = 0)
include hO
theorem flt_is3 (h : mtB S L = true) : faultV S F L = 3 := by
  rw [flt_rest hn h4 hH, if_neg hR, if_neg (by simp [hO]), if_pos h]
theorem flt_is4 (h : mtB S L = false) (h2 : soonB S F L = true) : faultV S F L = 4 := by
  rw [flt_rest hn h4 hH, if_neg hR, if_neg (by simp [hO]), if_neg (by simp [h]), if_pos h2]
theorem flt_is0 (h : mtB S L = false) (h2 : soonB S F L = false) : faultV S F L = 0 := by
  rw [flt_rest hn h4 hH, if_neg hR, if_neg (by simp [hO]), if_neg (by simp [h]), if_neg (by simp [h2])]
end

end Go.Proofs.YtkbhcpgdhbfhnaaDoor

/-
  THE DOCUMENT'S Fault of layer 8, a way (made by a program).
-/
namespace Go.Proofs.YtkbhcpgdhbfhnaaDoor
open Go.RowKit Go.Lib Go.Deep
set_option linter.unusedVariables false
set_option linter.unusedSimpArgs false

end Go.Proofs.YtkbhcpgdhbfhnaaDoor

/-
  THE DOCUMENT'S Fault of layer 8, a way (made by a program).
-/
namespace Go.Proofs.YtkbhcpgdhbfhnaaDoor
open Go.RowKit Go.Lib Go.Deep
set_option linter.unusedVariables false
set_option linter.unusedSimpArgs false

end Go.Proofs.YtkbhcpgdhbfhnaaDoor

/-
  THE DOCUMENT'S Fault of layer 8, a way (made by a program).
-/
namespace Go.Proofs.YtkbhcpgdhbfhnaaDoor
open Go.RowKit Go.Lib Go.Deep
set_option linter.unusedVariables false
set_option linter.unusedSimpArgs false

end Go.Proofs.YtkbhcpgdhbfhnaaDoor

/-
  THE DOCUMENT'S Fault of layer 8, whatever the lights.
-/
namespace Go.Proofs.YtkbhcpgdhbfhnaaDoor
open Go.RowKit Go.Lib Go.Deep
set_option linter.unusedVariables false
set_option linter.unusedSimpArgs false

end Go.Proofs.YtkbhcpgdhbfhnaaDoor

