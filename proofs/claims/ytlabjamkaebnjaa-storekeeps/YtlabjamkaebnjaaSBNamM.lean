/-
  Of the text BNamM: what this stage needs (culled by a program).
-/
import Derived.Test.YtlabjamkaebnjaaSBPieM
namespace Go.Proofs.Ytlabjamkaebnjaa
open Go.RowKit Go.Lib Go.Deep
set_option linter.unusedVariables false
set_option linter.unusedSimpArgs false

/-- Behind a region that asks ones, something that makes a device, and a box. -/
def R4 (A : Nat → Option Addr → Nat → Nat → Nat → Act) (P : Option Addr → Nat → Nat → World → Prop) (e : Exit) (a : Act) (w : World) : Prop := match e with
  | .normal => ∃ o1 oa c s b, a = A o1 oa c s b ∧ P oa c b w
  | _ => False
theorem R4.out {A : Nat → Option Addr → Nat → Nat → Nat → Act} {P : Option Addr → Nat → Nat → World → Prop} {e : Exit} {a : Act} {w : World} (h : R4 A P e a w) : e = .normal ∧ ∃ o1 oa c s b, a = A o1 oa c s b ∧ P oa c b w := by
  cases e with
  | normal => exact ⟨rfl, h⟩
  | _ => exact h.elim
def R22 (A : Nat → Nat → Act) (P : World → Prop) (e : Exit) (a : Act) (w : World) : Prop := match e with
  | .normal => ∃ o s, a = A o s ∧ P w
  | _ => False
theorem R22.out {A : Nat → Nat → Act} {P : World → Prop} {e : Exit} {a : Act} {w : World} (h : R22 A P e a w) : e = .normal ∧ ∃ o s, a = A o s ∧ P w := by
  cases e with
  | normal => exact ⟨rfl, h⟩
  | _ => exact h.elim

end Go.Proofs.Ytlabjamkaebnjaa
