/-
  Of the text BlkE: what this stage needs (culled by a program).
-/
import Derived.Test.YtlabjamkaebnjaaSmallJ
import Derived.Test.YtlabjamkaebnjaaBlkM
import Derived.Test.YtlabjamkaebnjaaBlkBJ
namespace Go.Proofs.Ytlabjamkaebnjaa
open Go.RowKit Go.Lib Go.Deep
set_option linter.unusedVariables false
set_option linter.unusedSimpArgs false

theorem zer_lt (n : Nat) : ∀ x ∈ List.replicate n 0, x < 256 := by
  intro x hx
  rw [List.eq_of_mem_replicate hx]
  omega
theorem Row.cm {w : World} {g : Nat} {L : List Nat} (h : Row w g L) (n : Nat) (hl : L.length = n) (hm : n ≤ 4096) (hb : ∀ x ∈ L, x < 256) : Come w (some ⟨g, 0, none⟩) n n L := by
  subst hl
  exact ⟨h.by_ (by omega) hb, fun e => (nomatch e), Nat.le_refl _, by omega⟩
/-- Behind a region that makes five things. -/
def R5 (A : Nat → Nat → Nat → Nat → Nat → Act) (P : Nat → Nat → World → Prop) (e : Exit) (a : Act) (w : World) : Prop := match e with
  | .normal => ∃ o1 o2 s g b, a = A o1 o2 s g b ∧ P g b w
  | _ => False
theorem R5.out {A : Nat → Nat → Nat → Nat → Nat → Act} {P : Nat → Nat → World → Prop} {e : Exit} {a : Act} {w : World} (h : R5 A P e a w) : e = .normal ∧ ∃ o1 o2 s g b, a = A o1 o2 s g b ∧ P g b w := by
  cases e with
  | normal => exact ⟨rfl, h⟩
  | _ => exact h.elim
def R1 (A : Nat → Act) (P : Nat → World → Prop) (e : Exit) (a : Act) (w : World) : Prop := match e with
  | .normal => ∃ o, a = A o ∧ P o w
  | _ => False
theorem R1.out {A : Nat → Act} {P : Nat → World → Prop} {e : Exit} {a : Act} {w : World} (h : R1 A P e a w) : e = .normal ∧ ∃ o, a = A o ∧ P o w := by
  cases e with
  | normal => exact ⟨rfl, h⟩
  | _ => exact h.elim
end Go.Proofs.Ytlabjamkaebnjaa
