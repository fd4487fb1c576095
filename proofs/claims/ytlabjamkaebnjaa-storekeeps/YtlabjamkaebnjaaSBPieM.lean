/-
  Of the text BPieM: what this stage needs (culled by a program).
-/
import Derived.Test.YtlabjamkaebnjaaSmallJ
import Derived.Test.YtlabjamkaebnjaaBlkBJ
import Derived.Test.YtlabjamkaebnjaaSPlanLJ
import Derived.Test.YtlabjamkaebnjaaSBlkE
namespace Go.Proofs.Ytlabjamkaebnjaa
open Go.RowKit Go.Lib Go.Deep
set_option linter.unusedVariables false
set_option linter.unusedSimpArgs false

theorem Plw.drop {w : World} {b off m : Nat} {l : List Pw} (h : Plw w (some ⟨b, off, none⟩) m l) (k : Nat) (hk : k ≤ m) : Plw w (some ⟨b, off + k * 2, none⟩) (m - k) (l.drop k) := by
  refine ⟨by rw [List.length_drop, h.size], by have := h.max; omega, fun hp => ?_⟩
  obtain ⟨b', off', e, hb, hc⟩ := h.at_ (by omega)
  injection e with e
  injection e with e1 e2 e3
  subst e1 e2
  refine ⟨b, off + k * 2, rfl, hb, fun i p hi => ?_⟩
  obtain ⟨a, c, p0, p1, p2⟩ := hc (k + i) p (by rw [List.getElem?_drop] at hi; exact hi)
  rw [show off + (k + i) * 2 = off + k * 2 + i * 2 by omega] at p0 p1
  exact ⟨a, c, p0, p1, p2⟩
theorem Plw.zero {w : World} {la : Option Addr} : Plw w la 0 [] := ⟨rfl, by omega, fun h => absurd h (by omega)⟩
/-- Behind a region that makes a device, and a box. -/
def R2 (A : Option Addr → Nat → Nat → Act) (P : Option Addr → Nat → Nat → World → Prop) (e : Exit) (a : Act) (w : World) : Prop := match e with
  | .normal => ∃ o c b, a = A o c b ∧ P o c b w
  | _ => False
theorem R2.out {A : Option Addr → Nat → Nat → Act} {P : Option Addr → Nat → Nat → World → Prop} {e : Exit} {a : Act} {w : World} (h : R2 A P e a w) : e = .normal ∧ ∃ o c b, a = A o c b ∧ P o c b w := by
  cases e with
  | normal => exact ⟨rfl, h⟩
  | _ => exact h.elim
theorem Come.far {w : World} {a : Option Addr} {n c : Nat} {L : List Nat} (h : Come w a n c L) {b : Nat} (i : Nat) (v : Value) (hb : ∀ x, a = some x → x.block ≠ b) : Come (w.setCell ⟨b, i, none⟩ v) a n c L := by
  refine ⟨⟨h.by_.size, h.by_.max, h.by_.lt, fun hp => ?_⟩, h.nil, h.room, h.max⟩
  obtain ⟨g, off, rfl, hg, hc⟩ := h.by_.at_ hp
  exact ⟨g, off, rfl, by simpa [World.setCell] using hg, fun j hj => (World.cell?_setCell_other _ _ _ _ (fun e => hb _ rfl (by injection e with e1; exact e1.symm))).trans (hc j hj)⟩

end Go.Proofs.Ytlabjamkaebnjaa
