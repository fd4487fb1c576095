/-
  THE CONTRACTS of mayBe, allMayBe, Whole.
-/
import Derived.Test.YtpajefkfnhibnabDoorWhole
namespace Go.Proofs.YtpajefkfnhibnabDoor
open Go.RowKit Go.Lib Go.Deep
set_option linter.unusedVariables false
set_option linter.unusedSimpArgs false

theorem splits_all {l : List Int} : l.all (fun x => inB x 0 1048576) = allB l.length (fun k => inB (l.getD k 0) 0 1048576) := by
  rw [Bool.eq_iff_iff, List.all_eq_true, allB_iff]
  constructor
  · intro h i hi
    exact h _ (getD_mem hi)
  · intro h x hx
    obtain ⟨i, hi, rfl⟩ := List.getElem_of_mem hx
    have := h i hi
    simpa [hi] using this
theorem may_parts {p : Pl} (h : mayB p = true) : (1 ≤ p.cycle ∧ p.cycle ≤ 1048576) ∧ (0 ≤ p.offset ∧ p.offset ≤ p.cycle - 1) ∧ (1 ≤ p.splits.length ∧ p.splits.length ≤ 8) ∧ ∀ x ∈ p.splits, 0 ≤ x ∧ x ≤ 1048576 := by
  unfold mayB timeB at h
  simp only [Bool.and_eq_true, inB_iff, List.all_eq_true] at h
  exact ⟨h.1.1.1, h.1.1.2, by omega, h.2⟩
/-- Plans that may be at all. -/
def mayL (l : List Pl) : Bool := allB l.length (fun k => mayB (l.getD k q0))
theorem mayL_iff {l : List Pl} : mayL l = true ↔ ∀ p ∈ l, mayB p = true := by
  unfold mayL
  rw [allB_iff]
  constructor
  · intro h p hp
    obtain ⟨i, hi, rfl⟩ := List.getElem_of_mem hp
    have := h i hi
    simpa [hi] using this
  · intro h i hi
    exact h _ (getD_mem hi)
theorem wok_may {l : List Pl} (h : mayL l = true) (hn : l.length ≤ 8) : Wok l := ⟨hn, fun p hp => by
  obtain ⟨h1, h2, h3, h4⟩ := may_parts (mayL_iff.1 h p hp)
  exact ⟨by omega, by omega, by omega, fun x hx => (h4 x hx).1⟩⟩
def wholeE (l : List Pl) : Int := if 8 < l.length then 4 else if mayL l = true then 0 else 170
def wholeL (l : List Pl) : List Nat := if wholeE l = 0 then smlI (plansI l) else []
end Go.Proofs.YtpajefkfnhibnabDoor
