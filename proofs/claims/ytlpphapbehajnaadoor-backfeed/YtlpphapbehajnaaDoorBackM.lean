/-
  THE MATHS of layer 10: the error of lights, of both lists; whether these differ; what Wrong, Next and Latches answer.
-/
import Derived.Test.YtlpphapbehajnaaDoorStM
namespace Go.Proofs.YtlpphapbehajnaaDoor
set_option linter.unusedVariables false
set_option linter.unusedSimpArgs false

def at10 (L : List Nat) (i : Nat) : Nat := L.getD i 0
def litB (L : List Nat) : Bool := allB L.length (fun i => decide (at10 L i ≤ 4))
/-- The error of a list that is not lights of g groups. -/
def litE (g : Nat) (L : List Nat) : Int := if L.length = g then (if litB L then 0 else 2) else 4
def bothE (g : Nat) (L M : List Nat) : Int := if litE g L ≠ 0 ∨ M.length = 0 then litE g L else litE g M
/-- One group's aspect is another one, as far as the second list goes. -/
def difB (L M : List Nat) : Bool := !allB M.length (fun i => at10 L i == at10 M i)
theorem litB_no {L : List Nat} {i : Nat} (hi : i < L.length) (h : 4 < at10 L i) : litB L = false := allB_no hi (by simp; omega)
theorem litB_yes {L : List Nat} (h : ∀ i, i < L.length → at10 L i ≤ 4) : litB L = true := allB_iff.2 (fun i hi => by simpa using h i hi)
theorem litE_ok {g : Nat} {L : List Nat} (h1 : L.length = g) (h2 : litB L = true) : litE g L = 0 := by unfold litE; rw [if_pos h1, h2]; rfl
theorem litE_arg {g : Nat} {L : List Nat} (h1 : L.length = g) (h2 : litB L = false) : litE g L = 2 := by unfold litE; rw [if_pos h1, h2]; rfl
theorem litE_many {g : Nat} {L : List Nat} (h1 : L.length ≠ g) : litE g L = 4 := by unfold litE; rw [if_neg h1]
theorem litE_zero {g : Nat} {L : List Nat} (h : litE g L = 0) : L.length = g ∧ litB L = true := by
  unfold litE at h
  by_cases h1 : L.length = g
  · rw [if_pos h1] at h
    cases h2 : litB L with
    | true => exact ⟨h1, rfl⟩
    | false => rw [h2] at h; simp at h
  · rw [if_neg h1] at h; simp at h
theorem bothE_zero {g : Nat} {L M : List Nat} (h : bothE g L M = 0) : litE g L = 0 ∧ (M.length = 0 ∨ litE g M = 0) := by
  unfold bothE at h
  by_cases h1 : litE g L ≠ 0 ∨ M.length = 0
  · rw [if_pos h1] at h
    exact ⟨h, h1.elim (fun x => absurd h x) .inl⟩
  · rw [if_neg h1] at h
    exact ⟨by simpa using fun x => h1 (.inl x), .inr h⟩
theorem bothE_len {g : Nat} {L M : List Nat} (h : bothE g L M = 0) : L.length = g ∧ M.length ≤ L.length := by
  obtain ⟨h1, h2⟩ := bothE_zero h
  have h3 := (litE_zero h1).1
  rcases h2 with h2 | h2
  · exact ⟨h3, by omega⟩
  · exact ⟨h3, by have := (litE_zero h2).1; omega⟩
theorem difB_yes {L M : List Nat} {i : Nat} (hi : i < M.length) (h : at10 L i ≠ at10 M i) : difB L M = true := by
  unfold difB
  rw [allB_no hi (by simpa using h)]
  rfl
theorem difB_no {L M : List Nat} (h : ∀ i, i < M.length → at10 L i = at10 M i) : difB L M = false := by
  unfold difB
  rw [allB_iff.2 (fun i hi => by simpa using h i hi)]
  rfl
theorem difB_same (L : List Nat) : difB L L = false := difB_no (fun _ _ => rfl)

/-! ### What the calls answer -/
def wrongE (S : St) (L M : List Nat) : Int := if siteB S then bothE S.groups.length L M else 50
def wrongV (S : St) (L M : List Nat) : Bool := decide (wrongE S L M = 0) && difB L M
def countE (S : St) (n : Int) : Int := if siteB S then (if 0 ≤ n ∧ n ≤ 1048576 then 0 else 2) else 50
def nextE (S : St) (n : Int) (L M : List Nat) : Int := if countE S n = 0 then bothE S.groups.length L M else countE S n
def nextV (S : St) (n : Int) (L M : List Nat) : Int := if nextE S n L M = 0 ∧ difB L M = true then (if n + 1 ≤ 1048576 then n + 1 else 1048576) else 0
def latV (S : St) (n : Int) : Bool := decide (countE S n = 0) && decide (S.feed ≤ n)

end Go.Proofs.YtlpphapbehajnaaDoor
