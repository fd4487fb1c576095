/-
  THE CONTRACTS of what a site is asked: Apart, Between, Worst, Clear, Plan.
-/
import Derived.Test.YtlpphapbehajnaaDoorCheck
namespace Go.Proofs.YtlpphapbehajnaaDoor
open Go.RowKit Go.Lib Go.Deep
set_option linter.unusedVariables false
set_option linter.unusedSimpArgs false

theorem all_of {S : St} (h : siteB S = true) : ∀ j, j < 10 → ∀ i, i < manyN S (ofN j) → condB S j i = true := fun j hj => by
  rw [siteB_eq] at h
  exact allB_iff.1 (allB_iff.1 h j hj)
theorem span_may {S : St} (h : siteB S = true) : Span S := span_of (fun j hj => all_of h j (by omega))
theorem checkE_yes {S : St} (h : siteB S = true) : checkE S = 0 := by unfold checkE; rw [if_pos h]
theorem checkE_no {S : St} (h : siteB S = false) : checkE S = 50 := by unfold checkE; rw [if_neg (by rw [h]; decide)]
def pairE (S : St) (a b : Int) (n : Nat) : Int := if siteB S = true then (if (inB a 0 ((n : Int) - 1) && inB b 0 ((n : Int) - 1)) = true then 0 else 2) else 50
theorem pairE_yes {S : St} (hs : siteB S = true) {a b n : Nat} (ha : a < n) (hb : b < n) : pairE S a b n = 0 := by
  unfold pairE
  rw [if_pos hs, if_pos]
  rw [Bool.and_eq_true, inB_iff, inB_iff]
  omega
theorem pairE_no {S : St} {a b : Int} {n : Nat} (hE : pairE S a b n = 0) : siteB S = true ∧ (∃ a' : Nat, a = a' ∧ a' < n) ∧ (∃ b' : Nat, b = b' ∧ b' < n) := by
  unfold pairE at hE
  split at hE
  · rename_i hs
    split at hE
    · rename_i hp
      rw [Bool.and_eq_true, inB_iff, inB_iff] at hp
      exact ⟨hs, ⟨a.toNat, by omega, by omega⟩, ⟨b.toNat, by omega, by omega⟩⟩
    · cases hE
  · cases hE
end Go.Proofs.YtlpphapbehajnaaDoor
