/-
  THE NUMBERS OF A SET, rising.
-/
import Derived.Test.YtfhmfanmnhclfaaDoorStM
import Derived.Test.YtfhmfanmnhclfaaDoorSets
namespace Go.Proofs.YtfhmfanmnhclfaaDoor
set_option linter.unusedVariables false
set_option linter.unusedSimpArgs false

def memb (S : Nat) : List Nat := (List.range 32).filter (fun i => S.testBit i)
theorem mem_memb {S i : Nat} : i ∈ memb S ↔ i < 32 ∧ S.testBit i = true := by unfold memb; simp
theorem memb_zero : memb 0 = [] := by
  unfold memb
  rw [List.filter_eq_nil_iff]
  simp
/-- Which of the numbers from a on are in a set, and which are without its least one. -/
theorem memb_low {S : Nat} (h0 : 0 < S) (hS : S < 4294967296) : memb S = lowN 32 S :: memb (withoutV S (lowN 32 S : Nat)) := by
  obtain ⟨h1, h2, h3⟩ := lowN_spec 32 S h0 (by simpa using hS)
  generalize hq : lowN 32 S = q at *
  have hw : ∀ j, (withoutV S (q : Nat)).testBit j = (S.testBit j && !decide (q = j)) := fun j => by
    rw [without_in h1]; exact without_bit S q j hS h1
  unfold memb
  have key : ∀ m, m ≤ 32 → (List.range m).filter (fun i => S.testBit i) = if q < m then q :: (List.range m).filter (fun i => (withoutV S (q : Nat)).testBit i) else [] := by
    intro m
    induction m with
    | zero => intro _; simp
    | succ m ih =>
      intro hm
      rw [List.range_succ, List.filter_append, List.filter_append, ih (by omega)]
      by_cases c1 : q < m
      · rw [if_pos c1, if_pos (by omega)]
        have : (withoutV S (q : Nat)).testBit m = S.testBit m := by rw [hw]; simp; omega
        simp [List.filter_cons, this]
      · rw [if_neg c1]
        by_cases c2 : q = m
        · subst c2
          rw [if_pos (by omega)]
          have hnone : (List.range q).filter (fun i => (withoutV S (q : Nat)).testBit i) = [] := by
            rw [List.filter_eq_nil_iff]
            intro x hx
            have hx' : x < q := by simpa using hx
            rw [hw, h3 x hx']
            simp
          rw [hnone]
          have : (withoutV S (q : Nat)).testBit q = false := by rw [hw]; simp
          simp [List.filter_cons, h2, this]
        · rw [if_neg (by omega)]
          simp [List.filter_cons, h3 m (by omega)]
  rw [key 32 (Nat.le_refl _), if_pos h1]

end Go.Proofs.YtfhmfanmnhclfaaDoor
