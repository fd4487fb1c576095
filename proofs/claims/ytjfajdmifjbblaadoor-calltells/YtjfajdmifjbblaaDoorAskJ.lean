/-
  Texts joined: some of those that the proofs of this seat stand on.
-/
import Derived.Test.YtjfajdmifjbblaaDoorCheck
/-
  THE CONTRACTS of what a site is asked: Apart, Between, Worst, Clear, Plan.
-/
namespace Go.Proofs.YtjfajdmifjbblaaDoor
open Go.RowKit Go.Lib Go.Deep
set_option linter.unusedVariables false
set_option linter.unusedSimpArgs false

theorem all_of {S : St} (h : siteB S = true) : ∀ j, j < 10 → ∀ i, i < manyN S (ofN j) → condB S j i = true := fun j hj => by
  rw [siteB_eq] at h
  exact allB_iff.1 (allB_iff.1 h j hj)
theorem span_may {S : St} (h : siteB S = true) : Span S := span_of (fun j hj => all_of h j (by omega))
theorem checkE_yes {S : St} (h : siteB S = true) : checkE S = 0 := by unfold checkE; rw [if_pos h]
theorem checkE_no {S : St} (h : siteB S = false) : checkE S = 50 := by unfold checkE; rw [if_neg (by rw [h]; decide)]
def pairE (S : St) (a b : Int) (n : Nat) : Int := if siteB S = true then (if (inB a 0 ((n : Int) - 1) && inB b 0 ((n : Int) - 1)) = true then 0 else 2) else 50
theorem pairE_yes {S : St} (hs : siteB S = true) {a b n : Nat} (ha : a < n) (hb : b < n) : pairE S a b n = 0 := by
  unfold pairE
  rw [if_pos hs, if_pos]
  rw [Bool.and_eq_true, inB_iff, inB_iff]
  omega
theorem pairE_no {S : St} {a b : Int} {n : Nat} (hE : pairE S a b n = 0) : siteB S = true ∧ (∃ a' : Nat, a = a' ∧ a' < n) ∧ (∃ b' : Nat, b = b' ∧ b' < n) := by
  unfold pairE at hE
  split at hE
  · rename_i hs
    split at hE
    · rename_i hp
      rw [Bool.and_eq_true, inB_iff, inB_iff] at hp
      exact ⟨hs, ⟨a.toNat, by omega, by omega⟩, ⟨b.toNat, by omega, by omega⟩⟩
    · cases hE
  · cases hE
end Go.Proofs.YtjfajdmifjbblaaDoor

/-
  THE CONTRACTS of Worst and Plan.
-/
namespace Go.Proofs.YtjfajdmifjbblaaDoor
open Go.RowKit Go.Lib Go.Deep
set_option linter.unusedVariables false
set_option linter.unusedSimpArgs false

/-- The greatest of a list that has some. -/
def topL : List Int → Int
  | [] => 0
  | x :: l => l.foldl max x
theorem fold_max (l : List Int) : ∀ x, l.foldl max x = max x (l.foldl max x) ∧ (l.foldl max x = x ∨ l.foldl max x ∈ l) ∧ ∀ y ∈ l, y ≤ l.foldl max x := by
  induction l with
  | nil => intro x; simp
  | cons y l ih =>
    intro x
    obtain ⟨h1, h2, h3⟩ := ih (max x y)
    rw [List.foldl_cons]
    refine ⟨by omega, ?_, fun z hz => ?_⟩
    · rcases h2 with h2 | h2
      · rw [h2]
        rcases (show max x y = x ∨ max x y = y by omega) with e | e
        · exact .inl e
        · rw [e]; exact .inr (List.mem_cons_self ..)
      · exact .inr (List.mem_cons_of_mem _ h2)
    · rcases List.mem_cons.1 hz with rfl | hz
      · omega
      · exact h3 z hz
theorem topL_mem {l : List Int} (h : l ≠ []) : topL l ∈ l ∧ ∀ y ∈ l, y ≤ topL l := by
  cases l with
  | nil => exact absurd rfl h
  | cons x l =>
    obtain ⟨h1, h2, h3⟩ := fold_max l x
    show l.foldl max x ∈ x :: l ∧ _
    refine ⟨?_, fun y hy => ?_⟩
    · rcases h2 with h2 | h2
      · rw [h2]; exact List.mem_cons_self ..
      · exact List.mem_cons_of_mem _ h2
    · show y ≤ l.foldl max x
      rcases List.mem_cons.1 hy with rfl | hy
      · omega
      · exact h3 y hy
theorem fold_take {l : List Int} {x : Int} {k : Nat} (h : k < l.length) : (l.take (k + 1)).foldl max x = max ((l.take k).foldl max x) (l.getD k 0) := by
  rw [List.take_succ_eq_append_getElem h, List.foldl_append]
  simp [h]

def worstM (S : St) : Int := mostL S.between.flatten
theorem worst_fold {S : St} (h : ∀ l ∈ S.between, l ≠ []) : mostL (S.between.map topL) = worstM S := by
  have h1 := mostL_is (S.between.map topL)
  have h2 := mostL_is S.between.flatten
  have a1 : mostL (S.between.map topL) ≤ worstM S := h1.le h2.1 (fun x hx => by
    simp only [List.mem_map] at hx
    obtain ⟨l, hl, rfl⟩ := hx
    exact h2.2.2 _ (List.mem_flatten.2 ⟨l, hl, (topL_mem (h l hl)).1⟩))
  have a2 : worstM S ≤ mostL (S.between.map topL) := h2.le h1.1 (fun x hx => by
    obtain ⟨l, hl, hx⟩ := List.mem_flatten.1 hx
    have h3 := (topL_mem (h l hl)).2 x hx
    have h4 := h1.2.2 (topL l) (List.mem_map.2 ⟨l, hl, rfl⟩)
    omega)
  omega
end Go.Proofs.YtjfajdmifjbblaaDoor

