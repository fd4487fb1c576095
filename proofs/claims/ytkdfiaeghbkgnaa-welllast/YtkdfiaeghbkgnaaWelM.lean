/-
  A LINK'S LAST TICKS, in numbers: a word of 64 bits that is pushed on by each tick; how many of the last ones are set.
-/
import Derived.Test.YtkdfiaeghbkgnaaSetM
namespace Go.Proofs.Ytkdfiaeghbkgnaa
set_option linter.unusedVariables false
set_option linter.unusedSimpArgs false

/-- A tick later. -/
def nxW (b : Nat) (g : Bool) : Nat := 2 * b % 18446744073709551616 + (if g = true then 1 else 0)
def behW (b : Nat) (l : List Bool) : Nat := l.foldl nxW b
theorem nxW_lt (b : Nat) (g : Bool) : nxW b g < 18446744073709551616 := by
  unfold nxW
  split <;> omega
theorem nxW_zero (b : Nat) (g : Bool) : (nxW b g).testBit 0 = g := by
  unfold nxW
  rw [Nat.testBit_zero]
  cases g <;> simp <;> omega
theorem nxW_succ (b : Nat) (g : Bool) (i : Nat) : (nxW b g).testBit (i + 1) = (decide (i + 1 < 64) && b.testBit i) := by
  have h1 : nxW b g / 2 = b % 9223372036854775808 := by
    unfold nxW
    split <;> omega
  rw [Nat.testBit_succ, h1, show (9223372036854775808 : Nat) = 2 ^ 63 by rfl, Nat.testBit_mod_two_pow]
  congr 1
  exact decide_eq_decide.2 (by omega)
theorem behW_lt {b : Nat} (hb : b < 18446744073709551616) : ∀ l, behW b l < 18446744073709551616 := fun l => by
  induction l generalizing b with
  | nil => exact hb
  | cons g l ih => exact ih (nxW_lt b g)
theorem behW_snoc (b : Nat) (l : List Bool) (g : Bool) : behW b (l ++ [g]) = nxW (behW b l) g := by unfold behW; rw [List.foldl_append]; rfl
/-- The bit of i ticks ago. -/
def agoW (b : Nat) (l : List Bool) (i : Nat) : Bool := if i < l.length then l.getD (l.length - 1 - i) false else b.testBit (i - l.length)
theorem behW_bit {b : Nat} (hb : b < 18446744073709551616) : ∀ (n : Nat) (l : List Bool), l.length = n → ∀ i, i < 64 → (behW b l).testBit i = agoW b l i
  | 0, l, hl, i, hi => by
    have : l = [] := List.length_eq_zero_iff.1 hl
    subst this
    unfold agoW
    rw [if_neg (by simp)]
    rfl
  | n + 1, l, hl, i, hi => by
    obtain ⟨m, g, rfl⟩ : ∃ m g, l = m ++ [g] := by
      have hne : l ≠ [] := fun e => by rw [e] at hl; simp at hl
      exact ⟨l.dropLast, l.getLast hne, (List.dropLast_concat_getLast hne).symm⟩
    have hm : m.length = n := by simpa using hl
    rw [behW_snoc]
    cases i with
    | zero =>
      rw [nxW_zero]
      unfold agoW
      rw [if_pos (by simp)]
      simp
    | succ i =>
      rw [nxW_succ, decide_eq_true hi, Bool.true_and, behW_bit hb n m hm i (by omega)]
      unfold agoW
      simp only [List.length_append, List.length_singleton]
      by_cases q : i < m.length
      · rw [if_pos q, if_pos (by omega)]
        have e : m.length + 1 - 1 - (i + 1) = m.length - 1 - i := by omega
        rw [e]
        simp only [List.getD_eq_getElem?_getD]
        rw [List.getElem?_append_left (by omega)]
      · rw [if_neg q, if_neg (by omega), show i + 1 - (m.length + 1) = i - m.length by omega]
/-- Behind 64 ticks nothing of before counts. -/
theorem behW_far {b c : Nat} (hb : b < 18446744073709551616) (hc : c < 18446744073709551616) {l : List Bool} (hl : 64 ≤ l.length) : behW b l = behW c l := by
  refine Nat.eq_of_testBit_eq fun i => ?_
  by_cases h : i < 64
  · rw [behW_bit hb _ l rfl i h, behW_bit hc _ l rfl i h]
    unfold agoW
    rw [if_pos (by omega), if_pos (by omega)]
  · have e : ∀ x, x < 18446744073709551616 → (behW x l).testBit i = false := fun x hx => Nat.testBit_lt_two_pow (Nat.lt_of_lt_of_le (behW_lt hx l) (show 18446744073709551616 ≤ 2 ^ i from Nat.pow_le_pow_right (n := 2) (by omega) (show 64 ≤ i by omega)))
    rw [e b hb, e c hc]
/-- What came never makes it less. -/
theorem cnt_more (b : Nat) (k : Nat) (hk : k ≤ 64) : cnt (nxW b false) k ≤ cnt (nxW b true) k := by
  have key : ∀ j, (nxW b false).testBit j = true → (nxW b true).testBit j = true := fun j h => by
    cases j with
    | zero => rw [nxW_zero] at h; cases h
    | succ j => rw [nxW_succ] at h ⊢; exact h
  induction k with
  | zero => exact Nat.le_refl _
  | succ k ih =>
    have := ih (by omega)
    rw [cnt_succ, cnt_succ]
    have h2 := key k
    cases e : (nxW b false).testBit k
    · cases (nxW b true).testBit k <;> simp <;> omega
    · rw [h2 e]; omega

end Go.Proofs.Ytkdfiaeghbkgnaa
