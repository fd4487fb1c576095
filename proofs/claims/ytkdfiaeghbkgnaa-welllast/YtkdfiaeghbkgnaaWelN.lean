/-
  SHARES OF LAST TICKS, in numbers: bits counted by clearing the lowest one, or one by one; whether a link is poor.
-/
import Derived.Test.YtkdfiaeghbkgnaaWelM
import Derived.Test.YtkdfiaeghbkgnaaGapU
namespace Go.Proofs.Ytkdfiaeghbkgnaa
open Go.RowKit Go.Lib Go.Deep
set_option linter.unusedVariables false
set_option linter.unusedSimpArgs false

/-- The lowest bit cleared: one less is set. -/
theorem cnt_ker : ∀ (n x : Nat), 0 < x → x < 2 ^ n → cnt (x &&& (x - 1)) n + 1 = cnt x n
  | 0, x, h0, h1 => by simp at h1; omega
  | n + 1, x, h0, h1 => by
    rw [Nat.pow_succ] at h1
    rw [cnt_half, cnt_half x n]
    rcases Nat.mod_two_eq_zero_or_one x with h | h
    · have e1 : (x - 1) / 2 = x / 2 - 1 := by omega
      have ih := cnt_ker n (x / 2) (by omega) (by omega)
      have e2 : x &&& (x - 1) = 2 * (x / 2 &&& (x / 2 - 1)) := by rw [and_two x (x - 1), e1, h]; omega
      rw [e2, show 2 * (x / 2 &&& (x / 2 - 1)) % 2 = 0 by omega, show 2 * (x / 2 &&& (x / 2 - 1)) / 2 = (x / 2 &&& (x / 2 - 1)) by omega]
      omega
    · have e1 : (x - 1) / 2 = x / 2 := by omega
      have e2 : x &&& (x - 1) = 2 * (x / 2) := by rw [and_two x (x - 1), e1, Nat.and_self, h, show (x - 1) % 2 = 0 by omega]; omega
      rw [e2, show 2 * (x / 2) % 2 = 0 by omega, show 2 * (x / 2) / 2 = x / 2 by omega]
      omega
theorem ker_lt (x : Nat) : x &&& (x - 1) ≤ x := Nat.and_le_left
theorem cnt_none (n : Nat) : cnt 0 n = 0 := by
  have := cnt_flat 0 0 n (fun j _ _ => Nat.zero_testBit j)
  rw [Nat.zero_add] at this
  exact this
/-- The bits from the i-th on. -/
def lasI (z : Nat) (i : Nat) : Int := ((z / 2 ^ i : Nat) : Int)
theorem lasI_zero (z : Nat) : lasI z 0 = z := by unfold lasI; rw [Nat.pow_zero, Nat.div_one]
theorem lasI_succ (z : Nat) (i : Nat) : lasI z (i + 1) = lasI z i / 2 := by unfold lasI; rw [Nat.pow_succ, ← Nat.div_div_eq_div_mul]; omega
theorem lasI_bd {z : Nat} (h1 : z < 18446744073709551616) (i : Nat) : 0 ≤ lasI z i ∧ lasI z i < 18446744073709551616 := by
  unfold lasI
  have : z / 2 ^ i ≤ z := Nat.div_le_self _ _
  generalize z / 2 ^ i = k at *
  omega
theorem cntI_succ (z i : Nat) : ((cnt z (i + 1) : Nat) : Int) = (cnt z i : Nat) + lasI z i % 2 := by
  unfold lasI
  rw [cnt_split]
  have := cnt_half (z / 2 ^ i) 0
  have e3 : cnt (z / 2 ^ i / 2) 0 = 0 := rfl
  rw [e3] at this
  rw [this]
  omega
/-- What Share tells, its error, what Poor tells, its error. -/
def shQ (b : Nat) (m : Int) : Int := if 1 ≤ m ∧ m ≤ 64 then quo (cnt b m.toNat : Nat) m else 0
def shF (m : Int) : Int := if 1 ≤ m ∧ m ≤ 64 then 0 else 2
def poF (m h : Int) : Int := if 1 ≤ m ∧ m ≤ 64 then (if 0 ≤ h ∧ h ≤ 65536 then 0 else 2) else 2
def poQ (b : Nat) (m h : Int) : Bool := decide (1 ≤ m ∧ m ≤ 64) && (decide (0 ≤ h ∧ h ≤ 65536) && decide (shQ b m < h))
theorem shQ_nat (b m : Nat) (h1 : 1 ≤ m) (h2 : m ≤ 64) : shQ b (m : Int) = quo (cnt b m : Nat) (m : Int) := by
  unfold shQ
  rw [if_pos (by omega)]
  rfl
theorem shF_ok {m : Int} (h : 1 ≤ m ∧ m ≤ 64) : shF m = 0 := if_pos h
theorem shF_no {m : Int} (h : ¬ (1 ≤ m ∧ m ≤ 64)) : shF m = 2 := if_neg h
theorem shQ_no {b : Nat} {m : Int} (h : ¬ (1 ≤ m ∧ m ≤ 64)) : shQ b m = 0 := if_neg h
theorem poF_ok {m h : Int} (h1 : 1 ≤ m ∧ m ≤ 64) (h2 : 0 ≤ h ∧ h ≤ 65536) : poF m h = 0 := by unfold poF; rw [if_pos h1, if_pos h2]
theorem poF_no {m h : Int} (h1 : ¬ (1 ≤ m ∧ m ≤ 64)) : poF m h = 2 := if_neg h1
theorem poF_bad {m h : Int} (h2 : ¬ (0 ≤ h ∧ h ≤ 65536)) : poF m h = 2 := by unfold poF; rw [if_neg h2]; split <;> rfl
theorem poQ_no {b : Nat} {m h : Int} (h1 : ¬ (1 ≤ m ∧ m ≤ 64)) : poQ b m h = false := by unfold poQ; rw [decide_eq_false h1]; rfl
theorem poQ_bad {b : Nat} {m h : Int} (h2 : ¬ (0 ≤ h ∧ h ≤ 65536)) : poQ b m h = false := by unfold poQ; rw [decide_eq_false h2]; simp
theorem poQ_ok {b : Nat} {m h : Int} (h1 : 1 ≤ m ∧ m ≤ 64) (h2 : 0 ≤ h ∧ h ≤ 65536) : poQ b m h = decide (shQ b m < h) := by unfold poQ; rw [decide_eq_true h1, decide_eq_true h2]; rfl
theorem shQ_bd (b : Nat) (m : Int) : 0 ≤ shQ b m ∧ shQ b m ≤ 65536 := by
  unfold shQ
  split
  · rename_i h
    have := cnt_le b m.toNat
    obtain ⟨h1, h2, _⟩ := quo_facts (s := (cnt b m.toNat : Nat)) (m := m) (by omega) (by omega) h.1 h.2
    exact ⟨h1, h2⟩
  · decide
/-- More came: no less of a share. -/
theorem shQ_more (b : Nat) (m : Int) : shQ (nxW b false) m ≤ shQ (nxW b true) m := by
  unfold shQ
  split
  · rename_i h
    have := cnt_more b m.toNat (by omega)
    exact Int.ediv_le_ediv (by omega) (by omega)
  · decide
theorem poQ_none (b : Nat) (m : Int) : poQ b m 0 = false := by
  have := (shQ_bd b m).1
  unfold poQ
  rw [decide_eq_false (show ¬ shQ b m < 0 by omega)]
  simp
theorem poQ_more {b : Nat} {m l h : Int} (hm : 1 ≤ m ∧ m ≤ 64) (h0 : 0 ≤ l) (h1 : l ≤ h) (h2 : h ≤ 65536) : (!poQ b m l || poQ b m h) = true := by
  rw [poQ_ok hm (by omega), poQ_ok hm (by omega)]
  by_cases g : shQ b m < l
  · rw [decide_eq_true g, decide_eq_true (show shQ b m < h by omega)]; rfl
  · rw [decide_eq_false g]; rfl
/-- How many of the last i ticks. -/
def agN (b : Nat) (l : List Bool) : Nat → Nat
  | 0 => 0
  | i + 1 => agN b l i + (agoW b l i).toNat
theorem agN_succ (b : Nat) (l : List Bool) (i : Nat) : agN b l (i + 1) = agN b l i + (agoW b l i).toNat := rfl
theorem agN_le (b : Nat) (l : List Bool) : ∀ i, agN b l i ≤ i
  | 0 => Nat.le_refl _
  | i + 1 => by have := agN_le b l i; have := Bool.toNat_le (agoW b l i); rw [agN_succ]; omega
theorem agN_cnt {b : Nat} (hb : b < 18446744073709551616) (l : List Bool) : ∀ i, i ≤ 64 → cnt (behW b l) i = agN b l i
  | 0, _ => rfl
  | i + 1, h => by rw [cnt_succ, agN_succ, agN_cnt hb l i (by omega), behW_bit hb _ l rfl i (by omega)]
theorem ago_in {b : Nat} {l : List Bool} {i : Nat} (h : i < l.length) : agoW b l i = tr l (l.length - 1 - i) := if_pos h
theorem ago_out {b : Nat} {l : List Bool} {i : Nat} (h : ¬ i < l.length) : agoW b l i = decide (b / 2 ^ (i - l.length) % 2 = 1) := by
  unfold agoW
  rw [if_neg h, Nat.testBit_eq_decide_div_mod_eq]
theorem behW_take {b : Nat} {l : List Bool} {i : Nat} (h : i < l.length) : behW b (l.take (i + 1)) = nxW (behW b (l.take i)) (tr l i) := by
  rw [take_snoc h, behW_snoc]
theorem behW_all (b : Nat) (l : List Bool) : behW b (l.take l.length) = behW b l := by rw [List.take_length]

end Go.Proofs.Ytkdfiaeghbkgnaa
