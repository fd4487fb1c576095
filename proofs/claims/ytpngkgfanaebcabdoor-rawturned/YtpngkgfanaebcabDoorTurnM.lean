/-
  UP TO FOUR BYTES SIDE BY SIDE, TURNED: the sum is the same one just where none is another one.
-/
import Derived.Test.YtpngkgfanaebcabDoorCrc
namespace Go.Proofs.YtpngkgfanaebcabDoor
set_option linter.unusedVariables false
set_option linter.unusedSimpArgs false

theorem getD_lt {L : List Nat} {j : Nat} (h : j < L.length) : L.getD j 0 = L[j] := by simp [h]
theorem take_same (L M : List Nat) (p : Nat) (hl : M.length = L.length) (h : ∀ j, j < p → M.getD j 0 = L.getD j 0) : M.take p = L.take p := by
  apply List.ext_getElem
  · simp [hl]
  · intro j h1 h2
    simp at h1 h2
    have := h j (by omega)
    rw [getD_lt (by omega), getD_lt (by omega)] at this
    simpa using this
theorem drop_same (L M : List Nat) (q : Nat) (hl : M.length = L.length) (h : ∀ j, q ≤ j → M.getD j 0 = L.getD j 0) : M.drop q = L.drop q := by
  apply List.ext_getElem
  · simp [hl]
  · intro j h1 h2
    simp at h1 h2
    have := h (q + j) (by omega)
    rw [getD_lt (by omega), getD_lt (by omega)] at this
    simpa using this
theorem three (L : List Nat) (p K : Nat) : L.take p ++ (L.drop p).take K ++ L.drop (p + K) = L := by
  rw [List.append_assoc, ← List.drop_drop, List.take_append_drop, List.take_append_drop]
theorem xor_same {a x : Nat} (h : a ^^^ x = a) : x = 0 := by
  have : a ^^^ (a ^^^ x) = a ^^^ a := by rw [h]
  rwa [← Nat.xor_assoc, Nat.xor_self, Nat.zero_xor] at this

theorem turned_sum (L M : List Nat) (p K : Nat) (x : Nat → Nat) (hl : M.length = L.length) (hK : K ≤ 4) (hpK : p + K ≤ L.length) (hL : ∀ y ∈ L, y < 256) (hM : ∀ y ∈ M, y < 256)
    (hc : ∀ j, j < L.length → M.getD j 0 = if p ≤ j ∧ j < p + K then L.getD j 0 ^^^ x (j - p) else L.getD j 0) : sumB L = sumB M ↔ ∀ t, t < K → x t = 0 := by
  have hc' : ∀ j, ¬ (p ≤ j ∧ j < p + K) → M.getD j 0 = L.getD j 0 := by
    intro j hj
    by_cases hjl : j < L.length
    · rw [hc j hjl, if_neg hj]
    · simp [show L.length ≤ j by omega, show M.length ≤ j by omega]
  have h1 := take_same L M p hl (fun j hj => hc' j (by omega))
  have h2 := drop_same L M (p + K) hl (fun j hj => hc' j (by omega))
  constructor
  · intro e t ht
    have e2 := sumB_inj e
    have e3 : crc (L.take p ++ (L.drop p).take K ++ L.drop (p + K)) = crc (L.take p ++ (M.drop p).take K ++ L.drop (p + K)) := by
      rw [three L p K]
      have := three M p K
      rw [h1, h2] at this
      rw [this]
      exact e2
    have e4 := crc_turned (L.take p) _ _ (L.drop (p + K)) (by simp [hl]) (by simp; omega) (fun y hy => hL y (List.mem_of_mem_take hy)) (fun y hy => hL y (List.mem_of_mem_drop (List.mem_of_mem_take hy))) (fun y hy => hM y (List.mem_of_mem_drop (List.mem_of_mem_take hy))) (fun y hy => hL y (List.mem_of_mem_drop hy)) e3
    have e5 : ((L.drop p).take K)[t]? = ((M.drop p).take K)[t]? := by rw [e4]
    rw [List.getElem?_take_of_lt ht, List.getElem?_take_of_lt ht, List.getElem?_drop, List.getElem?_drop] at e5
    have e6 := hc (p + t) (by omega)
    rw [if_pos (by omega), Nat.add_sub_cancel_left] at e6
    simp only [List.getD_eq_getElem?_getD] at e6
    rw [← e5] at e6
    exact xor_same e6.symm
  · intro h
    have : M = L := by
      have a := take_same L M L.length hl (fun j hj => by
        rw [hc j hj]
        split
        · rw [h (j - p) (by omega), Nat.xor_zero]
        · rfl)
      rwa [List.take_length, ← hl, List.take_length] at a
    rw [this]

/-- Whether one of the first bytes is another one. -/
def tb (x : Nat → Nat) : Nat → Bool
  | 0 => false
  | i + 1 => tb x i || decide (x i ≠ 0)
theorem tb_false (x : Nat → Nat) : ∀ K, tb x K = false ↔ ∀ t, t < K → x t = 0
  | 0 => by simp [tb]
  | K + 1 => by
    rw [tb, Bool.or_eq_false_iff, tb_false x K]
    constructor
    · rintro ⟨h1, h2⟩ t ht
      by_cases e : t = K
      · subst e; simpa using h2
      · exact h1 t (by omega)
    · intro h
      exact ⟨fun t ht => h t (by omega), by simp [h K (by omega)]⟩
theorem turned_tb (L M : List Nat) (p K : Nat) (x : Nat → Nat) (hl : M.length = L.length) (hK : K ≤ 4) (hpK : p + K ≤ L.length) (hL : ∀ y ∈ L, y < 256) (hM : ∀ y ∈ M, y < 256)
    (hc : ∀ j, j < L.length → M.getD j 0 = if p ≤ j ∧ j < p + K then L.getD j 0 ^^^ x (j - p) else L.getD j 0) : ((((sumB L : Nat) : Int) == ((sumB M : Nat) : Int)) == !(tb x K)) = true := by
  have h := turned_sum L M p K x hl hK hpK hL hM hc
  rw [← tb_false] at h
  cases ht : tb x K with
  | false =>
    have := h.2 ht
    simp [this]
  | true =>
    have : sumB L ≠ sumB M := fun e => by have := h.1 e; rw [ht] at this; cases this
    simp; omega
end Go.Proofs.YtpngkgfanaebcabDoor
