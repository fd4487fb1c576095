/-
  WRITES THAT ARE BROKEN OFF, in numbers: bytes whose first n are new, the others old; where they could hold at all, they are the old ones or the new ones. And the new Gen.
-/
import Derived.Test.YtlabjamkaebnjaaMathsJ
namespace Go.Proofs.Ytlabjamkaebnjaa
open Go.RowKit Go.Lib Go.Deep
set_option linter.unusedVariables false
set_option linter.unusedSimpArgs false

/-- A byte of a list. -/
def byt (L : List Nat) (i : Nat) : Nat := L.getD i 0
/-- The first n bytes of N, and then L's. -/
def tornL (N L : List Nat) (n : Nat) : List Nat := N.take n ++ L.drop n
theorem torn_len {N L : List Nat} {n m : Nat} (hN : N.length = m) (hL : L.length = m) (hn : n ≤ m) : (tornL N L n).length = m := by
  unfold tornL
  rw [List.length_append, List.length_take, List.length_drop]
  omega
theorem torn_byt {N L : List Nat} {n m i : Nat} (hN : N.length = m) (hL : L.length = m) (hn : n ≤ m) : byt (tornL N L n) i = if i < n then byt N i else byt L i := by
  unfold byt tornL
  simp only [List.getD_eq_getElem?_getD]
  by_cases h : i < n
  · rw [if_pos h, List.getElem?_append_left (by rw [List.length_take]; omega), List.getElem?_take_of_lt h]
  · rw [if_neg h, List.getElem?_append_right (by rw [List.length_take]; omega), List.getElem?_drop, List.length_take, show n + (i - min n N.length) = i by omega]
theorem byt_ext {A B : List Nat} (hl : A.length = B.length) (h : ∀ i, i < A.length → byt A i = byt B i) : A = B := by
  refine List.ext_getElem hl (fun i a b => ?_)
  have := h i a
  simpa [byt, a, b] using this
/-- Blocks of 64 bytes that all begin, and end, with the same eight bytes. -/
def Ends (L : List Nat) (many : Nat) (P : Nat → Nat) : Prop := ∀ i, i < many → ∀ b, b < 8 → byt L (64 * i + b) = P b ∧ byt L (64 * i + 56 + b) = P b
/-- Broken off anywhere: the old bytes, or the new ones, and these only in the last block. -/
theorem torn_holds {N L : List Nat} {many n : Nat} {P Q : Nat → Nat} (hm : 1 ≤ many) (hN : N.length = 64 * many) (hL : L.length = 64 * many) (hn : n ≤ 64 * many) (hNe : Ends N many Q) (hTe : Ends (tornL N L n) many P) (c1 : ∀ i, i < many → ∃ b, b < 8 ∧ byt L (64 * i + b) ≠ Q b) (c2 : ∀ i, i < many → byt L (64 * i + 56) ≠ Q 0) : n = 0 ∨ (tornL N L n = N ∧ 64 * (many - 1) < n) := by
  by_cases h0 : n = 0
  · exact .inl h0
  right
  have tb : ∀ i, byt (tornL N L n) i = if i < n then byt N i else byt L i := fun i => torn_byt hN hL hn
  -- the first byte is new
  have hP0 : P 0 = Q 0 := by
    have h1 := (hTe 0 (by omega) 0 (by omega)).1
    rw [tb, if_pos (by omega)] at h1
    rw [← h1]
    exact (hNe 0 (by omega) 0 (by omega)).1
  -- no block's end is wholly old
  have hend : ∀ i, i < many → 64 * i + 56 < n := fun i hi => by
    by_cases e : 64 * i + 56 < n
    · exact e
    · have h1 := (hTe i hi 0 (by omega)).2
      rw [Nat.add_zero, tb, if_neg e] at h1
      exact absurd (h1.trans hP0) (c2 i hi)
  have hlast := hend (many - 1) (by omega)
  have hPQ : ∀ b, b < 8 → P b = Q b := fun b hb => by
    have h1 := (hTe 0 (by omega) b hb).1
    rw [tb, if_pos (by have := hend 0 (by omega); omega)] at h1
    rw [← h1]
    exact (hNe 0 (by omega) b hb).1
  refine ⟨byt_ext ((torn_len hN hL hn).trans hN.symm) (fun i hi => ?_), by omega⟩
  rw [torn_len hN hL hn] at hi
  by_cases e : i < n
  · rw [tb, if_pos e]
  · obtain ⟨b, hb, hib⟩ : ∃ b, b < 8 ∧ i = 64 * (many - 1) + 56 + b := ⟨i - (64 * (many - 1) + 56), by omega, by omega⟩
    rw [hib, (hTe (many - 1) (by omega) b hb).2, (hNe (many - 1) (by omega) b hb).2, hPQ b hb]

/-! ### The new Gen -/
/-- The least number above m that none of these has, modulo 256; as many tries as are asked. -/
def genF (R : List Nat) : Nat → Nat → Nat
  | 0, g => g
  | f + 1, g => if R.all (fun y => !(y % 256 == g % 256)) = true then g else genF R f (g + 1)
def freeB (R : List Nat) (g : Nat) : Bool := R.all (fun y => !(y % 256 == g % 256))
theorem gen_is {R : List Nat} {j : Nat} : ∀ (f g : Nat), j < f → (∀ i, i < j → freeB R (g + i) = false) → freeB R (g + j) = true → genF R f g = g + j := by
  induction j with
  | zero =>
    intro f g hf _ h
    obtain ⟨f, rfl⟩ : ∃ k, f = k + 1 := ⟨f - 1, by omega⟩
    show (if freeB R g = true then g else _) = g + 0
    rw [if_pos (by simpa using h)]
    rfl
  | succ j ih =>
    intro f g hf h0 h1
    obtain ⟨f, rfl⟩ : ∃ k, f = k + 1 := ⟨f - 1, by omega⟩
    show (if freeB R g = true then g else genF R f (g + 1)) = g + (j + 1)
    have e := h0 0 (by omega)
    rw [Nat.add_zero] at e
    rw [if_neg (by rw [e]; decide), ih f (g + 1) (by omega) (fun i hi => by have := h0 (i + 1) (by omega); rwa [show g + (i + 1) = g + 1 + i by omega] at this) (by rwa [show g + 1 + j = g + (j + 1) by omega])]
    omega
/-- Of more numbers in a row than there are of these (and not more than 256) one is free. -/
theorem free_ex : ∀ (R : List Nat) (g : Nat) (n : Nat), R.length < n → n ≤ 256 → ∃ j, j < n ∧ freeB R (g + j) = true := by
  intro R g n h1 h2
  by_cases hex : ∃ j, j < n ∧ freeB R (g + j) = true
  · exact hex
  exfalso
  -- each of the n numbers is met by one of R: a list without doubles, as long as n, within R's remainders
  have hall : ∀ j, j < n → (g + j) % 256 ∈ R.map (· % 256) := fun j hj => by
    cases e : freeB R (g + j) with
    | true => exact absurd ⟨j, hj, e⟩ hex
    | false =>
      unfold freeB at e
      rw [List.all_eq_false] at e
      obtain ⟨y, hy, hq⟩ := e
      refine List.mem_map.2 ⟨y, hy, ?_⟩
      simpa using hq
  have hnd : ((List.range n).map (fun j => (g + j) % 256)).Nodup := by
    rw [List.nodup_iff_pairwise_ne, List.pairwise_map]
    exact (List.pairwise_lt_range (n := n)).imp_of_mem (fun {a b} ha hb hlt => by
      have ha := List.mem_range.1 ha
      have hb := List.mem_range.1 hb
      omega)
  have hsub : ((List.range n).map (fun j => (g + j) % 256)) ⊆ R.map (· % 256) := fun x hx => by
    obtain ⟨j, hj, rfl⟩ := List.mem_map.1 hx
    exact hall j (List.mem_range.1 hj)
  have hlen := hnd.length_le_of_subset hsub
  rw [List.length_map, List.length_map, List.length_range] at hlen
  omega

end Go.Proofs.Ytlabjamkaebnjaa
