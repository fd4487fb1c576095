/-
  Part 1 of the texts that the proofs of this seat stand on.
-/
import Derived.Test.YtoahbpdgbiachaaDoorRows
import Derived.Laws.BitsAllLaws
import Derived.Below
import Derived.WalkKit
import Derived.WalkSpells
import Derived.WalkSmall
import Derived.Deep.QuietTactic
import Derived.BigQuiet
import Derived.Deep.OwnRows
import Derived.Laws.Tables
import Derived.Laws.IdiomStrings
import Derived.OpenShut
import Derived.ProofKit
import Derived.Lib.LaidTab
import Derived.Deep.RegionWith
import Derived.RangeFuncNested
import Derived.RangeFuncBound
import Derived.RangeFuncCalls
import Derived.RangeFuncLeaves
import Derived.Shelf.Abstract
import Derived.Shelf.RegionOpen
import Derived.OwnWalkIn
import Derived.TacticsInMore
import Derived.LoopNIn
import Derived.LoopIn
import Derived.Deep.RegionHeld
/-
  THE MATHS OF THE STAGE: a number's bytes, its small bytes, the sum of bytes, as functions on natural numbers.
-/
namespace Go.Proofs.YtoahbpdgbiachaaDoor
set_option linter.unusedVariables false
set_option linter.unusedSimpArgs false

/-! ### Bytes of a width -/
/-- A number's bytes of a width. -/
def leb : Nat → Nat → List Nat
  | 0, _ => []
  | w + 1, n => n % 256 :: leb w (n / 256)
theorem leb_length : ∀ w n, (leb w n).length = w
  | 0, _ => rfl
  | w + 1, n => by simp [leb, leb_length w]
theorem leb_lt : ∀ w n x, x ∈ leb w n → x < 256
  | 0, _, x, h => by simp [leb] at h
  | w + 1, n, x, h => by
    simp [leb] at h
    rcases h with h | h
    · omega
    · exact leb_lt w _ x h
theorem leb_getD : ∀ w n i, i < w → (leb w n).getD i 0 = n / 256 ^ i % 256
  | 0, _, i, h => by omega
  | w + 1, n, 0, h => by simp [leb]
  | w + 1, n, i + 1, h => by
    have := leb_getD w (n / 256) i (by omega)
    simp only [leb, List.getD_cons_succ]
    rw [this, Nat.div_div_eq_div_mul, Nat.pow_succ, Nat.mul_comm]
/-- The number whose bytes these are. -/
def v256 : List Nat → Nat
  | [] => 0
  | x :: L => x + 256 * v256 L
theorem v256_leb : ∀ w n, v256 (leb w n) = n % 256 ^ w
  | 0, n => by simp [leb, v256, Nat.mod_one]
  | w + 1, n => by
    rw [leb, v256, v256_leb w, Nat.pow_succ, Nat.mul_comm (256 ^ w) 256, Nat.mod_mul]
theorem v256_lt : ∀ L : List Nat, (∀ x ∈ L, x < 256) → v256 L < 256 ^ L.length
  | [], _ => by simp [v256]
  | x :: L, h => by
    have h1 := v256_lt L (fun y hy => h y (List.mem_cons_of_mem _ hy))
    have h2 := h x (List.mem_cons_self ..)
    rw [v256, List.length_cons, Nat.pow_succ]
    omega
theorem v256_snoc : ∀ (L : List Nat) (x : Nat), v256 (L ++ [x]) = v256 L + 256 ^ L.length * x
  | [], x => by simp [v256]
  | y :: L, x => by
    have := v256_snoc L x
    simp only [List.cons_append, v256, List.length_cons, this, Nat.pow_succ, Nat.mul_add]
    rw [Nat.mul_comm (256 ^ L.length) 256, Nat.mul_assoc]
    omega
theorem v256_inj : ∀ (L M : List Nat), L.length = M.length → (∀ x ∈ L, x < 256) → (∀ x ∈ M, x < 256) → v256 L = v256 M → L = M
  | [], [], _, _, _, _ => rfl
  | [], y :: M, h, _, _, _ => by simp at h
  | x :: L, [], h, _, _, _ => by simp at h
  | x :: L, y :: M, h, h1, h2, e => by
    have a := h1 x (List.mem_cons_self ..)
    have b := h2 y (List.mem_cons_self ..)
    simp only [v256] at e
    have e1 : x = y := by omega
    have e2 : v256 L = v256 M := by omega
    rw [e1, v256_inj L M (by simpa using h) (fun z hz => h1 z (List.mem_cons_of_mem _ hz)) (fun z hz => h2 z (List.mem_cons_of_mem _ hz)) e2]
theorem takeN_snoc (L : List Nat) (k : Nat) (h : k < L.length) : L.take (k + 1) = L.take k ++ [L.getD k 0] := by
  rw [List.take_succ_eq_append_getElem h]; simp [h]
theorem v256_take (L : List Nat) (k : Nat) (h : k < L.length) : v256 (L.take (k + 1)) = v256 (L.take k) + 256 ^ k * L.getD k 0 := by
  rw [takeN_snoc L k h, v256_snoc, List.length_take, Nat.min_eq_left (by omega)]
theorem v256_take_lt (L : List Nat) (k : Nat) (h : k ≤ L.length) (hb : ∀ x ∈ L, x < 256) : v256 (L.take k) < 256 ^ k := by
  have := v256_lt (L.take k) (fun x hx => hb x (List.mem_of_mem_take hx))
  rwa [List.length_take, Nat.min_eq_left h] at this
/-- Put's answer. -/
def putB (n w : Nat) : Bool := decide (1 ≤ w) && decide (w ≤ 8) && decide (n / 256 ^ w = 0)

/-! ### Small bytes -/
/-- A number's small bytes, so many steps. -/
def smlF : Nat → Nat → List Nat
  | 0, n => [n]
  | f + 1, n => if n < 128 then [n] else (n % 128 + 128) :: smlF f (n / 128)
theorem smlF_eq : ∀ f g n, n ≤ f → n ≤ g → smlF f n = smlF g n
  | 0, 0, n, _, _ => rfl
  | 0, g + 1, n, h, _ => by rw [smlF, smlF, if_pos (by omega)]
  | f + 1, 0, n, _, h => by rw [smlF, smlF, if_pos (by omega)]
  | f + 1, g + 1, n, h, k => by
    rw [smlF, smlF]
    by_cases hn : n < 128
    · rw [if_pos hn, if_pos hn]
    · rw [if_neg hn, if_neg hn, smlF_eq f g (n / 128) (by omega) (by omega)]
/-- A number's small bytes. -/
def sml (n : Nat) : List Nat := smlF n n
theorem sml_lo {n : Nat} (h : n < 128) : sml n = [n] := by
  unfold sml
  cases n with
  | zero => rfl
  | succ m => rw [smlF, if_pos h]
theorem sml_hi {n : Nat} (h : 128 ≤ n) : sml n = (n % 128 + 128) :: sml (n / 128) := by
  unfold sml
  obtain ⟨m, rfl⟩ : ∃ m, n = m + 1 := ⟨n - 1, by omega⟩
  rw [smlF, if_neg (by omega), smlF_eq m ((m + 1) / 128) ((m + 1) / 128) (by omega) (by omega)]
theorem sml_pos (n : Nat) : 0 < (sml n).length := by
  by_cases h : n < 128
  · simp [sml_lo h]
  · simp [sml_hi (show 128 ≤ n by omega)]
theorem sml_lt (n : Nat) : ∀ x ∈ sml n, x < 256 := by
  induction n using Nat.strongRecOn with
  | ind n ih =>
    intro x hx
    by_cases h : n < 128
    · rw [sml_lo h] at hx; simp at hx; omega
    · rw [sml_hi (by omega)] at hx
      rcases List.mem_cons.1 hx with rfl | hx
      · omega
      · exact ih (n / 128) (by omega) x hx
theorem sml_len : ∀ (k n : Nat), n < 128 ^ (k + 1) → (sml n).length ≤ k + 1
  | 0, n, h => by rw [sml_lo (by simpa using h)]; simp
  | k + 1, n, h => by
    by_cases hn : n < 128
    · simp [sml_lo hn]
    · rw [sml_hi (by omega), List.length_cons]
      have := sml_len k (n / 128) (Nat.div_lt_of_lt_mul (by rw [Nat.pow_succ, Nat.mul_comm] at h; exact h))
      omega
theorem sml_len10 (n : Nat) (h : n < 18446744073709551616) : (sml n).length ≤ 10 := sml_len 9 n (Nat.lt_of_lt_of_le h (by decide))
/-- The number whose small bytes these are. -/
def v7 : List Nat → Nat
  | [] => 0
  | x :: L => x % 128 + 128 * v7 L
theorem v7_snoc : ∀ (L : List Nat) (x : Nat), v7 (L ++ [x]) = v7 L + 128 ^ L.length * (x % 128)
  | [], x => by simp [v7]
  | y :: L, x => by
    have := v7_snoc L x
    simp only [List.cons_append, v7, List.length_cons, this, Nat.pow_succ, Nat.mul_add]
    rw [Nat.mul_comm (128 ^ L.length) 128, Nat.mul_assoc]
    omega
theorem v7_lt : ∀ L : List Nat, v7 L < 128 ^ L.length
  | [] => by simp [v7]
  | x :: L => by
    have h1 := v7_lt L
    rw [v7, List.length_cons, Nat.pow_succ]
    omega
theorem v7_take (L : List Nat) (k : Nat) (h : k < L.length) : v7 (L.take (k + 1)) = v7 (L.take k) + 128 ^ k * (L.getD k 0 % 128) := by
  rw [takeN_snoc L k h, v7_snoc, List.length_take, Nat.min_eq_left (by omega)]
theorem v7_take_lt (L : List Nat) (k : Nat) (h : k ≤ L.length) : v7 (L.take k) < 128 ^ k := by
  have := v7_lt (L.take k)
  rwa [List.length_take, Nat.min_eq_left h] at this
theorem v7_sml (n : Nat) : v7 (sml n) = n := by
  induction n using Nat.strongRecOn with
  | ind n ih =>
    by_cases h : n < 128
    · simp [sml_lo h, v7]; omega
    · rw [sml_hi (by omega), v7, ih (n / 128) (by omega)]; omega

/-- The first byte below 128. -/
def fe : List Nat → Nat
  | [] => 0
  | x :: L => if x < 128 then 0 else fe L + 1
theorem fe_le : ∀ L, fe L ≤ L.length
  | [] => by simp [fe]
  | x :: L => by
    have := fe_le L
    rw [fe]; split
    · omega
    · simp; omega
theorem fe_ge : ∀ (L : List Nat) j, j < fe L → 128 ≤ L.getD j 0
  | [], j, h => by simp [fe] at h
  | x :: L, j, h => by
    rw [fe] at h
    split at h
    · omega
    · cases j with
      | zero => simp; omega
      | succ j => simpa using fe_ge L j (by omega)
theorem fe_at : ∀ (L : List Nat), fe L < L.length → L.getD (fe L) 0 < 128
  | [], h => by simp at h
  | x :: L, h => by
    rw [fe] at h ⊢
    split
    · simpa
    · rename_i hx
      rw [if_neg hx] at h
      simpa using fe_at L (by simpa using h)
theorem fe_low : ∀ (L : List Nat) k, (∀ j, j < k → 128 ≤ L.getD j 0) → k ≤ fe L
  | [], k, h => by
    cases k with
    | zero => exact Nat.zero_le _
    | succ k => have := h 0 (by omega); simp at this
  | x :: L, k, h => by
    cases k with
    | zero => exact Nat.zero_le _
    | succ k =>
      have h0 := h 0 (by omega)
      simp at h0
      rw [fe, if_neg (by omega)]
      have := fe_low L k (fun j hj => by have := h (j + 1) (by omega); simpa using this)
      omega
theorem fe_eq (L : List Nat) (k : Nat) (h : ∀ j, j < k → 128 ≤ L.getD j 0) (h2 : L.getD k 0 < 128) : fe L = k := by
  have h1 := fe_low L k h
  by_cases hk : fe L = k
  · exact hk
  · have := fe_ge L k (by omega)
    omega
/-- Whether bytes begin with a number's small bytes. -/
def okR (L : List Nat) : Bool := decide (fe L < L.length) && decide (fe L < 10) && (decide (0 < L.getD (fe L) 0) || decide (fe L = 0)) && (decide (L.getD (fe L) 0 < 2) || decide (fe L < 9))
def rdN (L : List Nat) : Nat := if okR L = true then v7 (L.take (fe L + 1)) else 0
def rdK (L : List Nat) : Nat := if okR L = true then fe L + 1 else 0
def rdE (L : List Nat) : Nat := if okR L = true then 0 else 8
theorem okR_iff (L : List Nat) : okR L = true ↔ fe L < L.length ∧ fe L < 10 ∧ (0 < L.getD (fe L) 0 ∨ fe L = 0) ∧ (L.getD (fe L) 0 < 2 ∨ fe L < 9) := by
  unfold okR; simp [and_assoc]
theorem rdN_lt (L : List Nat) : rdN L < 18446744073709551616 := by
  unfold rdN
  split
  · rename_i h
    obtain ⟨h1, h2, h3, h4⟩ := (okR_iff L).1 h
    have hl := fe_at L h1
    rw [v7_take L _ h1]
    have hb := v7_take_lt L (fe L) (by omega)
    generalize v7 (L.take (fe L)) = a at *
    generalize L.getD (fe L) 0 = x at *
    by_cases h9 : fe L < 9
    · have h5 : 128 ^ fe L ≤ 128 ^ 8 := Nat.pow_le_pow_right (by omega) (by omega)
      have h6 : 128 ^ fe L * (x % 128) ≤ 128 ^ 8 * 127 := Nat.mul_le_mul h5 (by omega)
      omega
    · have e9 : fe L = 9 := by omega
      rw [e9] at hb ⊢
      have hx : x % 128 ≤ 1 := by omega
      have h6 : 128 ^ 9 * (x % 128) ≤ 128 ^ 9 * 1 := Nat.mul_le_mul_left _ hx
      omega
  · omega
/-- Small bytes, then anything: what is read. -/
theorem fe_sml : ∀ (k n : Nat) (R : List Nat), n < 128 ^ (k + 1) → fe (sml n ++ R) = (sml n).length - 1
  | 0, n, R, h => by rw [sml_lo (by simpa using h)]; simp [fe]; simpa using h
  | k + 1, n, R, h => by
    by_cases hn : n < 128
    · rw [sml_lo hn]; simp [fe]; omega
    · have ih := fe_sml k (n / 128) R (Nat.div_lt_of_lt_mul (by rw [Nat.pow_succ, Nat.mul_comm] at h; exact h))
      have hp := sml_pos (n / 128)
      rw [sml_hi (by omega), List.cons_append, fe, if_neg (by omega), ih, List.length_cons]
      omega
theorem sml_last : ∀ (k n : Nat), n < 128 ^ (k + 1) → (sml n).getD ((sml n).length - 1) 0 < 128 ∧ (0 < (sml n).getD ((sml n).length - 1) 0 ∨ (sml n).length = 1) ∧ (∀ m, n < 128 ^ m * 2 → (sml n).length ≤ m ∨ (sml n).getD ((sml n).length - 1) 0 < 2)
  | 0, n, h => by
    have h : n < 128 := by simpa using h
    rw [sml_lo h]
    refine ⟨by simpa using h, by simp, fun m hm => ?_⟩
    cases m with
    | zero => right; simpa using hm
    | succ m => left; simp
  | k + 1, n, h => by
    by_cases hn : n < 128
    · rw [sml_lo hn]
      refine ⟨by simpa using hn, by simp, fun m hm => ?_⟩
      cases m with
      | zero => right; simpa using hm
      | succ m => left; simp
    · obtain ⟨i1, i2, i3⟩ := sml_last k (n / 128) (Nat.div_lt_of_lt_mul (by rw [Nat.pow_succ, Nat.mul_comm] at h; exact h))
      have hp := sml_pos (n / 128)
      rw [sml_hi (by omega), List.length_cons]
      obtain ⟨q, hq⟩ : ∃ q, (sml (n / 128)).length = q + 1 := ⟨(sml (n / 128)).length - 1, by omega⟩
      rw [hq] at i1 i2 i3 ⊢
      simp only [Nat.add_sub_cancel] at i1 i2 i3 ⊢
      rw [List.getD_cons_succ]
      refine ⟨i1, ?_, fun m hm => ?_⟩
      · rcases i2 with i2 | i2
        · exact .inl i2
        · left
          by_cases hz : n / 128 < 128
          · have e := sml_lo hz
            rw [e] at hq ⊢
            have : q = 0 := by simpa using hq.symm
            subst this
            simp
            omega
          · rw [sml_hi (show 128 ≤ n / 128 by omega), List.length_cons] at hq
            have := sml_pos (n / 128 / 128)
            omega
      · cases m with
        | zero => exfalso; simp at hm; omega
        | succ m =>
          rcases i3 m (by rw [Nat.pow_succ] at hm; exact Nat.div_lt_of_lt_mul (by rw [← Nat.mul_assoc, Nat.mul_comm 128]; exact hm)) with h | h
          · left; omega
          · right; exact h
theorem read_sml (n : Nat) (R : List Nat) (h : n < 18446744073709551616) : rdE (sml n ++ R) = 0 ∧ rdN (sml n ++ R) = n ∧ rdK (sml n ++ R) = (sml n).length := by
  have hn : n < 128 ^ (9 + 1) := Nat.lt_of_lt_of_le h (by decide)
  have h1 := fe_sml 9 n R hn
  have hp := sml_pos n
  have hl := sml_len10 n h
  obtain ⟨l1, l2, l3⟩ := sml_last 9 n hn
  have l3' := l3 9 (by have : (128 : Nat) ^ 9 * 2 = 18446744073709551616 := by decide
                       omega)
  have hg : (sml n ++ R).getD ((sml n).length - 1) 0 = (sml n).getD ((sml n).length - 1) 0 := by
    simp only [List.getD_eq_getElem?_getD]
    rw [List.getElem?_append_left (by omega)]
  have hok : okR (sml n ++ R) = true := by
    rw [okR_iff, h1, hg]
    refine ⟨by simp; omega, by omega, ?_, ?_⟩
    · rcases l2 with l2 | l2
      · exact .inl l2
      · right; omega
    · rcases l3' with l3' | l3'
      · right; omega
      · exact .inl l3'
  unfold rdE rdN rdK
  rw [if_pos hok, if_pos hok, if_pos hok, h1, Nat.sub_add_cancel hp]
  refine ⟨rfl, ?_, rfl⟩
  rw [List.take_append_of_le_length (Nat.le_refl _), List.take_length, v7_sml]
/-- What is read is what is written. -/
theorem sml_v7 : ∀ (k : Nat) (L : List Nat), k < L.length → (∀ j, j < k → 128 ≤ L.getD j 0) → L.getD k 0 < 128 → (0 < L.getD k 0 ∨ k = 0) → (∀ x ∈ L, x < 256) → sml (v7 (L.take (k + 1))) = L.take (k + 1)
  | 0, [], h, _, _, _, _ => by simp at h
  | 0, x :: L, h, _, hx, _, _ => by
    simp at hx
    simp [v7]
    rw [Nat.mod_eq_of_lt hx, sml_lo hx]
  | k + 1, [], h, _, _, _, _ => by simp at h
  | k + 1, x :: L, h, h1, h2, h3, h4 => by
    have hx := h1 0 (by omega)
    simp at hx
    have hx2 := h4 x (List.mem_cons_self ..)
    have g3 : 0 < L.getD k 0 := by
      rcases h3 with h3 | h3
      · simpa using h3
      · omega
    have ih := sml_v7 k L (by simpa using h) (fun j hj => by have := h1 (j + 1) (by omega); simpa using this) (by simpa using h2) (.inl g3) (fun y hy => h4 y (List.mem_cons_of_mem _ hy))
    have hpos : 0 < v7 (L.take (k + 1)) := by
      rw [v7_take L k (by simpa using h)]
      have : L.getD k 0 % 128 = L.getD k 0 := Nat.mod_eq_of_lt (by simpa using h2)
      rw [this]
      have : 0 < 128 ^ k * L.getD k 0 := Nat.mul_pos (Nat.pow_pos (by omega)) g3
      omega
    rw [List.take_succ_cons, v7, sml_hi (by omega)]
    have e1 : (x % 128 + 128 * v7 (L.take (k + 1))) % 128 + 128 = x := by omega
    have e2 : (x % 128 + 128 * v7 (L.take (k + 1))) / 128 = v7 (L.take (k + 1)) := by omega
    rw [e1, e2, ih]
theorem read_only (L : List Nat) (hb : ∀ x ∈ L, x < 256) (h : okR L = true) : sml (rdN L) = L.take (rdK L) ∧ 1 ≤ rdK L ∧ rdK L ≤ L.length ∧ rdK L ≤ 10 := by
  obtain ⟨h1, h2, h3, h4⟩ := (okR_iff L).1 h
  unfold rdN rdK
  rw [if_pos h, if_pos h]
  exact ⟨sml_v7 _ L h1 (fe_ge L) (fe_at L h1) h3 hb, by omega, by omega, by omega⟩

end Go.Proofs.YtoahbpdgbiachaaDoor

/-
  THE PLAIN MATHEMATICS of sets of numbers from 0 to 31 as the bits of a number; no text of the program.
-/
namespace Go.Proofs.YtoahbpdgbiachaaDoor
set_option linter.unusedVariables false
set_option linter.unusedSimpArgs false

/-- How many of the first k bits are there. -/
def cnt (S : Nat) : Nat → Nat
  | 0 => 0
  | k + 1 => cnt S k + (S.testBit k).toNat
theorem cnt_succ (S k : Nat) : cnt S (k + 1) = cnt S k + (S.testBit k).toNat := rfl
theorem cnt_le (S k : Nat) : cnt S k ≤ k := by
  induction k with
  | zero => exact Nat.le_refl _
  | succ k ih => rw [cnt_succ]; have := Bool.toNat_le (S.testBit k); omega
theorem cnt_congr {S T : Nat} (k : Nat) (h : ∀ j, j < k → S.testBit j = T.testBit j) : cnt S k = cnt T k := by
  induction k with
  | zero => rfl
  | succ k ih => rw [cnt_succ, cnt_succ, ih (fun j hj => h j (by omega)), h k (by omega)]
theorem cnt_split (S a b : Nat) : cnt S (a + b) = cnt S a + cnt (S / 2 ^ a) b := by
  induction b with
  | zero => rfl
  | succ b ih =>
    rw [← Nat.add_assoc, cnt_succ, cnt_succ, ih, Nat.testBit_div_two_pow]
    rw [Nat.add_comm b a]; omega
theorem cnt_flat (S a b : Nat) (h : ∀ j, a ≤ j → j < a + b → S.testBit j = false) : cnt S (a + b) = cnt S a := by
  induction b with
  | zero => rfl
  | succ b ih =>
    rw [← Nat.add_assoc, cnt_succ, ih (fun j h1 h2 => h j h1 (by omega)), h (a + b) (by omega) (by omega)]; rfl
theorem cnt_mod (S k : Nat) : cnt (S % 2 ^ k) k = cnt S k := cnt_congr k (fun j hj => by rw [Nat.testBit_mod_two_pow]; simp [hj])

/-- The least of the bits. -/
def lowN : Nat → Nat → Nat
  | 0, _ => 0
  | f + 1, S => if S % 2 = 1 then 0 else lowN f (S / 2) + 1
theorem lowN_spec (f : Nat) : ∀ S, 0 < S → S < 2 ^ f → lowN f S < f ∧ S.testBit (lowN f S) = true ∧ ∀ j, j < lowN f S → S.testBit j = false := by
  induction f with
  | zero => intro S h1 h2; simp at h2; omega
  | succ f ih =>
    intro S h1 h2
    unfold lowN
    split
    · rename_i h
      exact ⟨by omega, by simp [Nat.testBit_zero, h], fun j hj => by omega⟩
    · rename_i h
      obtain ⟨a, b, c⟩ := ih (S / 2) (by omega) (by rw [Nat.pow_succ] at h2; omega)
      refine ⟨by omega, by rw [Nat.testBit_succ]; exact b, fun j hj => ?_⟩
      cases j with
      | zero => simp [Nat.testBit_zero]; omega
      | succ j => rw [Nat.testBit_succ]; exact c j (by omega)
theorem low_unique {S i k : Nat} (h1 : S.testBit i = true) (h2 : ∀ j, j < i → S.testBit j = false) (h3 : S.testBit k = true) (h4 : ∀ j, j < k → S.testBit j = false) : i = k := by
  rcases Nat.lt_trichotomy i k with h | h | h
  · rw [h4 i h] at h1; cases h1
  · exact h
  · rw [h2 k h] at h3; cases h3

theorem and_two (x y : Nat) : x &&& y = 2 * (x / 2 &&& y / 2) + (x % 2) * (y % 2) := by
  have h1 : (x &&& y) / 2 = x / 2 &&& y / 2 := Nat.and_div_two
  have h2 : (x &&& y) % 2 = (x % 2) * (y % 2) := by
    have := Nat.testBit_and x y 0
    simp only [Nat.testBit_zero] at this
    have e := decide_eq_decide.1 (by rw [this, ← Bool.decide_and] : decide ((x &&& y) % 2 = 1) = decide (x % 2 = 1 ∧ y % 2 = 1))
    by_cases hh : x % 2 = 1 ∧ y % 2 = 1
    · rw [e.2 hh, hh.1, hh.2]
    · have hn : ¬ (x &&& y) % 2 = 1 := fun k => hh (e.1 k)
      have h0 : (x &&& y) % 2 = 0 := by omega
      rw [h0]
      rcases Nat.mod_two_eq_zero_or_one x with hx | hx <;> rcases Nat.mod_two_eq_zero_or_one y with hy | hy
      · rw [hx, hy]
      · rw [hx, hy]
      · rw [hx, hy]
      · exact absurd ⟨hx, hy⟩ hh
  omega
theorem and_rest (f : Nat) : ∀ a, a < 2 ^ f → a &&& (2 ^ f - 1 - a) = 0 := by
  induction f with
  | zero => intro a h; simp at h; subst h; rfl
  | succ f ih =>
    intro a h
    rw [Nat.pow_succ] at h ⊢
    have := ih (a / 2) (by omega)
    rw [and_two]
    have e : (2 ^ f * 2 - 1 - a) / 2 = 2 ^ f - 1 - a / 2 := by omega
    rw [e, this]
    rcases Nat.mod_two_eq_zero_or_one a with ha | ha
    · rw [ha]; omega
    · have : (2 ^ f * 2 - 1 - a) % 2 = 0 := by omega
      rw [this]; omega
/-- A number and its turned one: the least bit is left. -/
theorem and_neg (f : Nat) : ∀ S, 0 < S → S < 2 ^ f → S &&& (2 ^ f - S) = 2 ^ lowN f S := by
  induction f with
  | zero => intro S h1 h2; simp at h2; omega
  | succ f ih =>
    intro S h1 h2
    rw [Nat.pow_succ] at h2
    rw [and_two]
    unfold lowN
    split
    · rename_i h
      have e : (2 ^ (f + 1) - S) / 2 = 2 ^ f - 1 - S / 2 := by rw [Nat.pow_succ]; omega
      have e2 : (2 ^ (f + 1) - S) % 2 = 1 := by rw [Nat.pow_succ]; omega
      rw [e, e2, h, and_rest f (S / 2) (by omega)]
    · rename_i h
      have h0 : S % 2 = 0 := by omega
      have e : (2 ^ (f + 1) - S) / 2 = 2 ^ f - S / 2 := by rw [Nat.pow_succ]; omega
      rw [e, h0, ih (S / 2) (by omega) (by omega), Nat.pow_succ]; omega

/-- Two numbers that share no bit: joined is added. -/
theorem or_two (x y : Nat) : x ||| y = 2 * (x / 2 ||| y / 2) + (if x % 2 = 1 ∨ y % 2 = 1 then 1 else 0) := by
  have h1 : (x ||| y) / 2 = x / 2 ||| y / 2 := Nat.or_div_two
  have h2 : (x ||| y) % 2 = (if x % 2 = 1 ∨ y % 2 = 1 then 1 else 0) := by
    have := Nat.testBit_or x y 0
    simp only [Nat.testBit_zero] at this
    have e := decide_eq_decide.1 (by rw [this, ← Bool.decide_or] : decide ((x ||| y) % 2 = 1) = decide (x % 2 = 1 ∨ y % 2 = 1))
    split
    · rename_i h; exact e.2 h
    · rename_i h
      have : ¬ (x ||| y) % 2 = 1 := fun k => h (e.1 k)
      omega
  omega
theorem or_add : ∀ (n x y : Nat), x + y ≤ n → x &&& y = 0 → x ||| y = x + y := by
  intro n
  induction n with
  | zero => intro x y h _; obtain rfl : x = 0 := by omega
            obtain rfl : y = 0 := by omega
            rfl
  | succ n ih =>
    intro x y h e
    by_cases hz : x + y = 0
    · obtain rfl : x = 0 := by omega
      obtain rfl : y = 0 := by omega
      rfl
    rw [and_two] at e
    have e1 : x / 2 &&& y / 2 = 0 := by omega
    have e2 : (x % 2) * (y % 2) = 0 := by omega
    rw [or_two, ih (x / 2) (y / 2) (by omega) e1]
    rcases Nat.mod_two_eq_zero_or_one x with hx | hx <;> rcases Nat.mod_two_eq_zero_or_one y with hy | hy
    · rw [hx, hy, if_neg (by omega)]; omega
    · rw [hx, hy, if_pos (by omega)]; omega
    · rw [hx, hy, if_pos (by omega)]; omega
    · rw [hx, hy] at e2; omega

theorem and_pow (S i : Nat) (h : S.testBit i = false) : S &&& 2 ^ i = 0 := by
  apply Nat.eq_of_testBit_eq
  intro j
  rw [Nat.testBit_and, Nat.testBit_two_pow]
  by_cases e : i = j
  · subst e; simp [h]
  · simp [e]
theorem and_pow_yes (S i : Nat) (h : S.testBit i = true) : S &&& 2 ^ i = 2 ^ i := by
  apply Nat.eq_of_testBit_eq
  intro j
  rw [Nat.testBit_and, Nat.testBit_two_pow]
  by_cases e : i = j
  · subst e; simp [h]
  · simp [e]
theorem or_pow_no (S i : Nat) (h : S.testBit i = false) : S ||| 2 ^ i = S + 2 ^ i := or_add _ _ _ (Nat.le_refl _) (and_pow S i h)
theorem or_pow_yes (S i : Nat) (h : S.testBit i = true) : S ||| 2 ^ i = S := by
  apply Nat.eq_of_testBit_eq
  intro j
  rw [Nat.testBit_or, Nat.testBit_two_pow]
  by_cases e : i = j
  · subst e; simp [h]
  · simp [e]
/-- All 32 bits but one. -/
theorem but_bit (i j : Nat) (hi : i < 32) : (4294967295 - 2 ^ i).testBit j = (decide (j < 32) && !decide (i = j)) := by
  have h : 2 ^ i < 2 ^ 32 := Nat.pow_lt_pow_right (by omega) hi
  have := Nat.testBit_two_pow_sub_succ h j
  rw [Nat.testBit_two_pow] at this
  rw [← this]
  congr 1
  have : (2 : Nat) ^ 32 = 4294967296 := by decide
  omega
theorem lt_bit {S : Nat} (h : S < 4294967296) {j : Nat} (hj : S.testBit j = true) : j < 32 := by
  by_cases hh : j < 32
  · exact hh
  · have : S < 2 ^ j := Nat.lt_of_lt_of_le h (Nat.pow_le_pow_right (by omega) (by omega) : 2 ^ 32 ≤ 2 ^ j)
    rw [Nat.testBit_lt_two_pow this] at hj; cases hj
theorem without_bit (S i j : Nat) (hS : S < 4294967296) (hi : i < 32) : (S &&& (4294967295 - 2 ^ i)).testBit j = (S.testBit j && !decide (i = j)) := by
  rw [Nat.testBit_and, but_bit i j hi]
  cases h : S.testBit j with
  | false => simp
  | true => simp [lt_bit hS h]
theorem without_no (S i : Nat) (hS : S < 4294967296) (hi : i < 32) (h : S.testBit i = false) : S &&& (4294967295 - 2 ^ i) = S := by
  apply Nat.eq_of_testBit_eq
  intro j
  rw [without_bit S i j hS hi]
  by_cases e : i = j
  · subst e; simp [h]
  · simp [e]
theorem without_yes (S i : Nat) (hS : S < 4294967296) (hi : i < 32) (h : S.testBit i = true) : S &&& (4294967295 - 2 ^ i) = S - 2 ^ i := by
  have e : (S &&& (4294967295 - 2 ^ i)) ||| 2 ^ i = S := by
    apply Nat.eq_of_testBit_eq
    intro j
    rw [Nat.testBit_or, without_bit S i j hS hi, Nat.testBit_two_pow]
    by_cases e : i = j
    · subst e; simp [h]
    · simp [e]
  have hb : (S &&& (4294967295 - 2 ^ i)).testBit i = false := by rw [without_bit S i i hS hi]; simp
  rw [or_pow_no _ i hb] at e
  omega
theorem or_pow_lt (S i : Nat) (hS : S < 4294967296) (hi : i < 32) : S ||| 2 ^ i < 4294967296 :=
  Nat.or_lt_two_pow (n := 32) hS (Nat.pow_lt_pow_right (by omega) hi)
theorem without_le (S m : Nat) : S &&& m ≤ S := Nat.and_le_left

end Go.Proofs.YtoahbpdgbiachaaDoor

/-
  SITES AS NUMBERS: what a site may be, what lies between phases, condition by condition; no text of the program.
-/
namespace Go.Proofs.YtoahbpdgbiachaaDoor
set_option linter.unusedVariables false
set_option linter.unusedSimpArgs false

/-- A group's Kind, Min, Yellow. -/
structure Gr where
  kind : Nat
  min : Int
  yellow : Int
/-- A phase's Groups, Min, Max, Gap, Always. -/
structure Ph where
  groups : Nat
  min : Int
  max : Int
  gap : Int
  always : Bool
/-- An eye's Phase, On, Off, Turns. -/
structure Ey where
  phase : Int
  on : Int
  off : Int
  turns : Int
/-- A plan's Cycle, Offset, Splits. -/
structure Pl where
  cycle : Int
  offset : Int
  splits : List Int
/-- A site. -/
structure St where
  id : Int
  groups : List Gr
  apart : List Nat
  between : List (List Int)
  phases : List Ph
  eyes : List Ey
  watch : Int
  feed : Int
  heal : Int
  low : Int
  high : Int
  plans : List Pl

def g0 : Gr := ⟨0, 0, 0⟩
def p0 : Ph := ⟨0, 0, 0, 0, false⟩
def e0 : Ey := ⟨0, 0, 0, 0⟩
def q0 : Pl := ⟨0, 0, []⟩
def St.gr (S : St) (i : Nat) : Gr := S.groups.getD i g0
def St.ap (S : St) (i : Nat) : Nat := S.apart.getD i 0
def St.bt (S : St) (a b : Nat) : Int := (S.between.getD a []).getD b 0
def St.ph (S : St) (i : Nat) : Ph := S.phases.getD i p0
def St.ey (S : St) (i : Nat) : Ey := S.eyes.getD i e0
def St.pl (S : St) (i : Nat) : Pl := S.plans.getD i q0

def inB (n lo hi : Int) : Bool := decide (lo ≤ n) && decide (n ≤ hi)
theorem inB_iff {n lo hi : Int} : inB n lo hi = true ↔ lo ≤ n ∧ n ≤ hi := by unfold inB; simp
theorem inB_no {n lo hi : Int} : inB n lo hi = false ↔ n < lo ∨ hi < n := by
  unfold inB
  simp only [Bool.and_eq_false_iff, decide_eq_false_iff_not]
  omega
def timeB (n : Int) : Bool := inB n 1 1048576
/-- For each number below n. -/
def allB (n : Nat) (f : Nat → Bool) : Bool := (List.range n).all f
theorem allB_iff {n : Nat} {f : Nat → Bool} : allB n f = true ↔ ∀ i, i < n → f i = true := by unfold allB; simp
theorem allB_no {n i : Nat} {f : Nat → Bool} (hi : i < n) (h : f i = false) : allB n f = false := by
  cases e : allB n f with
  | false => rfl
  | true => rw [allB_iff.1 e i hi] at h; cases h

/-! ### The conditions -/
def countsB (S : St) : Bool := inB S.groups.length 1 16 && decide (S.apart.length = S.groups.length) && decide (S.between.length = S.groups.length) && inB S.phases.length 1 8 && decide (S.eyes.length ≤ 24) && decide (S.plans.length ≤ 8)
def ownB (S : St) : Bool := inB S.id 0 65535 && timeB S.watch && timeB S.feed && timeB S.heal
def groupB (S : St) (i : Nat) : Bool := (decide ((S.gr i).kind = 1) || decide ((S.gr i).kind = 2)) && timeB (S.gr i).min && timeB (S.gr i).yellow
def apartB (S : St) (a : Nat) : Bool := decide (S.ap a < 2 ^ S.groups.length) && !(S.ap a).testBit a && allB S.groups.length (fun b => (S.ap a).testBit b == (S.ap b).testBit a)
def betB (S : St) (a b : Nat) : Bool := if (S.ap a).testBit b = true then inB (S.bt a b) (S.gr a).yellow 1048576 else decide (S.bt a b = 0)
def betweenB (S : St) (a : Nat) : Bool := decide ((S.between.getD a []).length = S.groups.length) && allB S.groups.length (betB S a)
/-- No two groups of a set are apart; each one's Min is at most m. -/
def mateB (S : St) (G : Nat) : Bool := allB S.groups.length (fun a => !G.testBit a || decide (S.ap a &&& G = 0))
def leastB (S : St) (G : Nat) (m : Int) : Bool := allB S.groups.length (fun a => !G.testBit a || decide ((S.gr a).min ≤ m))
def phaseB (S : St) (i : Nat) : Bool := decide ((S.ph i).groups ≠ 0) && decide ((S.ph i).groups < 2 ^ S.groups.length) && mateB S (S.ph i).groups && decide (0 ≤ (S.ph i).min) && leastB S (S.ph i).groups (S.ph i).min && decide ((S.ph i).min ≤ 1048576) && inB (S.ph i).max (S.ph i).min 1048576 && timeB (S.ph i).gap
/-- All groups of the first k phases. -/
def unionN (S : St) : Nat → Nat
  | 0 => 0
  | k + 1 => unionN S k ||| (S.ph k).groups
def servedB (S : St) : Bool := decide (unionN S S.phases.length = 2 ^ S.groups.length - 1)
def eyeB (S : St) (i : Nat) : Bool := inB (S.ey i).phase 0 ((S.phases.length : Int) - 1) && timeB (S.ey i).on && timeB (S.ey i).off && inB (S.ey i).turns 1 64

/-- The greatest of what has P, and 0. -/
def IsMost (P : Int → Prop) (m : Int) : Prop := 0 ≤ m ∧ (m = 0 ∨ P m) ∧ ∀ x, P x → x ≤ m
theorem IsMost.uniq {P : Int → Prop} {m n : Int} (h : IsMost P m) (k : IsMost P n) : m = n := by
  obtain ⟨a, b, c⟩ := h
  obtain ⟨a', b', c'⟩ := k
  have h1 : m ≤ n := by
    rcases b with b | b
    · omega
    · exact c' m b
  have h2 : n ≤ m := by
    rcases b' with b' | b'
    · omega
    · exact c n b'
  omega
theorem IsMost.congr {P Q : Int → Prop} {m : Int} (h : IsMost P m) (e : ∀ x, P x ↔ Q x) : IsMost Q m :=
  ⟨h.1, h.2.1.imp id (fun q => (e m).1 q), fun x hx => h.2.2 x ((e x).2 hx)⟩
theorem IsMost.none : IsMost (fun _ => False) 0 := ⟨Int.le_refl _, .inl rfl, fun _ h => h.elim⟩
theorem IsMost.more {P : Int → Prop} {m : Int} (h : IsMost P m) (x : Int) : IsMost (fun y => P y ∨ y = x) (max m x) := by
  obtain ⟨a, b, c⟩ := h
  refine ⟨by omega, ?_, fun y hy => ?_⟩
  · rcases (show max m x = m ∨ max m x = x by omega) with e | e
    · rw [e]
      rcases b with b | b
      · exact .inl b
      · exact .inr (.inl b)
    · rw [e]; exact .inr (.inr rfl)
  · rcases hy with hy | hy
    · have := c y hy; omega
    · omega
theorem IsMost.le {P : Int → Prop} {m B : Int} (h : IsMost P m) (hB : 0 ≤ B) (k : ∀ x, P x → x ≤ B) : m ≤ B := by
  rcases h.2.1 with e | e
  · omega
  · exact k m e
/-- The greatest of a list, and 0. -/
def mostL : List Int → Int
  | [] => 0
  | x :: l => max x (mostL l)
theorem mostL_is : ∀ l, IsMost (fun x => x ∈ l) (mostL l)
  | [] => IsMost.none.congr (fun x => by simp)
  | y :: l => by
    have h := (mostL_is l).more y
    rw [mostL, Int.max_comm]
    exact h.congr (fun x => by simp [or_comm])
/-- Which numbers lie from one phase to another one. -/
def LiesP (S : St) (f t : Nat) (x : Int) : Prop := ∃ a b, a < S.groups.length ∧ b < S.groups.length ∧ (S.ph f).groups.testBit a = true ∧ (S.ph t).groups.testBit b = true ∧ (S.ap a).testBit b = true ∧ x = S.bt a b
def liesL (S : St) (f t : Nat) : List Int := (List.range S.groups.length).flatMap fun a => ((List.range S.groups.length).filter fun b => (S.ph f).groups.testBit a && ((S.ph t).groups.testBit b && (S.ap a).testBit b)).map (S.bt a)
def liesM (S : St) (f t : Nat) : Int := mostL (liesL S f t)
theorem liesM_is (S : St) (f t : Nat) : IsMost (LiesP S f t) (liesM S f t) := by
  refine (mostL_is _).congr fun x => ?_
  unfold liesL LiesP
  simp only [List.mem_flatMap, List.mem_map, List.mem_filter, List.mem_range, Bool.and_eq_true]
  constructor
  · rintro ⟨a, ha, b, ⟨hb, h1, h2, h3⟩, rfl⟩
    exact ⟨a, b, ha, hb, h1, h2, h3, rfl⟩
  · rintro ⟨a, b, ha, hb, h1, h2, h3, rfl⟩
    exact ⟨a, ha, b, ⟨hb, h1, h2, h3⟩, rfl⟩
theorem liesM_eq {S : St} {f t : Nat} {m : Int} (h : IsMost (LiesP S f t) m) : liesM S f t = m := (liesM_is S f t).uniq h
theorem liesM_ge (S : St) (f t : Nat) : 0 ≤ liesM S f t := (liesM_is S f t).1
/-- A phase's Min, and what lies from it to the next one. -/
def partM (S : St) (i : Nat) : Int := (S.ph i).min + liesM S i ((i + 1) % S.phases.length)
def roundN (S : St) : Nat → Int
  | 0 => 0
  | k + 1 => roundN S k + partM S k
def roundM (S : St) : Int := roundN S S.phases.length
def cyclesB (S : St) : Bool := inB S.low (roundM S) 1048576 && inB S.high S.low 1048576
/-- What is left of a cycle behind k splits, as long as these may be. -/
def splitsB (S : St) : Nat → List Int → Int → Bool
  | _, [], left => decide (left = 0)
  | i, x :: l, left => inB x (partM S i) left && splitsB S (i + 1) l (left - x)
def planB (S : St) (p : Pl) : Bool := inB p.cycle S.low S.high && inB p.offset 0 (p.cycle - 1) && decide (p.splits.length = S.phases.length) && splitsB S 0 p.splits p.cycle
def siteB (S : St) : Bool := countsB S && ownB S && allB S.groups.length (groupB S) && allB S.groups.length (apartB S) && allB S.groups.length (betweenB S) && allB S.phases.length (phaseB S) && servedB S && allB S.eyes.length (eyeB S) && cyclesB S && allB S.plans.length (fun i => planB S (S.pl i))
/-- A plan that may be at all. -/
def mayB (p : Pl) : Bool := timeB p.cycle && inB p.offset 0 (p.cycle - 1) && inB p.splits.length 1 8 && p.splits.all (fun x => inB x 0 1048576)

/-! ### What holds of a site that may be -/
structure Okay (S : St) : Prop where
  ng : 1 ≤ S.groups.length ∧ S.groups.length ≤ 16
  na : S.apart.length = S.groups.length
  nb : S.between.length = S.groups.length
  np : 1 ≤ S.phases.length ∧ S.phases.length ≤ 8
  ne : S.eyes.length ≤ 24
  nl : S.plans.length ≤ 8
theorem counts_iff {S : St} : countsB S = true ↔ Okay S := by
  unfold countsB
  simp only [Bool.and_eq_true, inB_iff, decide_eq_true_eq]
  constructor
  · rintro ⟨⟨⟨⟨⟨h1, h2⟩, h3⟩, h4⟩, h5⟩, h6⟩
    exact ⟨by omega, h2, h3, by omega, h5, h6⟩
  · rintro ⟨h1, h2, h3, h4, h5, h6⟩
    exact ⟨⟨⟨⟨⟨by omega, h2⟩, h3⟩, by omega⟩, h5⟩, h6⟩
theorem getD_mem {α : Type} {l : List α} {d : α} {i : Nat} (h : i < l.length) : l.getD i d ∈ l := by
  have : l.getD i d = l[i] := by simp [h]
  rw [this]; exact List.getElem_mem h

end Go.Proofs.YtoahbpdgbiachaaDoor

/-
  WORLDS AND BYTES IN MEMORY, as the contracts of this stage want them; two lists of bytes that are the same.
-/
namespace Go.Proofs.YtoahbpdgbiachaaDoor
open Go.RowKit Go.Lib Go.Deep
set_option linter.unusedVariables false
set_option linter.unusedSimpArgs false

theorem ret_int {k : IntKind} {a b : Int} (h : a = b) : Ending.returned (.int k a) = .returned (.int k b) := by rw [h]
theorem ret_bool {a b : Bool} (h : a = b) : Ending.returned (.bool a) = .returned (.bool b) := by rw [h]
theorem ret_int2 {k l : IntKind} {a b c d : Int} (h : a = b) (h' : c = d) : Ending.returned (.tuple #[.int k a, .int l c]) = .returned (.tuple #[.int k b, .int l d]) := by rw [h, h']

/-! ### Worlds -/

/-- Nothing that was there has turned, but for block 'row'. -/
abbrev Kept (w w' : World) (row : Option Nat) : Prop := w.grownBy w' row

theorem Kept.drewN (w : World) (m : Nat) (r : Option Nat) : Kept w (w.drewN m) r := ⟨rfl, rfl, rfl, Nat.le_refl _, fun _ _ _ => rfl⟩
theorem Kept.refl (w : World) (r : Option Nat) : Kept w w r := ⟨rfl, rfl, rfl, Nat.le_refl _, fun _ _ _ => rfl⟩
theorem Kept.tr {a b c : World} {r : Option Nat} (h : Kept a b r) (k : Kept b c r) : Kept a c r :=
  ⟨k.os.trans h.os, k.tape.trans h.tape, k.output.trans h.output, Nat.le_trans h.size k.size, fun i hi hr => (k.block i (Nat.lt_of_lt_of_le hi h.size) hr).trans (h.block i hi hr)⟩
theorem Kept.alloc (w : World) (c : Array Value) (t : TypeId) (fr : Nat × Nat) (r : Option Nat) : Kept w (w.alloc (.cells c t fr)) r :=
  ⟨rfl, rfl, rfl, by simp, fun k hk _ => Below.heap_alloc _ _ _ hk⟩
/-- A store into a block that is new. -/
theorem Kept.setNew {a b : World} {r : Option Nat} (h : Kept a b r) {p : Addr} (hp : a.heap.size ≤ p.block) (v : Value) : Kept a (b.setCell p v) r :=
  ⟨h.os, h.tape, h.output, by simpa [World.setCell] using h.size, fun k hk hr => (Below.heap_setCell _ _ _ _ (by omega)).trans (h.block k hk hr)⟩
/-- What grows in a block that is new. -/
theorem Kept.newRow {a b c : World} {r : Option Nat} (h : Kept a b none) (k : Kept b c r) (hr : ∀ i, r = some i → a.heap.size ≤ i) : Kept a c none :=
  ⟨k.os.trans h.os, k.tape.trans h.tape, k.output.trans h.output, Nat.le_trans h.size k.size, fun i hi _ => (k.block i (Nat.lt_of_lt_of_le hi h.size) (fun e => by have := hr i e.symm; omega)).trans (h.block i hi (by simp))⟩
theorem Kept.below {w w' : World} (h : Kept w w' none) : Below w.heap.size w w' := ⟨h.os, h.tape, h.output, h.size, fun k hk => h.block k hk (by simp)⟩
theorem Kept.of_below {w w' : World} (h : Below w.heap.size w w') : Kept w w' none := ⟨h.os, h.tape, h.output, h.size, fun k hk _ => h.block k hk⟩
theorem row_kept {w w' : World} {b : Nat} {t : TypeId} {n : Nat} {f : Nat → Value} {r : Option Nat} (h : w.rowIs b t n f) (k : Kept w w' r) (hr : some b ≠ r) : w'.rowIs b t n f := h.of_block (k.block b h.lt hr)

/-! ### Bytes in memory -/

theorem block_lt {w : World} {a : Addr} {v : Value} (h : w.cell? a = some v) : a.block < w.heap.size := by
  by_cases hh : a.block < w.heap.size
  · exact hh
  · have hn : w.heap[a.block]? = none := Array.getElem?_eq_none (by omega)
    simp [World.cell?, hn] at h

/-- A byte's cell. -/
abbrev byteV (x : Nat) : Value := .int .u8 (x : Int)

/-- The bytes L lie where the slice leads. -/
structure By (w : World) (a : Option Addr) (len : Nat) (L : List Nat) : Prop where
  size : L.length = len
  max : len ≤ 9223372036854775807
  lt : ∀ x ∈ L, x < 256
  at_ : 0 < len → ∃ b off, a = some ⟨b, off, none⟩ ∧ b < w.heap.size ∧ ∀ i, i < len → w.cell? ⟨b, off + i, none⟩ = some (.int .u8 ((L.getD i 0 : Nat) : Int))

theorem By.getD {w : World} {a : Option Addr} {len : Nat} {L : List Nat} (h : By w a len L) (i : Nat) : L.getD i 0 < 256 := by
  by_cases hi : i < L.length
  · have : L.getD i 0 = L[i] := by simp [hi]
    rw [this]; exact h.lt _ (List.getElem_mem hi)
  · simp [show L.length ≤ i by omega]
theorem By.nil (w : World) (a : Option Addr) : By w a 0 [] := ⟨rfl, by omega, fun _ h => (nomatch h), fun h => absurd h (by omega)⟩
theorem By.below {w w' : World} {a : Option Addr} {len : Nat} {L : List Nat} (h : By w a len L) (k : Below w.heap.size w w') : By w' a len L := by
  obtain ⟨h1, h2, h3, h4⟩ := h
  refine ⟨h1, h2, h3, fun hp => ?_⟩
  obtain ⟨b, off, rfl, hb, hc⟩ := h4 hp
  exact ⟨b, off, rfl, Nat.lt_of_lt_of_le hb k.size, fun i hi => (k.cell (p := ⟨b, off + i, none⟩) hb).trans (hc i hi)⟩
theorem By.kept {w w' : World} {a : Option Addr} {len : Nat} {L : List Nat} (h : By w a len L) (k : Kept w w' none) : By w' a len L := by
  obtain ⟨h1, h2, h3, h4⟩ := h
  refine ⟨h1, h2, h3, fun hp => ?_⟩
  obtain ⟨b, off, rfl, hb, hc⟩ := h4 hp
  exact ⟨b, off, rfl, Nat.lt_of_lt_of_le hb k.size, fun i hi => (World.cell?_of_block (w := w) (a := ⟨b, off + i, none⟩) (k.block b hb (by simp))).trans (hc i hi)⟩
theorem By.drewN {w : World} {a : Option Addr} {len : Nat} {L : List Nat} (h : By w a len L) (m : Nat) : By (w.drewN m) a len L := h.kept (Kept.drewN w m none)
/-- The first k of them. -/
theorem By.take {w : World} {a : Option Addr} {len : Nat} {L : List Nat} (h : By w a len L) (k : Nat) (hk : k ≤ len) : By w a k (L.take k) := by
  obtain ⟨h1, h2, h3, h4⟩ := h
  refine ⟨by simp; omega, by omega, fun x hx => h3 x (List.mem_of_mem_take hx), fun hp => ?_⟩
  obtain ⟨b, off, rfl, hb, hc⟩ := h4 (by omega)
  refine ⟨b, off, rfl, hb, fun i hi => ?_⟩
  rw [hc i (by omega)]
  simp [List.getElem?_take, hi]
/-- A row of the call's own. -/
theorem By.row {w : World} {b n : Nat} {t : TypeId} {f : Nat → Value} (h : w.rowIs b t n f) (L : List Nat) (k : Nat) (hk : k ≤ n) (hl : L.length = k) (h2 : k ≤ 9223372036854775807) (hb : ∀ x ∈ L, x < 256) (hf : ∀ i, i < k → f i = .int .u8 ((L.getD i 0 : Nat) : Int)) : By w (some ⟨b, 0, none⟩) k L :=
  ⟨hl, h2, hb, fun _ => ⟨b, 0, rfl, h.lt, fun i hi => by rw [Nat.zero_add, h.cell (by omega), hf i hi]⟩⟩
/-- A list as a row of cells, just laid. -/
theorem By.alloc (w : World) (L : List Nat) (t : TypeId) (fr : Nat × Nat) (cs : Array Value) (hc : ∀ i, i < L.length → cs[i]? = some (.int .u8 ((L.getD i 0 : Nat) : Int))) (h2 : L.length ≤ 9223372036854775807) (hb : ∀ x ∈ L, x < 256) : By (w.alloc (.cells cs t fr)) (some ⟨w.heap.size, 0, none⟩) L.length L :=
  ⟨rfl, h2, hb, fun _ => ⟨_, 0, rfl, by simp, fun i hi => by rw [Nat.zero_add, World.cell?_alloc_mark, hc i hi]⟩⟩

/-- A slice of bytes that came in. -/
theorem by_of {w : World} {a : Option Addr} {len cap : Nat} {zs : List Int}
    (h : (a = none ∧ len = 0 ∧ cap = 0 ∧ zs = []) ∨ ∃ x, a = some x ∧ len ≤ cap ∧ cap ≤ maxLen ∧ zs.length = cap ∧ (∀ i, i < zs.length → w.cell? (x.add i) = some (.int .u8 (zs.getD i 0))) ∧ ∀ n ∈ zs, (Lit.int .u8 n).wf = true) :
    By w a len ((zs.take len).map Int.toNat) := by
  rcases h with ⟨rfl, rfl, rfl, rfl⟩ | ⟨x, rfl, hl, hm, hz, hcell, hwz⟩
  · exact By.nil _ _
  · unfold maxLen at hm
    have hr : ∀ n ∈ zs, 0 ≤ n ∧ n < 256 := fun n hn => by
      have := bounds_u8 (hwz n hn)
      omega
    refine ⟨by simp; omega, by omega, fun y hy => ?_, fun hp => ?_⟩
    · simp only [List.mem_map] at hy
      obtain ⟨z, hz1, rfl⟩ := hy
      have := hr z (List.mem_of_mem_take hz1)
      omega
    · obtain ⟨b, off, rfl, hc⟩ := ints_at hcell (by omega)
      refine ⟨b, off, rfl, block_lt (hc 0 (by omega)), fun i hi => ?_⟩
      rw [hc i (by omega)]
      have hi' : i < zs.length := by omega
      have := hr zs[i] (List.getElem_mem hi')
      have e : ((zs.take len).map Int.toNat).getD i 0 = zs[i].toNat := by
        simp [List.getElem?_take, hi, hi']
      rw [e]
      have e2 : zs.getD i 0 = zs[i] := by simp [hi']
      rw [e2]
      congr 2
      omega

/-! ### Two lists of bytes -/
/-- The bytes as a text. -/
def textOf (L : List Nat) : ByteArray := ⟨(L.map UInt8.ofNat).toArray⟩
theorem Tryd.uB : Tryd.prog.underlying 58 = some (.slice 5) := by kernel_rfl
theorem Tryd.u5 : Tryd.prog.underlying 5 = some (.int .u8) := by kernel_rfl
theorem Tryd.uS : Tryd.prog.underlying 9 = some .string := by kernel_rfl
theorem run_text {w : World} {a : Option Addr} {len : Nat} {L : List Nat} (h : By w a len L) (cap : Nat) : (convert 58 9 (.slice a len cap)).run Tryd.prog w = .ok (.string (textOf L)) w := by
  obtain ⟨h1, h2, h3, h4⟩ := h
  by_cases hp : 0 < len
  · obtain ⟨b, off, rfl, hb, hc⟩ := h4 hp
    have := run_convert_bytes_back (P := Tryd.prog) w 58 9 5 ⟨b, off, none⟩ cap (L.map UInt8.ofNat) Tryd.uB Tryd.u5 Tryd.uS (fun j hj => by
      have hj' : j < L.length := by simpa using hj
      rw [Addr.add_lit, hc j (by omega)]
      have e : L.getD j 0 = L[j] := by simp [hj']
      have hx := h3 L[j] (List.getElem_mem hj')
      rw [e]
      simp
      omega)
    rw [List.length_map, h1] at this
    exact this
  · have e0 : len = 0 := by omega
    subst e0
    have e1 : L = [] := List.length_eq_zero_iff.1 h1
    subst e1
    rw [run_convert_bytes_string w 58 9 5 a 0 cap Tryd.uB Tryd.u5 Tryd.uS]
    cases a with
    | none => rfl
    | some x => rfl


end Go.Proofs.YtoahbpdgbiachaaDoor

/-
  THE CONTRACTS of the calls on sets: of package ring, of Go's own math/bits beneath it, and of the document's answer.
-/
namespace Go.Proofs.YtoahbpdgbiachaaDoor
open Go.RowKit Go.Lib Go.Deep
set_option linter.unusedVariables false
set_option linter.unusedSimpArgs false

theorem pow_lt32 {i : Nat} (h : i < 32) : 2 ^ i < 4294967296 := by
  have h' : 2 ^ i < 2 ^ 32 := Nat.pow_lt_pow_right (by omega) h
  simpa using h'
theorem pow_int {i : Nat} (h : i < 32) : (2 : Int) ^ i % 4294967296 = ((2 ^ i : Nat) : Int) := by
  have := pow_lt32 h
  have e : (2 : Int) ^ i = ((2 ^ i : Nat) : Int) := by simp
  rw [e]
  generalize 2 ^ i = P at this ⊢
  omega

/-- What a set may have: the number's bit, none beyond. -/
def bitV (i : Int) : Nat := if 0 ≤ i ∧ i < 32 then 2 ^ i.toNat else 0
theorem bitV_lt (i : Int) : bitV i < 4294967296 := by
  unfold bitV; split
  · exact pow_lt32 (by omega)
  · omega
theorem bit_core (i : Nat) (w : World) (h : i < 32) : Calls Tryd.prog 111 #[.int .i64 i] w fun e w' => e = .returned (.int .u32 ((2 ^ i : Nat) : Int)) ∧ w' = w := by
  go_enter Tryd.func111, Tryd.ntmps111
  go_wp2
  go_ret
  exact ⟨ret_int (pow_int h), rfl⟩
theorem bit_no (i : Int) (w : World) (h : i < 0 ∨ 31 < i) : Calls Tryd.prog 111 #[.int .i64 i] w fun e w' => e = .returned (.int .u32 0) ∧ w' = w := by
  rcases h with h | h
  all_goals
    go_enter Tryd.func111, Tryd.ntmps111
    go_wp2
    go_ret
    exact ⟨rfl, rfl⟩
theorem bit_any (i : Int) (w : World) : Calls Tryd.prog 111 #[.int .i64 i] w fun e w' => e = .returned (.int .u32 ((bitV i : Nat) : Int)) ∧ w' = w := by
  unfold bitV
  by_cases h : 0 ≤ i ∧ i < 32
  · rw [if_pos h]
    obtain ⟨n, rfl⟩ : ∃ n : Nat, i = (n : Int) := ⟨i.toNat, by omega⟩
    exact bit_core n w (by omega)
  · rw [if_neg h]
    exact bit_no i w (by omega)

/-- Is i in S? -/
def hasB (S : Nat) (i : Int) : Bool := decide (0 ≤ i ∧ i < 32) && S.testBit i.toNat
/-- S with i; S without i. -/
def withV (S : Nat) (i : Int) : Nat := S ||| bitV i
def withoutV (S : Nat) (i : Int) : Nat := S &&& (4294967295 - bitV i)
theorem withV_lt {S : Nat} (h : S < 4294967296) (i : Int) : withV S i < 4294967296 := Nat.or_lt_two_pow (n := 32) h (bitV_lt i)
theorem withoutV_lt {S : Nat} (h : S < 4294967296) (i : Int) : withoutV S i < 4294967296 := Nat.lt_of_le_of_lt Nat.and_le_left h
theorem has_eq (S : Nat) (i : Int) : (((S &&& bitV i : Nat) : Int) != 0) = hasB S i := by
  unfold hasB bitV
  by_cases h : 0 ≤ i ∧ i < 32
  · rw [if_pos h, decide_eq_true h, Bool.true_and]
    have hp : 0 < 2 ^ i.toNat := Nat.two_pow_pos _
    cases hb : S.testBit i.toNat with
    | false => rw [and_pow S _ hb]; rfl
    | true =>
      rw [and_pow_yes S _ hb, bne_iff_ne]
      exact_mod_cast Nat.ne_of_gt hp
  · rw [if_neg h, decide_eq_false h, Nat.and_zero]; rfl

theorem has_any (S : Nat) (i : Int) (w : World) (hS : S < 4294967296) : Calls Tryd.prog 103 #[.int .u32 S, .int .i64 i] w fun e w' => e = .returned (.bool (hasB S i)) ∧ w' = w := by
  have hand := u32_and_nat S (bitV i) hS (bitV_lt i)
  go_enter Tryd.func103, Tryd.ntmps103
  go_wp2_with (go_at_call 111; refine (bit_any _ _).mono ?_; rintro e w ⟨rfl, rfl⟩)
  go_ret
  exact ⟨ret_bool (has_eq S i), rfl⟩
theorem without_any (S : Nat) (i : Int) (w : World) (hS : S < 4294967296) : Calls Tryd.prog 114 #[.int .u32 S, .int .i64 i] w fun e w' => e = .returned (.int .u32 ((withoutV S i : Nat) : Int)) ∧ w' = w := by
  have han := u32_andNot_nat S (bitV i) hS (bitV_lt i)
  go_enter Tryd.func114, Tryd.ntmps114
  go_wp2_with (go_at_call 111; refine (bit_any _ _).mono ?_; rintro e w ⟨rfl, rfl⟩)
  go_ret
  exact ⟨rfl, rfl⟩

/-! ### The document's -/
theorem has_ref (S i : Nat) : ((((S : Int) / 2 ^ i).tmod 2 == 1) : Bool) = S.testBit i := by
  have e : (S : Int) / 2 ^ i = ((S / 2 ^ i : Nat) : Int) := by simp
  rw [e, Int.tmod_eq_emod_of_nonneg (Int.natCast_nonneg _), Nat.testBit_eq_decide_div_mod_eq, Bool.eq_iff_iff]
  simp; omega
theorem rhas_core (S i : Nat) (w : World) (hS : S < 4294967296) (h : i < 32) : Calls Tryd.prog 93 #[.int .u32 S, .int .i64 i] w fun e w' => e = .returned (.bool (S.testBit i)) ∧ w' = w := by
  go_enter Tryd.func93, Tryd.ntmps93
  go_wp2
  go_ret
  exact ⟨ret_bool (has_ref S i), rfl⟩
theorem rhas_no (S : Nat) (i : Int) (w : World) (h : i < 0 ∨ 31 < i) : Calls Tryd.prog 93 #[.int .u32 S, .int .i64 i] w fun e w' => e = .returned (.bool false) ∧ w' = w := by
  rcases h with h | h
  · have h1 : decide (0 ≤ i) = false := by simp; omega
    go_enter Tryd.func93, Tryd.ntmps93
    go_wp2
    go_ret
    exact ⟨rfl, rfl⟩
  · have h0 : 0 ≤ i := by omega
    have h1 : decide (i < 32) = false := by simp; omega
    go_enter Tryd.func93, Tryd.ntmps93
    go_wp2
    go_ret
    exact ⟨rfl, rfl⟩
theorem rhas_any (S : Nat) (i : Int) (w : World) (hS : S < 4294967296) : Calls Tryd.prog 93 #[.int .u32 S, .int .i64 i] w fun e w' => e = .returned (.bool (hasB S i)) ∧ w' = w := by
  unfold hasB
  by_cases h : 0 ≤ i ∧ i < 32
  · rw [decide_eq_true h, Bool.true_and]
    obtain ⟨n, rfl⟩ : ∃ n : Nat, i = (n : Int) := ⟨i.toNat, by omega⟩
    exact rhas_core S n w hS (by omega)
  · rw [decide_eq_false h, Bool.false_and]
    exact rhas_no S i w (by omega)
theorem has_in {S n : Nat} (h : n < 32) : hasB S (n : Int) = S.testBit n := by
  unfold hasB; rw [decide_eq_true (by omega)]; simp
theorem has_out {S : Nat} {i : Int} (h : ¬ (0 ≤ i ∧ i < 32)) : hasB S i = false := by unfold hasB; rw [decide_eq_false h]; rfl
theorem rwith_yes (S : Nat) (i : Int) (w : World) (hS : S < 4294967296) (h : ¬ (0 ≤ i ∧ i < 32) ∨ hasB S i = true) : Calls Tryd.prog 94 #[.int .u32 S, .int .i64 i] w fun e w' => e = .returned (.int .u32 (S : Int)) ∧ w' = w := by
  by_cases h0 : 0 ≤ i ∧ i < 32
  · obtain ⟨h1, h2⟩ := h0
    have h3 : hasB S i = true := by rcases h with h | h; exact absurd ⟨h1, h2⟩ h; exact h
    clear h
    go_enter Tryd.func94, Tryd.ntmps94
    go_wp2_with (go_at_call 93; refine (rhas_any _ _ _ hS).mono ?_; rintro e w ⟨rfl, rfl⟩; rw [h3])
    go_ret
    exact ⟨rfl, rfl⟩
  · rcases (show i < 0 ∨ 31 < i by omega) with h1 | h1
    all_goals
      clear h h0
      go_enter Tryd.func94, Tryd.ntmps94
      go_wp2_with fail
      go_ret
      exact ⟨rfl, rfl⟩
theorem rwith_no (S n : Nat) (w : World) (hS : S < 4294967296) (hn : n < 32) (h : S.testBit n = false) : Calls Tryd.prog 94 #[.int .u32 S, .int .i64 n] w fun e w' => e = .returned (.int .u32 ((S + 2 ^ n : Nat) : Int)) ∧ w' = w := by
  have h3 : hasB S (n : Int) = false := by rw [has_in hn]; exact h
  have hp := pow_int hn
  have hlt : S + 2 ^ n < 4294967296 := by rw [← or_pow_no S n h]; exact or_pow_lt S n hS hn
  generalize 2 ^ n = P at hp hlt ⊢
  go_enter Tryd.func94, Tryd.ntmps94
  go_wp2_with (go_at_call 93; refine (rhas_any _ _ _ hS).mono ?_; rintro e w ⟨rfl, rfl⟩; rw [h3])
  go_ret
  exact ⟨ret_int (by omega), rfl⟩
theorem with_no {S : Nat} {i : Int} (h : ¬ (0 ≤ i ∧ i < 32)) : withV S i = S := by unfold withV bitV; rw [if_neg h, Nat.or_zero]
theorem with_in {S n : Nat} (h : n < 32) : withV S (n : Int) = S ||| 2 ^ n := by unfold withV bitV; rw [if_pos (by omega)]; simp
theorem without_out {S : Nat} {i : Int} (hS : S < 4294967296) (h : ¬ (0 ≤ i ∧ i < 32)) : withoutV S i = S := by
  unfold withoutV bitV
  rw [if_neg h, Nat.sub_zero]
  have : S &&& (2 ^ 32 - 1) = S % 2 ^ 32 := Nat.and_two_pow_sub_one_eq_mod S 32
  have e : (2 : Nat) ^ 32 = 4294967296 := by decide
  rw [e] at this
  rw [this]
  exact Nat.mod_eq_of_lt hS
theorem without_in {S n : Nat} (h : n < 32) : withoutV S (n : Int) = S &&& (4294967295 - 2 ^ n) := by unfold withoutV bitV; rw [if_pos (by omega)]; simp
theorem rwith_any (S : Nat) (i : Int) (w : World) (hS : S < 4294967296) : Calls Tryd.prog 94 #[.int .u32 S, .int .i64 i] w fun e w' => e = .returned (.int .u32 ((withV S i : Nat) : Int)) ∧ w' = w := by
  by_cases h : 0 ≤ i ∧ i < 32
  · obtain ⟨n, rfl⟩ : ∃ n : Nat, i = (n : Int) := ⟨i.toNat, by omega⟩
    have hn : n < 32 := by omega
    rw [with_in hn]
    cases hb : S.testBit n with
    | true => rw [or_pow_yes S n hb]; exact rwith_yes S n w hS (.inr (by rw [has_in hn]; exact hb))
    | false => rw [or_pow_no S n hb]; exact rwith_no S n w hS hn hb
  · rw [with_no h]; exact rwith_yes S i w hS (.inl h)
theorem rcount_any (S : Nat) (w : World) (hS : S < 4294967296) : Calls Tryd.prog 95 #[.int .u32 S] w fun e w' => e = .returned (.int .i64 ((cnt S 32 : Nat) : Int)) ∧ w' = w := by
  go_enter Tryd.func95, Tryd.ntmps95
  go_wp2_with fail
  go_loop [3, 4] (fun c i => ∃ k : Nat, k ≤ 32 ∧ i = .int .i64 k ∧ c = .int .i64 ((cnt S k : Nat) : Int)) (fun _ i => 32 - (intOf i).toNat)
  case atStart => exact ⟨0, Nat.zero_le _, rfl, rfl⟩
  case round =>
    obtain ⟨k, hk, rfl, rfl⟩ := hrel
    have hc := cnt_le S k
    by_cases hlt : k < 32
    · have HS : Hid (cnt S (k + 1) = cnt S k + (S.testBit k).toNat) := cnt_succ S k
      generalize cnt S k = C at *
      cases hb : S.testBit k with
      | true =>
        have h3 : hasB S (k : Int) = true := by rw [has_in hlt]; exact hb
        rw [hb] at HS
        go_wp2_with (go_at_call 93; refine (rhas_any _ _ _ hS).mono ?_; rintro e w ⟨rfl, rfl⟩; rw [h3])
        go_round
        case rel => exact ⟨k + 1, by omega, by go_num, by rw [HS.out]; go_num⟩
        case measure => simp [intOf]; omega
      | false =>
        have h3 : hasB S (k : Int) = false := by rw [has_in hlt]; exact hb
        rw [hb] at HS
        go_wp2_with (go_at_call 93; refine (rhas_any _ _ _ hS).mono ?_; rintro e w ⟨rfl, rfl⟩; rw [h3])
        go_round
        case rel => exact ⟨k + 1, by omega, by go_num, by rw [HS.out]; go_num⟩
        case measure => simp [intOf]; omega
    · obtain rfl : k = 32 := by omega
      go_wp2_with fail
      go_ret
      exact ⟨rfl, rfl⟩

/-- The least one, -1 if there is none. -/
def leastV (S : Nat) : Int := if S = 0 then -1 else (lowN 32 S : Int)
end Go.Proofs.YtoahbpdgbiachaaDoor

/-
  THE NUMBERS OF A SET, rising.
-/
namespace Go.Proofs.YtoahbpdgbiachaaDoor
set_option linter.unusedVariables false
set_option linter.unusedSimpArgs false

def memb (S : Nat) : List Nat := (List.range 32).filter (fun i => S.testBit i)
theorem mem_memb {S i : Nat} : i ∈ memb S ↔ i < 32 ∧ S.testBit i = true := by unfold memb; simp
theorem memb_zero : memb 0 = [] := by
  unfold memb
  rw [List.filter_eq_nil_iff]
  simp
/-- Which of the numbers from a on are in a set, and which are without its least one. -/
theorem memb_low {S : Nat} (h0 : 0 < S) (hS : S < 4294967296) : memb S = lowN 32 S :: memb (withoutV S (lowN 32 S : Nat)) := by
  obtain ⟨h1, h2, h3⟩ := lowN_spec 32 S h0 (by simpa using hS)
  generalize hq : lowN 32 S = q at *
  have hw : ∀ j, (withoutV S (q : Nat)).testBit j = (S.testBit j && !decide (q = j)) := fun j => by
    rw [without_in h1]; exact without_bit S q j hS h1
  unfold memb
  have key : ∀ m, m ≤ 32 → (List.range m).filter (fun i => S.testBit i) = if q < m then q :: (List.range m).filter (fun i => (withoutV S (q : Nat)).testBit i) else [] := by
    intro m
    induction m with
    | zero => intro _; simp
    | succ m ih =>
      intro hm
      rw [List.range_succ, List.filter_append, List.filter_append, ih (by omega)]
      by_cases c1 : q < m
      · rw [if_pos c1, if_pos (by omega)]
        have : (withoutV S (q : Nat)).testBit m = S.testBit m := by rw [hw]; simp; omega
        simp [List.filter_cons, this]
      · rw [if_neg c1]
        by_cases c2 : q = m
        · subst c2
          rw [if_pos (by omega)]
          have hnone : (List.range q).filter (fun i => (withoutV S (q : Nat)).testBit i) = [] := by
            rw [List.filter_eq_nil_iff]
            intro x hx
            have hx' : x < q := by simpa using hx
            rw [hw, h3 x hx']
            simp
          rw [hnone]
          have : (withoutV S (q : Nat)).testBit q = false := by rw [hw]; simp
          simp [List.filter_cons, h2, this]
        · rw [if_neg (by omega)]
          simp [List.filter_cons, h3 m (by omega)]
  rw [key 32 (Nat.le_refl _), if_pos h1]

end Go.Proofs.YtoahbpdgbiachaaDoor

/-
  SITES IN MEMORY: lists of cells where a slice leads; a site whose lists lie so.
-/
namespace Go.Proofs.YtoahbpdgbiachaaDoor
open Go.RowKit Go.Lib Go.Deep
set_option linter.unusedVariables false
set_option linter.unusedSimpArgs false

theorem Hid.mk' {p : Prop} (h : p) : Hid p := h
/-- n elements of k cells lie where a slice leads: cell j of element i is f i j. -/
structure Lie (w : World) (a : Option Addr) (n k : Nat) (f : Nat → Nat → Value) : Prop where
  at_ : 0 < n → ∃ b off, a = some ⟨b, off, none⟩ ∧ b < w.heap.size ∧ ∀ i, i < n → ∀ j, j < k → w.cell? ⟨b, off + i * k + j, none⟩ = some (f i j)
theorem Lie.kept {w w' : World} {a : Option Addr} {n k : Nat} {f : Nat → Nat → Value} (h : Lie w a n k f) (q : Kept w w' none) : Lie w' a n k f :=
  ⟨fun hp => by
    obtain ⟨b, off, rfl, hb, hc⟩ := h.at_ hp
    exact ⟨b, off, rfl, Nat.lt_of_lt_of_le hb q.size, fun i hi j hj => (World.cell?_of_block (w := w) (a := ⟨b, off + i * k + j, none⟩) (q.block b hb (by simp))).trans (hc i hi j hj)⟩⟩
theorem Lie.congr {w : World} {a : Option Addr} {n k : Nat} {f g : Nat → Nat → Value} (h : Lie w a n k f) (e : ∀ i, i < n → ∀ j, j < k → f i j = g i j) : Lie w a n k g :=
  ⟨fun hp => by
    obtain ⟨b, off, rfl, hb, hc⟩ := h.at_ hp
    exact ⟨b, off, rfl, hb, fun i hi j hj => by rw [hc i hi j hj, e i hi j hj]⟩⟩
theorem Lie.one {w : World} {a : Option Addr} {n : Nat} {f : Nat → Nat → Value} (h : Lie w a n 1 f) (hp : 0 < n) : ∃ b off, a = some ⟨b, off, none⟩ ∧ b < w.heap.size ∧ ∀ i, i < n → w.cell? ⟨b, off + i, none⟩ = some (f i 0) := by
  obtain ⟨b, off, rfl, hb, hc⟩ := h.at_ hp
  exact ⟨b, off, rfl, hb, fun i hi => by have := hc i hi 0 (by omega); simpa using this⟩
/-- What came in, nil or not. -/
structure Cap (a : Option Addr) (n c : Nat) : Prop where
  nil : a = none → n = 0 ∧ c = 0
  room : n ≤ c
  max : c ≤ 9223372036854775807

def grV (g : Gr) (j : Nat) : Value := match j with
  | 0 => .int .u8 (g.kind : Int)
  | 1 => .int .i64 g.min
  | _ => .int .i64 g.yellow
def phV (p : Ph) (j : Nat) : Value := match j with
  | 0 => .int .u32 (p.groups : Int)
  | 1 => .int .i64 p.min
  | 2 => .int .i64 p.max
  | 3 => .int .i64 p.gap
  | _ => .bool p.always
def eyV (e : Ey) (j : Nat) : Value := match j with
  | 0 => .int .i64 e.phase
  | 1 => .int .i64 e.on
  | 2 => .int .i64 e.off
  | _ => .int .i64 e.turns
def plV (p : Pl) (a : Option Addr) (c : Nat) (j : Nat) : Value := match j with
  | 0 => .int .i64 p.cycle
  | 1 => .int .i64 p.offset
  | _ => .slice a p.splits.length c
/-- Numbers lie where a slice leads. -/
structure Ints (w : World) (a : Option Addr) (n c : Nat) (l : List Int) : Prop where
  lie : Lie w a n 1 (fun i _ => .int .i64 (l.getD i 0))
  size : l.length = n
  cap : Cap a n c
  rng : ∀ x ∈ l, -9223372036854775808 ≤ x ∧ x ≤ 9223372036854775807
theorem Ints.kept {w w' : World} {a : Option Addr} {n c : Nat} {l : List Int} (h : Ints w a n c l) (q : Kept w w' none) : Ints w' a n c l := ⟨h.lie.kept q, h.size, h.cap, h.rng⟩
/-- Where a site's lists lie. -/
structure Sa where
  g : Option Addr
  gc : Nat
  a : Option Addr
  ac : Nat
  b : Option Addr
  bc : Nat
  p : Option Addr
  pc : Nat
  e : Option Addr
  ec : Nat
  l : Option Addr
  lc : Nat
abbrev siteV (X : Sa) (S : St) : Value := .agg #[.int .i64 S.id, .slice X.g S.groups.length X.gc, .slice X.a S.apart.length X.ac, .slice X.b S.between.length X.bc, .slice X.p S.phases.length X.pc, .slice X.e S.eyes.length X.ec, .int .i64 S.watch, .int .i64 S.feed, .int .i64 S.heal, .int .i64 S.low, .int .i64 S.high, .slice X.l S.plans.length X.lc]
abbrev planV (p : Pl) (a : Option Addr) (c : Nat) : Value := .agg #[.int .i64 p.cycle, .int .i64 p.offset, .slice a p.splits.length c]
def i64B (x : Int) : Prop := -9223372036854775808 ≤ x ∧ x ≤ 9223372036854775807
/-- A list of plans. -/
structure Plans (w : World) (a : Option Addr) (n c : Nat) (l : List Pl) : Prop where
  ex : ∃ r : Nat → Option Addr × Nat, Lie w a n 3 (fun i j => plV (l.getD i q0) (r i).1 (r i).2 j) ∧ ∀ i, i < n → Ints w (r i).1 (l.getD i q0).splits.length (r i).2 (l.getD i q0).splits
  size : l.length = n
  cap : Cap a n c
  rng : ∀ p ∈ l, i64B p.cycle ∧ i64B p.offset
theorem Plans.kept {w w' : World} {a : Option Addr} {n c : Nat} {l : List Pl} (h : Plans w a n c l) (q : Kept w w' none) : Plans w' a n c l := by
  obtain ⟨⟨r, h1, h2⟩, h3, h4, h5⟩ := h
  exact ⟨⟨r, h1.kept q, fun i hi => (h2 i hi).kept q⟩, h3, h4, h5⟩
/-- A list of lists of numbers. -/
structure Grid (w : World) (a : Option Addr) (n c : Nat) (l : List (List Int)) : Prop where
  ex : ∃ r : Nat → Option Addr × Nat, Lie w a n 1 (fun i _ => .slice (r i).1 (l.getD i []).length (r i).2) ∧ ∀ i, i < n → Ints w (r i).1 (l.getD i []).length (r i).2 (l.getD i [])
  size : l.length = n
  cap : Cap a n c
theorem Grid.kept {w w' : World} {a : Option Addr} {n c : Nat} {l : List (List Int)} (h : Grid w a n c l) (q : Kept w w' none) : Grid w' a n c l := by
  obtain ⟨⟨r, h1, h2⟩, h3, h4⟩ := h
  exact ⟨⟨r, h1.kept q, fun i hi => (h2 i hi).kept q⟩, h3, h4⟩
/-- A site's lists lie where they should. -/
structure Sat (w : World) (X : Sa) (S : St) : Prop where
  g : Lie w X.g S.groups.length 3 (fun i j => grV (S.gr i) j)
  a : Lie w X.a S.apart.length 1 (fun i _ => .int .u32 (S.ap i : Int))
  b : Grid w X.b S.between.length X.bc S.between
  p : Lie w X.p S.phases.length 5 (fun i j => phV (S.ph i) j)
  e : Lie w X.e S.eyes.length 4 (fun i j => eyV (S.ey i) j)
  l : Plans w X.l S.plans.length X.lc S.plans
  gk : Cap X.g S.groups.length X.gc
  ak : Cap X.a S.apart.length X.ac
  pk : Cap X.p S.phases.length X.pc
  ek : Cap X.e S.eyes.length X.ec
  gr : ∀ g ∈ S.groups, g.kind < 256 ∧ i64B g.min ∧ i64B g.yellow
  ar : ∀ x ∈ S.apart, x < 4294967296
  pr : ∀ p ∈ S.phases, p.groups < 4294967296 ∧ i64B p.min ∧ i64B p.max ∧ i64B p.gap
  er : ∀ e ∈ S.eyes, i64B e.phase ∧ i64B e.on ∧ i64B e.off ∧ i64B e.turns
  nr : i64B S.id ∧ i64B S.watch ∧ i64B S.feed ∧ i64B S.heal ∧ i64B S.low ∧ i64B S.high
theorem Sat.kept {w w' : World} {X : Sa} {S : St} (h : Sat w X S) (q : Kept w w' none) : Sat w' X S :=
  ⟨h.g.kept q, h.a.kept q, h.b.kept q, h.p.kept q, h.e.kept q, h.l.kept q, h.gk, h.ak, h.pk, h.ek, h.gr, h.ar, h.pr, h.er, h.nr⟩
/-- A site in block B. -/
structure Sbox (w : World) (B : Nat) (X : Sa) (S : St) : Prop where
  c0 : w.cell? ⟨B, 0, none⟩ = some (.int .i64 S.id)
  c1 : w.cell? ⟨B, 1, none⟩ = some (.slice X.g S.groups.length X.gc)
  c2 : w.cell? ⟨B, 2, none⟩ = some (.slice X.a S.apart.length X.ac)
  c3 : w.cell? ⟨B, 3, none⟩ = some (.slice X.b S.between.length X.bc)
  c4 : w.cell? ⟨B, 4, none⟩ = some (.slice X.p S.phases.length X.pc)
  c5 : w.cell? ⟨B, 5, none⟩ = some (.slice X.e S.eyes.length X.ec)
  c6 : w.cell? ⟨B, 6, none⟩ = some (.int .i64 S.watch)
  c7 : w.cell? ⟨B, 7, none⟩ = some (.int .i64 S.feed)
  c8 : w.cell? ⟨B, 8, none⟩ = some (.int .i64 S.heal)
  c9 : w.cell? ⟨B, 9, none⟩ = some (.int .i64 S.low)
  c10 : w.cell? ⟨B, 10, none⟩ = some (.int .i64 S.high)
  c11 : w.cell? ⟨B, 11, none⟩ = some (.slice X.l S.plans.length X.lc)
  sat : Sat w X S
theorem cell_kept0 {w w' : World} {B j : Nat} {v : Value} (h : w.cell? ⟨B, j, none⟩ = some v) (q : Kept w w' none) : w'.cell? ⟨B, j, none⟩ = some v :=
  (World.cell?_of_block (w := w) (a := ⟨B, j, none⟩) (q.block B (block_lt h) (by simp))).trans h
theorem Sbox.kept {w w' : World} {B : Nat} {X : Sa} {S : St} (h : Sbox w B X S) (q : Kept w w' none) : Sbox w' B X S :=
  ⟨cell_kept0 h.c0 q, cell_kept0 h.c1 q, cell_kept0 h.c2 q, cell_kept0 h.c3 q, cell_kept0 h.c4 q, cell_kept0 h.c5 q, cell_kept0 h.c6 q, cell_kept0 h.c7 q, cell_kept0 h.c8 q, cell_kept0 h.c9 q, cell_kept0 h.c10 q, cell_kept0 h.c11 q, h.sat.kept q⟩
theorem Sbox.lt {w : World} {B : Nat} {X : Sa} {S : St} (h : Sbox w B X S) : B < w.heap.size := block_lt h.c0
theorem sbox_alloc {w : World} {X : Sa} {S : St} (h : Sat w X S) (t : TypeId) : Sbox (w.alloc (.cells #[.int .i64 S.id, .slice X.g S.groups.length X.gc, .slice X.a S.apart.length X.ac, .slice X.b S.between.length X.bc, .slice X.p S.phases.length X.pc, .slice X.e S.eyes.length X.ec, .int .i64 S.watch, .int .i64 S.feed, .int .i64 S.heal, .int .i64 S.low, .int .i64 S.high, .slice X.l S.plans.length X.lc] t)) w.heap.size X S :=
  ⟨by simp [World.cell?_alloc_mark], by simp [World.cell?_alloc_mark], by simp [World.cell?_alloc_mark], by simp [World.cell?_alloc_mark], by simp [World.cell?_alloc_mark], by simp [World.cell?_alloc_mark], by simp [World.cell?_alloc_mark], by simp [World.cell?_alloc_mark], by simp [World.cell?_alloc_mark], by simp [World.cell?_alloc_mark], by simp [World.cell?_alloc_mark], by simp [World.cell?_alloc_mark], h.kept (Kept.alloc _ _ _ _ _)⟩

/-! ### The elements -/
theorem Sat.grAt {w : World} {X : Sa} {S : St} (h : Sat w X S) {i : Nat} (hi : i < S.groups.length) : ∃ b off, X.g = some ⟨b, off, none⟩ ∧ w.cell? ⟨b, off + i * 3, none⟩ = some (.int .u8 ((S.gr i).kind : Int)) ∧ w.cell? ⟨b, off + i * 3 + 1, none⟩ = some (.int .i64 (S.gr i).min) ∧ w.cell? ⟨b, off + i * 3 + 2, none⟩ = some (.int .i64 (S.gr i).yellow) := by
  obtain ⟨b, off, e, _, hc⟩ := h.g.at_ (by omega)
  exact ⟨b, off, e, hc i hi 0 (by omega), hc i hi 1 (by omega), hc i hi 2 (by omega)⟩
theorem Sat.apAt {w : World} {X : Sa} {S : St} (h : Sat w X S) {n : Nat} (hn : 0 < n) (hl : n ≤ S.apart.length) : ∃ b off, X.a = some ⟨b, off, none⟩ ∧ ∀ i, i < n → w.cell? ⟨b, off + i, none⟩ = some (.int .u32 (S.ap i : Int)) := by
  obtain ⟨b, off, e, _, hc⟩ := h.a.one (by omega)
  exact ⟨b, off, e, fun i hi => hc i (by omega)⟩
theorem Sat.phAt {w : World} {X : Sa} {S : St} (h : Sat w X S) {i : Nat} (hi : i < S.phases.length) : ∃ b off, X.p = some ⟨b, off, none⟩ ∧ w.cell? ⟨b, off + i * 5, none⟩ = some (.int .u32 ((S.ph i).groups : Int)) ∧ w.cell? ⟨b, off + i * 5 + 1, none⟩ = some (.int .i64 (S.ph i).min) ∧ w.cell? ⟨b, off + i * 5 + 2, none⟩ = some (.int .i64 (S.ph i).max) ∧ w.cell? ⟨b, off + i * 5 + 3, none⟩ = some (.int .i64 (S.ph i).gap) ∧ w.cell? ⟨b, off + i * 5 + 4, none⟩ = some (.bool (S.ph i).always) := by
  obtain ⟨b, off, e, _, hc⟩ := h.p.at_ (by omega)
  exact ⟨b, off, e, hc i hi 0 (by omega), hc i hi 1 (by omega), hc i hi 2 (by omega), hc i hi 3 (by omega), hc i hi 4 (by omega)⟩
theorem Sat.eyAt {w : World} {X : Sa} {S : St} (h : Sat w X S) {i : Nat} (hi : i < S.eyes.length) : ∃ b off, X.e = some ⟨b, off, none⟩ ∧ w.cell? ⟨b, off + i * 4, none⟩ = some (.int .i64 (S.ey i).phase) ∧ w.cell? ⟨b, off + i * 4 + 1, none⟩ = some (.int .i64 (S.ey i).on) ∧ w.cell? ⟨b, off + i * 4 + 2, none⟩ = some (.int .i64 (S.ey i).off) ∧ w.cell? ⟨b, off + i * 4 + 3, none⟩ = some (.int .i64 (S.ey i).turns) := by
  obtain ⟨b, off, e, _, hc⟩ := h.e.at_ (by omega)
  exact ⟨b, off, e, hc i hi 0 (by omega), hc i hi 1 (by omega), hc i hi 2 (by omega), hc i hi 3 (by omega)⟩
theorem Grid.at_ {w : World} {a : Option Addr} {n c : Nat} {l : List (List Int)} (h : Grid w a n c l) {i : Nat} (hi : i < n) : ∃ b off a' c', a = some ⟨b, off, none⟩ ∧ w.cell? ⟨b, off + i, none⟩ = some (.slice a' (l.getD i []).length c') ∧ Ints w a' (l.getD i []).length c' (l.getD i []) := by
  obtain ⟨r, h1, h2⟩ := h.ex
  obtain ⟨b, off, e, _, hc⟩ := h1.one (by omega)
  exact ⟨b, off, (r i).1, (r i).2, e, hc i hi, h2 i hi⟩
theorem Plans.at_ {w : World} {a : Option Addr} {n c : Nat} {l : List Pl} (h : Plans w a n c l) {i : Nat} (hi : i < n) : ∃ b off a' c', a = some ⟨b, off, none⟩ ∧ w.cell? ⟨b, off + i * 3, none⟩ = some (.int .i64 (l.getD i q0).cycle) ∧ w.cell? ⟨b, off + i * 3 + 1, none⟩ = some (.int .i64 (l.getD i q0).offset) ∧ w.cell? ⟨b, off + i * 3 + 2, none⟩ = some (.slice a' (l.getD i q0).splits.length c') ∧ Ints w a' (l.getD i q0).splits.length c' (l.getD i q0).splits := by
  obtain ⟨r, h1, h2⟩ := h.ex
  obtain ⟨b, off, e, _, hc⟩ := h1.at_ (by omega)
  exact ⟨b, off, (r i).1, (r i).2, e, hc i hi 0 (by omega), hc i hi 1 (by omega), hc i hi 2 (by omega), h2 i hi⟩
theorem Ints.at_ {w : World} {a : Option Addr} {n c : Nat} {l : List Int} (h : Ints w a n c l) (hp : 0 < n) : ∃ b off, a = some ⟨b, off, none⟩ ∧ b < w.heap.size ∧ ∀ i, i < n → w.cell? ⟨b, off + i, none⟩ = some (.int .i64 (l.getD i 0)) := by
  obtain ⟨b, off, e, hb, hc⟩ := h.lie.one hp
  exact ⟨b, off, e, hb, fun i hi => hc i hi⟩

end Go.Proofs.YtoahbpdgbiachaaDoor

/-
  THE CONTRACTS of Go's math/bits.OnesCount32 and TrailingZeros32, and of Count and Least over them.
-/
namespace Go.Proofs.YtoahbpdgbiachaaDoor
open Go.RowKit Go.Lib Go.Deep
set_option linter.unusedVariables false
set_option linter.unusedSimpArgs false

/-- How many bits a byte has, as the string that Go keeps. -/
def popL : List UInt8 := (List.range 256).map fun n => UInt8.ofNat (cnt n 8)
def popS : ByteArray := ByteArray.mk popL.toArray
theorem popS_size : popS.size = 256 := by show popL.toArray.size = 256; simp [popL]
theorem popS_get (n : Nat) (h : n < popS.size) : (popS[n]'h).toNat = cnt n 8 := by
  have hn : n < 256 := by rw [popS_size] at h; exact h
  show (popL.toArray[n]'_).toNat = _
  have := cnt_le n 8
  simp [popL]
  omega
theorem hide_pop (S : ByteArray) (hS : S = popS) (l : List UInt8) (h : l = popL) : ByteArray.mk l.toArray = S := by rw [h, hS]; rfl
/-- The number of bits of a byte, of an integer. -/
def popV (x : Int) : Int := (cnt x.toNat 8 : Int)
theorem popV_bd (x : Int) : 0 ≤ popV x ∧ popV x ≤ 8 := by unfold popV; have := cnt_le x.toNat 8; omega
theorem low8 (n : Int) (h0 : 0 ≤ n) (h1 : n < 4294967296) : bits .and .u32 n 255 = n % 256 := by
  have h := u32_and n 255 h0 h1 (by omega) (by omega)
  have e : n.toNat &&& 255 = n.toNat % 2 ^ 8 := Nat.and_two_pow_sub_one_eq_mod n.toNat 8
  have e2 : (255 : Int).toNat = 255 := rfl
  rw [h, e2, e]
  omega
/-- The four bytes. -/
theorem four (S : Nat) (hS : S < 4294967296) : popV ((S : Int) / 16777216) + popV ((S : Int) / 65536 % 256) + popV ((S : Int) / 256 % 256) + popV ((S : Int) % 256) = ((cnt S 32 : Nat) : Int) := by
  have e0 : cnt S 32 = cnt S 8 + (cnt (S / 256) 8 + (cnt (S / 65536) 8 + cnt (S / 16777216) 8)) := by
    rw [show 32 = 8 + 24 from rfl, cnt_split, show 24 = 8 + 16 from rfl, cnt_split, show 16 = 8 + 8 from rfl, cnt_split, Nat.div_div_eq_div_mul, Nat.div_div_eq_div_mul]
  have m : ∀ x : Nat, cnt (x % 256) 8 = cnt x 8 := fun x => cnt_mod x 8
  unfold popV
  have t1 : ((S : Int) / 16777216).toNat = S / 16777216 := by omega
  have t2 : ((S : Int) / 65536 % 256).toNat = S / 65536 % 256 := by omega
  have t3 : ((S : Int) / 256 % 256).toNat = S / 256 % 256 := by omega
  have t4 : ((S : Int) % 256).toNat = S % 256 := by omega
  rw [t1, t2, t3, t4, m, m, m, e0]
  omega

theorem popV_nat (x : Int) : ((cnt x.toNat 8 : Nat) : Int) = popV x := rfl
/-! ### The least bit, by Go's table -/
def deB : List Int := [0, 1, 28, 2, 29, 14, 24, 3, 30, 22, 20, 15, 25, 17, 4, 8, 31, 27, 13, 23, 21, 19, 16, 7, 26, 12, 18, 6, 11, 5, 10, 9]
/-- The table lies in the program's first variable. -/
def Tabb (w : World) : Prop := ∀ i, i < 32 → w.cell? ⟨1, i, none⟩ = some (.int .u8 (deB.getD i 0))
theorem Tabb.lt {w : World} (h : Tabb w) : 1 < w.heap.size := by
  by_cases hh : 1 < w.heap.size
  · exact hh
  · have hn : w.heap[1]? = none := Array.getElem?_eq_none (by omega)
    have := h 0 (by omega)
    simp [World.cell?, hn] at this
theorem Tabb.keptR {w w' : World} {r : Option Nat} (h : Tabb w) (k : Kept w w' r) (hr : some 1 ≠ r) : Tabb w' := fun i hi =>
  (World.cell?_of_block (w := w) (a := ⟨1, i, none⟩) (k.block 1 h.lt hr)).trans (h i hi)
theorem Tabb.kept {w w' : World} (h : Tabb w) (k : Kept w w' none) : Tabb w' := h.keptR k (by simp)
/-- Where the least bit's place stands in the table. -/
def spot (k : Nat) : Nat := 2 ^ k * 125613361 % 4294967296 / 134217728
theorem spot_lt (k : Nat) : spot k < 32 := by unfold spot; omega
theorem spot_tab : ∀ k, k < 32 → deB.getD (spot k) 0 = (k : Int) := by decide +kernel
theorem zeros_any (S : Nat) (w : World) (hS : S < 4294967296) (h0 : 0 < S) (ht : Tabb w) : Calls Tryd.prog 128 #[.int .u32 S] w fun e w' => e = .returned (.int .i64 ((lowN 32 S : Nat) : Int)) ∧ w' = w := by
  have hk := (lowN_spec 32 S h0 (by simpa using hS)).1
  have hand : bits .and .u32 (S : Int) ((4294967296 - S : Nat) : Int) = ((2 ^ lowN 32 S : Nat) : Int) := by
    rw [u32_and_nat S _ hS (by omega)]
    have := and_neg 32 S h0 (by simpa using hS)
    rw [← this]
  have hsp := spot_tab _ hk
  have hlt := spot_lt (lowN 32 S)
  have hcell := ht (spot (lowN 32 S)) hlt
  rw [hsp] at hcell
  have hneg : -(S : Int) % 4294967296 = ((4294967296 - S : Nat) : Int) := by omega
  have hoff : (bits BinOp.and IntKind.u32 (S : Int) (-(S : Int) % 4294967296) * 125613361 % 4294967296 / 134217728).toNat = spot (lowN 32 S) := by
    rw [hneg, hand]
    unfold spot
    generalize 2 ^ lowN 32 S = P
    have e : (P : Int) * 125613361 % 4294967296 / 134217728 = ((P * 125613361 % 4294967296 / 134217728 : Nat) : Int) := by simp
    rw [e]
    exact Int.toNat_natCast _
  have hcell' : w.cell? ⟨1, (bits BinOp.and IntKind.u32 (S : Int) (-(S : Int) % 4294967296) * 125613361 % 4294967296 / 134217728).toNat, none⟩ = some (.int .u8 ((lowN 32 S : Nat) : Int)) := by rw [hoff]; exact hcell
  clear hsp hlt hcell hneg hoff hand ht
  generalize lowN 32 S = K at *
  go_enter Tryd.func128, Tryd.ntmps128
  go_wp2
  go_ret
  exact ⟨rfl, rfl⟩
theorem least_any (S : Nat) (w : World) (hS : S < 4294967296) (ht : Tabb w) : Calls Tryd.prog 113 #[.int .u32 S] w fun e w' => e = .returned (.int .i64 (leastV S)) ∧ w' = w := by
  unfold leastV
  by_cases h : S = 0
  · rw [if_pos h]
    subst h
    go_enter Tryd.func113, Tryd.ntmps113
    go_wp2_with fail
    go_ret
    exact ⟨rfl, rfl⟩
  · rw [if_neg h]
    have h0 : 0 < S := by omega
    have HT : Hid (Tabb w) := ht
    clear ht
    go_enter Tryd.func113, Tryd.ntmps113
    go_wp2_with (go_at_call 128; refine (zeros_any _ _ hS h0 HT.out).mono ?_; rintro e w ⟨rfl, rfl⟩)
    go_ret
    exact ⟨rfl, rfl⟩

end Go.Proofs.YtoahbpdgbiachaaDoor

/-
  THE CONTRACTS of the conditions that ask nothing of phases' groups.
-/
namespace Go.Proofs.YtoahbpdgbiachaaDoor
open Go.RowKit Go.Lib Go.Deep
set_option linter.unusedVariables false
set_option linter.unusedSimpArgs false

theorem within_any (n lo hi : Int) (w : World) : Calls Tryd.prog 100 #[.int .i64 n, .int .i64 lo, .int .i64 hi] w fun e w' => e = .returned (.bool (inB n lo hi)) ∧ w' = w := by
  go_enter Tryd.func100, Tryd.ntmps100
  go_wp2
  all_goals
    go_ret
    refine ⟨?_, rfl⟩
    simp [inB, *] <;> (first | omega | (intros; omega))
theorem time_any (n : Int) (w : World) : Calls Tryd.prog 101 #[.int .i64 n] w fun e w' => e = .returned (.bool (timeB n)) ∧ w' = w := by
  go_enter Tryd.func101, Tryd.ntmps101
  go_wp2_with (go_at_call 100; refine (within_any _ _ _ _).mono ?_; rintro e w ⟨rfl, rfl⟩)
  go_ret
  exact ⟨rfl, rfl⟩
theorem own_any {B : Nat} {X : Sa} {S : St} {w : World} (h : Sbox w B X S) (i : Int) : Calls Tryd.prog 71 #[.pointer (some ⟨B, 0, none⟩), .int .i64 i] w fun e w' => e = .returned (.bool (ownB S)) ∧ w' = w := by
  have c0 := h.c0
  have c6 := h.c6
  have c7 := h.c7
  have c8 := h.c8
  clear h
  go_enter Tryd.func71, Tryd.ntmps71
  go_wp2_with (first
    | (go_at_call 100; refine (within_any _ _ _ _).mono ?_; rintro e w ⟨rfl, rfl⟩)
    | (go_at_call 101; refine (time_any _ _).mono ?_; rintro e w ⟨rfl, rfl⟩))
  all_goals
    go_ret
    refine ⟨?_, rfl⟩
    simp [ownB, *] <;> (first | omega | (intros; omega))
theorem counts_any {B : Nat} {X : Sa} {S : St} {w : World} (h : Sbox w B X S) (i : Int) : Calls Tryd.prog 70 #[.pointer (some ⟨B, 0, none⟩), .int .i64 i] w fun e w' => e = .returned (.bool (countsB S)) ∧ w' = w := by
  have c1 := h.c1
  have c2 := h.c2
  have c3 := h.c3
  have c4 := h.c4
  have c5 := h.c5
  have c11 := h.c11
  clear h
  go_enter Tryd.func70, Tryd.ntmps70
  go_wp2_with (go_at_call 100; refine (within_any _ _ _ _).mono ?_; rintro e w ⟨rfl, rfl⟩)
  all_goals
    go_ret
    refine ⟨?_, rfl⟩
    simp [countsB, *] <;> (first | omega | (intros; omega) | (rw [Bool.eq_iff_iff]; simp only [Bool.and_eq_true, decide_eq_true_eq]; omega))
theorem group_any {B : Nat} {X : Sa} {S : St} {w : World} (h : Sbox w B X S) (i : Nat) (hi : i < S.groups.length) (hl : S.groups.length ≤ 16) : Calls Tryd.prog 72 #[.pointer (some ⟨B, 0, none⟩), .int .i64 i] w fun e w' => e = .returned (.bool (groupB S i)) ∧ Kept w w' none := by
  have c1 := h.c1
  obtain ⟨b, off, e, k0, k1, k2⟩ := h.sat.grAt hi
  rw [e] at c1
  clear h e
  go_enter Tryd.func72, Tryd.ntmps72
  go_wp2_with (go_at_call 101; refine (time_any _ _).mono ?_; rintro e w ⟨rfl, rfl⟩)
  all_goals
    go_ret
    refine ⟨?_, Kept.alloc _ _ _ _ _⟩
    simp [groupB, *] <;> (first | omega | (intros; omega))
theorem allGroups_any {B : Nat} {X : Sa} {S : St} {w : World} (h : Sbox w B X S) (hl : S.groups.length ≤ 16) : Calls Tryd.prog 102 #[.pointer (some ⟨B, 0, none⟩)] w fun e w' => e = .returned (.int .u32 ((2 ^ S.groups.length - 1 : Nat) : Int)) ∧ w' = w := by
  have c1 := h.c1
  clear h
  have hp := pow_int (i := S.groups.length) (by omega)
  have hq : 1 ≤ 2 ^ S.groups.length := Nat.one_le_two_pow
  have hr := pow_lt32 (i := S.groups.length) (by omega)
  go_enter Tryd.func102, Tryd.ntmps102
  go_wp2
  go_ret
  refine ⟨?_, rfl⟩
  refine Eq.trans (b := Ending.returned (.int .u32 (((2 : Int) ^ S.groups.length % 4294967296 - 1) % 4294967296))) ?_ (ret_int ?_)
  · simp
  · rw [hp]; omega
/-- Numbers of groups alone. -/
theorem low_andn (x n : Nat) (hx : x < 4294967296) (hn : n ≤ 32) : (x &&& (4294967295 - (2 ^ n - 1)) = 0) ↔ x < 2 ^ n := by
  have hb : ∀ j, (4294967295 - (2 ^ n - 1)).testBit j = (decide (j < 32) && !decide (j < n)) := by
    intro j
    have h : 2 ^ n - 1 < 2 ^ 32 := by
      have : 2 ^ n ≤ 2 ^ 32 := Nat.pow_le_pow_right (by omega) hn
      have : 1 ≤ 2 ^ n := Nat.one_le_two_pow
      omega
    have := Nat.testBit_two_pow_sub_succ h j
    rw [Nat.testBit_two_pow_sub_one] at this
    rw [← this]
    congr 1
    omega
  constructor
  · intro h
    apply Nat.lt_pow_two_of_testBit
    intro j hj
    have := congrArg (fun y => y.testBit j) h
    simp only [Nat.testBit_and, hb, Nat.zero_testBit] at this
    cases hx2 : x.testBit j with
    | false => rfl
    | true =>
      have := lt_bit hx hx2
      simp_all
      omega
  · intro h
    apply Nat.eq_of_testBit_eq
    intro j
    rw [Nat.testBit_and, hb, Nat.zero_testBit]
    by_cases hj : j < n
    · simp [hj]
    · rw [Nat.testBit_lt_two_pow (Nat.lt_of_lt_of_le h (Nat.pow_le_pow_right (by omega) (by omega)))]
      rfl

end Go.Proofs.YtoahbpdgbiachaaDoor

/-
  THE CONTRACTS of apartHolds, betweenHolds, allGroupsServed, eyeHolds.
-/
namespace Go.Proofs.YtoahbpdgbiachaaDoor
open Go.RowKit Go.Lib Go.Deep
set_option linter.unusedVariables false
set_option linter.unusedSimpArgs false

theorem has_n (S i : Nat) (w : World) (hS : S < 4294967296) (hi : i < 32) : Calls Tryd.prog 103 #[.int .u32 S, .int .i64 i] w fun e w' => e = .returned (.bool (S.testBit i)) ∧ w' = w := by
  rw [← has_in hi]; exact has_any S i w hS
theorem has_is (S i : Nat) (b : Bool) (w : World) (hS : S < 4294967296) (hi : i < 32) (h : S.testBit i = b) : Calls Tryd.prog 103 #[.int .u32 S, .int .i64 i] w fun e w' => e = .returned (.bool b) ∧ w' = w := by
  rw [← h]; exact has_n S i w hS hi
set_option maxHeartbeats 1000000 in
theorem apart_any {B : Nat} {X : Sa} {S : St} {w : World} (h : Sbox w B X S) (a : Nat) (ha : a < S.groups.length) (hO : Okay S) : Calls Tryd.prog 73 #[.pointer (some ⟨B, 0, none⟩), .int .i64 a] w fun e w' => e = .returned (.bool (apartB S a)) ∧ ∃ m, w' = w.drewN m := by
  have c1 := h.c1
  have c2 := h.c2
  have hg16 := hO.ng.2
  have hna := hO.na
  have HB := Hid.mk' h
  obtain ⟨b, off, e, hc⟩ := h.sat.apAt (n := S.groups.length) (by omega) (by omega)
  rw [e] at c2
  have HC := Hid.mk' hc
  have ka := hc a ha
  have hr : ∀ i, S.ap i < 4294967296 := fun i => by
    by_cases hi : i < S.apart.length
    · exact h.sat.ar _ (getD_mem hi)
    · unfold St.ap; rw [List.getD_eq_getElem?_getD, List.getElem?_eq_none (by omega)]; simp
  have HR := Hid.mk' hr
  have har := hr a
  have hpl : 2 ^ S.groups.length - 1 < 4294967296 := by have := pow_lt32 (i := S.groups.length) (by omega); omega
  have han := u32_andNot_nat (S.ap a) (2 ^ S.groups.length - 1) har hpl
  have hlo := low_andn (S.ap a) S.groups.length har (by omega)
  by_cases hlow : S.ap a < 2 ^ S.groups.length
  · have hz := hlo.2 hlow
    have hz2 : (bits .andNot .u32 (S.ap a : Int) ((2 ^ S.groups.length - 1 : Nat) : Int) != 0) = false := by rw [han, hz]; rfl
    clear han hlo hz hc hr h e
    cases hself : (S.ap a).testBit a with
    | true =>
      have hans : apartB S a = false := by simp [apartB, hself]
      have HA := Hid.mk' hans
      clear hans
      go_enter Tryd.func73, Tryd.ntmps73
      go_wp2
      go_quiet ((first | (go_at_call 102; exact Calls.quiet_of_same (allGroups_any (HB.out.kept (Kept.drewN _ _ _)) hg16)) | (go_at_call 103; exact Calls.quiet_of_same (has_is _ _ _ _ har (by omega) hself))))
      go_wp2
      go_ret
      exact ⟨by rw [HA.out]; rfl, _, rfl⟩
    | false =>
      go_enter Tryd.func73, Tryd.ntmps73
      go_wp2
      go_quiet ((first | (go_at_call 102; exact Calls.quiet_of_same (allGroups_any (HB.out.kept (Kept.drewN _ _ _)) hg16)) | (go_at_call 103; exact Calls.quiet_of_same (has_is _ _ _ _ har (by omega) hself))))
      go_wp2
      go_loopw [34] (fun i wr => ∃ k : Nat, k ≤ S.groups.length ∧ i = .int .i64 k ∧ (∀ b, b < k → (S.ap a).testBit b = (S.ap b).testBit a) ∧ ∃ m, wr = w.drewN m) (fun i _ => S.groups.length - (intOf i).toNat)
      case atStart => exact ⟨0, Nat.zero_le _, rfl, fun b hb => by omega, _, rfl⟩
      case round =>
        obtain ⟨k, hk, rfl, hall, m, rfl⟩ := hrel
        have HALL := Hid.mk' hall
        have HLOW := Hid.mk' hlow
        have HSELF := Hid.mk' hself
        clear hall
        by_cases hlt : k < S.groups.length
        · have kb := HC.out k hlt
          have hbr := HR.out k
          cases heq : ((S.ap a).testBit k == (S.ap k).testBit a) with
          | true =>
            have hne : (!((S.ap a).testBit k == (S.ap k).testBit a)) = false := by rw [heq]; rfl
            have HEQ := Hid.mk' heq
            clear heq
            go_wp2_with (first | (go_at_call_of 103 (S.ap a); refine (has_n _ _ _ har (by omega)).mono ?_; rintro e w' ⟨rfl, rfl⟩) | (go_at_call 103; refine (has_n _ _ _ hbr (by omega)).mono ?_; rintro e w' ⟨rfl, rfl⟩))
            all_goals
              go_roundw
              case rel => exact ⟨k + 1, by omega, by go_num, fun b hb => by
                by_cases e : b = k
                · subst e; exact eq_of_beq HEQ.out
                · exact HALL.out b (by omega), _, rfl⟩
              case measure => simp [intOf]; omega
          | false =>
            have hne : (!((S.ap a).testBit k == (S.ap k).testBit a)) = true := by rw [heq]; rfl
            have hans : apartB S a = false := by
              unfold apartB
              rw [allB_no hlt heq]
              simp
            have HA := Hid.mk' hans
            clear heq hans
            go_wp2_with (first | (go_at_call_of 103 (S.ap a); refine (has_n _ _ _ har (by omega)).mono ?_; rintro e w' ⟨rfl, rfl⟩) | (go_at_call 103; refine (has_n _ _ _ hbr (by omega)).mono ?_; rintro e w' ⟨rfl, rfl⟩))
            all_goals
              go_ret
              exact ⟨by rw [HA.out]; rfl, _, rfl⟩
        · have hkk : k = S.groups.length := by omega
          have hans : apartB S a = true := by
            unfold apartB
            rw [allB_iff.2 (fun b hb => by rw [HALL.out b (by omega)]; exact beq_self_eq_true _), HSELF.out, decide_eq_true HLOW.out]
            rfl
          have HA := Hid.mk' hans
          clear hans
          go_wp2
          go_ret
          exact ⟨by rw [HA.out]; rfl, _, rfl⟩
  · have hz := fun e => hlow (hlo.1 e)
    have hz2 : (bits .andNot .u32 (S.ap a : Int) ((2 ^ S.groups.length - 1 : Nat) : Int) != 0) = true := by
      rw [han, bne_iff_ne]
      intro e
      exact hz (by omega)
    have hans : apartB S a = false := by simp [apartB, hlow]
    have HA := Hid.mk' hans
    clear han hlo hz hc hr h e hans
    go_enter Tryd.func73, Tryd.ntmps73
    go_wp2
    go_quiet ((go_at_call 102; exact Calls.quiet_of_same (allGroups_any (HB.out.kept (Kept.drewN _ _ _)) hg16)))
    go_wp2
    go_ret
    exact ⟨by rw [HA.out]; rfl, _, rfl⟩

end Go.Proofs.YtoahbpdgbiachaaDoor

/-
  THE CONTRACTS of betweenHolds, allGroupsServed, eyeHolds.
-/
namespace Go.Proofs.YtoahbpdgbiachaaDoor
open Go.RowKit Go.Lib Go.Deep
set_option linter.unusedVariables false
set_option linter.unusedSimpArgs false

theorem Sat.apr {w : World} {X : Sa} {S : St} (h : Sat w X S) (i : Nat) : S.ap i < 4294967296 := by
  by_cases hi : i < S.apart.length
  · exact h.ar _ (getD_mem hi)
  · unfold St.ap; rw [List.getD_eq_getElem?_getD, List.getElem?_eq_none (by omega)]; simp
theorem Sat.phr {w : World} {X : Sa} {S : St} (h : Sat w X S) (i : Nat) : (S.ph i).groups < 4294967296 := by
  by_cases hi : i < S.phases.length
  · exact (h.pr _ (getD_mem hi)).1
  · unfold St.ph; rw [List.getD_eq_getElem?_getD, List.getElem?_eq_none (by omega)]; simp [p0]
theorem within_is (n lo hi : Int) (b : Bool) (w : World) (h : inB n lo hi = b) : Calls Tryd.prog 100 #[.int .i64 n, .int .i64 lo, .int .i64 hi] w fun e w' => e = .returned (.bool b) ∧ w' = w := by
  rw [← h]; exact within_any n lo hi w
theorem time_is (n : Int) (b : Bool) (w : World) (h : timeB n = b) : Calls Tryd.prog 101 #[.int .i64 n] w fun e w' => e = .returned (.bool b) ∧ w' = w := by
  rw [← h]; exact time_any n w
set_option maxHeartbeats 1000000 in
theorem between_any {B : Nat} {X : Sa} {S : St} {w : World} (h : Sbox w B X S) (a : Nat) (ha : a < S.groups.length) (hO : Okay S) : Calls Tryd.prog 74 #[.pointer (some ⟨B, 0, none⟩), .int .i64 a] w fun e w' => e = .returned (.bool (betweenB S a)) ∧ ∃ m, w' = w.drewN m := by
  have c1 := h.c1
  have c2 := h.c2
  have c3 := h.c3
  have hg16 := hO.ng.2
  have hna := hO.na
  have hnb := hO.nb
  obtain ⟨b, off, e, hc⟩ := h.sat.apAt (n := S.groups.length) (by omega) (by omega)
  have ka := hc a ha
  have har := h.sat.apr a
  obtain ⟨bg, og, eg, g0, g1, g2⟩ := h.sat.grAt ha
  obtain ⟨bb, ob, a', c', eb, kb, hI⟩ := h.sat.b.at_ (i := a) (by omega)
  rw [e] at c2
  rw [eg] at c1
  rw [eb] at c3
  have HI := Hid.mk' hI
  have HNA := Hid.mk' hna
  have HNB := Hid.mk' hnb
  have hlm : (S.between.getD a []).length ≤ 9223372036854775807 := by have := hI.cap.room; have := hI.cap.max; omega
  have hab : a < S.between.length := by omega
  have haa : a < S.apart.length := by omega
  clear hc h e eg eb hI hna hnb hO g0 g1
  generalize hL : S.between.getD a [] = L at *
  have HL := Hid.mk' hL
  clear hL
  by_cases hlen : L.length = S.groups.length
  · have hn0 : (((L.length : Nat) : Int) != ((S.groups.length : Nat) : Int)) = false := by rw [hlen]; simp
    have HLEN := Hid.mk' hlen
    obtain ⟨bi, oi, ea, _, hc⟩ := HI.out.at_ (by omega)
    have HC := Hid.mk' hc
    subst ea
    have hln : (L.length : Int) = (S.groups.length : Int) := by omega
    clear hlen hc
    go_enter Tryd.func74, Tryd.ntmps74
    go_wp2
    go_quiet (fail)
    go_wp2
    go_loopw [31] (fun i wr => ∃ k : Nat, k ≤ S.groups.length ∧ i = .int .i64 k ∧ (∀ b, b < k → betB S a b = true) ∧ ∃ m, wr = w.drewN m) (fun i _ => S.groups.length - (intOf i).toNat)
    case atStart => exact ⟨0, Nat.zero_le _, rfl, fun b hb => by omega, _, rfl⟩
    case round =>
      obtain ⟨k, hk, rfl, hall, m, rfl⟩ := hrel
      have HALL := Hid.mk' hall
      clear hall
      by_cases hlt : k < S.groups.length
      · have hlt2 : k < L.length := by have := HLEN.out; omega
        have kk := HC.out k hlt2
        have hbt : Hid (S.bt a k = L.getD k 0) := by show S.bt a k = _; unfold St.bt; rw [HL.out]
        have ebt := hbt.out
        rw [← ebt] at kk
        clear ebt
        have hans : betB S a k = false → betweenB S a = false := fun hh => by
          unfold betweenB
          rw [allB_no hlt hh]
          simp
        have HA := Hid.mk' hans
        clear hans
        cases hb : (S.ap a).testBit k with
        | true =>
          cases hv : inB (S.bt a k) (S.gr a).yellow 1048576 with
          | true =>
            have HV : Hid (betB S a k = true) := by show betB S a k = true; unfold betB; rw [if_pos hb]; exact hv
            go_wp2_with (first | (go_at_call 103; refine (has_is _ _ _ _ har (by omega) hb).mono ?_; rintro e w' ⟨rfl, rfl⟩) | (go_at_call 100; refine (within_any _ _ _ _).mono ?_; rintro e w' ⟨rfl, rfl⟩))
            go_roundw
            case rel => exact ⟨k + 1, by omega, by go_num, fun b hb => (by
              by_cases e : b = k
              · subst e; exact HV.out
              · exact HALL.out b (by omega)), _, rfl⟩
            case measure => simp [intOf]; omega
          | false =>
            have HV : Hid (betweenB S a = false) := HA.out (by unfold betB; rw [if_pos hb]; exact hv)
            go_wp2_with (first | (go_at_call 103; refine (has_is _ _ _ _ har (by omega) hb).mono ?_; rintro e w' ⟨rfl, rfl⟩) | (go_at_call 100; refine (within_any _ _ _ _).mono ?_; rintro e w' ⟨rfl, rfl⟩))
            go_ret
            exact ⟨by rw [HV.out]; rfl, _, rfl⟩
        | false =>
          have hcv : inB (S.bt a k) 0 0 = betB S a k := by
            unfold betB inB
            rw [if_neg (by simp [hb])]
            rw [Bool.eq_iff_iff]
            simp
            omega
          cases hv : inB (S.bt a k) 0 0 with
          | true =>
            have HV : Hid (betB S a k = true) := by show betB S a k = true; rw [← hcv]; exact hv
            clear hcv
            go_wp2_with (first | (go_at_call 103; refine (has_is _ _ _ _ har (by omega) hb).mono ?_; rintro e w' ⟨rfl, rfl⟩) | (go_at_call 100; refine (within_any _ _ _ _).mono ?_; rintro e w' ⟨rfl, rfl⟩))
            go_roundw
            case rel => exact ⟨k + 1, by omega, by go_num, fun b hb => (by
              by_cases e : b = k
              · subst e; exact HV.out
              · exact HALL.out b (by omega)), _, rfl⟩
            case measure => simp [intOf]; omega
          | false =>
            have HV : Hid (betweenB S a = false) := HA.out (by rw [← hcv]; exact hv)
            clear hcv
            go_wp2_with (first | (go_at_call 103; refine (has_is _ _ _ _ har (by omega) hb).mono ?_; rintro e w' ⟨rfl, rfl⟩) | (go_at_call 100; refine (within_any _ _ _ _).mono ?_; rintro e w' ⟨rfl, rfl⟩))
            go_ret
            exact ⟨by rw [HV.out]; rfl, _, rfl⟩
      · have hkk : k = S.groups.length := by omega
        have hans : betweenB S a = true := by
          unfold betweenB
          rw [allB_iff.2 (fun b hb => HALL.out b (by omega)), HL.out, decide_eq_true HLEN.out]
          rfl
        have HA := Hid.mk' hans
        clear hans
        go_wp2
        go_ret
        exact ⟨by rw [HA.out]; rfl, _, rfl⟩
  · have hn0 : (((L.length : Nat) : Int) != ((S.groups.length : Nat) : Int)) = true := by rw [bne_iff_ne]; omega
    have hans : betweenB S a = false := by unfold betweenB; rw [HL.out, decide_eq_false hlen]; rfl
    have HA := Hid.mk' hans
    clear hans
    go_enter Tryd.func74, Tryd.ntmps74
    go_wp2
    go_quiet (fail)
    go_wp2
    go_ret
    exact ⟨by rw [HA.out]; rfl, _, rfl⟩

theorem unionN_lt {S : St} (h : ∀ i, (S.ph i).groups < 4294967296) : ∀ k, unionN S k < 4294967296
  | 0 => by simp [unionN]
  | k + 1 => Nat.or_lt_two_pow (n := 32) (unionN_lt h k) (h k)
set_option maxHeartbeats 1000000 in
theorem served_any {B : Nat} {X : Sa} {S : St} {w : World} (h : Sbox w B X S) (i : Int) (hO : Okay S) : Calls Tryd.prog 76 #[.pointer (some ⟨B, 0, none⟩), .int .i64 i] w fun e w' => e = .returned (.bool (servedB S)) ∧ Kept w w' none := by
  have c4 := h.c4
  have hg16 := hO.ng.2
  have hp8 := hO.np
  have HB := Hid.mk' h
  have hu : ∀ k, unionN S k < 4294967296 := unionN_lt h.sat.phr
  have HU := Hid.mk' hu
  clear hu h
  go_enter Tryd.func76, Tryd.ntmps76
  go_wp2
  go_loopw [5, 13] (fun s i wr => ∃ k : Nat, k ≤ S.phases.length ∧ i = .int .i64 k ∧ s = .int .u32 ((unionN S k : Nat) : Int) ∧ Kept w wr none) (fun _ i _ => S.phases.length - (intOf i).toNat)
  case atStart => exact ⟨0, Nat.zero_le _, rfl, rfl, Kept.refl _ _⟩
  case round =>
    obtain ⟨k, hk, rfl, rfl, hkw⟩ := hrel
    by_cases hlt : k < S.phases.length
    · obtain ⟨b, off, e, k0, k1, k2, k3, k4⟩ := (HB.out.kept hkw).sat.phAt hlt
      have hor := u32_or_nat (unionN S k) (S.ph k).groups (HU.out k) (HB.out.sat.phr k)
      rw [e] at *
      go_wp2
      go_roundw
      case rel => exact ⟨k + 1, by omega, by go_num, by rw [unionN], hkw.tr (Kept.alloc _ _ _ _ _)⟩
      case measure => simp [intOf]; omega
    · have hkk : k = S.phases.length := by omega
      subst hkk
      have hans : (((unionN S S.phases.length : Nat) : Int) == ((2 ^ S.groups.length - 1 : Nat) : Int)) = servedB S := by
        unfold servedB
        rw [Bool.eq_iff_iff]
        simp
        omega
      have HA := Hid.mk' hans
      clear hans
      go_wp2_with (go_at_call 102; refine (allGroups_any (HB.out.kept hkw) hg16).mono ?_; rintro e w' ⟨rfl, rfl⟩)
      go_ret
      exact ⟨ret_bool HA.out, hkw⟩
set_option maxHeartbeats 1000000 in
theorem eye_any {B : Nat} {X : Sa} {S : St} {w : World} (h : Sbox w B X S) (i : Nat) (hi : i < S.eyes.length) (hO : Okay S) : Calls Tryd.prog 77 #[.pointer (some ⟨B, 0, none⟩), .int .i64 i] w fun e w' => e = .returned (.bool (eyeB S i)) ∧ Kept w w' none := by
  have c4 := h.c4
  have c5 := h.c5
  have hp8 := hO.np
  have hle := hO.ne
  have hBl := h.lt
  obtain ⟨b, off, e, k0, k1, k2, k3⟩ := h.sat.eyAt hi
  rw [e] at c5
  clear h e hO
  have hkA : ∀ m, Kept w ((w.alloc (.cells #[.int .i64 (S.ey i).phase, .int .i64 (S.ey i).on, .int .i64 (S.ey i).off, .int .i64 (S.ey i).turns] 116)).drewN m) none := fun m => (Kept.alloc _ _ _ _ _ : Kept w _ none).tr (Kept.drewN _ _ _)
  cases h1 : inB (S.ey i).phase 0 ((S.phases.length : Int) - 1) with
  | false =>
    have HA : Hid (eyeB S i = false) := by show eyeB S i = false; simp [eyeB, h1]
    go_enter Tryd.func77, Tryd.ntmps77
    go_wp2
    go_quiet ((go_at_call 100; exact Calls.quiet_of_same (within_is _ _ _ _ _ h1)))
    go_wp2
    go_ret
    exact ⟨by rw [HA.out]; rfl, hkA _⟩
  | true =>
    cases h2 : timeB (S.ey i).on with
    | false =>
      have HA : Hid (eyeB S i = false) := by show eyeB S i = false; simp [eyeB, h1, h2]
      go_enter Tryd.func77, Tryd.ntmps77
      go_wp2
      go_quiet ((first | (go_at_call 100; exact Calls.quiet_of_same (within_is _ _ _ _ _ h1)) | (go_at_call 101; exact Calls.quiet_of_same (time_is _ _ _ h2))))
      go_wp2
      go_ret
      exact ⟨by rw [HA.out]; rfl, hkA _⟩
    | true =>
      cases h3 : timeB (S.ey i).off with
      | false =>
        have HA : Hid (eyeB S i = false) := by show eyeB S i = false; simp [eyeB, h1, h2, h3]
        go_enter Tryd.func77, Tryd.ntmps77
        go_wp2
        go_quiet ((first | (go_at_call 100; exact Calls.quiet_of_same (within_is _ _ _ _ _ h1)) | (go_at_call_of 101 (S.ey i).on; exact Calls.quiet_of_same (time_is _ _ _ h2)) | (go_at_call 101; exact Calls.quiet_of_same (time_is _ _ _ h3))))
        go_wp2
        go_ret
        exact ⟨by rw [HA.out]; rfl, hkA _⟩
      | true =>
        have HA : Hid (eyeB S i = inB (S.ey i).turns 1 64) := by show eyeB S i = _; simp [eyeB, h1, h2, h3]
        go_enter Tryd.func77, Tryd.ntmps77
        go_wp2
        go_quiet ((first | (go_at_call_of 100 (S.ey i).phase; exact Calls.quiet_of_same (within_is _ _ _ _ _ h1)) | (go_at_call 100; exact Calls.quiet_of_same (within_any _ _ _ _)) | (go_at_call_of 101 (S.ey i).on; exact Calls.quiet_of_same (time_is _ _ _ h2)) | (go_at_call 101; exact Calls.quiet_of_same (time_is _ _ _ h3))))
        go_wp2
        go_ret
        exact ⟨by rw [HA.out]; rfl, hkA _⟩

end Go.Proofs.YtoahbpdgbiachaaDoor

/-
  THE CONTRACT of members: the numbers of a set, one after another, to whatever body.
-/
namespace Go.Proofs.YtoahbpdgbiachaaDoor
open Go.RowKit Go.Lib Go.Deep Go.Shelf
set_option linter.unusedVariables false
set_option linter.unusedSimpArgs false
attribute [local go_sem] Oper.semAt_some

/-- A number of a set. -/
abbrev Mb (S : Nat) := { x : Nat // x ∈ memb S }
def vals {S : Nat} (l : List (Mb S)) : List Nat := l.map (·.1)
theorem vals_snoc {S : Nat} (l : List (Mb S)) (x : Mb S) : vals (l ++ [x]) = vals l ++ [x.1] := by simp [vals]
theorem Tabb.below {n : Nat} {w w' : World} (h : Tabb w) (hn : 1 < n) (k : Below n w w') : Tabb w' := fun i hi => (k.cell (p := ⟨1, i, none⟩) hn).trans (h i hi)
set_option maxRecDepth 100000 in
set_option maxHeartbeats 1000000 in
theorem members1_in (n : Nat) (hn : 1 ≤ n) (l Bn n₀ S : Nat) (hS : S < 4294967296) (hn₀ : 1 < n₀) (J Jx : List (Mb S) → World → Prop)
    (hY : ∀ pre (x : Mb S) W, J pre W → pre.length < (memb S).length → YieldAt Fence.wide (n - 1) Tryd.prog l #[.int .i64 ((x.1 : Nat) : Int)] W fun e W' =>
      (e = .returned (.bool true) ∧ J (pre ++ [x]) W' ∧ Below n₀ W W') ∨ (e = .returned (.bool false) ∧ Jx (pre ++ [x]) W'))
    (W : World) (hBn : W.cell? ⟨Bn, 0, none⟩ = some (.int .u32 S)) (hT : Tabb W) (h0 : J [] W) :
    CallsIn Fence.wide n Tryd.prog 112 #[.func (.yield l) #[] #[], .pointer (some ⟨Bn, 0, none⟩)] W fun e W' => (∃ v, e = .returned v) ∧
      ((∃ ys, vals ys = memb S ∧ J ys W') ∨ (∃ pre, vals pre <+: memb S ∧ Jx pre W')) := by
  refine callsIn_of_wp Tryd.func112 rfl trivial ?_ rfl
  simp only [Tryd.ntmps112, List.size_toArray, List.length_cons, List.length_nil, Nat.reduceAdd, Nat.reduceSub, Array.replicate_succ, Array.replicate_zero, List.push_toArray, List.append_toArray, List.nil_append, List.cons_append]
  gi_wp2
  gi_loopw [3] (fun r wr => ∃ (pre : List (Mb S)) (R : Nat), r = .int .u32 (R : Int) ∧ R < 4294967296 ∧ memb S = vals pre ++ memb R ∧ Tabb wr ∧ J pre wr) (fun r _ => (intOf r).toNat)
  case atStart =>
    exact ⟨[], S, rfl, hS, rfl, hT, h0⟩
  case round =>
    obtain ⟨pre, R, rfl, hR, hx, hTr, hJs⟩ := hrel
    by_cases hz : R = 0
    · subst hz
      gi_wp2
      go_end0
      exact ⟨⟨_, rfl⟩, .inl ⟨pre, by rw [hx, memb_zero, List.append_nil], hJs⟩⟩
    · have hR0 : 0 < R := by omega
      have hm := memb_low hR0 hR
      have hlt := (lowN_spec 32 R hR0 (by simpa using hR)).1
      have hlv : leastV R = ((lowN 32 R : Nat) : Int) := by unfold leastV; rw [if_neg hz]
      have hw : withoutV R ((lowN 32 R : Nat) : Int) < R := by
        obtain ⟨h1, h2, h3⟩ := lowN_spec 32 R hR0 (by simpa using hR)
        rw [without_in h1, without_yes R _ hR h1 h2]
        have : 0 < 2 ^ lowN 32 R := Nat.two_pow_pos _
        omega
      have hnz : ((R : Int) != 0) = true := by rw [bne_iff_ne]; omega
      have HT := Hid.mk' hTr
      have HM := Hid.mk' hm
      have HX := Hid.mk' hx
      have HLV := Hid.mk' hlv
      clear hTr hm hx hlv
      generalize hq : lowN 32 R = q at *
      have HQ := Hid.mk' hq
      clear hq
      generalize hr : withoutV R (q : Int) = R' at *
      have HR' := Hid.mk' hr
      clear hr
      have hqm : q ∈ memb S := by rw [HX.out, HM.out]; simp
      obtain ⟨fn, tmps, assign, body, hy, hRR⟩ := hY pre ⟨q, hqm⟩ wr hJs (by rw [HX.out, HM.out]; simp [vals])
      gi_wp2_with (first
        | (refine ⟨trivial, ?_⟩; gi_at_call 113; refine (callsIn_wide.2 (least_any R _ hR HT.out)).mono ?_; rintro e w' ⟨rfl, rfl⟩; rw [HLV.out])
        | (refine ⟨trivial, ?_⟩; gi_at_call 114; refine (callsIn_wide.2 (without_any R _ _ hR)).mono ?_; rintro e w' ⟨rfl, rfl⟩; rw [HR'.out]))
      refine hRR.mono ?_
      rintro e W3 (⟨rfl, hJ3, hk3⟩ | ⟨rfl, hJx3⟩)
      · gi_wp2
        go_roundw
        case rel => exact ⟨_, R', rfl, by omega, HX.out.trans (by rw [HM.out, vals_snoc]; simp), HT.out.below hn₀ hk3, hJ3⟩
        case measure => simp [intOf]; omega
      · gi_wp2
        refine bodyPost_ret (results_none rfl _ _ _) rfl ?_
        exact ⟨⟨_, rfl⟩, .inr ⟨_, ⟨memb R', (HX.out.trans (by rw [HM.out, vals_snoc]; simp)).symm⟩, hJx3⟩⟩
set_option maxHeartbeats 1000000 in
theorem members_in (n S : Nat) (w : World) :
    CallsIn Fence.wide n Tryd.prog 104 #[.int .u32 S] w fun e w' => e = .returned (.func (.func 112) #[] #[.pointer (some ⟨w.heap.size, 0, none⟩)]) ∧ w' = w.alloc (.cells #[.int .u32 S] 65) := by
  refine callsIn_of_wp Tryd.func104 rfl trivial ?_ rfl
  simp only [Tryd.ntmps104, List.size_toArray, List.length_cons, List.length_nil, Nat.reduceAdd, Nat.reduceSub, Array.replicate_succ, Array.replicate_zero, List.push_toArray, List.append_toArray, List.nil_append, List.cons_append]
  gi_wp2
  go_ret
  exact ⟨rfl, rfl⟩
theorem members_stops (n : Nat) (hn : 1 ≤ n) (Bn n₀ S : Nat) (w : World) (hBn : Bn < w.heap.size) (hS : S < 4294967296) (hn₀ : 1 < n₀) (hw : n₀ ≤ w.heap.size)
    (hc : w.cell? ⟨Bn, 0, none⟩ = some (.int .u32 S)) (hT : Tabb w) :
    SeqStopsK Fence.wide n Tryd.prog 112 #[.pointer (some ⟨Bn, 0, none⟩)] (fun x : Mb S => #[Value.int .i64 (x.1 : Int)]) (Below n₀) (fun ys => vals ys = memb S) (fun pre => vals pre <+: memb S) (memb S).length w := fun l J Jx W hW _ _ hY h0 =>
  members1_in n hn l Bn n₀ S hS hn₀ J Jx hY W ((hW.cell (p := ⟨Bn, 0, none⟩) hBn).trans hc) (hT.below (by omega) hW) h0

end Go.Proofs.YtoahbpdgbiachaaDoor

/-
  A REGION THAT DRAWS ITS ORDER, IN A ROUND of a loop over a function, walked as everywhere: the laws of regions, at the fence that asks nothing.
-/
namespace Go.Proofs.YtoahbpdgbiachaaDoor
open Go.RowKit Go.Lib Go.Deep Go.Shelf
set_option linter.unusedVariables false
set_option linter.unusedSimpArgs false

def plainB (o : Oper) : Bool := match o.op with
  | .defer _ => false
  | _ => true
theorem plainB_ne {o : Oper} (h : plainB o = true) : ∀ c, o.op ≠ .defer c := by
  intro c e
  unfold plainB at h
  rw [e] at h
  cases h
theorem upon_in {n l : Nat} {P : Program} {o : Oper} {a : Act} {next : Act → World → Prop} {Q0 : Act → World → Prop} {Q : Exit → Act → World → Prop} {r : Result Next}
    (h : o.upon P a next (fun e a w => e = .normal ∧ Q0 a w) r) : o.uponIn (Fence.wide.inRound l) n P a next Q r := by
  unfold Oper.upon at h
  unfold Oper.uponIn
  split at h
  · exact h
  · exact h
  · exact h
  · refine ⟨fun hd => by simp [Fence.wide, Fence.inRound] at hd, CallsIn.inRound l ((callsIn_wide.2 h).mono ?_)⟩
    intro e w' he
    cases e with
    | returned v => exact he
    | panicked c => exact absurd he.1 (by simp)
    | outgrown => obtain ⟨_, _, h1, _⟩ := he; exact absurd h1 (by simp)
  · refine ⟨fun hd => by simp [Fence.wide, Fence.inRound] at hd, ?_⟩
    intro c cs _
    obtain ⟨v, w', hr, hs⟩ := h c cs
    exact ⟨v, w', hr, stepsIn_wide.2 hs⟩
  · exact absurd h.1 (by simp)
  · exact h.elim
theorem any_round {n l : Nat} {P : Program} {md : Region.Mode} {ops : Array Oper} {Q0 : Act → World → Prop} {Q : Exit → Act → World → Prop} (hp : ops.all plainB = true) (hQ : ∀ a w, Q0 a w → Q .normal a w) : ∀ (fuel : Nat) (listed : Array Bool) (a : Act) (w : World),
    wpAny P md ops (fun e a w => e = .normal ∧ Q0 a w) fuel listed a w → wpAnyIn (Fence.wide.inRound l) n P md ops Q fuel listed a w
  | 0, _, _, _, h => ⟨h.1, hQ _ _ h.2.2⟩
  | fuel + 1, listed, a, w, h => by
    refine ⟨fun h0 => hQ _ _ (h.1 h0).2, fun i hi => ?_⟩
    have h1 := h.2 i hi
    unfold wpOp at h1
    unfold wpOpIn
    cases ho : ops[i]? with
    | none =>
      simp only [ho] at h1
      exact any_round hp hQ fuel _ _ _ h1
    | some o =>
      simp only [ho] at h1
      have hpo : plainB o = true := by
        rw [Array.all_eq_true] at hp
        obtain ⟨hlt, e⟩ := Array.getElem?_eq_some_iff.1 ho
        rw [← e]
        exact hp i hlt
      simp only
      split
      · rename_i hw
        rw [if_pos hw] at h1
        rcases h1 with h1 | ⟨_, _, _, h1, _⟩
        · refine ⟨fun f _ => trivial, ?_⟩
          rw [show (Fence.wide.inRound l).round = some l from rfl, Oper.semAt_eq _ _ _ (plainB_ne hpo)]
          refine upon_in (Q0 := Q0) ?_
          exact Oper.wp_mono (fun a' w' h' => any_round hp hQ fuel _ a' w' h') h1
        · exact absurd h1 (by simp)
      · rename_i hw
        rw [if_neg hw] at h1
        exact ⟨fun f _ => trivial, any_round hp hQ fuel _ _ _ h1⟩
/-- The beginning: S holds of the world behind the draw. -/
theorem held_round {S : World → Prop} {n l : Nat} {P : Program} {id : Nat} {ops : Array Oper} {Q : Exit → Act → World → Prop} {a : Act} {w : World} (hm : P.follows .mixedOrders = true) (hp : ops.all plainB = true) (hS : S w.drew)
    (h : S w.drew → wpAnyH P .any ops (fun e a w => e = .normal ∧ Q .normal a w) S ops.size (Array.replicate ops.size false) a w.drew) : (Code.region id ops true).wpIn (Fence.wide.inRound l) n P Q a w :=
  wpIn_region_any hm (any_round hp (fun _ _ h => h) _ _ _ _ (wpAny_of_held _ _ _ _ (h hS)))

theorem upon_wide {n : Nat} {P : Program} {o : Oper} {a : Act} {next : Act → World → Prop} {Q0 : Act → World → Prop} {Q : Exit → Act → World → Prop} {r : Result Next}
    (h : o.upon P a next (fun e a w => e = .normal ∧ Q0 a w) r) : o.uponIn Fence.wide n P a next Q r := by
  unfold Oper.upon at h
  unfold Oper.uponIn
  split at h
  · exact h
  · exact h
  · exact h
  · refine ⟨fun hd => by simp [Fence.wide, Fence.inRound] at hd, (callsIn_wide.2 h).mono ?_⟩
    intro e w' he
    cases e with
    | returned v => exact he
    | panicked c => exact absurd he.1 (by simp)
    | outgrown => obtain ⟨_, _, h1, _⟩ := he; exact absurd h1 (by simp)
  · refine ⟨fun hd => by simp [Fence.wide, Fence.inRound] at hd, ?_⟩
    intro c cs _
    obtain ⟨v, w', hr, hs⟩ := h c cs
    exact ⟨v, w', hr, stepsIn_wide.2 hs⟩
  · exact absurd h.1 (by simp)
  · exact h.elim
theorem any_wide {n : Nat} {P : Program} {md : Region.Mode} {ops : Array Oper} {Q0 : Act → World → Prop} {Q : Exit → Act → World → Prop} (hp : ops.all plainB = true) (hQ : ∀ a w, Q0 a w → Q .normal a w) : ∀ (fuel : Nat) (listed : Array Bool) (a : Act) (w : World),
    wpAny P md ops (fun e a w => e = .normal ∧ Q0 a w) fuel listed a w → wpAnyIn Fence.wide n P md ops Q fuel listed a w
  | 0, _, _, _, h => ⟨h.1, hQ _ _ h.2.2⟩
  | fuel + 1, listed, a, w, h => by
    refine ⟨fun h0 => hQ _ _ (h.1 h0).2, fun i hi => ?_⟩
    have h1 := h.2 i hi
    unfold wpOp at h1
    unfold wpOpIn
    cases ho : ops[i]? with
    | none =>
      simp only [ho] at h1
      exact any_wide hp hQ fuel _ _ _ h1
    | some o =>
      simp only [ho] at h1
      have hpo : plainB o = true := by
        rw [Array.all_eq_true] at hp
        obtain ⟨hlt, e⟩ := Array.getElem?_eq_some_iff.1 ho
        rw [← e]
        exact hp i hlt
      simp only
      split
      · rename_i hw
        rw [if_pos hw] at h1
        rcases h1 with h1 | ⟨_, _, _, h1, _⟩
        · refine ⟨fun f _ => trivial, ?_⟩
          rw [show Fence.wide.round = none from rfl, Oper.semAt_eq _ _ _ (plainB_ne hpo)]
          refine upon_wide (Q0 := Q0) ?_
          exact Oper.wp_mono (fun a' w' h' => any_wide hp hQ fuel _ a' w' h') h1
        · exact absurd h1 (by simp)
      · rename_i hw
        rw [if_neg hw] at h1
        exact ⟨fun f _ => trivial, any_wide hp hQ fuel _ _ _ h1⟩
/-- The beginning: S holds of the world behind the draw. -/
theorem held_wide {S : World → Prop} {n : Nat} {P : Program} {id : Nat} {ops : Array Oper} {Q : Exit → Act → World → Prop} {a : Act} {w : World} (hm : P.follows .mixedOrders = true) (hp : ops.all plainB = true) (hS : S w.drew)
    (h : S w.drew → wpAnyH P .any ops (fun e a w => e = .normal ∧ Q .normal a w) S ops.size (Array.replicate ops.size false) a w.drew) : (Code.region id ops true).wpIn Fence.wide n P Q a w :=
  wpIn_region_any hm (any_wide hp (fun _ _ h => h) _ _ _ _ (wpAny_of_held _ _ _ _ (h hS)))

theorem held_take {P : Program} {ops : Array Oper} {Q : Exit → Act → World → Prop} {md : Region.Mode} {S : World → Prop} {i d : Nat} {oi : Oper} {v : Value} {fuel : Nat} {listed : Array Bool} {a : Act} {w : World} (hi : ops[i]? = some oi) (hd : oi.dst = some d)
    (hs : Region.noSelect ops = true) (hf : Region.free md ops listed i = true) (hr : (Region.ready md ops listed).contains i = true)
    (hQ : ∀ c a w, Q (.panic c) (a.put oi.dst v) w → Q (.panic c) a w) (hy : YieldsIf P ops S oi v a) (hS : S w)
    (h : wpAnyH P md ops Q S fuel (listed.setIfInBounds i true) { tmps := a.tmps.setIfInBounds d v, defers := a.defers } w) : wpAnyH P md ops Q S (fuel + 1) listed a w :=
  wpAnyH_take hi hs hf hr hQ hy hS (by rw [hd]; exact h)

end Go.Proofs.YtoahbpdgbiachaaDoor

