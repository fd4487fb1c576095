/-
  Texts joined: some of those that the proofs of this seat stand on.
-/
import Derived.Test.YtlabjamkaebnjaaRows
import Derived.Laws.BitsAllLaws
import Derived.WalkKit
import Derived.WalkSpells
import Derived.WalkSmall
import Derived.Deep.QuietTactic
import Derived.BigQuiet
import Derived.Deep.OwnRows
import Derived.Laws.Tables
import Derived.Laws.IdiomStrings
import Derived.OpenShut
import Derived.ProofKit
/-
  THE MATHS OF THE STAGE: a number's bytes, its small bytes, the sum of bytes, as functions on natural numbers.
-/
namespace Go.Proofs.Ytlabjamkaebnjaa
set_option linter.unusedVariables false
set_option linter.unusedSimpArgs false

/-! ### Bytes of a width -/
/-- A number's bytes of a width. -/
def leb : Nat → Nat → List Nat
  | 0, _ => []
  | w + 1, n => n % 256 :: leb w (n / 256)
theorem leb_length : ∀ w n, (leb w n).length = w
  | 0, _ => rfl
  | w + 1, n => by simp [leb, leb_length w]
theorem leb_lt : ∀ w n x, x ∈ leb w n → x < 256
  | 0, _, x, h => by simp [leb] at h
  | w + 1, n, x, h => by
    simp [leb] at h
    rcases h with h | h
    · omega
    · exact leb_lt w _ x h
theorem leb_getD : ∀ w n i, i < w → (leb w n).getD i 0 = n / 256 ^ i % 256
  | 0, _, i, h => by omega
  | w + 1, n, 0, h => by simp [leb]
  | w + 1, n, i + 1, h => by
    have := leb_getD w (n / 256) i (by omega)
    simp only [leb, List.getD_cons_succ]
    rw [this, Nat.div_div_eq_div_mul, Nat.pow_succ, Nat.mul_comm]
/-- The number whose bytes these are. -/
def v256 : List Nat → Nat
  | [] => 0
  | x :: L => x + 256 * v256 L
theorem v256_leb : ∀ w n, v256 (leb w n) = n % 256 ^ w
  | 0, n => by simp [leb, v256, Nat.mod_one]
  | w + 1, n => by
    rw [leb, v256, v256_leb w, Nat.pow_succ, Nat.mul_comm (256 ^ w) 256, Nat.mod_mul]
theorem v256_lt : ∀ L : List Nat, (∀ x ∈ L, x < 256) → v256 L < 256 ^ L.length
  | [], _ => by simp [v256]
  | x :: L, h => by
    have h1 := v256_lt L (fun y hy => h y (List.mem_cons_of_mem _ hy))
    have h2 := h x (List.mem_cons_self ..)
    rw [v256, List.length_cons, Nat.pow_succ]
    omega
theorem v256_snoc : ∀ (L : List Nat) (x : Nat), v256 (L ++ [x]) = v256 L + 256 ^ L.length * x
  | [], x => by simp [v256]
  | y :: L, x => by
    have := v256_snoc L x
    simp only [List.cons_append, v256, List.length_cons, this, Nat.pow_succ, Nat.mul_add]
    rw [Nat.mul_comm (256 ^ L.length) 256, Nat.mul_assoc]
    omega
theorem v256_inj : ∀ (L M : List Nat), L.length = M.length → (∀ x ∈ L, x < 256) → (∀ x ∈ M, x < 256) → v256 L = v256 M → L = M
  | [], [], _, _, _, _ => rfl
  | [], y :: M, h, _, _, _ => by simp at h
  | x :: L, [], h, _, _, _ => by simp at h
  | x :: L, y :: M, h, h1, h2, e => by
    have a := h1 x (List.mem_cons_self ..)
    have b := h2 y (List.mem_cons_self ..)
    simp only [v256] at e
    have e1 : x = y := by omega
    have e2 : v256 L = v256 M := by omega
    rw [e1, v256_inj L M (by simpa using h) (fun z hz => h1 z (List.mem_cons_of_mem _ hz)) (fun z hz => h2 z (List.mem_cons_of_mem _ hz)) e2]
theorem takeN_snoc (L : List Nat) (k : Nat) (h : k < L.length) : L.take (k + 1) = L.take k ++ [L.getD k 0] := by
  rw [List.take_succ_eq_append_getElem h]; simp [h]
theorem v256_take (L : List Nat) (k : Nat) (h : k < L.length) : v256 (L.take (k + 1)) = v256 (L.take k) + 256 ^ k * L.getD k 0 := by
  rw [takeN_snoc L k h, v256_snoc, List.length_take, Nat.min_eq_left (by omega)]
theorem v256_take_lt (L : List Nat) (k : Nat) (h : k ≤ L.length) (hb : ∀ x ∈ L, x < 256) : v256 (L.take k) < 256 ^ k := by
  have := v256_lt (L.take k) (fun x hx => hb x (List.mem_of_mem_take hx))
  rwa [List.length_take, Nat.min_eq_left h] at this
/-- Put's answer. -/
def putB (n w : Nat) : Bool := decide (1 ≤ w) && decide (w ≤ 8) && decide (n / 256 ^ w = 0)

/-! ### Small bytes -/
/-- A number's small bytes, so many steps. -/
def smlF : Nat → Nat → List Nat
  | 0, n => [n]
  | f + 1, n => if n < 128 then [n] else (n % 128 + 128) :: smlF f (n / 128)
theorem smlF_eq : ∀ f g n, n ≤ f → n ≤ g → smlF f n = smlF g n
  | 0, 0, n, _, _ => rfl
  | 0, g + 1, n, h, _ => by rw [smlF, smlF, if_pos (by omega)]
  | f + 1, 0, n, _, h => by rw [smlF, smlF, if_pos (by omega)]
  | f + 1, g + 1, n, h, k => by
    rw [smlF, smlF]
    by_cases hn : n < 128
    · rw [if_pos hn, if_pos hn]
    · rw [if_neg hn, if_neg hn, smlF_eq f g (n / 128) (by omega) (by omega)]
/-- A number's small bytes. -/
def sml (n : Nat) : List Nat := smlF n n
theorem sml_lo {n : Nat} (h : n < 128) : sml n = [n] := by
  unfold sml
  cases n with
  | zero => rfl
  | succ m => rw [smlF, if_pos h]
theorem sml_hi {n : Nat} (h : 128 ≤ n) : sml n = (n % 128 + 128) :: sml (n / 128) := by
  unfold sml
  obtain ⟨m, rfl⟩ : ∃ m, n = m + 1 := ⟨n - 1, by omega⟩
  rw [smlF, if_neg (by omega), smlF_eq m ((m + 1) / 128) ((m + 1) / 128) (by omega) (by omega)]
theorem sml_pos (n : Nat) : 0 < (sml n).length := by
  by_cases h : n < 128
  · simp [sml_lo h]
  · simp [sml_hi (show 128 ≤ n by omega)]
theorem sml_lt (n : Nat) : ∀ x ∈ sml n, x < 256 := by
  induction n using Nat.strongRecOn with
  | ind n ih =>
    intro x hx
    by_cases h : n < 128
    · rw [sml_lo h] at hx; simp at hx; omega
    · rw [sml_hi (by omega)] at hx
      rcases List.mem_cons.1 hx with rfl | hx
      · omega
      · exact ih (n / 128) (by omega) x hx
theorem sml_len : ∀ (k n : Nat), n < 128 ^ (k + 1) → (sml n).length ≤ k + 1
  | 0, n, h => by rw [sml_lo (by simpa using h)]; simp
  | k + 1, n, h => by
    by_cases hn : n < 128
    · simp [sml_lo hn]
    · rw [sml_hi (by omega), List.length_cons]
      have := sml_len k (n / 128) (Nat.div_lt_of_lt_mul (by rw [Nat.pow_succ, Nat.mul_comm] at h; exact h))
      omega
theorem sml_len10 (n : Nat) (h : n < 18446744073709551616) : (sml n).length ≤ 10 := sml_len 9 n (Nat.lt_of_lt_of_le h (by decide))
/-- The number whose small bytes these are. -/
def v7 : List Nat → Nat
  | [] => 0
  | x :: L => x % 128 + 128 * v7 L
theorem v7_snoc : ∀ (L : List Nat) (x : Nat), v7 (L ++ [x]) = v7 L + 128 ^ L.length * (x % 128)
  | [], x => by simp [v7]
  | y :: L, x => by
    have := v7_snoc L x
    simp only [List.cons_append, v7, List.length_cons, this, Nat.pow_succ, Nat.mul_add]
    rw [Nat.mul_comm (128 ^ L.length) 128, Nat.mul_assoc]
    omega
theorem v7_lt : ∀ L : List Nat, v7 L < 128 ^ L.length
  | [] => by simp [v7]
  | x :: L => by
    have h1 := v7_lt L
    rw [v7, List.length_cons, Nat.pow_succ]
    omega
theorem v7_take (L : List Nat) (k : Nat) (h : k < L.length) : v7 (L.take (k + 1)) = v7 (L.take k) + 128 ^ k * (L.getD k 0 % 128) := by
  rw [takeN_snoc L k h, v7_snoc, List.length_take, Nat.min_eq_left (by omega)]
theorem v7_take_lt (L : List Nat) (k : Nat) (h : k ≤ L.length) : v7 (L.take k) < 128 ^ k := by
  have := v7_lt (L.take k)
  rwa [List.length_take, Nat.min_eq_left h] at this
theorem v7_sml (n : Nat) : v7 (sml n) = n := by
  induction n using Nat.strongRecOn with
  | ind n ih =>
    by_cases h : n < 128
    · simp [sml_lo h, v7]; omega
    · rw [sml_hi (by omega), v7, ih (n / 128) (by omega)]; omega

/-- The first byte below 128. -/
def fe : List Nat → Nat
  | [] => 0
  | x :: L => if x < 128 then 0 else fe L + 1
theorem fe_le : ∀ L, fe L ≤ L.length
  | [] => by simp [fe]
  | x :: L => by
    have := fe_le L
    rw [fe]; split
    · omega
    · simp; omega
theorem fe_ge : ∀ (L : List Nat) j, j < fe L → 128 ≤ L.getD j 0
  | [], j, h => by simp [fe] at h
  | x :: L, j, h => by
    rw [fe] at h
    split at h
    · omega
    · cases j with
      | zero => simp; omega
      | succ j => simpa using fe_ge L j (by omega)
theorem fe_at : ∀ (L : List Nat), fe L < L.length → L.getD (fe L) 0 < 128
  | [], h => by simp at h
  | x :: L, h => by
    rw [fe] at h ⊢
    split
    · simpa
    · rename_i hx
      rw [if_neg hx] at h
      simpa using fe_at L (by simpa using h)
theorem fe_low : ∀ (L : List Nat) k, (∀ j, j < k → 128 ≤ L.getD j 0) → k ≤ fe L
  | [], k, h => by
    cases k with
    | zero => exact Nat.zero_le _
    | succ k => have := h 0 (by omega); simp at this
  | x :: L, k, h => by
    cases k with
    | zero => exact Nat.zero_le _
    | succ k =>
      have h0 := h 0 (by omega)
      simp at h0
      rw [fe, if_neg (by omega)]
      have := fe_low L k (fun j hj => by have := h (j + 1) (by omega); simpa using this)
      omega
theorem fe_eq (L : List Nat) (k : Nat) (h : ∀ j, j < k → 128 ≤ L.getD j 0) (h2 : L.getD k 0 < 128) : fe L = k := by
  have h1 := fe_low L k h
  by_cases hk : fe L = k
  · exact hk
  · have := fe_ge L k (by omega)
    omega
/-- Whether bytes begin with a number's small bytes. -/
def okR (L : List Nat) : Bool := decide (fe L < L.length) && decide (fe L < 10) && (decide (0 < L.getD (fe L) 0) || decide (fe L = 0)) && (decide (L.getD (fe L) 0 < 2) || decide (fe L < 9))
def rdN (L : List Nat) : Nat := if okR L = true then v7 (L.take (fe L + 1)) else 0
def rdK (L : List Nat) : Nat := if okR L = true then fe L + 1 else 0
def rdE (L : List Nat) : Nat := if okR L = true then 0 else 8
theorem okR_iff (L : List Nat) : okR L = true ↔ fe L < L.length ∧ fe L < 10 ∧ (0 < L.getD (fe L) 0 ∨ fe L = 0) ∧ (L.getD (fe L) 0 < 2 ∨ fe L < 9) := by
  unfold okR; simp [and_assoc]
theorem rdN_lt (L : List Nat) : rdN L < 18446744073709551616 := by
  unfold rdN
  split
  · rename_i h
    obtain ⟨h1, h2, h3, h4⟩ := (okR_iff L).1 h
    have hl := fe_at L h1
    rw [v7_take L _ h1]
    have hb := v7_take_lt L (fe L) (by omega)
    generalize v7 (L.take (fe L)) = a at *
    generalize L.getD (fe L) 0 = x at *
    by_cases h9 : fe L < 9
    · have h5 : 128 ^ fe L ≤ 128 ^ 8 := Nat.pow_le_pow_right (by omega) (by omega)
      have h6 : 128 ^ fe L * (x % 128) ≤ 128 ^ 8 * 127 := Nat.mul_le_mul h5 (by omega)
      omega
    · have e9 : fe L = 9 := by omega
      rw [e9] at hb ⊢
      have hx : x % 128 ≤ 1 := by omega
      have h6 : 128 ^ 9 * (x % 128) ≤ 128 ^ 9 * 1 := Nat.mul_le_mul_left _ hx
      omega
  · omega
/-- Small bytes, then anything: what is read. -/
theorem fe_sml : ∀ (k n : Nat) (R : List Nat), n < 128 ^ (k + 1) → fe (sml n ++ R) = (sml n).length - 1
  | 0, n, R, h => by rw [sml_lo (by simpa using h)]; simp [fe]; simpa using h
  | k + 1, n, R, h => by
    by_cases hn : n < 128
    · rw [sml_lo hn]; simp [fe]; omega
    · have ih := fe_sml k (n / 128) R (Nat.div_lt_of_lt_mul (by rw [Nat.pow_succ, Nat.mul_comm] at h; exact h))
      have hp := sml_pos (n / 128)
      rw [sml_hi (by omega), List.cons_append, fe, if_neg (by omega), ih, List.length_cons]
      omega
theorem sml_last : ∀ (k n : Nat), n < 128 ^ (k + 1) → (sml n).getD ((sml n).length - 1) 0 < 128 ∧ (0 < (sml n).getD ((sml n).length - 1) 0 ∨ (sml n).length = 1) ∧ (∀ m, n < 128 ^ m * 2 → (sml n).length ≤ m ∨ (sml n).getD ((sml n).length - 1) 0 < 2)
  | 0, n, h => by
    have h : n < 128 := by simpa using h
    rw [sml_lo h]
    refine ⟨by simpa using h, by simp, fun m hm => ?_⟩
    cases m with
    | zero => right; simpa using hm
    | succ m => left; simp
  | k + 1, n, h => by
    by_cases hn : n < 128
    · rw [sml_lo hn]
      refine ⟨by simpa using hn, by simp, fun m hm => ?_⟩
      cases m with
      | zero => right; simpa using hm
      | succ m => left; simp
    · obtain ⟨i1, i2, i3⟩ := sml_last k (n / 128) (Nat.div_lt_of_lt_mul (by rw [Nat.pow_succ, Nat.mul_comm] at h; exact h))
      have hp := sml_pos (n / 128)
      rw [sml_hi (by omega), List.length_cons]
      obtain ⟨q, hq⟩ : ∃ q, (sml (n / 128)).length = q + 1 := ⟨(sml (n / 128)).length - 1, by omega⟩
      rw [hq] at i1 i2 i3 ⊢
      simp only [Nat.add_sub_cancel] at i1 i2 i3 ⊢
      rw [List.getD_cons_succ]
      refine ⟨i1, ?_, fun m hm => ?_⟩
      · rcases i2 with i2 | i2
        · exact .inl i2
        · left
          by_cases hz : n / 128 < 128
          · have e := sml_lo hz
            rw [e] at hq ⊢
            have : q = 0 := by simpa using hq.symm
            subst this
            simp
            omega
          · rw [sml_hi (show 128 ≤ n / 128 by omega), List.length_cons] at hq
            have := sml_pos (n / 128 / 128)
            omega
      · cases m with
        | zero => exfalso; simp at hm; omega
        | succ m =>
          rcases i3 m (by rw [Nat.pow_succ] at hm; exact Nat.div_lt_of_lt_mul (by rw [← Nat.mul_assoc, Nat.mul_comm 128]; exact hm)) with h | h
          · left; omega
          · right; exact h
theorem read_sml (n : Nat) (R : List Nat) (h : n < 18446744073709551616) : rdE (sml n ++ R) = 0 ∧ rdN (sml n ++ R) = n ∧ rdK (sml n ++ R) = (sml n).length := by
  have hn : n < 128 ^ (9 + 1) := Nat.lt_of_lt_of_le h (by decide)
  have h1 := fe_sml 9 n R hn
  have hp := sml_pos n
  have hl := sml_len10 n h
  obtain ⟨l1, l2, l3⟩ := sml_last 9 n hn
  have l3' := l3 9 (by have : (128 : Nat) ^ 9 * 2 = 18446744073709551616 := by decide
                       omega)
  have hg : (sml n ++ R).getD ((sml n).length - 1) 0 = (sml n).getD ((sml n).length - 1) 0 := by
    simp only [List.getD_eq_getElem?_getD]
    rw [List.getElem?_append_left (by omega)]
  have hok : okR (sml n ++ R) = true := by
    rw [okR_iff, h1, hg]
    refine ⟨by simp; omega, by omega, ?_, ?_⟩
    · rcases l2 with l2 | l2
      · exact .inl l2
      · right; omega
    · rcases l3' with l3' | l3'
      · right; omega
      · exact .inl l3'
  unfold rdE rdN rdK
  rw [if_pos hok, if_pos hok, if_pos hok, h1, Nat.sub_add_cancel hp]
  refine ⟨rfl, ?_, rfl⟩
  rw [List.take_append_of_le_length (Nat.le_refl _), List.take_length, v7_sml]
/-- What is read is what is written. -/
theorem sml_v7 : ∀ (k : Nat) (L : List Nat), k < L.length → (∀ j, j < k → 128 ≤ L.getD j 0) → L.getD k 0 < 128 → (0 < L.getD k 0 ∨ k = 0) → (∀ x ∈ L, x < 256) → sml (v7 (L.take (k + 1))) = L.take (k + 1)
  | 0, [], h, _, _, _, _ => by simp at h
  | 0, x :: L, h, _, hx, _, _ => by
    simp at hx
    simp [v7]
    rw [Nat.mod_eq_of_lt hx, sml_lo hx]
  | k + 1, [], h, _, _, _, _ => by simp at h
  | k + 1, x :: L, h, h1, h2, h3, h4 => by
    have hx := h1 0 (by omega)
    simp at hx
    have hx2 := h4 x (List.mem_cons_self ..)
    have g3 : 0 < L.getD k 0 := by
      rcases h3 with h3 | h3
      · simpa using h3
      · omega
    have ih := sml_v7 k L (by simpa using h) (fun j hj => by have := h1 (j + 1) (by omega); simpa using this) (by simpa using h2) (.inl g3) (fun y hy => h4 y (List.mem_cons_of_mem _ hy))
    have hpos : 0 < v7 (L.take (k + 1)) := by
      rw [v7_take L k (by simpa using h)]
      have : L.getD k 0 % 128 = L.getD k 0 := Nat.mod_eq_of_lt (by simpa using h2)
      rw [this]
      have : 0 < 128 ^ k * L.getD k 0 := Nat.mul_pos (Nat.pow_pos (by omega)) g3
      omega
    rw [List.take_succ_cons, v7, sml_hi (by omega)]
    have e1 : (x % 128 + 128 * v7 (L.take (k + 1))) % 128 + 128 = x := by omega
    have e2 : (x % 128 + 128 * v7 (L.take (k + 1))) / 128 = v7 (L.take (k + 1)) := by omega
    rw [e1, e2, ih]
theorem read_only (L : List Nat) (hb : ∀ x ∈ L, x < 256) (h : okR L = true) : sml (rdN L) = L.take (rdK L) ∧ 1 ≤ rdK L ∧ rdK L ≤ L.length ∧ rdK L ≤ 10 := by
  obtain ⟨h1, h2, h3, h4⟩ := (okR_iff L).1 h
  unfold rdN rdK
  rw [if_pos h, if_pos h]
  exact ⟨sml_v7 _ L h1 (fe_ge L) (fe_at L h1) h3 hb, by omega, by omega, by omega⟩

end Go.Proofs.Ytlabjamkaebnjaa

/-
  WORLDS AND BYTES IN MEMORY, as the contracts of this stage want them; two lists of bytes that are the same.
-/
namespace Go.Proofs.Ytlabjamkaebnjaa
open Go.RowKit Go.Lib Go.Deep
set_option linter.unusedVariables false
set_option linter.unusedSimpArgs false

theorem ret_int {k : IntKind} {a b : Int} (h : a = b) : Ending.returned (.int k a) = .returned (.int k b) := by rw [h]
theorem ret_bool {a b : Bool} (h : a = b) : Ending.returned (.bool a) = .returned (.bool b) := by rw [h]
theorem ret_int2 {k l : IntKind} {a b c d : Int} (h : a = b) (h' : c = d) : Ending.returned (.tuple #[.int k a, .int l c]) = .returned (.tuple #[.int k b, .int l d]) := by rw [h, h']

/-! ### Worlds -/

/-- Nothing that was there has turned, but for block 'row'. -/
abbrev Kept (w w' : World) (row : Option Nat) : Prop := w.grownBy w' row

theorem Kept.drewN (w : World) (m : Nat) (r : Option Nat) : Kept w (w.drewN m) r := ⟨rfl, rfl, rfl, Nat.le_refl _, fun _ _ _ => rfl⟩
theorem Kept.refl (w : World) (r : Option Nat) : Kept w w r := ⟨rfl, rfl, rfl, Nat.le_refl _, fun _ _ _ => rfl⟩
theorem Kept.tr {a b c : World} {r : Option Nat} (h : Kept a b r) (k : Kept b c r) : Kept a c r :=
  ⟨k.os.trans h.os, k.tape.trans h.tape, k.output.trans h.output, Nat.le_trans h.size k.size, fun i hi hr => (k.block i (Nat.lt_of_lt_of_le hi h.size) hr).trans (h.block i hi hr)⟩
theorem Kept.alloc (w : World) (c : Array Value) (t : TypeId) (fr : Nat × Nat) (r : Option Nat) : Kept w (w.alloc (.cells c t fr)) r :=
  ⟨rfl, rfl, rfl, by simp, fun k hk _ => Below.heap_alloc _ _ _ hk⟩
/-- A store into a block that is new. -/
theorem Kept.setNew {a b : World} {r : Option Nat} (h : Kept a b r) {p : Addr} (hp : a.heap.size ≤ p.block) (v : Value) : Kept a (b.setCell p v) r :=
  ⟨h.os, h.tape, h.output, by simpa [World.setCell] using h.size, fun k hk hr => (Below.heap_setCell _ _ _ _ (by omega)).trans (h.block k hk hr)⟩
/-- What grows in a block that is new. -/
theorem Kept.newRow {a b c : World} {r : Option Nat} (h : Kept a b none) (k : Kept b c r) (hr : ∀ i, r = some i → a.heap.size ≤ i) : Kept a c none :=
  ⟨k.os.trans h.os, k.tape.trans h.tape, k.output.trans h.output, Nat.le_trans h.size k.size, fun i hi _ => (k.block i (Nat.lt_of_lt_of_le hi h.size) (fun e => by have := hr i e.symm; omega)).trans (h.block i hi (by simp))⟩
theorem Kept.below {w w' : World} (h : Kept w w' none) : Below w.heap.size w w' := ⟨h.os, h.tape, h.output, h.size, fun k hk => h.block k hk (by simp)⟩
theorem Kept.of_below {w w' : World} (h : Below w.heap.size w w') : Kept w w' none := ⟨h.os, h.tape, h.output, h.size, fun k hk _ => h.block k hk⟩
theorem row_kept {w w' : World} {b : Nat} {t : TypeId} {n : Nat} {f : Nat → Value} {r : Option Nat} (h : w.rowIs b t n f) (k : Kept w w' r) (hr : some b ≠ r) : w'.rowIs b t n f := h.of_block (k.block b h.lt hr)

/-! ### Bytes in memory -/

theorem block_lt {w : World} {a : Addr} {v : Value} (h : w.cell? a = some v) : a.block < w.heap.size := by
  by_cases hh : a.block < w.heap.size
  · exact hh
  · have hn : w.heap[a.block]? = none := Array.getElem?_eq_none (by omega)
    simp [World.cell?, hn] at h

/-- A byte's cell. -/
abbrev byteV (x : Nat) : Value := .int .u8 (x : Int)

/-- The bytes L lie where the slice leads. -/
structure By (w : World) (a : Option Addr) (len : Nat) (L : List Nat) : Prop where
  size : L.length = len
  max : len ≤ 9223372036854775807
  lt : ∀ x ∈ L, x < 256
  at_ : 0 < len → ∃ b off, a = some ⟨b, off, none⟩ ∧ b < w.heap.size ∧ ∀ i, i < len → w.cell? ⟨b, off + i, none⟩ = some (.int .u8 ((L.getD i 0 : Nat) : Int))

theorem By.getD {w : World} {a : Option Addr} {len : Nat} {L : List Nat} (h : By w a len L) (i : Nat) : L.getD i 0 < 256 := by
  by_cases hi : i < L.length
  · have : L.getD i 0 = L[i] := by simp [hi]
    rw [this]; exact h.lt _ (List.getElem_mem hi)
  · simp [show L.length ≤ i by omega]
theorem By.nil (w : World) (a : Option Addr) : By w a 0 [] := ⟨rfl, by omega, fun _ h => (nomatch h), fun h => absurd h (by omega)⟩
theorem By.below {w w' : World} {a : Option Addr} {len : Nat} {L : List Nat} (h : By w a len L) (k : Below w.heap.size w w') : By w' a len L := by
  obtain ⟨h1, h2, h3, h4⟩ := h
  refine ⟨h1, h2, h3, fun hp => ?_⟩
  obtain ⟨b, off, rfl, hb, hc⟩ := h4 hp
  exact ⟨b, off, rfl, Nat.lt_of_lt_of_le hb k.size, fun i hi => (k.cell (p := ⟨b, off + i, none⟩) hb).trans (hc i hi)⟩
theorem By.kept {w w' : World} {a : Option Addr} {len : Nat} {L : List Nat} (h : By w a len L) (k : Kept w w' none) : By w' a len L := by
  obtain ⟨h1, h2, h3, h4⟩ := h
  refine ⟨h1, h2, h3, fun hp => ?_⟩
  obtain ⟨b, off, rfl, hb, hc⟩ := h4 hp
  exact ⟨b, off, rfl, Nat.lt_of_lt_of_le hb k.size, fun i hi => (World.cell?_of_block (w := w) (a := ⟨b, off + i, none⟩) (k.block b hb (by simp))).trans (hc i hi)⟩
theorem By.drewN {w : World} {a : Option Addr} {len : Nat} {L : List Nat} (h : By w a len L) (m : Nat) : By (w.drewN m) a len L := h.kept (Kept.drewN w m none)
/-- The first k of them. -/
theorem By.take {w : World} {a : Option Addr} {len : Nat} {L : List Nat} (h : By w a len L) (k : Nat) (hk : k ≤ len) : By w a k (L.take k) := by
  obtain ⟨h1, h2, h3, h4⟩ := h
  refine ⟨by simp; omega, by omega, fun x hx => h3 x (List.mem_of_mem_take hx), fun hp => ?_⟩
  obtain ⟨b, off, rfl, hb, hc⟩ := h4 (by omega)
  refine ⟨b, off, rfl, hb, fun i hi => ?_⟩
  rw [hc i (by omega)]
  simp [List.getElem?_take, hi]
/-- A row of the call's own. -/
theorem By.row {w : World} {b n : Nat} {t : TypeId} {f : Nat → Value} (h : w.rowIs b t n f) (L : List Nat) (k : Nat) (hk : k ≤ n) (hl : L.length = k) (h2 : k ≤ 9223372036854775807) (hb : ∀ x ∈ L, x < 256) (hf : ∀ i, i < k → f i = .int .u8 ((L.getD i 0 : Nat) : Int)) : By w (some ⟨b, 0, none⟩) k L :=
  ⟨hl, h2, hb, fun _ => ⟨b, 0, rfl, h.lt, fun i hi => by rw [Nat.zero_add, h.cell (by omega), hf i hi]⟩⟩
/-- A list as a row of cells, just laid. -/
theorem By.alloc (w : World) (L : List Nat) (t : TypeId) (fr : Nat × Nat) (cs : Array Value) (hc : ∀ i, i < L.length → cs[i]? = some (.int .u8 ((L.getD i 0 : Nat) : Int))) (h2 : L.length ≤ 9223372036854775807) (hb : ∀ x ∈ L, x < 256) : By (w.alloc (.cells cs t fr)) (some ⟨w.heap.size, 0, none⟩) L.length L :=
  ⟨rfl, h2, hb, fun _ => ⟨_, 0, rfl, by simp, fun i hi => by rw [Nat.zero_add, World.cell?_alloc_mark, hc i hi]⟩⟩

/-- A slice of bytes that came in. -/
theorem by_of {w : World} {a : Option Addr} {len cap : Nat} {zs : List Int}
    (h : (a = none ∧ len = 0 ∧ cap = 0 ∧ zs = []) ∨ ∃ x, a = some x ∧ len ≤ cap ∧ cap ≤ maxLen ∧ zs.length = cap ∧ (∀ i, i < zs.length → w.cell? (x.add i) = some (.int .u8 (zs.getD i 0))) ∧ ∀ n ∈ zs, (Lit.int .u8 n).wf = true) :
    By w a len ((zs.take len).map Int.toNat) := by
  rcases h with ⟨rfl, rfl, rfl, rfl⟩ | ⟨x, rfl, hl, hm, hz, hcell, hwz⟩
  · exact By.nil _ _
  · unfold maxLen at hm
    have hr : ∀ n ∈ zs, 0 ≤ n ∧ n < 256 := fun n hn => by
      have := bounds_u8 (hwz n hn)
      omega
    refine ⟨by simp; omega, by omega, fun y hy => ?_, fun hp => ?_⟩
    · simp only [List.mem_map] at hy
      obtain ⟨z, hz1, rfl⟩ := hy
      have := hr z (List.mem_of_mem_take hz1)
      omega
    · obtain ⟨b, off, rfl, hc⟩ := ints_at hcell (by omega)
      refine ⟨b, off, rfl, block_lt (hc 0 (by omega)), fun i hi => ?_⟩
      rw [hc i (by omega)]
      have hi' : i < zs.length := by omega
      have := hr zs[i] (List.getElem_mem hi')
      have e : ((zs.take len).map Int.toNat).getD i 0 = zs[i].toNat := by
        simp [List.getElem?_take, hi, hi']
      rw [e]
      have e2 : zs.getD i 0 = zs[i] := by simp [hi']
      rw [e2]
      congr 2
      omega

/-! ### Two lists of bytes -/
/-- The bytes as a text. -/
def textOf (L : List Nat) : ByteArray := ⟨(L.map UInt8.ofNat).toArray⟩
theorem Try.uB : Try.prog.underlying 22 = some (.slice 5) := by kernel_rfl
theorem Try.u5 : Try.prog.underlying 5 = some (.int .u8) := by kernel_rfl
theorem Try.uS : Try.prog.underlying 9 = some .string := by kernel_rfl
theorem run_text {w : World} {a : Option Addr} {len : Nat} {L : List Nat} (h : By w a len L) (cap : Nat) : (convert 22 9 (.slice a len cap)).run Try.prog w = .ok (.string (textOf L)) w := by
  obtain ⟨h1, h2, h3, h4⟩ := h
  by_cases hp : 0 < len
  · obtain ⟨b, off, rfl, hb, hc⟩ := h4 hp
    have := run_convert_bytes_back (P := Try.prog) w 22 9 5 ⟨b, off, none⟩ cap (L.map UInt8.ofNat) Try.uB Try.u5 Try.uS (fun j hj => by
      have hj' : j < L.length := by simpa using hj
      rw [Addr.add_lit, hc j (by omega)]
      have e : L.getD j 0 = L[j] := by simp [hj']
      have hx := h3 L[j] (List.getElem_mem hj')
      rw [e]
      simp
      omega)
    rw [List.length_map, h1] at this
    exact this
  · have e0 : len = 0 := by omega
    subst e0
    have e1 : L = [] := List.length_eq_zero_iff.1 h1
    subst e1
    rw [run_convert_bytes_string w 22 9 5 a 0 cap Try.uB Try.u5 Try.uS]
    cases a with
    | none => rfl
    | some x => rfl


end Go.Proofs.Ytlabjamkaebnjaa

