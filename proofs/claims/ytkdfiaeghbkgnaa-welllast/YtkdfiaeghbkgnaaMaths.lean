/-
  THE MATHS OF THE STAGE: a number's bytes, its small bytes, the sum of bytes, as functions on natural numbers.
-/
import Derived.Test.YtkdfiaeghbkgnaaRows
import Derived.Laws.BitsAllLaws
namespace Go.Proofs.Ytkdfiaeghbkgnaa
set_option linter.unusedVariables false
set_option linter.unusedSimpArgs false

/-! ### Bytes of a width -/
/-- A number's bytes of a width. -/
def leb : Nat → Nat → List Nat
  | 0, _ => []
  | w + 1, n => n % 256 :: leb w (n / 256)
theorem leb_length : ∀ w n, (leb w n).length = w
  | 0, _ => rfl
  | w + 1, n => by simp [leb, leb_length w]
theorem leb_lt : ∀ w n x, x ∈ leb w n → x < 256
  | 0, _, x, h => by simp [leb] at h
  | w + 1, n, x, h => by
    simp [leb] at h
    rcases h with h | h
    · omega
    · exact leb_lt w _ x h
theorem leb_getD : ∀ w n i, i < w → (leb w n).getD i 0 = n / 256 ^ i % 256
  | 0, _, i, h => by omega
  | w + 1, n, 0, h => by simp [leb]
  | w + 1, n, i + 1, h => by
    have := leb_getD w (n / 256) i (by omega)
    simp only [leb, List.getD_cons_succ]
    rw [this, Nat.div_div_eq_div_mul, Nat.pow_succ, Nat.mul_comm]
/-- The number whose bytes these are. -/
def v256 : List Nat → Nat
  | [] => 0
  | x :: L => x + 256 * v256 L
theorem v256_leb : ∀ w n, v256 (leb w n) = n % 256 ^ w
  | 0, n => by simp [leb, v256, Nat.mod_one]
  | w + 1, n => by
    rw [leb, v256, v256_leb w, Nat.pow_succ, Nat.mul_comm (256 ^ w) 256, Nat.mod_mul]
theorem v256_lt : ∀ L : List Nat, (∀ x ∈ L, x < 256) → v256 L < 256 ^ L.length
  | [], _ => by simp [v256]
  | x :: L, h => by
    have h1 := v256_lt L (fun y hy => h y (List.mem_cons_of_mem _ hy))
    have h2 := h x (List.mem_cons_self ..)
    rw [v256, List.length_cons, Nat.pow_succ]
    omega
theorem v256_snoc : ∀ (L : List Nat) (x : Nat), v256 (L ++ [x]) = v256 L + 256 ^ L.length * x
  | [], x => by simp [v256]
  | y :: L, x => by
    have := v256_snoc L x
    simp only [List.cons_append, v256, List.length_cons, this, Nat.pow_succ, Nat.mul_add]
    rw [Nat.mul_comm (256 ^ L.length) 256, Nat.mul_assoc]
    omega
theorem v256_inj : ∀ (L M : List Nat), L.length = M.length → (∀ x ∈ L, x < 256) → (∀ x ∈ M, x < 256) → v256 L = v256 M → L = M
  | [], [], _, _, _, _ => rfl
  | [], y :: M, h, _, _, _ => by simp at h
  | x :: L, [], h, _, _, _ => by simp at h
  | x :: L, y :: M, h, h1, h2, e => by
    have a := h1 x (List.mem_cons_self ..)
    have b := h2 y (List.mem_cons_self ..)
    simp only [v256] at e
    have e1 : x = y := by omega
    have e2 : v256 L = v256 M := by omega
    rw [e1, v256_inj L M (by simpa using h) (fun z hz => h1 z (List.mem_cons_of_mem _ hz)) (fun z hz => h2 z (List.mem_cons_of_mem _ hz)) e2]
theorem takeN_snoc (L : List Nat) (k : Nat) (h : k < L.length) : L.take (k + 1) = L.take k ++ [L.getD k 0] := by
  rw [List.take_succ_eq_append_getElem h]; simp [h]
theorem v256_take (L : List Nat) (k : Nat) (h : k < L.length) : v256 (L.take (k + 1)) = v256 (L.take k) + 256 ^ k * L.getD k 0 := by
  rw [takeN_snoc L k h, v256_snoc, List.length_take, Nat.min_eq_left (by omega)]
theorem v256_take_lt (L : List Nat) (k : Nat) (h : k ≤ L.length) (hb : ∀ x ∈ L, x < 256) : v256 (L.take k) < 256 ^ k := by
  have := v256_lt (L.take k) (fun x hx => hb x (List.mem_of_mem_take hx))
  rwa [List.length_take, Nat.min_eq_left h] at this
/-- Put's answer. -/
def putB (n w : Nat) : Bool := decide (1 ≤ w) && decide (w ≤ 8) && decide (n / 256 ^ w = 0)

/-! ### Small bytes -/
/-- A number's small bytes, so many steps. -/
def smlF : Nat → Nat → List Nat
  | 0, n => [n]
  | f + 1, n => if n < 128 then [n] else (n % 128 + 128) :: smlF f (n / 128)
theorem smlF_eq : ∀ f g n, n ≤ f → n ≤ g → smlF f n = smlF g n
  | 0, 0, n, _, _ => rfl
  | 0, g + 1, n, h, _ => by rw [smlF, smlF, if_pos (by omega)]
  | f + 1, 0, n, _, h => by rw [smlF, smlF, if_pos (by omega)]
  | f + 1, g + 1, n, h, k => by
    rw [smlF, smlF]
    by_cases hn : n < 128
    · rw [if_pos hn, if_pos hn]
    · rw [if_neg hn, if_neg hn, smlF_eq f g (n / 128) (by omega) (by omega)]
/-- A number's small bytes. -/
def sml (n : Nat) : List Nat := smlF n n
theorem sml_lo {n : Nat} (h : n < 128) : sml n = [n] := by
  unfold sml
  cases n with
  | zero => rfl
  | succ m => rw [smlF, if_pos h]
theorem sml_hi {n : Nat} (h : 128 ≤ n) : sml n = (n % 128 + 128) :: sml (n / 128) := by
  unfold sml
  obtain ⟨m, rfl⟩ : ∃ m, n = m + 1 := ⟨n - 1, by omega⟩
  rw [smlF, if_neg (by omega), smlF_eq m ((m + 1) / 128) ((m + 1) / 128) (by omega) (by omega)]
theorem sml_pos (n : Nat) : 0 < (sml n).length := by
  by_cases h : n < 128
  · simp [sml_lo h]
  · simp [sml_hi (show 128 ≤ n by omega)]
theorem sml_lt (n : Nat) : ∀ x ∈ sml n, x < 256 := by
  induction n using Nat.strongRecOn with
  | ind n ih =>
    intro x hx
    by_cases h : n < 128
    · rw [sml_lo h] at hx; simp at hx; omega
    · rw [sml_hi (by omega)] at hx
      rcases List.mem_cons.1 hx with rfl | hx
      · omega
      · exact ih (n / 128) (by omega) x hx
theorem sml_len : ∀ (k n : Nat), n < 128 ^ (k + 1) → (sml n).length ≤ k + 1
  | 0, n, h => by rw [sml_lo (by simpa using h)]; simp
  | k + 1, n, h => by
    by_cases hn : n < 128
    · simp [sml_lo hn]
    · rw [sml_hi (by omega), List.length_cons]
      have := sml_len k (n / 128) (Nat.div_lt_of_lt_mul (by rw [Nat.pow_succ, Nat.mul_comm] at h; exact h))
      omega
theorem sml_len10 (n : Nat) (h : n < 18446744073709551616) : (sml n).length ≤ 10 := sml_len 9 n (Nat.lt_of_lt_of_le h (by decide))
/-- The number whose small bytes these are. -/
def v7 : List Nat → Nat
  | [] => 0
  | x :: L => x % 128 + 128 * v7 L
theorem v7_snoc : ∀ (L : List Nat) (x : Nat), v7 (L ++ [x]) = v7 L + 128 ^ L.length * (x % 128)
  | [], x => by simp [v7]
  | y :: L, x => by
    have := v7_snoc L x
    simp only [List.cons_append, v7, List.length_cons, this, Nat.pow_succ, Nat.mul_add]
    rw [Nat.mul_comm (128 ^ L.length) 128, Nat.mul_assoc]
    omega
theorem v7_lt : ∀ L : List Nat, v7 L < 128 ^ L.length
  | [] => by simp [v7]
  | x :: L => by
    have h1 := v7_lt L
    rw [v7, List.length_cons, Nat.pow_succ]
    omega
theorem v7_take (L : List Nat) (k : Nat) (h : k < L.length) : v7 (L.take (k + 1)) = v7 (L.take k) + 128 ^ k * (L.getD k 0 % 128) := by
  rw [takeN_snoc L k h, v7_snoc, List.length_take, Nat.min_eq_left (by omega)]
theorem v7_take_lt (L : List Nat) (k : Nat) (h : k ≤ L.length) : v7 (L.take k) < 128 ^ k := by
  have := v7_lt (L.take k)
  rwa [List.length_take, Nat.min_eq_left h] at this
theorem v7_sml (n : Nat) : v7 (sml n) = n := by
  induction n using Nat.strongRecOn with
  | ind n ih =>
    by_cases h : n < 128
    · simp [sml_lo h, v7]; omega
    · rw [sml_hi (by omega), v7, ih (n / 128) (by omega)]; omega

/-- The first byte below 128. -/
def fe : List Nat → Nat
  | [] => 0
  | x :: L => if x < 128 then 0 else fe L + 1
theorem fe_le : ∀ L, fe L ≤ L.length
  | [] => by simp [fe]
  | x :: L => by
    have := fe_le L
    rw [fe]; split
    · omega
    · simp; omega
theorem fe_ge : ∀ (L : List Nat) j, j < fe L → 128 ≤ L.getD j 0
  | [], j, h => by simp [fe] at h
  | x :: L, j, h => by
    rw [fe] at h
    split at h
    · omega
    · cases j with
      | zero => simp; omega
      | succ j => simpa using fe_ge L j (by omega)
theorem fe_at : ∀ (L : List Nat), fe L < L.length → L.getD (fe L) 0 < 128
  | [], h => by simp at h
  | x :: L, h => by
    rw [fe] at h ⊢
    split
    · simpa
    · rename_i hx
      rw [if_neg hx] at h
      simpa using fe_at L (by simpa using h)
theorem fe_low : ∀ (L : List Nat) k, (∀ j, j < k → 128 ≤ L.getD j 0) → k ≤ fe L
  | [], k, h => by
    cases k with
    | zero => exact Nat.zero_le _
    | succ k => have := h 0 (by omega); simp at this
  | x :: L, k, h => by
    cases k with
    | zero => exact Nat.zero_le _
    | succ k =>
      have h0 := h 0 (by omega)
      simp at h0
      rw [fe, if_neg (by omega)]
      have := fe_low L k (fun j hj => by have := h (j + 1) (by omega); simpa using this)
      omega
theorem fe_eq (L : List Nat) (k : Nat) (h : ∀ j, j < k → 128 ≤ L.getD j 0) (h2 : L.getD k 0 < 128) : fe L = k := by
  have h1 := fe_low L k h
  by_cases hk : fe L = k
  · exact hk
  · have := fe_ge L k (by omega)
    omega
/-- Whether bytes begin with a number's small bytes. -/
def okR (L : List Nat) : Bool := decide (fe L < L.length) && decide (fe L < 10) && (decide (0 < L.getD (fe L) 0) || decide (fe L = 0)) && (decide (L.getD (fe L) 0 < 2) || decide (fe L < 9))
def rdN (L : List Nat) : Nat := if okR L = true then v7 (L.take (fe L + 1)) else 0
def rdK (L : List Nat) : Nat := if okR L = true then fe L + 1 else 0
def rdE (L : List Nat) : Nat := if okR L = true then 0 else 8
theorem okR_iff (L : List Nat) : okR L = true ↔ fe L < L.length ∧ fe L < 10 ∧ (0 < L.getD (fe L) 0 ∨ fe L = 0) ∧ (L.getD (fe L) 0 < 2 ∨ fe L < 9) := by
  unfold okR; simp [and_assoc]
theorem rdN_lt (L : List Nat) : rdN L < 18446744073709551616 := by
  unfold rdN
  split
  · rename_i h
    obtain ⟨h1, h2, h3, h4⟩ := (okR_iff L).1 h
    have hl := fe_at L h1
    rw [v7_take L _ h1]
    have hb := v7_take_lt L (fe L) (by omega)
    generalize v7 (L.take (fe L)) = a at *
    generalize L.getD (fe L) 0 = x at *
    by_cases h9 : fe L < 9
    · have h5 : 128 ^ fe L ≤ 128 ^ 8 := Nat.pow_le_pow_right (by omega) (by omega)
      have h6 : 128 ^ fe L * (x % 128) ≤ 128 ^ 8 * 127 := Nat.mul_le_mul h5 (by omega)
      omega
    · have e9 : fe L = 9 := by omega
      rw [e9] at hb ⊢
      have hx : x % 128 ≤ 1 := by omega
      have h6 : 128 ^ 9 * (x % 128) ≤ 128 ^ 9 * 1 := Nat.mul_le_mul_left _ hx
      omega
  · omega
/-- Small bytes, then anything: what is read. -/
theorem fe_sml : ∀ (k n : Nat) (R : List Nat), n < 128 ^ (k + 1) → fe (sml n ++ R) = (sml n).length - 1
  | 0, n, R, h => by rw [sml_lo (by simpa using h)]; simp [fe]; simpa using h
  | k + 1, n, R, h => by
    by_cases hn : n < 128
    · rw [sml_lo hn]; simp [fe]; omega
    · have ih := fe_sml k (n / 128) R (Nat.div_lt_of_lt_mul (by rw [Nat.pow_succ, Nat.mul_comm] at h; exact h))
      have hp := sml_pos (n / 128)
      rw [sml_hi (by omega), List.cons_append, fe, if_neg (by omega), ih, List.length_cons]
      omega
theorem sml_last : ∀ (k n : Nat), n < 128 ^ (k + 1) → (sml n).getD ((sml n).length - 1) 0 < 128 ∧ (0 < (sml n).getD ((sml n).length - 1) 0 ∨ (sml n).length = 1) ∧ (∀ m, n < 128 ^ m * 2 → (sml n).length ≤ m ∨ (sml n).getD ((sml n).length - 1) 0 < 2)
  | 0, n, h => by
    have h : n < 128 := by simpa using h
    rw [sml_lo h]
    refine ⟨by simpa using h, by simp, fun m hm => ?_⟩
    cases m with
    | zero => right; simpa using hm
    | succ m => left; simp
  | k + 1, n, h => by
    by_cases hn : n < 128
    · rw [sml_lo hn]
      refine ⟨by simpa using hn, by simp, fun m hm => ?_⟩
      cases m with
      | zero => right; simpa using hm
      | succ m => left; simp
    · obtain ⟨i1, i2, i3⟩ := sml_last k (n / 128) (Nat.div_lt_of_lt_mul (by rw [Nat.pow_succ, Nat.mul_comm] at h; exact h))
      have hp := sml_pos (n / 128)
      rw [sml_hi (by omega), List.length_cons]
      obtain ⟨q, hq⟩ : ∃ q, (sml (n / 128)).length = q + 1 := ⟨(sml (n / 128)).length - 1, by omega⟩
      rw [hq] at i1 i2 i3 ⊢
      simp only [Nat.add_sub_cancel] at i1 i2 i3 ⊢
      rw [List.getD_cons_succ]
      refine ⟨i1, ?_, fun m hm => ?_⟩
      · rcases i2 with i2 | i2
        · exact .inl i2
        · left
          by_cases hz : n / 128 < 128
          · have e := sml_lo hz
            rw [e] at hq ⊢
            have : q = 0 := by simpa using hq.symm
            subst this
            simp
            omega
          · rw [sml_hi (show 128 ≤ n / 128 by omega), List.length_cons] at hq
            have := sml_pos (n / 128 / 128)
            omega
      · cases m with
        | zero => exfalso; simp at hm; omega
        | succ m =>
          rcases i3 m (by rw [Nat.pow_succ] at hm; exact Nat.div_lt_of_lt_mul (by rw [← Nat.mul_assoc, Nat.mul_comm 128]; exact hm)) with h | h
          · left; omega
          · right; exact h
theorem read_sml (n : Nat) (R : List Nat) (h : n < 18446744073709551616) : rdE (sml n ++ R) = 0 ∧ rdN (sml n ++ R) = n ∧ rdK (sml n ++ R) = (sml n).length := by
  have hn : n < 128 ^ (9 + 1) := Nat.lt_of_lt_of_le h (by decide)
  have h1 := fe_sml 9 n R hn
  have hp := sml_pos n
  have hl := sml_len10 n h
  obtain ⟨l1, l2, l3⟩ := sml_last 9 n hn
  have l3' := l3 9 (by have : (128 : Nat) ^ 9 * 2 = 18446744073709551616 := by decide
                       omega)
  have hg : (sml n ++ R).getD ((sml n).length - 1) 0 = (sml n).getD ((sml n).length - 1) 0 := by
    simp only [List.getD_eq_getElem?_getD]
    rw [List.getElem?_append_left (by omega)]
  have hok : okR (sml n ++ R) = true := by
    rw [okR_iff, h1, hg]
    refine ⟨by simp; omega, by omega, ?_, ?_⟩
    · rcases l2 with l2 | l2
      · exact .inl l2
      · right; omega
    · rcases l3' with l3' | l3'
      · right; omega
      · exact .inl l3'
  unfold rdE rdN rdK
  rw [if_pos hok, if_pos hok, if_pos hok, h1, Nat.sub_add_cancel hp]
  refine ⟨rfl, ?_, rfl⟩
  rw [List.take_append_of_le_length (Nat.le_refl _), List.take_length, v7_sml]
/-- What is read is what is written. -/
theorem sml_v7 : ∀ (k : Nat) (L : List Nat), k < L.length → (∀ j, j < k → 128 ≤ L.getD j 0) → L.getD k 0 < 128 → (0 < L.getD k 0 ∨ k = 0) → (∀ x ∈ L, x < 256) → sml (v7 (L.take (k + 1))) = L.take (k + 1)
  | 0, [], h, _, _, _, _ => by simp at h
  | 0, x :: L, h, _, hx, _, _ => by
    simp at hx
    simp [v7]
    rw [Nat.mod_eq_of_lt hx, sml_lo hx]
  | k + 1, [], h, _, _, _, _ => by simp at h
  | k + 1, x :: L, h, h1, h2, h3, h4 => by
    have hx := h1 0 (by omega)
    simp at hx
    have hx2 := h4 x (List.mem_cons_self ..)
    have g3 : 0 < L.getD k 0 := by
      rcases h3 with h3 | h3
      · simpa using h3
      · omega
    have ih := sml_v7 k L (by simpa using h) (fun j hj => by have := h1 (j + 1) (by omega); simpa using this) (by simpa using h2) (.inl g3) (fun y hy => h4 y (List.mem_cons_of_mem _ hy))
    have hpos : 0 < v7 (L.take (k + 1)) := by
      rw [v7_take L k (by simpa using h)]
      have : L.getD k 0 % 128 = L.getD k 0 := Nat.mod_eq_of_lt (by simpa using h2)
      rw [this]
      have : 0 < 128 ^ k * L.getD k 0 := Nat.mul_pos (Nat.pow_pos (by omega)) g3
      omega
    rw [List.take_succ_cons, v7, sml_hi (by omega)]
    have e1 : (x % 128 + 128 * v7 (L.take (k + 1))) % 128 + 128 = x := by omega
    have e2 : (x % 128 + 128 * v7 (L.take (k + 1))) / 128 = v7 (L.take (k + 1)) := by omega
    rw [e1, e2, ih]
theorem read_only (L : List Nat) (hb : ∀ x ∈ L, x < 256) (h : okR L = true) : sml (rdN L) = L.take (rdK L) ∧ 1 ≤ rdK L ∧ rdK L ≤ L.length ∧ rdK L ≤ 10 := by
  obtain ⟨h1, h2, h3, h4⟩ := (okR_iff L).1 h
  unfold rdN rdK
  rw [if_pos h, if_pos h]
  exact ⟨sml_v7 _ L h1 (fe_ge L) (fe_at L h1) h3 hb, by omega, by omega, by omega⟩

end Go.Proofs.Ytkdfiaeghbkgnaa
