/-
  DEVICES, in numbers: writes that are whole, or torn.
-/
import Derived.Test.YtabikoipjaggbaaMaths
namespace Go.Proofs.Ytabikoipjaggbaa
set_option linter.unusedVariables false
set_option linter.unusedSimpArgs false

/-- The first t bytes of b stand in block n, the others stay. -/
def wrD (d b : List Nat) (n t : Nat) : List Nat := d.take (64 * n) ++ (b.take t ++ d.drop (64 * n + t))
/-- Block n. -/
def blD (d : List Nat) (n : Nat) : List Nat := (d.drop (64 * n)).take 64
/-- A write. -/
structure Pw where
  n : Int
  data : List Nat
/-- It may be on a device of so many bytes. -/
def okP (m : Nat) (p : Pw) : Prop := 0 ≤ p.n ∧ 64 * p.n + 64 ≤ (m : Int) ∧ p.data.length = 64
theorem wrD_len {d b : List Nat} {n t : Nat} (h : 64 * n + 64 ≤ d.length) (hb : b.length = 64) (ht : t ≤ 64) : (wrD d b n t).length = d.length := by
  unfold wrD
  simp only [List.length_append, List.length_take, List.length_drop]
  omega
theorem wrD_none (d b : List Nat) (n : Nat) : wrD d b n 0 = d := by
  unfold wrD
  simp
theorem wrD_get {d b : List Nat} {n t : Nat} (h : 64 * n + 64 ≤ d.length) (hb : b.length = 64) (ht : t ≤ 64) (i : Nat) : (wrD d b n t).getD i 0 = if 64 * n ≤ i ∧ i < 64 * n + t then b.getD (i - 64 * n) 0 else d.getD i 0 := by
  unfold wrD
  simp only [List.getD_eq_getElem?_getD]
  by_cases h1 : i < 64 * n
  · rw [List.getElem?_append_left (by rw [List.length_take]; omega), if_neg (by omega), List.getElem?_take, if_pos h1]
  · rw [List.getElem?_append_right (by rw [List.length_take]; omega)]
    have e : (List.take (64 * n) d).length = 64 * n := by rw [List.length_take]; omega
    rw [e]
    by_cases h2 : i < 64 * n + t
    · rw [if_pos (by omega), List.getElem?_append_left (by rw [List.length_take]; omega), List.getElem?_take, if_pos (by omega)]
    · have e2 : (List.take t b).length = t := by rw [List.length_take]; omega
      rw [if_neg (by omega), List.getElem?_append_right (by rw [e2]; omega), e2, List.getElem?_drop, show 64 * n + t + (i - 64 * n - t) = i by omega]
theorem blD_len {d : List Nat} {n : Nat} (h : 64 * n + 64 ≤ d.length) : (blD d n).length = 64 := by
  unfold blD
  rw [List.length_take, List.length_drop]
  omega
theorem blD_get {d : List Nat} {n j : Nat} (hj : j < 64) : (blD d n).getD j 0 = d.getD (64 * n + j) 0 := by
  unfold blD
  simp only [List.getD_eq_getElem?_getD]
  rw [List.getElem?_take, if_pos hj, List.getElem?_drop]
/-- Two lists of one length that have the same numbers. -/
theorem ext_getD {a b : List Nat} (hl : a.length = b.length) (h : ∀ i, i < a.length → a.getD i 0 = b.getD i 0) : a = b := by
  refine List.ext_getElem hl (fun i h1 h2 => ?_)
  have := h i h1
  rw [List.getD_eq_getElem?_getD, List.getD_eq_getElem?_getD, List.getElem?_eq_getElem h1, List.getElem?_eq_getElem h2] at this
  exact this
/-- What was written is read. -/
theorem blD_same {d b : List Nat} {n : Nat} (h : 64 * n + 64 ≤ d.length) (hb : b.length = 64) : blD (wrD d b n 64) n = b := by
  refine ext_getD ?_ (fun i hi => ?_)
  · rw [blD_len (by rw [wrD_len h hb (by omega)]; exact h), hb]
  · have hi' : i < 64 := by rw [blD_len (by rw [wrD_len h hb (by omega)]; exact h)] at hi; exact hi
    rw [blD_get hi', wrD_get h hb (by omega), if_pos (by omega), show 64 * n + i - 64 * n = i by omega]
/-- All other blocks are as they were. -/
theorem blD_other {d b : List Nat} {n m t : Nat} (h : 64 * n + 64 ≤ d.length) (hb : b.length = 64) (ht : t ≤ 64) (hm : 64 * m + 64 ≤ d.length) (hne : m ≠ n) : blD (wrD d b n t) m = blD d m := by
  have hl := wrD_len h hb ht
  refine ext_getD (by rw [blD_len (by omega), blD_len hm]) (fun i hi => ?_)
  have hi' : i < 64 := by rw [blD_len (by omega)] at hi; exact hi
  rw [blD_get hi', blD_get hi', wrD_get h hb ht, if_neg ?_]
  rintro ⟨a, b⟩
  by_cases q : m < n
  · omega
  · omega
/-- Writes, one by one: so many whole, of the next one the first t bytes. -/
def doD : List Pw → Nat → Nat → List Nat → List Nat
  | [], _, _, d => d
  | p :: l, 0, t, d => wrD d p.data p.n.toNat t
  | p :: l, w + 1, t, d => doD l w t (wrD d p.data p.n.toNat 64)
theorem okP_to {m : Nat} {p : Pw} (h : okP m p) : 64 * p.n.toNat + 64 ≤ m ∧ p.data.length = 64 := by
  obtain ⟨a, b, c⟩ := h
  exact ⟨by omega, c⟩
theorem doD_len : ∀ (l : List Pw) (w t : Nat) (d : List Nat), (∀ p ∈ l, okP d.length p) → t ≤ 64 → (doD l w t d).length = d.length
  | [], _, _, _, _, _ => rfl
  | p :: l, 0, t, d, h, ht => by
    obtain ⟨a, b⟩ := okP_to (h p (by simp))
    exact wrD_len a b ht
  | p :: l, w + 1, t, d, h, ht => by
    obtain ⟨a, b⟩ := okP_to (h p (by simp))
    have hl := wrD_len a b (Nat.le_refl 64)
    show (doD l w t (wrD d p.data p.n.toNat 64)).length = _
    rw [doD_len l w t _ (fun q hq => by rw [hl]; exact h q (by simp [hq])) ht, hl]
/-- In pieces. -/
theorem doD_split : ∀ (l : List Pw) (k : Nat) (d : List Nat), k ≤ l.length → doD (l.drop k) (l.length - k) 0 (doD l k 0 d) = doD l l.length 0 d
  | [], k, d, hk => by
    have : k = 0 := by simpa using hk
    subst this
    rfl
  | p :: l, 0, d, hk => by
    show doD (p :: l) (l.length + 1) 0 (wrD d p.data p.n.toNat 0) = _
    rw [wrD_none]
    rfl
  | p :: l, k + 1, d, hk => by
    show doD (l.drop k) (l.length + 1 - (k + 1)) 0 (doD l k 0 (wrD d p.data p.n.toNat 64)) = doD l l.length 0 (wrD d p.data p.n.toNat 64)
    rw [show l.length + 1 - (k + 1) = l.length - k by omega]
    exact doD_split l k _ (by simpa using hk)
/-- A torn one of all bytes is whole. -/
theorem doD_full : ∀ (l : List Pw) (k : Nat) (d : List Nat), k < l.length → doD l k 64 d = doD l (k + 1) 0 d
  | [], k, d, hk => absurd hk (by simp)
  | [p], 0, d, hk => rfl
  | p :: q :: l, 0, d, hk => by
    show wrD d p.data p.n.toNat 64 = wrD (wrD d p.data p.n.toNat 64) q.data q.n.toNat 0
    rw [wrD_none]
  | p :: l, k + 1, d, hk => by
    show doD l k 64 (wrD d p.data p.n.toNat 64) = doD l (k + 1) 0 (wrD d p.data p.n.toNat 64)
    exact doD_full l k _ (by simpa using hk)
/-- How many bytes of write i are done. -/
def dnW (w t i : Nat) : Nat := if i < w then 64 else if i = w then t else 0
/-- A byte in no block that is written stays. -/
theorem doD_stays : ∀ (l : List Pw) (w t : Nat) (d : List Nat) (x : Nat), (∀ p ∈ l, okP d.length p) → t ≤ 64 → (∀ p ∈ l, ¬ (64 * p.n.toNat ≤ x ∧ x < 64 * p.n.toNat + 64)) → (doD l w t d).getD x 0 = d.getD x 0
  | [], _, _, _, _, _, _, _ => rfl
  | p :: l, 0, t, d, x, h, ht, hn => by
    obtain ⟨a, b⟩ := okP_to (h p (by simp))
    show (wrD d p.data p.n.toNat t).getD x 0 = _
    have := hn p (by simp)
    rw [wrD_get a b ht, if_neg (by omega)]
  | p :: l, w + 1, t, d, x, h, ht, hn => by
    obtain ⟨a, b⟩ := okP_to (h p (by simp))
    have hl := wrD_len a b (Nat.le_refl 64)
    show (doD l w t (wrD d p.data p.n.toNat 64)).getD x 0 = _
    have := hn p (by simp)
    rw [doD_stays l w t _ x (fun q hq => by rw [hl]; exact h q (by simp [hq])) ht (fun q hq => hn q (by simp [hq])), wrD_get a b (Nat.le_refl _), if_neg (by omega)]
/-- Of writes on blocks that are all other ones: the first bytes of each that are done are its own, the others as they were. -/
theorem doD_torn : ∀ (l : List Pw) (w t : Nat) (d : List Nat), (∀ p ∈ l, okP d.length p) → t ≤ 64 → (l.Pairwise fun p q => p.n ≠ q.n) → ∀ i (hi : i < l.length) j, j < 64 → (doD l w t d).getD (64 * l[i].n.toNat + j) 0 = if j < dnW w t i then l[i].data.getD j 0 else d.getD (64 * l[i].n.toNat + j) 0
  | [], _, _, _, _, _, _, i, hi, _, _ => absurd hi (by simp)
  | p :: l, 0, t, d, h, ht, hp, i, hi, j, hj => by
    obtain ⟨a, b⟩ := okP_to (h p (by simp))
    have hp1 := (List.pairwise_cons.1 hp).1
    show (wrD d p.data p.n.toNat t).getD _ 0 = _
    rw [wrD_get a b ht]
    cases i with
    | zero =>
      simp only [List.getElem_cons_zero]
      have e : dnW 0 t 0 = t := rfl
      rw [e]
      by_cases q : j < t
      · rw [if_pos (by omega), if_pos q, show 64 * p.n.toNat + j - 64 * p.n.toNat = j by omega]
      · rw [if_neg (by omega), if_neg q]
    | succ i =>
      have hil : i < l.length := by simpa using hi
      have hne := hp1 l[i] (List.getElem_mem hil)
      have hok := h l[i] (by simp [List.getElem_mem hil])
      have hok0 := h p (by simp)
      have e : dnW 0 t (i + 1) = 0 := by unfold dnW; rw [if_neg (by omega), if_neg (by omega)]
      simp only [List.getElem_cons_succ]
      have h2 := hok.1
      have h3 := hok0.1
      rw [e, if_neg (c := 64 * p.n.toNat ≤ 64 * l[i].n.toNat + j ∧ 64 * l[i].n.toNat + j < 64 * p.n.toNat + t) (by omega), if_neg (by omega)]
  | p :: l, w + 1, t, d, h, ht, hp, i, hi, j, hj => by
    obtain ⟨a, b⟩ := okP_to (h p (by simp))
    have hp1 := (List.pairwise_cons.1 hp).1
    have hp2 := (List.pairwise_cons.1 hp).2
    have hl := wrD_len a b (Nat.le_refl 64)
    have hok0 := h p (by simp)
    have h' : ∀ q ∈ l, okP (wrD d p.data p.n.toNat 64).length q := fun q hq => by rw [hl]; exact h q (by simp [hq])
    show (doD l w t (wrD d p.data p.n.toNat 64)).getD _ 0 = _
    cases i with
    | zero =>
      show (doD l w t (wrD d p.data p.n.toNat 64)).getD (64 * p.n.toNat + j) 0 = if j < dnW (w + 1) t 0 then p.data.getD j 0 else _
      have e : dnW (w + 1) t 0 = 64 := rfl
      rw [e, if_pos hj, doD_stays l w t _ _ h' ht (fun q hq => by
        have h1 := hp1 q hq
        have h2 := (h q (by simp [hq])).1
        have h3 := hok0.1
        omega), wrD_get a b (Nat.le_refl _), if_pos (by omega), show 64 * p.n.toNat + j - 64 * p.n.toNat = j by omega]
    | succ i =>
      have hil : i < l.length := by simpa using hi
      have hne := hp1 l[i] (List.getElem_mem hil)
      have hok := h l[i] (by simp [List.getElem_mem hil])
      have e : dnW (w + 1) t (i + 1) = dnW w t i := by
        unfold dnW
        by_cases q1 : i < w
        · rw [if_pos q1, if_pos (by omega)]
        · rw [if_neg q1, if_neg (by omega)]
          by_cases q2 : i = w
          · rw [if_pos q2, if_pos (by omega)]
          · rw [if_neg q2, if_neg (by omega)]
      show (doD l w t (wrD d p.data p.n.toNat 64)).getD (64 * l[i].n.toNat + j) 0 = if j < dnW (w + 1) t (i + 1) then l[i].data.getD j 0 else d.getD (64 * l[i].n.toNat + j) 0
      rw [e, doD_torn l w t _ h' ht hp2 i hil j hj, wrD_get a b (Nat.le_refl _)]
      have h2 := hok.1
      have h3 := hok0.1
      rw [if_neg (c := 64 * p.n.toNat ≤ 64 * l[i].n.toNat + j ∧ _) (by omega)]

end Go.Proofs.Ytabikoipjaggbaa
