/-
  LINKS, in numbers: what is taken of messages, and how a link stands behind them.
-/
import Derived.Test.YtnmfigcemknjbaaFrmM
namespace Go.Proofs.Ytnmfigcemknjbaa
set_option linter.unusedVariables false
set_option linter.unusedSimpArgs false

/-- A link. -/
structure Lk where
  any : Bool
  last : Nat
  age : Int
abbrev lk0 : Lk := ⟨false, 0, 0⟩
abbrev m0 : Msg := (0, 0, [])
def mayK (s : Lk) : Prop := (0 ≤ s.age ∧ s.age ≤ 1048576) ∧ (s.any = true ∨ s.last = 0)
instance (s : Lk) : Decidable (mayK s) := inferInstanceAs (Decidable ((0 ≤ s.age ∧ s.age ≤ 1048576) ∧ (s.any = true ∨ s.last = 0)))
/-- Is a message old? -/
abbrev oldK (s : Lk) (m : Msg) : Prop := s.any = true ∧ m.2.1 ≤ s.last
/-- One message more. -/
def stK (p : Lk × List Msg) (m : Msg) : Lk × List Msg := if oldK p.1 m then p else (⟨true, m.2.1, 0⟩, p.2 ++ [m])
def ruK (s : Lk) (l : List Msg) : Lk × List Msg := l.foldl stK (s, [])
def longB (l : List Msg) : Bool := l.any fun m => decide (512 < m.2.2.length)
def nxE (s : Lk) (l : List Msg) : Nat := if ¬ mayK s then 8 else if 1024 < l.length then 4 else if longB l = true then 3 else 0
def ageK (s : Lk) : Lk := ⟨s.any, s.last, min (s.age + 1) 1048576⟩
def nxL (s : Lk) (l : List Msg) : Lk := if nxE s l = 0 then (ruK (ageK s) l).1 else lk0
def nxT (s : Lk) (l : List Msg) : List Msg := if nxE s l = 0 then (ruK (ageK s) l).2 else []
theorem stK_old {p : Lk × List Msg} {m : Msg} (h : oldK p.1 m) : stK p m = p := if_pos h
theorem stK_new {p : Lk × List Msg} {m : Msg} (h : ¬ oldK p.1 m) : stK p m = (⟨true, m.2.1, 0⟩, p.2 ++ [m]) := if_neg h
theorem ru_nil (s : Lk) : ruK s [] = (s, []) := rfl
theorem ru_snoc (s : Lk) (l : List Msg) (m : Msg) : ruK s (l ++ [m]) = stK (ruK s l) m := by
  unfold ruK; rw [List.foldl_append]; rfl
theorem ru_step (s : Lk) {l : List Msg} {k : Nat} {m : Msg} (h : l[k]? = some m) : ruK s (l.take (k + 1)) = stK (ruK s (l.take k)) m := by
  rw [List.take_add_one, h]
  exact ru_snoc _ _ _
theorem ru_all (s : Lk) {l : List Msg} {k : Nat} (h : l.length ≤ k) : ruK s (l.take k) = ruK s l := by rw [List.take_of_length_le h]
/-- What is taken does not hang on the age. -/
theorem ru_same (s t : Lk) (h1 : s.any = t.any) (h2 : s.last = t.last) : ∀ l, (ruK s l).2 = (ruK t l).2 ∧ (ruK s l).1.any = (ruK t l).1.any ∧ (ruK s l).1.last = (ruK t l).1.last := by
  have key : ∀ (l : List Msg) (p q : Lk × List Msg), p.2 = q.2 → p.1.any = q.1.any → p.1.last = q.1.last → (l.foldl stK p).2 = (l.foldl stK q).2 ∧ (l.foldl stK p).1.any = (l.foldl stK q).1.any ∧ (l.foldl stK p).1.last = (l.foldl stK q).1.last := by
    intro l
    induction l with
    | nil => intro p q a b c; exact ⟨a, b, c⟩
    | cons m l ih =>
      intro p q a b c
      rw [List.foldl_cons, List.foldl_cons]
      by_cases h : oldK p.1 m
      · have h' : oldK q.1 m := by unfold oldK at *; rw [← b, ← c]; exact h
        rw [stK_old h, stK_old h']
        exact ih p q a b c
      · have h' : ¬ oldK q.1 m := by unfold oldK at *; rw [← b, ← c]; exact h
        rw [stK_new h, stK_new h']
        exact ih _ _ (by rw [a]) rfl rfl
  exact fun l => key l (s, []) (t, []) rfl h1 h2
/-- A rule that holds at the beginning, and behind each message. -/
theorem ru_rule {P : Lk × List Msg → Prop} (s : Lk) (h0 : P (s, [])) (h1 : ∀ p m, P p → P (stK p m)) : ∀ l, P (ruK s l) := by
  have key : ∀ (l : List Msg) p, P p → P (l.foldl stK p) := by
    intro l
    induction l with
    | nil => exact fun p h => h
    | cons m l ih => exact fun p h => ih _ (h1 p m h)
  exact fun l => key l _ h0
theorem ru_age (s : Lk) (l : List Msg) : (ruK s l).1.age = if (ruK s l).2 = [] then s.age else 0 := by
  refine ru_rule (P := fun p => p.1.age = if p.2 = [] then s.age else 0) s (by simp) (fun p m h => ?_) l
  by_cases q : oldK p.1 m
  · rw [stK_old q]; exact h
  · rw [stK_new q]; simp
theorem ru_any (s : Lk) (l : List Msg) : (ruK s l).2 = [] → (ruK s l).1 = s := by
  refine ru_rule (P := fun p => p.2 = [] → p.1 = s) s (fun _ => rfl) (fun p m h => ?_) l
  by_cases q : oldK p.1 m
  · rw [stK_old q]; exact h
  · rw [stK_new q]; intro e; simp at e
theorem ru_anyT (s : Lk) (l : List Msg) : (ruK s l).2 ≠ [] → (ruK s l).1.any = true := by
  refine ru_rule (P := fun p => p.2 ≠ [] → p.1.any = true) s (fun h => absurd rfl h) (fun p m h => ?_) l
  by_cases q : oldK p.1 m
  · rw [stK_old q]; exact h
  · rw [stK_new q]; intro _; rfl
theorem ru_mem (s : Lk) (l : List Msg) : ∀ m ∈ (ruK s l).2, m ∈ l := by
  have key : ∀ (l : List Msg) (p : Lk × List Msg), ∀ m ∈ (l.foldl stK p).2, m ∈ p.2 ∨ m ∈ l := by
    intro l
    induction l with
    | nil => exact fun p m h => .inl h
    | cons x l ih =>
      intro p m h
      rw [List.foldl_cons] at h
      rcases ih _ m h with h | h
      · by_cases q : oldK p.1 x
        · rw [stK_old q] at h; exact .inl h
        · rw [stK_new q] at h
          rcases List.mem_append.1 h with h | h
          · exact .inl h
          · exact .inr (by rw [List.mem_singleton.1 h]; exact List.mem_cons_self ..)
      · exact .inr (List.mem_cons_of_mem _ h)
  intro m h
  rcases key l _ m h with h | h
  · cases h
  · exact h
theorem ru_len (s : Lk) (l : List Msg) : (ruK s l).2.length ≤ l.length := by
  have key : ∀ (l : List Msg) (p : Lk × List Msg), (l.foldl stK p).2.length ≤ p.2.length + l.length := by
    intro l
    induction l with
    | nil => exact fun p => by simp
    | cons x l ih =>
      intro p
      rw [List.foldl_cons]
      have := ih (stK p x)
      by_cases q : oldK p.1 x
      · rw [stK_old q] at this ⊢; simp; omega
      · rw [stK_new q] at this ⊢; simp at *; omega
  have := key l (s, [])
  simpa [ruK] using this
/-- What is taken of the first messages is the beginning of what is taken of all. -/
theorem ru_pre (s : Lk) (l k : List Msg) : (ruK s l).2 <+: (ruK s (l ++ k)).2 := by
  have key : ∀ (k : List Msg) (p : Lk × List Msg), p.2 <+: (k.foldl stK p).2 := by
    intro k
    induction k with
    | nil => exact fun p => List.prefix_refl _
    | cons x k ih =>
      intro p
      rw [List.foldl_cons]
      refine List.IsPrefix.trans ?_ (ih _)
      by_cases q : oldK p.1 x
      · rw [stK_old q]
        exact List.prefix_refl _
      · rw [stK_new q]; exact List.prefix_append _ _
  unfold ruK
  rw [List.foldl_append]
  exact key k _
theorem ru_at (s : Lk) {l : List Msg} {k : Nat} {m : Msg} (h : l[k]? = some m) (hn : ¬ oldK (ruK s (l.take k)).1 m) : (ruK s l).2[(ruK s (l.take k)).2.length]? = some m := by
  have h1 : (ruK s (l.take (k + 1))).2 = (ruK s (l.take k)).2 ++ [m] := by rw [ru_step s h, stK_new hn]
  have h2 := ru_pre s (l.take (k + 1)) (l.drop (k + 1))
  rw [List.take_append_drop, h1] at h2
  obtain ⟨t, ht⟩ := h2
  rw [← ht]
  simp
theorem ru_last (s : Lk) (l : List Msg) (hs : s.last < 4294967296) (h : ∀ m ∈ l, m.2.1 < 4294967296) : (ruK s l).1.last < 4294967296 := by
  have key : ∀ (l : List Msg) (p : Lk × List Msg), p.1.last < 4294967296 → (∀ m ∈ l, m.2.1 < 4294967296) → (l.foldl stK p).1.last < 4294967296 := by
    intro l
    induction l with
    | nil => exact fun p h _ => h
    | cons x l ih =>
      intro p h1 h2
      rw [List.foldl_cons]
      refine ih _ ?_ (fun m hm => h2 m (List.mem_cons_of_mem _ hm))
      by_cases q : oldK p.1 x
      · rw [stK_old q]; exact h1
      · rw [stK_new q]; exact h2 x (List.mem_cons_self ..)
  exact key l _ hs h
theorem nxL_last (s : Lk) (l : List Msg) (hs : s.last < 4294967296) (h : ∀ m ∈ l, m.2.1 < 4294967296) : (nxL s l).last < 4294967296 := by
  unfold nxL
  split
  · exact ru_last _ l hs h
  · decide
theorem nx_may {s : Lk} {l : List Msg} (h : nxE s l = 0) : mayK s ∧ l.length ≤ 1024 ∧ longB l = false := by
  unfold nxE at h
  by_cases h1 : mayK s
  · rw [if_neg (fun q => q h1)] at h
    by_cases h2 : 1024 < l.length
    · rw [if_pos h2] at h; cases h
    · rw [if_neg h2] at h
      by_cases h3 : longB l = true
      · rw [if_pos h3] at h; cases h
      · exact ⟨h1, by omega, by simpa using h3⟩
  · rw [if_pos h1] at h; cases h
theorem nx_ok {s : Lk} {l : List Msg} (h1 : mayK s) (h2 : l.length ≤ 1024) (h3 : longB l = false) : nxE s l = 0 := by
  unfold nxE
  rw [if_neg (fun q => q h1), if_neg (by omega), if_neg (by rw [h3]; decide)]
theorem nxL_may {s : Lk} {l : List Msg} (h : nxE s l = 0) : mayK (nxL s l) := by
  obtain ⟨h1, h2, h3⟩ := nx_may h
  unfold nxL
  rw [if_pos h]
  have ha := ru_age (ageK s) l
  refine ⟨?_, ?_⟩
  · rw [ha]
    unfold ageK mayK at *
    split
    · dsimp only; omega
    · omega
  · by_cases e : (ruK (ageK s) l).2 = []
    · rw [ru_any _ _ e]
      exact h1.2
    · exact .inl (ru_anyT _ _ e)
theorem nxL_age {s : Lk} {l : List Msg} (h : nxE s l = 0) : (nxL s l).age = 0 ↔ nxT s l ≠ [] := by
  obtain ⟨h1, h2, h3⟩ := nx_may h
  unfold nxL nxT
  rw [if_pos h, if_pos h, ru_age]
  by_cases e : (ruK (ageK s) l).2 = []
  · rw [if_pos e, e]
    unfold ageK mayK at *
    dsimp only
    simp
    omega
  · rw [if_neg e]
    simp [e]
def frE (s : Lk) (w : Int) : Nat := if ¬ mayK s then 8 else if 1 ≤ w ∧ w ≤ 1048576 then 0 else 2
def frB (s : Lk) (w : Int) : Bool := decide (frE s w = 0) && (s.any && decide (s.age < w))
def seE (n : Nat) : Nat := if n = 4294967295 then 2 else 0
def seV (n : Nat) : Nat := if n = 4294967295 then 0 else n + 1
/-- Messages' bytes, as the laws count them. -/
def hevS (l : List Msg) : Nat := (l.map fun m => min m.2.2.length 100000).sum
theorem hevS_step {l : List Msg} {k : Nat} {m : Msg} (h : l[k]? = some m) : hevS (l.take (k + 1)) = hevS (l.take k) + min m.2.2.length 100000 := by
  unfold hevS
  rw [List.take_add_one, h]
  simp [List.sum_append]
theorem hevS_le (l : List Msg) : hevS l ≤ l.length * 100000 := by
  unfold hevS
  induction l with
  | nil => simp
  | cons m l ih => simp only [List.map_cons, List.sum_cons, List.length_cons]; omega
theorem hevS_mem {l : List Msg} {m : Msg} (h : m ∈ l) : min m.2.2.length 100000 ≤ hevS l := by
  unfold hevS
  induction l with
  | nil => cases h
  | cons x l ih =>
    simp only [List.map_cons, List.sum_cons]
    rcases List.mem_cons.1 h with rfl | h
    · omega
    · have := ih h; omega
def hevB (l : List Msg) : Bool := decide (1100 < l.length) || decide (100000 < hevS l)

end Go.Proofs.Ytnmfigcemknjbaa
