/-
  Texts joined: some of those that the proofs of this seat stand on.
-/
import Derived.Test.YtfhmfanmnhclfaaDoorFitsJ
/-
  WHAT A SITE THAT MAY BE TELLS of its groups and phases, pair by pair; and the greatest of what lies between, as a walk over all pairs finds it.
-/
namespace Go.Proofs.YtfhmfanmnhclfaaDoor
open Go.RowKit Go.Lib Go.Deep
set_option linter.unusedVariables false
set_option linter.unusedSimpArgs false

structure Keeps (S : St) : Prop where
  sym : ∀ a b, a < S.groups.length → b < S.groups.length → (S.ap a).testBit b = (S.ap b).testBit a
  own : ∀ a, a < S.groups.length → (S.ap a).testBit a = false
  yel : ∀ a b, a < S.groups.length → b < S.groups.length → (S.ap a).testBit b = true → (S.gr a).yellow ≤ S.bt a b
  nil : ∀ a b, a < S.groups.length → b < S.groups.length → (S.ap a).testBit b = false → S.bt a b = 0
  pos : ∀ a b, a < S.groups.length → b < S.groups.length → 0 ≤ S.bt a b
  mate : ∀ k a b, k < S.phases.length → a < S.groups.length → b < S.groups.length → (S.ph k).groups.testBit a = true → (S.ph k).groups.testBit b = true → (S.ap a).testBit b = false
  srv : ∀ a, a < S.groups.length → ∃ k, k < S.phases.length ∧ (S.ph k).groups.testBit a = true
  low : roundM S ≤ S.low

theorem union_bit {S : St} {a : Nat} : ∀ k, (unionN S k).testBit a = true → ∃ j, j < k ∧ (S.ph j).groups.testBit a = true
  | 0, h => by simp [unionN] at h
  | k + 1, h => by
    rw [unionN, Nat.testBit_or, Bool.or_eq_true] at h
    rcases h with h | h
    · obtain ⟨j, hj, e⟩ := union_bit k h
      exact ⟨j, by omega, e⟩
    · exact ⟨k, by omega, h⟩
theorem keeps_may {S : St} (hs : siteB S = true) : Keeps S := by
  have hA := all_of hs
  have hgr : ∀ a, a < S.groups.length → 1 ≤ (S.gr a).yellow := fun a ha => by
    have h : groupB S a = true := hA 2 (by omega) a ha
    unfold groupB timeB at h
    simp only [Bool.and_eq_true, inB_iff] at h
    exact h.2.1
  have hap : ∀ a, a < S.groups.length → (S.ap a).testBit a = false ∧ ∀ b, b < S.groups.length → (S.ap a).testBit b = (S.ap b).testBit a := fun a ha => by
    have h : apartB S a = true := hA 3 (by omega) a ha
    unfold apartB at h
    simp only [Bool.and_eq_true, Bool.not_eq_true', allB_iff, beq_iff_eq] at h
    exact ⟨h.1.2, h.2⟩
  have hbt : ∀ a b, a < S.groups.length → b < S.groups.length → betB S a b = true := fun a b ha hb => by
    have h : betweenB S a = true := hA 4 (by omega) a ha
    unfold betweenB at h
    simp only [Bool.and_eq_true, allB_iff] at h
    exact h.2 b hb
  have hy : ∀ a b, a < S.groups.length → b < S.groups.length → (S.ap a).testBit b = true → (S.gr a).yellow ≤ S.bt a b := fun a b ha hb hx => by
    have h := hbt a b ha hb
    unfold betB at h
    rw [if_pos hx, inB_iff] at h
    exact h.1
  have hn : ∀ a b, a < S.groups.length → b < S.groups.length → (S.ap a).testBit b = false → S.bt a b = 0 := fun a b ha hb hx => by
    have h := hbt a b ha hb
    unfold betB at h
    rw [if_neg (by rw [hx]; decide)] at h
    exact of_decide_eq_true h
  refine ⟨fun a b ha hb => (hap a ha).2 b hb, fun a ha => (hap a ha).1, hy, hn, fun a b ha hb => ?_, fun k a b hk ha hb h1 h2 => ?_, fun a ha => ?_, ?_⟩
  · cases hx : (S.ap a).testBit b with
    | true => have := hy a b ha hb hx; have := hgr a ha; omega
    | false => have := hn a b ha hb hx; omega
  · have h : phaseB S k = true := hA 5 (by omega) k hk
    unfold phaseB mateB at h
    simp only [Bool.and_eq_true, allB_iff, Bool.or_eq_true, Bool.not_eq_true', decide_eq_true_eq] at h
    have h3 := h.1.1.1.1.1.2 a ha
    rcases h3 with h3 | h3
    · rw [h1] at h3; cases h3
    · have := congrArg (fun x => Nat.testBit x b) h3
      simp only [Nat.testBit_and, h2, Bool.and_true, Nat.zero_testBit] at this
      exact this
  · have h : servedB S = true := hA 6 (by omega) 0 Nat.zero_lt_one
    unfold servedB at h
    have h := of_decide_eq_true h
    refine union_bit _ ?_
    rw [h, Nat.testBit_two_pow_sub_one]
    exact decide_eq_true ha
  · have h : cyclesB S = true := hA 8 (by omega) 0 Nat.zero_lt_one
    unfold cyclesB at h
    simp only [Bool.and_eq_true, inB_iff] at h
    exact h.1.1

/-- The pairs (in order) ahead of a place. -/
def PairsP (S : St) (Q : Nat → Nat → Prop) (a b : Nat) (x : Int) : Prop := ∃ a' b', (a' < a ∨ a' = a ∧ b' < b) ∧ b' < S.groups.length ∧ Q a' b' ∧ x = S.bt a' b'
theorem pairs_start (S : St) (Q : Nat → Nat → Prop) : IsMost (PairsP S Q 0 0) 0 :=
  IsMost.none.congr (fun x => ⟨fun h => h.elim, fun ⟨a', b', h, _⟩ => by omega⟩)
theorem pairs_yes {S : St} {Q : Nat → Nat → Prop} {a b : Nat} {m : Int} (h : IsMost (PairsP S Q a b) m) (hb : b < S.groups.length) (hq : Q a b) : IsMost (PairsP S Q a (b + 1)) (max m (S.bt a b)) := by
  refine (h.more (S.bt a b)).congr (fun x => ⟨?_, ?_⟩)
  · rintro (⟨a', b', h1, h2, h3, rfl⟩ | rfl)
    · exact ⟨a', b', by omega, h2, h3, rfl⟩
    · exact ⟨a, b, by omega, hb, hq, rfl⟩
  · rintro ⟨a', b', h1, h2, h3, rfl⟩
    by_cases he : a' = a ∧ b' = b
    · obtain ⟨rfl, rfl⟩ := he
      exact .inr rfl
    · exact .inl ⟨a', b', by omega, h2, h3, rfl⟩
theorem pairs_no {S : St} {Q : Nat → Nat → Prop} {a b : Nat} {m : Int} (h : IsMost (PairsP S Q a b) m) (hq : ¬ Q a b) : IsMost (PairsP S Q a (b + 1)) m := by
  refine h.congr (fun x => ⟨?_, ?_⟩)
  · rintro ⟨a', b', h1, h2, h3, rfl⟩
    exact ⟨a', b', by omega, h2, h3, rfl⟩
  · rintro ⟨a', b', h1, h2, h3, rfl⟩
    by_cases he : a' = a ∧ b' = b
    · obtain ⟨rfl, rfl⟩ := he
      exact absurd h3 hq
    · exact ⟨a', b', by omega, h2, h3, rfl⟩
theorem pairs_row {S : St} {Q : Nat → Nat → Prop} {a : Nat} {m : Int} (h : IsMost (PairsP S Q a S.groups.length) m) : IsMost (PairsP S Q (a + 1) 0) m := by
  refine h.congr (fun x => ⟨?_, ?_⟩)
  · rintro ⟨a', b', h1, h2, h3, rfl⟩
    exact ⟨a', b', by omega, h2, h3, rfl⟩
  · rintro ⟨a', b', h1, h2, h3, rfl⟩
    exact ⟨a', b', by omega, h2, h3, rfl⟩
theorem flat_iff {S : St} (h : Shape S) (x : Int) : x ∈ S.between.flatten ↔ PairsP S (fun _ _ => True) S.groups.length 0 x := by
  have hn := h.ok.nb
  rw [List.mem_flatten]
  constructor
  · rintro ⟨l, hl, hx⟩
    obtain ⟨a, ha, rfl⟩ := List.getElem_of_mem hl
    obtain ⟨b, hb, rfl⟩ := List.getElem_of_mem hx
    have hr := h.row a (by omega)
    have hg : S.between.getD a [] = S.between[a] := by simp [List.getD_eq_getElem?_getD, List.getElem?_eq_getElem ha]
    rw [hg] at hr
    refine ⟨a, b, by omega, by omega, trivial, ?_⟩
    unfold St.bt
    rw [hg]
    simp [List.getD_eq_getElem?_getD, List.getElem?_eq_getElem hb]
  · rintro ⟨a, b, h1, h2, _, rfl⟩
    have ha : a < S.between.length := by omega
    have hr := h.row a (by omega)
    refine ⟨S.between.getD a [], getD_mem ha, ?_⟩
    unfold St.bt
    exact getD_mem (by omega)
theorem worst_pairs {S : St} (h : Shape S) {m : Int} (hm : IsMost (PairsP S (fun _ _ => True) S.groups.length 0) m) : worstM S = m := by
  unfold worstM
  exact (mostL_is _).uniq (hm.congr (fun x => (flat_iff h x).symm))
theorem worst_is {S : St} (h : Shape S) : IsMost (PairsP S (fun _ _ => True) S.groups.length 0) (worstM S) := by
  unfold worstM
  exact (mostL_is _).congr (fun x => flat_iff h x)
theorem lies_pairs {S : St} (h : Keeps S) {f t : Nat} {m : Int} (hm : IsMost (PairsP S (fun a b => (S.ph f).groups.testBit a = true ∧ (S.ph t).groups.testBit b = true) S.groups.length 0) m) : liesM S f t = m := by
  refine liesM_eq ⟨hm.1, ?_, fun x hx => ?_⟩
  · rcases hm.2.1 with e | ⟨a, b, h1, h2, ⟨h3, h4⟩, rfl⟩
    · exact .inl e
    · cases hx : (S.ap a).testBit b with
      | true => exact .inr ⟨a, b, by omega, h2, h3, h4, hx, rfl⟩
      | false => exact .inl (h.nil a b (by omega) h2 hx)
  · obtain ⟨a, b, h1, h2, h3, h4, h5, rfl⟩ := hx
    exact hm.2.2 _ ⟨a, b, by omega, h2, ⟨h3, h4⟩, rfl⟩
theorem lies_worst {S : St} (h : Shape S) (f t : Nat) : liesM S f t ≤ worstM S :=
  (liesM_is S f t).le (worst_is h).1 (fun x hx => by
    obtain ⟨a, b, h1, h2, _, _, _, rfl⟩ := hx
    exact (worst_is h).2.2 _ ⟨a, b, by omega, h2, trivial, rfl⟩)
theorem lies_self {S : St} (h : Keeps S) {f : Nat} (hf : f < S.phases.length) : liesM S f f = 0 :=
  liesM_eq (IsMost.none.congr (fun x => ⟨fun h => h.elim, fun ⟨a, b, h1, h2, h3, h4, h5, _⟩ => by
    rw [h.mate f a b hf h1 h2 h3 h4] at h5
    cases h5⟩))
/-- Is a group in one of the first phases? -/
def inN (S : St) (a k : Nat) : Bool := (List.range k).any (fun j => (S.ph j).groups.testBit a)
theorem inN_succ (S : St) (a k : Nat) : inN S a (k + 1) = (inN S a k || (S.ph k).groups.testBit a) := by
  simp [inN, List.range_succ]
theorem inN_all {S : St} (h : Keeps S) {a : Nat} (ha : a < S.groups.length) : inN S a S.phases.length = true := by
  obtain ⟨k, hk, e⟩ := h.srv a ha
  unfold inN
  rw [List.any_eq_true]
  exact ⟨k, List.mem_range.2 hk, e⟩
theorem bit_shift (g a : Nat) : ((g >>> a) % 2 = 1) ↔ g.testBit a = true := by
  rw [Nat.testBit_eq_decide_div_mod_eq, Nat.shiftRight_eq_div_pow]
  simp

end Go.Proofs.YtfhmfanmnhclfaaDoor

