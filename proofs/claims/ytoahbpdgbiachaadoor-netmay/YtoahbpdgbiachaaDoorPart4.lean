/-
  Part 4 of the texts that the proofs of this seat stand on.
-/
import Derived.Test.YtoahbpdgbiachaaDoorPart2
import Derived.Test.YtoahbpdgbiachaaDoorPart3
/-
  THE CONTRACTS of what a site is asked: Apart, Between, Worst, Clear, Plan.
-/
namespace Go.Proofs.YtoahbpdgbiachaaDoor
open Go.RowKit Go.Lib Go.Deep
set_option linter.unusedVariables false
set_option linter.unusedSimpArgs false

theorem all_of {S : St} (h : siteB S = true) : ∀ j, j < 10 → ∀ i, i < manyN S (ofN j) → condB S j i = true := fun j hj => by
  rw [siteB_eq] at h
  exact allB_iff.1 (allB_iff.1 h j hj)
theorem span_may {S : St} (h : siteB S = true) : Span S := span_of (fun j hj => all_of h j (by omega))
theorem checkE_yes {S : St} (h : siteB S = true) : checkE S = 0 := by unfold checkE; rw [if_pos h]
theorem checkE_no {S : St} (h : siteB S = false) : checkE S = 50 := by unfold checkE; rw [if_neg (by rw [h]; decide)]
def pairE (S : St) (a b : Int) (n : Nat) : Int := if siteB S = true then (if (inB a 0 ((n : Int) - 1) && inB b 0 ((n : Int) - 1)) = true then 0 else 2) else 50
theorem pairE_yes {S : St} (hs : siteB S = true) {a b n : Nat} (ha : a < n) (hb : b < n) : pairE S a b n = 0 := by
  unfold pairE
  rw [if_pos hs, if_pos]
  rw [Bool.and_eq_true, inB_iff, inB_iff]
  omega
theorem pairE_no {S : St} {a b : Int} {n : Nat} (hE : pairE S a b n = 0) : siteB S = true ∧ (∃ a' : Nat, a = a' ∧ a' < n) ∧ (∃ b' : Nat, b = b' ∧ b' < n) := by
  unfold pairE at hE
  split at hE
  · rename_i hs
    split at hE
    · rename_i hp
      rw [Bool.and_eq_true, inB_iff, inB_iff] at hp
      exact ⟨hs, ⟨a.toNat, by omega, by omega⟩, ⟨b.toNat, by omega, by omega⟩⟩
    · cases hE
  · cases hE
end Go.Proofs.YtoahbpdgbiachaaDoor

/-
  THE CONTRACTS of Worst and Plan.
-/
namespace Go.Proofs.YtoahbpdgbiachaaDoor
open Go.RowKit Go.Lib Go.Deep
set_option linter.unusedVariables false
set_option linter.unusedSimpArgs false

/-- The greatest of a list that has some. -/
def topL : List Int → Int
  | [] => 0
  | x :: l => l.foldl max x
theorem fold_max (l : List Int) : ∀ x, l.foldl max x = max x (l.foldl max x) ∧ (l.foldl max x = x ∨ l.foldl max x ∈ l) ∧ ∀ y ∈ l, y ≤ l.foldl max x := by
  induction l with
  | nil => intro x; simp
  | cons y l ih =>
    intro x
    obtain ⟨h1, h2, h3⟩ := ih (max x y)
    rw [List.foldl_cons]
    refine ⟨by omega, ?_, fun z hz => ?_⟩
    · rcases h2 with h2 | h2
      · rw [h2]
        rcases (show max x y = x ∨ max x y = y by omega) with e | e
        · exact .inl e
        · rw [e]; exact .inr (List.mem_cons_self ..)
      · exact .inr (List.mem_cons_of_mem _ h2)
    · rcases List.mem_cons.1 hz with rfl | hz
      · omega
      · exact h3 z hz
theorem topL_mem {l : List Int} (h : l ≠ []) : topL l ∈ l ∧ ∀ y ∈ l, y ≤ topL l := by
  cases l with
  | nil => exact absurd rfl h
  | cons x l =>
    obtain ⟨h1, h2, h3⟩ := fold_max l x
    show l.foldl max x ∈ x :: l ∧ _
    refine ⟨?_, fun y hy => ?_⟩
    · rcases h2 with h2 | h2
      · rw [h2]; exact List.mem_cons_self ..
      · exact List.mem_cons_of_mem _ h2
    · show y ≤ l.foldl max x
      rcases List.mem_cons.1 hy with rfl | hy
      · omega
      · exact h3 y hy
theorem fold_take {l : List Int} {x : Int} {k : Nat} (h : k < l.length) : (l.take (k + 1)).foldl max x = max ((l.take k).foldl max x) (l.getD k 0) := by
  rw [List.take_succ_eq_append_getElem h, List.foldl_append]
  simp [h]

def worstM (S : St) : Int := mostL S.between.flatten
theorem worst_fold {S : St} (h : ∀ l ∈ S.between, l ≠ []) : mostL (S.between.map topL) = worstM S := by
  have h1 := mostL_is (S.between.map topL)
  have h2 := mostL_is S.between.flatten
  have a1 : mostL (S.between.map topL) ≤ worstM S := h1.le h2.1 (fun x hx => by
    simp only [List.mem_map] at hx
    obtain ⟨l, hl, rfl⟩ := hx
    exact h2.2.2 _ (List.mem_flatten.2 ⟨l, hl, (topL_mem (h l hl)).1⟩))
  have a2 : worstM S ≤ mostL (S.between.map topL) := h2.le h1.1 (fun x hx => by
    obtain ⟨l, hl, hx⟩ := List.mem_flatten.1 hx
    have h3 := (topL_mem (h l hl)).2 x hx
    have h4 := h1.2.2 (topL l) (List.mem_map.2 ⟨l, hl, rfl⟩)
    omega)
  omega
end Go.Proofs.YtoahbpdgbiachaaDoor

/-
  WHAT A SITE THAT MAY BE TELLS of its groups and phases, pair by pair; and the greatest of what lies between, as a walk over all pairs finds it.
-/
namespace Go.Proofs.YtoahbpdgbiachaaDoor
open Go.RowKit Go.Lib Go.Deep
set_option linter.unusedVariables false
set_option linter.unusedSimpArgs false

structure Keeps (S : St) : Prop where
  sym : ∀ a b, a < S.groups.length → b < S.groups.length → (S.ap a).testBit b = (S.ap b).testBit a
  own : ∀ a, a < S.groups.length → (S.ap a).testBit a = false
  yel : ∀ a b, a < S.groups.length → b < S.groups.length → (S.ap a).testBit b = true → (S.gr a).yellow ≤ S.bt a b
  nil : ∀ a b, a < S.groups.length → b < S.groups.length → (S.ap a).testBit b = false → S.bt a b = 0
  pos : ∀ a b, a < S.groups.length → b < S.groups.length → 0 ≤ S.bt a b
  mate : ∀ k a b, k < S.phases.length → a < S.groups.length → b < S.groups.length → (S.ph k).groups.testBit a = true → (S.ph k).groups.testBit b = true → (S.ap a).testBit b = false
  srv : ∀ a, a < S.groups.length → ∃ k, k < S.phases.length ∧ (S.ph k).groups.testBit a = true
  low : roundM S ≤ S.low

theorem union_bit {S : St} {a : Nat} : ∀ k, (unionN S k).testBit a = true → ∃ j, j < k ∧ (S.ph j).groups.testBit a = true
  | 0, h => by simp [unionN] at h
  | k + 1, h => by
    rw [unionN, Nat.testBit_or, Bool.or_eq_true] at h
    rcases h with h | h
    · obtain ⟨j, hj, e⟩ := union_bit k h
      exact ⟨j, by omega, e⟩
    · exact ⟨k, by omega, h⟩
theorem keeps_may {S : St} (hs : siteB S = true) : Keeps S := by
  have hA := all_of hs
  have hgr : ∀ a, a < S.groups.length → 1 ≤ (S.gr a).yellow := fun a ha => by
    have h : groupB S a = true := hA 2 (by omega) a ha
    unfold groupB timeB at h
    simp only [Bool.and_eq_true, inB_iff] at h
    exact h.2.1
  have hap : ∀ a, a < S.groups.length → (S.ap a).testBit a = false ∧ ∀ b, b < S.groups.length → (S.ap a).testBit b = (S.ap b).testBit a := fun a ha => by
    have h : apartB S a = true := hA 3 (by omega) a ha
    unfold apartB at h
    simp only [Bool.and_eq_true, Bool.not_eq_true', allB_iff, beq_iff_eq] at h
    exact ⟨h.1.2, h.2⟩
  have hbt : ∀ a b, a < S.groups.length → b < S.groups.length → betB S a b = true := fun a b ha hb => by
    have h : betweenB S a = true := hA 4 (by omega) a ha
    unfold betweenB at h
    simp only [Bool.and_eq_true, allB_iff] at h
    exact h.2 b hb
  have hy : ∀ a b, a < S.groups.length → b < S.groups.length → (S.ap a).testBit b = true → (S.gr a).yellow ≤ S.bt a b := fun a b ha hb hx => by
    have h := hbt a b ha hb
    unfold betB at h
    rw [if_pos hx, inB_iff] at h
    exact h.1
  have hn : ∀ a b, a < S.groups.length → b < S.groups.length → (S.ap a).testBit b = false → S.bt a b = 0 := fun a b ha hb hx => by
    have h := hbt a b ha hb
    unfold betB at h
    rw [if_neg (by rw [hx]; decide)] at h
    exact of_decide_eq_true h
  refine ⟨fun a b ha hb => (hap a ha).2 b hb, fun a ha => (hap a ha).1, hy, hn, fun a b ha hb => ?_, fun k a b hk ha hb h1 h2 => ?_, fun a ha => ?_, ?_⟩
  · cases hx : (S.ap a).testBit b with
    | true => have := hy a b ha hb hx; have := hgr a ha; omega
    | false => have := hn a b ha hb hx; omega
  · have h : phaseB S k = true := hA 5 (by omega) k hk
    unfold phaseB mateB at h
    simp only [Bool.and_eq_true, allB_iff, Bool.or_eq_true, Bool.not_eq_true', decide_eq_true_eq] at h
    have h3 := h.1.1.1.1.1.2 a ha
    rcases h3 with h3 | h3
    · rw [h1] at h3; cases h3
    · have := congrArg (fun x => Nat.testBit x b) h3
      simp only [Nat.testBit_and, h2, Bool.and_true, Nat.zero_testBit] at this
      exact this
  · have h : servedB S = true := hA 6 (by omega) 0 Nat.zero_lt_one
    unfold servedB at h
    have h := of_decide_eq_true h
    refine union_bit _ ?_
    rw [h, Nat.testBit_two_pow_sub_one]
    exact decide_eq_true ha
  · have h : cyclesB S = true := hA 8 (by omega) 0 Nat.zero_lt_one
    unfold cyclesB at h
    simp only [Bool.and_eq_true, inB_iff] at h
    exact h.1.1

/-- The pairs (in order) ahead of a place. -/
def PairsP (S : St) (Q : Nat → Nat → Prop) (a b : Nat) (x : Int) : Prop := ∃ a' b', (a' < a ∨ a' = a ∧ b' < b) ∧ b' < S.groups.length ∧ Q a' b' ∧ x = S.bt a' b'
theorem pairs_start (S : St) (Q : Nat → Nat → Prop) : IsMost (PairsP S Q 0 0) 0 :=
  IsMost.none.congr (fun x => ⟨fun h => h.elim, fun ⟨a', b', h, _⟩ => by omega⟩)
theorem pairs_yes {S : St} {Q : Nat → Nat → Prop} {a b : Nat} {m : Int} (h : IsMost (PairsP S Q a b) m) (hb : b < S.groups.length) (hq : Q a b) : IsMost (PairsP S Q a (b + 1)) (max m (S.bt a b)) := by
  refine (h.more (S.bt a b)).congr (fun x => ⟨?_, ?_⟩)
  · rintro (⟨a', b', h1, h2, h3, rfl⟩ | rfl)
    · exact ⟨a', b', by omega, h2, h3, rfl⟩
    · exact ⟨a, b, by omega, hb, hq, rfl⟩
  · rintro ⟨a', b', h1, h2, h3, rfl⟩
    by_cases he : a' = a ∧ b' = b
    · obtain ⟨rfl, rfl⟩ := he
      exact .inr rfl
    · exact .inl ⟨a', b', by omega, h2, h3, rfl⟩
theorem pairs_no {S : St} {Q : Nat → Nat → Prop} {a b : Nat} {m : Int} (h : IsMost (PairsP S Q a b) m) (hq : ¬ Q a b) : IsMost (PairsP S Q a (b + 1)) m := by
  refine h.congr (fun x => ⟨?_, ?_⟩)
  · rintro ⟨a', b', h1, h2, h3, rfl⟩
    exact ⟨a', b', by omega, h2, h3, rfl⟩
  · rintro ⟨a', b', h1, h2, h3, rfl⟩
    by_cases he : a' = a ∧ b' = b
    · obtain ⟨rfl, rfl⟩ := he
      exact absurd h3 hq
    · exact ⟨a', b', by omega, h2, h3, rfl⟩
theorem pairs_row {S : St} {Q : Nat → Nat → Prop} {a : Nat} {m : Int} (h : IsMost (PairsP S Q a S.groups.length) m) : IsMost (PairsP S Q (a + 1) 0) m := by
  refine h.congr (fun x => ⟨?_, ?_⟩)
  · rintro ⟨a', b', h1, h2, h3, rfl⟩
    exact ⟨a', b', by omega, h2, h3, rfl⟩
  · rintro ⟨a', b', h1, h2, h3, rfl⟩
    exact ⟨a', b', by omega, h2, h3, rfl⟩
theorem flat_iff {S : St} (h : Shape S) (x : Int) : x ∈ S.between.flatten ↔ PairsP S (fun _ _ => True) S.groups.length 0 x := by
  have hn := h.ok.nb
  rw [List.mem_flatten]
  constructor
  · rintro ⟨l, hl, hx⟩
    obtain ⟨a, ha, rfl⟩ := List.getElem_of_mem hl
    obtain ⟨b, hb, rfl⟩ := List.getElem_of_mem hx
    have hr := h.row a (by omega)
    have hg : S.between.getD a [] = S.between[a] := by simp [List.getD_eq_getElem?_getD, List.getElem?_eq_getElem ha]
    rw [hg] at hr
    refine ⟨a, b, by omega, by omega, trivial, ?_⟩
    unfold St.bt
    rw [hg]
    simp [List.getD_eq_getElem?_getD, List.getElem?_eq_getElem hb]
  · rintro ⟨a, b, h1, h2, _, rfl⟩
    have ha : a < S.between.length := by omega
    have hr := h.row a (by omega)
    refine ⟨S.between.getD a [], getD_mem ha, ?_⟩
    unfold St.bt
    exact getD_mem (by omega)
theorem worst_pairs {S : St} (h : Shape S) {m : Int} (hm : IsMost (PairsP S (fun _ _ => True) S.groups.length 0) m) : worstM S = m := by
  unfold worstM
  exact (mostL_is _).uniq (hm.congr (fun x => (flat_iff h x).symm))
theorem worst_is {S : St} (h : Shape S) : IsMost (PairsP S (fun _ _ => True) S.groups.length 0) (worstM S) := by
  unfold worstM
  exact (mostL_is _).congr (fun x => flat_iff h x)
theorem lies_pairs {S : St} (h : Keeps S) {f t : Nat} {m : Int} (hm : IsMost (PairsP S (fun a b => (S.ph f).groups.testBit a = true ∧ (S.ph t).groups.testBit b = true) S.groups.length 0) m) : liesM S f t = m := by
  refine liesM_eq ⟨hm.1, ?_, fun x hx => ?_⟩
  · rcases hm.2.1 with e | ⟨a, b, h1, h2, ⟨h3, h4⟩, rfl⟩
    · exact .inl e
    · cases hx : (S.ap a).testBit b with
      | true => exact .inr ⟨a, b, by omega, h2, h3, h4, hx, rfl⟩
      | false => exact .inl (h.nil a b (by omega) h2 hx)
  · obtain ⟨a, b, h1, h2, h3, h4, h5, rfl⟩ := hx
    exact hm.2.2 _ ⟨a, b, by omega, h2, ⟨h3, h4⟩, rfl⟩
theorem lies_worst {S : St} (h : Shape S) (f t : Nat) : liesM S f t ≤ worstM S :=
  (liesM_is S f t).le (worst_is h).1 (fun x hx => by
    obtain ⟨a, b, h1, h2, _, _, _, rfl⟩ := hx
    exact (worst_is h).2.2 _ ⟨a, b, by omega, h2, trivial, rfl⟩)
theorem lies_self {S : St} (h : Keeps S) {f : Nat} (hf : f < S.phases.length) : liesM S f f = 0 :=
  liesM_eq (IsMost.none.congr (fun x => ⟨fun h => h.elim, fun ⟨a, b, h1, h2, h3, h4, h5, _⟩ => by
    rw [h.mate f a b hf h1 h2 h3 h4] at h5
    cases h5⟩))
/-- Is a group in one of the first phases? -/
def inN (S : St) (a k : Nat) : Bool := (List.range k).any (fun j => (S.ph j).groups.testBit a)
theorem inN_succ (S : St) (a k : Nat) : inN S a (k + 1) = (inN S a k || (S.ph k).groups.testBit a) := by
  simp [inN, List.range_succ]
theorem inN_all {S : St} (h : Keeps S) {a : Nat} (ha : a < S.groups.length) : inN S a S.phases.length = true := by
  obtain ⟨k, hk, e⟩ := h.srv a ha
  unfold inN
  rw [List.any_eq_true]
  exact ⟨k, List.mem_range.2 hk, e⟩
theorem bit_shift (g a : Nat) : ((g >>> a) % 2 = 1) ↔ g.testBit a = true := by
  rw [Nat.testBit_eq_decide_div_mod_eq, Nat.shiftRight_eq_div_pow]
  simp

end Go.Proofs.YtoahbpdgbiachaaDoor

/-
  THE DOCUMENT'S OWN ANSWER, part four: what lies from one phase to another one, the least round, and whether a plan may be one of a site.
-/
namespace Go.Proofs.YtoahbpdgbiachaaDoor
open Go.RowKit Go.Lib Go.Deep
set_option linter.unusedVariables false
set_option linter.unusedSimpArgs false

theorem rhas_is {S i : Nat} {v : Bool} {w : World} (hS : S < 4294967296) (hi : i < 32) (hv : S.testBit i = v) : Calls Tryd.prog 93 #[.int .u32 S, .int .i64 i] w fun e w' => e = .returned (.bool v) ∧ w' = w := by
  have := rhas_any S i w hS
  rw [has_in hi, hv] at this
  exact this
theorem lies_all {S : St} {f t : Nat} {m : Int} (hm : IsMost (PairsP S (fun a b => (S.ph f).groups.testBit a = true ∧ (S.ph t).groups.testBit b = true ∧ (S.ap a).testBit b = true) S.groups.length 0) m) : liesM S f t = m :=
  liesM_eq (hm.congr (fun x => ⟨fun ⟨a, b, h1, h2, ⟨h3, h4, h5⟩, h6⟩ => ⟨a, b, by omega, h2, h3, h4, h5, h6⟩, fun ⟨a, b, h1, h2, h3, h4, h5, h6⟩ => ⟨a, b, by omega, h2, ⟨h3, h4, h5⟩, h6⟩⟩))
set_option maxRecDepth 100000 in
set_option maxHeartbeats 8000000 in
theorem rclear_yes {X : Sa} {S : St} {w : World} (h : Sat w X S) (hSh : Shape S) (f t : Nat) (hf : f < S.phases.length) (ht : t < S.phases.length) : Calls Tryd.prog 109 #[siteV X S, .int .i64 f, .int .i64 t] w fun e w' => e = .returned (.int .i64 (liesM S f t)) ∧ Kept w w' none := by
  obtain ⟨xg, xgc, xa, xac, xb, xbc, xp, xpc, xe, xec, xl, xlc⟩ := X
  have hg16 := hSh.ok.ng
  have hp8 := hSh.ok.np
  have hna := hSh.ok.na
  have hnb := hSh.ok.nb
  obtain ⟨bg, og, eg, _⟩ := h.grAt (i := 0) (by omega)
  obtain ⟨bp, op, ep, _⟩ := h.phAt (i := 0) (by omega)
  obtain ⟨bb, ob, _, _, eb, _⟩ := h.b.at_ (i := 0) (by omega)
  dsimp only at eg ep eb
  subst eg ep eb
  have hkA : Kept w (w.alloc (.cells #[.int .i64 S.id, .slice (some ⟨bg, og, none⟩) S.groups.length xgc, .slice xa S.apart.length xac, .slice (some ⟨bb, ob, none⟩) S.between.length xbc, .slice (some ⟨bp, op, none⟩) S.phases.length xpc, .slice xe S.eyes.length xec, .int .i64 S.watch, .int .i64 S.feed, .int .i64 S.heal, .int .i64 S.low, .int .i64 S.high, .slice xl S.plans.length xlc] 48)) none := Kept.alloc _ _ _ _ _
  have HSB := Hid.mk' (sbox_alloc h 48)
  have HK := Hid.mk' hkA
  have HPH : Hid (∀ w', Kept (w.alloc (.cells #[.int .i64 S.id, .slice (some ⟨bg, og, none⟩) S.groups.length xgc, .slice xa S.apart.length xac, .slice (some ⟨bb, ob, none⟩) S.between.length xbc, .slice (some ⟨bp, op, none⟩) S.phases.length xpc, .slice xe S.eyes.length xec, .int .i64 S.watch, .int .i64 S.feed, .int .i64 S.heal, .int .i64 S.low, .int .i64 S.high, .slice xl S.plans.length xlc] 48)) w' none → ∀ i, i < S.phases.length → w'.cell? ⟨bp, op + i * 5, none⟩ = some (.int .u32 ((S.ph i).groups : Int))) := fun w' q i hi => by
    obtain ⟨b, o, e, p1, _⟩ := h.phAt hi
    injection e with e; injection e with e1 e2
    subst e1 e2
    exact cell_kept0 p1 (HK.out.tr q)
  have HBT : Hid (∀ i, i < S.groups.length → ∃ ar cr, (∀ w', Kept (w.alloc (.cells #[.int .i64 S.id, .slice (some ⟨bg, og, none⟩) S.groups.length xgc, .slice xa S.apart.length xac, .slice (some ⟨bb, ob, none⟩) S.between.length xbc, .slice (some ⟨bp, op, none⟩) S.phases.length xpc, .slice xe S.eyes.length xec, .int .i64 S.watch, .int .i64 S.feed, .int .i64 S.heal, .int .i64 S.low, .int .i64 S.high, .slice xl S.plans.length xlc] 48)) w' none → w'.cell? ⟨bb, ob + i, none⟩ = some (.slice ar (S.between.getD i []).length cr)) ∧ Ints (w.alloc (.cells #[.int .i64 S.id, .slice (some ⟨bg, og, none⟩) S.groups.length xgc, .slice xa S.apart.length xac, .slice (some ⟨bb, ob, none⟩) S.between.length xbc, .slice (some ⟨bp, op, none⟩) S.phases.length xpc, .slice xe S.eyes.length xec, .int .i64 S.watch, .int .i64 S.feed, .int .i64 S.heal, .int .i64 S.low, .int .i64 S.high, .slice xl S.plans.length xlc] 48)) ar (S.between.getD i []).length cr (S.between.getD i [])) := fun i hi => by
    obtain ⟨b, o, ar, cr, e, p1, hI⟩ := h.b.at_ (i := i) (by omega)
    injection e with e; injection e with e1 e2
    subst e1 e2
    exact ⟨ar, cr, fun w' q => cell_kept0 p1 (HK.out.tr q), hI.kept HK.out⟩
  have hgf := h.phr f
  have hgt := h.phr t
  have HRW := Hid.mk' hSh.row
  have HNA := Hid.mk' hna
  have HNB := Hid.mk' hnb
  clear h hkA hSh hna hnb
  go_enter Tryd.func109, Tryd.ntmps109
  go_wp2
  generalize hW : (w.alloc (.cells #[.int .i64 S.id, .slice (some ⟨bg, og, none⟩) S.groups.length xgc, .slice xa S.apart.length xac, .slice (some ⟨bb, ob, none⟩) S.between.length xbc, .slice (some ⟨bp, op, none⟩) S.phases.length xpc, .slice xe S.eyes.length xec, .int .i64 S.watch, .int .i64 S.feed, .int .i64 S.heal, .int .i64 S.low, .int .i64 S.high, .slice xl S.plans.length xlc] 48)) = W at *
  clear hW
  go_loopw [7, 8] (fun m a wr => ∃ (k : Nat) (M : Int), k ≤ S.groups.length ∧ a = .int .i64 k ∧ m = .int .i64 M ∧ Hid (IsMost (PairsP S (fun a b => (S.ph f).groups.testBit a = true ∧ (S.ph t).groups.testBit b = true ∧ (S.ap a).testBit b = true) k 0) M) ∧ Kept W wr none) (fun _ a _ => S.groups.length - (intOf a).toNat)
  case atStart => exact ⟨0, 0, Nat.zero_le _, rfl, rfl, pairs_start _ _, Kept.refl _ _⟩
  case round =>
    obtain ⟨a, M, ha, rfl, rfl, HM, hkr⟩ := hrel
    have c1 := (HSB.out.kept hkr).c1
    by_cases hal : a < S.groups.length
    case neg =>
      have e : a = S.groups.length := by omega
      subst e
      have HE := Hid.mk' (lies_all HM.out)
      go_wp2
      go_ret
      exact ⟨by rw [HE.out]; rfl, HK.out.tr hkr⟩
    go_wp2
    clear c1
    go_loopw [7, 9] (fun m b wx => ∃ (k : Nat) (M : Int), k ≤ S.groups.length ∧ b = .int .i64 k ∧ m = .int .i64 M ∧ Hid (IsMost (PairsP S (fun a b => (S.ph f).groups.testBit a = true ∧ (S.ph t).groups.testBit b = true ∧ (S.ap a).testBit b = true) a k) M) ∧ Kept W wx none) (fun _ b _ => S.groups.length - (intOf b).toNat)
    case atStart => exact ⟨0, M, Nat.zero_le _, rfl, rfl, HM, hkr⟩
    case round =>
    clear hkr
    obtain ⟨b, N, hb, rfl, rfl, HN, hkx⟩ := hrel
    obtain ⟨c0, c1, c2, c3, c4, c5, c6, c7, c8, c9, c10, c11, _⟩ := HSB.out.kept hkx
    by_cases hbl : b < S.groups.length
    case neg =>
      have e : b = S.groups.length := by omega
      subst e
      go_wp2
      go_roundw
      case rel => exact ⟨a + 1, N, by omega, by go_num, rfl, pairs_row HN.out, hkx⟩
      case measure => simp [intOf]; omega
    have hna := HNA.out
    have hnb := HNB.out
    have haa : a < S.apart.length := by omega
    have hab : a < S.between.length := by omega
    clear hna hnb
    have hrl := HRW.out a hal
    obtain ⟨ar, cr, fb, hI⟩ := HBT.out a hal
    obtain ⟨bi, oi, ei, _, hci⟩ := hI.at_ (by omega)
    subst ei
    have fi : ∀ w', Kept W w' none → w'.cell? ⟨bi, oi + b, none⟩ = some (.int .i64 (S.bt a b)) := fun w' q => cell_kept0 (hci b (by omega)) q
    rw [hrl] at fb
    clear hI hci hrl
    have kf := HPH.out _ hkx f hf
    have kt := HPH.out _ hkx t ht
    have HPN : Hid (¬ ((S.ph f).groups.testBit a = true ∧ (S.ph t).groups.testBit b = true ∧ (S.ap a).testBit b = true) → IsMost (PairsP S (fun a b => (S.ph f).groups.testBit a = true ∧ (S.ph t).groups.testBit b = true ∧ (S.ap a).testBit b = true) a (b + 1)) N) := fun q => pairs_no HN.out q
    have HPY : Hid (((S.ph f).groups.testBit a = true ∧ (S.ph t).groups.testBit b = true ∧ (S.ap a).testBit b = true) → IsMost (PairsP S (fun a b => (S.ph f).groups.testBit a = true ∧ (S.ph t).groups.testBit b = true ∧ (S.ap a).testBit b = true) a (b + 1)) (max N (S.bt a b))) := fun q => pairs_yes HN.out hbl q
    cases hA : (S.ph f).groups.testBit a with
    | false =>
      go_wp2_with (first | (go_at_call 93; refine (rhas_is (by assumption) (by omega) (by assumption)).mono ?_; rintro e w9 ⟨rfl, rfl⟩))
      go_roundw
      case rel => exact ⟨b + 1, N, by omega, by go_num, rfl, (HPN.out (fun q => by rw [hA] at q; cases q.1)), hkx⟩
      case measure => simp [intOf]; omega
    | true =>
      cases hB : (S.ph t).groups.testBit b with
      | false =>
        go_wp2_with (first | (go_at_call 93; refine (rhas_is (by assumption) (by omega) (by assumption)).mono ?_; rintro e w9 ⟨rfl, rfl⟩))
        go_roundw
        case rel => exact ⟨b + 1, N, by omega, by go_num, rfl, (HPN.out (fun q => by rw [hB] at q; cases q.2.1)), hkx⟩
        case measure => simp [intOf]; omega
      | true =>
        cases hC : (S.ap a).testBit b with
        | false =>
          go_wp2_with (first | (go_at_call 92; refine (rapart_is (HSB.out.sat.kept hkx) haa (by omega) (by assumption)).mono ?_; rintro e wS ⟨rfl, hkS⟩; obtain ⟨c0, c1, c2, c3, c4, c5, c6, c7, c8, c9, c10, c11, _⟩ := HSB.out.kept (hkx.tr hkS); have hrw := fb _ (hkx.tr hkS); have hrb := fi _ (hkx.tr hkS)) | (go_at_call 93; refine (rhas_is (by assumption) (by omega) (by assumption)).mono ?_; rintro e w9 ⟨rfl, rfl⟩))
          go_roundw
          case rel => exact ⟨b + 1, N, by omega, by go_num, rfl, (HPN.out (fun q => by rw [hC] at q; cases q.2.2)), hkx.tr hkS⟩
          case measure => simp [intOf]; omega
        | true =>
          have HMX := Hid.mk' (HPY.out ⟨hA, hB, hC⟩)
          generalize S.bt a b = BT at *
          by_cases hmx : N < BT
          · have HMY : Hid (IsMost (PairsP S (fun a b => (S.ph f).groups.testBit a = true ∧ (S.ph t).groups.testBit b = true ∧ (S.ap a).testBit b = true) a (b + 1)) BT) := by
              have := HMX.out
              rw [show max N BT = BT by omega] at this
              exact this
            go_wp2_with (first | (go_at_call 92; refine (rapart_is (HSB.out.sat.kept hkx) haa (by omega) (by assumption)).mono ?_; rintro e wS ⟨rfl, hkS⟩; clear c0 c1 c2 c3 c4 c5 c6 c7 c8 c9 c10 c11; obtain ⟨c0, c1, c2, c3, c4, c5, c6, c7, c8, c9, c10, c11, _⟩ := HSB.out.kept (hkx.tr hkS); have hrw := fb _ (hkx.tr hkS); have hrb := fi _ (hkx.tr hkS)) | (go_at_call 93; refine (rhas_is (by assumption) (by omega) (by assumption)).mono ?_; rintro e w9 ⟨rfl, rfl⟩))
            go_roundw
            case rel => exact ⟨b + 1, BT, by omega, by go_num, rfl, HMY, hkx.tr hkS⟩
            case measure => simp [intOf]; omega
          · have HMY : Hid (IsMost (PairsP S (fun a b => (S.ph f).groups.testBit a = true ∧ (S.ph t).groups.testBit b = true ∧ (S.ap a).testBit b = true) a (b + 1)) N) := by
              have := HMX.out
              rw [show max N BT = N by omega] at this
              exact this
            go_wp2_with (first | (go_at_call 92; refine (rapart_is (HSB.out.sat.kept hkx) haa (by omega) (by assumption)).mono ?_; rintro e wS ⟨rfl, hkS⟩; clear c0 c1 c2 c3 c4 c5 c6 c7 c8 c9 c10 c11; obtain ⟨c0, c1, c2, c3, c4, c5, c6, c7, c8, c9, c10, c11, _⟩ := HSB.out.kept (hkx.tr hkS); have hrw := fb _ (hkx.tr hkS); have hrb := fi _ (hkx.tr hkS)) | (go_at_call 93; refine (rhas_is (by assumption) (by omega) (by assumption)).mono ?_; rintro e w9 ⟨rfl, rfl⟩))
            go_roundw
            case rel => exact ⟨b + 1, N, by omega, by go_num, rfl, HMY, hkx.tr hkS⟩
            case measure => simp [intOf]; omega

set_option maxRecDepth 100000 in
set_option maxHeartbeats 4000000 in
theorem rneeds_yes {X : Sa} {S : St} {w : World} (h : Sat w X S) (hBs : Base S) (i : Nat) (hi : i < S.phases.length) : Calls Tryd.prog 96 #[siteV X S, .int .i64 i] w fun e w' => e = .returned (.int .i64 (partM S i)) ∧ Kept w w' none := by
  obtain ⟨xg, xgc, xa, xac, xb, xbc, xp, xpc, xe, xec, xl, xlc⟩ := X
  have hp8 := hBs.sh.ok.np
  have hmn := hBs.mn i hi
  have hli := hBs.lies i ((i + 1) % S.phases.length)
  obtain ⟨bp, op, ep, _, kp1, _⟩ := h.phAt hi
  dsimp only at ep
  subst ep
  have hkA : Kept w (w.alloc (.cells #[.int .i64 S.id, .slice xg S.groups.length xgc, .slice xa S.apart.length xac, .slice xb S.between.length xbc, .slice (some ⟨bp, op, none⟩) S.phases.length xpc, .slice xe S.eyes.length xec, .int .i64 S.watch, .int .i64 S.feed, .int .i64 S.heal, .int .i64 S.low, .int .i64 S.high, .slice xl S.plans.length xlc] 48)) none := Kept.alloc _ _ _ _ _
  have HSB := Hid.mk' (sbox_alloc h 48)
  have HK := Hid.mk' hkA
  have HS := Hid.mk' hBs
  have km := cell_kept0 kp1 hkA
  have hmod : ((i : Int) + 1) % (S.phases.length : Int) = (((i + 1) % S.phases.length : Nat) : Int) := by simp
  have hml : (i + 1) % S.phases.length < S.phases.length := Nat.mod_lt _ (by omega)
  have hwr : (IntKind.i64.wrap ((i : Int) + 1)).tmod (S.phases.length : Int) = (((i + 1) % S.phases.length : Nat) : Int) := by
    rw [wrap_in (by omega) (by omega), Int.tmod_eq_emod_of_nonneg (by omega)]
    exact hmod
  have hwr2 : ((i : Int) + 1).tmod (S.phases.length : Int) = (((i + 1) % S.phases.length : Nat) : Int) := by
    rw [Int.tmod_eq_emod_of_nonneg (by omega)]
    exact hmod
  have hsum : IntKind.i64.wrap ((S.ph i).min + liesM S i ((i + 1) % S.phases.length)) = partM S i := by
    rw [wrap_in (by omega) (by omega)]; rfl
  have HE : Hid (partM S i = (S.ph i).min + liesM S i ((i + 1) % S.phases.length)) := rfl
  generalize hj : (i + 1) % S.phases.length = j at *
  have hnz : ((S.phases.length : Int) == 0) = false := by rw [beq_eq_false_iff_ne]; omega
  have hnz1 : ¬ (S.phases.length : Int) = 0 := by omega
  have hnz2 : ¬ S.phases = [] := by intro e; rw [e] at hp8; simp at hp8
  have HW := Hid.mk' hsum
  clear h hkA hBs hj kp1 hsum
  go_enter Tryd.func96, Tryd.ntmps96
  go_wp2
  generalize hW0 : (w.alloc (.cells #[.int .i64 S.id, .slice xg S.groups.length xgc, .slice xa S.apart.length xac, .slice xb S.between.length xbc, .slice (some ⟨bp, op, none⟩) S.phases.length xpc, .slice xe S.eyes.length xec, .int .i64 S.watch, .int .i64 S.feed, .int .i64 S.heal, .int .i64 S.low, .int .i64 S.high, .slice xl S.plans.length xlc] 48)) = W at *
  clear hW0
  have f0 : ∀ w', Kept W w' none → w'.cell? ⟨w.heap.size, 0, none⟩ = some (.int .i64 S.id) := fun w' k => (HSB.out.kept k).c0
  have f1 : ∀ w', Kept W w' none → w'.cell? ⟨w.heap.size, 1, none⟩ = some (.slice xg S.groups.length xgc) := fun w' k => (HSB.out.kept k).c1
  have f2 : ∀ w', Kept W w' none → w'.cell? ⟨w.heap.size, 2, none⟩ = some (.slice xa S.apart.length xac) := fun w' k => (HSB.out.kept k).c2
  have f3 : ∀ w', Kept W w' none → w'.cell? ⟨w.heap.size, 3, none⟩ = some (.slice xb S.between.length xbc) := fun w' k => (HSB.out.kept k).c3
  have f4 : ∀ w', Kept W w' none → w'.cell? ⟨w.heap.size, 4, none⟩ = some (.slice (some ⟨bp, op, none⟩) S.phases.length xpc) := fun w' k => (HSB.out.kept k).c4
  have f5 : ∀ w', Kept W w' none → w'.cell? ⟨w.heap.size, 5, none⟩ = some (.slice xe S.eyes.length xec) := fun w' k => (HSB.out.kept k).c5
  have f6 : ∀ w', Kept W w' none → w'.cell? ⟨w.heap.size, 6, none⟩ = some (.int .i64 S.watch) := fun w' k => (HSB.out.kept k).c6
  have f7 : ∀ w', Kept W w' none → w'.cell? ⟨w.heap.size, 7, none⟩ = some (.int .i64 S.feed) := fun w' k => (HSB.out.kept k).c7
  have f8 : ∀ w', Kept W w' none → w'.cell? ⟨w.heap.size, 8, none⟩ = some (.int .i64 S.heal) := fun w' k => (HSB.out.kept k).c8
  have f9 : ∀ w', Kept W w' none → w'.cell? ⟨w.heap.size, 9, none⟩ = some (.int .i64 S.low) := fun w' k => (HSB.out.kept k).c9
  have f10 : ∀ w', Kept W w' none → w'.cell? ⟨w.heap.size, 10, none⟩ = some (.int .i64 S.high) := fun w' k => (HSB.out.kept k).c10
  have f11 : ∀ w', Kept W w' none → w'.cell? ⟨w.heap.size, 11, none⟩ = some (.slice xl S.plans.length xlc) := fun w' k => (HSB.out.kept k).c11
  have fm : ∀ w', Kept W w' none → w'.cell? ⟨bp, op + i * 5 + 1, none⟩ = some (.int .i64 (S.ph i).min) := fun w' q => cell_kept0 km q
  clear km
  go_region_held (fun w' => Kept W w' none)
    ((first | exact Kept.refl _ _ | exact Kept.drew _ _ | assumption | exact Kept.tr (by assumption) (Kept.drew _ _)))
    ((go_at_call 109; refine (rclear_yes (HSB.out.sat.kept (by assumption)) HS.out.sh i j hi hml).mono ?_; rintro e wS ⟨rfl, hkS⟩; have hKS : Kept W wS none := Kept.tr (by assumption) hkS))
  all_goals
    go_wp2
    go_ret
    exact ⟨ret_int HW.out, HK.out.tr (by assumption)⟩
set_option maxRecDepth 100000 in
set_option maxHeartbeats 4000000 in
theorem rround_yes {X : Sa} {S : St} {w : World} (h : Sat w X S) (hBs : Base S) : Calls Tryd.prog 65 #[siteV X S] w fun e w' => e = .returned (.int .i64 (roundM S)) ∧ Kept w w' none := by
  obtain ⟨xg, xgc, xa, xac, xb, xbc, xp, xpc, xe, xec, xl, xlc⟩ := X
  have hp8 := hBs.sh.ok.np
  have hkA : Kept w (w.alloc (.cells #[.int .i64 S.id, .slice xg S.groups.length xgc, .slice xa S.apart.length xac, .slice xb S.between.length xbc, .slice xp S.phases.length xpc, .slice xe S.eyes.length xec, .int .i64 S.watch, .int .i64 S.feed, .int .i64 S.heal, .int .i64 S.low, .int .i64 S.high, .slice xl S.plans.length xlc] 48)) none := Kept.alloc _ _ _ _ _
  have HSB := Hid.mk' (sbox_alloc h 48)
  have HK := Hid.mk' hkA
  have HS := Hid.mk' hBs
  clear h hkA hBs
  go_enter Tryd.func65, Tryd.ntmps65
  go_wp2
  generalize hW0 : (w.alloc (.cells #[.int .i64 S.id, .slice xg S.groups.length xgc, .slice xa S.apart.length xac, .slice xb S.between.length xbc, .slice xp S.phases.length xpc, .slice xe S.eyes.length xec, .int .i64 S.watch, .int .i64 S.feed, .int .i64 S.heal, .int .i64 S.low, .int .i64 S.high, .slice xl S.plans.length xlc] 48)) = W at *
  clear hW0
  go_loopw [3, 4] (fun s i wr => ∃ k : Nat, k ≤ S.phases.length ∧ i = .int .i64 k ∧ s = .int .i64 (roundN S k) ∧ Kept W wr none) (fun _ i _ => S.phases.length - (intOf i).toNat)
  case atStart => exact ⟨0, Nat.zero_le _, rfl, rfl, Kept.refl _ _⟩
  case round =>
    obtain ⟨k, hk, rfl, rfl, hkw⟩ := hrel
    have hr := HS.out.round k hk
    obtain ⟨c0, c1, c2, c3, c4, c5, c6, c7, c8, c9, c10, c11, _⟩ := HSB.out.kept hkw
    by_cases hlt : k < S.phases.length
    · have hp := HS.out.part hlt
      have HR : Hid (roundN S (k + 1) = roundN S k + partM S k) := rfl
      generalize roundN S k = R at *
      go_wp2_with (go_at_call 96; refine (rneeds_yes (HSB.out.sat.kept hkw) HS.out k hlt).mono ?_; rintro e w2 ⟨rfl, hk2⟩)
      go_roundw
      case rel => exact ⟨k + 1, by omega, by go_num, by rw [HR.out], hkw.tr hk2⟩
      case measure => simp [intOf]; omega
    · have e : k = S.phases.length := by omega
      subst e
      go_wp2
      go_ret
      exact ⟨rfl, HK.out.tr hkw⟩

end Go.Proofs.YtoahbpdgbiachaaDoor

/-
  THE DOCUMENT'S OWN ANSWER, part five: whether a plan may be one of a site, and the worst.
-/
namespace Go.Proofs.YtoahbpdgbiachaaDoor
open Go.RowKit Go.Lib Go.Deep
set_option linter.unusedVariables false
set_option linter.unusedSimpArgs false

set_option maxRecDepth 100000 in
set_option maxHeartbeats 8000000 in
theorem rplan_yes {X : Sa} {S : St} {w : World} (h : Sat w X S) (hSp : Span S) (p : Pl) (a : Option Addr) (c : Nat) (hI : Ints w a p.splits.length c p.splits) : Calls Tryd.prog 66 #[siteV X S, planV p a c] w fun e w' => e = .returned (.bool (planB S p)) ∧ Kept w w' none := by
  obtain ⟨xg, xgc, xa, xac, xb, xbc, xp, xpc, xe, xec, xl, xlc⟩ := X
  have hp8 := hSp.base.sh.ok.np
  have hlow := hSp.low
  have hhigh := hSp.high
  have hkA : Kept w (w.alloc (.cells #[.int .i64 S.id, .slice xg S.groups.length xgc, .slice xa S.apart.length xac, .slice xb S.between.length xbc, .slice xp S.phases.length xpc, .slice xe S.eyes.length xec, .int .i64 S.watch, .int .i64 S.feed, .int .i64 S.heal, .int .i64 S.low, .int .i64 S.high, .slice xl S.plans.length xlc] 48)) none := Kept.alloc _ _ _ _ _
  have hkB : Kept (w.alloc (.cells #[.int .i64 S.id, .slice xg S.groups.length xgc, .slice xa S.apart.length xac, .slice xb S.between.length xbc, .slice xp S.phases.length xpc, .slice xe S.eyes.length xec, .int .i64 S.watch, .int .i64 S.feed, .int .i64 S.heal, .int .i64 S.low, .int .i64 S.high, .slice xl S.plans.length xlc] 48)) ((w.alloc (.cells #[.int .i64 S.id, .slice xg S.groups.length xgc, .slice xa S.apart.length xac, .slice xb S.between.length xbc, .slice xp S.phases.length xpc, .slice xe S.eyes.length xec, .int .i64 S.watch, .int .i64 S.feed, .int .i64 S.heal, .int .i64 S.low, .int .i64 S.high, .slice xl S.plans.length xlc] 48)).alloc (.cells #[.int .i64 p.cycle, .int .i64 p.offset, .slice a p.splits.length c] 113)) none := Kept.alloc _ _ _ _ _
  have HSB := Hid.mk' ((sbox_alloc h 48).kept hkB)
  have HK := Hid.mk' (hkA.tr hkB)
  have HS := Hid.mk' hSp
  have hlm : p.splits.length ≤ 9223372036854775807 := by have := hI.cap.room; have := hI.cap.max; omega
  have q := box3 (w.alloc (.cells #[.int .i64 S.id, .slice xg S.groups.length xgc, .slice xa S.apart.length xac, .slice xb S.between.length xbc, .slice xp S.phases.length xpc, .slice xe S.eyes.length xec, .int .i64 S.watch, .int .i64 S.feed, .int .i64 S.heal, .int .i64 S.low, .int .i64 S.high, .slice xl S.plans.length xlc] 48)) (.int .i64 p.cycle) (.int .i64 p.offset) (.slice a p.splits.length c) 113
  rw [show (w.alloc (.cells #[.int .i64 S.id, .slice xg S.groups.length xgc, .slice xa S.apart.length xac, .slice xb S.between.length xbc, .slice xp S.phases.length xpc, .slice xe S.eyes.length xec, .int .i64 S.watch, .int .i64 S.feed, .int .i64 S.heal, .int .i64 S.low, .int .i64 S.high, .slice xl S.plans.length xlc] 48)).heap.size = w.heap.size + 1 by simp] at q
  have HQ := Hid.mk' q
  have HI := Hid.mk' (hI.kept (hkA.tr hkB))
  clear h hSp hI hkA hkB q
  cases h1 : inB p.cycle S.low S.high with
  | false =>
    have HE : Hid (planB S p = false) := by show planB S p = false; unfold planB; rw [h1]; rfl
    go_enter Tryd.func66, Tryd.ntmps66
    go_wp2_with (go_at_call 64; refine (rin_is (by assumption)).mono ?_; rintro e w9 ⟨rfl, rfl⟩)
    go_ret
    exact ⟨by rw [HE.out]; rfl, HK.out⟩
  | true =>
    have hcy := inB_iff.1 h1
    have hwr : IntKind.i64.wrap (p.cycle - 1) = p.cycle - 1 := wrap_in (by omega) (by omega)
    cases h2 : inB p.offset 0 (p.cycle - 1) with
    | false =>
      have HE : Hid (planB S p = false) := by show planB S p = false; unfold planB; rw [h1, h2]; rfl
      go_enter Tryd.func66, Tryd.ntmps66
      go_wp2_with (go_at_call 64; refine (rin_is (by assumption)).mono ?_; rintro e w9 ⟨rfl, rfl⟩)
      go_ret
      exact ⟨by rw [HE.out]; rfl, HK.out⟩
    | true =>
      by_cases hl : p.splits.length = S.phases.length
      · have hl3 : (p.splits.length : Int) = (S.phases.length : Int) := by omega
        have HE : Hid (planB S p = splitsB S 0 p.splits p.cycle) := by show planB S p = _; unfold planB; rw [h1, h2, decide_eq_true hl]; rfl
        have hl1 : p.splits.length ≤ S.phases.length := by omega
        have hl2 : S.phases.length ≤ p.splits.length := by omega
        clear hl
        obtain ⟨bi, oi, ei, hbi, hci⟩ := HI.out.at_ (by omega)
        subst ei
        have HC := Hid.mk' hci
        clear hci
        go_enter Tryd.func66, Tryd.ntmps66
        go_wp2_with (go_at_call 64; refine (rin_is (by assumption)).mono ?_; rintro e w9 ⟨rfl, rfl⟩)
        clear hl3
        generalize hW : ((w.alloc (.cells #[.int .i64 S.id, .slice xg S.groups.length xgc, .slice xa S.apart.length xac, .slice xb S.between.length xbc, .slice xp S.phases.length xpc, .slice xe S.eyes.length xec, .int .i64 S.watch, .int .i64 S.feed, .int .i64 S.heal, .int .i64 S.low, .int .i64 S.high, .slice xl S.plans.length xlc] 48)).alloc (.cells #[.int .i64 p.cycle, .int .i64 p.offset, .slice (some ⟨bi, oi, none⟩) p.splits.length c] 113)) = W at *
        clear hW
        go_loopw [5, 6] (fun s i wr => ∃ (k : Nat) (left : Int), k ≤ p.splits.length ∧ i = .int .i64 k ∧ s = .int .i64 left ∧ 0 ≤ left ∧ left ≤ 1048576 ∧ Hid (splitsB S k (p.splits.drop k) left = splitsB S 0 p.splits p.cycle) ∧ Kept W wr none) (fun _ i _ => p.splits.length - (intOf i).toNat)
        case atStart => exact ⟨0, p.cycle, Nat.zero_le _, rfl, rfl, by omega, by omega, rfl, Kept.refl _ _⟩
        case round =>
          obtain ⟨k, left, hk, rfl, rfl, hl0, hl1', HSP, hkw⟩ := hrel
          have q2 := cell_kept0 HQ.out.2.2 hkw
          by_cases hlt : k < p.splits.length
          · have hp := HS.out.base.part (i := k) (by omega)
            have hkp : k < S.phases.length := by omega
            have fk : ∀ w', Kept W w' none → w'.cell? ⟨bi, oi + k, none⟩ = some (.int .i64 (p.splits.getD k 0)) := fun w' q => cell_kept0 (HC.out k hlt) q
            have fq : ∀ w', Kept W w' none → w'.cell? ⟨w.heap.size + 1, 2, none⟩ = some (.slice (some ⟨bi, oi, none⟩) p.splits.length c) := fun w' q => cell_kept0 HQ.out.2.2 q
            have HST : Hid (splitsB S k (p.splits.drop k) left = (inB (p.splits.getD k 0) (partM S k) left && splitsB S (k + 1) (p.splits.drop (k + 1)) (left - p.splits.getD k 0))) := by show splitsB S k (p.splits.drop k) left = _; rw [drop_getD hlt]; rfl
            have f0 : ∀ w', Kept W w' none → w'.cell? ⟨w.heap.size, 0, none⟩ = some (.int .i64 S.id) := fun w' k => (HSB.out.kept k).c0
            have f1 : ∀ w', Kept W w' none → w'.cell? ⟨w.heap.size, 1, none⟩ = some (.slice xg S.groups.length xgc) := fun w' k => (HSB.out.kept k).c1
            have f2 : ∀ w', Kept W w' none → w'.cell? ⟨w.heap.size, 2, none⟩ = some (.slice xa S.apart.length xac) := fun w' k => (HSB.out.kept k).c2
            have f3 : ∀ w', Kept W w' none → w'.cell? ⟨w.heap.size, 3, none⟩ = some (.slice xb S.between.length xbc) := fun w' k => (HSB.out.kept k).c3
            have f4 : ∀ w', Kept W w' none → w'.cell? ⟨w.heap.size, 4, none⟩ = some (.slice xp S.phases.length xpc) := fun w' k => (HSB.out.kept k).c4
            have f5 : ∀ w', Kept W w' none → w'.cell? ⟨w.heap.size, 5, none⟩ = some (.slice xe S.eyes.length xec) := fun w' k => (HSB.out.kept k).c5
            have f6 : ∀ w', Kept W w' none → w'.cell? ⟨w.heap.size, 6, none⟩ = some (.int .i64 S.watch) := fun w' k => (HSB.out.kept k).c6
            have f7 : ∀ w', Kept W w' none → w'.cell? ⟨w.heap.size, 7, none⟩ = some (.int .i64 S.feed) := fun w' k => (HSB.out.kept k).c7
            have f8 : ∀ w', Kept W w' none → w'.cell? ⟨w.heap.size, 8, none⟩ = some (.int .i64 S.heal) := fun w' k => (HSB.out.kept k).c8
            have f9 : ∀ w', Kept W w' none → w'.cell? ⟨w.heap.size, 9, none⟩ = some (.int .i64 S.low) := fun w' k => (HSB.out.kept k).c9
            have f10 : ∀ w', Kept W w' none → w'.cell? ⟨w.heap.size, 10, none⟩ = some (.int .i64 S.high) := fun w' k => (HSB.out.kept k).c10
            have f11 : ∀ w', Kept W w' none → w'.cell? ⟨w.heap.size, 11, none⟩ = some (.slice xl S.plans.length xlc) := fun w' k => (HSB.out.kept k).c11
            generalize p.splits.getD k 0 = v at *
            cases h4 : inB v (partM S k) left with
            | true =>
              have hb := inB_iff.1 h4
              go_wp2
              refine Code.wp_mono (Q := Rg ?A1 W) ?cont1 ?reg1
              case reg1 =>
                repeat (rename_i hh; clear hh)
                refine wp_region_held_drew (S := fun w' => Kept W w' none) (by kernel_rfl) (Kept.tr hkw (Kept.drew _ _)) (fun hHeld => ?_)
                refine held_take (i := 0) (v := ?v2) rfl rfl (by kernel_rfl) (by kernel_rfl) (by kernel_rfl) (fun _ _ _ h => h) (Or.inl ⟨by rfl, ?hy2⟩) hHeld ?rest2
                case hy2 => first | (intro w hSw; (try dsimp only at hSw); go_simp; done) | (intro w hSw; (try dsimp only at hSw); go_simp; with_reducible rfl)
                try simp only [List.setIfInBounds_toArray, List.set_cons_zero, List.set_cons_succ]
                refine held_take (i := 1) (v := ?v3) rfl rfl (by kernel_rfl) (by kernel_rfl) (by kernel_rfl) (fun _ _ _ h => h) (Or.inl ⟨by rfl, ?hy3⟩) hHeld ?rest3
                case hy3 => first | (intro w hSw; (try dsimp only at hSw); go_simp; done) | (intro w hSw; (try dsimp only at hSw); go_simp; with_reducible rfl)
                try simp only [List.setIfInBounds_toArray, List.set_cons_zero, List.set_cons_succ]
                refine held_take (i := 2) (v := ?v4) rfl rfl (by kernel_rfl) (by kernel_rfl) (by kernel_rfl) (fun _ _ _ h => h) (Or.inl ⟨by rfl, ?hy4⟩) hHeld ?rest4
                case hy4 => first | (intro w hSw; (try dsimp only at hSw); go_simp; done) | (intro w hSw; (try dsimp only at hSw); go_simp; with_reducible rfl)
                try simp only [List.setIfInBounds_toArray, List.set_cons_zero, List.set_cons_succ]
                refine held_take (i := 3) (v := ?v5) rfl rfl (by kernel_rfl) (by kernel_rfl) (by kernel_rfl) (fun _ _ _ h => h) (Or.inl ⟨by rfl, ?hy5⟩) hHeld ?rest5
                case hy5 => first | (intro w hSw; (try dsimp only at hSw); go_simp; done) | (intro w hSw; (try dsimp only at hSw); go_simp; with_reducible rfl)
                try simp only [List.setIfInBounds_toArray, List.set_cons_zero, List.set_cons_succ]
                refine held_take (i := 4) (v := ?v6) rfl rfl (by kernel_rfl) (by kernel_rfl) (by kernel_rfl) (fun _ _ _ h => h) (Or.inl ⟨by rfl, ?hy6⟩) hHeld ?rest6
                case hy6 => first | (intro w hSw; (try dsimp only at hSw); go_simp; done) | (intro w hSw; (try dsimp only at hSw); go_simp; with_reducible rfl)
                try simp only [List.setIfInBounds_toArray, List.set_cons_zero, List.set_cons_succ]
                refine held_take (i := 5) (v := ?v7) rfl rfl (by kernel_rfl) (by kernel_rfl) (by kernel_rfl) (fun _ _ _ h => h) (Or.inl ⟨by rfl, ?hy7⟩) hHeld ?rest7
                case hy7 => first | (intro w hSw; (try dsimp only at hSw); go_simp; done) | (intro w hSw; (try dsimp only at hSw); go_simp; with_reducible rfl)
                try simp only [List.setIfInBounds_toArray, List.set_cons_zero, List.set_cons_succ]
                refine held_take (i := 6) (v := ?v8) rfl rfl (by kernel_rfl) (by kernel_rfl) (by kernel_rfl) (fun _ _ _ h => h) (Or.inl ⟨by rfl, ?hy8⟩) hHeld ?rest8
                case hy8 => first | (intro w hSw; (try dsimp only at hSw); go_simp; done) | (intro w hSw; (try dsimp only at hSw); go_simp; with_reducible rfl)
                try simp only [List.setIfInBounds_toArray, List.set_cons_zero, List.set_cons_succ]
                refine held_take (i := 8) (v := ?v9) rfl rfl (by kernel_rfl) (by kernel_rfl) (by kernel_rfl) (fun _ _ _ h => h) (Or.inl ⟨by rfl, ?hy9⟩) hHeld ?rest9
                case hy9 => first | (intro w hSw; (try dsimp only at hSw); go_simp; done) | (intro w hSw; (try dsimp only at hSw); go_simp; with_reducible rfl)
                try simp only [List.setIfInBounds_toArray, List.set_cons_zero, List.set_cons_succ]
                refine wpAnyH_ready (rs := [7]) (by kernel_rfl) (by simp) ?_
                refine AllReadyH.cons rfl (fun K hK => ?_) AllReadyH.nil
                go_simp
                go_wp2_with (go_at_call 96; refine (rneeds_yes (HSB.out.sat.kept hHeld) HS.out.base k hkp).mono ?_; rintro e wS ⟨rfl, hkS⟩; have hKS : Kept W wS none := Kept.tr hHeld hkS)
                replace hK := hK.out
                refine hK _ _ hKS (fun hHeld => ?_)
                clear hK K
                refine wpAnyH_ready (rs := [9]) (by kernel_rfl) (by simp) ?_
                refine AllReadyH.cons rfl (fun K hK => ?_) AllReadyH.nil
                go_simp
                go_wp2_with (go_at_call 64; refine (rin_is (by assumption)).mono ?_; rintro e w9 ⟨rfl, rfl⟩; have hKS := hHeld)
                replace hK := hK.out
                refine hK _ _ hKS (fun hHeld => ?_)
                clear hK K
                refine held_take (i := 10) (v := ?v10) rfl rfl (by kernel_rfl) (by kernel_rfl) (by kernel_rfl) (fun _ _ _ h => h) (Or.inl ⟨by rfl, ?hy10⟩) hHeld ?rest10
                case hy10 => first | (intro w hSw; (try dsimp only at hSw); go_simp; done) | (intro w hSw; (try dsimp only at hSw); go_simp; with_reducible rfl)
                try simp only [List.setIfInBounds_toArray, List.set_cons_zero, List.set_cons_succ]
                refine wpAnyH_done (by kernel_rfl) ?_ _
                refine And.intro ?_ hHeld
                with_reducible rfl
              case cont1 =>
              intro e a' w' hq
              obtain ⟨rfl, rfl, hkq⟩ := hq.out
              go_wp2
              go_roundw
              case rel => exact ⟨k + 1, left - v, by omega, by go_num, by go_num, by omega, by omega, (show splitsB S (k + 1) (p.splits.drop (k + 1)) (left - v) = splitsB S 0 p.splits p.cycle by rw [← HSP.out, HST.out, h4]; rfl), hkq⟩
              case measure => simp [intOf]; omega
            | false =>
              have HE2 : Hid (planB S p = false) := by show planB S p = false; rw [HE.out, ← HSP.out, HST.out, h4]; rfl
              go_wp2
              refine Code.wp_mono (Q := Rg ?A11 W) ?cont11 ?reg11
              case reg11 =>
                repeat (rename_i hh; clear hh)
                refine wp_region_held_drew (S := fun w' => Kept W w' none) (by kernel_rfl) (Kept.tr hkw (Kept.drew _ _)) (fun hHeld => ?_)
                refine held_take (i := 0) (v := ?v12) rfl rfl (by kernel_rfl) (by kernel_rfl) (by kernel_rfl) (fun _ _ _ h => h) (Or.inl ⟨by rfl, ?hy12⟩) hHeld ?rest12
                case hy12 => first | (intro w hSw; (try dsimp only at hSw); go_simp; done) | (intro w hSw; (try dsimp only at hSw); go_simp; with_reducible rfl)
                try simp only [List.setIfInBounds_toArray, List.set_cons_zero, List.set_cons_succ]
                refine held_take (i := 1) (v := ?v13) rfl rfl (by kernel_rfl) (by kernel_rfl) (by kernel_rfl) (fun _ _ _ h => h) (Or.inl ⟨by rfl, ?hy13⟩) hHeld ?rest13
                case hy13 => first | (intro w hSw; (try dsimp only at hSw); go_simp; done) | (intro w hSw; (try dsimp only at hSw); go_simp; with_reducible rfl)
                try simp only [List.setIfInBounds_toArray, List.set_cons_zero, List.set_cons_succ]
                refine held_take (i := 2) (v := ?v14) rfl rfl (by kernel_rfl) (by kernel_rfl) (by kernel_rfl) (fun _ _ _ h => h) (Or.inl ⟨by rfl, ?hy14⟩) hHeld ?rest14
                case hy14 => first | (intro w hSw; (try dsimp only at hSw); go_simp; done) | (intro w hSw; (try dsimp only at hSw); go_simp; with_reducible rfl)
                try simp only [List.setIfInBounds_toArray, List.set_cons_zero, List.set_cons_succ]
                refine held_take (i := 3) (v := ?v15) rfl rfl (by kernel_rfl) (by kernel_rfl) (by kernel_rfl) (fun _ _ _ h => h) (Or.inl ⟨by rfl, ?hy15⟩) hHeld ?rest15
                case hy15 => first | (intro w hSw; (try dsimp only at hSw); go_simp; done) | (intro w hSw; (try dsimp only at hSw); go_simp; with_reducible rfl)
                try simp only [List.setIfInBounds_toArray, List.set_cons_zero, List.set_cons_succ]
                refine held_take (i := 4) (v := ?v16) rfl rfl (by kernel_rfl) (by kernel_rfl) (by kernel_rfl) (fun _ _ _ h => h) (Or.inl ⟨by rfl, ?hy16⟩) hHeld ?rest16
                case hy16 => first | (intro w hSw; (try dsimp only at hSw); go_simp; done) | (intro w hSw; (try dsimp only at hSw); go_simp; with_reducible rfl)
                try simp only [List.setIfInBounds_toArray, List.set_cons_zero, List.set_cons_succ]
                refine held_take (i := 5) (v := ?v17) rfl rfl (by kernel_rfl) (by kernel_rfl) (by kernel_rfl) (fun _ _ _ h => h) (Or.inl ⟨by rfl, ?hy17⟩) hHeld ?rest17
                case hy17 => first | (intro w hSw; (try dsimp only at hSw); go_simp; done) | (intro w hSw; (try dsimp only at hSw); go_simp; with_reducible rfl)
                try simp only [List.setIfInBounds_toArray, List.set_cons_zero, List.set_cons_succ]
                refine held_take (i := 6) (v := ?v18) rfl rfl (by kernel_rfl) (by kernel_rfl) (by kernel_rfl) (fun _ _ _ h => h) (Or.inl ⟨by rfl, ?hy18⟩) hHeld ?rest18
                case hy18 => first | (intro w hSw; (try dsimp only at hSw); go_simp; done) | (intro w hSw; (try dsimp only at hSw); go_simp; with_reducible rfl)
                try simp only [List.setIfInBounds_toArray, List.set_cons_zero, List.set_cons_succ]
                refine held_take (i := 8) (v := ?v19) rfl rfl (by kernel_rfl) (by kernel_rfl) (by kernel_rfl) (fun _ _ _ h => h) (Or.inl ⟨by rfl, ?hy19⟩) hHeld ?rest19
                case hy19 => first | (intro w hSw; (try dsimp only at hSw); go_simp; done) | (intro w hSw; (try dsimp only at hSw); go_simp; with_reducible rfl)
                try simp only [List.setIfInBounds_toArray, List.set_cons_zero, List.set_cons_succ]
                refine wpAnyH_ready (rs := [7]) (by kernel_rfl) (by simp) ?_
                refine AllReadyH.cons rfl (fun K hK => ?_) AllReadyH.nil
                go_simp
                go_wp2_with (go_at_call 96; refine (rneeds_yes (HSB.out.sat.kept hHeld) HS.out.base k hkp).mono ?_; rintro e wS ⟨rfl, hkS⟩; have hKS : Kept W wS none := Kept.tr hHeld hkS)
                replace hK := hK.out
                refine hK _ _ hKS (fun hHeld => ?_)
                clear hK K
                refine wpAnyH_ready (rs := [9]) (by kernel_rfl) (by simp) ?_
                refine AllReadyH.cons rfl (fun K hK => ?_) AllReadyH.nil
                go_simp
                go_wp2_with (go_at_call 64; refine (rin_is (by assumption)).mono ?_; rintro e w9 ⟨rfl, rfl⟩; have hKS := hHeld)
                replace hK := hK.out
                refine hK _ _ hKS (fun hHeld => ?_)
                clear hK K
                refine held_take (i := 10) (v := ?v20) rfl rfl (by kernel_rfl) (by kernel_rfl) (by kernel_rfl) (fun _ _ _ h => h) (Or.inl ⟨by rfl, ?hy20⟩) hHeld ?rest20
                case hy20 => first | (intro w hSw; (try dsimp only at hSw); go_simp; done) | (intro w hSw; (try dsimp only at hSw); go_simp; with_reducible rfl)
                try simp only [List.setIfInBounds_toArray, List.set_cons_zero, List.set_cons_succ]
                refine wpAnyH_done (by kernel_rfl) ?_ _
                refine And.intro ?_ hHeld
                with_reducible rfl
              case cont11 =>
              intro e a' w' hq
              obtain ⟨rfl, rfl, hkq⟩ := hq.out
              go_wp2
              go_ret
              exact ⟨by rw [HE2.out]; rfl, HK.out.tr hkq⟩
          · have e : k = p.splits.length := by omega
            subst e
            have HE3 : Hid (planB S p = decide (left = 0)) := by show planB S p = _; rw [HE.out, ← HSP.out, List.drop_length]; rfl
            go_wp2
            go_ret
            exact ⟨ret_bool (by rw [HE3.out, Bool.eq_iff_iff]; simp), HK.out.tr hkw⟩
      · have hl3 : ¬ (p.splits.length : Int) = (S.phases.length : Int) := by omega
        have HE : Hid (planB S p = false) := by show planB S p = false; unfold planB; rw [decide_eq_false hl]; simp
        go_enter Tryd.func66, Tryd.ntmps66
        go_wp2_with (go_at_call 64; refine (rin_is (by assumption)).mono ?_; rintro e w9 ⟨rfl, rfl⟩)
        go_ret
        exact ⟨by rw [HE.out]; rfl, HK.out⟩

end Go.Proofs.YtoahbpdgbiachaaDoor

/-
  THE DOCUMENT'S OWN ANSWER, part three: are a site's phases what may be?
-/
namespace Go.Proofs.YtoahbpdgbiachaaDoor
open Go.RowKit Go.Lib Go.Deep
set_option linter.unusedVariables false
set_option linter.unusedSimpArgs false

/-- The least green that a set of groups asks for, of its first ones. -/
def leastN (S : St) (G : Nat) : Nat → Int
  | 0 => 1
  | k + 1 => if G.testBit k = true then max (leastN S G k) (S.gr k).min else leastN S G k
def meetB (S : St) (G a : Nat) : Bool := allB S.groups.length (fun b => !(G.testBit b && (S.ap a).testBit b))
def rphaseB (S : St) (i : Nat) : Bool := decide ((S.ph i).groups ≠ 0) && decide ((S.ph i).groups < 2 ^ S.groups.length) && allB S.groups.length (fun a => !(S.ph i).groups.testBit a || meetB S (S.ph i).groups a) && inB (S.ph i).min (leastN S (S.ph i).groups S.groups.length) 1048576 && inB (S.ph i).max (S.ph i).min 1048576 && inB (S.ph i).gap 1 1048576
def rphB (S : St) : Bool := inB S.phases.length 1 8 && allB S.phases.length (rphaseB S) && decide (cnt (unionN S S.phases.length) 32 = S.groups.length)
theorem leastN_yes {S : St} {G k : Nat} (h : G.testBit k = true) : leastN S G (k + 1) = max (leastN S G k) (S.gr k).min := by rw [leastN, if_pos h]
theorem leastN_no {S : St} {G k : Nat} (h : G.testBit k = false) : leastN S G (k + 1) = leastN S G k := by rw [leastN, if_neg (by rw [h]; decide)]
theorem grow_no {U G k : Nat} (h : G.testBit k = false) : U ||| G % 2 ^ (k + 1) = U ||| G % 2 ^ k := by
  refine Nat.eq_of_testBit_eq fun i => ?_
  simp only [Nat.testBit_or, Nat.testBit_mod_two_pow]
  by_cases e : i = k
  · subst e; simp [h]
  · by_cases h1 : i < k
    · simp [h1, show i < k + 1 by omega]
    · simp [h1, show ¬ i < k + 1 by omega]
theorem grow_yes {U G k : Nat} (hk : k < 32) (h : G.testBit k = true) : withV (U ||| G % 2 ^ k) (k : Int) = U ||| G % 2 ^ (k + 1) := by
  rw [with_in hk]
  refine Nat.eq_of_testBit_eq fun i => ?_
  simp only [Nat.testBit_or, Nat.testBit_mod_two_pow, Nat.testBit_two_pow]
  by_cases e : i = k
  · subst e; simp [h]
  · by_cases h1 : i < k
    · simp [h1, show i < k + 1 by omega, show ¬ k = i by omega]
    · simp [h1, show ¬ i < k + 1 by omega, show ¬ k = i by omega]
theorem grow_all {U G n : Nat} (h : G < 2 ^ n) : U ||| G % 2 ^ n = U ||| G := by rw [Nat.mod_eq_of_lt h]
theorem grow_lt {U G n : Nat} (hU : U < 4294967296) (hG : G < 4294967296) (k : Nat) : U ||| G % 2 ^ k < 4294967296 := Nat.or_lt_two_pow (n := 32) hU (Nat.lt_of_le_of_lt (Nat.mod_le _ _) hG)
theorem rph_at {S : St} {i : Nat} (hi : i < S.phases.length) (h : rphaseB S i = false) : rphB S = false := by
  unfold rphB
  rw [allB_no hi h]
  simp
theorem meet_no {S : St} {i a : Nat} (ha : a < S.groups.length) (h1 : (S.ph i).groups.testBit a = true) (h2 : meetB S (S.ph i).groups a = false) : rphaseB S i = false := by
  unfold rphaseB
  rw [show allB S.groups.length (fun a => !(S.ph i).groups.testBit a || meetB S (S.ph i).groups a) = false from allB_no ha (by rw [h1, h2]; rfl)]
  simp
set_option maxRecDepth 100000 in
set_option maxHeartbeats 2000000 in
theorem rphases_no {X : Sa} {S : St} {w : World} (h : Sat w X S) (h2 : inB S.phases.length 1 8 = false) : Calls Tryd.prog 63 #[siteV X S] w fun e w' => e = .returned (.bool (rphB S)) ∧ Kept w w' none := by
  obtain ⟨xg, xgc, xa, xac, xb, xbc, xp, xpc, xe, xec, xl, xlc⟩ := X
  have hkA : Kept w (w.alloc (.cells #[.int .i64 S.id, .slice xg S.groups.length xgc, .slice xa S.apart.length xac, .slice xb S.between.length xbc, .slice xp S.phases.length xpc, .slice xe S.eyes.length xec, .int .i64 S.watch, .int .i64 S.feed, .int .i64 S.heal, .int .i64 S.low, .int .i64 S.high, .slice xl S.plans.length xlc] 48)) none := Kept.alloc _ _ _ _ _
  have HK := Hid.mk' hkA
  have hp9 : S.phases.length ≤ 9223372036854775807 := by have := h.pk.room; have := h.pk.max; omega
  clear h hkA
  go_enter Tryd.func63, Tryd.ntmps63
  have HE : Hid (rphB S = false) := (by show rphB S = false; unfold rphB; rw [h2]; rfl)
  go_wp2_with (go_at_call 64; refine (rin_is (by assumption)).mono ?_; rintro e w9 ⟨rfl, rfl⟩)
  go_ret
  exact ⟨by rw [HE.out]; rfl, HK.out⟩
set_option maxRecDepth 100000 in
set_option maxHeartbeats 20000000 in
theorem rphases_yes {X : Sa} {S : St} {w : World} (h : Sat w X S) (hg16 : 1 ≤ S.groups.length ∧ S.groups.length ≤ 16) (h3 : S.apart.length = S.groups.length) (h2 : inB S.phases.length 1 8 = true) : Calls Tryd.prog 63 #[siteV X S] w fun e w' => e = .returned (.bool (rphB S)) ∧ Kept w w' none := by
  obtain ⟨xg, xgc, xa, xac, xb, xbc, xp, xpc, xe, xec, xl, xlc⟩ := X
  have hp8 := inB_iff.1 h2
  obtain ⟨bg, og, eg, _⟩ := h.grAt (i := 0) (by omega)
  obtain ⟨bp, op, ep, _⟩ := h.phAt (i := 0) (by omega)
  dsimp only at eg ep
  subst eg ep
  have hkA : Kept w (w.alloc (.cells #[.int .i64 S.id, .slice (some ⟨bg, og, none⟩) S.groups.length xgc, .slice xa S.apart.length xac, .slice xb S.between.length xbc, .slice (some ⟨bp, op, none⟩) S.phases.length xpc, .slice xe S.eyes.length xec, .int .i64 S.watch, .int .i64 S.feed, .int .i64 S.heal, .int .i64 S.low, .int .i64 S.high, .slice xl S.plans.length xlc] 48)) none := Kept.alloc _ _ _ _ _
  have HSB := Hid.mk' (sbox_alloc h 48)
  have HK := Hid.mk' hkA
  have HGR : Hid (∀ w', Kept (w.alloc (.cells #[.int .i64 S.id, .slice (some ⟨bg, og, none⟩) S.groups.length xgc, .slice xa S.apart.length xac, .slice xb S.between.length xbc, .slice (some ⟨bp, op, none⟩) S.phases.length xpc, .slice xe S.eyes.length xec, .int .i64 S.watch, .int .i64 S.feed, .int .i64 S.heal, .int .i64 S.low, .int .i64 S.high, .slice xl S.plans.length xlc] 48)) w' none → ∀ i, i < S.groups.length → w'.cell? ⟨bg, og + i * 3 + 1, none⟩ = some (.int .i64 (S.gr i).min)) := fun w' q i hi => by
    obtain ⟨b, o, e, p1, p2, p3⟩ := h.grAt hi
    injection e with e; injection e with e1 e2
    subst e1 e2
    exact cell_kept0 p2 (HK.out.tr q)
  have HPH : Hid (∀ w', Kept (w.alloc (.cells #[.int .i64 S.id, .slice (some ⟨bg, og, none⟩) S.groups.length xgc, .slice xa S.apart.length xac, .slice xb S.between.length xbc, .slice (some ⟨bp, op, none⟩) S.phases.length xpc, .slice xe S.eyes.length xec, .int .i64 S.watch, .int .i64 S.feed, .int .i64 S.heal, .int .i64 S.low, .int .i64 S.high, .slice xl S.plans.length xlc] 48)) w' none → ∀ i, i < S.phases.length → w'.cell? ⟨bp, op + i * 5, none⟩ = some (.int .u32 ((S.ph i).groups : Int)) ∧ w'.cell? ⟨bp, op + i * 5 + 1, none⟩ = some (.int .i64 (S.ph i).min) ∧ w'.cell? ⟨bp, op + i * 5 + 2, none⟩ = some (.int .i64 (S.ph i).max) ∧ w'.cell? ⟨bp, op + i * 5 + 3, none⟩ = some (.int .i64 (S.ph i).gap) ∧ w'.cell? ⟨bp, op + i * 5 + 4, none⟩ = some (.bool (S.ph i).always)) := fun w' q i hi => by
    obtain ⟨b, o, e, p1, p2, p3, p4, p5⟩ := h.phAt hi
    injection e with e; injection e with e1 e2
    subst e1 e2
    exact ⟨cell_kept0 p1 (HK.out.tr q), cell_kept0 p2 (HK.out.tr q), cell_kept0 p3 (HK.out.tr q), cell_kept0 p4 (HK.out.tr q), cell_kept0 p5 (HK.out.tr q)⟩
  have hp9 : S.phases.length ≤ 9223372036854775807 := by omega
  have HU := Hid.mk' (unionN_lt h.phr)
  have HPR := Hid.mk' h.phr
  have H3 := Hid.mk' h3
  have HE0 : Hid (rphB S = (allB S.phases.length (rphaseB S) && decide (cnt (unionN S S.phases.length) 32 = S.groups.length))) := by
    show rphB S = _
    unfold rphB
    rw [h2]
    rfl
  clear h hkA h3
  go_enter Tryd.func63, Tryd.ntmps63
  go_wp2_with (go_at_call 64; refine (rin_is (by assumption)).mono ?_; rintro e w9 ⟨rfl, rfl⟩)
  generalize hW : (w.alloc (.cells #[.int .i64 S.id, .slice (some ⟨bg, og, none⟩) S.groups.length xgc, .slice xa S.apart.length xac, .slice xb S.between.length xbc, .slice (some ⟨bp, op, none⟩) S.phases.length xpc, .slice xe S.eyes.length xec, .int .i64 S.watch, .int .i64 S.feed, .int .i64 S.heal, .int .i64 S.low, .int .i64 S.high, .slice xl S.plans.length xlc] 48)) = W at *
  clear hW h2
  go_loopw [3, 4] (fun u i wr => ∃ k : Nat, k ≤ S.phases.length ∧ i = .int .i64 k ∧ u = .int .u32 ((unionN S k : Nat) : Int) ∧ Hid (∀ j, j < k → rphaseB S j = true) ∧ Kept W wr none) (fun _ i _ => S.phases.length - (intOf i).toNat)
  case atStart => exact ⟨0, Nat.zero_le _, rfl, rfl, (fun j hj => by omega), Kept.refl _ _⟩
  case round =>
    obtain ⟨i, hi, rfl, rfl, HJ, hkr⟩ := hrel
    have c4 := (HSB.out.kept hkr).c4
    have c1 := (HSB.out.kept hkr).c1
    by_cases hil : i < S.phases.length
    case neg =>
      have e : i = S.phases.length := by omega
      subst e
      have hu := HU.out S.phases.length
      have HE : Hid (rphB S = decide (cnt (unionN S S.phases.length) 32 = S.groups.length)) := by
        show rphB S = _
        rw [HE0.out, allB_iff.2 HJ.out]
        rfl
      have f1 : ∀ w', Kept W w' none → w'.cell? ⟨w.heap.size, 1, none⟩ = some (.slice (some ⟨bg, og, none⟩) S.groups.length xgc) := fun w' k => (HSB.out.kept k).c1
      generalize unionN S S.phases.length = U at *
      go_wp2
      go_region_held (fun w' => Kept W w' none)
        ((first | exact hkr | exact Kept.tr hkr (Kept.drew _ _) | assumption | exact Kept.tr (by assumption) (Kept.drew _ _)))
        ((go_at_call 95; refine (rcount_any _ _ hu).mono ?_; rintro e w9 ⟨rfl, rfl⟩))
      all_goals
        go_wp2
        go_ret
        exact ⟨ret_bool (by rw [HE.out, Bool.eq_iff_iff]; simp; omega), HK.out.tr (by assumption)⟩
    have hbw : w.heap.size < wr.heap.size := block_lt c4
    obtain ⟨g0, g1, g2, g3, g4⟩ := HPH.out _ hkr i hil
    have l1 := block_lt g0
    have hG32 := HPR.out i
    have HPI := Hid.mk' (pow_int (i := S.groups.length) (by omega))
    have hpw : 2 ^ S.groups.length < 4294967296 := pow_lt32 (i := S.groups.length) (by omega)
    have hU32 := HU.out i
    have HUN : Hid (unionN S (i + 1) = unionN S i ||| (S.ph i).groups) := rfl
    have HR : Hid (rphaseB S i = (decide ((S.ph i).groups ≠ 0) && decide ((S.ph i).groups < 2 ^ S.groups.length) && allB S.groups.length (fun a => !(S.ph i).groups.testBit a || meetB S (S.ph i).groups a) && inB (S.ph i).min (leastN S (S.ph i).groups S.groups.length) 1048576 && inB (S.ph i).max (S.ph i).min 1048576 && inB (S.ph i).gap 1 1048576)) := rfl
    have HN : Hid (rphaseB S i = false → rphB S = false) := rph_at hil
    have HM : Hid (∀ a, a < S.groups.length → (S.ph i).groups.testBit a = true → meetB S (S.ph i).groups a = false → rphB S = false) := fun a ha h1 h2 => rph_at hil (meet_no ha h1 h2)
    generalize (S.ph i).groups = G at *
    generalize (S.ph i).min = mn at *
    generalize (S.ph i).max = mx at *
    generalize (S.ph i).gap = gp at *
    generalize (S.ph i).always = al at *
    generalize unionN S i = U at *
    by_cases hz : G = 0
    case pos =>
      subst hz
      have HE : Hid (rphB S = false) := (HN.out (by rw [HR.out]; rfl))
      go_wp2_with (go_at_call 64; refine (rin_is (by assumption)).mono ?_; rintro e w9 ⟨rfl, rfl⟩)
      go_ret
      exact ⟨by rw [HE.out]; rfl, HK.out.tr (hkr.tr (Kept.alloc _ _ _ _ _))⟩
    have hzi : ¬ (G : Int) = 0 := by omega
    by_cases hap : G < 2 ^ S.groups.length
    case neg =>
      have hapi : ¬ (G : Int) < 2 ^ S.groups.length % 4294967296 := by rw [HPI.out]; omega
      have hapj : (2 : Int) ^ S.groups.length % 4294967296 ≤ (G : Int) := by omega
      have HE : Hid (rphB S = false) := (HN.out (by rw [HR.out, decide_eq_false hap]; simp))
      go_wp2_with (go_at_call 64; refine (rin_is (by assumption)).mono ?_; rintro e w9 ⟨rfl, rfl⟩)
      go_ret
      exact ⟨by rw [HE.out]; rfl, HK.out.tr (hkr.tr (Kept.alloc _ _ _ _ _))⟩
    have hapi : (G : Int) < 2 ^ S.groups.length % 4294967296 := by rw [HPI.out]; omega
    have hapj : ¬ (2 : Int) ^ S.groups.length % 4294967296 ≤ (G : Int) := by omega
    go_wp2
    have hk1 : Kept W (wr.alloc (.cells #[.int .u32 (G : Int), .int .i64 mn, .int .i64 mx, .int .i64 gp, .bool al] 67)) none := hkr.tr (Kept.alloc _ _ _ _ _)
    have q0 : (wr.alloc (.cells #[.int .u32 (G : Int), .int .i64 mn, .int .i64 mx, .int .i64 gp, .bool al] 67)).cell? ⟨wr.heap.size, 0, none⟩ = some (.int .u32 (G : Int)) := by simp [World.cell?_alloc_mark]
    have q1 : (wr.alloc (.cells #[.int .u32 (G : Int), .int .i64 mn, .int .i64 mx, .int .i64 gp, .bool al] 67)).cell? ⟨wr.heap.size, 1, none⟩ = some (.int .i64 mn) := by simp [World.cell?_alloc_mark]
    have q2 : (wr.alloc (.cells #[.int .u32 (G : Int), .int .i64 mn, .int .i64 mx, .int .i64 gp, .bool al] 67)).cell? ⟨wr.heap.size, 2, none⟩ = some (.int .i64 mx) := by simp [World.cell?_alloc_mark]
    have q3 : (wr.alloc (.cells #[.int .u32 (G : Int), .int .i64 mn, .int .i64 mx, .int .i64 gp, .bool al] 67)).cell? ⟨wr.heap.size, 3, none⟩ = some (.int .i64 gp) := by simp [World.cell?_alloc_mark]
    generalize (wr.alloc (.cells #[.int .u32 (G : Int), .int .i64 mn, .int .i64 mx, .int .i64 gp, .bool al] 67)) = W1 at *
    have HQ : Hid (∀ w', Kept W1 w' none → w'.cell? ⟨wr.heap.size, 0, none⟩ = some (.int .u32 (G : Int)) ∧ w'.cell? ⟨wr.heap.size, 1, none⟩ = some (.int .i64 mn) ∧ w'.cell? ⟨wr.heap.size, 2, none⟩ = some (.int .i64 mx) ∧ w'.cell? ⟨wr.heap.size, 3, none⟩ = some (.int .i64 gp)) := fun w' q => ⟨cell_kept0 q0 q, cell_kept0 q1 q, cell_kept0 q2 q, cell_kept0 q3 q⟩
    have HK1 := Hid.mk' hk1
    clear q0 q1 q2 q3 hk1 g0 g1 g2 g3 g4 c1 c4 hkr hapi hapj
    go_loopw [3, 6, 7] (fun u l j wx => ∃ a : Nat, a ≤ S.groups.length ∧ j = .int .i64 a ∧ l = .int .i64 (leastN S G a) ∧ u = .int .u32 ((U ||| G % 2 ^ a : Nat) : Int) ∧ Hid (∀ x, x < a → (!G.testBit x || meetB S G x) = true) ∧ Kept W1 wx none) (fun _ _ j _ => S.groups.length - (intOf j).toNat)
    case atStart => exact ⟨0, Nat.zero_le _, rfl, rfl, by rw [Nat.pow_zero, Nat.mod_one, Nat.or_zero], (fun x hx => by omega), Kept.refl _ _⟩
    case round =>
      obtain ⟨a, ha, rfl, rfl, rfl, HX, hkx⟩ := hrel
      obtain ⟨q0, q1, q2, q3⟩ := HQ.out _ hkx
      have c1 := (HSB.out.kept (HK1.out.tr hkx)).c1
      by_cases hal : a < S.groups.length
      case neg =>
        have e : a = S.groups.length := by omega
        subst e
        have HAL : Hid (allB S.groups.length (fun a => !G.testBit a || meetB S G a) = true) := allB_iff.2 HX.out
        rw [grow_all hap]
        rw [← HUN.out]
        generalize hLS : leastN S G S.groups.length = LS at *
        have hUU := HU.out (i + 1)
        generalize hUS : unionN S (i + 1) = US at *
        have HUS := Hid.mk' hUS
        clear hUS
        cases h4 : inB mn LS 1048576
        case false =>
          have HE : Hid (rphB S = false) := (HN.out (by rw [HR.out, h4]; simp))
          go_wp2_with (go_at_call 64; refine (rin_is (by assumption)).mono ?_; rintro e w9 ⟨rfl, rfl⟩)
          go_ret
          exact ⟨by rw [HE.out]; rfl, HK.out.tr (HK1.out.tr hkx)⟩
        cases h5 : inB mx mn 1048576
        case false =>
          have HE : Hid (rphB S = false) := (HN.out (by rw [HR.out, h5]; simp))
          go_wp2_with (go_at_call 64; refine (rin_is (by assumption)).mono ?_; rintro e w9 ⟨rfl, rfl⟩)
          go_ret
          exact ⟨by rw [HE.out]; rfl, HK.out.tr (HK1.out.tr hkx)⟩
        cases h6 : inB gp 1 1048576
        case false =>
          have HE : Hid (rphB S = false) := (HN.out (by rw [HR.out, h6]; simp))
          go_wp2_with (go_at_call 64; refine (rin_is (by assumption)).mono ?_; rintro e w9 ⟨rfl, rfl⟩)
          go_ret
          exact ⟨by rw [HE.out]; rfl, HK.out.tr (HK1.out.tr hkx)⟩
        have HY : Hid (rphaseB S i = true) := by
          show rphaseB S i = true
          rw [HR.out, HAL.out, h4, h5, h6, decide_eq_true hz, decide_eq_true hap]
          rfl
        go_wp2_with (go_at_call 64; refine (rin_is (by assumption)).mono ?_; rintro e w9 ⟨rfl, rfl⟩)
        go_roundw
        case rel => exact ⟨i + 1, by omega, by go_num, by rw [HUS.out], (fun j hj => (by
          by_cases e : j = i
          · rw [e]; exact HY.out
          · exact HJ.out j (by omega))), HK1.out.tr hkx⟩
        case measure => simp [intOf]; omega
      have hgm := HGR.out _ (HK1.out.tr hkx) a hal
      have hbb := HSB.out.lt
      have hu := grow_lt (n := 0) hU32 hG32 a
      cases hA : G.testBit a with
      | false =>
        have HL := Hid.mk' (leastN_no (S := S) hA)
        have HG' := Hid.mk' (grow_no (U := U) hA)
        generalize leastN S G a = LS at *
        generalize U ||| G % 2 ^ a = UU at *
        go_wp2_with (go_at_call 93; refine (rhas_any _ _ _ hG32).mono ?_; rintro e w9 ⟨rfl, rfl⟩; rw [has_in (S := G) (show a < 32 by omega), hA])
        go_roundw
        case rel => exact ⟨a + 1, by omega, by go_num, by rw [HL.out], by rw [HG'.out], (fun x hx => (by
          by_cases e : x = a
          · rw [e, hA]; rfl
          · exact HX.out x (by omega))), hkx⟩
        case measure => simp [intOf]; omega
      | true =>
        have HL := Hid.mk' (leastN_yes (S := S) hA)
        have HG' := Hid.mk' (grow_yes (U := U) (show a < 32 by omega) hA)
        generalize leastN S G a = LS at *
        generalize U ||| G % 2 ^ a = UU at *
        generalize (S.gr a).min = GM at *
        generalize hUV : U ||| G % 2 ^ (a + 1) = UV at *
        have HUV := Hid.mk' hUV
        clear hUV
        by_cases hmx : LS < GM
        · have HLM : Hid (leastN S G (a + 1) = GM) := by
            show leastN S G (a + 1) = GM
            rw [HL.out]
            omega
          clear HL
          go_wp2_with (first | (go_at_call 94; refine (rwith_any _ _ _ hu).mono ?_; rintro e w9 ⟨rfl, rfl⟩; rw [HG'.out]) | (go_at_call 93; refine (rhas_any _ _ _ hG32).mono ?_; rintro e w9 ⟨rfl, rfl⟩; rw [has_in (S := G) (show a < 32 by omega), hA]))
          clear c1 q0 q1 q2 q3 hgm
          go_loopw [8] (fun j wy => ∃ b : Nat, b ≤ S.groups.length ∧ j = .int .i64 b ∧ Hid (∀ y, y < b → (!(G.testBit y && (S.ap a).testBit y)) = true) ∧ Kept W1 wy none) (fun j _ => S.groups.length - (intOf j).toNat)
          case atStart => exact ⟨0, Nat.zero_le _, rfl, (fun y hy => by omega), hkx⟩
          case round =>
          clear hkx
          obtain ⟨b, hb, rfl, HB, hky⟩ := hrel
          have h3 := H3.out
          have haa : a < S.apart.length := by omega
          clear h3
          obtain ⟨q0, q1, q2, q3⟩ := HQ.out _ hky
          obtain ⟨c0, c1, c2, c3, c4, c5, c6, c7, c8, c9, c10, c11, _⟩ := HSB.out.kept (HK1.out.tr hky)
          by_cases hbl : b < S.groups.length
          case neg =>
            have e : b = S.groups.length := by omega
            subst e
            have HME : Hid (meetB S G a = true) := allB_iff.2 HB.out
            go_wp2
            go_roundw
            case rel => exact ⟨a + 1, by omega, by go_num, by rw [HLM.out], by rw [HUV.out], (fun x hx => (by
              by_cases e : x = a
              · rw [e, HME.out]; simp
              · exact HX.out x (by omega))), hky⟩
            case measure => simp [intOf]; omega
          cases hBb : G.testBit b with
          | false =>
            go_wp2_with (go_at_call 93; refine (rhas_any _ _ _ hG32).mono ?_; rintro e w9 ⟨rfl, rfl⟩; rw [has_in (S := G) (show b < 32 by omega), hBb])
            go_roundw
            case rel => exact ⟨b + 1, by omega, by go_num, (fun y hy => (by
              by_cases e : y = b
              · rw [e, hBb]; rfl
              · exact HB.out y (by omega))), hky⟩
            case measure => simp [intOf]; omega
          | true =>
            cases hap2 : (S.ap a).testBit b with
            | true =>
              have HE : Hid (rphB S = false) := HM.out a hal hA (allB_no hbl (by rw [hBb, hap2]; rfl))
              go_wp2_with (first | (go_at_call 92; refine (rapart_is (HSB.out.sat.kept (HK1.out.tr hky)) haa (by omega) hap2).mono ?_; rintro e wS ⟨rfl, hkS⟩) | (go_at_call 93; refine (rhas_any _ _ _ hG32).mono ?_; rintro e w9 ⟨rfl, rfl⟩; rw [has_in (S := G) (show b < 32 by omega), hBb]))
              go_ret
              exact ⟨by rw [HE.out]; rfl, HK.out.tr ((HK1.out.tr hky).tr hkS)⟩
            | false =>
              go_wp2_with (first | (go_at_call 92; refine (rapart_is (HSB.out.sat.kept (HK1.out.tr hky)) haa (by omega) hap2).mono ?_; rintro e wS ⟨rfl, hkS⟩) | (go_at_call 93; refine (rhas_any _ _ _ hG32).mono ?_; rintro e w9 ⟨rfl, rfl⟩; rw [has_in (S := G) (show b < 32 by omega), hBb]))
              go_roundw
              case rel => exact ⟨b + 1, by omega, by go_num, (fun y hy => (by
                by_cases e : y = b
                · rw [e, hBb, hap2]; rfl
                · exact HB.out y (by omega))), hky.tr hkS⟩
              case measure => simp [intOf]; omega
        · have HLM : Hid (leastN S G (a + 1) = LS) := by
            show leastN S G (a + 1) = LS
            rw [HL.out]
            omega
          clear HL
          go_wp2_with (first | (go_at_call 94; refine (rwith_any _ _ _ hu).mono ?_; rintro e w9 ⟨rfl, rfl⟩; rw [HG'.out]) | (go_at_call 93; refine (rhas_any _ _ _ hG32).mono ?_; rintro e w9 ⟨rfl, rfl⟩; rw [has_in (S := G) (show a < 32 by omega), hA]))
          clear c1 q0 q1 q2 q3 hgm
          go_loopw [8] (fun j wy => ∃ b : Nat, b ≤ S.groups.length ∧ j = .int .i64 b ∧ Hid (∀ y, y < b → (!(G.testBit y && (S.ap a).testBit y)) = true) ∧ Kept W1 wy none) (fun j _ => S.groups.length - (intOf j).toNat)
          case atStart => exact ⟨0, Nat.zero_le _, rfl, (fun y hy => by omega), hkx⟩
          case round =>
          clear hkx
          obtain ⟨b, hb, rfl, HB, hky⟩ := hrel
          have h3 := H3.out
          have haa : a < S.apart.length := by omega
          clear h3
          obtain ⟨q0, q1, q2, q3⟩ := HQ.out _ hky
          obtain ⟨c0, c1, c2, c3, c4, c5, c6, c7, c8, c9, c10, c11, _⟩ := HSB.out.kept (HK1.out.tr hky)
          by_cases hbl : b < S.groups.length
          case neg =>
            have e : b = S.groups.length := by omega
            subst e
            have HME : Hid (meetB S G a = true) := allB_iff.2 HB.out
            go_wp2
            go_roundw
            case rel => exact ⟨a + 1, by omega, by go_num, by rw [HLM.out], by rw [HUV.out], (fun x hx => (by
              by_cases e : x = a
              · rw [e, HME.out]; simp
              · exact HX.out x (by omega))), hky⟩
            case measure => simp [intOf]; omega
          cases hBb : G.testBit b with
          | false =>
            go_wp2_with (go_at_call 93; refine (rhas_any _ _ _ hG32).mono ?_; rintro e w9 ⟨rfl, rfl⟩; rw [has_in (S := G) (show b < 32 by omega), hBb])
            go_roundw
            case rel => exact ⟨b + 1, by omega, by go_num, (fun y hy => (by
              by_cases e : y = b
              · rw [e, hBb]; rfl
              · exact HB.out y (by omega))), hky⟩
            case measure => simp [intOf]; omega
          | true =>
            cases hap2 : (S.ap a).testBit b with
            | true =>
              have HE : Hid (rphB S = false) := HM.out a hal hA (allB_no hbl (by rw [hBb, hap2]; rfl))
              go_wp2_with (first | (go_at_call 92; refine (rapart_is (HSB.out.sat.kept (HK1.out.tr hky)) haa (by omega) hap2).mono ?_; rintro e wS ⟨rfl, hkS⟩) | (go_at_call 93; refine (rhas_any _ _ _ hG32).mono ?_; rintro e w9 ⟨rfl, rfl⟩; rw [has_in (S := G) (show b < 32 by omega), hBb]))
              go_ret
              exact ⟨by rw [HE.out]; rfl, HK.out.tr ((HK1.out.tr hky).tr hkS)⟩
            | false =>
              go_wp2_with (first | (go_at_call 92; refine (rapart_is (HSB.out.sat.kept (HK1.out.tr hky)) haa (by omega) hap2).mono ?_; rintro e wS ⟨rfl, hkS⟩) | (go_at_call 93; refine (rhas_any _ _ _ hG32).mono ?_; rintro e w9 ⟨rfl, rfl⟩; rw [has_in (S := G) (show b < 32 by omega), hBb]))
              go_roundw
              case rel => exact ⟨b + 1, by omega, by go_num, (fun y hy => (by
                by_cases e : y = b
                · rw [e, hBb, hap2]; rfl
                · exact HB.out y (by omega))), hky.tr hkS⟩
              case measure => simp [intOf]; omega
theorem rphases_any {X : Sa} {S : St} {w : World} (h : Sat w X S) (hg16 : 1 ≤ S.groups.length ∧ S.groups.length ≤ 16) (h3 : S.apart.length = S.groups.length) : Calls Tryd.prog 63 #[siteV X S] w fun e w' => e = .returned (.bool (rphB S)) ∧ Kept w w' none := by
  cases h2 : inB S.phases.length 1 8
  · exact rphases_no h h2
  · exact rphases_yes h hg16 h3 h2

end Go.Proofs.YtoahbpdgbiachaaDoor

/-
  WHAT THE DOCUMENT ASKS, CONDITION BY CONDITION, is what may be.
-/
namespace Go.Proofs.YtoahbpdgbiachaaDoor
open Go.RowKit Go.Lib Go.Deep
set_option linter.unusedVariables false
set_option linter.unusedSimpArgs false

def rchB (S : St) : Bool := rgrB S && rphB S && decide (S.eyes.length ≤ 24) && decide (S.plans.length ≤ 8) && allB S.eyes.length (eyeB S) && timeB S.watch && timeB S.feed && timeB S.heal && inB S.low (roundM S) 1048576 && inB S.high S.low 1048576 && allB S.plans.length (fun i => planB S (S.pl i))
theorem leastN_le {S : St} {G : Nat} {m : Int} : ∀ n, leastN S G n ≤ m ↔ 1 ≤ m ∧ ∀ a, a < n → G.testBit a = true → (S.gr a).min ≤ m
  | 0 => by simp [leastN]
  | n + 1 => by
    have ih := leastN_le (S := S) (G := G) (m := m) n
    cases h : G.testBit n with
    | true =>
      rw [leastN_yes h]
      constructor
      · intro hx
        have h1 : leastN S G n ≤ m := by omega
        have h2 := ih.1 h1
        refine ⟨h2.1, fun a ha hb => ?_⟩
        by_cases e : a = n
        · subst e; omega
        · exact h2.2 a (by omega) hb
      · rintro ⟨h1, h2⟩
        have h3 := ih.2 ⟨h1, fun a ha hb => h2 a (by omega) hb⟩
        have h4 := h2 n (by omega) h
        omega
    | false =>
      rw [leastN_no h, ih]
      constructor
      · rintro ⟨h1, h2⟩
        refine ⟨h1, fun a ha hb => ?_⟩
        by_cases e : a = n
        · subst e; rw [h] at hb; cases hb
        · exact h2 a (by omega) hb
      · rintro ⟨h1, h2⟩
        exact ⟨h1, fun a ha hb => h2 a (by omega) hb⟩
theorem bit_lt {G n a : Nat} (hG : G < 2 ^ n) (h : G.testBit a = true) : a < n := by
  by_cases hh : a < n
  · exact hh
  · have := Nat.testBit_lt_two_pow (Nat.lt_of_lt_of_le hG (Nat.pow_le_pow_right (n := 2) (by omega) (show n ≤ a by omega)))
    rw [this] at h; cases h
theorem bit_some {G : Nat} (h : G ≠ 0) : ∃ a, G.testBit a = true := by
  by_cases hh : ∃ a, G.testBit a = true
  · exact hh
  · exact absurd (Nat.eq_of_testBit_eq fun i => by
      rw [Nat.zero_testBit]
      cases hb : G.testBit i with
      | false => rfl
      | true => exact absurd ⟨i, hb⟩ hh) h
theorem meet_iff {S : St} {G a : Nat} (hG : G < 2 ^ S.groups.length) : meetB S G a = true ↔ S.ap a &&& G = 0 := by
  unfold meetB
  rw [allB_iff]
  constructor
  · intro h
    refine Nat.eq_of_testBit_eq fun i => ?_
    rw [Nat.testBit_and, Nat.zero_testBit]
    cases hb : G.testBit i with
    | false => simp
    | true =>
      have := h i (bit_lt hG hb)
      rw [hb] at this
      simpa using this
  · intro h b hb
    have := congrArg (fun x => Nat.testBit x b) h
    simp only [Nat.testBit_and, Nat.zero_testBit] at this
    rw [Bool.and_comm, this]
    rfl
theorem cnt_full {U : Nat} : ∀ n, cnt U n = n ↔ ∀ j, j < n → U.testBit j = true
  | 0 => by simp [cnt]
  | n + 1 => by
    have h1 := cnt_le U n
    rw [cnt_succ]
    constructor
    · intro h j hj
      have hb : U.testBit n = true := by
        cases hb : U.testBit n with
        | true => rfl
        | false => rw [hb] at h; simp at h; omega
      rw [hb] at h
      have h2 : cnt U n = n := by simp at h; omega
      by_cases e : j = n
      · subst e; exact hb
      · exact (cnt_full n).1 h2 j (by omega)
    · intro h
      rw [(cnt_full n).2 (fun j hj => h j (by omega)), h n (by omega)]
      rfl
theorem served_iff {U n : Nat} (hn : n ≤ 32) (hU : U < 2 ^ n) : cnt U 32 = n ↔ U = 2 ^ n - 1 := by
  have e : cnt U 32 = cnt U n := by
    have := cnt_flat U n (32 - n) (fun j h1 h2 => Nat.testBit_lt_two_pow (Nat.lt_of_lt_of_le hU (Nat.pow_le_pow_right (n := 2) (by omega) h1)))
    rwa [show n + (32 - n) = 32 by omega] at this
  rw [e, cnt_full]
  constructor
  · intro h
    refine Nat.eq_of_testBit_eq fun i => ?_
    rw [Nat.testBit_two_pow_sub_one]
    by_cases hi : i < n
    · rw [h i hi, decide_eq_true hi]
    · rw [decide_eq_false hi]
      exact Nat.testBit_lt_two_pow (Nat.lt_of_lt_of_le hU (Nat.pow_le_pow_right (n := 2) (by omega) (by omega)))
  · intro h j hj
    rw [h, Nat.testBit_two_pow_sub_one]
    exact decide_eq_true hj
theorem union_lt {S : St} {n : Nat} : ∀ k, (∀ i, i < k → (S.ph i).groups < 2 ^ n) → unionN S k < 2 ^ n
  | 0, _ => by simp [unionN]; exact Nat.two_pow_pos n
  | k + 1, h => Nat.or_lt_two_pow (union_lt k fun i hi => h i (by omega)) (h k (by omega))
theorem rphase_iff {S : St} (hg : ∀ i, i < S.groups.length → groupB S i = true) (i : Nat) : rphaseB S i = phaseB S i := by
  rw [Bool.eq_iff_iff]
  unfold rphaseB phaseB mateB leastB timeB
  simp only [Bool.and_eq_true, decide_eq_true_eq, allB_iff, Bool.or_eq_true, Bool.not_eq_true', inB_iff, leastN_le]
  generalize (S.ph i).groups = G
  generalize (S.ph i).min = m
  constructor
  · rintro ⟨⟨⟨⟨⟨h1, h2⟩, h3⟩, ⟨h4, h4'⟩, h5⟩, h6⟩, h7⟩
    refine ⟨⟨⟨⟨⟨⟨⟨h1, h2⟩, fun a ha => ?_⟩, by omega⟩, fun a ha => ?_⟩, h5⟩, h6⟩, h7⟩
    · rcases h3 a ha with h | h
      · exact .inl h
      · exact .inr ((meet_iff h2).1 h)
    · cases hb : G.testBit a with
      | false => exact .inl rfl
      | true => exact .inr (h4' a ha hb)
  · rintro ⟨⟨⟨⟨⟨⟨⟨h1, h2⟩, h3⟩, h4⟩, h4'⟩, h5⟩, h6⟩, h7⟩
    have hm : ∀ a, a < S.groups.length → G.testBit a = true → (S.gr a).min ≤ m := fun a ha hb => by
      rcases h4' a ha with h | h
      · rw [hb] at h; cases h
      · exact h
    refine ⟨⟨⟨⟨⟨h1, h2⟩, fun a ha => ?_⟩, ⟨?_, hm⟩, h5⟩, h6⟩, h7⟩
    · rcases h3 a ha with h | h
      · exact .inl h
      · exact .inr ((meet_iff h2).2 h)
    · obtain ⟨a, hb⟩ := bit_some h1
      have ha := bit_lt h2 hb
      have := hg a ha
      unfold groupB timeB at this
      simp only [Bool.and_eq_true, inB_iff] at this
      have := hm a ha hb
      omega
theorem rgr_iff {S : St} : rgrB S = true ↔ (inB S.id 0 65535 = true ∧ inB S.groups.length 1 16 = true ∧ S.apart.length = S.groups.length ∧ S.between.length = S.groups.length) ∧ (∀ i, i < S.groups.length → groupB S i = true) ∧ (∀ i, i < S.groups.length → apartB S i = true) ∧ (∀ i, i < S.groups.length → betweenB S i = true) := by
  unfold rgrB rowB pairB apartB betweenB
  simp only [Bool.and_eq_true, decide_eq_true_eq, allB_iff, beq_iff_eq, Bool.not_eq_true', Bool.and_eq_false_iff, decide_eq_false_iff_not]
  constructor
  · rintro ⟨⟨⟨⟨⟨h1, h2⟩, h3⟩, h4⟩, h5⟩, h6⟩
    refine ⟨⟨h1, h2, h3, h4⟩, fun i hi => (h5 i hi).1.1, fun a ha => ⟨⟨(h5 a ha).2, ?_⟩, fun b hb => (h6 a ha b hb).1.1⟩, fun a ha => ⟨(h5 a ha).1.2, fun b hb => (h6 a ha b hb).2⟩⟩
    rcases (h6 a ha a ha).1.2 with h | h
    · exact absurd rfl h
    · exact h
  · rintro ⟨⟨h1, h2, h3, h4⟩, h5, h6, h7⟩
    refine ⟨⟨⟨⟨⟨h1, h2⟩, h3⟩, h4⟩, fun i hi => ⟨⟨h5 i hi, (h7 i hi).1⟩, (h6 i hi).1.1⟩⟩, fun a ha b hb => ⟨⟨(h6 a ha).2 b hb, ?_⟩, (h7 a ha).2 b hb⟩⟩
    by_cases e : a = b
    · subst e
      exact .inr (h6 a ha).1.2
    · exact .inl e
theorem rch_site (S : St) : rchB S = siteB S := by
  rw [Bool.eq_iff_iff]
  unfold rchB siteB countsB ownB servedB cyclesB rphB
  simp only [Bool.and_eq_true, decide_eq_true_eq, allB_iff, rgr_iff]
  constructor
  · rintro ⟨⟨⟨⟨⟨⟨⟨⟨⟨⟨⟨⟨h1, h2, h3, h4⟩, h5, h6, h7⟩, ⟨h8, h9⟩, h10⟩, h11⟩, h12⟩, h13⟩, h14⟩, h15⟩, h16⟩, h17⟩, h18⟩, h19⟩
    have hp : ∀ i, i < S.phases.length → phaseB S i = true := fun i hi => by rw [← rphase_iff h5]; exact h9 i hi
    have hl : ∀ i, i < S.phases.length → (S.ph i).groups < 2 ^ S.groups.length := fun i hi => by
      have := hp i hi
      unfold phaseB at this
      simp only [Bool.and_eq_true, decide_eq_true_eq] at this
      exact this.1.1.1.1.1.1.2
    have hn := inB_iff.1 h2
    exact ⟨⟨⟨⟨⟨⟨⟨⟨⟨⟨⟨⟨⟨⟨h2, h3⟩, h4⟩, h8⟩, h11⟩, h12⟩, ⟨⟨h1, h14⟩, h15⟩, h16⟩, h5⟩, h6⟩, h7⟩, hp⟩, (served_iff (by omega) (union_lt _ hl)).1 h10⟩, h13⟩, h17, h18⟩, h19⟩
  · rintro ⟨⟨⟨⟨⟨⟨⟨⟨⟨⟨⟨⟨⟨⟨h2, h3⟩, h4⟩, h8⟩, h11⟩, h12⟩, ⟨⟨h1, h14⟩, h15⟩, h16⟩, h5⟩, h6⟩, h7⟩, hp⟩, h10⟩, h13⟩, h17, h18⟩, h19⟩
    have hl : ∀ i, i < S.phases.length → (S.ph i).groups < 2 ^ S.groups.length := fun i hi => by
      have := hp i hi
      unfold phaseB at this
      simp only [Bool.and_eq_true, decide_eq_true_eq] at this
      exact this.1.1.1.1.1.1.2
    have hn := inB_iff.1 h2
    exact ⟨⟨⟨⟨⟨⟨⟨⟨⟨⟨⟨⟨h1, h2, h3, h4⟩, h5, h6, h7⟩, ⟨h8, fun i hi => by rw [rphase_iff h5]; exact hp i hi⟩, (served_iff (by omega) (union_lt _ hl)).2 h10⟩, h11⟩, h12⟩, h13⟩, h14⟩, h15⟩, h16⟩, h17⟩, h18⟩, h19⟩

end Go.Proofs.YtoahbpdgbiachaaDoor

