/-
  Part 10 of the texts that the proofs of this seat stand on.
-/
import Derived.Test.YtoahbpdgbiachaaDoorPart9
import Derived.Test.YtoahbpdgbiachaaDoorPart4
import Derived.Test.YtoahbpdgbiachaaDoorPart5
import Derived.Test.YtoahbpdgbiachaaDoorPart8
/-
  MATHS: what the document holds a region to, condition by condition, and what the program does: they are one.
-/
namespace Go.Proofs.YtoahbpdgbiachaaDoor
open Go.RowKit Go.Lib Go.Deep
set_option linter.unusedVariables false
set_option linter.unusedSimpArgs false

theorem sitesF_iff {N : Nt} : ∀ k, (sitesF N k).isSome = true ↔ ∀ i, i < k → siteB (N.sites.getD i s0) = true ∧ ∀ j, j < i → (N.sites.getD j s0).id ≠ (N.sites.getD i s0).id
  | 0 => ⟨fun _ i hi => by omega, fun _ => rfl⟩
  | k + 1 => by
    constructor
    · intro h i hi
      cases hM : sitesF N (k + 1) with
      | none => rw [hM] at h; cases h
      | some M =>
        obtain ⟨M1, h1, h2, h3, h4⟩ := sitesF_step hM
        by_cases e : i = k
        · subst e
          refine ⟨h2, fun j hj e => ?_⟩
          have := (sitesF_id i M1 h1).1 j hj
          rw [e, h3] at this
          cases this
        · exact (sitesF_iff k).1 (by rw [h1]; rfl) i (by omega)
    · intro h
      have hk := (sitesF_iff k).2 (fun i hi => h i (by omega))
      cases hM : sitesF N k with
      | none => rw [hM] at hk; cases hk
      | some M =>
        rw [sitesF, hM]
        have h3 := (sitesF_id k M hM).2 (N.sites.getD k s0).id (fun i hi => (h k (by omega)).2 i hi)
        simp only [(h k (by omega)).1, if_true, putF_new h3]
        rfl
theorem sitesF_two {N : Nt} (a b : Int) : ∀ k M, sitesF N k = some M → mkF M (2, a, b) = none
  | 0, M, h => by injection h with h; subst h; rfl
  | k + 1, M, h => by
    obtain ⟨M1, h1, h2, _, h4⟩ := sitesF_step h
    subst h4
    rw [mkF_other _ _ (mk_neF (by decide))]
    exact sitesF_two a b k M1 h1
structure Seen (N : Nt) (M : Ms) (s : List Int) : Prop where
  mem : ∀ x, x ∈ s ↔ (mkF M (1, x, 0)).isSome = true
  many : s.length = manyP N M
def Both (N : Nt) (a : Option Ms) (b : Option (List Int)) : Prop := match a, b with
  | none, none => True
  | some M, some s => Seen N M s
  | _, _ => False
theorem take_both {N : Nt} {place : Nat} {l : List Int} {M : Ms} {s : List Int} (h : Seen N M s) : ∀ k, Both N (takeF N place l M k) (rtakeF N l s k)
  | 0 => h
  | k + 1 => by
    have ih := take_both (place := place) (l := l) h k
    rw [takeF, rtakeF]
    cases e1 : takeF N place l M k with
    | none =>
      cases e2 : rtakeF N l s k with
      | none => trivial
      | some s' => rw [e1, e2] at ih; exact ih.elim
    | some M' =>
      cases e2 : rtakeF N l s k with
      | none => rw [e1, e2] at ih; exact ih.elim
      | some s' =>
        rw [e1, e2] at ih
        have ih : Seen N M' s' := ih
        simp only
        generalize l.getD k 0 = x
        cases hin : inB x 0 ((N.sites.length : Int) - 1) with
        | false => simp [Both]
        | true =>
          cases hf : mkF M' (1, x, 0) with
          | some v =>
            have hm : x ∈ s' := (ih.mem x).2 (by rw [hf]; rfl)
            rw [putF_old hf]
            simp [hm, Both]
          | none =>
            have hm : x ∉ s' := fun hx => by have := (ih.mem x).1 hx; rw [hf] at this; cases this
            rw [putF_new hf]
            simp only [hm, if_true, not_false_iff, and_self]
            refine ⟨fun y => ?_, ?_⟩
            · by_cases e : y = x
              · subst e
                rw [mkF_same]
                simp
              · rw [mkF_other _ _ (mk_ne1 e), ← ih.mem y]
                simp [e]
            · rw [manyP_put hin hf, List.length_append, ih.many]
              rfl
theorem cntI_mem {x : Int} {l : List Int} : ∀ k, k ≤ l.length → (cntI l x k ≠ 0 ↔ ∃ i, i < k ∧ l.getD i 0 = x)
  | 0, _ => ⟨fun h => absurd rfl h, fun ⟨i, hi, _⟩ => by omega⟩
  | k + 1, hk => by
    have ih := cntI_mem (x := x) (l := l) k (by omega)
    rw [cntI]
    by_cases e : l.getD k 0 = x
    · rw [if_pos e]
      exact ⟨fun _ => ⟨k, by omega, e⟩, fun _ => by omega⟩
    · rw [if_neg e]
      constructor
      · intro h
        obtain ⟨i, hi, he⟩ := ih.1 (by omega)
        exact ⟨i, by omega, he⟩
      · rintro ⟨i, hi, he⟩
        have : i ≠ k := fun q => e (by rw [← q]; exact he)
        have := ih.2 ⟨i, by omega, he⟩
        omega
theorem mem_getD {x : Int} {l : List Int} : x ∈ l ↔ ∃ i, i < l.length ∧ l.getD i 0 = x := by
  constructor
  · intro h
    obtain ⟨i, hi, rfl⟩ := List.getElem_of_mem h
    exact ⟨i, hi, by simp [hi]⟩
  · rintro ⟨i, hi, rfl⟩
    simp [hi]
theorem cntI_in {x : Int} {l : List Int} : x ∈ l ↔ cntI l x l.length ≠ 0 := by rw [mem_getD, cntI_mem _ (Nat.le_refl _)]
theorem subs_both {N : Nt} {M : Ms} (hM : ∀ x, mkF M (1, x, 0) = none) (h0 : manyP N M = 0) : ∀ k, Both N (subsF N M k) (rsubsF N k)
  | 0 => ⟨fun x => by rw [hM]; simp, by rw [h0]; rfl⟩
  | k + 1 => by
    have ih := subs_both hM h0 k
    rw [subsF, rsubsF]
    cases e1 : subsF N M k with
    | none =>
      cases e2 : rsubsF N k with
      | none => trivial
      | some s' => rw [e1, e2] at ih; exact ih.elim
    | some M1 =>
      cases e2 : rsubsF N k with
      | none => rw [e1, e2] at ih; exact ih.elim
      | some s1 =>
        rw [e1, e2] at ih
        have ih : Seen N M1 s1 := ih
        simp only
        have ht := take_both (place := k) (l := (N.subs.getD k u0).sites) ih (N.subs.getD k u0).sites.length
        cases e3 : takeF N k (N.subs.getD k u0).sites M1 (N.subs.getD k u0).sites.length with
        | none =>
          cases e4 : rtakeF N (N.subs.getD k u0).sites s1 (N.subs.getD k u0).sites.length with
          | none => trivial
          | some s' => rw [e3, e4] at ht; exact ht.elim
        | some M2 =>
          cases e4 : rtakeF N (N.subs.getD k u0).sites s1 (N.subs.getD k u0).sites.length with
          | none => rw [e3, e4] at ht; exact ht.elim
          | some s2 =>
            rw [e3, e4] at ht
            simp only
            have hc : mkF M2 (1, (N.subs.getD k u0).critical, 0) = some (k : Int) ↔ (N.subs.getD k u0).critical ∈ (N.subs.getD k u0).sites := by
              rw [cntI_in]
              rcases takeF_cnt (N.subs.getD k u0).critical _ _ e3 with ⟨a1, a2⟩ | ⟨a1, a2, a3⟩
              · rw [a2, a1]
                refine ⟨fun h => ?_, fun h => absurd rfl h⟩
                rcases (subsF_one hM k M1 e1).1 (N.subs.getD k u0).critical with ⟨b1, _⟩ | ⟨u, b0, b1, _⟩
                · rw [b1] at h; cases h
                · rw [b1] at h; injection h with h; omega
              · rw [a2, a3]; exact ⟨fun _ => by omega, fun _ => rfl⟩
            by_cases hcc : (N.subs.getD k u0).critical ∈ (N.subs.getD k u0).sites
            · rw [if_pos hcc, if_pos (hc.2 hcc)]; exact ht
            · rw [if_neg hcc, if_neg (fun q => hcc (hc.1 q))]; trivial
theorem placed_iff {N : Nt} {M : Ms} : placedB N M = true ↔ manyP N M = N.sites.length := by
  unfold placedB manyP
  rw [allB_iff]
  have h := List.countP_eq_length (p := fun i : Nat => (mkF M (1, (i : Int), 0)).isSome) (l := List.range N.sites.length)
  rw [List.length_range] at h
  rw [h]
  simp
theorem wedsF_key {N : Nt} {M : Ms} (hM : ∀ a b, mkF M (2, a, b) = none) (a b : Int) : ∀ k M', wedsF N M k = some M' → ((mkF M' (2, a, b)).isSome = true ↔ ∃ i, i < k ∧ (N.weds.getD i d0).a = a ∧ (N.weds.getD i d0).b = b)
  | 0, M', e => by injection e with e; subst e; rw [hM]; simp
  | k + 1, M', e => by
    obtain ⟨M1, h1, h2, h3, h4, h5, h6, h7⟩ := wedsF_step e
    have ih := wedsF_key hM a b k M1 h1
    subst h5
    by_cases e : ((2, a, b) : Mk) = (2, (N.weds.getD k d0).a, (N.weds.getD k d0).b)
    · have ea := congrArg (fun z : Mk => z.2.1) e
      have eb := congrArg (fun z : Mk => z.2.2) e
      simp only at ea eb
      rw [e, mkF_same]
      exact ⟨fun _ => ⟨k, by omega, ea.symm, eb.symm⟩, fun _ => rfl⟩
    · rw [mkF_other _ _ e, ih]
      constructor
      · rintro ⟨i, hi, h⟩; exact ⟨i, by omega, h⟩
      · rintro ⟨i, hi, h⟩
        have : i ≠ k := fun q => e (by rw [← q, h.1, h.2])
        exact ⟨i, by omega, h⟩
theorem rwedB_iff {N : Nt} {i : Nat} : rwedB N i = true ↔ (inB (N.weds.getD i d0).a 0 ((N.subs.length : Int) - 1) = true ∧ inB (N.weds.getD i d0).b ((N.weds.getD i d0).a + 1) ((N.subs.length : Int) - 1) = true) ∧ (timeB (N.weds.getD i d0).votes = true ∧ offsetsB N (N.weds.getD i d0).offsets = true) ∧ ∀ k, k < i → ¬ ((N.weds.getD k d0).a = (N.weds.getD i d0).a ∧ (N.weds.getD k d0).b = (N.weds.getD i d0).b) := by
  unfold rwedB
  simp only [Bool.and_eq_true, decide_eq_true_eq, allB_iff, Bool.not_eq_true', Bool.and_eq_false_iff, decide_eq_false_iff_not, inB_iff]
  constructor
  · rintro ⟨h1, h2, h3, h4, h5, h6⟩
    refine ⟨⟨by omega, by omega⟩, ⟨h4, h5⟩, fun k hk ⟨ha, hb⟩ => ?_⟩
    rcases h6 k hk with h | h
    · exact h ha
    · exact h hb
  · rintro ⟨⟨h1, h2⟩, ⟨h4, h5⟩, h6⟩
    refine ⟨by omega, by omega, by omega, h4, h5, fun k hk => ?_⟩
    by_cases ha : (N.weds.getD k d0).a = (N.weds.getD i d0).a
    · exact .inr (fun hb => h6 k hk ⟨ha, hb⟩)
    · exact .inl ha
theorem wedsF_iff {N : Nt} {M : Ms} (hM : ∀ a b, mkF M (2, a, b) = none) : ∀ k, (wedsF N M k).isSome = true ↔ ∀ i, i < k → rwedB N i = true
  | 0 => ⟨fun _ i hi => by omega, fun _ => rfl⟩
  | k + 1 => by
    constructor
    · intro h i hi
      cases hW : wedsF N M (k + 1) with
      | none => rw [hW] at h; cases h
      | some M' =>
        obtain ⟨M1, h1, h2, h3, h4, h5, h6, h7⟩ := wedsF_step hW
        by_cases e : i = k
        · subst e
          refine rwedB_iff.2 ⟨⟨h2, h3⟩, ⟨h6, h7⟩, fun j hj hq => ?_⟩
          have := (wedsF_key hM _ _ i M1 h1).2 ⟨j, hj, hq⟩
          rw [h4] at this
          cases this
        · exact (wedsF_iff hM k).1 (by rw [h1]; rfl) i (by omega)
    · intro h
      have hk := (wedsF_iff hM k).2 (fun i hi => h i (by omega))
      cases hW : wedsF N M k with
      | none => rw [hW] at hk; cases hk
      | some M1 =>
        obtain ⟨⟨a1, a2⟩, ⟨a3, a4⟩, a5⟩ := rwedB_iff.1 (h k (by omega))
        have hf : mkF M1 (2, (N.weds.getD k d0).a, (N.weds.getD k d0).b) = none := by
          cases e : mkF M1 (2, (N.weds.getD k d0).a, (N.weds.getD k d0).b) with
          | none => rfl
          | some v =>
            obtain ⟨j, hj, hq⟩ := (wedsF_key hM _ _ k M1 hW).1 (by rw [e]; rfl)
            exact absurd hq (a5 j hj)
        rw [wedsF, hW]
        simp only [a1, a2, a3, a4, Bool.and_self, if_true, putF_new hf]
        rfl
theorem rnet_eq (N : Nt) : rnetB N = netB N := by
  rw [Bool.eq_iff_iff]
  unfold rnetB netB
  rw [Bool.and_eq_true, Bool.and_eq_true, Bool.and_eq_true]
  constructor
  · rintro ⟨ho, hs, hu, hw⟩
    unfold rownB at ho
    unfold rsubsB at hu
    unfold rwedsB at hw
    rw [Bool.and_eq_true] at hu hw
    simp only [Bool.and_eq_true] at ho
    obtain ⟨o1, o2, o3, o4, o5, o6⟩ := ho
    rw [allB_iff] at hs
    have hs' : ∀ i, i < N.sites.length → siteB (N.sites.getD i s0) = true ∧ ((N.sites.getD i s0).low ≤ N.low ∧ N.high ≤ (N.sites.getD i s0).high) ∧ ∀ j, j < i → (N.sites.getD j s0).id ≠ (N.sites.getD i s0).id := fun i hi => by
      have := hs i hi
      unfold rsiteB at this
      simp only [Bool.and_eq_true, decide_eq_true_eq, allB_iff, Bool.not_eq_true', decide_eq_false_iff_not] at this
      exact ⟨this.1, ⟨this.2.1, this.2.2.1⟩, this.2.2.2⟩
    have h1 := (sitesF_iff N.sites.length).2 (fun i hi => ⟨(hs' i hi).1, (hs' i hi).2.2⟩)
    cases e1 : sitesF N N.sites.length with
    | none => rw [e1] at h1; cases h1
    | some M1 =>
      have hn1 : ∀ x, mkF M1 (1, x, 0) = none := fun x => sitesF_one x _ _ e1
      have hm0 : manyP N M1 = 0 := by
        unfold manyP
        rw [List.countP_eq_zero]
        intro i _
        rw [hn1]
        decide
      have hb := subs_both hn1 hm0 N.subs.length
      cases e2 : rsubsF N N.subs.length with
      | none => rw [e2] at hu; cases hu.2
      | some s =>
        rw [e2] at hu hb
        cases e3 : subsF N M1 N.subs.length with
        | none => rw [e3] at hb; exact hb.elim
        | some M2 =>
          rw [e3] at hb
          have hb : Seen N M2 s := hb
          have hp : placedB N M2 = true := placed_iff.2 (by rw [← hb.many]; exact of_decide_eq_true hu.2)
          have hc : ncyclesB N = true := by
            unfold ncyclesB
            simp only [Bool.and_eq_true, allB_iff]
            exact ⟨⟨⟨⟨⟨o2, o3⟩, o4⟩, o5⟩, o6⟩, fun i hi => ⟨decide_eq_true (hs' i hi).2.1.1, decide_eq_true (hs' i hi).2.1.2⟩⟩
          have h2 : ∀ a b, mkF M2 (2, a, b) = none := fun a b => by rw [subsF_other (by decide) _ _ e3]; exact sitesF_two a b _ _ e1
          have hcn : ncountsB N = true := by unfold ncountsB; rw [o1, hu.1, hw.1]; rfl
          unfold lookF
          rw [if_pos hcn, e1]
          simp only [e3]
          rw [if_pos (by rw [hp, hc]; rfl)]
          exact (wedsF_iff h2 _).2 (allB_iff.1 hw.2)
  · intro h
    cases hl : lookF N with
    | none => rw [hl] at h; cases h
    | some M =>
      obtain ⟨hc, M1, M2, h1, h2, h3, h4, h5⟩ := lookF_parts hl
      unfold ncountsB at hc
      rw [Bool.and_eq_true, Bool.and_eq_true] at hc
      have hn1 : ∀ x, mkF M1 (1, x, 0) = none := fun x => sitesF_one x _ _ h1
      have hm0 : manyP N M1 = 0 := by
        unfold manyP
        rw [List.countP_eq_zero]
        intro i _
        rw [hn1]
        decide
      have hb := subs_both hn1 hm0 N.subs.length
      rw [h2] at hb
      have h6 : ∀ a b, mkF M2 (2, a, b) = none := fun a b => by rw [subsF_other (by decide) _ _ h2]; exact sitesF_two a b _ _ h1
      unfold ncyclesB at h4
      simp only [Bool.and_eq_true, allB_iff] at h4
      obtain ⟨⟨⟨⟨⟨o2, o3⟩, o4⟩, o5⟩, o6⟩, o7⟩ := h4
      refine ⟨?_, ?_, ?_, ?_⟩
      · unfold rownB
        rw [hc.1.1, o2, o3, o4, o5, o6]
        rfl
      · rw [allB_iff]
        intro i hi
        have hi1 := (sitesF_iff N.sites.length).1 (by rw [h1]; rfl) i hi
        unfold rsiteB
        simp only [Bool.and_eq_true, allB_iff, Bool.not_eq_true', decide_eq_false_iff_not]
        exact ⟨hi1.1, (o7 i hi).1, (o7 i hi).2, hi1.2⟩
      · unfold rsubsB
        rw [hc.1.2]
        cases e2 : rsubsF N N.subs.length with
        | none => rw [e2] at hb; exact hb.elim
        | some s =>
          rw [e2] at hb
          have hb : Seen N M2 s := hb
          simp only [Bool.true_and]
          exact decide_eq_true (by rw [hb.many]; exact placed_iff.1 h3)
      · unfold rwedsB
        rw [hc.2, Bool.true_and, allB_iff]
        exact (wedsF_iff h6 _).1 (by rw [h5]; rfl)
def rnetE (N : Nt) : Int := if rnetB N = true then 0 else 60
theorem rnetE_eq (N : Nt) : rnetE N = netE N := by unfold rnetE netE; rw [rnet_eq]

end Go.Proofs.YtoahbpdgbiachaaDoor

/-
  THE DOCUMENT'S OWN ANSWER: what a region is held to.
-/
namespace Go.Proofs.YtoahbpdgbiachaaDoor
open Go.RowKit Go.Lib Go.Deep
set_option linter.unusedVariables false
set_option linter.unusedSimpArgs false

theorem rnetE_no {N : Nt} (h : rnetB N = false) : rnetE N = 60 := by unfold rnetE; rw [if_neg (by rw [h]; decide)]
theorem rnetE_own {N : Nt} (h : rownB N = false) : rnetE N = 60 := rnetE_no (by unfold rnetB; rw [h]; rfl)
theorem rnetE_site {N : Nt} {k : Nat} (hk : k < N.sites.length) (h : rsiteB N k = false) : rnetE N = 60 := rnetE_no (by unfold rnetB; rw [allB_no hk h]; simp)
set_option maxRecDepth 100000 in
set_option maxHeartbeats 8000000 in
theorem rcheck6r {Y : Na} {N : Nt} {w : World} (h : NetAt w Y N) (hF : NFew N) : Calls Tryd.prog 17 #[netV Y N] w fun e w' => e = .returned (.int .i64 (rnetE N)) ∧ Kept w w' none := by
  have hkA : Kept w (w.alloc (.cells #[.slice Y.s N.sites.length Y.sc, .slice Y.u N.subs.length Y.uc, .slice Y.d N.weds.length Y.dc, .int .i64 N.low, .int .i64 N.high, .int .i64 N.step] 26)) none := Kept.alloc _ _ _ _ _
  have HNB := Hid.mk' (nbx_alloc h 26)
  have HK := Hid.mk' hkA
  have HF := Hid.mk' hF
  clear h hkA hF
  go_enter Tryd.func17, Tryd.ntmps17
  cases b1 : inB N.sites.length 1 12 with
  | false =>
    have HE : Hid (rnetE N = 60) := rnetE_own (by unfold rownB; rw [b1]; simp)
    go_wp2_with (go_at_call 37; refine (rin6_is (by assumption)).mono ?_; rintro e w9 ⟨rfl, rfl⟩)
    go_ret
    exact ⟨by rw [HE.out]; rfl, HK.out⟩
  | true =>
  cases b2 : inB N.low 1 1048576 with
  | false =>
    have HE : Hid (rnetE N = 60) := rnetE_own (by unfold rownB; rw [show timeB N.low = false from b2]; simp)
    go_wp2_with (go_at_call 37; refine (rin6_is (by assumption)).mono ?_; rintro e w9 ⟨rfl, rfl⟩)
    go_ret
    exact ⟨by rw [HE.out]; rfl, HK.out⟩
  | true =>
  cases b3 : inB N.high N.low 1048576 with
  | false =>
    have HE : Hid (rnetE N = 60) := rnetE_own (by unfold rownB; rw [b3]; simp)
    go_wp2_with (go_at_call 37; refine (rin6_is (by assumption)).mono ?_; rintro e w9 ⟨rfl, rfl⟩)
    go_ret
    exact ⟨by rw [HE.out]; rfl, HK.out⟩
  | true =>
  cases b4 : inB N.step 1 1048576 with
  | false =>
    have HE : Hid (rnetE N = 60) := rnetE_own (by unfold rownB; rw [show timeB N.step = false from b4]; simp)
    go_wp2_with (go_at_call 37; refine (rin6_is (by assumption)).mono ?_; rintro e w9 ⟨rfl, rfl⟩)
    go_ret
    exact ⟨by rw [HE.out]; rfl, HK.out⟩
  | true =>
  have hs12 := inB_iff.1 b1
  have hlo := inB_iff.1 b2
  have hhi := inB_iff.1 b3
  have hst := inB_iff.1 b4
  have hnz : (N.step == 0) = false := by rw [beq_eq_false_iff_ne]; omega
  have hnz1 : ¬ N.step = 0 := by omega
  have hwr : IntKind.i64.wrap (N.high - N.low) = N.high - N.low := wrap_in (by omega) (by omega)
  have htm : (N.high - N.low).tmod N.step = (N.high - N.low) % N.step := Int.tmod_eq_emod_of_nonneg (by omega)
  have hq0 : 0 ≤ (N.high - N.low) / N.step := Int.ediv_nonneg (by omega) (by omega)
  have hq1 : (N.high - N.low) / N.step ≤ N.high - N.low := Int.ediv_le_self _ (by omega)
  have htd : (N.high - N.low).tdiv N.step = (N.high - N.low) / N.step := Int.tdiv_eq_ediv_of_nonneg (by omega)
  have htw : IntKind.i64.wrap ((N.high - N.low) / N.step) = (N.high - N.low) / N.step := wrap_in (by omega) (by omega)
  have HOW : Hid (rownB N = (decide ((N.high - N.low) % N.step = 0) && decide ((N.high - N.low) / N.step ≤ 64))) := by
    show rownB N = _
    unfold rownB
    rw [b1, show timeB N.low = true from b2, b3, show timeB N.step = true from b4]
    simp
  generalize hrm : (N.high - N.low) % N.step = RM at *
  generalize hqt : (N.high - N.low) / N.step = QT at *
  by_cases h4 : RM = 0
  case neg =>
    have HE : Hid (rnetE N = 60) := rnetE_own (by rw [HOW.out, decide_eq_false h4]; rfl)
    go_wp2_with (go_at_call 37; refine (rin6_is (by assumption)).mono ?_; rintro e w9 ⟨rfl, rfl⟩)
    go_ret
    exact ⟨by rw [HE.out]; rfl, HK.out⟩
  by_cases h5 : QT ≤ 64
  case neg =>
    have h5' : 64 < QT := by omega
    have HE : Hid (rnetE N = 60) := rnetE_own (by rw [HOW.out, decide_eq_false h5]; simp)
    go_wp2_with (go_at_call 37; refine (rin6_is (by assumption)).mono ?_; rintro e w9 ⟨rfl, rfl⟩)
    go_ret
    exact ⟨by rw [HE.out]; rfl, HK.out⟩
  have h5' : ¬ 64 < QT := by omega
  have HOY : Hid (rownB N = true) := by show rownB N = true; rw [HOW.out, decide_eq_true h4, decide_eq_true h5]; rfl
  go_wp2_with (go_at_call 37; refine (rin6_is (by assumption)).mono ?_; rintro e w9 ⟨rfl, rfl⟩)
  clear hnz hnz1 hwr htm hq0 hq1 htd htw hrm hqt h4 h5 h5' HOW
  generalize hW : (w.alloc (.cells #[.slice Y.s N.sites.length Y.sc, .slice Y.u N.subs.length Y.uc, .slice Y.d N.weds.length Y.dc, .int .i64 N.low, .int .i64 N.high, .int .i64 N.step] 26)) = W at *
  clear hW
  go_loopw [3] (fun i wr => ∃ k : Nat, k ≤ N.sites.length ∧ i = .int .i64 k ∧ Hid (∀ j, j < k → rsiteB N j = true) ∧ Kept W wr none) (fun i _ => N.sites.length - (intOf i).toNat)
  case atStart => exact ⟨0, Nat.zero_le _, rfl, (fun j hj => by omega), Kept.refl _ _⟩
  case round =>
    obtain ⟨wo, hwo⟩ : ∃ wo, wo = wr := ⟨wr, rfl⟩
    subst hwo
    obtain ⟨k, hk, rfl, HJ, hkr⟩ := hrel
    obtain ⟨c0, c1, c2, c3, c4, c5, _⟩ := HNB.out.kept hkr
    by_cases hlt : k < N.sites.length
    · obtain ⟨sb, so, es, _, hc⟩ := (HNB.out.kept hkr).net.s1.at_ (by omega)
      rw [es] at c0
      have q0 := hc k hlt 0 (by omega)
      have q1 := hc k hlt 1 (by omega)
      have q2 := hc k hlt 2 (by omega)
      have q3 := hc k hlt 3 (by omega)
      have q4 := hc k hlt 4 (by omega)
      have q5 := hc k hlt 5 (by omega)
      have q6 := hc k hlt 6 (by omega)
      have q7 := hc k hlt 7 (by omega)
      have q8 := hc k hlt 8 (by omega)
      have q9 := hc k hlt 9 (by omega)
      have q10 := hc k hlt 10 (by omega)
      have q11 := hc k hlt 11 (by omega)
      have HES := Hid.mk' es
      have HSA := Hid.mk' ((HNB.out.kept hkr).net.s2 k hlt)
      have HNO : Hid (rsiteB N k = false → rnetE N = 60) := rnetE_site hlt
      have HRB : Hid (rsiteB N k = (siteB (N.sites.getD k s0) && (decide ((N.sites.getD k s0).low ≤ N.low) && (decide (N.high ≤ (N.sites.getD k s0).high) && allB k (fun j => !decide ((N.sites.getD j s0).id = (N.sites.getD k s0).id)))))) := rfl
      have HGD : Hid (∀ w', Kept W w' none → ∀ j, j < N.sites.length → w'.cell? ⟨sb, so + j * 12, none⟩ = some (.int .i64 (N.sites.getD j s0).id)) := fun w' q j hj => by
        obtain ⟨sb', so', es', _, hc'⟩ := (HNB.out.kept q).net.s1.at_ (by omega)
        rw [HES.out] at es'
        injection es' with es'
        injection es' with es1 es2
        subst es1 es2
        exact hc' j hj 0 (by omega)
      clear hc es
      generalize hS : N.sites.getD k s0 = S at *
      clear hS
      generalize Y.X k = Xk at *
      obtain ⟨xg, xgc, xa, xac, xb, xbc, xp, xpc, xe, xec, xl, xlc⟩ := Xk
      dsimp only [stV, Nat.add_zero] at q0 q1 q2 q3 q4 q5 q6 q7 q8 q9 q10 q11 HSA
      have hkB : Kept wo (wo.alloc (.cells #[.int .i64 S.id, .slice xg S.groups.length xgc, .slice xa S.apart.length xac, .slice xb S.between.length xbc, .slice xp S.phases.length xpc, .slice xe S.eyes.length xec, .int .i64 S.watch, .int .i64 S.feed, .int .i64 S.heal, .int .i64 S.low, .int .i64 S.high, .slice xl S.plans.length xlc] 48)) none := Kept.alloc _ _ _ _ _
      have KB := Hid.mk' (hkr.tr hkB)
      have HSAT := Hid.mk' (HSA.out.kept hkB)
      have HBX : Hid (∀ w', Kept (wo.alloc (.cells #[.int .i64 S.id, .slice xg S.groups.length xgc, .slice xa S.apart.length xac, .slice xb S.between.length xbc, .slice xp S.phases.length xpc, .slice xe S.eyes.length xec, .int .i64 S.watch, .int .i64 S.feed, .int .i64 S.heal, .int .i64 S.low, .int .i64 S.high, .slice xl S.plans.length xlc] 48)) w' none → w'.cell? ⟨wo.heap.size, 0, none⟩ = some (.int .i64 S.id) ∧ w'.cell? ⟨wo.heap.size, 9, none⟩ = some (.int .i64 S.low) ∧ w'.cell? ⟨wo.heap.size, 10, none⟩ = some (.int .i64 S.high)) := fun w' q => ⟨cell_kept0 (by simp [World.cell?_alloc_mark]) q, cell_kept0 (by simp [World.cell?_alloc_mark]) q, cell_kept0 (by simp [World.cell?_alloc_mark]) q⟩
      have hwl2 : w.heap.size < wo.heap.size := block_lt c0
      clear hkB HSA
      cases a1 : siteB S with
      | false =>
        have HCE := Hid.mk' (checkE_no a1)
        have HE := Hid.mk' (HNO.out (by rw [HRB.out, a1]; simp))
        go_wp2_with (go_at_call 38; have hn := rcheck_any (HSAT.out); rw [HCE.out] at hn; refine hn.mono ?_; rintro e w3 ⟨rfl, hk3⟩; have K3 := Hid.mk' (KB.out.tr hk3); have KQ := Hid.mk' hk3; clear hk3 c0 c1 c2 c3 c4 c5 q0 q1 q2 q3 q4 q5 q6 q7 q8 q9 q10 q11; obtain ⟨c0, c1, c2, c3, c4, c5, _⟩ := HNB.out.kept K3.out; obtain ⟨q0, q9, q10⟩ := HBX.out _ KQ.out)
        go_ret
        exact ⟨by rw [HE.out]; rfl, HK.out.tr K3.out⟩
      | true =>
      have HCE := Hid.mk' (checkE_yes a1)
      by_cases a2 : S.low ≤ N.low
      case neg =>
        have a2' : N.low < S.low := by omega
        have HE := Hid.mk' (HNO.out (by rw [HRB.out, decide_eq_false a2]; simp))
        go_wp2_with (go_at_call 38; have hn := rcheck_any (HSAT.out); rw [HCE.out] at hn; refine hn.mono ?_; rintro e w3 ⟨rfl, hk3⟩; have K3 := Hid.mk' (KB.out.tr hk3); have KQ := Hid.mk' hk3; clear hk3 c0 c1 c2 c3 c4 c5 q0 q1 q2 q3 q4 q5 q6 q7 q8 q9 q10 q11; obtain ⟨c0, c1, c2, c3, c4, c5, _⟩ := HNB.out.kept K3.out; obtain ⟨q0, q9, q10⟩ := HBX.out _ KQ.out)
        go_ret
        exact ⟨by rw [HE.out]; rfl, HK.out.tr K3.out⟩
      have a2' : ¬ N.low < S.low := by omega
      by_cases a3 : N.high ≤ S.high
      case neg =>
        have a3' : S.high < N.high := by omega
        have HE := Hid.mk' (HNO.out (by rw [HRB.out, decide_eq_false a3]; simp))
        go_wp2_with (go_at_call 38; have hn := rcheck_any (HSAT.out); rw [HCE.out] at hn; refine hn.mono ?_; rintro e w3 ⟨rfl, hk3⟩; have K3 := Hid.mk' (KB.out.tr hk3); have KQ := Hid.mk' hk3; clear hk3 c0 c1 c2 c3 c4 c5 q0 q1 q2 q3 q4 q5 q6 q7 q8 q9 q10 q11; obtain ⟨c0, c1, c2, c3, c4, c5, _⟩ := HNB.out.kept K3.out; obtain ⟨q0, q9, q10⟩ := HBX.out _ KQ.out)
        go_ret
        exact ⟨by rw [HE.out]; rfl, HK.out.tr K3.out⟩
      have a3' : ¬ S.high < N.high := by omega
      have HA : Hid (siteB S = true ∧ S.low ≤ N.low ∧ N.high ≤ S.high) := ⟨a1, a2, a3⟩
      go_wp2_with (go_at_call 38; have hn := rcheck_any (HSAT.out); rw [HCE.out] at hn; refine hn.mono ?_; rintro e w3 ⟨rfl, hk3⟩; have K3 := Hid.mk' (KB.out.tr hk3); have KQ := Hid.mk' hk3; clear hk3 c0 c1 c2 c3 c4 c5 q0 q1 q2 q3 q4 q5 q6 q7 q8 q9 q10 q11; obtain ⟨c0, c1, c2, c3, c4, c5, _⟩ := HNB.out.kept K3.out; obtain ⟨q0, q9, q10⟩ := HBX.out _ KQ.out)
      clear c0 c1 c2 c3 c4 c5 q0 q9 q10 a2' a3' a1
      have HBY := Hid.mk' (fun w' (q : Kept w3 w' none) => HBX.out w' (KQ.out.tr q))
      go_loopw [5] (fun q wr => ∃ j : Nat, j ≤ k ∧ q = .int .i64 j ∧ Hid (∀ t, t < j → (!decide ((N.sites.getD t s0).id = S.id)) = true) ∧ Kept w3 wr none) (fun q _ => k - (intOf q).toNat)
      case atStart => exact ⟨0, Nat.zero_le _, rfl, (fun j hj => by omega), Kept.refl _ _⟩
      case round =>
        obtain ⟨j, hj, rfl, HT, hkx⟩ := hrel
        obtain ⟨c0, c1, c2, c3, c4, c5, _⟩ := HNB.out.kept (K3.out.tr hkx)
        rw [HES.out] at c0
        by_cases hjl : j < k
        · have HNX : Hid ((!decide ((N.sites.getD j s0).id = S.id)) = false → rnetE N = 60) := fun q => HNO.out (by rw [HRB.out, allB_no hjl q]; simp)
          have HTS : Hid (∀ t, t < j + 1 → t ≠ j → (!decide ((N.sites.getD t s0).id = S.id)) = true) := fun t ht hne => HT.out t (by omega)
          have g0 : ∀ w', Kept wr w' none → w'.cell? ⟨wo.heap.size, 0, none⟩ = some (.int .i64 S.id) := fun w' q => (HBY.out w' (hkx.tr q)).1
          have g2 : ∀ w', Kept wr w' none → w'.cell? ⟨w.heap.size, 0, none⟩ = some (.slice (some ⟨sb, so, none⟩) N.sites.length Y.sc) := fun w' q => cell_kept0 c0 q
          have g3 : ∀ w', Kept wr w' none → w'.cell? ⟨sb, so + j * 12, none⟩ = some (.int .i64 (N.sites.getD j s0).id) := fun w' q => HGD.out w' ((K3.out.tr hkx).tr q) j (by omega)
          have hjN : j < N.sites.length := by omega
          generalize hE : (N.sites.getD j s0).id = E at *
          have HEE := Hid.mk' hE
          clear hE
          clear c0 c1 c2 c3 c4 c5
          by_cases ea : E = S.id
          · have HE := Hid.mk' (HNX.out (by rw [decide_eq_true ea]; rfl))
            rw [ea] at g3
            go_wp2
            refine Code.wp_mono (Q := Rg6 ?A1 wr) ?cont1 ?reg1
            case reg1 =>
              repeat (rename_i hh; clear hh)
              refine wp_region_held_drew (S := fun w' => Kept wr w' none) (by kernel_rfl) (Kept.tr (Kept.refl _ _) (Kept.drew _ _)) (fun hHeld => ?_)
              refine held_take (i := 0) (v := ?v2) rfl rfl (by kernel_rfl) (by kernel_rfl) (by kernel_rfl) (fun _ _ _ h => h) (Or.inl ⟨by rfl, ?hy2⟩) hHeld ?rest2
              case hy2 => first | (intro w hSw; (try dsimp only at hSw); go_simp; done) | (intro w hSw; (try dsimp only at hSw); go_simp; with_reducible rfl)
              try simp only [List.setIfInBounds_toArray, List.set_cons_zero, List.set_cons_succ]
              refine held_take (i := 1) (v := ?v3) rfl rfl (by kernel_rfl) (by kernel_rfl) (by kernel_rfl) (fun _ _ _ h => h) (Or.inl ⟨by rfl, ?hy3⟩) hHeld ?rest3
              case hy3 => first | (intro w hSw; (try dsimp only at hSw); go_simp; done) | (intro w hSw; (try dsimp only at hSw); go_simp; with_reducible rfl)
              try simp only [List.setIfInBounds_toArray, List.set_cons_zero, List.set_cons_succ]
              refine held_take (i := 2) (v := ?v4) rfl rfl (by kernel_rfl) (by kernel_rfl) (by kernel_rfl) (fun _ _ _ h => h) (Or.inl ⟨by rfl, ?hy4⟩) hHeld ?rest4
              case hy4 => first | (intro w hSw; (try dsimp only at hSw); go_simp; done) | (intro w hSw; (try dsimp only at hSw); go_simp; with_reducible rfl)
              try simp only [List.setIfInBounds_toArray, List.set_cons_zero, List.set_cons_succ]
              refine held_take (i := 3) (v := ?v5) rfl rfl (by kernel_rfl) (by kernel_rfl) (by kernel_rfl) (fun _ _ _ h => h) (Or.inl ⟨by rfl, ?hy5⟩) hHeld ?rest5
              case hy5 => first | (intro w hSw; (try dsimp only at hSw); go_simp; done) | (intro w hSw; (try dsimp only at hSw); go_simp; with_reducible rfl)
              try simp only [List.setIfInBounds_toArray, List.set_cons_zero, List.set_cons_succ]
              refine held_take (i := 4) (v := ?v6) rfl rfl (by kernel_rfl) (by kernel_rfl) (by kernel_rfl) (fun _ _ _ h => h) (Or.inl ⟨by rfl, ?hy6⟩) hHeld ?rest6
              case hy6 => first | (intro w hSw; (try dsimp only at hSw); go_simp; done) | (intro w hSw; (try dsimp only at hSw); go_simp; with_reducible rfl)
              try simp only [List.setIfInBounds_toArray, List.set_cons_zero, List.set_cons_succ]
              refine held_take (i := 5) (v := ?v7) rfl rfl (by kernel_rfl) (by kernel_rfl) (by kernel_rfl) (fun _ _ _ h => h) (Or.inl ⟨by rfl, ?hy7⟩) hHeld ?rest7
              case hy7 => first | (intro w hSw; (try dsimp only at hSw); go_simp; done) | (intro w hSw; (try dsimp only at hSw); go_simp; with_reducible rfl)
              try simp only [List.setIfInBounds_toArray, List.set_cons_zero, List.set_cons_succ]
              refine held_take (i := 6) (v := ?v8) rfl rfl (by kernel_rfl) (by kernel_rfl) (by kernel_rfl) (fun _ _ _ h => h) (Or.inl ⟨by rfl, ?hy8⟩) hHeld ?rest8
              case hy8 => first | (intro w hSw; (try dsimp only at hSw); go_simp; done) | (intro w hSw; (try dsimp only at hSw); go_simp; with_reducible rfl)
              try simp only [List.setIfInBounds_toArray, List.set_cons_zero, List.set_cons_succ]
              refine held_take (i := 7) (v := ?v9) rfl rfl (by kernel_rfl) (by kernel_rfl) (by kernel_rfl) (fun _ _ _ h => h) (Or.inl ⟨by rfl, ?hy9⟩) hHeld ?rest9
              case hy9 => first | (intro w hSw; (try dsimp only at hSw); go_simp; done) | (intro w hSw; (try dsimp only at hSw); go_simp; with_reducible rfl)
              try simp only [List.setIfInBounds_toArray, List.set_cons_zero, List.set_cons_succ]
              refine held_take (i := 8) (v := ?v10) rfl rfl (by kernel_rfl) (by kernel_rfl) (by kernel_rfl) (fun _ _ _ h => h) (Or.inl ⟨by rfl, ?hy10⟩) hHeld ?rest10
              case hy10 => first | (intro w hSw; (try dsimp only at hSw); go_simp; done) | (intro w hSw; (try dsimp only at hSw); go_simp; with_reducible rfl)
              try simp only [List.setIfInBounds_toArray, List.set_cons_zero, List.set_cons_succ]
              refine wpAnyH_done (by kernel_rfl) ?_ _
              refine And.intro ?_ hHeld
              with_reducible rfl
            case cont1 =>
            intro e a' w' hq
            obtain ⟨rfl, rfl, hkq⟩ := hq.out
            go_wp2
            go_ret
            exact ⟨by rw [HE.out]; rfl, HK.out.tr (K3.out.tr (hkx.tr hkq))⟩
          · have HQ : Hid ((!decide (E = S.id)) = true) := by show (!decide (E = S.id)) = true; rw [decide_eq_false ea]; rfl
            have ea2 : (E == S.id) = false := beq_eq_false_iff_ne.2 ea
            go_wp2
            refine Code.wp_mono (Q := Rg6 ?A11 wr) ?cont11 ?reg11
            case reg11 =>
              repeat (rename_i hh; clear hh)
              refine wp_region_held_drew (S := fun w' => Kept wr w' none) (by kernel_rfl) (Kept.tr (Kept.refl _ _) (Kept.drew _ _)) (fun hHeld => ?_)
              refine held_take (i := 0) (v := ?v12) rfl rfl (by kernel_rfl) (by kernel_rfl) (by kernel_rfl) (fun _ _ _ h => h) (Or.inl ⟨by rfl, ?hy12⟩) hHeld ?rest12
              case hy12 => first | (intro w hSw; (try dsimp only at hSw); go_simp; done) | (intro w hSw; (try dsimp only at hSw); go_simp; with_reducible rfl)
              try simp only [List.setIfInBounds_toArray, List.set_cons_zero, List.set_cons_succ]
              refine held_take (i := 1) (v := ?v13) rfl rfl (by kernel_rfl) (by kernel_rfl) (by kernel_rfl) (fun _ _ _ h => h) (Or.inl ⟨by rfl, ?hy13⟩) hHeld ?rest13
              case hy13 => first | (intro w hSw; (try dsimp only at hSw); go_simp; done) | (intro w hSw; (try dsimp only at hSw); go_simp; with_reducible rfl)
              try simp only [List.setIfInBounds_toArray, List.set_cons_zero, List.set_cons_succ]
              refine held_take (i := 2) (v := ?v14) rfl rfl (by kernel_rfl) (by kernel_rfl) (by kernel_rfl) (fun _ _ _ h => h) (Or.inl ⟨by rfl, ?hy14⟩) hHeld ?rest14
              case hy14 => first | (intro w hSw; (try dsimp only at hSw); go_simp; done) | (intro w hSw; (try dsimp only at hSw); go_simp; with_reducible rfl)
              try simp only [List.setIfInBounds_toArray, List.set_cons_zero, List.set_cons_succ]
              refine held_take (i := 3) (v := ?v15) rfl rfl (by kernel_rfl) (by kernel_rfl) (by kernel_rfl) (fun _ _ _ h => h) (Or.inl ⟨by rfl, ?hy15⟩) hHeld ?rest15
              case hy15 => first | (intro w hSw; (try dsimp only at hSw); go_simp; done) | (intro w hSw; (try dsimp only at hSw); go_simp; with_reducible rfl)
              try simp only [List.setIfInBounds_toArray, List.set_cons_zero, List.set_cons_succ]
              refine held_take (i := 4) (v := ?v16) rfl rfl (by kernel_rfl) (by kernel_rfl) (by kernel_rfl) (fun _ _ _ h => h) (Or.inl ⟨by rfl, ?hy16⟩) hHeld ?rest16
              case hy16 => first | (intro w hSw; (try dsimp only at hSw); go_simp; done) | (intro w hSw; (try dsimp only at hSw); go_simp; with_reducible rfl)
              try simp only [List.setIfInBounds_toArray, List.set_cons_zero, List.set_cons_succ]
              refine held_take (i := 5) (v := ?v17) rfl rfl (by kernel_rfl) (by kernel_rfl) (by kernel_rfl) (fun _ _ _ h => h) (Or.inl ⟨by rfl, ?hy17⟩) hHeld ?rest17
              case hy17 => first | (intro w hSw; (try dsimp only at hSw); go_simp; done) | (intro w hSw; (try dsimp only at hSw); go_simp; with_reducible rfl)
              try simp only [List.setIfInBounds_toArray, List.set_cons_zero, List.set_cons_succ]
              refine held_take (i := 6) (v := ?v18) rfl rfl (by kernel_rfl) (by kernel_rfl) (by kernel_rfl) (fun _ _ _ h => h) (Or.inl ⟨by rfl, ?hy18⟩) hHeld ?rest18
              case hy18 => first | (intro w hSw; (try dsimp only at hSw); go_simp; done) | (intro w hSw; (try dsimp only at hSw); go_simp; with_reducible rfl)
              try simp only [List.setIfInBounds_toArray, List.set_cons_zero, List.set_cons_succ]
              refine held_take (i := 7) (v := ?v19) rfl rfl (by kernel_rfl) (by kernel_rfl) (by kernel_rfl) (fun _ _ _ h => h) (Or.inl ⟨by rfl, ?hy19⟩) hHeld ?rest19
              case hy19 => first | (intro w hSw; (try dsimp only at hSw); go_simp; done) | (intro w hSw; (try dsimp only at hSw); go_simp; with_reducible rfl)
              try simp only [List.setIfInBounds_toArray, List.set_cons_zero, List.set_cons_succ]
              refine held_take (i := 8) (v := ?v20) rfl rfl (by kernel_rfl) (by kernel_rfl) (by kernel_rfl) (fun _ _ _ h => h) (Or.inl ⟨by rfl, ?hy20⟩) hHeld ?rest20
              case hy20 => first | (intro w hSw; (try dsimp only at hSw); go_simp; done) | (intro w hSw; (try dsimp only at hSw); go_simp; with_reducible rfl)
              try simp only [List.setIfInBounds_toArray, List.set_cons_zero, List.set_cons_succ]
              refine wpAnyH_done (by kernel_rfl) ?_ _
              refine And.intro ?_ hHeld
              with_reducible rfl
            case cont11 =>
            intro e a' w' hq
            obtain ⟨rfl, rfl, hkq⟩ := hq.out
            go_wp2
            go_roundw
            case rel => exact ⟨j + 1, by omega, by go_num, (fun t ht => (by
              by_cases e : t = j
              · rw [e, HEE.out]; exact HQ.out
              · exact HTS.out t ht e)), hkx.tr hkq⟩
            case measure => simp [intOf]; omega
        · have e : j = k := by omega
          subst e
          have HY : Hid (rsiteB N j = true) := by
            show rsiteB N j = true
            rw [HRB.out, HA.out.1, decide_eq_true HA.out.2.1, decide_eq_true HA.out.2.2, allB_iff.2 HT.out]
            rfl
          go_wp2
          go_roundw
          case rel => exact ⟨j + 1, by omega, by go_num, (fun t ht => (by
            by_cases e : t = j
            · rw [e]; exact HY.out
            · exact HJ.out t (by omega))), K3.out.tr hkx⟩
          case measure => simp [intOf]; omega
    · have e : k = N.sites.length := by omega
      subst e
      have KR := Hid.mk' hkr
      have HRN : Hid (rnetB N = (rsubsB N && rwedsB N)) := by show rnetB N = _; unfold rnetB; rw [HOY.out, allB_iff.2 HJ.out]; simp
      have HSU := Hid.mk' (rsubs6_any (HNB.out.kept hkr).net HF.out (by omega))
      clear hkr
      cases d1 : rsubsB N with
      | false =>
        have HE : Hid (rnetE N = 60) := rnetE_no (by rw [HRN.out, d1]; rfl)
        go_wp2_with (go_at_call 39; have hn := HSU.out; rw [d1] at hn; refine hn.mono ?_; rintro e w5 ⟨rfl, hk5⟩; clear c0 c1 c2 c3 c4 c5; obtain ⟨c0, c1, c2, c3, c4, c5, _⟩ := HNB.out.kept (KR.out.tr hk5))
        go_ret
        exact ⟨by rw [HE.out]; rfl, HK.out.tr (KR.out.tr hk5)⟩
      | true =>
        have hu6 : N.subs.length ≤ 6 := by
          unfold rsubsB at d1
          rw [Bool.and_eq_true] at d1
          have := inB_iff.1 d1.1
          omega
        cases d2 : rwedsB N with
        | false =>
          have HE : Hid (rnetE N = 60) := rnetE_no (by rw [HRN.out, d1, d2]; rfl)
          go_wp2_with (first
            | (go_at_call 40; have hn := rweds6_any (HNB.out.kept (KR.out.tr hk5)).net (by omega) hu6; rw [d2] at hn; refine hn.mono ?_; rintro e w6 ⟨rfl, hk6⟩)
            | (go_at_call 39; have hn := HSU.out; rw [d1] at hn; refine hn.mono ?_; rintro e w5 ⟨rfl, hk5⟩; clear c0 c1 c2 c3 c4 c5; obtain ⟨c0, c1, c2, c3, c4, c5, _⟩ := HNB.out.kept (KR.out.tr hk5)))
          go_ret
          exact ⟨by rw [HE.out]; rfl, HK.out.tr ((KR.out.tr hk5).tr hk6)⟩
        | true =>
          have HE : Hid (rnetE N = 0) := by show rnetE N = 0; unfold rnetE; rw [if_pos (by rw [HRN.out, d1, d2]; rfl)]
          go_wp2_with (first
            | (go_at_call 40; have hn := rweds6_any (HNB.out.kept (KR.out.tr hk5)).net (by omega) hu6; rw [d2] at hn; refine hn.mono ?_; rintro e w6 ⟨rfl, hk6⟩)
            | (go_at_call 39; have hn := HSU.out; rw [d1] at hn; refine hn.mono ?_; rintro e w5 ⟨rfl, hk5⟩; clear c0 c1 c2 c3 c4 c5; obtain ⟨c0, c1, c2, c3, c4, c5, _⟩ := HNB.out.kept (KR.out.tr hk5)))
          go_ret
          exact ⟨by rw [HE.out]; rfl, HK.out.tr ((KR.out.tr hk5).tr hk6)⟩
theorem rcheck6_any {Y : Na} {N : Nt} {w : World} (h : NetAt w Y N) (hF : NFew N) : Calls Tryd.prog 17 #[netV Y N] w fun e w' => e = .returned (.int .i64 (netE N)) ∧ Kept w w' none := by
  rw [← rnetE_eq]; exact rcheck6r h hF

end Go.Proofs.YtoahbpdgbiachaaDoor

/-
  THE CONTRACT of net.Cycles.
-/
namespace Go.Proofs.YtoahbpdgbiachaaDoor
open Go.RowKit Go.Lib Go.Deep
set_option linter.unusedVariables false
set_option linter.unusedSimpArgs false

/-- The first k cycles of a region. -/
def cycK (N : Nt) (k : Nat) : List Int := (List.range k).map (fun i : Nat => N.low + i * N.step)
def cycA (N : Nt) : List Int := if netB N = true then cycK N (((N.high - N.low) / N.step).toNat + 1) else []
theorem cycK_len (N : Nt) (k : Nat) : (cycK N k).length = k := by simp [cycK]
theorem cycK_succ (N : Nt) (k : Nat) : cycK N (k + 1) = cycK N k ++ [N.low + k * N.step] := by
  unfold cycK
  rw [List.range_succ, List.map_append]
  rfl
theorem cycK_at {N : Nt} {k i : Nat} (h : i < k) : (cycK N k).getD i 0 = N.low + i * N.step := by simp [cycK, h]
/-- What a region that may be tells of its cycles. -/
structure Cyc (N : Nt) (qt : Nat) : Prop where
  low : 1 ≤ N.low ∧ N.low ≤ 1048576
  high : N.low ≤ N.high ∧ N.high ≤ 1048576
  step : 1 ≤ N.step ∧ N.step ≤ 1048576
  all : N.high - N.low = qt * N.step
  few : qt ≤ 64
  quot : (N.high - N.low) / N.step = qt
  st : ∀ i, i < N.sites.length → (N.sites.getD i s0).low ≤ N.low ∧ N.high ≤ (N.sites.getD i s0).high
theorem cyc_may {N : Nt} (h : netB N = true) : ∃ qt : Nat, Cyc N qt ∧ cycA N = cycK N (qt + 1) := by
  have h0 := h
  unfold netB at h
  cases hl : lookF N with
  | none => rw [hl] at h; cases h
  | some M =>
    obtain ⟨hc, M1, M2, h1, h2, h3, h4, h5⟩ := lookF_parts hl
    unfold ncyclesB timeB at h4
    simp only [Bool.and_eq_true, inB_iff, decide_eq_true_eq, allB_iff] at h4
    obtain ⟨⟨⟨⟨⟨a1, a2⟩, a3⟩, a4⟩, a5⟩, a6⟩ := h4
    have hq0 : 0 ≤ (N.high - N.low) / N.step := Int.ediv_nonneg (by omega) (by omega)
    refine ⟨((N.high - N.low) / N.step).toNat, ⟨by omega, by omega, by omega, ?_, by omega, by omega, a6⟩, by unfold cycA; rw [if_pos h0]⟩
    rw [Int.toNat_of_nonneg hq0]
    have := Int.mul_ediv_add_emod (N.high - N.low) N.step
    rw [a4, Int.add_zero, Int.mul_comm] at this
    exact this.symm
theorem Cyc.le {N : Nt} {qt k : Nat} (h : Cyc N qt) (hk : k ≤ qt) : N.low + k * N.step ≤ N.high := by
  have h1 := h.all
  have h2 : (k : Int) * N.step ≤ qt * N.step := Int.mul_le_mul_of_nonneg_right (by omega) (by have := h.step; omega)
  omega
theorem Cyc.ge {N : Nt} {k : Nat} {qt : Nat} (h : Cyc N qt) : N.low ≤ N.low + k * N.step := by
  have h2 : 0 ≤ (k : Int) * N.step := Int.mul_nonneg (by omega) (by have := h.step; omega)
  omega
theorem Cyc.lt {N : Nt} {qt : Nat} (h : Cyc N qt) : N.low + ((qt + 1 : Nat) : Int) * N.step = N.high + N.step := by
  have h1 := h.all
  have h2 : ((qt + 1 : Nat) : Int) * N.step = qt * N.step + N.step := by rw [Int.natCast_add, Int.add_mul]; simp
  omega
theorem cycK_rng {N : Nt} {qt : Nat} (h : Cyc N qt) {k : Nat} (hk : k ≤ qt + 1) : ∀ x ∈ cycK N k, -9223372036854775808 ≤ x ∧ x ≤ 9223372036854775807 := fun x hx => by
  simp only [cycK, List.mem_map, List.mem_range] at hx
  obtain ⟨i, hi, rfl⟩ := hx
  have h1 := h.le (k := i) (by omega)
  have h2 := h.ge (k := i)
  have := h.low
  have := h.high
  omega
set_option maxRecDepth 100000 in
set_option maxHeartbeats 2000000 in
theorem ncycles_no {w : World} {Y : Na} {N : Nt} (h : NetAt w Y N) (hT : Tabb w) (hb : netB N = false) : Calls Tryd.prog 11 #[netV Y N] w fun e w' => e = .returned (.tuple #[.slice none 0 0, .int .i64 60]) ∧ Kept w w' none := by
  have hkA : Kept w (w.alloc (.cells #[.slice Y.s N.sites.length Y.sc, .slice Y.u N.subs.length Y.uc, .slice Y.d N.weds.length Y.dc, .int .i64 N.low, .int .i64 N.high, .int .i64 N.step] 26)) none := Kept.alloc _ _ _ _ _
  have HN := Hid.mk' (h.kept hkA)
  have HK := Hid.mk' hkA
  have HT := Hid.mk' (hT.kept hkA)
  have HE := Hid.mk' (netE_no1 hb)
  clear h hkA hT hb
  go_enter Tryd.func11, Tryd.ntmps11
  go_wp2_with (go_at_call 13; have hn := ncheck_any HN.out HT.out; rw [HE.out] at hn; refine hn.mono ?_; rintro e w3 ⟨rfl, hk3⟩)
  go_ret2
  exact ⟨rfl, HK.out.tr hk3⟩
theorem cyc_grow {w : World} {base k c qt : Nat} {a : Option Addr} {N : Nt} (h : OwI w base (.slice a k c) (cycK N k)) (hC : Cyc N qt) (hk : k ≤ qt) (hb : base ≤ w.heap.size) :
    ∃ a' c' w', (Builtin.append_ #[31, 31] 31 #[.slice a k c, .slice (some ⟨w.heap.size, 0, none⟩) 1 1]).run Tryd.prog (w.alloc (.cells #[.int .i64 (N.low + k * N.step)] 3)) = .ok (.slice a' (k + 1 : Nat) c') w' ∧ OwI w' base (.slice a' (k + 1 : Nat) c') (cycK N (k + 1)) ∧ Kept w w' (Value.slice a k c).ownBlock := by
  have hf := hC.few
  obtain ⟨v', w', h1, h2, h3, h4⟩ := h.grow (N.low + k * N.step) (by rw [cycK_len]; omega) hb
  rw [← cycK_succ] at h2
  obtain ⟨a', c', e, _, _⟩ := h2.ints (cycK_rng hC (by omega))
  rw [cycK_len] at e
  subst e
  exact ⟨a', c', w', h1, h2, h3⟩
set_option maxRecDepth 100000 in
set_option maxHeartbeats 4000000 in
theorem ncycles_yes {w : World} {Y : Na} {N : Nt} {qt : Nat} (h : NetAt w Y N) (hT : Tabb w) (hb : netB N = true) (hC : Cyc N qt) : Calls Tryd.prog 11 #[netV Y N] w fun e w' => ∃ a c, e = .returned (.tuple #[.slice a (qt + 1 : Nat) c, .int .i64 0]) ∧ Ints w' a (qt + 1) c (cycK N (qt + 1)) ∧ (∀ b, a = some b → w.heap.size ≤ b.block) ∧ Kept w w' none := by
  have hkA : Kept w (w.alloc (.cells #[.slice Y.s N.sites.length Y.sc, .slice Y.u N.subs.length Y.uc, .slice Y.d N.weds.length Y.dc, .int .i64 N.low, .int .i64 N.high, .int .i64 N.step] 26)) none := Kept.alloc _ _ _ _ _
  have HNB := Hid.mk' (nbx_alloc h 26)
  have HK := Hid.mk' hkA
  have HT := Hid.mk' (hT.kept hkA)
  have HE := Hid.mk' (netE_yes1 hb)
  have HC := Hid.mk' hC
  have HS : Hid (∀ w', Calls Tryd.prog 26 #[netV Y N] w' fun e w'' => e = .returned (.int .i64 ((qt : Nat) : Int)) ∧ Kept w' w'' none) := fun w' => by
    have hq := hC.quot
    have := hC.high
    have := hC.low
    have := hC.step
    have := steps_net (w := w') (Y := Y) (N := N) (by omega) (by omega) (by omega)
    rw [hq] at this
    exact this
  have hl := hC.low
  have hh := hC.high
  have hst := hC.step
  have hf := hC.few
  clear h hkA hT hb hC
  go_enter Tryd.func11, Tryd.ntmps11
  have hWz : ∃ n, n = (w.alloc (.cells #[.slice Y.s N.sites.length Y.sc, .slice Y.u N.subs.length Y.uc, .slice Y.d N.weds.length Y.dc, .int .i64 N.low, .int .i64 N.high, .int .i64 N.step] 26)).heap.size := ⟨_, rfl⟩
  obtain ⟨n0, hn0⟩ := hWz
  go_wp2_with (first
    | (go_at_call 26; refine (HS.out _).mono ?_; rintro e w4 ⟨rfl, hk4⟩; have K4 := Hid.mk' (K3.out.tr hk4); clear c0 c1 c2 c3 c4 c5 hk4; obtain ⟨w5, hmk, hown, hk5⟩ := mk_ints (qt + 1) (by omega) w4 n0 (hn0 ▸ K4.out.size); have K5 := Hid.mk' (K4.out.tr hk5); have OW := Hid.mk' hown; obtain ⟨c0, c1, c2, c3, c4, c5, _⟩ := HNB.out.kept K5.out; rw [show ((qt + 1 : Nat) : Int) = (qt : Int) + 1 from by omega] at hmk; clear hk5 hown)
    | (go_at_call 13; have hn := ncheck_any HNB.out.net HT.out; rw [HE.out] at hn; refine hn.mono ?_; rintro e w3 ⟨rfl, hk3⟩; have K3 := Hid.mk' hk3; clear hk3; obtain ⟨c0, c1, c2, c3, c4, c5, _⟩ := HNB.out.kept K3.out))
  clear hmk c0 c1 c2 c3 c4 c5
  generalize hW : (w.alloc (.cells #[.slice Y.s N.sites.length Y.sc, .slice Y.u N.subs.length Y.uc, .slice Y.d N.weds.length Y.dc, .int .i64 N.low, .int .i64 N.high, .int .i64 N.step] 26)) = W at *
  clear hW
  subst hn0
  go_loopw [5, 6] (fun v cy wr => ∃ (k : Nat) (a : Option Addr) (c : Nat), k ≤ qt + 1 ∧ cy = .int .i64 (N.low + k * N.step) ∧ v = .slice a k c ∧ Hid (OwI wr W.heap.size (.slice a k c) (cycK N k)) ∧ Kept W wr none) (fun _ cy _ => (N.high + N.step - intOf cy).toNat)
  case atStart => exact ⟨0, _, _, Nat.zero_le _, by simp, rfl, OW, K5.out⟩
  case round =>
    clear OW K5 K4 K3
    obtain ⟨k, a, c, hk, rfl, rfl, HO, hkr⟩ := hrel
    obtain ⟨c0, c1, c2, c3, c4, c5, _⟩ := HNB.out.kept hkr
    have hge := HC.out.ge (k := k)
    by_cases hle : k ≤ qt
    · have hle2 := HC.out.le hle
      have hnx : N.low + ((k + 1 : Nat) : Int) * N.step = N.low + k * N.step + N.step := by rw [Int.natCast_add, Int.add_mul]; simp; omega
      obtain ⟨a', c', w6, hrun, hO6, hk6⟩ := cyc_grow HO.out HC.out hle hkr.size
      have HR := Hid.mk' hrun
      have HKF : Hid (Kept W w6 none) := HO.out.far hk6 hkr (Nat.le_refl _)
      have HO6 := Hid.mk' hO6
      have HNX := Hid.mk' hnx
      clear hrun hO6 hk6 hnx
      obtain ⟨d0, d1, d2, d3, d4, d5, _⟩ := HNB.out.kept HKF.out
      generalize N.low + (k : Int) * N.step = cy at *
      go_wp2_with (at_builtin; refine wpList_app (by rfl) _ _ _ (by rfl) (by rfl) (by rfl) HR.out ?_)
      go_roundw
      case rel => exact ⟨k + 1, a', c', by omega, by rw [HNX.out], rfl, HO6, HKF.out⟩
      case measure => simp [intOf]; omega
    · have e : k = qt + 1 := by omega
      subst e
      have hlast := HC.out.lt
      have hgt : ¬ N.low + ((qt + 1 : Nat) : Int) * N.step ≤ N.high := by omega
      generalize N.low + ((qt + 1 : Nat) : Int) * N.step = cy at *
      go_wp2
      go_ret2
      obtain ⟨a2, c2', e, hI, hb⟩ := HO.out.ints (cycK_rng HC.out (Nat.le_refl _))
      rw [cycK_len] at e hI
      injection e with e1 e2 e3
      subst e1 e3
      exact ⟨a, c, rfl, hI, fun b hb' => Nat.le_trans HK.out.size (hb b hb').1, HK.out.tr hkr⟩

end Go.Proofs.YtoahbpdgbiachaaDoor

/-
  THE DOCUMENT'S OWN ANSWER: the sub of a site, the site of an Id, the cycles.
-/
namespace Go.Proofs.YtoahbpdgbiachaaDoor
open Go.RowKit Go.Lib Go.Deep
set_option linter.unusedVariables false
set_option linter.unusedSimpArgs false

/-- The first of many that has something; -1: none has it. -/
def firstB (n : Nat) (p : Nat → Bool) (r : Int) : Prop := (∃ k : Nat, k < n ∧ p k = true ∧ (∀ j, j < k → p j = false) ∧ r = k) ∨ ((∀ j, j < n → p j = false) ∧ r = -1)
set_option maxRecDepth 100000 in
set_option maxHeartbeats 4000000 in
theorem rsub6_any {Y : Na} {N : Nt} {w : World} (h : NetAt w Y N) (x : Int) : Calls Tryd.prog 18 #[netV Y N, .int .i64 x] w fun e w' => ∃ r, e = .returned (.int .i64 r) ∧ firstB N.subs.length (fun i => decide (x ∈ (N.subs.getD i u0).sites)) r ∧ Kept w w' none := by
  have hkA : Kept w (w.alloc (.cells #[.slice Y.s N.sites.length Y.sc, .slice Y.u N.subs.length Y.uc, .slice Y.d N.weds.length Y.dc, .int .i64 N.low, .int .i64 N.high, .int .i64 N.step] 26)) none := Kept.alloc _ _ _ _ _
  have HNB := Hid.mk' (nbx_alloc h 26)
  have HK := Hid.mk' hkA
  have hs9 : N.sites.length ≤ 9223372036854775807 := by have := h.sk.room; have := h.sk.max; omega
  have hu9 : N.subs.length ≤ 9223372036854775807 := by have := h.uk.room; have := h.uk.max; omega
  clear h hkA
  go_enter Tryd.func18, Tryd.ntmps18
  go_wp2
  generalize hW : (w.alloc (.cells #[.slice Y.s N.sites.length Y.sc, .slice Y.u N.subs.length Y.uc, .slice Y.d N.weds.length Y.dc, .int .i64 N.low, .int .i64 N.high, .int .i64 N.step] 26)) = W at *
  clear hW
  go_loopw [5] (fun i wr => ∃ k : Nat, k ≤ N.subs.length ∧ i = .int .i64 k ∧ Hid (∀ j, j < k → decide (x ∈ (N.subs.getD j u0).sites) = false) ∧ wr = W) (fun i _ => N.subs.length - (intOf i).toNat)
  case atStart => exact ⟨0, Nat.zero_le _, rfl, (fun j hj => by omega), rfl⟩
  case round =>
    obtain ⟨k, hk, rfl, HJ, rfl⟩ := hrel
    have c1 := HNB.out.c1
    by_cases hlt : k < N.subs.length
    · obtain ⟨ub, uo, eu, _, hc⟩ := HNB.out.net.u1.at_ (by omega)
      rw [eu] at c1
      have e0 := hc k hlt 0 (by omega)
      have HI := Hid.mk' (HNB.out.net.u2 k hlt)
      clear hc eu
      dsimp only [sbV, Nat.add_zero] at e0
      cases hb : decide (x ∈ (N.subs.getD k u0).sites) with
      | true =>
        have HB : Hid ((fun i => decide (x ∈ (N.subs.getD i u0).sites)) k = true) := hb
        generalize (N.subs.getD k u0).sites = l at *
        go_wp2_with (go_at_call 41; refine (rhas6_is HI.out (by assumption)).mono ?_; rintro e w9 ⟨rfl, rfl⟩)
        go_ret
        exact ⟨k, rfl, .inl ⟨k, hlt, HB.out, HJ.out, rfl⟩, HK.out⟩
      | false =>
        have HB : Hid (∀ j, j < k + 1 → decide (x ∈ (N.subs.getD j u0).sites) = false) := fun j hj => by
          by_cases e : j = k
          · rw [e]; exact hb
          · exact HJ.out j (by omega)
        generalize (N.subs.getD k u0).sites = l at *
        go_wp2_with (go_at_call 41; refine (rhas6_is HI.out (by assumption)).mono ?_; rintro e w9 ⟨rfl, rfl⟩)
        go_roundw
        case rel => exact ⟨k + 1, by omega, by go_num, HB, trivial⟩
        case measure => simp [intOf]; omega
    · have e : k = N.subs.length := by omega
      subst e
      go_wp2
      go_ret
      exact ⟨-1, rfl, .inr ⟨HJ.out, rfl⟩, HK.out⟩
set_option maxRecDepth 100000 in
set_option maxHeartbeats 4000000 in
theorem rsite6_any {Y : Na} {N : Nt} {w : World} (h : NetAt w Y N) (x : Int) : Calls Tryd.prog 19 #[netV Y N, .int .i64 x] w fun e w' => ∃ r, e = .returned (.int .i64 r) ∧ firstB N.sites.length (fun i => decide ((N.sites.getD i s0).id = x)) r ∧ Kept w w' none := by
  have hkA : Kept w (w.alloc (.cells #[.slice Y.s N.sites.length Y.sc, .slice Y.u N.subs.length Y.uc, .slice Y.d N.weds.length Y.dc, .int .i64 N.low, .int .i64 N.high, .int .i64 N.step] 26)) none := Kept.alloc _ _ _ _ _
  have HNB := Hid.mk' (nbx_alloc h 26)
  have HK := Hid.mk' hkA
  have hs9 : N.sites.length ≤ 9223372036854775807 := by have := h.sk.room; have := h.sk.max; omega
  have hu9 : N.subs.length ≤ 9223372036854775807 := by have := h.uk.room; have := h.uk.max; omega
  clear h hkA
  go_enter Tryd.func19, Tryd.ntmps19
  go_wp2
  generalize hW : (w.alloc (.cells #[.slice Y.s N.sites.length Y.sc, .slice Y.u N.subs.length Y.uc, .slice Y.d N.weds.length Y.dc, .int .i64 N.low, .int .i64 N.high, .int .i64 N.step] 26)) = W at *
  clear hW
  go_loopw [5] (fun i wr => ∃ k : Nat, k ≤ N.sites.length ∧ i = .int .i64 k ∧ Hid (∀ j, j < k → decide ((N.sites.getD j s0).id = x) = false) ∧ wr = W) (fun i _ => N.sites.length - (intOf i).toNat)
  case atStart => exact ⟨0, Nat.zero_le _, rfl, (fun j hj => by omega), rfl⟩
  case round =>
    obtain ⟨k, hk, rfl, HJ, rfl⟩ := hrel
    have c0 := HNB.out.c0
    by_cases hlt : k < N.sites.length
    · obtain ⟨sb, so, es, _, hc⟩ := HNB.out.net.s1.at_ (by omega)
      rw [es] at c0
      have e0 := hc k hlt 0 (by omega)
      clear hc es
      dsimp only [stV, Nat.add_zero] at e0
      obtain ⟨y, hy⟩ : ∃ y, (N.sites.getD k s0).id = y := ⟨_, rfl⟩
      rw [hy] at e0
      have HY := Hid.mk' hy
      clear hy
      by_cases hxy : y = x
      · subst hxy
        go_wp2
        go_ret
        exact ⟨k, rfl, .inl ⟨k, hlt, decide_eq_true HY.out, HJ.out, rfl⟩, HK.out⟩
      · go_wp2
        go_roundw
        case rel => exact ⟨k + 1, by omega, by go_num, (fun j hj => (by
          by_cases e : j = k
          · rw [e]; exact decide_eq_false (by rw [HY.out]; exact hxy)
          · exact HJ.out j (by omega))), trivial⟩
        case measure => simp [intOf]; omega
    · have e : k = N.sites.length := by omega
      subst e
      go_wp2
      go_ret
      exact ⟨-1, rfl, .inr ⟨HJ.out, rfl⟩, HK.out⟩
set_option maxRecDepth 100000 in
set_option maxHeartbeats 4000000 in
theorem rcycles6_any {Y : Na} {N : Nt} {w : World} {qt : Nat} (h : NetAt w Y N) (hC : Cyc N qt) : Calls Tryd.prog 21 #[netV Y N] w fun e w' => ∃ a c, e = .returned (.slice a (qt + 1 : Nat) c) ∧ Ints w' a (qt + 1) c (cycK N (qt + 1)) ∧ Kept w w' none := by
  have HC := Hid.mk' hC
  have hl := hC.low
  have hh := hC.high
  have hst := hC.step
  have hf := hC.few
  clear hC
  have hkA : Kept w (w.alloc (.cells #[.slice Y.s N.sites.length Y.sc, .slice Y.u N.subs.length Y.uc, .slice Y.d N.weds.length Y.dc, .int .i64 N.low, .int .i64 N.high, .int .i64 N.step] 26)) none := Kept.alloc _ _ _ _ _
  have HNB := Hid.mk' (nbx_alloc h 26)
  have HK := Hid.mk' hkA
  have hs9 : N.sites.length ≤ 9223372036854775807 := by have := h.sk.room; have := h.sk.max; omega
  have hu9 : N.subs.length ≤ 9223372036854775807 := by have := h.uk.room; have := h.uk.max; omega
  clear h hkA
  go_enter Tryd.func21, Tryd.ntmps21
  go_wp2
  generalize hW : (w.alloc (.cells #[.slice Y.s N.sites.length Y.sc, .slice Y.u N.subs.length Y.uc, .slice Y.d N.weds.length Y.dc, .int .i64 N.low, .int .i64 N.high, .int .i64 N.step] 26)) = W at *
  clear hW
  go_loopw [3, 4] (fun v cy wr => ∃ (k : Nat) (a : Option Addr) (c : Nat), k ≤ qt + 1 ∧ cy = .int .i64 (N.low + k * N.step) ∧ v = .slice a k c ∧ Hid (OwI wr W.heap.size (.slice a k c) (cycK N k)) ∧ Kept W wr none) (fun _ cy _ => (N.high + N.step - intOf cy).toNat)
  case atStart => exact ⟨0, none, 0, Nat.zero_le _, by simp, rfl, OwI.nil _ _, Kept.refl _ _⟩
  case round =>
    obtain ⟨k, a, c, hk, rfl, rfl, HO, hkr⟩ := hrel
    obtain ⟨c0, c1, c2, c3, c4, c5, _⟩ := HNB.out.kept hkr
    have hge := HC.out.ge (k := k)
    by_cases hle : k ≤ qt
    · have hle2 := HC.out.le hle
      have hnx : N.low + ((k + 1 : Nat) : Int) * N.step = N.low + k * N.step + N.step := by rw [Int.natCast_add, Int.add_mul]; simp; omega
      obtain ⟨a', c', w6, hrun, hO6, hk6⟩ := cyc_grow HO.out HC.out hle hkr.size
      have HR := Hid.mk' hrun
      have HKF : Hid (Kept W w6 none) := HO.out.far hk6 hkr (Nat.le_refl _)
      have HO6 := Hid.mk' hO6
      have HNX := Hid.mk' hnx
      clear hrun hO6 hk6 hnx
      obtain ⟨d0, d1, d2, d3, d4, d5, _⟩ := HNB.out.kept HKF.out
      generalize N.low + (k : Int) * N.step = cy at *
      go_wp2_with (at_builtin; refine wpList_app (by rfl) _ _ _ (by rfl) (by rfl) (by rfl) HR.out ?_)
      go_roundw
      case rel => exact ⟨k + 1, a', c', by omega, by rw [HNX.out], rfl, HO6, HKF.out⟩
      case measure => simp [intOf]; omega
    · have e : k = qt + 1 := by omega
      subst e
      have hlast := HC.out.lt
      have hgt : ¬ N.low + ((qt + 1 : Nat) : Int) * N.step ≤ N.high := by omega
      generalize N.low + ((qt + 1 : Nat) : Int) * N.step = cy at *
      go_wp2
      go_ret
      obtain ⟨a2, c2', e, hI, hb⟩ := HO.out.ints (cycK_rng HC.out (Nat.le_refl _))
      rw [cycK_len] at e hI
      injection e with e1 e2 e3
      subst e1 e3
      exact ⟨a, c, rfl, hI, HK.out.tr hkr⟩

end Go.Proofs.YtoahbpdgbiachaaDoor

/-
  TwinPlans: plans in new memory are the same plans.
-/
namespace Go.Proofs.YtoahbpdgbiachaaDoor
open Go.RowKit Go.Lib Go.Deep
set_option linter.unusedVariables false
set_option linter.unusedSimpArgs false

theorem Lie.ltrA {lo : Nat} {w w' : World} {a : Option Addr} {n k : Nat} {f : Nat → Nat → Value} (h : Lie w a n k f) (q : LtrZ lo w w') (hl : ∀ b, a = some b → lo ≤ b.block) : Lie w' a n k f :=
  ⟨fun hp => by
    obtain ⟨b, off, rfl, hb, hc⟩ := h.at_ hp
    exact ⟨b, off, rfl, Nat.lt_of_lt_of_le hb q.size, fun i hi j hj => q.cell (hc i hi j hj) (hl _ rfl)⟩⟩
theorem Ints.ltrA {lo : Nat} {w w' : World} {a : Option Addr} {n c : Nat} {l : List Int} (h : Ints w a n c l) (q : LtrZ lo w w') (hl : ∀ b, a = some b → lo ≤ b.block) : Ints w' a n c l := ⟨h.lie.ltrA q hl, h.size, h.cap, h.rng⟩
def TwP (w : World) (l : List Pl) (n : Nat) (e : Ending) (w' : World) : Prop := ∃ a' c', e = .returned (.slice a' n c') ∧ (∀ w'', LtrZ w.heap.size w' w'' → Plans w'' a' n c' l) ∧ Kept w w' none
theorem Tp.start (w : World) (l : List Pl) : Tp w l w 0 (.slice none 0 0) := ⟨⟨fun _ => (none, 0), World.ownsRow_nil _ _ _ _, fun i hi => by omega, fun i hi => by omega⟩, Kept.refl _ _⟩
theorem Tp.done {w wr : World} {l : List Pl} {n : Nat} {v : Value} (h : Tp w l wr n v) (hl : l.length = n) (hr : ∀ p ∈ l, i64B p.cycle ∧ i64B p.offset) : TwP w l n (.returned v) wr := by
  obtain ⟨⟨r, ho, hi, hb⟩, hk⟩ := h
  obtain ⟨a', cap, rfl, h1, h2, h3⟩ := lie_own (by omega) ho
  exact ⟨a', cap, rfl, fun w'' q => ⟨⟨r, h1.ltrA q (fun b e => (h3 b e).1), fun i hin => (hi i hin).ltrA q (fun b e => (hb i hin b e).2.2)⟩, hl, h2, hr⟩, hk⟩
set_option maxRecDepth 100000 in
set_option maxHeartbeats 4000000 in
theorem twinPlans_any {w : World} {a : Option Addr} {n c : Nat} {l : List Pl} (hP : Plans w a n c l) (hn : n ≤ 40) (hs : ∀ i, i < n → (l.getD i q0).splits.length ≤ 40) : Calls Tryd.prog 61 #[.slice a n c] w fun e w' => TwP w l n e w' := by
  have HP := Hid.mk' hP
  have HS := Hid.mk' hs
  have HLN := Hid.mk' hP.size
  have HRG := Hid.mk' hP.rng
  clear hP hs
  go_enter Tryd.func61, Tryd.ntmps61
  go_wp2
  go_loopw [3, 4] (fun v i wr => ∃ k : Nat, k ≤ n ∧ i = .int .i64 k ∧ Hid (Tp w l wr k v)) (fun _ i _ => n - (intOf i).toNat)
  case atStart => exact ⟨0, Nat.zero_le _, rfl, Tp.start w l⟩
  case round =>
    obtain ⟨k, hk, rfl, HT⟩ := hrel
    by_cases hlt : k < n
    case neg =>
      have e : k = n := by omega
      subst e
      go_wp2
      go_ret
      exact HT.out.done HLN.out HRG.out
    obtain ⟨b, off, ar, cr, ea, p0, p1, p2, hI⟩ := (HP.out.kept HT.out.kept).at_ hlt
    subst ea
    have hm := HS.out k hlt
    have hbl := block_lt p0
    obtain ⟨i0, hi0, hz0, hz1, hz2⟩ := info_parts Tryd.infoIn
    obtain ⟨a', cap, W2, hrun, h1, h2, h3, h4⟩ := twin_run (w := wr.alloc (plB (l.getD k q0) ar cr)) (ty := 31) Tryd.uIns hi0 hz0 hz1 hz2 rfl (by omega) (by omega) (hI.kept (Kept.alloc wr _ _ _ _)).lie hI.cap (by omega) (fun i j => rfl)
    have hJ : Ints W2 a' (l.getD k q0).splits.length cap (l.getD k q0).splits := ⟨h1, rfl, h2, hI.rng⟩
    obtain ⟨v', W5, hrun2, hT5⟩ := HT.out.step (by omega) h4 hJ (fun b e => (h3 b e).1) (fun b e => (h3 b e).2)
    have HT5 := Hid.mk' hT5
    have HR1 := Hid.mk' hrun
    have HR2 := Hid.mk' hrun2
    have hk4 := h4
    have z2 : wr.heap.size + 1 ≤ W2.heap.size := by have := h4.size; simpa using this
    have q0' : W2.cell? ⟨wr.heap.size, 0, none⟩ = some (.int .i64 (l.getD k q0).cycle) := cell_kept0 (by simp [World.cell?_alloc_mark]) h4
    have q1' : W2.cell? ⟨wr.heap.size, 1, none⟩ = some (.int .i64 (l.getD k q0).offset) := cell_kept0 (by simp [World.cell?_alloc_mark]) h4
    have q2' : W2.cell? ⟨wr.heap.size, 2, none⟩ = some (.slice ar (l.getD k q0).splits.length cr) := cell_kept0 (by simp [World.cell?_alloc_mark]) h4
    have qf : W2.frozen? ⟨wr.heap.size, 2, none⟩ = false := (frozen_blockZ (h4.block _ (by simp) (by simp))).trans (by go_simp)
    clear hI h1 h2 h3 h4 hJ hT5 hrun hrun2 hk4
    generalize l.getD k q0 = p at *
    go_wp2_with (first
      | (have hgo := hdone; clear hgo; at_builtin; refine wpList_app (by rfl) _ _ _ (by rfl) (by rfl) (by rfl) HR2.out ?_)
      | (at_builtin; refine wpList_app (by rfl) _ _ _ (by rfl) (by rfl) (by rfl) HR1.out ?_; have hdone := trivial))
    go_roundw
    case rel => exact ⟨k + 1, by omega, by go_num, HT5⟩
    case measure => simp [intOf]; omega

end Go.Proofs.YtoahbpdgbiachaaDoor

/-
  A SITE IN NEW MEMORY, what lies where.
-/
namespace Go.Proofs.YtoahbpdgbiachaaDoor
open Go.RowKit Go.Lib Go.Deep
set_option linter.unusedVariables false
set_option linter.unusedSimpArgs false

theorem Tryd.infoGr : (Tryd.prog.info? 64).map (fun i => (i.zero, i.size, i.bytes)) = some (some (.agg #[.int .u8 0, .int .i64 0, .int .i64 0]), 3, 24) := by kernel_rfl
theorem Tryd.infoU3 : (Tryd.prog.info? 65).map (fun i => (i.zero, i.size, i.bytes)) = some (some (.int .u32 0), 1, 4) := by kernel_rfl
theorem Tryd.infoPh : (Tryd.prog.info? 67).map (fun i => (i.zero, i.size, i.bytes)) = some (some (.agg #[.int .u32 0, .int .i64 0, .int .i64 0, .int .i64 0, .bool false]), 5, 40) := by kernel_rfl
theorem Tryd.infoEy : (Tryd.prog.info? 116).map (fun i => (i.zero, i.size, i.bytes)) = some (some (.agg #[.int .i64 0, .int .i64 0, .int .i64 0, .int .i64 0]), 4, 32) := by kernel_rfl
theorem Tryd.infoSl : (Tryd.prog.info? 31).map (fun i => (i.zero, i.size, i.bytes)) = some (some (.slice none 0 0), 1, 24) := by kernel_rfl
theorem Tryd.uGrs : Tryd.prog.underlying 41 = some (.slice 64) := by kernel_rfl
theorem Tryd.uU3s : Tryd.prog.underlying 42 = some (.slice 65) := by kernel_rfl
theorem Tryd.uPhs : Tryd.prog.underlying 44 = some (.slice 67) := by kernel_rfl
theorem Tryd.uEys : Tryd.prog.underlying 45 = some (.slice 116) := by kernel_rfl
theorem Tryd.uSls : Tryd.prog.underlying 43 = some (.slice 31) := by kernel_rfl

abbrev cS (X : Sa) (S : St) : Array Value := #[.int .i64 S.id, .slice X.g S.groups.length X.gc, .slice X.a S.apart.length X.ac, .slice X.b S.between.length X.bc, .slice X.p S.phases.length X.pc, .slice X.e S.eyes.length X.ec, .int .i64 S.watch, .int .i64 S.feed, .int .i64 S.heal, .int .i64 S.low, .int .i64 S.high, .slice X.l S.plans.length X.lc]
/-- The three boxes: the site that came, the answer, the site in new memory. -/
structure Tst (w W : World) (s c : Array Value) : Prop where
  kept : Kept w W none
  sb : W.rowIs w.heap.size 48 12 (fSZ s)
  rb : W.rowIs (w.heap.size + 1) 48 12 (fSZ zSZ)
  tb : W.rowIs (w.heap.size + 1 + 1) 48 12 (fSZ c)
theorem Tst.call {w W W' : World} {s c : Array Value} (h : Tst w W s c) (k : Kept W W' none) : Tst w W' s c := ⟨h.kept.tr k, row_kept h.sb k (by simp), row_kept h.rb k (by simp), row_kept h.tb k (by simp)⟩
theorem Tst.drew {w W : World} {s c : Array Value} (h : Tst w W s c) : Tst w W.drew s c := h.call (Kept.drew _ _)
theorem kept_far {w W W' : World} {g : Nat} (h : Kept w W none) (k : Kept W W' (some g)) (hg : w.heap.size ≤ g) : Kept w W' none :=
  ⟨k.os.trans h.os, k.tape.trans h.tape, k.output.trans h.output, Nat.le_trans h.size k.size, fun b hb _ => (k.block b (Nat.lt_of_lt_of_le hb h.size) (fun e => by injection e with e; omega)).trans (h.block b hb (by simp))⟩
theorem kept_row {w W W' : World} {r : Option Nat} (h : Kept w W none) (k : Kept W W' r) (hr : ∀ g, r = some g → w.heap.size ≤ g) : Kept w W' none :=
  ⟨k.os.trans h.os, k.tape.trans h.tape, k.output.trans h.output, Nat.le_trans h.size k.size, fun b hb _ => (k.block b (Nat.lt_of_lt_of_le hb h.size) (fun e => by have := hr b e.symm; omega)).trans (h.block b hb (by simp))⟩
theorem Tst.grow {w W W' : World} {s c : Array Value} {r : Option Nat} (h : Tst w W s c) (k : Kept W W' r) (hr : ∀ g, r = some g → w.heap.size + 1 + 1 < g) : Tst w W' s c :=
  ⟨kept_row h.kept k (fun g e => by have := hr g e; omega), row_kept h.sb k (fun e => by have := hr _ e.symm; omega), row_kept h.rb k (fun e => by have := hr _ e.symm; omega), row_kept h.tb k (fun e => by have := hr _ e.symm; omega)⟩
theorem Tst.put {w W : World} {s c : Array Value} (h : Tst w W s c) (j : Nat) (v : Value) (hj : j < c.size) : Tst w (W.setCell ⟨w.heap.size + 1 + 1, j, none⟩ v) s (c.setIfInBounds j v) :=
  ⟨kept_newZ h.kept (by omega) j v, h.sb.setOther (by show _ ≠ w.heap.size + 1 + 1; omega) v, h.rb.setOther (by show _ ≠ w.heap.size + 1 + 1; omega) v, (h.tb.set j v).congr (fun i _ => fSZ_set c j v hj i)⟩
/-- A list in new memory. -/
structure Nl (w W : World) (a : Option Addr) (n k : Nat) (f : Nat → Nat → Value) : Prop where
  lie : Lie W a n k f
  new : ∀ b, a = some b → w.heap.size + 1 + 1 < b.block ∧ b.block < W.heap.size
theorem Nl.kept {w W W' : World} {r : Option Nat} {a : Option Addr} {n k : Nat} {f : Nat → Nat → Value} (h : Nl w W a n k f) (q : Kept W W' r) (hr : ∀ g, r = some g → g = w.heap.size + 1 + 1 ∨ ∀ b, a = some b → b.block ≠ g) : Nl w W' a n k f :=
  ⟨⟨fun hp => by
    obtain ⟨b, off, rfl, hb, hc⟩ := h.lie.at_ hp
    refine ⟨b, off, rfl, Nat.lt_of_lt_of_le hb q.size, fun i hi j hj => cell_keptR (hc i hi j hj) q (fun e => ?_)⟩
    rcases hr b e.symm with h1 | h1
    · have := (h.new _ rfl).1; simp only at this; omega
    · exact h1 _ rfl rfl⟩, fun b e => ⟨(h.new b e).1, Nat.lt_of_lt_of_le (h.new b e).2 q.size⟩⟩
theorem Nl.kept0 {w W W' : World} {a : Option Addr} {n k : Nat} {f : Nat → Nat → Value} (h : Nl w W a n k f) (q : Kept W W' none) : Nl w W' a n k f := h.kept q (fun g e => nomatch e)
theorem Nl.put {w W : World} {a : Option Addr} {n k : Nat} {f : Nat → Nat → Value} (h : Nl w W a n k f) (j : Nat) (v : Value) : Nl w (W.setCell ⟨w.heap.size + 1 + 1, j, none⟩ v) a n k f := h.kept (kept_setZ _ _ _ _) (fun g e => .inl (by injection e with e; exact e.symm))
theorem wp_app {o : Oper} {act : Act} {K : Act → World → Prop} {Q : Exit → Act → World → Prop} {w w' : World} {v u v' : Value} (s x : Operand) (t : TypeId) (ho : o.op = .call { callee := .builtin .append, args := #[s, x], argTypes := #[t, t] }) (hs : act.eval s = v) (hx : act.eval x = u)
    (hr : (Builtin.append_ #[t, t] o.type #[v, u]).run Tryd.prog w = .ok v' w') (h : K (act.put o.dst v') w') : o.wp Tryd.prog act w K Q := by
  unfold Oper.wp execOp
  simp only [ho, resolve, invoke, builtin, Sem.run_bind, Sem.run_pure, Result.andThen_ok, List.map_toArray, List.map_cons, List.map_nil, hs, hx, hr]
  exact h
def Rw (A : Act) (W : World) (e : Exit) (a : Act) (w : World) : Prop := match e with
  | .normal => a = A ∧ w = W
  | _ => False
theorem Rw.out {A : Act} {W w : World} {e : Exit} {a : Act} (h : Rw A W e a w) : e = .normal ∧ a = A ∧ w = W := by
  cases e with
  | normal => exact ⟨rfl, h.1, h.2⟩
  | _ => exact h.elim
/-- As many rows as were met lie in new memory. -/
structure Tg (w W : World) (l : List (List Int)) (k : Nat) (v : Value) : Prop where
  ex : ∃ r : Nat → Option Addr × Nat, W.ownsRow (w.heap.size + 1 + 1 + 1) 31 1 v k (cellsL k 1 (fun i _ => .slice (r i).1 (l.getD i []).length (r i).2)) ∧ (∀ i, i < k → Ints W (r i).1 (l.getD i []).length (r i).2 (l.getD i [])) ∧ (∀ i, i < k → ∀ b, (r i).1 = some b → v.ownBlock ≠ some b.block ∧ b.block < W.heap.size ∧ w.heap.size + 1 + 1 < b.block)
theorem Tg.start (w W : World) (l : List (List Int)) : Tg w W l 0 (.slice none 0 0) := ⟨⟨fun _ => (none, 0), World.ownsRow_nil _ _ _ _, fun i hi => by omega, fun i hi => by omega⟩⟩
theorem Tg.kept {w W W' : World} {l : List (List Int)} {k : Nat} {v : Value} {r : Option Nat} (h : Tg w W l k v) (q : Kept W W' r) (hr : ∀ g, r = some g → g = w.heap.size + 1 + 1) : Tg w W' l k v := by
  obtain ⟨rr, h1, h2, h3⟩ := h
  refine ⟨rr, own_keptR' h1 q (fun g hg e => ?_), fun i hi => (h2 i hi).keptS q (fun b e ec => ?_), fun i hi b e => ⟨(h3 i hi b e).1, Nat.lt_of_lt_of_le (h3 i hi b e).2.1 q.size, (h3 i hi b e).2.2⟩⟩
  · have := (own_lt h1 g hg).1
    have := hr g e.symm
    omega
  · have := (h3 i hi b e).2.2
    have := hr _ ec.symm
    omega
theorem Tg.kept0 {w W W' : World} {l : List (List Int)} {k : Nat} {v : Value} (h : Tg w W l k v) (q : Kept W W' none) : Tg w W' l k v := h.kept q (fun g e => nomatch e)
theorem Tg.put {w W : World} {l : List (List Int)} {k : Nat} {v : Value} (h : Tg w W l k v) (j : Nat) (u : Value) : Tg w (W.setCell ⟨w.heap.size + 1 + 1, j, none⟩ u) l k v := h.kept (kept_setZ _ _ _ _) (fun g e => by injection e with e; exact e.symm)
theorem Tg.done {w W W' : World} {l : List (List Int)} {n c : Nat} {a : Option Addr} (h : Tg w W l n (.slice a n c)) (hl : l.length = n) (q : LtrZ (w.heap.size + 1 + 1 + 1) W W') : Grid W' a n c l := by
  obtain ⟨r, ho, hi, hb⟩ := h
  obtain ⟨a', cap, e, h1, h2, h3⟩ := lie_own (by omega) ho
  injection e with e1 e2 e3
  subst e1 e3
  exact ⟨⟨r, h1.ltrA q (fun b e => (h3 b e).1), fun i hin => (hi i hin).ltrA q (fun b e => by have := (hb i hin b e).2.2; omega)⟩, hl, h2⟩
theorem Nl.ltr {w W W' : World} {a : Option Addr} {n k : Nat} {f : Nat → Nat → Value} (h : Nl w W a n k f) (q : LtrZ (w.heap.size + 1 + 1 + 1) W W') : Lie W' a n k f := h.lie.ltrA q (fun b e => by have := (h.new b e).1; omega)
theorem Tg.shape {w W : World} {l : List (List Int)} {n : Nat} {v : Value} (h : Tg w W l n v) : ∃ a c, v = .slice a n c := by
  obtain ⟨r, ho, hi, _⟩ := h
  obtain ⟨a', cap, rfl, h1, h2, _⟩ := lie_own (by omega) ho
  exact ⟨a', cap, rfl⟩
abbrev slB (a : Option Addr) (m c : Nat) : Obj := .cells #[.slice a m c] 31
theorem Tg.step {w W W2 : World} {l : List (List Int)} {k : Nat} {v : Value} {a' : Option Addr} {cap : Nat} (h : Tg w W l k v) (hk : k ≤ 40) (hw : w.heap.size + 1 + 1 < W.heap.size)
    (h2 : Kept W W2 none) (hI : Ints W2 a' (l.getD k []).length cap (l.getD k [])) (hf : ∀ b, a' = some b → W.heap.size ≤ b.block ∧ b.block < W2.heap.size) :
    ∃ v' W5, (Builtin.append_ #[43, 43] 43 #[v, .slice (some ⟨W2.heap.size, 0, none⟩) 1 1]).run Tryd.prog (W2.alloc (slB a' (l.getD k []).length cap)) = .ok v' W5 ∧ Tg w W5 l (k + 1) v' ∧ Kept (W2.alloc (slB a' (l.getD k []).length cap)) W5 v.ownBlock ∧ (v'.ownBlock = v.ownBlock ∨ v'.ownBlock = some (W2.heap.size + 1)) := by
  obtain ⟨r, ho, hi, hb⟩ := h.ex
  obtain ⟨i0, hi0, hz0, hz1, hz2⟩ := info_parts Tryd.infoSl
  generalize hp : l.getD k [] = p at *
  have k4 : Kept W2 (W2.alloc (slB a' p.length cap)) none := Kept.alloc _ _ _ _ _
  have z4 : (W2.alloc (slB a' p.length cap)).heap.size = W2.heap.size + 1 := by simp
  have s2 := h2.size
  have q0' : ∀ j, j < 1 → (W2.alloc (slB a' p.length cap)).cell? ⟨W2.heap.size, 0 + j, none⟩ = some (.slice a' p.length cap) := fun j hj => by
    have : j = 0 := by omega
    subst this
    exact alloc_at2 _ _ _ rfl rfl
  generalize (W2.alloc (slB a' p.length cap)) = W4 at *
  have hol := own_lt ho
  have own4 := own_keptR' (own_keptR' ho h2 (fun g _ => by simp)) k4 (fun g _ => by simp)
  obtain ⟨v', W5, hr, g1, g2, g3⟩ := grow_run (t := 43) (ty := 43) (c := 1) Tryd.uSls hi0 hz0 hz1 hz2 rfl (by omega) (by omega) own4 q0' (fun j => rfl) (by omega) (by omega)
  have vfr : ∀ g, v'.ownBlock = some g → v.ownBlock = some g ∨ g = W4.heap.size := fun g hg => by
    rcases g3 with e | e
    · exact .inl (e.symm.trans hg)
    · rw [e] at hg; injection hg with hg; exact .inr hg.symm
  refine ⟨v', W5, hr, ⟨fun i => if i = k then (a', cap) else r i, ?_, fun i hik => ?_, fun i hik b e => ?_⟩, g2, by rw [← z4]; exact g3⟩
  · have he : cellsL (k + 1) 1 (fun i j => if i = k then .slice a' p.length cap else .slice (r i).1 (l.getD i []).length (r i).2) = cellsL (k + 1) 1 (fun i _ => .slice ((if i = k then (a', cap) else r i) : Option Addr × Nat).1 (l.getD i []).length ((if i = k then (a', cap) else r i) : Option Addr × Nat).2) := by
      unfold cellsL
      refine List.map_congr_left fun q _ => ?_
      show (if q / 1 = k then Value.slice a' p.length cap else .slice (r (q / 1)).1 (l.getD (q / 1) []).length (r (q / 1)).2) = .slice ((if q / 1 = k then (a', cap) else r (q / 1)) : Option Addr × Nat).1 (l.getD (q / 1) []).length ((if q / 1 = k then (a', cap) else r (q / 1)) : Option Addr × Nat).2
      by_cases e : q / 1 = k
      · rw [if_pos e, if_pos e, e, hp]
      · rw [if_neg e, if_neg e]
    rw [← he]
    exact g1
  · show Ints W5 ((if i = k then (a', cap) else r i) : Option Addr × Nat).1 (l.getD i []).length ((if i = k then (a', cap) else r i) : Option Addr × Nat).2 (l.getD i [])
    by_cases e : i = k
    · rw [if_pos e, e, hp]
      refine (hI.kept k4).keptS g2 (fun b eb ec => ?_)
      have := (hf b eb).1
      have h7 := (hol _ ec.symm).2
      omega
    · rw [if_neg e]
      refine (((hi i (by omega)).kept h2).kept k4).keptS g2 (fun b eb ec => ?_)
      exact (hb i (by omega) b eb).1 ec.symm
  · have s5 := g2.size
    change ((if i = k then (a', cap) else r i) : Option Addr × Nat).1 = some b at e
    by_cases ek : i = k
    · rw [if_pos ek] at e
      have h6 := hf b e
      refine ⟨fun ec => ?_, by omega, by omega⟩
      rcases vfr _ ec with h7 | h7
      · have := (hol _ h7).2
        omega
      · omega
    · rw [if_neg ek] at e
      have h6 := hb i (by omega) b e
      refine ⟨fun ec => ?_, by omega, h6.2.2⟩
      rcases vfr _ ec with h7 | h7
      · exact h6.1 h7
      · omega

end Go.Proofs.YtoahbpdgbiachaaDoor

