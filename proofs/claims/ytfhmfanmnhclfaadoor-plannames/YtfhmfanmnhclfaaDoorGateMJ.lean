/-
  Texts joined: some of those that the proofs of this seat stand on.
-/
import Derived.Test.YtfhmfanmnhclfaaDoorSafeHJ
import Derived.Test.YtfhmfanmnhclfaaDoorApartM
import Derived.Test.YtfhmfanmnhclfaaDoorFitsJ
import Derived.Test.YtfhmfanmnhclfaaDoorSafeCJ
/-
  WHAT IS LET THROUGH, in numbers: which standings go on, what is let through of what is asked, that it has no fault and that what has none is let through as it is; no text of the program.
-/
namespace Go.Proofs.YtfhmfanmnhclfaaDoor
open Go.RowKit Go.Lib Go.Deep
set_option linter.unusedVariables false
set_option linter.unusedSimpArgs false

theorem want_may9 (m y a s q : Int) (ha : 1 ≤ a ∧ a ≤ 3) : mayV m y a s (wantV m y a s q) = 0 := by
  unfold mayV wantV
  repeat' split
  all_goals first | rfl | omega
theorem may_want9 (m y a s q : Int) (ha : 1 ≤ a ∧ a ≤ 3) (h : mayV m y a s q = 0) : wantV m y a s q = q := by
  unfold mayV at h; unfold wantV
  repeat' split at h
  all_goals (repeat' split)
  all_goals first | omega | (exfalso; omega)
/-- An aspect that a group may show in a standing that goes on. -/
def aspG (F : Sf) (a : Nat) : Bool := if F.flashed = true then a == 4 else if 0 < F.start then a == 1 else (a == 1 || (a == 2 || a == 3))
def goesV (S : St) (F : Sf) : Bool := mayS S F && allB F.groups.length (fun i => aspG F (F.g i).asp)
/-- What lamp.Want tells of each group. -/
def wantN (S : St) (F : Sf) (A : List Nat) (i : Nat) : Nat := (wantV (S.gr i).min (S.gr i).yellow (F.g i).asp (F.g i).since (lg A i)).toNat
def w1F (S : St) (F : Sf) (A : List Nat) (i : Nat) : Nat := if (F.g i).asp = 1 then 1 else wantN S F A i
def barB (S : St) (F : Sf) (f : Nat → Nat) (it that : Nat) : Bool := (S.ap it).testBit that && (!(f that == 1) || decide ((F.g that).ended < S.bt that it))
def openB (S : St) (F : Sf) (n : Nat) (f : Nat → Nat) (it : Nat) : Bool := allB n (fun j => !barB S F f it j)
/-- Behind the first k of the second pass. -/
def turnB (S : St) (F : Sf) (A : List Nat) (n : Nat) (f : Nat → Nat) (k : Nat) : Bool := ((F.g k).asp == 1) && ((lg A k == 2) && openB S F n f k)
def p2F (S : St) (F : Sf) (A : List Nat) (n : Nat) : Nat → Nat → Nat
  | 0, j => w1F S F A j
  | k + 1, j => if j = k ∧ turnB S F A n (p2F S F A n k) k = true then 2 else p2F S F A n k j
def letF (S : St) (F : Sf) (A : List Nat) (j : Nat) : Nat := if allIs A 4 = true then 4 else if F.flashed = true ∨ 0 < F.start then 1 else p2F S F A A.length A.length j
def letV (S : St) (F : Sf) (A : List Nat) : List Nat := (List.range A.length).map (letF S F A)
theorem letV_len (S : St) (F : Sf) (A : List Nat) : (letV S F A).length = A.length := by simp [letV]
theorem letV_lg {S : St} {F : Sf} {A : List Nat} {i : Nat} (h : i < A.length) : lg (letV S F A) i = letF S F A i := by simp [letV, lg, h]

theorem barB_congr {S : St} {F : Sf} {f g : Nat → Nat} {it that : Nat} (h : f that = g that) : barB S F f it that = barB S F g it that := by unfold barB; rw [h]
theorem openB_congr {S : St} {F : Sf} {n : Nat} {f g : Nat → Nat} {it : Nat} (h : ∀ j, j < n → f j = g j) : openB S F n f it = openB S F n g it := by
  unfold openB
  have : ∀ j, j < n → (!barB S F f it j) = !barB S F g it j := fun j hj => by rw [barB_congr (h j hj)]
  cases e : allB n (fun j => !barB S F g it j) with
  | true => exact allB_iff.2 (fun j hj => (this j hj).trans (allB_iff.1 e j hj))
  | false =>
    cases e2 : allB n (fun j => !barB S F f it j) with
    | false => rfl
    | true =>
      have : allB n (fun j => !barB S F g it j) = true := allB_iff.2 (fun j hj => (this j hj).symm.trans (allB_iff.1 e2 j hj))
      rw [this] at e; cases e
theorem openB_at {S : St} {F : Sf} {n : Nat} {f : Nat → Nat} {it that : Nat} (h : openB S F n f it = true) (ht : that < n) (ha : (S.ap it).testBit that = true) : f that = 1 ∧ S.bt that it ≤ (F.g that).ended := by
  have := allB_iff.1 h that ht
  unfold barB at this
  rw [ha] at this
  simp at this
  exact this

/-! ### The second pass -/
theorem p2F_late {S : St} {F : Sf} {A : List Nat} {n : Nat} : ∀ {k j : Nat}, k ≤ j → p2F S F A n k j = w1F S F A j
  | 0, _, _ => rfl
  | k + 1, j, h => by rw [p2F, if_neg (by rintro ⟨e, _⟩; omega)]; exact p2F_late (by omega)
theorem p2F_other {S : St} {F : Sf} {A : List Nat} {n j : Nat} (h : (F.g j).asp ≠ 1) : ∀ k, p2F S F A n k j = wantN S F A j
  | 0 => by show w1F S F A j = _; unfold w1F; rw [if_neg h]
  | k + 1 => by
    rw [p2F, if_neg]
    · exact p2F_other h k
    · rintro ⟨rfl, e⟩
      unfold turnB at e
      simp at e
      exact h e.1
theorem p2F_stay {S : St} {F : Sf} {A : List Nat} {n : Nat} : ∀ {k j : Nat}, j < k → p2F S F A n k j = p2F S F A n (j + 1) j
  | 0, _, h => by omega
  | k + 1, j, h => by
    by_cases e : j = k
    · subst e; rfl
    · rw [p2F, if_neg (by rintro ⟨e', _⟩; exact e e')]; exact p2F_stay (by omega)
theorem p2F_red {S : St} {F : Sf} {A : List Nat} {n j : Nat} (h : (F.g j).asp = 1) (k : Nat) : (p2F S F A n k j = 1 ∧ (j < k → turnB S F A n (p2F S F A n j) j = false)) ∨ (p2F S F A n k j = 2 ∧ j < k ∧ turnB S F A n (p2F S F A n j) j = true) := by
  by_cases hk : j < k
  · rw [p2F_stay hk]
    cases e : turnB S F A n (p2F S F A n j) j with
    | true => exact .inr ⟨by rw [p2F, if_pos ⟨rfl, e⟩], hk, rfl⟩
    | false =>
      refine .inl ⟨?_, fun _ => rfl⟩
      rw [p2F, if_neg (by rw [e]; rintro ⟨_, h⟩; cases h), p2F_late (Nat.le_refl _)]
      unfold w1F; rw [if_pos h]
  · refine .inl ⟨?_, fun h => absurd h hk⟩
    rw [p2F_late (by omega)]
    unfold w1F; rw [if_pos h]
theorem turnB_out {S : St} {F : Sf} {A : List Nat} {n j : Nat} {f : Nat → Nat} (h : turnB S F A n f j = true) : (F.g j).asp = 1 ∧ lg A j = 2 ∧ openB S F n f j = true := by
  unfold turnB at h
  simp at h
  exact h
theorem want_rng (m y s q : Int) (a : Nat) : 1 ≤ wantV m y a s q ∧ wantV m y a s q ≤ 3 := by
  unfold wantV
  repeat' split
  all_goals omega
theorem wantN_int (S : St) (F : Sf) (A : List Nat) (i : Nat) : ((wantN S F A i : Nat) : Int) = wantV (S.gr i).min (S.gr i).yellow (F.g i).asp (F.g i).since (lg A i) := by
  have := want_rng (S.gr i).min (S.gr i).yellow (F.g i).since (lg A i) (F.g i).asp
  unfold wantN
  omega
theorem wantN_rng (S : St) (F : Sf) (A : List Nat) (i : Nat) : 1 ≤ wantN S F A i ∧ wantN S F A i ≤ 3 := by
  have := want_rng (S.gr i).min (S.gr i).yellow (F.g i).since (lg A i) (F.g i).asp
  have := wantN_int S F A i
  omega
theorem p2F_rng (S : St) (F : Sf) (A : List Nat) (n k j : Nat) : 1 ≤ p2F S F A n k j ∧ p2F S F A n k j ≤ 3 := by
  by_cases h : (F.g j).asp = 1
  · rcases p2F_red (S := S) (A := A) (n := n) h k with e | e <;> omega
  · rw [p2F_other h]; exact wantN_rng S F A j
theorem letF_rng (S : St) (F : Sf) (A : List Nat) (j : Nat) : 1 ≤ letF S F A j ∧ letF S F A j ≤ 4 := by
  unfold letF
  split
  · omega
  · split
    · omega
    · have := p2F_rng S F A A.length A.length j; omega

/-! ### What a standing that goes on tells -/
theorem mayS_parts {S : St} {F : Sf} (h : mayS S F = true) : F.groups.length = S.groups.length ∧ (0 ≤ F.start ∧ F.start ≤ 1048576) ∧ (mtB S (shown F) = false ∨ allIs (shown F) 4 = true) := by
  unfold mayS at h
  simp only [Bool.and_eq_true, decide_eq_true_eq, inB_iff, Bool.or_eq_true, Bool.not_eq_true'] at h
  exact ⟨h.1, h.2.1, h.2.2⟩
theorem goes_parts {S : St} {F : Sf} (h : goesV S F = true) : mayS S F = true ∧ ∀ i, i < F.groups.length → aspG F (F.g i).asp = true := by
  unfold goesV at h
  rw [Bool.and_eq_true, allB_iff] at h
  exact h
theorem aspG_in {F : Sf} {a : Nat} (hf : F.flashed = false) (h : aspG F a = true) : 1 ≤ a ∧ a ≤ 3 := by
  unfold aspG at h
  rw [if_neg (by rw [hf]; decide)] at h
  split at h
  · have : a = 1 := by simpa using h
    omega
  · simp at h; omega
theorem aspG_start {F : Sf} {a : Nat} (hf : F.flashed = false) (hs : 0 < F.start) (h : aspG F a = true) : a = 1 := by
  unfold aspG at h
  rw [if_neg (by rw [hf]; decide), if_pos hs] at h
  simpa using h
theorem pairM_no {S : St} {L : List Nat} (hs : siteB S = true) (hl : L.length = S.groups.length) (h : mtB S L = false) {a b : Nat} (ha : a < L.length) (hb : b < L.length) (hab : (S.ap a).testBit b = true) (h1 : lg L a ≠ 1) : lg L b = 1 := by
  have hk := keeps_may hs
  by_cases e : lg L b = 1
  · exact e
  · exfalso
    have hne : a ≠ b := fun e => by subst e; rw [hk.own a (by omega)] at hab; cases hab
    by_cases hlt : b < a
    · have := mtB_iff.1 h a ha b hlt
      unfold pairM at this
      simp [h1, e, hab] at this
    · have := mtB_iff.1 h b hb a (by omega)
      unfold pairM at this
      rw [hk.sym a b (by omega) (by omega)] at hab
      simp [h1, e, hab] at this

/-! ### Without a fault -/
theorem fault_zero {S : St} {F : Sf} {L : List Nat} (hl : L.length = S.groups.length) (h : allIs L 4 = true ∨ (hasIt L 4 = false ∧ ((F.flashed = true ∨ 0 < F.start) → allIs L 1 = true) ∧ oneV S F L = 0 ∧ mtB S L = false ∧ soonB S F L = false)) : faultV S F L = 0 := by
  unfold faultV
  rw [if_neg (by simp [hl])]
  rcases h with h | ⟨h1, h2, h3, h4, h5⟩
  · rw [if_pos h]
  · split
    · rfl
    · rw [if_neg (by simp [h1]), if_neg, if_neg (by simp [h3]), if_neg (by simp [h4]), if_neg (by simp [h5])]
      rintro ⟨e, e2⟩
      rw [h2 e] at e2; cases e2
theorem fault_out {S : St} {F : Sf} {L : List Nat} (h : faultV S F L = 0) : L.length = S.groups.length ∧ (allIs L 4 = true ∨ (hasIt L 4 = false ∧ ((F.flashed = true ∨ 0 < F.start) → allIs L 1 = true) ∧ oneV S F L = 0 ∧ mtB S L = false ∧ soonB S F L = false)) := by
  have hl := fault_len h
  refine ⟨hl, ?_⟩
  unfold faultV at h
  rw [if_neg (by simp [hl])] at h
  by_cases e4 : allIs L 4 = true
  · exact .inl e4
  rw [if_neg e4] at h
  refine .inr ?_
  by_cases e7 : hasIt L 4 = true
  · rw [if_pos e7] at h; cases h
  rw [if_neg e7] at h
  by_cases e8 : (F.flashed = true ∨ 0 < F.start) ∧ allIs L 1 = false
  · rw [if_pos e8] at h; cases h
  rw [if_neg e8] at h
  by_cases e1 : oneV S F L = 0
  · rw [if_neg (by simp [e1])] at h
    by_cases e3 : mtB S L = true
    · rw [if_pos e3] at h; cases h
    rw [if_neg e3] at h
    by_cases e5 : soonB S F L = true
    · rw [if_pos e5] at h; cases h
    refine ⟨by simpa using e7, fun hh => ?_, e1, by simpa using e3, by simpa using e5⟩
    cases e : allIs L 1 with
    | true => rfl
    | false => exact absurd ⟨hh, e⟩ e8
  · rw [if_pos e1] at h; exact absurd h e1
theorem may_next (m y s : Int) (a b : Nat) (ha : 1 ≤ a ∧ a ≤ 3) (h : mayV m y a s b = 0) : 1 ≤ b ∧ b ≤ 3 := by
  unfold mayV at h
  repeat' split at h
  all_goals omega
/-- The standing behind lights without a fault goes on. -/
theorem goes_next {S : St} {F : Sf} {L : List Nat} (hs : siteB S = true) (hg : goesV S F = true) (hz : faultV S F L = 0) : goesV S (behindV S F L) = true := by
  obtain ⟨hm, hasp⟩ := goes_parts hg
  obtain ⟨hn, hst, _⟩ := mayS_parts hm
  obtain ⟨hl, hz⟩ := fault_out hz
  have hng := (span_may hs).base.sh.ok.ng
  have hlen := behindV_len S F L
  have hgi : ∀ i, i < L.length → (behindV S F L).g i = sndV (F.g i) (lg L i) := fun i hi => behindV_g hi
  have hshow : shown (behindV S F L) = L := by
    refine List.ext_getElem (by rw [shown_len, hlen]) (fun i h1 h2 => ?_)
    have a := shown_lg (F := behindV S F L) (i := i) (by rw [hlen]; exact h2)
    rw [hgi i h2] at a
    have b : lg (shown (behindV S F L)) i = (shown (behindV S F L))[i] := by simp [lg, h1]
    have c : lg L i = L[i] := by simp [lg, h2]
    rw [← b, a]
    exact c
  have hmay : mayS S (behindV S F L) = true := by
    unfold mayS
    rw [hshow, decide_eq_true (hlen.trans hl), Bool.true_and, show inB (behindV S F L).start 0 1048576 = true from inB_iff.2 (startV_rng hs hst), Bool.true_and]
    rcases hz with hz | ⟨_, _, _, hz, _⟩
    · rw [hz, Bool.or_true]
    · rw [hz]; rfl
  unfold goesV
  rw [hmay, Bool.true_and, allB_iff]
  intro i hi
  rw [hlen] at hi
  rw [hgi i hi]
  show aspG (behindV S F L) (lg L i) = true
  unfold aspG
  rcases hz with hz | ⟨h4, h1, ho, _, _⟩
  · rw [if_pos (show (behindV S F L).flashed = true from hz)]
    have := allIs_iff.1 hz i hi
    simp [this]
  · have hnf : allIs L 4 = false := allIs_no hi (hasIt_iff.1 h4 i hi)
    rw [if_neg (by rw [show (behindV S F L).flashed = allIs L 4 from rfl, hnf]; decide)]
    have hin : 1 ≤ lg L i ∧ lg L i ≤ 3 := by
      cases hf : F.flashed with
      | true => have := allIs_iff.1 (h1 (.inl hf)) i hi; omega
      | false =>
        unfold oneV at ho
        rw [if_neg (by rw [hf]; decide)] at ho
        exact may_next _ _ _ _ _ (aspG_in hf (hasp i (by omega))) (ownV_zero ho i hi)
    split
    · rename_i hst'
      have : F.flashed = true ∨ 0 < F.start := by
        have e : (behindV S F L).start = startV S F L := rfl
        rw [e] at hst'
        unfold startV at hst'
        rw [if_neg (by rw [hnf]; decide)] at hst'
        by_cases hf : F.flashed = true
        · exact .inl hf
        · rw [if_neg hf] at hst'
          exact .inr (by omega)
      have := allIs_iff.1 (h1 this) i hi
      simp [this]
    · have := hin
      simp
      omega
/-- Whatever is asked, what is let through has no fault. -/
theorem let_safe {S : St} {F : Sf} {A : List Nat} (hs : siteB S = true) (hg : goesV S F = true) (hA : A.length = S.groups.length) : faultV S F (letV S F A) = 0 := by
  obtain ⟨hm, hasp⟩ := goes_parts hg
  obtain ⟨hn, hst, hmt⟩ := mayS_parts hm
  have hng := (span_may hs).base.sh.ok.ng
  have hk := keeps_may hs
  have hl := letV_len S F A
  refine fault_zero (hl.trans hA) ?_
  by_cases h4 : allIs A 4 = true
  · refine .inl (allIs_yes (fun i hi => ?_))
    rw [letV_lg (by omega)]; unfold letF; rw [if_pos h4]
  refine .inr ?_
  by_cases hf : F.flashed = true ∨ 0 < F.start
  · have e1 : ∀ i, i < (letV S F A).length → lg (letV S F A) i = 1 := fun i hi => by
      rw [letV_lg (by omega)]; unfold letF; rw [if_neg h4, if_pos hf]
    refine ⟨hasIt_no (fun i hi => by rw [e1 i hi]; omega), fun _ => allIs_yes e1, ?_, mtB_no (fun a ha b hb => by unfold pairM; rw [e1 a ha]; rfl), soonB_no (fun b hb a ha => by unfold pairS; rw [e1 b hb]; rfl)⟩
    unfold oneV
    split
    · rfl
    · rename_i hff
      have hff : F.flashed = false := by simpa using hff
      have hs0 : 0 < F.start := by rcases hf with h | h; (rw [hff] at h; cases h); exact h
      refine ownV_no (fun j hj => ?_)
      unfold oneF
      rw [e1 j hj, aspG_start hff hs0 (hasp j (by omega))]
      rfl
  · have hff : F.flashed = false := by
      cases e : F.flashed with
      | false => rfl
      | true => exact absurd (.inl e) hf
    have eL : ∀ i, i < (letV S F A).length → lg (letV S F A) i = p2F S F A A.length A.length i := fun i hi => by
      rw [letV_lg (by omega)]; unfold letF; rw [if_neg h4, if_neg hf]
    have hshow0 : allIs (shown F) 4 = false := allIs_no (i := 0) (by rw [shown_len]; omega) (by
      rw [shown_lg (by omega)]
      have := aspG_in hff (hasp 0 (by omega)); omega)
    have hmt : mtB S (shown F) = false := by
      rcases hmt with h | h
      · exact h
      · rw [hshow0] at h; cases h
    refine ⟨hasIt_no (fun i hi => by rw [eL i hi]; have := p2F_rng S F A A.length A.length i; omega), fun h => absurd h hf, ?_, ?_, ?_⟩
    · unfold oneV
      rw [if_neg (by rw [hff]; decide)]
      refine ownV_no (fun j hj => ?_)
      unfold oneF
      rw [eL j hj]
      by_cases h1 : (F.g j).asp = 1
      · rw [h1]
        rcases p2F_red (S := S) (A := A) (n := A.length) h1 A.length with e | e
        · rw [e.1]; rfl
        · rw [e.1]; rfl
      · rw [p2F_other h1, wantN_int]
        have := aspG_in hff (hasp j (by omega))
        exact want_may9 _ _ _ _ _ (by omega)
    · have key : ∀ a b, a < A.length → b < A.length → (S.ap a).testBit b = true → p2F S F A A.length A.length a ≠ 1 → (F.g a).asp = 1 → p2F S F A A.length a b = 1 := fun a b ha hb hab h1 hr => by
        rcases p2F_red (S := S) (A := A) (n := A.length) hr A.length with e | e
        · exact absurd e.1 h1
        · exact (openB_at (turnB_out e.2.2).2.2 hb hab).1
      have both : ∀ a b, a < A.length → b < A.length → (S.ap a).testBit b = true → p2F S F A A.length A.length a ≠ 1 → p2F S F A A.length A.length b ≠ 1 → (F.g a).asp = 1 → b < a → False := fun a b ha hb hab h1 h2 hr hlt => by
        have e := key a b ha hb hab h1 hr
        by_cases hrb : (F.g b).asp = 1
        · rw [p2F_stay hlt, ← p2F_stay hb] at e
          exact h2 e
        · rw [p2F_other hrb] at e h2
          exact h2 e
      refine mtB_no (fun a ha b hb => ?_)
      have ha' : a < A.length := by omega
      cases e : pairM S (letV S F A) a b with
      | false => rfl
      | true =>
        exfalso
        unfold pairM at e
        rw [eL a ha, eL b (by omega)] at e
        simp at e
        obtain ⟨e1, e2, e3⟩ := e
        have e3' : (S.ap b).testBit a = true := by rw [← hk.sym a b (by omega) (by omega)]; exact e3
        by_cases ra : (F.g a).asp = 1
        · exact both a b ha' (by omega) e3 e1 e2 ra hb
        · by_cases rb : (F.g b).asp = 1
          · have := key b a (by omega) ha' e3' e2 rb
            rw [p2F_other ra] at this e1
            exact e1 this
          · have h1 := pairM_no hs (by rw [shown_len]; exact hn) hmt (a := a) (b := b) (by rw [shown_len]; omega) (by rw [shown_len]; omega) e3 (by rw [shown_lg (by omega)]; exact ra)
            rw [shown_lg (by omega)] at h1
            exact rb h1
    · refine soonB_no (fun b hb a ha => ?_)
      cases e : pairS S F (letV S F A) b a with
      | false => rfl
      | true =>
        exfalso
        unfold pairS at e
        rw [eL b hb] at e
        simp at e
        obtain ⟨e1, e2, e3, e4⟩ := e
        have hb' : b < A.length := by omega
        have e3' : (S.ap b).testBit a = true := by rw [← hk.sym a b (by omega) (by omega)]; exact e3
        by_cases rb : (F.g b).asp = 1
        · rcases p2F_red (S := S) (A := A) (n := A.length) rb A.length with h | h
          · omega
          · have := (openB_at (turnB_out h.2.2).2.2 (that := a) (by omega) e3').2
            omega
        · rw [p2F_other rb] at e1
          have h3 := aspG_in hff (hasp b (by omega))
          have h3 : (F.g b).asp = 3 := by omega
          have := wantN_int S F A b
          rw [h3, e1] at this
          unfold wantV at this
          simp at this
          split at this <;> omega
/-- What is asked and has no fault is let through as it is. -/
theorem let_same {S : St} {F : Sf} {A : List Nat} (hs : siteB S = true) (hg : goesV S F = true) (hz : faultV S F A = 0) : letV S F A = A := by
  obtain ⟨hm, hasp⟩ := goes_parts hg
  obtain ⟨hn, hst, hmt⟩ := mayS_parts hm
  obtain ⟨hA, hz⟩ := fault_out hz
  have hk := keeps_may hs
  have hl := letV_len S F A
  have key : ∀ i, i < A.length → letF S F A i = lg A i := by
    intro i hi
    unfold letF
    by_cases h4 : allIs A 4 = true
    · rw [if_pos h4, allIs_iff.1 h4 i hi]
    rw [if_neg h4]
    obtain ⟨h7, h1, ho, h3, h5⟩ : hasIt A 4 = false ∧ ((F.flashed = true ∨ 0 < F.start) → allIs A 1 = true) ∧ oneV S F A = 0 ∧ mtB S A = false ∧ soonB S F A = false := by
      rcases hz with hz | hz
      · exact absurd hz h4
      · exact hz
    by_cases hf : F.flashed = true ∨ 0 < F.start
    · rw [if_pos hf, allIs_iff.1 (h1 hf) i hi]
    rw [if_neg hf]
    have hff : F.flashed = false := by
      cases e : F.flashed with
      | false => rfl
      | true => exact absurd (.inl e) hf
    have hone : ∀ j, j < A.length → mayV (S.gr j).min (S.gr j).yellow (F.g j).asp (F.g j).since (lg A j) = 0 := fun j hj => by
      unfold oneV at ho
      rw [if_neg (by rw [hff]; decide)] at ho
      exact ownV_zero ho j hj
    have hoth : ∀ j k, j < A.length → (F.g j).asp ≠ 1 → p2F S F A A.length k j = lg A j := fun j k hj hr => by
      rw [p2F_other hr]
      have ha := aspG_in hff (hasp j (by omega))
      have := may_want9 _ _ _ _ _ (by omega) (hone j hj)
      have := wantN_int S F A j
      omega
    have hred : ∀ j, j < A.length → (F.g j).asp = 1 → lg A j = 1 ∨ lg A j = 2 := fun j hj hr => by
      have := hone j hj
      rw [hr] at this
      unfold mayV at this
      simp at this
      omega
    by_cases hr : (F.g i).asp = 1
    · rcases p2F_red (S := S) (A := A) (n := A.length) hr A.length with e | e
      · rcases hred i hi hr with h | h
        · rw [e.1, h]
        · exfalso
          have ht := e.2 hi
          have : turnB S F A A.length (p2F S F A A.length i) i = true := by
            unfold turnB
            rw [hr, h]
            simp
            refine allB_iff.2 (fun j hj => ?_)
            cases eb : barB S F (p2F S F A A.length i) i j with
            | false => rfl
            | true =>
              exfalso
              unfold barB at eb
              rw [Bool.and_eq_true, Bool.or_eq_true] at eb
              obtain ⟨e1, e2⟩ := eb
              rcases e2 with e2 | e2
              · have hj1 := pairM_no hs hA h3 hi hj e1 (by omega)
                have e2 : p2F S F A A.length i j ≠ 1 := by simpa using e2
                by_cases hrj : (F.g j).asp = 1
                · rcases p2F_red (S := S) (A := A) (n := A.length) hrj i with q | q
                  · exact e2 q.1
                  · have := (turnB_out q.2.2).2.1; omega
                · rw [hoth j i hj hrj] at e2; exact e2 hj1
              · have e2 := of_decide_eq_true e2
                have := soonB_iff.1 h5 i hi j hj
                unfold pairS at this
                rw [hk.sym i j (by omega) (by omega)] at e1
                rw [h, hr, e1] at this
                simp at this
                omega
          rw [this] at ht; cases ht
      · rw [e.1, (turnB_out e.2.2).2.1]
    · exact hoth i A.length hi hr
  refine List.ext_getElem hl (fun i h1 h2 => ?_)
  have a := letV_lg (S := S) (F := F) h2
  rw [key i h2] at a
  have b : lg (letV S F A) i = (letV S F A)[i] := by simp [lg, h1]
  have c : lg A i = A[i] := by simp [lg, h2]
  rw [← b, a, c]
/-- What is let through of a group does not hang on what is asked of red ones behind it. -/
theorem let_later {S : St} {F : Sf} {A B : List Nat} {at_ : Nat} (hl : B.length = A.length) (h0 : 0 < A.length) (hA : ∀ i, i < A.length → lg A i ≠ 4) (hB : ∀ i, i < A.length → lg B i ≠ 4) (hat : at_ ≤ A.length) (hlo : ∀ i, i < at_ → lg B i = lg A i) (hnr : ∀ i, i < A.length → (F.g i).asp ≠ 1 → lg B i = lg A i) {i : Nat} (hi : i < at_) : letF S F A i = letF S F B i := by
  have hA4 : ¬ allIs A 4 = true := by rw [allIs_no h0 (hA 0 h0)]; decide
  have hB4 : ¬ allIs B 4 = true := by rw [allIs_no (i := 0) (by omega) (hB 0 h0)]; decide
  unfold letF
  rw [if_neg hA4, if_neg hB4, hl]
  by_cases hff : F.flashed = true ∨ 0 < F.start
  · rw [if_pos hff, if_pos hff]
  · rw [if_neg hff, if_neg hff]
    have hw : ∀ j, j < A.length → w1F S F A j = w1F S F B j := fun j hj => by
      unfold w1F
      by_cases h : (F.g j).asp = 1
      · rw [if_pos h, if_pos h]
      · rw [if_neg h, if_neg h]; unfold wantN; rw [hnr j hj h]
    have hp : ∀ k, k ≤ at_ → ∀ j, j < A.length → p2F S F A A.length k j = p2F S F B A.length k j := by
      intro k
      induction k with
      | zero => exact fun _ j hj => hw j hj
      | succ k ih =>
        intro hk j hj
        have hk' := ih (by omega)
        have : turnB S F A A.length (p2F S F A A.length k) k = turnB S F B A.length (p2F S F B A.length k) k := by
          unfold turnB
          rw [openB_congr hk', hlo k (by omega)]
        rw [p2F, p2F, this, hk' j hj]
    rw [p2F_stay (show i < A.length by omega), p2F_stay (j := i) (show i < A.length by omega)]
    exact hp (i + 1) (by omega) i (by omega)

/-! ### Tick by tick -/
def runF (S : St) (T : List (List Nat)) : Nat → Sf
  | 0 => firstV S
  | k + 1 => behindV S (runF S T k) (letV S (runF S T k) (tk T k))
def runL (S : St) (T : List (List Nat)) (k : Nat) : List Nat := letV S (runF S T k) (tk T k)
def runV (S : St) (T : List (List Nat)) : List (List Nat) := (List.range T.length).map (runL S T)
theorem runV_tk {S : St} {T : List (List Nat)} {k : Nat} (h : k < T.length) : tk (runV S T) k = runL S T k := by simp [runV, tk, h]
theorem runV_len (S : St) (T : List (List Nat)) : (runV S T).length = T.length := by simp [runV]
theorem goes_first {S : St} (hs : siteB S = true) : goesV S (firstV S) = true := by
  have hl := firstV_len S
  have h1 : ∀ i, i < (firstV S).groups.length → ((firstV S).g i).asp = 1 := fun i hi => by rw [firstV_g (by omega)]
  unfold goesV
  rw [Bool.and_eq_true, allB_iff]
  refine ⟨?_, fun i hi => ?_⟩
  · unfold mayS
    rw [decide_eq_true hl, Bool.true_and, show inB (firstV S).start 0 1048576 = true from inB_iff.2 (worst_rng hs), Bool.true_and, mtB_no]
    · rfl
    · intro a ha b hb
      rw [shown_len] at ha
      unfold pairM
      rw [shown_lg ha, h1 a ha]; rfl
  · rw [h1 i hi]
    unfold aspG
    rw [if_neg (by show ¬ (false = true); decide)]
    split <;> rfl
theorem run_goes {S : St} {T : List (List Nat)} (hs : siteB S = true) (hT : ∀ k, k < T.length → (tk T k).length = S.groups.length) : ∀ k, k ≤ T.length → goesV S (runF S T k) = true
  | 0, _ => goes_first hs
  | k + 1, h => goes_next hs (run_goes hs hT k (by omega)) (let_safe hs (run_goes hs hT k (by omega)) (hT k (by omega)))
theorem run_at {S : St} {T : List (List Nat)} : ∀ k, k ≤ T.length → atV S (runV S T) k = runF S T k
  | 0, _ => rfl
  | k + 1, h => by
    show behindV S (atV S (runV S T) k) (tk (runV S T) k) = behindV S (runF S T k) (letV S (runF S T k) (tk T k))
    rw [run_at k (by omega), runV_tk (by omega)]
    rfl
theorem run_flt {S : St} {T : List (List Nat)} (hs : siteB S = true) (hT : ∀ k, k < T.length → (tk T k).length = S.groups.length) {k : Nat} (h : k < T.length) : fltV S (runV S T) k = 0 := by
  unfold fltV
  rw [run_at k (by omega), runV_tk h]
  exact let_safe hs (run_goes hs hT k (by omega)) (hT k h)

end Go.Proofs.YtfhmfanmnhclfaaDoor

/-
  FROM ONE PHASE TO ANOTHER, in numbers: what a phase asks, when it is full, tick by tick; it is full behind at most the worst turn, and stays so.
-/
namespace Go.Proofs.YtfhmfanmnhclfaaDoor
open Go.RowKit Go.Lib Go.Deep
set_option linter.unusedVariables false
set_option linter.unusedSimpArgs false

/-- Is a group one of a phase? What a phase asks. -/
def inP (S : St) (p i : Nat) : Bool := (S.ph p).groups.testBit i
def askV (S : St) (p : Nat) : List Nat := (List.range S.groups.length).map (fun i => if inP S p i = true then 2 else 1)
theorem askV_len (S : St) (p : Nat) : (askV S p).length = S.groups.length := by simp [askV]
theorem askV_lg {S : St} {p i : Nat} (h : i < S.groups.length) : lg (askV S p) i = if inP S p i = true then 2 else 1 := by simp [askV, lg, h]
theorem ask_yes {S : St} {p i : Nat} (h : i < S.groups.length) (hp : inP S p i = true) : lg (askV S p) i = 2 := by rw [askV_lg h, if_pos hp]
theorem ask_no {S : St} {p i : Nat} (h : i < S.groups.length) (hp : inP S p i = false) : lg (askV S p) i = 1 := by rw [askV_lg h, if_neg (by rw [hp]; decide)]
/-- Is a phase full? -/
def fullB (S : St) (F : Sf) (p : Nat) : Bool := allB S.groups.length (fun i => !inP S p i || ((F.g i).asp == 2))
theorem fullB_iff {S : St} {F : Sf} {p : Nat} : fullB S F p = true ↔ ∀ i, i < S.groups.length → inP S p i = true → (F.g i).asp = 2 := by
  unfold fullB
  rw [allB_iff]
  constructor
  · intro h i hi hp
    have := h i hi
    rw [hp] at this
    simpa using this
  · intro h i hi
    cases hp : inP S p i
    · rfl
    · simp [h i hi hp]
/-- A tick in which a phase asks; n of them. -/
def stepT (S : St) (p : Nat) (F : Sf) : Sf := behindV S F (letV S F (askV S p))
def atT (S : St) (p : Nat) (F : Sf) : Nat → Sf
  | 0 => F
  | n + 1 => stepT S p (atT S p F n)
theorem atT_succ (S : St) (p : Nat) (F : Sf) (n : Nat) : atT S p F (n + 1) = stepT S p (atT S p F n) := rfl
theorem atT_add (S : St) (p : Nat) (F : Sf) (m : Nat) : ∀ n, atT S p F (m + n) = atT S p (atT S p F m) n
  | 0 => rfl
  | n + 1 => by rw [← Nat.add_assoc, atT_succ, atT_add S p F m n]; rfl
theorem step_len (S : St) (p : Nat) (F : Sf) : (stepT S p F).groups.length = S.groups.length := by unfold stepT; rw [behindV_len, letV_len, askV_len]
theorem step_g {S : St} {p : Nat} {F : Sf} {i : Nat} (h : i < S.groups.length) : (stepT S p F).g i = sndV (F.g i) (letF S F (askV S p) i) := by
  unfold stepT
  rw [behindV_g (by rw [letV_len, askV_len]; exact h), letV_lg (by rw [askV_len]; exact h)]
theorem goes_step {S : St} {p : Nat} {F : Sf} (hs : siteB S = true) (hg : goesV S F = true) : goesV S (stepT S p F) = true := goes_next hs hg (let_safe hs hg (askV_len S p))
theorem goes_at {S : St} {p : Nat} {F : Sf} (hs : siteB S = true) (hg : goesV S F = true) : ∀ n, goesV S (atT S p F n) = true
  | 0 => hg
  | n + 1 => goes_step hs (goes_at hs hg n)
/-- What a site that may be tells. -/
structure TurF (S : St) : Prop where
  g0 : 1 ≤ S.groups.length
  min : ∀ i, i < S.groups.length → 1 ≤ (S.gr i).min ∧ (S.gr i).min ≤ 1048576
  yel : ∀ i, i < S.groups.length → 1 ≤ (S.gr i).yellow ∧ (S.gr i).yellow ≤ 1048576
  bt : ∀ a b, a < S.groups.length → b < S.groups.length → S.bt a b ≤ worstM S
  w0 : 0 ≤ worstM S
  w1 : worstM S ≤ 1048576
theorem tur_facts {S : St} (hs : siteB S = true) : TurF S := by
  have hgr : ∀ i, i < S.groups.length → groupB S i = true := fun i hi => all_of hs 2 (by omega) i hi
  refine ⟨(span_may hs).base.sh.ok.ng.1, fun i hi => ?_, fun i hi => ?_, fun a b ha hb => ?_, (worst_rng hs).1, (worst_rng hs).2⟩
  · have := hgr i hi
    unfold groupB timeB at this
    simp only [Bool.and_eq_true, inB_iff] at this
    omega
  · have := hgr i hi
    unfold groupB timeB at this
    simp only [Bool.and_eq_true, inB_iff] at this
    omega
  · exact (worst_is (span_may hs).base.sh).2.2 _ ⟨a, b, .inl ha, hb, trivial, rfl⟩

/-! ### Ticks out of flash, behind all red -/
structure Calm (F : Sf) : Prop where
  fl : F.flashed = false
  st : F.start = 0
theorem ask_not4 {S : St} {p : Nat} (h : 1 ≤ S.groups.length) : allIs (askV S p) 4 = false := allIs_no (i := 0) (by rw [askV_len]; omega) (by rw [askV_lg (by omega)]; split <;> decide)
theorem let_calm {S : St} {p : Nat} {F : Sf} (h1 : 1 ≤ S.groups.length) (hc : Calm F) (i : Nat) : letF S F (askV S p) i = p2F S F (askV S p) S.groups.length S.groups.length i := by
  unfold letF
  rw [if_neg (by rw [ask_not4 h1]; decide), if_neg (by rw [hc.fl, hc.st]; simp), askV_len]
theorem let_not4 {S : St} {p : Nat} {F : Sf} (h1 : 1 ≤ S.groups.length) : allIs (letV S F (askV S p)) 4 = false := by
  refine allIs_no (i := 0) (by rw [letV_len, askV_len]; omega) ?_
  rw [letV_lg (by rw [askV_len]; omega)]
  unfold letF
  rw [if_neg (by rw [ask_not4 h1]; decide)]
  split
  · decide
  · have := p2F_rng S F (askV S p) (askV S p).length (askV S p).length 0
    omega
theorem step_fl {S : St} {p : Nat} {F : Sf} (h1 : 1 ≤ S.groups.length) : (stepT S p F).flashed = false := let_not4 h1
theorem step_st {S : St} {p : Nat} {F : Sf} (h1 : 1 ≤ S.groups.length) : (stepT S p F).start = max ((if F.flashed = true then worstM S else F.start) - 1) 0 := by
  show startV S F (letV S F (askV S p)) = _
  unfold startV
  rw [if_neg (by rw [let_not4 h1]; decide)]
theorem calm_step {S : St} {p : Nat} {F : Sf} (h1 : 1 ≤ S.groups.length) (hc : Calm F) : Calm (stepT S p F) :=
  ⟨step_fl h1, by rw [step_st h1, hc.fl, hc.st]; rfl⟩
theorem calm_at {S : St} {p : Nat} {F : Sf} (h1 : 1 ≤ S.groups.length) (hc : Calm F) : ∀ n, Calm (atT S p F n)
  | 0 => hc
  | n + 1 => calm_step h1 (calm_at h1 hc n)
theorem asp_calm {S : St} {F : Sf} (hg : goesV S F = true) (hf : F.flashed = false) {i : Nat} (hi : i < S.groups.length) : 1 ≤ (F.g i).asp ∧ (F.g i).asp ≤ 3 := by
  obtain ⟨hm, ha⟩ := goes_parts hg
  obtain ⟨hn, _, _⟩ := mayS_parts hm
  exact aspG_in hf (ha i (by omega))
theorem p2_not {S : St} {p : Nat} {F : Sf} {j : Nat} (hj : j < S.groups.length) (hp : inP S p j = false) (hr : (F.g j).asp = 1) (k : Nat) : p2F S F (askV S p) S.groups.length k j = 1 := by
  rcases p2F_red (S := S) (A := askV S p) (n := S.groups.length) hr k with e | e
  · exact e.1
  · have := (turnB_out e.2.2).2.1
    rw [ask_no hj hp] at this
    omega
theorem let_out {S : St} {p : Nat} {F : Sf} {j : Nat} (h1 : 1 ≤ S.groups.length) (hc : Calm F) (hj : j < S.groups.length) (hp : inP S p j = false) : ((letF S F (askV S p) j : Nat) : Int) = wantV (S.gr j).min (S.gr j).yellow (F.g j).asp (F.g j).since 1 := by
  rw [let_calm h1 hc]
  by_cases hr : (F.g j).asp = 1
  · rw [p2_not hj hp hr, hr]
    rfl
  · rw [p2F_other hr, wantN_int, ask_no hj hp]
    rfl
theorem let_in {S : St} {p : Nat} {F : Sf} {j : Nat} (h1 : 1 ≤ S.groups.length) (hc : Calm F) (hj : j < S.groups.length) (hp : inP S p j = true) (hr : (F.g j).asp ≠ 1) : ((letF S F (askV S p) j : Nat) : Int) = wantV (S.gr j).min (S.gr j).yellow (F.g j).asp (F.g j).since 2 := by
  rw [let_calm h1 hc, p2F_other hr, wantN_int, ask_yes hj hp]
  rfl
theorem more_is (n : Int) : stp (more n) = more n ∧ 1 ≤ more n ∧ more n ≤ 1048576 ∧ ((stp n < 1048576 ∧ more n = stp n + 1) ∨ (stp n = 1048576 ∧ more n = 1048576)) := by
  have h0 := stp_ge n
  have h1 := stp_le n
  unfold more
  split
  · rename_i h
    exact ⟨stp_id (by omega) (by omega), by omega, by omega, .inl ⟨h, rfl⟩⟩
  · rename_i h
    exact ⟨stp_id (by omega) (by omega), by omega, by omega, .inr ⟨by omega, rfl⟩⟩
/-- How a group that is not asked for stands behind n ticks. -/
structure Out (m y : Int) (s : Sn) (n : Int) : Prop where
  a1 : 1 ≤ s.asp
  a3 : s.asp ≤ 3
  gr : s.asp = 2 → n ≤ m ∧ n ≤ stp s.since
  ye : s.asp = 3 → n ≤ m + stp s.since ∧ (1 ≤ n → stp s.since ≤ y)
  en : s.asp ≠ 2 → n - m ≤ stp s.ended ∨ stp s.ended = 1048576
  raw : 1 ≤ n → s.ended = stp s.ended
theorem out_step {m y : Int} {s : Sn} {n : Int} (h : Out m y s n) (hn : 0 ≤ n) (hm : 1 ≤ m ∧ m ≤ 1048576) (hy : 1 ≤ y ∧ y ≤ 1048576) {b : Nat} (hb : (b : Int) = wantV m y s.asp s.since 1) : Out m y (sndV s b) (n + 1) := by
  obtain ⟨a1, a3, gr, ye, en, raw⟩ := h
  have ms := more_is s.since
  have me := more_is s.ended
  have s0 := stp_ge s.since
  have e0 := stp_ge s.ended
  have st1 : stp 1 = 1 := by decide
  have st0 : stp 0 = 0 := by decide
  unfold wantV at hb
  unfold sndV
  have ha : s.asp = 1 ∨ s.asp = 2 ∨ s.asp = 3 := by omega
  rcases ha with ha | ha | ha
  · rw [if_pos (by omega), if_neg (by decide)] at hb
    have hb : b = 1 := by omega
    subst hb
    have en := en (by omega)
    refine ⟨by simp, by simp, fun e => (by simp at e), fun e => (by simp at e), fun _ => ?_, fun _ => ?_⟩
    · show n + 1 - m ≤ stp (endedV s.ended 1) ∨ stp (endedV s.ended 1) = 1048576
      unfold endedV
      rw [if_neg (by decide)]
      omega
    · show endedV s.ended 1 = stp (endedV s.ended 1)
      unfold endedV
      rw [if_neg (by decide)]
      omega
  · rw [if_neg (by omega), if_pos (by omega), if_neg (by decide)] at hb
    have gr := gr ha
    split at hb
    · rename_i hlt
      have hb : b = 2 := by omega
      subst hb
      refine ⟨by simp, by simp, fun _ => ?_, fun e => (by simp at e), fun e => absurd rfl e, fun _ => ?_⟩
      · show n + 1 ≤ m ∧ n + 1 ≤ stp (sinceV s.asp s.since 2)
        unfold sinceV
        rw [if_pos (by omega)]
        omega
      · show endedV s.ended 2 = stp (endedV s.ended 2)
        unfold endedV
        rw [if_pos rfl, st0]
    · rename_i hlt
      have hb : b = 3 := by omega
      subst hb
      refine ⟨by simp, by simp, fun e => (by simp at e), fun _ => ?_, fun _ => ?_, fun _ => ?_⟩
      · show n + 1 ≤ m + stp (sinceV s.asp s.since 3) ∧ (1 ≤ n + 1 → stp (sinceV s.asp s.since 3) ≤ y)
        unfold sinceV
        rw [if_neg (by omega), st1]
        omega
      · show n + 1 - m ≤ stp (endedV s.ended 3) ∨ stp (endedV s.ended 3) = 1048576
        unfold endedV
        rw [if_neg (by decide)]
        omega
      · show endedV s.ended 3 = stp (endedV s.ended 3)
        unfold endedV
        rw [if_neg (by decide)]
        omega
  · rw [if_neg (by omega), if_neg (by omega), if_pos (by omega)] at hb
    have ye := ye ha
    have en := en (by omega)
    split at hb
    · rename_i hlt
      have hb : b = 3 := by omega
      subst hb
      refine ⟨by simp, by simp, fun e => (by simp at e), fun _ => ?_, fun _ => ?_, fun _ => ?_⟩
      · show n + 1 ≤ m + stp (sinceV s.asp s.since 3) ∧ (1 ≤ n + 1 → stp (sinceV s.asp s.since 3) ≤ y)
        unfold sinceV
        rw [if_pos (by omega)]
        omega
      · show n + 1 - m ≤ stp (endedV s.ended 3) ∨ stp (endedV s.ended 3) = 1048576
        unfold endedV
        rw [if_neg (by decide)]
        omega
      · show endedV s.ended 3 = stp (endedV s.ended 3)
        unfold endedV
        rw [if_neg (by decide)]
        omega
    · rename_i hlt
      have hb : b = 1 := by omega
      subst hb
      refine ⟨by simp, by simp, fun e => (by simp at e), fun e => (by simp at e), fun _ => ?_, fun _ => ?_⟩
      · show n + 1 - m ≤ stp (endedV s.ended 1) ∨ stp (endedV s.ended 1) = 1048576
        unfold endedV
        rw [if_neg (by decide)]
        omega
      · show endedV s.ended 1 = stp (endedV s.ended 1)
        unfold endedV
        rw [if_neg (by decide)]
        omega
/-- How a group that is asked for stands behind n ticks. -/
structure Inn (y : Int) (s : Sn) (n : Int) : Prop where
  a1 : 1 ≤ s.asp
  a3 : s.asp ≤ 3
  ye : s.asp = 3 → n ≤ stp s.since ∧ (1 ≤ n → stp s.since ≤ y)
theorem in_step {m y : Int} {s : Sn} {n : Int} (h : Inn y s n) (hn : 0 ≤ n) (hy : 1 ≤ y ∧ y ≤ 1048576) {b : Nat} (h1 : 1 ≤ b) (h3 : b ≤ 3) (hr : s.asp = 1 → b = 1 ∨ b = 2) (hb : s.asp ≠ 1 → (b : Int) = wantV m y s.asp s.since 2) : Inn y (sndV s b) (n + 1) := by
  obtain ⟨a1, a3, ye⟩ := h
  have ms := more_is s.since
  have s0 := stp_ge s.since
  refine ⟨h1, h3, fun e => ?_⟩
  have e : b = 3 := e
  subst e
  have ha : s.asp = 1 ∨ s.asp = 2 ∨ s.asp = 3 := by omega
  rcases ha with ha | ha | ha
  · have := hr ha; omega
  · have hb := hb (by omega)
    unfold wantV at hb
    rw [if_neg (by omega), if_pos (by omega), if_pos rfl] at hb
    omega
  · have hb := hb (by omega)
    have ye := ye ha
    unfold wantV at hb
    rw [if_neg (by omega), if_neg (by omega), if_pos (by omega)] at hb
    split at hb
    · rename_i hlt
      show n + 1 ≤ stp (sinceV s.asp s.since 3) ∧ (1 ≤ n + 1 → stp (sinceV s.asp s.since 3) ≤ y)
      unfold sinceV
      rw [if_pos (by omega)]
      omega
    · omega

end Go.Proofs.YtfhmfanmnhclfaaDoor

/-
  A TURN ENDS, in numbers: a phase is full behind at most the worst turn and the ticks of red to come, and stays so.
-/
namespace Go.Proofs.YtfhmfanmnhclfaaDoor
open Go.RowKit Go.Lib Go.Deep
set_option linter.unusedVariables false
set_option linter.unusedSimpArgs false

/-- The greatest one, b at least. -/
def mxB (b : Int) (f : Nat → Int) : Nat → Int
  | 0 => b
  | k + 1 => max (mxB b f k) (f k)
theorem mxB_succ (b : Int) (f : Nat → Int) (k : Nat) : mxB b f (k + 1) = max (mxB b f k) (f k) := rfl
theorem mxB_base (b : Int) (f : Nat → Int) : ∀ n, b ≤ mxB b f n
  | 0 => Int.le_refl _
  | n + 1 => by have := mxB_base b f n; rw [mxB_succ]; omega
theorem mxB_ge {b : Int} {f : Nat → Int} : ∀ {n i : Nat}, i < n → f i ≤ mxB b f n
  | 0, i, h => by omega
  | n + 1, i, h => by
    rw [mxB_succ]
    by_cases e : i = n
    · subst e; omega
    · have := mxB_ge (b := b) (f := f) (n := n) (i := i) (by omega); omega
/-- The greatest Min; the greater of the greatest between and the greatest Yellow; the worst turn. -/
def minM (S : St) : Int := mxB 0 (fun i => (S.gr i).min) S.groups.length
def lonM (S : St) : Int := mxB (worstM S) (fun i => (S.gr i).yellow) S.groups.length
def worT (S : St) : Int := minM S + lonM S + 2
theorem out_at {S : St} {p : Nat} {F : Sf} (hs : siteB S = true) (hg : goesV S F = true) (hc : Calm F) {j : Nat} (hj : j < S.groups.length) (hp : inP S p j = false) : ∀ n : Nat, Out (S.gr j).min (S.gr j).yellow ((atT S p F n).g j) (n : Int)
  | 0 => by
    have ht := tur_facts hs
    have hm := ht.min j hj
    obtain ⟨a, b⟩ := asp_calm hg hc.fl hj
    have s0 := stp_ge (F.g j).since
    have e0 := stp_ge (F.g j).ended
    exact ⟨a, b, fun _ => ⟨by show (0 : Int) ≤ _; omega, s0⟩, fun _ => ⟨by show (0 : Int) ≤ _ + stp (F.g j).since; omega, fun h => absurd h (by decide)⟩, fun _ => .inl (by show (0 : Int) - _ ≤ stp (F.g j).ended; omega), fun h => absurd h (by decide)⟩
  | n + 1 => by
    have ht := tur_facts hs
    have ih := out_at hs hg hc hj hp n
    rw [atT_succ, step_g hj]
    have := out_step ih (by omega) (ht.min j hj) (ht.yel j hj) (let_out ht.g0 (calm_at ht.g0 hc n) hj hp)
    rw [show ((n + 1 : Nat) : Int) = (n : Int) + 1 by omega]
    exact this
theorem in_at {S : St} {p : Nat} {F : Sf} (hs : siteB S = true) (hg : goesV S F = true) (hc : Calm F) {i : Nat} (hi : i < S.groups.length) (hp : inP S p i = true) : ∀ n : Nat, Inn (S.gr i).yellow ((atT S p F n).g i) (n : Int)
  | 0 => by
    obtain ⟨a, b⟩ := asp_calm hg hc.fl hi
    exact ⟨a, b, fun _ => ⟨stp_ge (F.g i).since, fun h => absurd h (by decide)⟩⟩
  | n + 1 => by
    have ht := tur_facts hs
    have hcn := calm_at (p := p) ht.g0 hc n
    have ih := in_at hs hg hc hi hp n
    rw [atT_succ, step_g hi]
    have hl := let_calm (p := p) ht.g0 hcn i
    have hr := p2F_rng S (atT S p F n) (askV S p) S.groups.length S.groups.length i
    have := in_step (m := (S.gr i).min) (b := letF S (atT S p F n) (askV S p) i) ih (by omega) (ht.yel i hi) (by omega) (by omega) (fun e => by
      rcases p2F_red (S := S) (A := askV S p) (n := S.groups.length) e S.groups.length with q | q <;> omega) (fun e => let_in ht.g0 hcn hi hp e)
    rw [show ((n + 1 : Nat) : Int) = (n : Int) + 1 by omega]
    exact this
/-- Green that is asked for stays. -/
theorem green_next {S : St} {p : Nat} {F : Sf} (h1 : 1 ≤ S.groups.length) (hc : Calm F) {i : Nat} (hi : i < S.groups.length) (hp : inP S p i = true) (h2 : (F.g i).asp = 2) : ((stepT S p F).g i).asp = 2 := by
  rw [step_g hi]
  show letF S F (askV S p) i = 2
  have := let_in (p := p) h1 hc hi hp (by omega)
  rw [h2] at this
  unfold wantV at this
  rw [if_neg (by decide), if_pos (by decide), if_pos rfl] at this
  omega
/-- Red that is asked for turns green, if all that are apart from it are red and long enough. -/
theorem red_next {S : St} {p : Nat} {F : Sf} (hs : siteB S = true) (hc : Calm F) (hpl : p < S.phases.length) {i : Nat} (hi : i < S.groups.length) (hp : inP S p i = true) (h1 : (F.g i).asp = 1) (hj : ∀ j, j < S.groups.length → inP S p j = false → (S.ap i).testBit j = true → (F.g j).asp = 1 ∧ S.bt j i ≤ (F.g j).ended) : ((stepT S p F).g i).asp = 2 := by
  have ht := tur_facts hs
  have hk := keeps_may hs
  rw [step_g hi]
  show letF S F (askV S p) i = 2
  rw [let_calm ht.g0 hc]
  rcases p2F_red (S := S) (A := askV S p) (n := S.groups.length) h1 S.groups.length with e | e
  · exfalso
    have e2 := e.2 hi
    have : turnB S F (askV S p) S.groups.length (p2F S F (askV S p) S.groups.length i) i = true := by
      unfold turnB
      rw [h1, ask_yes hi hp]
      simp
      refine allB_iff.2 (fun j hjl => ?_)
      cases hb : barB S F (p2F S F (askV S p) S.groups.length i) i j
      · rfl
      · exfalso
        unfold barB at hb
        rw [Bool.and_eq_true, Bool.or_eq_true] at hb
        obtain ⟨b1, b2⟩ := hb
        have hpj : inP S p j = false := by
          cases q : inP S p j
          · rfl
          · rw [hk.mate p i j hpl hi hjl hp q] at b1; cases b1
        obtain ⟨r1, r2⟩ := hj j hjl hpj b1
        rcases b2 with b2 | b2
        · rw [p2_not hjl hpj r1] at b2; cases b2
        · have := of_decide_eq_true b2; omega
    rw [this] at e2; cases e2
  · exact e.1
/-- Out of flash, with no red to come. -/
theorem ends_calm {S : St} {p : Nat} {F : Sf} (hs : siteB S = true) (hg : goesV S F = true) (hc : Calm F) (hpl : p < S.phases.length) : fullB S (atT S p F (worT S).toNat) p = true := by
  have ht := tur_facts hs
  have hw0 := ht.w0
  have hw1 := ht.w1
  have hm0 : 0 ≤ minM S := mxB_base _ _ _
  have hl0 : worstM S ≤ lonM S := mxB_base _ _ _
  obtain ⟨n, hn⟩ : ∃ n : Nat, (worT S).toNat = n + 1 := ⟨(worT S).toNat - 1, by unfold worT; omega⟩
  have hn2 : (n : Int) = minM S + lonM S + 1 := by unfold worT at hn; omega
  rw [hn]
  refine fullB_iff.2 (fun i hi hp => ?_)
  have hcn := calm_at (p := p) ht.g0 hc n
  have hin := in_at hs hg hc hi hp n
  have hyi : (S.gr i).yellow ≤ lonM S := mxB_ge (f := fun i => (S.gr i).yellow) hi
  have a1 := hin.a1
  have a3 := hin.a3
  have hne : ((atT S p F n).g i).asp ≠ 3 := fun e => by have := hin.ye e; omega
  rw [atT_succ]
  by_cases h2 : ((atT S p F n).g i).asp = 2
  · exact green_next ht.g0 hcn hi hp h2
  · refine red_next hs hcn hpl hi hp (by omega) (fun j hj hpj hap => ?_)
    have ho := out_at hs hg hc hj hpj n
    have hmj : (S.gr j).min ≤ minM S := mxB_ge (f := fun i => (S.gr i).min) hj
    have hyj : (S.gr j).yellow ≤ lonM S := mxB_ge (f := fun i => (S.gr i).yellow) hj
    have b1 := ho.a1
    have b3 := ho.a3
    have n2 : ((atT S p F n).g j).asp ≠ 2 := fun e => by have := ho.gr e; omega
    have n3 : ((atT S p F n).g j).asp ≠ 3 := fun e => by have := ho.ye e; omega
    have hbt := ht.bt j i hj hi
    have hraw := ho.raw (by omega)
    have hen := ho.en n2
    refine ⟨by omega, ?_⟩
    rw [hraw]
    omega
/-- Red to come, first. -/
theorem start_at {S : St} {p : Nat} {F : Sf} (h1 : 1 ≤ S.groups.length) (hf : F.flashed = false) (h0 : 0 ≤ F.start) : ∀ n : Nat, (atT S p F n).flashed = false ∧ (atT S p F n).start = max (F.start - n) 0
  | 0 => ⟨hf, by show F.start = _; omega⟩
  | n + 1 => by
    obtain ⟨a, b⟩ := start_at h1 hf h0 n
    refine ⟨step_fl h1, ?_⟩
    rw [atT_succ, step_st h1, a, b]
    simp
    omega
theorem start_goes {S : St} {F : Sf} (hg : goesV S F = true) : 0 ≤ F.start ∧ F.start ≤ 1048576 := (mayS_parts (goes_parts hg).1).2.1
theorem ends_start {S : St} {p : Nat} {F : Sf} (hs : siteB S = true) (hg : goesV S F = true) (hf : F.flashed = false) (hpl : p < S.phases.length) : fullB S (atT S p F (F.start.toNat + (worT S).toNat)) p = true := by
  have ht := tur_facts hs
  have h0 := (start_goes hg).1
  rw [atT_add]
  obtain ⟨a, b⟩ := start_at (p := p) ht.g0 hf h0 F.start.toNat
  exact ends_calm hs (goes_at hs hg _) ⟨a, by rw [b]; omega⟩ hpl
/-- All flash, first. -/
theorem ends_flash {S : St} {p : Nat} {F : Sf} (hs : siteB S = true) (hg : goesV S F = true) (hf : F.flashed = true) (hpl : p < S.phases.length) : ∃ n : Nat, (n : Int) ≤ worT S + worstM S ∧ fullB S (atT S p F n) p = true := by
  have ht := tur_facts hs
  have hw0 := ht.w0
  have hm0 : 0 ≤ minM S := mxB_base _ _ _
  have hl0 : worstM S ≤ lonM S := mxB_base _ _ _
  have hg1 := goes_step (p := p) hs hg
  have f1 : (stepT S p F).flashed = false := step_fl ht.g0
  have s1 : (stepT S p F).start = max (worstM S - 1) 0 := by rw [step_st ht.g0, if_pos hf]
  by_cases hw : worstM S = 0
  · refine ⟨2, by unfold worT; omega, ?_⟩
    have hc1 : Calm (stepT S p F) := ⟨f1, by rw [s1]; omega⟩
    have hk := keeps_may hs
    refine fullB_iff.2 (fun i hi hp => ?_)
    show ((stepT S p (stepT S p F)).g i).asp = 2
    refine red_next hs hc1 hpl hi hp ?_ (fun j hj hpj hap => ?_)
    · rw [step_g hi]
      show letF S F (askV S p) i = 1
      unfold letF
      rw [if_neg (by rw [ask_not4 ht.g0]; decide), if_pos (.inl hf)]
    · exfalso
      have h1 := hk.yel j i hj hi (by rw [hk.sym j i hj hi]; exact hap)
      have := ht.bt j i hj hi
      have := ht.yel j hj
      omega
  · refine ⟨1 + ((stepT S p F).start.toNat + (worT S).toNat), by rw [s1]; unfold worT; omega, ?_⟩
    rw [atT_add]
    exact ends_start hs hg1 f1 hpl
/-- A phase has a group. -/
theorem phase_one {S : St} {p : Nat} (hs : siteB S = true) (hpl : p < S.phases.length) : ∃ i, i < S.groups.length ∧ inP S p i = true := by
  have h : phaseB S p = true := all_of hs 5 (by omega) p hpl
  unfold phaseB at h
  simp only [Bool.and_eq_true, decide_eq_true_eq] at h
  obtain ⟨i, hi⟩ := Nat.exists_testBit_of_ne_zero h.1.1.1.1.1.1.1
  refine ⟨i, ?_, hi⟩
  by_cases e : i < S.groups.length
  · exact e
  · have h1 : (S.ph p).groups < 2 ^ i := Nat.lt_of_lt_of_le h.1.1.1.1.1.1.2 (Nat.pow_le_pow_right (by omega) (by omega))
    rw [Nat.testBit_lt_two_pow h1] at hi
    cases hi
theorem full_calm {S : St} {p : Nat} {F : Sf} (hs : siteB S = true) (hg : goesV S F = true) (hpl : p < S.phases.length) (hfu : fullB S F p = true) : Calm F := by
  obtain ⟨i, hi, hp⟩ := phase_one hs hpl
  have h2 := fullB_iff.1 hfu i hi hp
  obtain ⟨hm, ha⟩ := goes_parts hg
  obtain ⟨hn, hst, _⟩ := mayS_parts hm
  have hai := ha i (by omega)
  rw [h2] at hai
  unfold aspG at hai
  cases hf : F.flashed
  · rw [if_neg (by rw [hf]; decide)] at hai
    refine ⟨hf, ?_⟩
    by_cases h0 : 0 < F.start
    · rw [if_pos h0] at hai; cases hai
    · omega
  · rw [if_pos hf] at hai; cases hai
/-- A phase that is full stays so. -/
theorem full_stays {S : St} {p : Nat} {F : Sf} (hs : siteB S = true) (hg : goesV S F = true) (hpl : p < S.phases.length) (hfu : fullB S F p = true) : fullB S (stepT S p F) p = true := by
  have hc := full_calm hs hg hpl hfu
  exact fullB_iff.2 (fun i hi hp => green_next (tur_facts hs).g0 hc hi hp (fullB_iff.1 hfu i hi hp))
theorem full_on {S : St} {p : Nat} {F : Sf} (hs : siteB S = true) (hg : goesV S F = true) (hpl : p < S.phases.length) (hfu : fullB S F p = true) : ∀ n, fullB S (atT S p F n) p = true
  | 0 => hfu
  | n + 1 => full_stays hs (goes_at hs hg n) hpl (full_on hs hg hpl hfu n)
/-- Once full, full at every later tick. -/
theorem full_from {S : St} {p : Nat} {F : Sf} (hs : siteB S = true) (hg : goesV S F = true) (hpl : p < S.phases.length) {n m : Nat} (hnm : n ≤ m) (hfu : fullB S (atT S p F n) p = true) : fullB S (atT S p F m) p = true := by
  obtain ⟨d, rfl⟩ : ∃ d, m = n + d := ⟨m - n, by omega⟩
  rw [atT_add]
  exact full_on hs (goes_at hs hg n) hpl hfu d
/-- In how many ticks it is full; none: not within MaxScript. -/
def stpO (S : St) (F : Sf) (p : Nat) : Option Nat := firstN (fun k => if fullB S (atT S p F k) p = true then 1 else 0) 4097
theorem stpO_some {S : St} {F : Sf} {p n : Nat} (h : stpO S F p = some n) : n ≤ 4096 ∧ fullB S (atT S p F n) p = true ∧ ∀ k, k < n → fullB S (atT S p F k) p = false := by
  unfold stpO at h
  rcases firstN_cases (fun k => if fullB S (atT S p F k) p = true then (1 : Int) else 0) 4097 with ⟨e, _⟩ | ⟨k, e, hk, hl, hne⟩
  · rw [e] at h; cases h
  · rw [e] at h
    injection h with h
    subst h
    refine ⟨by omega, ?_, fun j hj => ?_⟩
    · cases q : fullB S (atT S p F k) p
      · simp [q] at hne
      · rfl
    · have := hl j hj
      cases q : fullB S (atT S p F j) p
      · rfl
      · simp [q] at this
theorem stpO_le {S : St} {F : Sf} {p m : Nat} (hm : m ≤ 4096) (h : fullB S (atT S p F m) p = true) : ∃ n, n ≤ m ∧ stpO S F p = some n := by
  unfold stpO
  rcases firstN_cases (fun k => if fullB S (atT S p F k) p = true then (1 : Int) else 0) 4097 with ⟨_, e⟩ | ⟨k, e, hk, hl, hne⟩
  · have := e m (by omega)
    simp [h] at this
  · refine ⟨k, ?_, e⟩
    by_cases q : k ≤ m
    · exact q
    · have := hl m (by omega)
      simp [h] at this

end Go.Proofs.YtfhmfanmnhclfaaDoor

/-
  WHAT A CALL BEGINS WITH: a site, or a site and a standing, in boxes of its own.
-/
namespace Go.Proofs.YtfhmfanmnhclfaaDoor
open Go.RowKit Go.Lib Go.Deep
set_option linter.unusedVariables false
set_option linter.unusedSimpArgs false

structure Hd1 (w WA : World) (X : Sa) (S : St) : Prop where
  sb : Hid (Sbox WA w.heap.size X S)
  k : Hid (Kept w WA none)
  s : Hid (Sat WA X S)
  s0 : ∀ w', Kept WA w' none → w'.cell? ⟨w.heap.size, 0, none⟩ = some (.int .i64 S.id)
  s1 : ∀ w', Kept WA w' none → w'.cell? ⟨w.heap.size, 1, none⟩ = some (.slice X.g S.groups.length X.gc)
  s2 : ∀ w', Kept WA w' none → w'.cell? ⟨w.heap.size, 2, none⟩ = some (.slice X.a S.apart.length X.ac)
  s3 : ∀ w', Kept WA w' none → w'.cell? ⟨w.heap.size, 3, none⟩ = some (.slice X.b S.between.length X.bc)
  s4 : ∀ w', Kept WA w' none → w'.cell? ⟨w.heap.size, 4, none⟩ = some (.slice X.p S.phases.length X.pc)
  s5 : ∀ w', Kept WA w' none → w'.cell? ⟨w.heap.size, 5, none⟩ = some (.slice X.e S.eyes.length X.ec)
  s6 : ∀ w', Kept WA w' none → w'.cell? ⟨w.heap.size, 6, none⟩ = some (.int .i64 S.watch)
  s7 : ∀ w', Kept WA w' none → w'.cell? ⟨w.heap.size, 7, none⟩ = some (.int .i64 S.feed)
  s8 : ∀ w', Kept WA w' none → w'.cell? ⟨w.heap.size, 8, none⟩ = some (.int .i64 S.heal)
  s9 : ∀ w', Kept WA w' none → w'.cell? ⟨w.heap.size, 9, none⟩ = some (.int .i64 S.low)
  s10 : ∀ w', Kept WA w' none → w'.cell? ⟨w.heap.size, 10, none⟩ = some (.int .i64 S.high)
  s11 : ∀ w', Kept WA w' none → w'.cell? ⟨w.heap.size, 11, none⟩ = some (.slice X.l S.plans.length X.lc)
theorem hd1 {X : Sa} {S : St} {w WA : World} (h : Sat w X S) (e : (w.alloc (.cells #[.int .i64 S.id, .slice X.g S.groups.length X.gc, .slice X.a S.apart.length X.ac, .slice X.b S.between.length X.bc, .slice X.p S.phases.length X.pc, .slice X.e S.eyes.length X.ec, .int .i64 S.watch, .int .i64 S.feed, .int .i64 S.heal, .int .i64 S.low, .int .i64 S.high, .slice X.l S.plans.length X.lc] 35)) = WA) : Hd1 w WA X S := by
  have k1 : Kept w (w.alloc (.cells #[.int .i64 S.id, .slice X.g S.groups.length X.gc, .slice X.a S.apart.length X.ac, .slice X.b S.between.length X.bc, .slice X.p S.phases.length X.pc, .slice X.e S.eyes.length X.ec, .int .i64 S.watch, .int .i64 S.feed, .int .i64 S.heal, .int .i64 S.low, .int .i64 S.high, .slice X.l S.plans.length X.lc] 35)) none := Kept.alloc _ _ _ _ _
  have hsb := sbox_alloc h 35
  rw [e] at hsb k1
  exact ⟨hsb, k1, h.kept k1, fun w' q => (hsb.kept q).c0, fun w' q => (hsb.kept q).c1, fun w' q => (hsb.kept q).c2, fun w' q => (hsb.kept q).c3, fun w' q => (hsb.kept q).c4, fun w' q => (hsb.kept q).c5, fun w' q => (hsb.kept q).c6, fun w' q => (hsb.kept q).c7, fun w' q => (hsb.kept q).c8, fun w' q => (hsb.kept q).c9, fun w' q => (hsb.kept q).c10, fun w' q => (hsb.kept q).c11⟩
structure Hd2 (w WA : World) (X : Sa) (S : St) (a : Option Addr) (n c : Nat) (F : Sf) : Prop where
  sb : Hid (Sbox WA w.heap.size X S)
  bn : Hid (Box WA (w.heap.size + 1) (.slice a n c) (.int .i64 F.start) (.bool F.flashed))
  z : Hid (WA.heap.size = w.heap.size + 1 + 1)
  k : Hid (Kept w WA none)
  s : Hid (Sat WA X S)
  f : Hid (SafeAt WA a c F)
  n0 : ∀ w', Kept WA w' none → w'.cell? ⟨w.heap.size + 1, 0, none⟩ = some (.slice a n c)
  n1 : ∀ w', Kept WA w' none → w'.cell? ⟨w.heap.size + 1, 1, none⟩ = some (.int .i64 F.start)
  n2 : ∀ w', Kept WA w' none → w'.cell? ⟨w.heap.size + 1, 2, none⟩ = some (.bool F.flashed)
  s0 : ∀ w', Kept WA w' none → w'.cell? ⟨w.heap.size, 0, none⟩ = some (.int .i64 S.id)
  s1 : ∀ w', Kept WA w' none → w'.cell? ⟨w.heap.size, 1, none⟩ = some (.slice X.g S.groups.length X.gc)
  s2 : ∀ w', Kept WA w' none → w'.cell? ⟨w.heap.size, 2, none⟩ = some (.slice X.a S.apart.length X.ac)
  s3 : ∀ w', Kept WA w' none → w'.cell? ⟨w.heap.size, 3, none⟩ = some (.slice X.b S.between.length X.bc)
  s4 : ∀ w', Kept WA w' none → w'.cell? ⟨w.heap.size, 4, none⟩ = some (.slice X.p S.phases.length X.pc)
  s5 : ∀ w', Kept WA w' none → w'.cell? ⟨w.heap.size, 5, none⟩ = some (.slice X.e S.eyes.length X.ec)
  s6 : ∀ w', Kept WA w' none → w'.cell? ⟨w.heap.size, 6, none⟩ = some (.int .i64 S.watch)
  s7 : ∀ w', Kept WA w' none → w'.cell? ⟨w.heap.size, 7, none⟩ = some (.int .i64 S.feed)
  s8 : ∀ w', Kept WA w' none → w'.cell? ⟨w.heap.size, 8, none⟩ = some (.int .i64 S.heal)
  s9 : ∀ w', Kept WA w' none → w'.cell? ⟨w.heap.size, 9, none⟩ = some (.int .i64 S.low)
  s10 : ∀ w', Kept WA w' none → w'.cell? ⟨w.heap.size, 10, none⟩ = some (.int .i64 S.high)
  s11 : ∀ w', Kept WA w' none → w'.cell? ⟨w.heap.size, 11, none⟩ = some (.slice X.l S.plans.length X.lc)
theorem hd2 {X : Sa} {S : St} {w WA : World} {a : Option Addr} {n c : Nat} {F : Sf} (h : Sat w X S) (hF : SafeAt w a c F) (e : ((w.alloc (.cells #[.int .i64 S.id, .slice X.g S.groups.length X.gc, .slice X.a S.apart.length X.ac, .slice X.b S.between.length X.bc, .slice X.p S.phases.length X.pc, .slice X.e S.eyes.length X.ec, .int .i64 S.watch, .int .i64 S.feed, .int .i64 S.heal, .int .i64 S.low, .int .i64 S.high, .slice X.l S.plans.length X.lc] 35)).alloc (.cells #[.slice a n c, .int .i64 F.start, .bool F.flashed] 61)) = WA) : Hd2 w WA X S a n c F := by
  have k1 : Kept w (w.alloc (.cells #[.int .i64 S.id, .slice X.g S.groups.length X.gc, .slice X.a S.apart.length X.ac, .slice X.b S.between.length X.bc, .slice X.p S.phases.length X.pc, .slice X.e S.eyes.length X.ec, .int .i64 S.watch, .int .i64 S.feed, .int .i64 S.heal, .int .i64 S.low, .int .i64 S.high, .slice X.l S.plans.length X.lc] 35)) none := Kept.alloc _ _ _ _ _
  have k2 : Kept (w.alloc (.cells #[.int .i64 S.id, .slice X.g S.groups.length X.gc, .slice X.a S.apart.length X.ac, .slice X.b S.between.length X.bc, .slice X.p S.phases.length X.pc, .slice X.e S.eyes.length X.ec, .int .i64 S.watch, .int .i64 S.feed, .int .i64 S.heal, .int .i64 S.low, .int .i64 S.high, .slice X.l S.plans.length X.lc] 35)) ((w.alloc (.cells #[.int .i64 S.id, .slice X.g S.groups.length X.gc, .slice X.a S.apart.length X.ac, .slice X.b S.between.length X.bc, .slice X.p S.phases.length X.pc, .slice X.e S.eyes.length X.ec, .int .i64 S.watch, .int .i64 S.feed, .int .i64 S.heal, .int .i64 S.low, .int .i64 S.high, .slice X.l S.plans.length X.lc] 35)).alloc (.cells #[.slice a n c, .int .i64 F.start, .bool F.flashed] 61)) none := Kept.alloc _ _ _ _ _
  have hsb := (sbox_alloc h 35).kept k2
  have bn := box_alloc (w.alloc (.cells #[.int .i64 S.id, .slice X.g S.groups.length X.gc, .slice X.a S.apart.length X.ac, .slice X.b S.between.length X.bc, .slice X.p S.phases.length X.pc, .slice X.e S.eyes.length X.ec, .int .i64 S.watch, .int .i64 S.feed, .int .i64 S.heal, .int .i64 S.low, .int .i64 S.high, .slice X.l S.plans.length X.lc] 35)) (.slice a n c) (.int .i64 F.start) (.bool F.flashed) 61
  rw [World.size_alloc] at bn
  have hsz : ((w.alloc (.cells #[.int .i64 S.id, .slice X.g S.groups.length X.gc, .slice X.a S.apart.length X.ac, .slice X.b S.between.length X.bc, .slice X.p S.phases.length X.pc, .slice X.e S.eyes.length X.ec, .int .i64 S.watch, .int .i64 S.feed, .int .i64 S.heal, .int .i64 S.low, .int .i64 S.high, .slice X.l S.plans.length X.lc] 35)).alloc (.cells #[.slice a n c, .int .i64 F.start, .bool F.flashed] 61)).heap.size = w.heap.size + 1 + 1 := by simp
  have hkA := k1.tr k2
  rw [e] at hsb bn hkA hsz
  exact ⟨hsb, bn, hsz, hkA, h.kept hkA, hF.kept hkA, fun w' q => (bn.kept q).c0, fun w' q => (bn.kept q).c1, fun w' q => (bn.kept q).c2, fun w' q => (hsb.kept q).c0, fun w' q => (hsb.kept q).c1, fun w' q => (hsb.kept q).c2, fun w' q => (hsb.kept q).c3, fun w' q => (hsb.kept q).c4, fun w' q => (hsb.kept q).c5, fun w' q => (hsb.kept q).c6, fun w' q => (hsb.kept q).c7, fun w' q => (hsb.kept q).c8, fun w' q => (hsb.kept q).c9, fun w' q => (hsb.kept q).c10, fun w' q => (hsb.kept q).c11⟩

end Go.Proofs.YtfhmfanmnhclfaaDoor

/-
  WHAT A CALL BEGINS WITH: a site and a plan in boxes of its own (made by a program).
-/
namespace Go.Proofs.YtfhmfanmnhclfaaDoor
open Go.RowKit Go.Lib Go.Deep
set_option linter.unusedVariables false
set_option linter.unusedSimpArgs false

structure Hdp (w WA : World) (X : Sa) (S : St) (P : Pl) (a : Option Addr) (c : Nat) : Prop where
  sb : Hid (Sbox WA w.heap.size X S)
  bp : Hid (Box WA (w.heap.size + 1) (.int .i64 P.cycle) (.int .i64 P.offset) (.slice a P.splits.length c))
  z : Hid (WA.heap.size = w.heap.size + 1 + 1)
  k : Hid (Kept w WA none)
  s : Hid (Sat WA X S)
  i : Hid (Ints WA a P.splits.length c P.splits)
  p0 : ∀ w', Kept WA w' none → w'.cell? ⟨w.heap.size + 1, 0, none⟩ = some (.int .i64 P.cycle)
  p1 : ∀ w', Kept WA w' none → w'.cell? ⟨w.heap.size + 1, 1, none⟩ = some (.int .i64 P.offset)
  p2 : ∀ w', Kept WA w' none → w'.cell? ⟨w.heap.size + 1, 2, none⟩ = some (.slice a P.splits.length c)
  s0 : ∀ w', Kept WA w' none → w'.cell? ⟨w.heap.size, 0, none⟩ = some (.int .i64 S.id)
  s1 : ∀ w', Kept WA w' none → w'.cell? ⟨w.heap.size, 1, none⟩ = some (.slice X.g S.groups.length X.gc)
  s2 : ∀ w', Kept WA w' none → w'.cell? ⟨w.heap.size, 2, none⟩ = some (.slice X.a S.apart.length X.ac)
  s3 : ∀ w', Kept WA w' none → w'.cell? ⟨w.heap.size, 3, none⟩ = some (.slice X.b S.between.length X.bc)
  s4 : ∀ w', Kept WA w' none → w'.cell? ⟨w.heap.size, 4, none⟩ = some (.slice X.p S.phases.length X.pc)
  s5 : ∀ w', Kept WA w' none → w'.cell? ⟨w.heap.size, 5, none⟩ = some (.slice X.e S.eyes.length X.ec)
  s6 : ∀ w', Kept WA w' none → w'.cell? ⟨w.heap.size, 6, none⟩ = some (.int .i64 S.watch)
  s7 : ∀ w', Kept WA w' none → w'.cell? ⟨w.heap.size, 7, none⟩ = some (.int .i64 S.feed)
  s8 : ∀ w', Kept WA w' none → w'.cell? ⟨w.heap.size, 8, none⟩ = some (.int .i64 S.heal)
  s9 : ∀ w', Kept WA w' none → w'.cell? ⟨w.heap.size, 9, none⟩ = some (.int .i64 S.low)
  s10 : ∀ w', Kept WA w' none → w'.cell? ⟨w.heap.size, 10, none⟩ = some (.int .i64 S.high)
  s11 : ∀ w', Kept WA w' none → w'.cell? ⟨w.heap.size, 11, none⟩ = some (.slice X.l S.plans.length X.lc)
theorem hdp {X : Sa} {S : St} {w WA : World} {P : Pl} {a : Option Addr} {c : Nat} (h : Sat w X S) (hI : Ints w a P.splits.length c P.splits) (e : ((w.alloc (.cells #[.int .i64 S.id, .slice X.g S.groups.length X.gc, .slice X.a S.apart.length X.ac, .slice X.b S.between.length X.bc, .slice X.p S.phases.length X.pc, .slice X.e S.eyes.length X.ec, .int .i64 S.watch, .int .i64 S.feed, .int .i64 S.heal, .int .i64 S.low, .int .i64 S.high, .slice X.l S.plans.length X.lc] 35)).alloc (.cells #[.int .i64 P.cycle, .int .i64 P.offset, .slice a P.splits.length c] 24)) = WA) : Hdp w WA X S P a c := by
  have k1 : Kept w (w.alloc (.cells #[.int .i64 S.id, .slice X.g S.groups.length X.gc, .slice X.a S.apart.length X.ac, .slice X.b S.between.length X.bc, .slice X.p S.phases.length X.pc, .slice X.e S.eyes.length X.ec, .int .i64 S.watch, .int .i64 S.feed, .int .i64 S.heal, .int .i64 S.low, .int .i64 S.high, .slice X.l S.plans.length X.lc] 35)) none := Kept.alloc _ _ _ _ _
  have k2 : Kept (w.alloc (.cells #[.int .i64 S.id, .slice X.g S.groups.length X.gc, .slice X.a S.apart.length X.ac, .slice X.b S.between.length X.bc, .slice X.p S.phases.length X.pc, .slice X.e S.eyes.length X.ec, .int .i64 S.watch, .int .i64 S.feed, .int .i64 S.heal, .int .i64 S.low, .int .i64 S.high, .slice X.l S.plans.length X.lc] 35)) ((w.alloc (.cells #[.int .i64 S.id, .slice X.g S.groups.length X.gc, .slice X.a S.apart.length X.ac, .slice X.b S.between.length X.bc, .slice X.p S.phases.length X.pc, .slice X.e S.eyes.length X.ec, .int .i64 S.watch, .int .i64 S.feed, .int .i64 S.heal, .int .i64 S.low, .int .i64 S.high, .slice X.l S.plans.length X.lc] 35)).alloc (.cells #[.int .i64 P.cycle, .int .i64 P.offset, .slice a P.splits.length c] 24)) none := Kept.alloc _ _ _ _ _
  have hsb := (sbox_alloc h 35).kept k2
  have bp := box_alloc (w.alloc (.cells #[.int .i64 S.id, .slice X.g S.groups.length X.gc, .slice X.a S.apart.length X.ac, .slice X.b S.between.length X.bc, .slice X.p S.phases.length X.pc, .slice X.e S.eyes.length X.ec, .int .i64 S.watch, .int .i64 S.feed, .int .i64 S.heal, .int .i64 S.low, .int .i64 S.high, .slice X.l S.plans.length X.lc] 35)) (.int .i64 P.cycle) (.int .i64 P.offset) (.slice a P.splits.length c) 24
  rw [World.size_alloc] at bp
  have hkA := k1.tr k2
  have hsz : ((w.alloc (.cells #[.int .i64 S.id, .slice X.g S.groups.length X.gc, .slice X.a S.apart.length X.ac, .slice X.b S.between.length X.bc, .slice X.p S.phases.length X.pc, .slice X.e S.eyes.length X.ec, .int .i64 S.watch, .int .i64 S.feed, .int .i64 S.heal, .int .i64 S.low, .int .i64 S.high, .slice X.l S.plans.length X.lc] 35)).alloc (.cells #[.int .i64 P.cycle, .int .i64 P.offset, .slice a P.splits.length c] 24)).heap.size = w.heap.size + 1 + 1 := by simp
  rw [e] at hsb bp hkA hsz
  exact ⟨hsb, bp, hsz, hkA, h.kept hkA, hI.kept hkA, fun w' q => (bp.kept q).c0, fun w' q => (bp.kept q).c1, fun w' q => (bp.kept q).c2, fun w' q => (hsb.kept q).c0, fun w' q => (hsb.kept q).c1, fun w' q => (hsb.kept q).c2, fun w' q => (hsb.kept q).c3, fun w' q => (hsb.kept q).c4, fun w' q => (hsb.kept q).c5, fun w' q => (hsb.kept q).c6, fun w' q => (hsb.kept q).c7, fun w' q => (hsb.kept q).c8, fun w' q => (hsb.kept q).c9, fun w' q => (hsb.kept q).c10, fun w' q => (hsb.kept q).c11⟩
structure Hdpz (w WA : World) (X : Sa) (S : St) (P : Pl) (a : Option Addr) (c : Nat) : Prop where
  sb : Hid (Sbox WA w.heap.size X S)
  bp : Hid (Box WA (w.heap.size + 1) (.int .i64 P.cycle) (.int .i64 P.offset) (.slice a P.splits.length c))
  z : Hid (WA.heap.size = w.heap.size + 1 + 1 + 1)
  k : Hid (Kept w WA none)
  s : Hid (Sat WA X S)
  i : Hid (Ints WA a P.splits.length c P.splits)
  p0 : ∀ w', Kept WA w' none → w'.cell? ⟨w.heap.size + 1, 0, none⟩ = some (.int .i64 P.cycle)
  p1 : ∀ w', Kept WA w' none → w'.cell? ⟨w.heap.size + 1, 1, none⟩ = some (.int .i64 P.offset)
  p2 : ∀ w', Kept WA w' none → w'.cell? ⟨w.heap.size + 1, 2, none⟩ = some (.slice a P.splits.length c)
  s0 : ∀ w', Kept WA w' none → w'.cell? ⟨w.heap.size, 0, none⟩ = some (.int .i64 S.id)
  s1 : ∀ w', Kept WA w' none → w'.cell? ⟨w.heap.size, 1, none⟩ = some (.slice X.g S.groups.length X.gc)
  s2 : ∀ w', Kept WA w' none → w'.cell? ⟨w.heap.size, 2, none⟩ = some (.slice X.a S.apart.length X.ac)
  s3 : ∀ w', Kept WA w' none → w'.cell? ⟨w.heap.size, 3, none⟩ = some (.slice X.b S.between.length X.bc)
  s4 : ∀ w', Kept WA w' none → w'.cell? ⟨w.heap.size, 4, none⟩ = some (.slice X.p S.phases.length X.pc)
  s5 : ∀ w', Kept WA w' none → w'.cell? ⟨w.heap.size, 5, none⟩ = some (.slice X.e S.eyes.length X.ec)
  s6 : ∀ w', Kept WA w' none → w'.cell? ⟨w.heap.size, 6, none⟩ = some (.int .i64 S.watch)
  s7 : ∀ w', Kept WA w' none → w'.cell? ⟨w.heap.size, 7, none⟩ = some (.int .i64 S.feed)
  s8 : ∀ w', Kept WA w' none → w'.cell? ⟨w.heap.size, 8, none⟩ = some (.int .i64 S.heal)
  s9 : ∀ w', Kept WA w' none → w'.cell? ⟨w.heap.size, 9, none⟩ = some (.int .i64 S.low)
  s10 : ∀ w', Kept WA w' none → w'.cell? ⟨w.heap.size, 10, none⟩ = some (.int .i64 S.high)
  s11 : ∀ w', Kept WA w' none → w'.cell? ⟨w.heap.size, 11, none⟩ = some (.slice X.l S.plans.length X.lc)
  bz : Hid (Box WA (w.heap.size + 1 + 1) (.int .i64 0) (.int .i64 0) (.slice none 0 0))
theorem hdpz {X : Sa} {S : St} {w WA : World} {P : Pl} {a : Option Addr} {c : Nat} (h : Sat w X S) (hI : Ints w a P.splits.length c P.splits) (e : (((w.alloc (.cells #[.int .i64 S.id, .slice X.g S.groups.length X.gc, .slice X.a S.apart.length X.ac, .slice X.b S.between.length X.bc, .slice X.p S.phases.length X.pc, .slice X.e S.eyes.length X.ec, .int .i64 S.watch, .int .i64 S.feed, .int .i64 S.heal, .int .i64 S.low, .int .i64 S.high, .slice X.l S.plans.length X.lc] 35)).alloc (.cells #[.int .i64 P.cycle, .int .i64 P.offset, .slice a P.splits.length c] 24)).alloc (.cells #[.int .i64 0, .int .i64 0, .slice none 0 0] 24)) = WA) : Hdpz w WA X S P a c := by
  have k1 : Kept w (w.alloc (.cells #[.int .i64 S.id, .slice X.g S.groups.length X.gc, .slice X.a S.apart.length X.ac, .slice X.b S.between.length X.bc, .slice X.p S.phases.length X.pc, .slice X.e S.eyes.length X.ec, .int .i64 S.watch, .int .i64 S.feed, .int .i64 S.heal, .int .i64 S.low, .int .i64 S.high, .slice X.l S.plans.length X.lc] 35)) none := Kept.alloc _ _ _ _ _
  have k2 : Kept (w.alloc (.cells #[.int .i64 S.id, .slice X.g S.groups.length X.gc, .slice X.a S.apart.length X.ac, .slice X.b S.between.length X.bc, .slice X.p S.phases.length X.pc, .slice X.e S.eyes.length X.ec, .int .i64 S.watch, .int .i64 S.feed, .int .i64 S.heal, .int .i64 S.low, .int .i64 S.high, .slice X.l S.plans.length X.lc] 35)) ((w.alloc (.cells #[.int .i64 S.id, .slice X.g S.groups.length X.gc, .slice X.a S.apart.length X.ac, .slice X.b S.between.length X.bc, .slice X.p S.phases.length X.pc, .slice X.e S.eyes.length X.ec, .int .i64 S.watch, .int .i64 S.feed, .int .i64 S.heal, .int .i64 S.low, .int .i64 S.high, .slice X.l S.plans.length X.lc] 35)).alloc (.cells #[.int .i64 P.cycle, .int .i64 P.offset, .slice a P.splits.length c] 24)) none := Kept.alloc _ _ _ _ _
  have hsb := (sbox_alloc h 35).kept k2
  have bp := box_alloc (w.alloc (.cells #[.int .i64 S.id, .slice X.g S.groups.length X.gc, .slice X.a S.apart.length X.ac, .slice X.b S.between.length X.bc, .slice X.p S.phases.length X.pc, .slice X.e S.eyes.length X.ec, .int .i64 S.watch, .int .i64 S.feed, .int .i64 S.heal, .int .i64 S.low, .int .i64 S.high, .slice X.l S.plans.length X.lc] 35)) (.int .i64 P.cycle) (.int .i64 P.offset) (.slice a P.splits.length c) 24
  rw [World.size_alloc] at bp
  have k3 : Kept ((w.alloc (.cells #[.int .i64 S.id, .slice X.g S.groups.length X.gc, .slice X.a S.apart.length X.ac, .slice X.b S.between.length X.bc, .slice X.p S.phases.length X.pc, .slice X.e S.eyes.length X.ec, .int .i64 S.watch, .int .i64 S.feed, .int .i64 S.heal, .int .i64 S.low, .int .i64 S.high, .slice X.l S.plans.length X.lc] 35)).alloc (.cells #[.int .i64 P.cycle, .int .i64 P.offset, .slice a P.splits.length c] 24)) (((w.alloc (.cells #[.int .i64 S.id, .slice X.g S.groups.length X.gc, .slice X.a S.apart.length X.ac, .slice X.b S.between.length X.bc, .slice X.p S.phases.length X.pc, .slice X.e S.eyes.length X.ec, .int .i64 S.watch, .int .i64 S.feed, .int .i64 S.heal, .int .i64 S.low, .int .i64 S.high, .slice X.l S.plans.length X.lc] 35)).alloc (.cells #[.int .i64 P.cycle, .int .i64 P.offset, .slice a P.splits.length c] 24)).alloc (.cells #[.int .i64 0, .int .i64 0, .slice none 0 0] 24)) none := Kept.alloc _ _ _ _ _
  have bz := box_alloc ((w.alloc (.cells #[.int .i64 S.id, .slice X.g S.groups.length X.gc, .slice X.a S.apart.length X.ac, .slice X.b S.between.length X.bc, .slice X.p S.phases.length X.pc, .slice X.e S.eyes.length X.ec, .int .i64 S.watch, .int .i64 S.feed, .int .i64 S.heal, .int .i64 S.low, .int .i64 S.high, .slice X.l S.plans.length X.lc] 35)).alloc (.cells #[.int .i64 P.cycle, .int .i64 P.offset, .slice a P.splits.length c] 24)) (.int .i64 0) (.int .i64 0) (.slice none 0 0) 24
  rw [World.size_alloc, World.size_alloc] at bz
  have hsb := hsb.kept k3
  have bp := bp.kept k3
  have hkA := (k1.tr k2).tr k3
  have hsz : (((w.alloc (.cells #[.int .i64 S.id, .slice X.g S.groups.length X.gc, .slice X.a S.apart.length X.ac, .slice X.b S.between.length X.bc, .slice X.p S.phases.length X.pc, .slice X.e S.eyes.length X.ec, .int .i64 S.watch, .int .i64 S.feed, .int .i64 S.heal, .int .i64 S.low, .int .i64 S.high, .slice X.l S.plans.length X.lc] 35)).alloc (.cells #[.int .i64 P.cycle, .int .i64 P.offset, .slice a P.splits.length c] 24)).alloc (.cells #[.int .i64 0, .int .i64 0, .slice none 0 0] 24)).heap.size = w.heap.size + 1 + 1 + 1 := by simp
  rw [e] at hsb bp hkA hsz bz
  exact ⟨hsb, bp, hsz, hkA, h.kept hkA, hI.kept hkA, fun w' q => (bp.kept q).c0, fun w' q => (bp.kept q).c1, fun w' q => (bp.kept q).c2, fun w' q => (hsb.kept q).c0, fun w' q => (hsb.kept q).c1, fun w' q => (hsb.kept q).c2, fun w' q => (hsb.kept q).c3, fun w' q => (hsb.kept q).c4, fun w' q => (hsb.kept q).c5, fun w' q => (hsb.kept q).c6, fun w' q => (hsb.kept q).c7, fun w' q => (hsb.kept q).c8, fun w' q => (hsb.kept q).c9, fun w' q => (hsb.kept q).c10, fun w' q => (hsb.kept q).c11, bz⟩

end Go.Proofs.YtfhmfanmnhclfaaDoor

