/-
  Texts joined: some of those that the proofs of this seat stand on.
-/
import Derived.Test.YtkbhcpgdhbfhnaaDoorSafeKJ
import Derived.Test.YtkbhcpgdhbfhnaaDoorApartM
import Derived.Laws.EntriesVeiled
/-
  WHAT IS LET THROUGH, in numbers: which standings go on, what is let through of what is asked, that it has no fault and that what has none is let through as it is; no text of the program.
-/
namespace Go.Proofs.YtkbhcpgdhbfhnaaDoor
open Go.RowKit Go.Lib Go.Deep
set_option linter.unusedVariables false
set_option linter.unusedSimpArgs false

theorem want_may9 (m y a s q : Int) (ha : 1 ≤ a ∧ a ≤ 3) : mayV m y a s (wantV m y a s q) = 0 := by
  unfold mayV wantV
  repeat' split
  all_goals first | rfl | omega
theorem may_want9 (m y a s q : Int) (ha : 1 ≤ a ∧ a ≤ 3) (h : mayV m y a s q = 0) : wantV m y a s q = q := by
  unfold mayV at h; unfold wantV
  repeat' split at h
  all_goals (repeat' split)
  all_goals first | omega | (exfalso; omega)
/-- An aspect that a group may show in a standing that goes on. -/
def aspG (F : Sf) (a : Nat) : Bool := if F.flashed = true then a == 4 else if 0 < F.start then a == 1 else (a == 1 || (a == 2 || a == 3))
def goesV (S : St) (F : Sf) : Bool := mayS S F && allB F.groups.length (fun i => aspG F (F.g i).asp)
/-- What lamp.Want tells of each group. -/
def wantN (S : St) (F : Sf) (A : List Nat) (i : Nat) : Nat := (wantV (S.gr i).min (S.gr i).yellow (F.g i).asp (F.g i).since (lg A i)).toNat
def w1F (S : St) (F : Sf) (A : List Nat) (i : Nat) : Nat := if (F.g i).asp = 1 then 1 else wantN S F A i
def barB (S : St) (F : Sf) (f : Nat → Nat) (it that : Nat) : Bool := (S.ap it).testBit that && (!(f that == 1) || decide ((F.g that).ended < S.bt that it))
def openB (S : St) (F : Sf) (n : Nat) (f : Nat → Nat) (it : Nat) : Bool := allB n (fun j => !barB S F f it j)
/-- Behind the first k of the second pass. -/
def turnB (S : St) (F : Sf) (A : List Nat) (n : Nat) (f : Nat → Nat) (k : Nat) : Bool := ((F.g k).asp == 1) && ((lg A k == 2) && openB S F n f k)
def p2F (S : St) (F : Sf) (A : List Nat) (n : Nat) : Nat → Nat → Nat
  | 0, j => w1F S F A j
  | k + 1, j => if j = k ∧ turnB S F A n (p2F S F A n k) k = true then 2 else p2F S F A n k j
def letF (S : St) (F : Sf) (A : List Nat) (j : Nat) : Nat := if allIs A 4 = true then 4 else if F.flashed = true ∨ 0 < F.start then 1 else p2F S F A A.length A.length j
def letV (S : St) (F : Sf) (A : List Nat) : List Nat := (List.range A.length).map (letF S F A)
theorem letV_len (S : St) (F : Sf) (A : List Nat) : (letV S F A).length = A.length := by simp [letV]
theorem letV_lg {S : St} {F : Sf} {A : List Nat} {i : Nat} (h : i < A.length) : lg (letV S F A) i = letF S F A i := by simp [letV, lg, h]

theorem barB_congr {S : St} {F : Sf} {f g : Nat → Nat} {it that : Nat} (h : f that = g that) : barB S F f it that = barB S F g it that := by unfold barB; rw [h]
theorem openB_congr {S : St} {F : Sf} {n : Nat} {f g : Nat → Nat} {it : Nat} (h : ∀ j, j < n → f j = g j) : openB S F n f it = openB S F n g it := by
  unfold openB
  have : ∀ j, j < n → (!barB S F f it j) = !barB S F g it j := fun j hj => by rw [barB_congr (h j hj)]
  cases e : allB n (fun j => !barB S F g it j) with
  | true => exact allB_iff.2 (fun j hj => (this j hj).trans (allB_iff.1 e j hj))
  | false =>
    cases e2 : allB n (fun j => !barB S F f it j) with
    | false => rfl
    | true =>
      have : allB n (fun j => !barB S F g it j) = true := allB_iff.2 (fun j hj => (this j hj).symm.trans (allB_iff.1 e2 j hj))
      rw [this] at e; cases e
theorem openB_at {S : St} {F : Sf} {n : Nat} {f : Nat → Nat} {it that : Nat} (h : openB S F n f it = true) (ht : that < n) (ha : (S.ap it).testBit that = true) : f that = 1 ∧ S.bt that it ≤ (F.g that).ended := by
  have := allB_iff.1 h that ht
  unfold barB at this
  rw [ha] at this
  simp at this
  exact this

/-! ### The second pass -/
theorem p2F_late {S : St} {F : Sf} {A : List Nat} {n : Nat} : ∀ {k j : Nat}, k ≤ j → p2F S F A n k j = w1F S F A j
  | 0, _, _ => rfl
  | k + 1, j, h => by rw [p2F, if_neg (by rintro ⟨e, _⟩; omega)]; exact p2F_late (by omega)
theorem p2F_other {S : St} {F : Sf} {A : List Nat} {n j : Nat} (h : (F.g j).asp ≠ 1) : ∀ k, p2F S F A n k j = wantN S F A j
  | 0 => by show w1F S F A j = _; unfold w1F; rw [if_neg h]
  | k + 1 => by
    rw [p2F, if_neg]
    · exact p2F_other h k
    · rintro ⟨rfl, e⟩
      unfold turnB at e
      simp at e
      exact h e.1
theorem p2F_stay {S : St} {F : Sf} {A : List Nat} {n : Nat} : ∀ {k j : Nat}, j < k → p2F S F A n k j = p2F S F A n (j + 1) j
  | 0, _, h => by omega
  | k + 1, j, h => by
    by_cases e : j = k
    · subst e; rfl
    · rw [p2F, if_neg (by rintro ⟨e', _⟩; exact e e')]; exact p2F_stay (by omega)
theorem p2F_red {S : St} {F : Sf} {A : List Nat} {n j : Nat} (h : (F.g j).asp = 1) (k : Nat) : (p2F S F A n k j = 1 ∧ (j < k → turnB S F A n (p2F S F A n j) j = false)) ∨ (p2F S F A n k j = 2 ∧ j < k ∧ turnB S F A n (p2F S F A n j) j = true) := by
  by_cases hk : j < k
  · rw [p2F_stay hk]
    cases e : turnB S F A n (p2F S F A n j) j with
    | true => exact .inr ⟨by rw [p2F, if_pos ⟨rfl, e⟩], hk, rfl⟩
    | false =>
      refine .inl ⟨?_, fun _ => rfl⟩
      rw [p2F, if_neg (by rw [e]; rintro ⟨_, h⟩; cases h), p2F_late (Nat.le_refl _)]
      unfold w1F; rw [if_pos h]
  · refine .inl ⟨?_, fun h => absurd h hk⟩
    rw [p2F_late (by omega)]
    unfold w1F; rw [if_pos h]
theorem turnB_out {S : St} {F : Sf} {A : List Nat} {n j : Nat} {f : Nat → Nat} (h : turnB S F A n f j = true) : (F.g j).asp = 1 ∧ lg A j = 2 ∧ openB S F n f j = true := by
  unfold turnB at h
  simp at h
  exact h
theorem want_rng (m y s q : Int) (a : Nat) : 1 ≤ wantV m y a s q ∧ wantV m y a s q ≤ 3 := by
  unfold wantV
  repeat' split
  all_goals omega
theorem wantN_int (S : St) (F : Sf) (A : List Nat) (i : Nat) : ((wantN S F A i : Nat) : Int) = wantV (S.gr i).min (S.gr i).yellow (F.g i).asp (F.g i).since (lg A i) := by
  have := want_rng (S.gr i).min (S.gr i).yellow (F.g i).since (lg A i) (F.g i).asp
  unfold wantN
  omega
theorem wantN_rng (S : St) (F : Sf) (A : List Nat) (i : Nat) : 1 ≤ wantN S F A i ∧ wantN S F A i ≤ 3 := by
  have := want_rng (S.gr i).min (S.gr i).yellow (F.g i).since (lg A i) (F.g i).asp
  have := wantN_int S F A i
  omega
theorem p2F_rng (S : St) (F : Sf) (A : List Nat) (n k j : Nat) : 1 ≤ p2F S F A n k j ∧ p2F S F A n k j ≤ 3 := by
  by_cases h : (F.g j).asp = 1
  · rcases p2F_red (S := S) (A := A) (n := n) h k with e | e <;> omega
  · rw [p2F_other h]; exact wantN_rng S F A j
theorem letF_rng (S : St) (F : Sf) (A : List Nat) (j : Nat) : 1 ≤ letF S F A j ∧ letF S F A j ≤ 4 := by
  unfold letF
  split
  · omega
  · split
    · omega
    · have := p2F_rng S F A A.length A.length j; omega

/-! ### What a standing that goes on tells -/
theorem mayS_parts {S : St} {F : Sf} (h : mayS S F = true) : F.groups.length = S.groups.length ∧ (0 ≤ F.start ∧ F.start ≤ 1048576) ∧ (mtB S (shown F) = false ∨ allIs (shown F) 4 = true) := by
  unfold mayS at h
  simp only [Bool.and_eq_true, decide_eq_true_eq, inB_iff, Bool.or_eq_true, Bool.not_eq_true'] at h
  exact ⟨h.1, h.2.1, h.2.2⟩
theorem goes_parts {S : St} {F : Sf} (h : goesV S F = true) : mayS S F = true ∧ ∀ i, i < F.groups.length → aspG F (F.g i).asp = true := by
  unfold goesV at h
  rw [Bool.and_eq_true, allB_iff] at h
  exact h
theorem aspG_in {F : Sf} {a : Nat} (hf : F.flashed = false) (h : aspG F a = true) : 1 ≤ a ∧ a ≤ 3 := by
  unfold aspG at h
  rw [if_neg (by rw [hf]; decide)] at h
  split at h
  · have : a = 1 := by simpa using h
    omega
  · simp at h; omega
theorem aspG_start {F : Sf} {a : Nat} (hf : F.flashed = false) (hs : 0 < F.start) (h : aspG F a = true) : a = 1 := by
  unfold aspG at h
  rw [if_neg (by rw [hf]; decide), if_pos hs] at h
  simpa using h
theorem pairM_no {S : St} {L : List Nat} (hs : siteB S = true) (hl : L.length = S.groups.length) (h : mtB S L = false) {a b : Nat} (ha : a < L.length) (hb : b < L.length) (hab : (S.ap a).testBit b = true) (h1 : lg L a ≠ 1) : lg L b = 1 := by
  have hk := keeps_may hs
  by_cases e : lg L b = 1
  · exact e
  · exfalso
    have hne : a ≠ b := fun e => by subst e; rw [hk.own a (by omega)] at hab; cases hab
    by_cases hlt : b < a
    · have := mtB_iff.1 h a ha b hlt
      unfold pairM at this
      simp [h1, e, hab] at this
    · have := mtB_iff.1 h b hb a (by omega)
      unfold pairM at this
      rw [hk.sym a b (by omega) (by omega)] at hab
      simp [h1, e, hab] at this

/-! ### Without a fault -/
theorem fault_zero {S : St} {F : Sf} {L : List Nat} (hl : L.length = S.groups.length) (h : allIs L 4 = true ∨ (hasIt L 4 = false ∧ ((F.flashed = true ∨ 0 < F.start) → allIs L 1 = true) ∧ oneV S F L = 0 ∧ mtB S L = false ∧ soonB S F L = false)) : faultV S F L = 0 := by
  unfold faultV
  rw [if_neg (by simp [hl])]
  rcases h with h | ⟨h1, h2, h3, h4, h5⟩
  · rw [if_pos h]
  · split
    · rfl
    · rw [if_neg (by simp [h1]), if_neg, if_neg (by simp [h3]), if_neg (by simp [h4]), if_neg (by simp [h5])]
      rintro ⟨e, e2⟩
      rw [h2 e] at e2; cases e2
theorem fault_out {S : St} {F : Sf} {L : List Nat} (h : faultV S F L = 0) : L.length = S.groups.length ∧ (allIs L 4 = true ∨ (hasIt L 4 = false ∧ ((F.flashed = true ∨ 0 < F.start) → allIs L 1 = true) ∧ oneV S F L = 0 ∧ mtB S L = false ∧ soonB S F L = false)) := by
  have hl := fault_len h
  refine ⟨hl, ?_⟩
  unfold faultV at h
  rw [if_neg (by simp [hl])] at h
  by_cases e4 : allIs L 4 = true
  · exact .inl e4
  rw [if_neg e4] at h
  refine .inr ?_
  by_cases e7 : hasIt L 4 = true
  · rw [if_pos e7] at h; cases h
  rw [if_neg e7] at h
  by_cases e8 : (F.flashed = true ∨ 0 < F.start) ∧ allIs L 1 = false
  · rw [if_pos e8] at h; cases h
  rw [if_neg e8] at h
  by_cases e1 : oneV S F L = 0
  · rw [if_neg (by simp [e1])] at h
    by_cases e3 : mtB S L = true
    · rw [if_pos e3] at h; cases h
    rw [if_neg e3] at h
    by_cases e5 : soonB S F L = true
    · rw [if_pos e5] at h; cases h
    refine ⟨by simpa using e7, fun hh => ?_, e1, by simpa using e3, by simpa using e5⟩
    cases e : allIs L 1 with
    | true => rfl
    | false => exact absurd ⟨hh, e⟩ e8
  · rw [if_pos e1] at h; exact absurd h e1
theorem may_next (m y s : Int) (a b : Nat) (ha : 1 ≤ a ∧ a ≤ 3) (h : mayV m y a s b = 0) : 1 ≤ b ∧ b ≤ 3 := by
  unfold mayV at h
  repeat' split at h
  all_goals omega
/-- The standing behind lights without a fault goes on. -/
theorem goes_next {S : St} {F : Sf} {L : List Nat} (hs : siteB S = true) (hg : goesV S F = true) (hz : faultV S F L = 0) : goesV S (behindV S F L) = true := by
  obtain ⟨hm, hasp⟩ := goes_parts hg
  obtain ⟨hn, hst, _⟩ := mayS_parts hm
  obtain ⟨hl, hz⟩ := fault_out hz
  have hng := (span_may hs).base.sh.ok.ng
  have hlen := behindV_len S F L
  have hgi : ∀ i, i < L.length → (behindV S F L).g i = sndV (F.g i) (lg L i) := fun i hi => behindV_g hi
  have hshow : shown (behindV S F L) = L := by
    refine List.ext_getElem (by rw [shown_len, hlen]) (fun i h1 h2 => ?_)
    have a := shown_lg (F := behindV S F L) (i := i) (by rw [hlen]; exact h2)
    rw [hgi i h2] at a
    have b : lg (shown (behindV S F L)) i = (shown (behindV S F L))[i] := by simp [lg, h1]
    have c : lg L i = L[i] := by simp [lg, h2]
    rw [← b, a]
    exact c
  have hmay : mayS S (behindV S F L) = true := by
    unfold mayS
    rw [hshow, decide_eq_true (hlen.trans hl), Bool.true_and, show inB (behindV S F L).start 0 1048576 = true from inB_iff.2 (startV_rng hs hst), Bool.true_and]
    rcases hz with hz | ⟨_, _, _, hz, _⟩
    · rw [hz, Bool.or_true]
    · rw [hz]; rfl
  unfold goesV
  rw [hmay, Bool.true_and, allB_iff]
  intro i hi
  rw [hlen] at hi
  rw [hgi i hi]
  show aspG (behindV S F L) (lg L i) = true
  unfold aspG
  rcases hz with hz | ⟨h4, h1, ho, _, _⟩
  · rw [if_pos (show (behindV S F L).flashed = true from hz)]
    have := allIs_iff.1 hz i hi
    simp [this]
  · have hnf : allIs L 4 = false := allIs_no hi (hasIt_iff.1 h4 i hi)
    rw [if_neg (by rw [show (behindV S F L).flashed = allIs L 4 from rfl, hnf]; decide)]
    have hin : 1 ≤ lg L i ∧ lg L i ≤ 3 := by
      cases hf : F.flashed with
      | true => have := allIs_iff.1 (h1 (.inl hf)) i hi; omega
      | false =>
        unfold oneV at ho
        rw [if_neg (by rw [hf]; decide)] at ho
        exact may_next _ _ _ _ _ (aspG_in hf (hasp i (by omega))) (ownV_zero ho i hi)
    split
    · rename_i hst'
      have : F.flashed = true ∨ 0 < F.start := by
        have e : (behindV S F L).start = startV S F L := rfl
        rw [e] at hst'
        unfold startV at hst'
        rw [if_neg (by rw [hnf]; decide)] at hst'
        by_cases hf : F.flashed = true
        · exact .inl hf
        · rw [if_neg hf] at hst'
          exact .inr (by omega)
      have := allIs_iff.1 (h1 this) i hi
      simp [this]
    · have := hin
      simp
      omega
/-- Whatever is asked, what is let through has no fault. -/
theorem let_safe {S : St} {F : Sf} {A : List Nat} (hs : siteB S = true) (hg : goesV S F = true) (hA : A.length = S.groups.length) : faultV S F (letV S F A) = 0 := by
  obtain ⟨hm, hasp⟩ := goes_parts hg
  obtain ⟨hn, hst, hmt⟩ := mayS_parts hm
  have hng := (span_may hs).base.sh.ok.ng
  have hk := keeps_may hs
  have hl := letV_len S F A
  refine fault_zero (hl.trans hA) ?_
  by_cases h4 : allIs A 4 = true
  · refine .inl (allIs_yes (fun i hi => ?_))
    rw [letV_lg (by omega)]; unfold letF; rw [if_pos h4]
  refine .inr ?_
  by_cases hf : F.flashed = true ∨ 0 < F.start
  · have e1 : ∀ i, i < (letV S F A).length → lg (letV S F A) i = 1 := fun i hi => by
      rw [letV_lg (by omega)]; unfold letF; rw [if_neg h4, if_pos hf]
    refine ⟨hasIt_no (fun i hi => by rw [e1 i hi]; omega), fun _ => allIs_yes e1, ?_, mtB_no (fun a ha b hb => by unfold pairM; rw [e1 a ha]; rfl), soonB_no (fun b hb a ha => by unfold pairS; rw [e1 b hb]; rfl)⟩
    unfold oneV
    split
    · rfl
    · rename_i hff
      have hff : F.flashed = false := by simpa using hff
      have hs0 : 0 < F.start := by rcases hf with h | h; (rw [hff] at h; cases h); exact h
      refine ownV_no (fun j hj => ?_)
      unfold oneF
      rw [e1 j hj, aspG_start hff hs0 (hasp j (by omega))]
      rfl
  · have hff : F.flashed = false := by
      cases e : F.flashed with
      | false => rfl
      | true => exact absurd (.inl e) hf
    have eL : ∀ i, i < (letV S F A).length → lg (letV S F A) i = p2F S F A A.length A.length i := fun i hi => by
      rw [letV_lg (by omega)]; unfold letF; rw [if_neg h4, if_neg hf]
    have hshow0 : allIs (shown F) 4 = false := allIs_no (i := 0) (by rw [shown_len]; omega) (by
      rw [shown_lg (by omega)]
      have := aspG_in hff (hasp 0 (by omega)); omega)
    have hmt : mtB S (shown F) = false := by
      rcases hmt with h | h
      · exact h
      · rw [hshow0] at h; cases h
    refine ⟨hasIt_no (fun i hi => by rw [eL i hi]; have := p2F_rng S F A A.length A.length i; omega), fun h => absurd h hf, ?_, ?_, ?_⟩
    · unfold oneV
      rw [if_neg (by rw [hff]; decide)]
      refine ownV_no (fun j hj => ?_)
      unfold oneF
      rw [eL j hj]
      by_cases h1 : (F.g j).asp = 1
      · rw [h1]
        rcases p2F_red (S := S) (A := A) (n := A.length) h1 A.length with e | e
        · rw [e.1]; rfl
        · rw [e.1]; rfl
      · rw [p2F_other h1, wantN_int]
        have := aspG_in hff (hasp j (by omega))
        exact want_may9 _ _ _ _ _ (by omega)
    · have key : ∀ a b, a < A.length → b < A.length → (S.ap a).testBit b = true → p2F S F A A.length A.length a ≠ 1 → (F.g a).asp = 1 → p2F S F A A.length a b = 1 := fun a b ha hb hab h1 hr => by
        rcases p2F_red (S := S) (A := A) (n := A.length) hr A.length with e | e
        · exact absurd e.1 h1
        · exact (openB_at (turnB_out e.2.2).2.2 hb hab).1
      have both : ∀ a b, a < A.length → b < A.length → (S.ap a).testBit b = true → p2F S F A A.length A.length a ≠ 1 → p2F S F A A.length A.length b ≠ 1 → (F.g a).asp = 1 → b < a → False := fun a b ha hb hab h1 h2 hr hlt => by
        have e := key a b ha hb hab h1 hr
        by_cases hrb : (F.g b).asp = 1
        · rw [p2F_stay hlt, ← p2F_stay hb] at e
          exact h2 e
        · rw [p2F_other hrb] at e h2
          exact h2 e
      refine mtB_no (fun a ha b hb => ?_)
      have ha' : a < A.length := by omega
      cases e : pairM S (letV S F A) a b with
      | false => rfl
      | true =>
        exfalso
        unfold pairM at e
        rw [eL a ha, eL b (by omega)] at e
        simp at e
        obtain ⟨e1, e2, e3⟩ := e
        have e3' : (S.ap b).testBit a = true := by rw [← hk.sym a b (by omega) (by omega)]; exact e3
        by_cases ra : (F.g a).asp = 1
        · exact both a b ha' (by omega) e3 e1 e2 ra hb
        · by_cases rb : (F.g b).asp = 1
          · have := key b a (by omega) ha' e3' e2 rb
            rw [p2F_other ra] at this e1
            exact e1 this
          · have h1 := pairM_no hs (by rw [shown_len]; exact hn) hmt (a := a) (b := b) (by rw [shown_len]; omega) (by rw [shown_len]; omega) e3 (by rw [shown_lg (by omega)]; exact ra)
            rw [shown_lg (by omega)] at h1
            exact rb h1
    · refine soonB_no (fun b hb a ha => ?_)
      cases e : pairS S F (letV S F A) b a with
      | false => rfl
      | true =>
        exfalso
        unfold pairS at e
        rw [eL b hb] at e
        simp at e
        obtain ⟨e1, e2, e3, e4⟩ := e
        have hb' : b < A.length := by omega
        have e3' : (S.ap b).testBit a = true := by rw [← hk.sym a b (by omega) (by omega)]; exact e3
        by_cases rb : (F.g b).asp = 1
        · rcases p2F_red (S := S) (A := A) (n := A.length) rb A.length with h | h
          · omega
          · have := (openB_at (turnB_out h.2.2).2.2 (that := a) (by omega) e3').2
            omega
        · rw [p2F_other rb] at e1
          have h3 := aspG_in hff (hasp b (by omega))
          have h3 : (F.g b).asp = 3 := by omega
          have := wantN_int S F A b
          rw [h3, e1] at this
          unfold wantV at this
          simp at this
          split at this <;> omega
/-- What is asked and has no fault is let through as it is. -/
theorem let_same {S : St} {F : Sf} {A : List Nat} (hs : siteB S = true) (hg : goesV S F = true) (hz : faultV S F A = 0) : letV S F A = A := by
  obtain ⟨hm, hasp⟩ := goes_parts hg
  obtain ⟨hn, hst, hmt⟩ := mayS_parts hm
  obtain ⟨hA, hz⟩ := fault_out hz
  have hk := keeps_may hs
  have hl := letV_len S F A
  have key : ∀ i, i < A.length → letF S F A i = lg A i := by
    intro i hi
    unfold letF
    by_cases h4 : allIs A 4 = true
    · rw [if_pos h4, allIs_iff.1 h4 i hi]
    rw [if_neg h4]
    obtain ⟨h7, h1, ho, h3, h5⟩ : hasIt A 4 = false ∧ ((F.flashed = true ∨ 0 < F.start) → allIs A 1 = true) ∧ oneV S F A = 0 ∧ mtB S A = false ∧ soonB S F A = false := by
      rcases hz with hz | hz
      · exact absurd hz h4
      · exact hz
    by_cases hf : F.flashed = true ∨ 0 < F.start
    · rw [if_pos hf, allIs_iff.1 (h1 hf) i hi]
    rw [if_neg hf]
    have hff : F.flashed = false := by
      cases e : F.flashed with
      | false => rfl
      | true => exact absurd (.inl e) hf
    have hone : ∀ j, j < A.length → mayV (S.gr j).min (S.gr j).yellow (F.g j).asp (F.g j).since (lg A j) = 0 := fun j hj => by
      unfold oneV at ho
      rw [if_neg (by rw [hff]; decide)] at ho
      exact ownV_zero ho j hj
    have hoth : ∀ j k, j < A.length → (F.g j).asp ≠ 1 → p2F S F A A.length k j = lg A j := fun j k hj hr => by
      rw [p2F_other hr]
      have ha := aspG_in hff (hasp j (by omega))
      have := may_want9 _ _ _ _ _ (by omega) (hone j hj)
      have := wantN_int S F A j
      omega
    have hred : ∀ j, j < A.length → (F.g j).asp = 1 → lg A j = 1 ∨ lg A j = 2 := fun j hj hr => by
      have := hone j hj
      rw [hr] at this
      unfold mayV at this
      simp at this
      omega
    by_cases hr : (F.g i).asp = 1
    · rcases p2F_red (S := S) (A := A) (n := A.length) hr A.length with e | e
      · rcases hred i hi hr with h | h
        · rw [e.1, h]
        · exfalso
          have ht := e.2 hi
          have : turnB S F A A.length (p2F S F A A.length i) i = true := by
            unfold turnB
            rw [hr, h]
            simp
            refine allB_iff.2 (fun j hj => ?_)
            cases eb : barB S F (p2F S F A A.length i) i j with
            | false => rfl
            | true =>
              exfalso
              unfold barB at eb
              rw [Bool.and_eq_true, Bool.or_eq_true] at eb
              obtain ⟨e1, e2⟩ := eb
              rcases e2 with e2 | e2
              · have hj1 := pairM_no hs hA h3 hi hj e1 (by omega)
                have e2 : p2F S F A A.length i j ≠ 1 := by simpa using e2
                by_cases hrj : (F.g j).asp = 1
                · rcases p2F_red (S := S) (A := A) (n := A.length) hrj i with q | q
                  · exact e2 q.1
                  · have := (turnB_out q.2.2).2.1; omega
                · rw [hoth j i hj hrj] at e2; exact e2 hj1
              · have e2 := of_decide_eq_true e2
                have := soonB_iff.1 h5 i hi j hj
                unfold pairS at this
                rw [hk.sym i j (by omega) (by omega)] at e1
                rw [h, hr, e1] at this
                simp at this
                omega
          rw [this] at ht; cases ht
      · rw [e.1, (turnB_out e.2.2).2.1]
    · exact hoth i A.length hi hr
  refine List.ext_getElem hl (fun i h1 h2 => ?_)
  have a := letV_lg (S := S) (F := F) h2
  rw [key i h2] at a
  have b : lg (letV S F A) i = (letV S F A)[i] := by simp [lg, h1]
  have c : lg A i = A[i] := by simp [lg, h2]
  rw [← b, a, c]
/-- What is let through of a group does not hang on what is asked of red ones behind it. -/
theorem let_later {S : St} {F : Sf} {A B : List Nat} {at_ : Nat} (hl : B.length = A.length) (h0 : 0 < A.length) (hA : ∀ i, i < A.length → lg A i ≠ 4) (hB : ∀ i, i < A.length → lg B i ≠ 4) (hat : at_ ≤ A.length) (hlo : ∀ i, i < at_ → lg B i = lg A i) (hnr : ∀ i, i < A.length → (F.g i).asp ≠ 1 → lg B i = lg A i) {i : Nat} (hi : i < at_) : letF S F A i = letF S F B i := by
  have hA4 : ¬ allIs A 4 = true := by rw [allIs_no h0 (hA 0 h0)]; decide
  have hB4 : ¬ allIs B 4 = true := by rw [allIs_no (i := 0) (by omega) (hB 0 h0)]; decide
  unfold letF
  rw [if_neg hA4, if_neg hB4, hl]
  by_cases hff : F.flashed = true ∨ 0 < F.start
  · rw [if_pos hff, if_pos hff]
  · rw [if_neg hff, if_neg hff]
    have hw : ∀ j, j < A.length → w1F S F A j = w1F S F B j := fun j hj => by
      unfold w1F
      by_cases h : (F.g j).asp = 1
      · rw [if_pos h, if_pos h]
      · rw [if_neg h, if_neg h]; unfold wantN; rw [hnr j hj h]
    have hp : ∀ k, k ≤ at_ → ∀ j, j < A.length → p2F S F A A.length k j = p2F S F B A.length k j := by
      intro k
      induction k with
      | zero => exact fun _ j hj => hw j hj
      | succ k ih =>
        intro hk j hj
        have hk' := ih (by omega)
        have : turnB S F A A.length (p2F S F A A.length k) k = turnB S F B A.length (p2F S F B A.length k) k := by
          unfold turnB
          rw [openB_congr hk', hlo k (by omega)]
        rw [p2F, p2F, this, hk' j hj]
    rw [p2F_stay (show i < A.length by omega), p2F_stay (j := i) (show i < A.length by omega)]
    exact hp (i + 1) (by omega) i (by omega)

/-! ### Tick by tick -/
def runF (S : St) (T : List (List Nat)) : Nat → Sf
  | 0 => firstV S
  | k + 1 => behindV S (runF S T k) (letV S (runF S T k) (tk T k))
def runL (S : St) (T : List (List Nat)) (k : Nat) : List Nat := letV S (runF S T k) (tk T k)
def runV (S : St) (T : List (List Nat)) : List (List Nat) := (List.range T.length).map (runL S T)
theorem runV_tk {S : St} {T : List (List Nat)} {k : Nat} (h : k < T.length) : tk (runV S T) k = runL S T k := by simp [runV, tk, h]
theorem runV_len (S : St) (T : List (List Nat)) : (runV S T).length = T.length := by simp [runV]
theorem goes_first {S : St} (hs : siteB S = true) : goesV S (firstV S) = true := by
  have hl := firstV_len S
  have h1 : ∀ i, i < (firstV S).groups.length → ((firstV S).g i).asp = 1 := fun i hi => by rw [firstV_g (by omega)]
  unfold goesV
  rw [Bool.and_eq_true, allB_iff]
  refine ⟨?_, fun i hi => ?_⟩
  · unfold mayS
    rw [decide_eq_true hl, Bool.true_and, show inB (firstV S).start 0 1048576 = true from inB_iff.2 (worst_rng hs), Bool.true_and, mtB_no]
    · rfl
    · intro a ha b hb
      rw [shown_len] at ha
      unfold pairM
      rw [shown_lg ha, h1 a ha]; rfl
  · rw [h1 i hi]
    unfold aspG
    rw [if_neg (by show ¬ (false = true); decide)]
    split <;> rfl
theorem run_goes {S : St} {T : List (List Nat)} (hs : siteB S = true) (hT : ∀ k, k < T.length → (tk T k).length = S.groups.length) : ∀ k, k ≤ T.length → goesV S (runF S T k) = true
  | 0, _ => goes_first hs
  | k + 1, h => goes_next hs (run_goes hs hT k (by omega)) (let_safe hs (run_goes hs hT k (by omega)) (hT k (by omega)))
theorem run_at {S : St} {T : List (List Nat)} : ∀ k, k ≤ T.length → atV S (runV S T) k = runF S T k
  | 0, _ => rfl
  | k + 1, h => by
    show behindV S (atV S (runV S T) k) (tk (runV S T) k) = behindV S (runF S T k) (letV S (runF S T k) (tk T k))
    rw [run_at k (by omega), runV_tk (by omega)]
    rfl
theorem run_flt {S : St} {T : List (List Nat)} (hs : siteB S = true) (hT : ∀ k, k < T.length → (tk T k).length = S.groups.length) {k : Nat} (h : k < T.length) : fltV S (runV S T) k = 0 := by
  unfold fltV
  rw [run_at k (by omega), runV_tk h]
  exact let_safe hs (run_goes hs hT k (by omega)) (hT k h)

end Go.Proofs.YtkbhcpgdhbfhnaaDoor

/-
  THE CONTRACTS of gate's small calls: has, allAre, allOf, aspectGoesOn; of letThrough's closures bars and open.
-/
namespace Go.Proofs.YtkbhcpgdhbfhnaaDoor
open Go.RowKit Go.Lib Go.Deep
set_option linter.unusedVariables false
set_option linter.unusedSimpArgs false

theorem ghas_any (S i : Nat) (w : World) (hS : S < 4294967296) (hi : i < 32) : Calls Tryd.prog 44 #[.int .u32 (S : Int), .int .i64 (i : Int)] w fun e w' => e = .returned (.bool (S.testBit i)) ∧ w' = w := by
  have hb := has_bit S i hS
  go_enter Tryd.func44, Tryd.ntmps44
  go_wp2
  go_ret
  exact ⟨by rw [← hb]; rfl, rfl⟩
set_option maxRecDepth 100000 in
theorem gindexFn_any {w : World} {a : Option Addr} {n c : Nat} {L : List Nat} (hB : By w a n L) (x B : Nat) (hx : w.cell? ⟨B, 0, none⟩ = some (.int .u8 (x : Int))) : Calls Tryd.prog 86 #[.slice a n c, .func (.func 68) #[] #[.pointer (some ⟨B, 0, none⟩)]] w fun e w' => (∃ z : Int, e = .returned (.int .i64 z) ∧ allIs L x = !decide (0 ≤ z)) ∧ w' = w := by
  have hs := hB.size
  have hm := hB.max
  have HB := Hid.mk' hB
  have HS := Hid.mk' hs
  clear hB hs
  go_enter Tryd.func86, Tryd.ntmps86
  go_wp2
  go_loop [5, 8] (fun _ i => ∃ k : Nat, k ≤ n ∧ i = .int .i64 k ∧ ∀ j, j < k → lg L j = x) (fun _ i => n - (intOf i).toNat)
  case atStart => exact ⟨0, by omega, rfl, fun j hj => by omega⟩
  case round =>
    obtain ⟨k, hk, rfl, hno⟩ := hrel
    have HN := Hid.mk' hno
    clear hno
    by_cases hlt : k < n
    · obtain ⟨b, off, rfl, hb, hc⟩ := HB.out.at_ (by omega)
      have kc := hc k hlt
      rw [show L.getD k 0 = lg L k from rfl] at kc
      by_cases e : lg L k = x
      · have HN2 := Hid.mk' (ext_no HN.out e)
        rw [e] at kc
        clear hc e
        go_wp2
        exact ⟨⟨k + 1, by omega, by go_num, HN2.out⟩, by simp [intOf]; omega⟩
      · have HY := Hid.mk' (allIs_no (by have := HS.out; omega) e)
        have e1 : ((lg L k : Int) == (x : Int)) = false := by simp; omega
        clear hc e
        generalize lg L k = y at *
        go_wp2
        go_ret
        exact ⟨⟨_, rfl, by rw [HY.out]; simp⟩, rfl⟩
    · have HF := Hid.mk' (allIs_yes (L := L) (x := x) (fun i hi => HN.out i (by have := HS.out; omega)))
      go_wp2
      go_ret
      exact ⟨⟨_, rfl, by rw [HF.out]; simp⟩, rfl⟩
theorem gall_any {w : World} {a : Option Addr} {n c : Nat} {L : List Nat} (hB : By w a n L) (x : Nat) : Calls Tryd.prog 42 #[.slice a n c, .int .u8 (x : Int)] w fun e w' => e = .returned (.bool (allIs L x)) ∧ Kept w w' none := by
  have hk : Kept w (w.alloc (.cells #[.int .u8 (x : Int)] 5)) none := Kept.alloc _ _ _ _ _
  have HB := Hid.mk' (hB.kept hk)
  have HK := Hid.mk' hk
  clear hB hk
  have hc : (w.alloc (.cells #[.int .u8 (x : Int)] 5)).cell? ⟨w.heap.size, 0, none⟩ = some (.int .u8 (x : Int)) := by simp [World.cell?_alloc_mark]
  have HC := Hid.mk' hc
  clear hc
  go_enter Tryd.func42, Tryd.ntmps42
  go_wp2_with (first
    | (go_at_call 67; go_in)
    | (go_at_call 86; refine (gindexFn_any HB.out x _ HC.out).mono ?_; rintro e w' ⟨⟨z, rfl, hz⟩, rfl⟩))
  go_ret
  exact ⟨by rw [hz]; rfl, HK.out⟩

/-! ### allOf -/
def ocell (k x : Nat) (i : Nat) : Value := .int .u8 ((if i < k then x else 0 : Nat) : Int)
theorem ocell_set {k x : Nat} : (fun j => if j = k then Value.int .u8 (x : Int) else ocell k x j) = ocell (k + 1) x := by
  funext j
  unfold ocell
  by_cases h : j = k
  · subst h; simp
  · rw [if_neg h]
    by_cases h2 : j < k
    · rw [if_pos h2, if_pos (by omega)]
    · rw [if_neg h2, if_neg (by omega)]
set_option maxRecDepth 100000 in
set_option maxHeartbeats 1000000 in
theorem gallOf_any {w : World} (x n : Nat) (hn : n ≤ 100) : Calls Tryd.prog 31 #[.int .u8 (x : Int), .int .i64 (n : Int)] w fun e w' => e = .returned (.slice (some ⟨w.heap.size, 0, none⟩) n n) ∧ w'.rowIs w.heap.size 5 n (fun _ => .int .u8 (x : Int)) ∧ Kept w w' none := by
  have hmk := run_make_row' (P := Tryd.prog) 36 5 (.int .u8 0) 1 Tryd.uB Tryd.infoByte rfl .i64 .i64 n (by omega) (by omega)
  go_enter Tryd.func31, Tryd.ntmps31
  go_wp2
  have hrw := World.rowIs_made w (.int .u8 0) n 5
  have kM : Kept w (w.alloc (.cells (madeCells #[.int .u8 0] n) 5)) none := Kept.alloc _ _ _ _ _
  obtain ⟨W3, hW3⟩ : ∃ W3, w.alloc (.cells (madeCells #[.int .u8 0] n) 5) = W3 := ⟨_, rfl⟩
  rw [hW3] at hrw kM ⊢
  have HRW := Hid.mk' hrw
  have KM := Hid.mk' kM
  clear hW3 hrw kM hmk
  go_loopw [6, 11] (fun _ i wr => ∃ k : Nat, k ≤ n ∧ i = .int .i64 k ∧ Kept w wr none ∧ wr.rowIs w.heap.size 5 n (ocell k x)) (fun _ i _ => n - (intOf i).toNat)
  case atStart => exact ⟨0, by omega, rfl, KM.out, HRW.out.congr (fun i hi => by unfold ocell; simp)⟩
  case round =>
    obtain ⟨k, hk, rfl, hkw, hrow⟩ := hrel
    have HKW := Hid.mk' hkw
    have HRO := Hid.mk' hrow
    have hlr := hrow.lt
    clear hkw hrow
    by_cases hlt : k < n
    · have y0 := HRO.out.cell hlt
      have z0 := HRO.out.frozen k
      go_wp2
      go_roundw
      case rel =>
        refine ⟨k + 1, by omega, by go_num, HKW.out.setNew (p := ⟨w.heap.size, k, none⟩) (Nat.le_refl _) _, ?_⟩
        rw [← ocell_set]
        exact HRO.out.set k _
      case measure => simp [intOf]; omega
    · have e : k = n := by omega
      subst e
      go_wp2
      go_ret
      exact ⟨rfl, HRO.out.congr (fun i hi => by unfold ocell; rw [if_pos hi]), HKW.out⟩

/-! ### aspectGoesOn -/
set_option maxRecDepth 100000 in
set_option maxHeartbeats 1000000 in
theorem gasp_any {w : World} {a : Option Addr} {c : Nat} {F : Sf} (x : Nat) : Calls Tryd.prog 47 #[safeV a c F, .int .u8 (x : Int)] w fun e w' => e = .returned (.bool (aspG F x)) ∧ Kept w w' none := by
  obtain ⟨G, st, fl⟩ := F
  have hk : Kept w (w.alloc (.cells #[.slice a G.length c, .int .i64 st, .bool fl] 41)) none := Kept.alloc _ _ _ _ _
  have HK := Hid.mk' hk
  clear hk
  unfold aspG
  dsimp only
  cases fl with
  | true =>
    rw [if_pos rfl]
    have hb : ((x : Int) == 4) = (x == 4) := by rw [Bool.eq_iff_iff]; simp; omega
    have HB := Hid.mk' hb
    clear hb
    go_enter Tryd.func47, Tryd.ntmps47
    go_wp2
    go_ret
    exact ⟨by rw [← HB.out]; rfl, HK.out⟩
  | false =>
    rw [if_neg (by decide)]
    by_cases hs : 0 < st
    · rw [if_pos hs]
      have hb : ((x : Int) == 1) = (x == 1) := by rw [Bool.eq_iff_iff]; simp; omega
      have HB := Hid.mk' hb
      clear hb
      go_enter Tryd.func47, Tryd.ntmps47
      go_wp2
      go_ret
      exact ⟨by rw [← HB.out]; rfl, HK.out⟩
    · rw [if_neg hs]
      have hsb : decide (0 < st) = false := by simp; omega
      by_cases h1 : x = 1
      · subst h1
        go_enter Tryd.func47, Tryd.ntmps47
        go_wp2
        go_ret
        exact ⟨rfl, HK.out⟩
      · have b1 : ((x : Int) == 1) = false := by simp; omega
        by_cases h2 : x = 2
        · subst h2
          go_enter Tryd.func47, Tryd.ntmps47
          go_wp2
          go_ret
          exact ⟨rfl, HK.out⟩
        · have b2 : ((x : Int) == 2) = false := by simp; omega
          have hb : ((x : Int) == 3) = (x == 1 || (x == 2 || x == 3)) := by rw [Bool.eq_iff_iff]; simp; omega
          have HB := Hid.mk' hb
          clear hb
          go_enter Tryd.func47, Tryd.ntmps47
          go_wp2
          go_ret
          exact ⟨by rw [← HB.out]; rfl, HK.out⟩

/-! ### The closures -/
/-- What they ask: the site's pointer, the lights' slice, the standing, each in a box. -/
structure Gt (w : World) (B : Nat) (X : Sa) (S : St) (bs bl bn bf off c g : Nat) (F : Sf) (f : Nat → Nat) : Prop where
  ps : w.cell? ⟨bs, 0, none⟩ = some (.pointer (some ⟨B, 0, none⟩))
  pl : w.cell? ⟨bl, 0, none⟩ = some (.slice (some ⟨g, 0, none⟩) S.groups.length S.groups.length)
  bx : Box w bn (.slice (some ⟨bf, off, none⟩) S.groups.length c) (.int .i64 F.start) (.bool F.flashed)
  sb : Sbox w B X S
  cf : ∀ i, i < S.groups.length → ∀ j, j < 3 → w.cell? ⟨bf, off + i * 3 + j, none⟩ = some (snV (F.g i) j)
  rw_ : w.rowIs g 5 S.groups.length (fun i => .int .u8 ((f i : Nat) : Int))
  room : S.groups.length ≤ c
  max : c ≤ 9223372036854775807
theorem Gt.kept {w w' : World} {B : Nat} {X : Sa} {S : St} {bs bl bn bf off c g : Nat} {F : Sf} {f : Nat → Nat} (h : Gt w B X S bs bl bn bf off c g F f) (k : Kept w w' none) : Gt w' B X S bs bl bn bf off c g F f :=
  ⟨cell_kept0 h.ps k, cell_kept0 h.pl k, h.bx.kept k, h.sb.kept k, fun i hi j hj => cell_kept0 (h.cf i hi j hj) k, row_kept h.rw_ k (by simp), h.room, h.max⟩
theorem Gt.congr {w : World} {B : Nat} {X : Sa} {S : St} {bs bl bn bf off c g : Nat} {F : Sf} {f f' : Nat → Nat} (h : Gt w B X S bs bl bn bf off c g F f) (e : ∀ i, i < S.groups.length → f i = f' i) : Gt w B X S bs bl bn bf off c g F f' :=
  ⟨h.ps, h.pl, h.bx, h.sb, h.cf, h.rw_.congr (fun i hi => by rw [e i hi]), h.room, h.max⟩
set_option maxRecDepth 100000 in
set_option maxHeartbeats 2000000 in
theorem gbars_any {w : World} {B : Nat} {X : Sa} {S : St} {bs bl bn bf off c g : Nat} {F : Sf} {f : Nat → Nat} (h : Gt w B X S bs bl bn bf off c g F f) (hSh : Shape S) {that it : Nat} (ht : that < S.groups.length) (hi : it < S.groups.length) : Calls Tryd.prog 43 #[.int .i64 (that : Int), .int .i64 (it : Int), .pointer (some ⟨bs, 0, none⟩), .pointer (some ⟨bl, 0, none⟩), .pointer (some ⟨bn, 0, none⟩)] w fun e w' => e = .returned (.bool (barB S F f it that)) ∧ Kept w w' none := by
  have hng := hSh.ok.ng
  have hna := hSh.ok.na
  have hnb := hSh.ok.nb
  have ps := h.ps
  have pl := h.pl
  have f0 := h.bx.c0
  have c2 := h.sb.c2
  have c3 := h.sb.c3
  have hap : S.ap it < 4294967296 := h.sb.sat.apr it
  obtain ⟨ba, oa, ea, hca⟩ := h.sb.sat.apAt (n := S.groups.length) (by omega) (by omega)
  obtain ⟨bb, ob, br, or, cr, eb, kb, hcr, kr⟩ := h.sb.sat.btAt hSh ht hi
  have a0 := hca it hi
  have s2 := h.cf that ht 2 (by omega)
  have l0 := h.rw_.cell (i := that) ht
  simp only [snV] at s2
  have hac := h.sb.sat.ak.room
  have hbc := h.sb.sat.b.cap.room
  have hro := h.room
  have hmx := h.max
  rw [hna] at hac
  rw [hnb] at hbc
  rw [ea, hna] at c2
  rw [eb, hnb] at c3
  have HHAS := Hid.mk' (fun w' => ghas_any (S.ap it) that w' hap (by omega))
  have HV : Hid (barB S F f it that = ((S.ap it).testBit that && (!(f that == 1) || decide ((F.g that).ended < S.bt that it)))) := rfl
  clear h hSh ea eb hca hna hnb
  generalize barB S F f it that = z at *
  generalize F.g that = N at *
  generalize S.bt that it = v at *
  generalize S.ap it = P at *
  generalize P.testBit that = t at *
  generalize f that = y at *
  cases t with
  | false =>
    go_enter Tryd.func43, Tryd.ntmps43
    go_wp2
    go_quiet ((go_at_call 44; exact Calls.quiet_of_same (HHAS.out _)))
    go_wp2
    go_ret
    exact ⟨by rw [HV.out]; rfl, Kept.drewN _ _ _⟩
  | true =>
    by_cases hy : y = 1
    · subst hy
      by_cases hv : N.ended < v
      · go_enter Tryd.func43, Tryd.ntmps43
        go_wp2
        go_quiet ((go_at_call 44; exact Calls.quiet_of_same (HHAS.out _)))
        go_wp2
        go_ret
        exact ⟨by rw [HV.out]; simp [hv], Kept.drewN _ _ _⟩
      · have hvb : decide (N.ended < v) = false := by simp [hv]
        go_enter Tryd.func43, Tryd.ntmps43
        go_wp2
        go_quiet ((go_at_call 44; exact Calls.quiet_of_same (HHAS.out _)))
        go_wp2
        go_ret
        exact ⟨by rw [HV.out]; simp [hv], Kept.drewN _ _ _⟩
    · have hyb : ((y : Int) != 1) = true := by simp; omega
      have HY : Hid ((y == 1) = false) := by show _ = _; simp [hy]
      clear hy
      go_enter Tryd.func43, Tryd.ntmps43
      go_wp2
      go_quiet ((go_at_call 44; exact Calls.quiet_of_same (HHAS.out _)))
      go_wp2
      go_ret
      exact ⟨by rw [HV.out, HY.out]; rfl, Kept.drewN _ _ _⟩
set_option maxRecDepth 100000 in
set_option maxHeartbeats 1000000 in
theorem gopen_any {w : World} {B : Nat} {X : Sa} {S : St} {bs bl bn bf off c g bb : Nat} {F : Sf} {f : Nat → Nat} (h : Gt w B X S bs bl bn bf off c g F f) (hSh : Shape S) (hb : w.cell? ⟨bb, 0, none⟩ = some (.func (.func 43) #[] #[.pointer (some ⟨bs, 0, none⟩), .pointer (some ⟨bl, 0, none⟩), .pointer (some ⟨bn, 0, none⟩)])) {it : Nat} (hi : it < S.groups.length) : Calls Tryd.prog 45 #[.int .i64 (it : Int), .pointer (some ⟨bl, 0, none⟩), .pointer (some ⟨bb, 0, none⟩)] w fun e w' => e = .returned (.bool (openB S F S.groups.length f it)) ∧ Kept w w' none := by
  have hng := hSh.ok.ng
  have pl := h.pl
  have HG := Hid.mk' h
  have HSH := Hid.mk' hSh
  have HB := Hid.mk' hb
  clear h hSh hb
  go_enter Tryd.func45, Tryd.ntmps45
  go_wp2
  go_loopw [5, 8] (fun _ i wr => ∃ k : Nat, k ≤ S.groups.length ∧ i = .int .i64 k ∧ Kept w wr none ∧ ∀ j, j < k → barB S F f it j = false) (fun _ i _ => S.groups.length - (intOf i).toNat)
  case atStart => exact ⟨0, by omega, rfl, Kept.refl _ _, fun j hj => by omega⟩
  case round =>
    obtain ⟨k, hk, rfl, hkw, hno⟩ := hrel
    have HKW := Hid.mk' hkw
    have HN := Hid.mk' hno
    clear hkw hno
    by_cases hlt : k < S.groups.length
    · have pb := cell_kept0 HB.out HKW.out
      have HBA := Hid.mk' (gbars_any (HG.out.kept HKW.out) HSH.out hlt hi)
      have HY : Hid (barB S F f it k = true → openB S F S.groups.length f it = false) := fun e => allB_no hlt (by rw [e]; rfl)
      have HNO : Hid (barB S F f it k = false → ∀ j, j < k + 1 → barB S F f it j = false) := fun e => ext_no HN.out e
      generalize barB S F f it k = z at *
      cases z with
      | true =>
        have HF := Hid.mk' (HY.out rfl)
        clear HNO HY
        go_wp2_with (go_at_call 43; refine HBA.out.mono ?_; rintro e w2 ⟨rfl, hk2⟩)
        go_ret
        exact ⟨by rw [HF.out]; rfl, HKW.out.tr hk2⟩
      | false =>
        have HN2 := Hid.mk' (HNO.out rfl)
        clear HNO HY
        go_wp2_with (go_at_call 43; refine HBA.out.mono ?_; rintro e w2 ⟨rfl, hk2⟩)
        go_roundw
        case rel => exact ⟨k + 1, by omega, by go_num, HKW.out.tr hk2, HN2.out⟩
        case measure => simp [intOf]; omega
    · have e : k = S.groups.length := by omega
      subst e
      have HF : Hid (openB S F S.groups.length f it = true) := allB_iff.2 (fun j hj => by rw [HN.out j hj]; rfl)
      go_wp2
      go_ret
      exact ⟨by rw [HF.out]; rfl, HKW.out⟩

end Go.Proofs.YtkbhcpgdhbfhnaaDoor

/-
  THE CONTRACT of letThrough (made by a program).
-/
namespace Go.Proofs.YtkbhcpgdhbfhnaaDoor
open Go.RowKit Go.Lib Go.Deep
set_option linter.unusedVariables false
set_option linter.unusedSimpArgs false

/-- What the passes go by: the boxes of the call, and the lights' own row. -/
structure Gl (w wr : World) (B n bs bl bn bb bf off c g : Nat) (F : Sf) (f : Nat → Nat) : Prop where
  k : Kept w wr none
  ps : wr.cell? ⟨bs, 0, none⟩ = some (.pointer (some ⟨B, 0, none⟩))
  pl : wr.cell? ⟨bl, 0, none⟩ = some (.slice (some ⟨g, 0, none⟩) n n)
  bx : Box wr bn (.slice (some ⟨bf, off, none⟩) n c) (.int .i64 F.start) (.bool F.flashed)
  pb : wr.cell? ⟨bb, 0, none⟩ = some (.func (.func 43) #[] #[.pointer (some ⟨bs, 0, none⟩), .pointer (some ⟨bl, 0, none⟩), .pointer (some ⟨bn, 0, none⟩)])
  row : wr.rowIs g 5 n (fun i => .int .u8 ((f i : Nat) : Int))
/-- The row's block is one of its own. -/
structure Gn (w : World) (bs bl bn bb g : Nat) : Prop where
  new : w.heap.size ≤ g
  s : bs ≠ g
  l : bl ≠ g
  n : bn ≠ g
  b : bb ≠ g
theorem Gl.kept {w wr w' : World} {B n bs bl bn bb bf off c g : Nat} {F : Sf} {f : Nat → Nat} (h : Gl w wr B n bs bl bn bb bf off c g F f) (k : Kept wr w' none) : Gl w w' B n bs bl bn bb bf off c g F f :=
  ⟨h.k.tr k, cell_kept0 h.ps k, cell_kept0 h.pl k, h.bx.kept k, cell_kept0 h.pb k, row_kept h.row k (by simp)⟩
theorem Gl.congr {w wr : World} {B n bs bl bn bb bf off c g : Nat} {F : Sf} {f f' : Nat → Nat} (h : Gl w wr B n bs bl bn bb bf off c g F f) (e : ∀ i, i < n → f i = f' i) : Gl w wr B n bs bl bn bb bf off c g F f' :=
  ⟨h.k, h.ps, h.pl, h.bx, h.pb, h.row.congr (fun i hi => by rw [e i hi])⟩
theorem Gl.set {w wr : World} {B n bs bl bn bb bf off c g : Nat} {F : Sf} {f : Nat → Nat} (h : Gl w wr B n bs bl bn bb bf off c g F f) (q : Gn w bs bl bn bb g) (k x : Nat) : Gl w (wr.setCell ⟨g, k, none⟩ (.int .u8 (x : Int))) B n bs bl bn bb bf off c g F (fun i => if i = k then x else f i) := by
  have oth : ∀ b, b ≠ g → ∀ v, wr.cell? ⟨b, 0, none⟩ = some v → (wr.setCell ⟨g, k, none⟩ (.int .u8 (x : Int))).cell? ⟨b, 0, none⟩ = some v := fun b hb v e => (World.cell?_setCell_other _ _ _ _ (by simp [hb])).trans e
  refine ⟨h.k.setNew q.new _, oth _ q.s _ h.ps, oth _ q.l _ h.pl, h.bx.other (fun e => q.n e.symm) _, oth _ q.b _ h.pb, (h.row.set k _).congr (fun i hi => ?_)⟩
  show (if i = k then _ else _) = _
  split <;> simp_all
theorem Gl.gt {w wr : World} {B : Nat} {X : Sa} {S : St} {bs bl bn bb bf off c g : Nat} {F : Sf} {f : Nat → Nat} (h : Gl w wr B S.groups.length bs bl bn bb bf off c g F f) (hs : Sbox w B X S) (hc : ∀ i, i < S.groups.length → ∀ j, j < 3 → w.cell? ⟨bf, off + i * 3 + j, none⟩ = some (snV (F.g i) j)) (h1 : S.groups.length ≤ c) (h2 : c ≤ 9223372036854775807) : Gt wr B X S bs bl bn bf off c g F f :=
  ⟨h.ps, h.pl, h.bx, hs.kept h.k, fun i hi j hj => cell_kept0 (hc i hi j hj) h.k, h.row, h1, h2⟩
theorem alloc_at9 (F : World) (cs : Array Value) (t : TypeId) {n j : Nat} {v : Value} (hz : F.heap.size = n) (hv : cs[j]? = some v) : (F.alloc (.cells cs t)).cell? ⟨n, j, none⟩ = some v := by
  subst hz
  simp only [World.cell?_alloc_mark]
  exact hv
def mixF (k : Nat) (f : Nat → Nat) (i : Nat) : Nat := if i < k then f i else 1
theorem mixF_set {k : Nat} {f : Nat → Nat} : (fun i => if i = k then f k else mixF k f i) = mixF (k + 1) f := by
  funext i
  unfold mixF
  by_cases h : i = k
  · subst h; simp
  · rw [if_neg h]
    by_cases h2 : i < k
    · rw [if_pos h2, if_pos (by omega)]
    · rw [if_neg h2, if_neg (by omega)]
set_option maxRecDepth 100000 in
set_option maxHeartbeats 2000000 in
theorem glet_flash {w : World} {B : Nat} {X : Sa} {S : St} {a : Option Addr} {c : Nat} {F : Sf} {al : Option Addr} {n cl : Nat} {L : List Nat} (h : Sbox w B X S) (hSh : Shape S) (hF : SafeAt w a c F) (hf : F.groups.length = S.groups.length) (hB : By w al n L) (hn : n = S.groups.length) (h4 : allIs L 4 = true) : Calls Tryd.prog 28 #[.pointer (some ⟨B, 0, none⟩), safeV a c F, .slice al n cl] w fun e w' => ∃ b, e = .returned (.slice (some ⟨b, 0, none⟩) S.groups.length S.groups.length) ∧ w.heap.size ≤ b ∧ w'.rowIs b 5 S.groups.length (fun i => .int .u8 ((letF S F L i : Nat) : Int)) ∧ Kept w w' none := by
  subst hn
  have hng := hSh.ok.ng
  obtain ⟨bf, off, rfl, hbf, hcf⟩ := hF.lie.at_ (by omega)
  have hFr : S.groups.length ≤ c := by have := hF.cap.room; omega
  have hFm := hF.cap.max
  have hBm := hB.max
  have k1 : Kept w (w.alloc (.cells #[.pointer (some ⟨B, 0, none⟩)] 70)) none := Kept.alloc _ _ _ _ _
  have k2 : Kept (w.alloc (.cells #[.pointer (some ⟨B, 0, none⟩)] 70)) ((w.alloc (.cells #[.pointer (some ⟨B, 0, none⟩)] 70)).alloc (.cells #[.slice (some ⟨bf, off, none⟩) S.groups.length c, .int .i64 F.start, .bool F.flashed] 41)) none := Kept.alloc _ _ _ _ _
  have bn := box_alloc (w.alloc (.cells #[.pointer (some ⟨B, 0, none⟩)] 70)) (.slice (some ⟨bf, off, none⟩) S.groups.length c) (.int .i64 F.start) (.bool F.flashed) 41
  have ps : ((w.alloc (.cells #[.pointer (some ⟨B, 0, none⟩)] 70)).alloc (.cells #[.slice (some ⟨bf, off, none⟩) S.groups.length c, .int .i64 F.start, .bool F.flashed] 41)).cell? ⟨w.heap.size, 0, none⟩ = some (.pointer (some ⟨B, 0, none⟩)) := cell_kept0 (by simp [World.cell?_alloc_mark]) k2
  rw [World.size_alloc] at bn
  have hsz : ((w.alloc (.cells #[.pointer (some ⟨B, 0, none⟩)] 70)).alloc (.cells #[.slice (some ⟨bf, off, none⟩) S.groups.length c, .int .i64 F.start, .bool F.flashed] 41)).heap.size = w.heap.size + 1 + 1 := by simp
  have hkA := k1.tr k2
  obtain ⟨WA, hWA⟩ : ∃ WA, ((w.alloc (.cells #[.pointer (some ⟨B, 0, none⟩)] 70)).alloc (.cells #[.slice (some ⟨bf, off, none⟩) S.groups.length c, .int .i64 F.start, .bool F.flashed] 41)) = WA := ⟨_, rfl⟩
  rw [hWA] at bn ps hsz hkA
  have HBN := Hid.mk' bn
  have HPS := Hid.mk' ps
  have HSZ := Hid.mk' hsz
  have HK := Hid.mk' hkA
  have HB := Hid.mk' (hB.kept hkA)
  have HB0 := Hid.mk' hB
  have HSB := Hid.mk' h
  have HSH := Hid.mk' hSh
  have HCF : Hid (∀ i, i < S.groups.length → ∀ j, j < 3 → w.cell? ⟨bf, off + i * 3 + j, none⟩ = some (snV (F.g i) j)) := fun i hi j hj => hcf i (by omega) j hj
  have HLN := Hid.mk' hB.size
  have n1_ : ∀ w', Kept WA w' none → w'.cell? ⟨w.heap.size + 1, 1, none⟩ = some (.int .i64 F.start) := fun w' q => (HBN.out.kept q).c1
  have n2_ : ∀ w', Kept WA w' none → w'.cell? ⟨w.heap.size + 1, 2, none⟩ = some (.bool F.flashed) := fun w' q => (HBN.out.kept q).c2
  have hn16 : S.groups.length ≤ 100 := by omega
  rw [show safeV (some ⟨bf, off, none⟩) c F = .agg #[.slice (some ⟨bf, off, none⟩) S.groups.length c, .int .i64 F.start, .bool F.flashed] by rw [safeV, hf]]
  clear h hSh hF hf hB k1 k2 bn ps hsz hkA hcf
  have HV : Hid (∀ i, letF S F L i = 4) := fun i => by unfold letF; rw [if_pos h4]
  have hall := gall_any (c := cl) HB.out 4
  rw [h4] at hall
  have HALL := Hid.mk' hall
  clear hall h4
  go_enter Tryd.func28, Tryd.ntmps28
  go_wp2_with (first | rw [hWA] | (go_at_call 31; refine (gallOf_any 4 S.groups.length hn16).mono ?_; rintro e wO ⟨rfl, hro, hkO⟩; have hKO : Kept WA wO none := Kept.tr hKA hkO) | (go_at_call 42; refine HALL.out.mono ?_; rintro e wA ⟨rfl, hkA⟩; have hKA : Kept WA wA none := hkA))
  go_ret
  exact ⟨wA.heap.size, ⟨rfl, Nat.le_trans HK.out.size hKA.size, hro.congr (fun i hi => by rw [HV.out i]; try rfl), HK.out.tr hKO⟩⟩
set_option maxRecDepth 100000 in
set_option maxHeartbeats 2000000 in
theorem glet_stay {w : World} {B : Nat} {X : Sa} {S : St} {a : Option Addr} {c : Nat} {F : Sf} {al : Option Addr} {n cl : Nat} {L : List Nat} (h : Sbox w B X S) (hSh : Shape S) (hF : SafeAt w a c F) (hf : F.groups.length = S.groups.length) (hB : By w al n L) (hn : n = S.groups.length) (h4 : allIs L 4 = false) (hs : F.flashed = true ∨ 0 < F.start) : Calls Tryd.prog 28 #[.pointer (some ⟨B, 0, none⟩), safeV a c F, .slice al n cl] w fun e w' => ∃ b, e = .returned (.slice (some ⟨b, 0, none⟩) S.groups.length S.groups.length) ∧ w.heap.size ≤ b ∧ w'.rowIs b 5 S.groups.length (fun i => .int .u8 ((letF S F L i : Nat) : Int)) ∧ Kept w w' none := by
  subst hn
  have hng := hSh.ok.ng
  obtain ⟨bf, off, rfl, hbf, hcf⟩ := hF.lie.at_ (by omega)
  have hFr : S.groups.length ≤ c := by have := hF.cap.room; omega
  have hFm := hF.cap.max
  have hBm := hB.max
  have k1 : Kept w (w.alloc (.cells #[.pointer (some ⟨B, 0, none⟩)] 70)) none := Kept.alloc _ _ _ _ _
  have k2 : Kept (w.alloc (.cells #[.pointer (some ⟨B, 0, none⟩)] 70)) ((w.alloc (.cells #[.pointer (some ⟨B, 0, none⟩)] 70)).alloc (.cells #[.slice (some ⟨bf, off, none⟩) S.groups.length c, .int .i64 F.start, .bool F.flashed] 41)) none := Kept.alloc _ _ _ _ _
  have bn := box_alloc (w.alloc (.cells #[.pointer (some ⟨B, 0, none⟩)] 70)) (.slice (some ⟨bf, off, none⟩) S.groups.length c) (.int .i64 F.start) (.bool F.flashed) 41
  have ps : ((w.alloc (.cells #[.pointer (some ⟨B, 0, none⟩)] 70)).alloc (.cells #[.slice (some ⟨bf, off, none⟩) S.groups.length c, .int .i64 F.start, .bool F.flashed] 41)).cell? ⟨w.heap.size, 0, none⟩ = some (.pointer (some ⟨B, 0, none⟩)) := cell_kept0 (by simp [World.cell?_alloc_mark]) k2
  rw [World.size_alloc] at bn
  have hsz : ((w.alloc (.cells #[.pointer (some ⟨B, 0, none⟩)] 70)).alloc (.cells #[.slice (some ⟨bf, off, none⟩) S.groups.length c, .int .i64 F.start, .bool F.flashed] 41)).heap.size = w.heap.size + 1 + 1 := by simp
  have hkA := k1.tr k2
  obtain ⟨WA, hWA⟩ : ∃ WA, ((w.alloc (.cells #[.pointer (some ⟨B, 0, none⟩)] 70)).alloc (.cells #[.slice (some ⟨bf, off, none⟩) S.groups.length c, .int .i64 F.start, .bool F.flashed] 41)) = WA := ⟨_, rfl⟩
  rw [hWA] at bn ps hsz hkA
  have HBN := Hid.mk' bn
  have HPS := Hid.mk' ps
  have HSZ := Hid.mk' hsz
  have HK := Hid.mk' hkA
  have HB := Hid.mk' (hB.kept hkA)
  have HB0 := Hid.mk' hB
  have HSB := Hid.mk' h
  have HSH := Hid.mk' hSh
  have HCF : Hid (∀ i, i < S.groups.length → ∀ j, j < 3 → w.cell? ⟨bf, off + i * 3 + j, none⟩ = some (snV (F.g i) j)) := fun i hi j hj => hcf i (by omega) j hj
  have HLN := Hid.mk' hB.size
  have n1_ : ∀ w', Kept WA w' none → w'.cell? ⟨w.heap.size + 1, 1, none⟩ = some (.int .i64 F.start) := fun w' q => (HBN.out.kept q).c1
  have n2_ : ∀ w', Kept WA w' none → w'.cell? ⟨w.heap.size + 1, 2, none⟩ = some (.bool F.flashed) := fun w' q => (HBN.out.kept q).c2
  have hn16 : S.groups.length ≤ 100 := by omega
  rw [show safeV (some ⟨bf, off, none⟩) c F = .agg #[.slice (some ⟨bf, off, none⟩) S.groups.length c, .int .i64 F.start, .bool F.flashed] by rw [safeV, hf]]
  clear h hSh hF hf hB k1 k2 bn ps hsz hkA hcf
  have HV : Hid (∀ i, letF S F L i = 1) := fun i => by unfold letF; rw [if_neg (by rw [h4]; decide), if_pos hs]
  have hall := gall_any (c := cl) HB.out 4
  rw [h4] at hall
  have HALL := Hid.mk' hall
  clear hall h4
  obtain ⟨G, st, fl⟩ := F
  dsimp only at hs n1_ n2_
  cases fl with
  | true =>
    go_enter Tryd.func28, Tryd.ntmps28
    go_wp2_with (first | rw [hWA] | (go_at_call 31; refine (gallOf_any 1 S.groups.length hn16).mono ?_; rintro e wO ⟨rfl, hro, hkO⟩; have hKO : Kept WA wO none := Kept.tr hKA hkO; have kL : Kept wO (wO.alloc (.cells #[.slice (some ⟨wA.heap.size, 0, none⟩) S.groups.length S.groups.length] 36)) none := Kept.alloc _ _ _ _ _; have m0 := (HBN.out.kept (hKO.tr kL)).c0; have m1 := n1_ _ (hKO.tr kL); have m2 := n2_ _ (hKO.tr kL)) | (go_at_call 42; refine HALL.out.mono ?_; rintro e wA ⟨rfl, hkA⟩; have hKA : Kept WA wA none := hkA))
    go_ret
    exact ⟨wA.heap.size, ⟨rfl, Nat.le_trans HK.out.size hKA.size, row_kept (hro.congr (fun i hi => by rw [HV.out i]; try rfl)) kL (by simp), HK.out.tr (hKO.tr kL)⟩⟩
  | false =>
    have hs : 0 < st := by simpa using hs
    go_enter Tryd.func28, Tryd.ntmps28
    go_wp2_with (first | rw [hWA] | (go_at_call 31; refine (gallOf_any 1 S.groups.length hn16).mono ?_; rintro e wO ⟨rfl, hro, hkO⟩; have hKO : Kept WA wO none := Kept.tr hKA hkO; have kL : Kept wO (wO.alloc (.cells #[.slice (some ⟨wA.heap.size, 0, none⟩) S.groups.length S.groups.length] 36)) none := Kept.alloc _ _ _ _ _; have m0 := (HBN.out.kept (hKO.tr kL)).c0; have m1 := n1_ _ (hKO.tr kL); have m2 := n2_ _ (hKO.tr kL)) | (go_at_call 42; refine HALL.out.mono ?_; rintro e wA ⟨rfl, hkA⟩; have hKA : Kept WA wA none := hkA))
    go_ret
    exact ⟨wA.heap.size, ⟨rfl, Nat.le_trans HK.out.size hKA.size, row_kept (hro.congr (fun i hi => by rw [HV.out i]; try rfl)) kL (by simp), HK.out.tr (hKO.tr kL)⟩⟩
set_option maxRecDepth 100000 in
set_option maxHeartbeats 4000000 in
theorem glet_go {w : World} {B : Nat} {X : Sa} {S : St} {a : Option Addr} {c : Nat} {F : Sf} {al : Option Addr} {n cl : Nat} {L : List Nat} (h : Sbox w B X S) (hSh : Shape S) (hF : SafeAt w a c F) (hf : F.groups.length = S.groups.length) (hB : By w al n L) (hn : n = S.groups.length) (h4 : allIs L 4 = false) (hs0 : F.flashed = false) (hs1 : ¬ 0 < F.start) : Calls Tryd.prog 28 #[.pointer (some ⟨B, 0, none⟩), safeV a c F, .slice al n cl] w fun e w' => ∃ b, e = .returned (.slice (some ⟨b, 0, none⟩) S.groups.length S.groups.length) ∧ w.heap.size ≤ b ∧ w'.rowIs b 5 S.groups.length (fun i => .int .u8 ((letF S F L i : Nat) : Int)) ∧ Kept w w' none := by
  subst hn
  have hng := hSh.ok.ng
  obtain ⟨bf, off, rfl, hbf, hcf⟩ := hF.lie.at_ (by omega)
  have hFr : S.groups.length ≤ c := by have := hF.cap.room; omega
  have hFm := hF.cap.max
  have hBm := hB.max
  have k1 : Kept w (w.alloc (.cells #[.pointer (some ⟨B, 0, none⟩)] 70)) none := Kept.alloc _ _ _ _ _
  have k2 : Kept (w.alloc (.cells #[.pointer (some ⟨B, 0, none⟩)] 70)) ((w.alloc (.cells #[.pointer (some ⟨B, 0, none⟩)] 70)).alloc (.cells #[.slice (some ⟨bf, off, none⟩) S.groups.length c, .int .i64 F.start, .bool F.flashed] 41)) none := Kept.alloc _ _ _ _ _
  have bn := box_alloc (w.alloc (.cells #[.pointer (some ⟨B, 0, none⟩)] 70)) (.slice (some ⟨bf, off, none⟩) S.groups.length c) (.int .i64 F.start) (.bool F.flashed) 41
  have ps : ((w.alloc (.cells #[.pointer (some ⟨B, 0, none⟩)] 70)).alloc (.cells #[.slice (some ⟨bf, off, none⟩) S.groups.length c, .int .i64 F.start, .bool F.flashed] 41)).cell? ⟨w.heap.size, 0, none⟩ = some (.pointer (some ⟨B, 0, none⟩)) := cell_kept0 (by simp [World.cell?_alloc_mark]) k2
  rw [World.size_alloc] at bn
  have hsz : ((w.alloc (.cells #[.pointer (some ⟨B, 0, none⟩)] 70)).alloc (.cells #[.slice (some ⟨bf, off, none⟩) S.groups.length c, .int .i64 F.start, .bool F.flashed] 41)).heap.size = w.heap.size + 1 + 1 := by simp
  have hkA := k1.tr k2
  obtain ⟨WA, hWA⟩ : ∃ WA, ((w.alloc (.cells #[.pointer (some ⟨B, 0, none⟩)] 70)).alloc (.cells #[.slice (some ⟨bf, off, none⟩) S.groups.length c, .int .i64 F.start, .bool F.flashed] 41)) = WA := ⟨_, rfl⟩
  rw [hWA] at bn ps hsz hkA
  have HBN := Hid.mk' bn
  have HPS := Hid.mk' ps
  have HSZ := Hid.mk' hsz
  have HK := Hid.mk' hkA
  have HB := Hid.mk' (hB.kept hkA)
  have HB0 := Hid.mk' hB
  have HSB := Hid.mk' h
  have HSH := Hid.mk' hSh
  have HCF : Hid (∀ i, i < S.groups.length → ∀ j, j < 3 → w.cell? ⟨bf, off + i * 3 + j, none⟩ = some (snV (F.g i) j)) := fun i hi j hj => hcf i (by omega) j hj
  have HLN := Hid.mk' hB.size
  have n1_ : ∀ w', Kept WA w' none → w'.cell? ⟨w.heap.size + 1, 1, none⟩ = some (.int .i64 F.start) := fun w' q => (HBN.out.kept q).c1
  have n2_ : ∀ w', Kept WA w' none → w'.cell? ⟨w.heap.size + 1, 2, none⟩ = some (.bool F.flashed) := fun w' q => (HBN.out.kept q).c2
  have hn16 : S.groups.length ≤ 100 := by omega
  rw [show safeV (some ⟨bf, off, none⟩) c F = .agg #[.slice (some ⟨bf, off, none⟩) S.groups.length c, .int .i64 F.start, .bool F.flashed] by rw [safeV, hf]]
  clear h hSh hF hf hB k1 k2 bn ps hsz hkA hcf
  have HV : Hid (∀ i, letF S F L i = p2F S F L S.groups.length S.groups.length i) := fun i => by unfold letF; rw [if_neg (by rw [h4]; decide), if_neg (by rw [hs0]; simp only [Bool.false_eq_true, false_or]; exact hs1), HLN.out]
  have hall := gall_any (c := cl) HB.out 4
  rw [h4] at hall
  have HALL := Hid.mk' hall
  clear hall h4
  have hsb : decide (0 < F.start) = false := by simp; omega
  rw [hs0] at hWA HBN n2_ ⊢
  have HS0 := Hid.mk' hs0
  have HBL := Hid.mk' HSB.out.lt
  have hnz : 0 < S.groups.length := by omega
  clear hs0
  go_enter Tryd.func28, Tryd.ntmps28
  go_wp2_with (first | rw [hWA] | (go_at_call 31; refine (gallOf_any 1 S.groups.length hn16).mono ?_; rintro e wO ⟨rfl, hro, hkO⟩; have hKO : Kept WA wO none := Kept.tr hKA hkO; have kL : Kept wO (wO.alloc (.cells #[.slice (some ⟨wA.heap.size, 0, none⟩) S.groups.length S.groups.length] 36)) none := Kept.alloc _ _ _ _ _; have m1 := n1_ _ (hKO.tr kL); have m2 := n2_ _ (hKO.tr kL); have kM : Kept (wO.alloc (.cells #[.slice (some ⟨wA.heap.size, 0, none⟩) S.groups.length S.groups.length] 36)) ((wO.alloc (.cells #[.slice (some ⟨wA.heap.size, 0, none⟩) S.groups.length S.groups.length] 36)).alloc (.cells #[.func (.func 43) #[] #[.pointer (some ⟨w.heap.size, 0, none⟩), .pointer (some ⟨wO.heap.size, 0, none⟩), .pointer (some ⟨w.heap.size + 1, 0, none⟩)]] 95)) none := Kept.alloc _ _ _ _ _; have m0 := (HBN.out.kept ((hKO.tr kL).tr kM)).c0) | (go_at_call 42; refine HALL.out.mono ?_; rintro e wA ⟨rfl, hkA⟩; have hKA : Kept WA wA none := hkA))
  have hgz := hro.lt
  have hwz := hKA.size
  have hoz := hkO.size
  rw [HSZ.out] at hwz
  obtain ⟨W5, hW5⟩ : ∃ W5, ((wO.alloc (.cells #[.slice (some ⟨wA.heap.size, 0, none⟩) S.groups.length S.groups.length] 36)).alloc (.cells #[.func (.func 43) #[] #[.pointer (some ⟨w.heap.size, 0, none⟩), .pointer (some ⟨wO.heap.size, 0, none⟩), .pointer (some ⟨w.heap.size + 1, 0, none⟩)]] 95)) = W5 := ⟨_, rfl⟩
  have hsz5 : ((wO.alloc (.cells #[.slice (some ⟨wA.heap.size, 0, none⟩) S.groups.length S.groups.length] 36)).alloc (.cells #[.func (.func 43) #[] #[.pointer (some ⟨w.heap.size, 0, none⟩), .pointer (some ⟨wO.heap.size, 0, none⟩), .pointer (some ⟨w.heap.size + 1, 0, none⟩)]] 95)).heap.size = wO.heap.size + 1 + 1 := by simp
  have cL : (wO.alloc (.cells #[.slice (some ⟨wA.heap.size, 0, none⟩) S.groups.length S.groups.length] 36)).cell? ⟨wO.heap.size, 0, none⟩ = some (.slice (some ⟨wA.heap.size, 0, none⟩) S.groups.length S.groups.length) := by simp [World.cell?_alloc_mark]
  have cB : ((wO.alloc (.cells #[.slice (some ⟨wA.heap.size, 0, none⟩) S.groups.length S.groups.length] 36)).alloc (.cells #[.func (.func 43) #[] #[.pointer (some ⟨w.heap.size, 0, none⟩), .pointer (some ⟨wO.heap.size, 0, none⟩), .pointer (some ⟨w.heap.size + 1, 0, none⟩)]] 95)).cell? ⟨wO.heap.size + 1, 0, none⟩ = some (.func (.func 43) #[] #[.pointer (some ⟨w.heap.size, 0, none⟩), .pointer (some ⟨wO.heap.size, 0, none⟩), .pointer (some ⟨w.heap.size + 1, 0, none⟩)]) := alloc_at9 _ _ _ (by simp) rfl
  have cL2 := cell_kept0 cL kM
  rw [hW5] at cB cL2 kM hsz5 ⊢
  have k5 : Kept WA W5 none := (hKO.tr kL).tr kM
  have hGL : Gl w W5 B S.groups.length w.heap.size wO.heap.size (w.heap.size + 1) (wO.heap.size + 1) bf off c wA.heap.size F (mixF 0 (w1F S F L)) :=
    ⟨HK.out.tr k5, cell_kept0 HPS.out k5, cL2, by rw [HS0.out]; exact HBN.out.kept k5, cB, (row_kept hro (kL.tr kM) (by simp)).congr (fun i hi => by unfold mixF; rw [if_neg (by omega)]; try rfl)⟩
  have HNE : Hid (Gn w w.heap.size wO.heap.size (w.heap.size + 1) (wO.heap.size + 1) wA.heap.size) := ⟨by omega, by omega, by omega, by omega, by omega⟩
  have HGL := Hid.mk' hGL
  have hb1 : w.heap.size < W5.heap.size := by omega
  clear hW5 cB cL cL2 kM kL hsz5 k5 hGL m0 m1 m2 n1_ n2_ hro hkO hkA hKA hKO
  generalize wO.heap.size = bl at *
  generalize wA.heap.size = g at *
  go_loopw [10, 11, 35] (fun _ _ i wr => ∃ k : Nat, k ≤ S.groups.length ∧ i = .int .i64 k ∧ Gl w wr B S.groups.length w.heap.size bl (w.heap.size + 1) (bl + 1) bf off c g F (mixF k (w1F S F L))) (fun _ _ i _ => S.groups.length - (intOf i).toNat)
  case atStart => exact ⟨0, by omega, rfl, HGL.out⟩
  case round =>
    obtain ⟨k, hk, rfl, hgl⟩ := hrel
    have HG := Hid.mk' hgl
    by_cases hlt : k < S.groups.length
    · have q0 := cell_kept0 (HCF.out k hlt 0 (by omega)) hgl.k
      have q1 := cell_kept0 (HCF.out k hlt 1 (by omega)) hgl.k
      have q2 := cell_kept0 (HCF.out k hlt 2 (by omega)) hgl.k
      simp only [snV, Nat.add_zero] at q0 q1 q2
      have hbq := block_lt q0
      have HASP : Hid ((F.g k).asp = 1 → w1F S F L k = 1) := fun e => by unfold w1F; rw [if_pos e]
      have HWI0 : Hid ((F.g k).asp ≠ 1 → ((w1F S F L k : Nat) : Int) = wantV (S.gr k).min (S.gr k).yellow (F.g k).asp (F.g k).since (lg L k)) := fun e => by unfold w1F; rw [if_neg e]; exact wantN_int S F L k
      have HMX : Hid (mixF (k + 1) (w1F S F L) = fun i => if i = k then w1F S F L k else mixF k (w1F S F L) i) := mixF_set.symm
      have HMK : Hid (mixF k (w1F S F L) k = 1) := by show _ = _; unfold mixF; rw [if_neg (by omega)]
      generalize F.g k = N at *
      by_cases h1 : N.asp = 1
      · have HW := Hid.mk' (HASP.out h1)
        rw [h1] at q0
        clear hgl h1
        go_wp2
        go_roundw
        case rel =>
          refine ⟨k + 1, by omega, by go_num, (HG.out.kept (Kept.alloc _ _ _ _ _)).congr (fun i hi => ?_)⟩
          rw [HMX.out]
          show mixF k (w1F S F L) i = if i = k then w1F S F L k else mixF k (w1F S F L) i
          by_cases e : i = k
          · subst e; rw [if_pos rfl, HW.out, HMK.out]
          · rw [if_neg e]
        case measure => simp [intOf]; omega
      · have h1b : ((N.asp : Int) != 1) = true := by simp; omega
        have HWI := Hid.mk' (HWI0.out h1)
        obtain ⟨bg, og, eg, g0, g1, g2⟩ := (HSB.out.kept hgl.k).sat.grAt hlt
        obtain ⟨ba, oa, rfl, hba, hca⟩ := HB0.out.at_ (by omega)
        have l0 := cell_kept0 (hca k hlt) hgl.k
        rw [show L.getD k 0 = lg L k from rfl] at l0
        have hgc := HSB.out.sat.gk.room
        have hgm := HSB.out.sat.gk.max
        have c1 := (HSB.out.kept hgl.k).c1
        rw [eg] at c1
        generalize S.gr k = G at *
        generalize lg L k = y at *
        generalize w1F S F L k = v at *
        clear h1 HASP HWI0 hca
        go_wp2
        obtain ⟨W1, hW1⟩ : ∃ W1, wr.alloc (.cells #[.int .u8 (N.asp : Int), .int .i64 N.since, .int .i64 N.ended] 65) = W1 := ⟨_, rfl⟩
        have bs1 := box_alloc wr (.int .u8 (N.asp : Int)) (.int .i64 N.since) (.int .i64 N.ended) 65
        have k01 : Kept wr W1 none := by rw [← hW1]; exact Kept.alloc _ _ _ _ _
        rw [hW1] at bs1 ⊢
        have hg1 := hgl.kept k01
        have HG1 := Hid.mk' hg1
        have hne := HNE.out
        have hgr := hgl.row.lt
        have hgw := hgl.k.size
        have e0 : ∀ w', Kept W1 w' (some g) → w'.cell? ⟨wr.heap.size, 0, none⟩ = some (.int .u8 (N.asp : Int)) := fun w' q => cell_keptS bs1.c0 q (by intro e; have := Option.some.inj e; omega)
        have e1 : ∀ w', Kept W1 w' (some g) → w'.cell? ⟨wr.heap.size, 1, none⟩ = some (.int .i64 N.since) := fun w' q => cell_keptS bs1.c1 q (by intro e; have := Option.some.inj e; omega)
        have e2 : ∀ w', Kept W1 w' (some g) → w'.cell? ⟨wr.heap.size, 2, none⟩ = some (.int .i64 N.ended) := fun w' q => cell_keptS bs1.c2 q (by intro e; have := Option.some.inj e; omega)
        have x0 : ∀ w', Kept W1 w' (some g) → w'.cell? ⟨bl, 0, none⟩ = some (.slice (some ⟨g, 0, none⟩) S.groups.length S.groups.length) := fun w' q => cell_keptS hg1.pl q (by intro e; exact hne.l (Option.some.inj e))
        have x1 : ∀ w', Kept W1 w' (some g) → w'.cell? ⟨w.heap.size, 0, none⟩ = some (.pointer (some ⟨B, 0, none⟩)) := fun w' q => cell_keptS hg1.ps q (by intro e; exact hne.s (Option.some.inj e))
        have x2 : ∀ w', Kept W1 w' (some g) → w'.cell? ⟨B, 1, none⟩ = some (.slice (some ⟨bg, og, none⟩) S.groups.length X.gc) := fun w' q => cell_keptS (cell_kept0 c1 k01) q (by intro e; have := Option.some.inj e; have := HBL.out; have := hne.new; omega)
        have hbg : bg < w.heap.size := by
          obtain ⟨b', o', e', hb', _⟩ := HSB.out.sat.g.at_ hnz
          rw [eg] at e'
          injection e' with e'
          injection e' with e1' e2'
          omega
        have x3 : ∀ w', Kept W1 w' (some g) → w'.cell? ⟨bg, og + k * 3, none⟩ = some (.int .u8 (G.kind : Int)) := fun w' q => cell_keptS (cell_kept0 g0 k01) q (by intro e; have := Option.some.inj e; have := hne.new; omega)
        have x4 : ∀ w', Kept W1 w' (some g) → w'.cell? ⟨bg, og + k * 3 + 1, none⟩ = some (.int .i64 G.min) := fun w' q => cell_keptS (cell_kept0 g1 k01) q (by intro e; have := Option.some.inj e; have := hne.new; omega)
        have x5 : ∀ w', Kept W1 w' (some g) → w'.cell? ⟨bg, og + k * 3 + 2, none⟩ = some (.int .i64 G.yellow) := fun w' q => cell_keptS (cell_kept0 g2 k01) q (by intro e; have := Option.some.inj e; have := hne.new; omega)
        have x6 : ∀ w', Kept W1 w' (some g) → w'.cell? ⟨ba, oa + k, none⟩ = some (.int .u8 (y : Int)) := fun w' q => cell_keptS (cell_kept0 l0 k01) q (by intro e; have := Option.some.inj e; have := hne.new; omega)
        clear hW1 bs1 k01 hgl hg1 q0 q1 q2 g0 g1 g2 l0 c1 eg hne hgr hgw hbg
        refine Code.wp_mono (Q := Rs ?A (fun w' => Gl w w' B S.groups.length w.heap.size bl (w.heap.size + 1) (bl + 1) bf off c g F (fun i => if i = k then v else mixF k (w1F S F L) i))) ?cont ?reg
        case reg =>
          repeat (rename_i hh; clear hh)
          refine wp_region_held_drew (S := fun w' => Kept W1 w' (some g)) (by kernel_rfl) (Kept.drew _ _) (fun hHeld => ?_)
          refine held_take (i := 0) (v := ?v1) rfl rfl (by kernel_rfl) (by kernel_rfl) (by kernel_rfl) (fun _ _ _ h => h) (Or.inl ⟨by rfl, ?hy1⟩) hHeld ?rest1
          case hy1 => first | (intro w hSw; (try dsimp only at hSw); go_simp; done) | (intro w hSw; (try dsimp only at hSw); go_simp; with_reducible rfl)
          try simp only [List.setIfInBounds_toArray, List.set_cons_zero, List.set_cons_succ]
          refine held_take (i := 1) (v := ?v2) rfl rfl (by kernel_rfl) (by kernel_rfl) (by kernel_rfl) (fun _ _ _ h => h) (Or.inl ⟨by rfl, ?hy2⟩) hHeld ?rest2
          case hy2 => first | (intro w hSw; (try dsimp only at hSw); go_simp; done) | (intro w hSw; (try dsimp only at hSw); go_simp; with_reducible rfl)
          try simp only [List.setIfInBounds_toArray, List.set_cons_zero, List.set_cons_succ]
          refine held_take (i := 2) (v := ?v3) rfl rfl (by kernel_rfl) (by kernel_rfl) (by kernel_rfl) (fun _ _ _ h => h) (Or.inl ⟨by rfl, ?hy3⟩) hHeld ?rest3
          case hy3 => first | (intro w hSw; (try dsimp only at hSw); go_simp; done) | (intro w hSw; (try dsimp only at hSw); go_simp; with_reducible rfl)
          try simp only [List.setIfInBounds_toArray, List.set_cons_zero, List.set_cons_succ]
          refine held_take (i := 3) (v := ?v4) rfl rfl (by kernel_rfl) (by kernel_rfl) (by kernel_rfl) (fun _ _ _ h => h) (Or.inl ⟨by rfl, ?hy4⟩) hHeld ?rest4
          case hy4 => first | (intro w hSw; (try dsimp only at hSw); go_simp; done) | (intro w hSw; (try dsimp only at hSw); go_simp; with_reducible rfl)
          try simp only [List.setIfInBounds_toArray, List.set_cons_zero, List.set_cons_succ]
          refine held_take (i := 4) (v := ?v5) rfl rfl (by kernel_rfl) (by kernel_rfl) (by kernel_rfl) (fun _ _ _ h => h) (Or.inl ⟨by rfl, ?hy5⟩) hHeld ?rest5
          case hy5 => first | (intro w hSw; (try dsimp only at hSw); go_simp; done) | (intro w hSw; (try dsimp only at hSw); go_simp; with_reducible rfl)
          try simp only [List.setIfInBounds_toArray, List.set_cons_zero, List.set_cons_succ]
          refine held_take (i := 5) (v := ?v6) rfl rfl (by kernel_rfl) (by kernel_rfl) (by kernel_rfl) (fun _ _ _ h => h) (Or.inl ⟨by rfl, ?hy6⟩) hHeld ?rest6
          case hy6 => first | (intro w hSw; (try dsimp only at hSw); go_simp; done) | (intro w hSw; (try dsimp only at hSw); go_simp; with_reducible rfl)
          try simp only [List.setIfInBounds_toArray, List.set_cons_zero, List.set_cons_succ]
          refine held_take (i := 6) (v := ?v7) rfl rfl (by kernel_rfl) (by kernel_rfl) (by kernel_rfl) (fun _ _ _ h => h) (Or.inl ⟨by rfl, ?hy7⟩) hHeld ?rest7
          case hy7 => first | (intro w hSw; (try dsimp only at hSw); go_simp; done) | (intro w hSw; (try dsimp only at hSw); go_simp; with_reducible rfl)
          try simp only [List.setIfInBounds_toArray, List.set_cons_zero, List.set_cons_succ]
          refine held_take (i := 7) (v := ?v8) rfl rfl (by kernel_rfl) (by kernel_rfl) (by kernel_rfl) (fun _ _ _ h => h) (Or.inl ⟨by rfl, ?hy8⟩) hHeld ?rest8
          case hy8 => first | (intro w hSw; (try dsimp only at hSw); go_simp; done) | (intro w hSw; (try dsimp only at hSw); go_simp; with_reducible rfl)
          try simp only [List.setIfInBounds_toArray, List.set_cons_zero, List.set_cons_succ]
          refine held_take (i := 8) (v := ?v9) rfl rfl (by kernel_rfl) (by kernel_rfl) (by kernel_rfl) (fun _ _ _ h => h) (Or.inl ⟨by rfl, ?hy9⟩) hHeld ?rest9
          case hy9 => first | (intro w hSw; (try dsimp only at hSw); go_simp; done) | (intro w hSw; (try dsimp only at hSw); go_simp; with_reducible rfl)
          try simp only [List.setIfInBounds_toArray, List.set_cons_zero, List.set_cons_succ]
          refine held_take (i := 9) (v := ?v10) rfl rfl (by kernel_rfl) (by kernel_rfl) (by kernel_rfl) (fun _ _ _ h => h) (Or.inl ⟨by rfl, ?hy10⟩) hHeld ?rest10
          case hy10 => first | (intro w hSw; (try dsimp only at hSw); go_simp; done) | (intro w hSw; (try dsimp only at hSw); go_simp; with_reducible rfl)
          try simp only [List.setIfInBounds_toArray, List.set_cons_zero, List.set_cons_succ]
          refine held_take (i := 10) (v := ?v11) rfl rfl (by kernel_rfl) (by kernel_rfl) (by kernel_rfl) (fun _ _ _ h => h) (Or.inl ⟨by rfl, ?hy11⟩) hHeld ?rest11
          case hy11 => first | (intro w hSw; (try dsimp only at hSw); go_simp; done) | (intro w hSw; (try dsimp only at hSw); go_simp; with_reducible rfl)
          try simp only [List.setIfInBounds_toArray, List.set_cons_zero, List.set_cons_succ]
          refine held_take (i := 11) (v := ?v12) rfl rfl (by kernel_rfl) (by kernel_rfl) (by kernel_rfl) (fun _ _ _ h => h) (Or.inl ⟨by rfl, ?hy12⟩) hHeld ?rest12
          case hy12 => first | (intro w hSw; (try dsimp only at hSw); go_simp; done) | (intro w hSw; (try dsimp only at hSw); go_simp; with_reducible rfl)
          try simp only [List.setIfInBounds_toArray, List.set_cons_zero, List.set_cons_succ]
          refine held_take (i := 12) (v := ?v13) rfl rfl (by kernel_rfl) (by kernel_rfl) (by kernel_rfl) (fun _ _ _ h => h) (Or.inl ⟨by rfl, ?hy13⟩) hHeld ?rest13
          case hy13 => first | (intro w hSw; (try dsimp only at hSw); go_simp; done) | (intro w hSw; (try dsimp only at hSw); go_simp; with_reducible rfl)
          try simp only [List.setIfInBounds_toArray, List.set_cons_zero, List.set_cons_succ]
          refine held_take (i := 13) (v := ?v14) rfl rfl (by kernel_rfl) (by kernel_rfl) (by kernel_rfl) (fun _ _ _ h => h) (Or.inl ⟨by rfl, ?hy14⟩) hHeld ?rest14
          case hy14 => first | (intro w hSw; (try dsimp only at hSw); go_simp; done) | (intro w hSw; (try dsimp only at hSw); go_simp; with_reducible rfl)
          try simp only [List.setIfInBounds_toArray, List.set_cons_zero, List.set_cons_succ]
          refine wpAnyH_ready (rs := [14]) (by kernel_rfl) (by simp) ?_
          refine AllReadyH.cons rfl (fun K hK => ?_) AllReadyH.nil
          go_simp
          go_wp2_with (go_at_call 46; refine (want_any _ _ _ _ _ _ _ _).mono ?_; rintro e wS ⟨rfl, hkS⟩)
          have hk1 : Kept W1 wS none := Kept.tr (Kept.drew _ _) hkS
          refine hK.out _ _ (hk1.weakS _) (fun hHeld => ?_)
          clear hK K hkS
          refine held_take (i := 15) (v := ?v15) rfl rfl (by kernel_rfl) (by kernel_rfl) (by kernel_rfl) (fun _ _ _ h => h) (Or.inl ⟨by rfl, ?hy15⟩) hHeld ?rest15
          case hy15 => first | (intro w hSw; (try dsimp only at hSw); go_simp; done) | (intro w hSw; (try dsimp only at hSw); go_simp; with_reducible rfl)
          try simp only [List.setIfInBounds_toArray, List.set_cons_zero, List.set_cons_succ]
          have HGS := Hid.mk' (row_kept HG1.out.row hk1 (by simp))
          have hz0 := HGS.out.frozen k
          have y0 := HGS.out.cell (i := k) hlt
          refine wpAnyH_ready (rs := [16]) (by kernel_rfl) (by simp) ?_
          refine AllReadyH.cons rfl (fun K hK => ?_) AllReadyH.nil
          go_simp
          refine hK.out _ _ (hHeld.setRow _ _) (fun hHeld => ?_)
          clear hK K
          refine wpAnyH_done (by kernel_rfl) ?_ _
          refine And.intro (by with_reducible rfl) ?_
          rw [← HWI.out]
          exact (HG1.out.kept hk1).set HNE.out k _
        case cont =>
        intro e a' w' hq
        obtain ⟨rfl, rfl, hgq⟩ := hq.out
        go_wp2
        go_roundw
        case rel => exact ⟨k + 1, by omega, by go_num, by rw [HMX.out]; exact hgq⟩
        case measure => simp [intOf]; omega
    · have e : k = S.groups.length := by omega
      subst e
      have m0 := hgl.bx.c0
      have HG2 : Hid (Gl w wr B S.groups.length w.heap.size bl (w.heap.size + 1) (bl + 1) bf off c g F (p2F S F L S.groups.length 0)) := hgl.congr (fun i hi => by unfold mixF; rw [if_pos hi]; rfl)
      clear hgl HG HGL
      go_wp2
      clear m0
      go_loopw [12, 13, 63] (fun _ _ i wr => ∃ k : Nat, k ≤ S.groups.length ∧ i = .int .i64 k ∧ Gl w wr B S.groups.length w.heap.size bl (w.heap.size + 1) (bl + 1) bf off c g F (p2F S F L S.groups.length k)) (fun _ _ i _ => S.groups.length - (intOf i).toNat)
      case atStart => exact ⟨0, by omega, rfl, HG2.out⟩
      case round =>
        obtain ⟨k, hk, rfl, hgl⟩ := hrel
        have HG := Hid.mk' hgl
        by_cases hlt : k < S.groups.length
        · have q0 := cell_kept0 (HCF.out k hlt 0 (by omega)) hgl.k
          have q1 := cell_kept0 (HCF.out k hlt 1 (by omega)) hgl.k
          have q2 := cell_kept0 (HCF.out k hlt 2 (by omega)) hgl.k
          simp only [snV, Nat.add_zero] at q0 q1 q2
          have hbq := block_lt q0
          obtain ⟨ba, oa, rfl, hba, hca⟩ := HB0.out.at_ (by omega)
          have l0 := cell_kept0 (hca k hlt) hgl.k
          rw [show L.getD k 0 = lg L k from rfl] at l0
          have hbl := block_lt l0
          have HTF : Hid (turnB S F L S.groups.length (p2F S F L S.groups.length k) k = false → ∀ i, p2F S F L S.groups.length k i = p2F S F L S.groups.length (k + 1) i) := fun h i => by rw [p2F, h]; simp
          have HTT : Hid (turnB S F L S.groups.length (p2F S F L S.groups.length k) k = true → p2F S F L S.groups.length (k + 1) = fun i => if i = k then 2 else p2F S F L S.groups.length k i) := fun h => by funext i; rw [p2F, h]; simp
          have HTB : Hid (turnB S F L S.groups.length (p2F S F L S.groups.length k) k = (((F.g k).asp == 1) && ((lg L k == 2) && openB S F S.groups.length (p2F S F L S.groups.length k) k))) := rfl
          have hopn := gopen_any ((hgl.kept (Kept.alloc wr #[.int .u8 ((F.g k).asp : Int), .int .i64 (F.g k).since, .int .i64 (F.g k).ended] 65 (0, 0) none)).gt HSB.out HCF.out hFr hFm) HSH.out (hgl.kept (Kept.alloc wr #[.int .u8 ((F.g k).asp : Int), .int .i64 (F.g k).since, .int .i64 (F.g k).ended] 65 (0, 0) none)).pb hlt
          have HOP := Hid.mk' hopn
          clear hopn hca
          generalize openB S F S.groups.length (p2F S F L S.groups.length k) k = t at *
          generalize turnB S F L S.groups.length (p2F S F L S.groups.length k) k = tb at *
          generalize F.g k = N at *
          generalize lg L k = y at *
          by_cases h1 : N.asp = 1
          · rw [h1] at q0 HOP HTB
            by_cases h2 : y = 2
            · subst h2
              cases t with
              | true =>
                have HTN := Hid.mk' (HTT.out (by rw [HTB.out]; rfl))
                clear hgl h1 HTF HTT HTB
                go_wp2_with (go_at_call 45; refine HOP.out.mono ?_; rintro e w2 ⟨rfl, hk2⟩; have hg2 := (HG.out.kept (Kept.alloc _ _ _ _ _)).kept hk2; have p0 := hg2.pl; have y0 := hg2.row.cell hlt; have z0 := hg2.row.frozen k)
                go_roundw
                case rel => exact ⟨k + 1, by omega, by go_num, by rw [HTN.out]; exact hg2.set HNE.out k 2⟩
                case measure => simp [intOf]; omega
              | false =>
                have HTN := Hid.mk' (HTF.out (by rw [HTB.out]; rfl))
                clear hgl h1 HTF HTT HTB
                go_wp2_with (go_at_call 45; refine HOP.out.mono ?_; rintro e w2 ⟨rfl, hk2⟩; have hg2 := (HG.out.kept (Kept.alloc _ _ _ _ _)).kept hk2)
                go_roundw
                case rel => exact ⟨k + 1, by omega, by go_num, hg2.congr (fun i hi => HTN.out i)⟩
                case measure => simp [intOf]; omega
            · have h2b : ((y : Int) == 2) = false := by simp; omega
              have HTN := Hid.mk' (HTF.out (by rw [HTB.out, show (y == 2) = false by simpa using h2]; rfl))
              clear hgl h1 h2 HTF HTT HTB HOP
              go_wp2
              go_roundw
              case rel => exact ⟨k + 1, by omega, by go_num, (HG.out.kept (Kept.alloc _ _ _ _ _)).congr (fun i hi => HTN.out i)⟩
              case measure => simp [intOf]; omega
          · have h1b : ((N.asp : Int) == 1) = false := by simp; omega
            have HTN := Hid.mk' (HTF.out (by rw [HTB.out, show (N.asp == 1) = false by simpa using h1]; rfl))
            clear hgl h1 HTF HTT HTB HOP
            go_wp2
            go_roundw
            case rel => exact ⟨k + 1, by omega, by go_num, (HG.out.kept (Kept.alloc _ _ _ _ _)).congr (fun i hi => HTN.out i)⟩
            case measure => simp [intOf]; omega
        · have e : k = S.groups.length := by omega
          subst e
          have p0 := hgl.pl
          clear hgl
          go_wp2
          go_ret
          exact ⟨g, ⟨rfl, HNE.out.new, HG.out.row.congr (fun i hi => by rw [HV.out i]), HG.out.k⟩⟩
theorem glet_any {w : World} {B : Nat} {X : Sa} {S : St} {a : Option Addr} {c : Nat} {F : Sf} {al : Option Addr} {n cl : Nat} {L : List Nat} (h : Sbox w B X S) (hSh : Shape S) (hF : SafeAt w a c F) (hf : F.groups.length = S.groups.length) (hB : By w al n L) (hn : n = S.groups.length) : Calls Tryd.prog 28 #[.pointer (some ⟨B, 0, none⟩), safeV a c F, .slice al n cl] w fun e w' => ∃ b, e = .returned (.slice (some ⟨b, 0, none⟩) S.groups.length S.groups.length) ∧ w.heap.size ≤ b ∧ w'.rowIs b 5 S.groups.length (fun i => .int .u8 ((letF S F L i : Nat) : Int)) ∧ Kept w w' none := by
  cases h4 : allIs L 4 with
  | true => exact glet_flash h hSh hF hf hB hn h4
  | false =>
    by_cases hs : F.flashed = true ∨ 0 < F.start
    · exact glet_stay h hSh hF hf hB hn h4 hs
    · refine glet_go h hSh hF hf hB hn h4 ?_ (fun e => hs (.inr e))
      cases e : F.flashed with
      | false => rfl
      | true => exact absurd (.inl e) hs

end Go.Proofs.YtkbhcpgdhbfhnaaDoor

/-
  THE CONTRACTS of goesOn, Admit and Open (made by a program).
-/
namespace Go.Proofs.YtkbhcpgdhbfhnaaDoor
open Go.RowKit Go.Lib Go.Deep
set_option linter.unusedVariables false
set_option linter.unusedSimpArgs false

def goesE (S : St) (F : Sf) : Int := if siteB S = false then 50 else if goesV S F = true then 0 else 8
set_option maxRecDepth 100000 in
set_option maxHeartbeats 2000000 in
theorem ggoes_no {X : Sa} {S : St} {w : World} {a : Option Addr} {c : Nat} {F : Sf} (h : Sat w X S) (hT : Tabb w) (hF : SafeAt w a c F) (hs : siteB S = false) : Calls Tryd.prog 29 #[siteV X S, safeV a c F] w fun e w' => e = .returned (.int .i64 50) ∧ Kept w w' none := by
  have k1 : Kept w (w.alloc (.cells #[.int .i64 S.id, .slice X.g S.groups.length X.gc, .slice X.a S.apart.length X.ac, .slice X.b S.between.length X.bc, .slice X.p S.phases.length X.pc, .slice X.e S.eyes.length X.ec, .int .i64 S.watch, .int .i64 S.feed, .int .i64 S.heal, .int .i64 S.low, .int .i64 S.high, .slice X.l S.plans.length X.lc] 34)) none := Kept.alloc _ _ _ _ _
  have k2 : Kept (w.alloc (.cells #[.int .i64 S.id, .slice X.g S.groups.length X.gc, .slice X.a S.apart.length X.ac, .slice X.b S.between.length X.bc, .slice X.p S.phases.length X.pc, .slice X.e S.eyes.length X.ec, .int .i64 S.watch, .int .i64 S.feed, .int .i64 S.heal, .int .i64 S.low, .int .i64 S.high, .slice X.l S.plans.length X.lc] 34)) ((w.alloc (.cells #[.int .i64 S.id, .slice X.g S.groups.length X.gc, .slice X.a S.apart.length X.ac, .slice X.b S.between.length X.bc, .slice X.p S.phases.length X.pc, .slice X.e S.eyes.length X.ec, .int .i64 S.watch, .int .i64 S.feed, .int .i64 S.heal, .int .i64 S.low, .int .i64 S.high, .slice X.l S.plans.length X.lc] 34)).alloc (.cells #[.slice a F.groups.length c, .int .i64 F.start, .bool F.flashed] 41)) none := Kept.alloc _ _ _ _ _
  have hsb := (sbox_alloc h 34).kept k2
  have bn := box_alloc (w.alloc (.cells #[.int .i64 S.id, .slice X.g S.groups.length X.gc, .slice X.a S.apart.length X.ac, .slice X.b S.between.length X.bc, .slice X.p S.phases.length X.pc, .slice X.e S.eyes.length X.ec, .int .i64 S.watch, .int .i64 S.feed, .int .i64 S.heal, .int .i64 S.low, .int .i64 S.high, .slice X.l S.plans.length X.lc] 34)) (.slice a F.groups.length c) (.int .i64 F.start) (.bool F.flashed) 41
  have hsz : ((w.alloc (.cells #[.int .i64 S.id, .slice X.g S.groups.length X.gc, .slice X.a S.apart.length X.ac, .slice X.b S.between.length X.bc, .slice X.p S.phases.length X.pc, .slice X.e S.eyes.length X.ec, .int .i64 S.watch, .int .i64 S.feed, .int .i64 S.heal, .int .i64 S.low, .int .i64 S.high, .slice X.l S.plans.length X.lc] 34)).alloc (.cells #[.slice a F.groups.length c, .int .i64 F.start, .bool F.flashed] 41)).heap.size = w.heap.size + 1 + 1 := by simp
  rw [World.size_alloc] at bn
  have hkA := k1.tr k2
  obtain ⟨WA, hWA⟩ : ∃ WA, ((w.alloc (.cells #[.int .i64 S.id, .slice X.g S.groups.length X.gc, .slice X.a S.apart.length X.ac, .slice X.b S.between.length X.bc, .slice X.p S.phases.length X.pc, .slice X.e S.eyes.length X.ec, .int .i64 S.watch, .int .i64 S.feed, .int .i64 S.heal, .int .i64 S.low, .int .i64 S.high, .slice X.l S.plans.length X.lc] 34)).alloc (.cells #[.slice a F.groups.length c, .int .i64 F.start, .bool F.flashed] 41)) = WA := ⟨_, rfl⟩
  rw [hWA] at hsb bn hsz hkA
  have HSB := Hid.mk' hsb
  have HBN := Hid.mk' bn
  have HSZ := Hid.mk' hsz
  have HK := Hid.mk' hkA
  have HS := Hid.mk' (h.kept hkA)
  have HT := Hid.mk' (hT.kept hkA)
  have HF := Hid.mk' (hF.kept hkA)
  have n0_ : ∀ w', Kept WA w' none → w'.cell? ⟨w.heap.size + 1, 0, none⟩ = some (.slice a F.groups.length c) := fun w' q => (HBN.out.kept q).c0
  have n1_ : ∀ w', Kept WA w' none → w'.cell? ⟨w.heap.size + 1, 1, none⟩ = some (.int .i64 F.start) := fun w' q => (HBN.out.kept q).c1
  have n2_ : ∀ w', Kept WA w' none → w'.cell? ⟨w.heap.size + 1, 2, none⟩ = some (.bool F.flashed) := fun w' q => (HBN.out.kept q).c2
  have s0_ : ∀ w', Kept WA w' none → w'.cell? ⟨w.heap.size, 0, none⟩ = some (.int .i64 S.id) := fun w' q => (HSB.out.kept q).c0
  have s1_ : ∀ w', Kept WA w' none → w'.cell? ⟨w.heap.size, 1, none⟩ = some (.slice X.g S.groups.length X.gc) := fun w' q => (HSB.out.kept q).c1
  have s2_ : ∀ w', Kept WA w' none → w'.cell? ⟨w.heap.size, 2, none⟩ = some (.slice X.a S.apart.length X.ac) := fun w' q => (HSB.out.kept q).c2
  have s3_ : ∀ w', Kept WA w' none → w'.cell? ⟨w.heap.size, 3, none⟩ = some (.slice X.b S.between.length X.bc) := fun w' q => (HSB.out.kept q).c3
  have s4_ : ∀ w', Kept WA w' none → w'.cell? ⟨w.heap.size, 4, none⟩ = some (.slice X.p S.phases.length X.pc) := fun w' q => (HSB.out.kept q).c4
  have s5_ : ∀ w', Kept WA w' none → w'.cell? ⟨w.heap.size, 5, none⟩ = some (.slice X.e S.eyes.length X.ec) := fun w' q => (HSB.out.kept q).c5
  have s6_ : ∀ w', Kept WA w' none → w'.cell? ⟨w.heap.size, 6, none⟩ = some (.int .i64 S.watch) := fun w' q => (HSB.out.kept q).c6
  have s7_ : ∀ w', Kept WA w' none → w'.cell? ⟨w.heap.size, 7, none⟩ = some (.int .i64 S.feed) := fun w' q => (HSB.out.kept q).c7
  have s8_ : ∀ w', Kept WA w' none → w'.cell? ⟨w.heap.size, 8, none⟩ = some (.int .i64 S.heal) := fun w' q => (HSB.out.kept q).c8
  have s9_ : ∀ w', Kept WA w' none → w'.cell? ⟨w.heap.size, 9, none⟩ = some (.int .i64 S.low) := fun w' q => (HSB.out.kept q).c9
  have s10_ : ∀ w', Kept WA w' none → w'.cell? ⟨w.heap.size, 10, none⟩ = some (.int .i64 S.high) := fun w' q => (HSB.out.kept q).c10
  have s11_ : ∀ w', Kept WA w' none → w'.cell? ⟨w.heap.size, 11, none⟩ = some (.slice X.l S.plans.length X.lc) := fun w' q => (HSB.out.kept q).c11
  have hK0 := Kept.refl WA none
  clear h hT hF k1 k2 hsb bn hsz hkA
  go_enter Tryd.func29, Tryd.ntmps29
  go_wp2_with (first | rw [hWA] | (go_at_call 23; refine (next_no HS.out HT.out HF.out (By.nil _ _) hs).mono ?_; rintro e wN ⟨rfl, hkN⟩))
  go_ret
  exact ⟨rfl, HK.out.tr (hkN.tr (Kept.alloc _ _ _ _ _))⟩
set_option maxRecDepth 100000 in
set_option maxHeartbeats 2000000 in
theorem ggoes_bad {X : Sa} {S : St} {w : World} {a : Option Addr} {c : Nat} {F : Sf} (h : Sat w X S) (hT : Tabb w) (hF : SafeAt w a c F) (hs : siteB S = true) (hm : mayS S F = false) : Calls Tryd.prog 29 #[siteV X S, safeV a c F] w fun e w' => e = .returned (.int .i64 8) ∧ Kept w w' none := by
  have k1 : Kept w (w.alloc (.cells #[.int .i64 S.id, .slice X.g S.groups.length X.gc, .slice X.a S.apart.length X.ac, .slice X.b S.between.length X.bc, .slice X.p S.phases.length X.pc, .slice X.e S.eyes.length X.ec, .int .i64 S.watch, .int .i64 S.feed, .int .i64 S.heal, .int .i64 S.low, .int .i64 S.high, .slice X.l S.plans.length X.lc] 34)) none := Kept.alloc _ _ _ _ _
  have k2 : Kept (w.alloc (.cells #[.int .i64 S.id, .slice X.g S.groups.length X.gc, .slice X.a S.apart.length X.ac, .slice X.b S.between.length X.bc, .slice X.p S.phases.length X.pc, .slice X.e S.eyes.length X.ec, .int .i64 S.watch, .int .i64 S.feed, .int .i64 S.heal, .int .i64 S.low, .int .i64 S.high, .slice X.l S.plans.length X.lc] 34)) ((w.alloc (.cells #[.int .i64 S.id, .slice X.g S.groups.length X.gc, .slice X.a S.apart.length X.ac, .slice X.b S.between.length X.bc, .slice X.p S.phases.length X.pc, .slice X.e S.eyes.length X.ec, .int .i64 S.watch, .int .i64 S.feed, .int .i64 S.heal, .int .i64 S.low, .int .i64 S.high, .slice X.l S.plans.length X.lc] 34)).alloc (.cells #[.slice a F.groups.length c, .int .i64 F.start, .bool F.flashed] 41)) none := Kept.alloc _ _ _ _ _
  have hsb := (sbox_alloc h 34).kept k2
  have bn := box_alloc (w.alloc (.cells #[.int .i64 S.id, .slice X.g S.groups.length X.gc, .slice X.a S.apart.length X.ac, .slice X.b S.between.length X.bc, .slice X.p S.phases.length X.pc, .slice X.e S.eyes.length X.ec, .int .i64 S.watch, .int .i64 S.feed, .int .i64 S.heal, .int .i64 S.low, .int .i64 S.high, .slice X.l S.plans.length X.lc] 34)) (.slice a F.groups.length c) (.int .i64 F.start) (.bool F.flashed) 41
  have hsz : ((w.alloc (.cells #[.int .i64 S.id, .slice X.g S.groups.length X.gc, .slice X.a S.apart.length X.ac, .slice X.b S.between.length X.bc, .slice X.p S.phases.length X.pc, .slice X.e S.eyes.length X.ec, .int .i64 S.watch, .int .i64 S.feed, .int .i64 S.heal, .int .i64 S.low, .int .i64 S.high, .slice X.l S.plans.length X.lc] 34)).alloc (.cells #[.slice a F.groups.length c, .int .i64 F.start, .bool F.flashed] 41)).heap.size = w.heap.size + 1 + 1 := by simp
  rw [World.size_alloc] at bn
  have hkA := k1.tr k2
  obtain ⟨WA, hWA⟩ : ∃ WA, ((w.alloc (.cells #[.int .i64 S.id, .slice X.g S.groups.length X.gc, .slice X.a S.apart.length X.ac, .slice X.b S.between.length X.bc, .slice X.p S.phases.length X.pc, .slice X.e S.eyes.length X.ec, .int .i64 S.watch, .int .i64 S.feed, .int .i64 S.heal, .int .i64 S.low, .int .i64 S.high, .slice X.l S.plans.length X.lc] 34)).alloc (.cells #[.slice a F.groups.length c, .int .i64 F.start, .bool F.flashed] 41)) = WA := ⟨_, rfl⟩
  rw [hWA] at hsb bn hsz hkA
  have HSB := Hid.mk' hsb
  have HBN := Hid.mk' bn
  have HSZ := Hid.mk' hsz
  have HK := Hid.mk' hkA
  have HS := Hid.mk' (h.kept hkA)
  have HT := Hid.mk' (hT.kept hkA)
  have HF := Hid.mk' (hF.kept hkA)
  have n0_ : ∀ w', Kept WA w' none → w'.cell? ⟨w.heap.size + 1, 0, none⟩ = some (.slice a F.groups.length c) := fun w' q => (HBN.out.kept q).c0
  have n1_ : ∀ w', Kept WA w' none → w'.cell? ⟨w.heap.size + 1, 1, none⟩ = some (.int .i64 F.start) := fun w' q => (HBN.out.kept q).c1
  have n2_ : ∀ w', Kept WA w' none → w'.cell? ⟨w.heap.size + 1, 2, none⟩ = some (.bool F.flashed) := fun w' q => (HBN.out.kept q).c2
  have s0_ : ∀ w', Kept WA w' none → w'.cell? ⟨w.heap.size, 0, none⟩ = some (.int .i64 S.id) := fun w' q => (HSB.out.kept q).c0
  have s1_ : ∀ w', Kept WA w' none → w'.cell? ⟨w.heap.size, 1, none⟩ = some (.slice X.g S.groups.length X.gc) := fun w' q => (HSB.out.kept q).c1
  have s2_ : ∀ w', Kept WA w' none → w'.cell? ⟨w.heap.size, 2, none⟩ = some (.slice X.a S.apart.length X.ac) := fun w' q => (HSB.out.kept q).c2
  have s3_ : ∀ w', Kept WA w' none → w'.cell? ⟨w.heap.size, 3, none⟩ = some (.slice X.b S.between.length X.bc) := fun w' q => (HSB.out.kept q).c3
  have s4_ : ∀ w', Kept WA w' none → w'.cell? ⟨w.heap.size, 4, none⟩ = some (.slice X.p S.phases.length X.pc) := fun w' q => (HSB.out.kept q).c4
  have s5_ : ∀ w', Kept WA w' none → w'.cell? ⟨w.heap.size, 5, none⟩ = some (.slice X.e S.eyes.length X.ec) := fun w' q => (HSB.out.kept q).c5
  have s6_ : ∀ w', Kept WA w' none → w'.cell? ⟨w.heap.size, 6, none⟩ = some (.int .i64 S.watch) := fun w' q => (HSB.out.kept q).c6
  have s7_ : ∀ w', Kept WA w' none → w'.cell? ⟨w.heap.size, 7, none⟩ = some (.int .i64 S.feed) := fun w' q => (HSB.out.kept q).c7
  have s8_ : ∀ w', Kept WA w' none → w'.cell? ⟨w.heap.size, 8, none⟩ = some (.int .i64 S.heal) := fun w' q => (HSB.out.kept q).c8
  have s9_ : ∀ w', Kept WA w' none → w'.cell? ⟨w.heap.size, 9, none⟩ = some (.int .i64 S.low) := fun w' q => (HSB.out.kept q).c9
  have s10_ : ∀ w', Kept WA w' none → w'.cell? ⟨w.heap.size, 10, none⟩ = some (.int .i64 S.high) := fun w' q => (HSB.out.kept q).c10
  have s11_ : ∀ w', Kept WA w' none → w'.cell? ⟨w.heap.size, 11, none⟩ = some (.slice X.l S.plans.length X.lc) := fun w' q => (HSB.out.kept q).c11
  have hK0 := Kept.refl WA none
  clear h hT hF k1 k2 hsb bn hsz hkA
  go_enter Tryd.func29, Tryd.ntmps29
  go_wp2_with (first | rw [hWA] | (go_at_call 23; refine (next_bad HS.out HT.out HF.out (By.nil _ _) hs hm).mono ?_; rintro e wN ⟨rfl, hkN⟩))
  go_ret
  exact ⟨rfl, HK.out.tr (hkN.tr (Kept.alloc _ _ _ _ _))⟩
set_option maxRecDepth 100000 in
set_option maxHeartbeats 2000000 in
theorem ggoes_may {X : Sa} {S : St} {w : World} {a : Option Addr} {c : Nat} {F : Sf} (h : Sat w X S) (hT : Tabb w) (hF : SafeAt w a c F) (hs : siteB S = true) (hm : mayS S F = true) : Calls Tryd.prog 29 #[siteV X S, safeV a c F] w fun e w' => e = .returned (.int .i64 (goesE S F)) ∧ Kept w w' none := by
  have hng := (span_may hs).base.sh.ok.ng
  have hfn := (mayS_parts hm).1
  have hz : faultV S F [] ≠ 0 := fun e => by have := fault_len e; simp at this; omega
  have hr := hF.cap.room
  have hx := hF.cap.max
  have HY : Hid ((∀ i, i < F.groups.length → aspG F (F.g i).asp = true) → goesE S F = 0) := fun e => by unfold goesE goesV; rw [hs, hm, allB_iff.2 e]; rfl
  have HN : Hid (∀ i, i < F.groups.length → aspG F (F.g i).asp = false → goesE S F = 8) := fun i hi e => by unfold goesE goesV; rw [hs, allB_no hi e, Bool.and_false]; rfl
  have HFN := Hid.mk' hfn
  have hpos : 0 < F.groups.length := by omega
  clear hfn
  obtain ⟨bf, off, rfl, hbf, hcf⟩ := hF.lie.at_ hpos
  have k1 : Kept w (w.alloc (.cells #[.int .i64 S.id, .slice X.g S.groups.length X.gc, .slice X.a S.apart.length X.ac, .slice X.b S.between.length X.bc, .slice X.p S.phases.length X.pc, .slice X.e S.eyes.length X.ec, .int .i64 S.watch, .int .i64 S.feed, .int .i64 S.heal, .int .i64 S.low, .int .i64 S.high, .slice X.l S.plans.length X.lc] 34)) none := Kept.alloc _ _ _ _ _
  have k2 : Kept (w.alloc (.cells #[.int .i64 S.id, .slice X.g S.groups.length X.gc, .slice X.a S.apart.length X.ac, .slice X.b S.between.length X.bc, .slice X.p S.phases.length X.pc, .slice X.e S.eyes.length X.ec, .int .i64 S.watch, .int .i64 S.feed, .int .i64 S.heal, .int .i64 S.low, .int .i64 S.high, .slice X.l S.plans.length X.lc] 34)) ((w.alloc (.cells #[.int .i64 S.id, .slice X.g S.groups.length X.gc, .slice X.a S.apart.length X.ac, .slice X.b S.between.length X.bc, .slice X.p S.phases.length X.pc, .slice X.e S.eyes.length X.ec, .int .i64 S.watch, .int .i64 S.feed, .int .i64 S.heal, .int .i64 S.low, .int .i64 S.high, .slice X.l S.plans.length X.lc] 34)).alloc (.cells #[.slice (some ⟨bf, off, none⟩) F.groups.length c, .int .i64 F.start, .bool F.flashed] 41)) none := Kept.alloc _ _ _ _ _
  have hsb := (sbox_alloc h 34).kept k2
  have bn := box_alloc (w.alloc (.cells #[.int .i64 S.id, .slice X.g S.groups.length X.gc, .slice X.a S.apart.length X.ac, .slice X.b S.between.length X.bc, .slice X.p S.phases.length X.pc, .slice X.e S.eyes.length X.ec, .int .i64 S.watch, .int .i64 S.feed, .int .i64 S.heal, .int .i64 S.low, .int .i64 S.high, .slice X.l S.plans.length X.lc] 34)) (.slice (some ⟨bf, off, none⟩) F.groups.length c) (.int .i64 F.start) (.bool F.flashed) 41
  have hsz : ((w.alloc (.cells #[.int .i64 S.id, .slice X.g S.groups.length X.gc, .slice X.a S.apart.length X.ac, .slice X.b S.between.length X.bc, .slice X.p S.phases.length X.pc, .slice X.e S.eyes.length X.ec, .int .i64 S.watch, .int .i64 S.feed, .int .i64 S.heal, .int .i64 S.low, .int .i64 S.high, .slice X.l S.plans.length X.lc] 34)).alloc (.cells #[.slice (some ⟨bf, off, none⟩) F.groups.length c, .int .i64 F.start, .bool F.flashed] 41)).heap.size = w.heap.size + 1 + 1 := by simp
  rw [World.size_alloc] at bn
  have hkA := k1.tr k2
  obtain ⟨WA, hWA⟩ : ∃ WA, ((w.alloc (.cells #[.int .i64 S.id, .slice X.g S.groups.length X.gc, .slice X.a S.apart.length X.ac, .slice X.b S.between.length X.bc, .slice X.p S.phases.length X.pc, .slice X.e S.eyes.length X.ec, .int .i64 S.watch, .int .i64 S.feed, .int .i64 S.heal, .int .i64 S.low, .int .i64 S.high, .slice X.l S.plans.length X.lc] 34)).alloc (.cells #[.slice (some ⟨bf, off, none⟩) F.groups.length c, .int .i64 F.start, .bool F.flashed] 41)) = WA := ⟨_, rfl⟩
  rw [hWA] at hsb bn hsz hkA
  have HSB := Hid.mk' hsb
  have HBN := Hid.mk' bn
  have HSZ := Hid.mk' hsz
  have HK := Hid.mk' hkA
  have HS := Hid.mk' (h.kept hkA)
  have HT := Hid.mk' (hT.kept hkA)
  have HF := Hid.mk' (hF.kept hkA)
  have HCF : Hid (∀ i, i < F.groups.length → ∀ j, j < 3 → w.cell? ⟨bf, off + i * 3 + j, none⟩ = some (snV (F.g i) j)) := hcf
  have n0_ : ∀ w', Kept WA w' none → w'.cell? ⟨w.heap.size + 1, 0, none⟩ = some (.slice (some ⟨bf, off, none⟩) F.groups.length c) := fun w' q => (HBN.out.kept q).c0
  have n1_ : ∀ w', Kept WA w' none → w'.cell? ⟨w.heap.size + 1, 1, none⟩ = some (.int .i64 F.start) := fun w' q => (HBN.out.kept q).c1
  have n2_ : ∀ w', Kept WA w' none → w'.cell? ⟨w.heap.size + 1, 2, none⟩ = some (.bool F.flashed) := fun w' q => (HBN.out.kept q).c2
  have s0_ : ∀ w', Kept WA w' none → w'.cell? ⟨w.heap.size, 0, none⟩ = some (.int .i64 S.id) := fun w' q => (HSB.out.kept q).c0
  have s1_ : ∀ w', Kept WA w' none → w'.cell? ⟨w.heap.size, 1, none⟩ = some (.slice X.g S.groups.length X.gc) := fun w' q => (HSB.out.kept q).c1
  have s2_ : ∀ w', Kept WA w' none → w'.cell? ⟨w.heap.size, 2, none⟩ = some (.slice X.a S.apart.length X.ac) := fun w' q => (HSB.out.kept q).c2
  have s3_ : ∀ w', Kept WA w' none → w'.cell? ⟨w.heap.size, 3, none⟩ = some (.slice X.b S.between.length X.bc) := fun w' q => (HSB.out.kept q).c3
  have s4_ : ∀ w', Kept WA w' none → w'.cell? ⟨w.heap.size, 4, none⟩ = some (.slice X.p S.phases.length X.pc) := fun w' q => (HSB.out.kept q).c4
  have s5_ : ∀ w', Kept WA w' none → w'.cell? ⟨w.heap.size, 5, none⟩ = some (.slice X.e S.eyes.length X.ec) := fun w' q => (HSB.out.kept q).c5
  have s6_ : ∀ w', Kept WA w' none → w'.cell? ⟨w.heap.size, 6, none⟩ = some (.int .i64 S.watch) := fun w' q => (HSB.out.kept q).c6
  have s7_ : ∀ w', Kept WA w' none → w'.cell? ⟨w.heap.size, 7, none⟩ = some (.int .i64 S.feed) := fun w' q => (HSB.out.kept q).c7
  have s8_ : ∀ w', Kept WA w' none → w'.cell? ⟨w.heap.size, 8, none⟩ = some (.int .i64 S.heal) := fun w' q => (HSB.out.kept q).c8
  have s9_ : ∀ w', Kept WA w' none → w'.cell? ⟨w.heap.size, 9, none⟩ = some (.int .i64 S.low) := fun w' q => (HSB.out.kept q).c9
  have s10_ : ∀ w', Kept WA w' none → w'.cell? ⟨w.heap.size, 10, none⟩ = some (.int .i64 S.high) := fun w' q => (HSB.out.kept q).c10
  have s11_ : ∀ w', Kept WA w' none → w'.cell? ⟨w.heap.size, 11, none⟩ = some (.slice X.l S.plans.length X.lc) := fun w' q => (HSB.out.kept q).c11
  have hK0 := Kept.refl WA none
  clear h hT hF k1 k2 hsb bn hsz hkA
  clear hcf
  go_enter Tryd.func29, Tryd.ntmps29
  go_wp2_with (first | rw [hWA] | (go_at_call 23; refine (next_fault HS.out HT.out HF.out (By.nil _ _) hs hm hz).mono ?_; rintro e wN ⟨b, rfl, hbm, hog, hkN⟩; have hKN : Kept WA wN none := hkN; have kL : Kept wN (wN.alloc (.cells #[.slice (some ⟨b, 0, none⟩) F.groups.length F.groups.length, .int .i64 F.start, .bool F.flashed] 41)) none := Kept.alloc _ _ _ _ _; have m0 := n0_ _ (hKN.tr kL)))
  obtain ⟨W5, hW5⟩ : ∃ W5, wN.alloc (.cells #[.slice (some ⟨b, 0, none⟩) F.groups.length F.groups.length, .int .i64 F.start, .bool F.flashed] 41) = W5 := ⟨_, rfl⟩
  rw [hW5] at kL ⊢
  have hK5 : Kept WA W5 none := hKN.tr kL
  have HK5 := Hid.mk' hK5
  clear hW5 kL hog hbm hkN hKN m0
  go_loopw [9, 23] (fun _ i wr => ∃ k : Nat, k ≤ F.groups.length ∧ i = .int .i64 k ∧ Kept WA wr none ∧ ∀ j, j < k → aspG F (F.g j).asp = true) (fun _ i _ => F.groups.length - (intOf i).toNat)
  case atStart => exact ⟨0, by omega, rfl, HK5.out, fun j hj => by omega⟩
  case round =>
    obtain ⟨k, hk, rfl, hkw, hno⟩ := hrel
    have HKW := Hid.mk' hkw
    have HNO := Hid.mk' hno
    by_cases hlt : k < F.groups.length
    · have q0 := cell_kept0 (HCF.out k hlt 0 (by omega)) (HK.out.tr hkw)
      have q1 := cell_kept0 (HCF.out k hlt 1 (by omega)) (HK.out.tr hkw)
      have q2 := cell_kept0 (HCF.out k hlt 2 (by omega)) (HK.out.tr hkw)
      simp only [snV, Nat.add_zero] at q0 q1 q2
      have hbl := block_lt q0
      have HYK : Hid (aspG F (F.g k).asp = true → ∀ j, j < k + 1 → aspG F (F.g j).asp = true) := fun e => ext_no hno e
      have HNK := Hid.mk' (HN.out k hlt)
      have HAS := Hid.mk' (fun w' => gasp_any (w := w') (a := some ⟨bf, off, none⟩) (c := c) (F := F) (F.g k).asp)
      generalize aspG F (F.g k).asp = z at *
      generalize F.g k = N at *
      have kS : Kept wr (wr.alloc (.cells #[.int .u8 (N.asp : Int), .int .i64 N.since, .int .i64 N.ended] 65)) none := Kept.alloc _ _ _ _ _
      have g0 := n0_ _ (hkw.tr kS)
      have g1 := n1_ _ (hkw.tr kS)
      have g2 := n2_ _ (hkw.tr kS)
      have KS := Hid.mk' (hkw.tr kS)
      clear hkw hno kS n0_ n1_ n2_
      cases z with
      | true =>
        have HN2 := Hid.mk' (HYK.out rfl)
        go_wp2_with (go_at_call 47; refine (HAS.out _).mono ?_; rintro e wS ⟨rfl, hkS⟩)
        go_roundw
        case rel => exact ⟨k + 1, by omega, by go_num, KS.out.tr hkS, HN2.out⟩
        case measure => simp [intOf]; omega
      | false =>
        have HF2 := Hid.mk' (HNK.out rfl)
        go_wp2_with (go_at_call 47; refine (HAS.out _).mono ?_; rintro e wS ⟨rfl, hkS⟩)
        go_ret
        exact ⟨by rw [HF2.out]; rfl, HK.out.tr (KS.out.tr hkS)⟩
    · have e : k = F.groups.length := by omega
      have HG := Hid.mk' (HY.out (fun i hi => hno i (by omega)))
      clear hkw hno n0_ n1_ n2_
      go_wp2
      go_ret
      exact ⟨by rw [HG.out]; rfl, HK.out.tr HKW.out⟩
theorem ggoes_any {X : Sa} {S : St} {w : World} {a : Option Addr} {c : Nat} {F : Sf} (h : Sat w X S) (hT : Tabb w) (hF : SafeAt w a c F) : Calls Tryd.prog 29 #[siteV X S, safeV a c F] w fun e w' => e = .returned (.int .i64 (goesE S F)) ∧ Kept w w' none := by
  cases hs : siteB S with
  | false => rw [show goesE S F = 50 by unfold goesE; rw [hs]; rfl]; exact ggoes_no h hT hF hs
  | true =>
    cases hm : mayS S F with
    | false =>
      rw [show goesE S F = 8 by unfold goesE goesV; rw [hs, hm]; rfl]
      exact ggoes_bad h hT hF hs hm
    | true => exact ggoes_may h hT hF hs hm
theorem goesE_ok {S : St} {F : Sf} (h : goesE S F = 0) : siteB S = true ∧ goesV S F = true := by
  unfold goesE at h
  cases hs : siteB S with
  | false => rw [hs, if_pos rfl] at h; cases h
  | true =>
    rw [hs, if_neg (by decide)] at h
    cases hg : goesV S F with
    | false => rw [hg, if_neg (by decide)] at h; cases h
    | true => exact ⟨rfl, rfl⟩

/-! ### Admit -/
set_option maxRecDepth 100000 in
set_option maxHeartbeats 2000000 in
theorem gadmit_no {X : Sa} {S : St} {w : World} {a : Option Addr} {c : Nat} {F : Sf} (h : Sat w X S) (hT : Tabb w) (hF : SafeAt w a c F) {al : Option Addr} {n cl : Nat} (hz : goesE S F ≠ 0) : Calls Tryd.prog 12 #[siteV X S, safeV a c F, .slice al n cl] w fun e w' => e = .returned (.tuple #[.slice none 0 0, .int .i64 (goesE S F)]) ∧ Kept w w' none := by
  have hzb : (goesE S F != 0) = true := by simpa using hz
  have k1 : Kept w (w.alloc (.cells #[.int .i64 S.id, .slice X.g S.groups.length X.gc, .slice X.a S.apart.length X.ac, .slice X.b S.between.length X.bc, .slice X.p S.phases.length X.pc, .slice X.e S.eyes.length X.ec, .int .i64 S.watch, .int .i64 S.feed, .int .i64 S.heal, .int .i64 S.low, .int .i64 S.high, .slice X.l S.plans.length X.lc] 34)) none := Kept.alloc _ _ _ _ _
  have k2 : Kept (w.alloc (.cells #[.int .i64 S.id, .slice X.g S.groups.length X.gc, .slice X.a S.apart.length X.ac, .slice X.b S.between.length X.bc, .slice X.p S.phases.length X.pc, .slice X.e S.eyes.length X.ec, .int .i64 S.watch, .int .i64 S.feed, .int .i64 S.heal, .int .i64 S.low, .int .i64 S.high, .slice X.l S.plans.length X.lc] 34)) ((w.alloc (.cells #[.int .i64 S.id, .slice X.g S.groups.length X.gc, .slice X.a S.apart.length X.ac, .slice X.b S.between.length X.bc, .slice X.p S.phases.length X.pc, .slice X.e S.eyes.length X.ec, .int .i64 S.watch, .int .i64 S.feed, .int .i64 S.heal, .int .i64 S.low, .int .i64 S.high, .slice X.l S.plans.length X.lc] 34)).alloc (.cells #[.slice a F.groups.length c, .int .i64 F.start, .bool F.flashed] 41)) none := Kept.alloc _ _ _ _ _
  have hsb := (sbox_alloc h 34).kept k2
  have bn := box_alloc (w.alloc (.cells #[.int .i64 S.id, .slice X.g S.groups.length X.gc, .slice X.a S.apart.length X.ac, .slice X.b S.between.length X.bc, .slice X.p S.phases.length X.pc, .slice X.e S.eyes.length X.ec, .int .i64 S.watch, .int .i64 S.feed, .int .i64 S.heal, .int .i64 S.low, .int .i64 S.high, .slice X.l S.plans.length X.lc] 34)) (.slice a F.groups.length c) (.int .i64 F.start) (.bool F.flashed) 41
  have hsz : ((w.alloc (.cells #[.int .i64 S.id, .slice X.g S.groups.length X.gc, .slice X.a S.apart.length X.ac, .slice X.b S.between.length X.bc, .slice X.p S.phases.length X.pc, .slice X.e S.eyes.length X.ec, .int .i64 S.watch, .int .i64 S.feed, .int .i64 S.heal, .int .i64 S.low, .int .i64 S.high, .slice X.l S.plans.length X.lc] 34)).alloc (.cells #[.slice a F.groups.length c, .int .i64 F.start, .bool F.flashed] 41)).heap.size = w.heap.size + 1 + 1 := by simp
  rw [World.size_alloc] at bn
  have hkA := k1.tr k2
  obtain ⟨WA, hWA⟩ : ∃ WA, ((w.alloc (.cells #[.int .i64 S.id, .slice X.g S.groups.length X.gc, .slice X.a S.apart.length X.ac, .slice X.b S.between.length X.bc, .slice X.p S.phases.length X.pc, .slice X.e S.eyes.length X.ec, .int .i64 S.watch, .int .i64 S.feed, .int .i64 S.heal, .int .i64 S.low, .int .i64 S.high, .slice X.l S.plans.length X.lc] 34)).alloc (.cells #[.slice a F.groups.length c, .int .i64 F.start, .bool F.flashed] 41)) = WA := ⟨_, rfl⟩
  rw [hWA] at hsb bn hsz hkA
  have HSB := Hid.mk' hsb
  have HBN := Hid.mk' bn
  have HSZ := Hid.mk' hsz
  have HK := Hid.mk' hkA
  have HS := Hid.mk' (h.kept hkA)
  have HT := Hid.mk' (hT.kept hkA)
  have HF := Hid.mk' (hF.kept hkA)
  have n0_ : ∀ w', Kept WA w' none → w'.cell? ⟨w.heap.size + 1, 0, none⟩ = some (.slice a F.groups.length c) := fun w' q => (HBN.out.kept q).c0
  have n1_ : ∀ w', Kept WA w' none → w'.cell? ⟨w.heap.size + 1, 1, none⟩ = some (.int .i64 F.start) := fun w' q => (HBN.out.kept q).c1
  have n2_ : ∀ w', Kept WA w' none → w'.cell? ⟨w.heap.size + 1, 2, none⟩ = some (.bool F.flashed) := fun w' q => (HBN.out.kept q).c2
  have s0_ : ∀ w', Kept WA w' none → w'.cell? ⟨w.heap.size, 0, none⟩ = some (.int .i64 S.id) := fun w' q => (HSB.out.kept q).c0
  have s1_ : ∀ w', Kept WA w' none → w'.cell? ⟨w.heap.size, 1, none⟩ = some (.slice X.g S.groups.length X.gc) := fun w' q => (HSB.out.kept q).c1
  have s2_ : ∀ w', Kept WA w' none → w'.cell? ⟨w.heap.size, 2, none⟩ = some (.slice X.a S.apart.length X.ac) := fun w' q => (HSB.out.kept q).c2
  have s3_ : ∀ w', Kept WA w' none → w'.cell? ⟨w.heap.size, 3, none⟩ = some (.slice X.b S.between.length X.bc) := fun w' q => (HSB.out.kept q).c3
  have s4_ : ∀ w', Kept WA w' none → w'.cell? ⟨w.heap.size, 4, none⟩ = some (.slice X.p S.phases.length X.pc) := fun w' q => (HSB.out.kept q).c4
  have s5_ : ∀ w', Kept WA w' none → w'.cell? ⟨w.heap.size, 5, none⟩ = some (.slice X.e S.eyes.length X.ec) := fun w' q => (HSB.out.kept q).c5
  have s6_ : ∀ w', Kept WA w' none → w'.cell? ⟨w.heap.size, 6, none⟩ = some (.int .i64 S.watch) := fun w' q => (HSB.out.kept q).c6
  have s7_ : ∀ w', Kept WA w' none → w'.cell? ⟨w.heap.size, 7, none⟩ = some (.int .i64 S.feed) := fun w' q => (HSB.out.kept q).c7
  have s8_ : ∀ w', Kept WA w' none → w'.cell? ⟨w.heap.size, 8, none⟩ = some (.int .i64 S.heal) := fun w' q => (HSB.out.kept q).c8
  have s9_ : ∀ w', Kept WA w' none → w'.cell? ⟨w.heap.size, 9, none⟩ = some (.int .i64 S.low) := fun w' q => (HSB.out.kept q).c9
  have s10_ : ∀ w', Kept WA w' none → w'.cell? ⟨w.heap.size, 10, none⟩ = some (.int .i64 S.high) := fun w' q => (HSB.out.kept q).c10
  have s11_ : ∀ w', Kept WA w' none → w'.cell? ⟨w.heap.size, 11, none⟩ = some (.slice X.l S.plans.length X.lc) := fun w' q => (HSB.out.kept q).c11
  have hK0 := Kept.refl WA none
  clear h hT hF k1 k2 hsb bn hsz hkA
  go_enter Tryd.func12, Tryd.ntmps12
  go_wp2_with (first | rw [hWA] | (go_at_call 29; refine (ggoes_any HS.out HT.out HF.out).mono ?_; rintro e wN ⟨rfl, hkN⟩; have hKN : Kept WA wN none := hkN))
  go_ret2
  exact ⟨rfl, HK.out.tr hKN⟩
set_option maxRecDepth 100000 in
set_option maxHeartbeats 2000000 in
theorem gadmit_ask {X : Sa} {S : St} {w : World} {a : Option Addr} {c : Nat} {F : Sf} (h : Sat w X S) (hT : Tabb w) (hF : SafeAt w a c F) {al : Option Addr} {n cl : Nat} (hz : goesE S F = 0) (hn : n ≠ S.groups.length) : Calls Tryd.prog 12 #[siteV X S, safeV a c F, .slice al n cl] w fun e w' => e = .returned (.tuple #[.slice none 0 0, .int .i64 90]) ∧ Kept w w' none := by
  have hnb : ((n : Int) != (S.groups.length : Int)) = true := by simp; omega
  have k1 : Kept w (w.alloc (.cells #[.int .i64 S.id, .slice X.g S.groups.length X.gc, .slice X.a S.apart.length X.ac, .slice X.b S.between.length X.bc, .slice X.p S.phases.length X.pc, .slice X.e S.eyes.length X.ec, .int .i64 S.watch, .int .i64 S.feed, .int .i64 S.heal, .int .i64 S.low, .int .i64 S.high, .slice X.l S.plans.length X.lc] 34)) none := Kept.alloc _ _ _ _ _
  have k2 : Kept (w.alloc (.cells #[.int .i64 S.id, .slice X.g S.groups.length X.gc, .slice X.a S.apart.length X.ac, .slice X.b S.between.length X.bc, .slice X.p S.phases.length X.pc, .slice X.e S.eyes.length X.ec, .int .i64 S.watch, .int .i64 S.feed, .int .i64 S.heal, .int .i64 S.low, .int .i64 S.high, .slice X.l S.plans.length X.lc] 34)) ((w.alloc (.cells #[.int .i64 S.id, .slice X.g S.groups.length X.gc, .slice X.a S.apart.length X.ac, .slice X.b S.between.length X.bc, .slice X.p S.phases.length X.pc, .slice X.e S.eyes.length X.ec, .int .i64 S.watch, .int .i64 S.feed, .int .i64 S.heal, .int .i64 S.low, .int .i64 S.high, .slice X.l S.plans.length X.lc] 34)).alloc (.cells #[.slice a F.groups.length c, .int .i64 F.start, .bool F.flashed] 41)) none := Kept.alloc _ _ _ _ _
  have hsb := (sbox_alloc h 34).kept k2
  have bn := box_alloc (w.alloc (.cells #[.int .i64 S.id, .slice X.g S.groups.length X.gc, .slice X.a S.apart.length X.ac, .slice X.b S.between.length X.bc, .slice X.p S.phases.length X.pc, .slice X.e S.eyes.length X.ec, .int .i64 S.watch, .int .i64 S.feed, .int .i64 S.heal, .int .i64 S.low, .int .i64 S.high, .slice X.l S.plans.length X.lc] 34)) (.slice a F.groups.length c) (.int .i64 F.start) (.bool F.flashed) 41
  have hsz : ((w.alloc (.cells #[.int .i64 S.id, .slice X.g S.groups.length X.gc, .slice X.a S.apart.length X.ac, .slice X.b S.between.length X.bc, .slice X.p S.phases.length X.pc, .slice X.e S.eyes.length X.ec, .int .i64 S.watch, .int .i64 S.feed, .int .i64 S.heal, .int .i64 S.low, .int .i64 S.high, .slice X.l S.plans.length X.lc] 34)).alloc (.cells #[.slice a F.groups.length c, .int .i64 F.start, .bool F.flashed] 41)).heap.size = w.heap.size + 1 + 1 := by simp
  rw [World.size_alloc] at bn
  have hkA := k1.tr k2
  obtain ⟨WA, hWA⟩ : ∃ WA, ((w.alloc (.cells #[.int .i64 S.id, .slice X.g S.groups.length X.gc, .slice X.a S.apart.length X.ac, .slice X.b S.between.length X.bc, .slice X.p S.phases.length X.pc, .slice X.e S.eyes.length X.ec, .int .i64 S.watch, .int .i64 S.feed, .int .i64 S.heal, .int .i64 S.low, .int .i64 S.high, .slice X.l S.plans.length X.lc] 34)).alloc (.cells #[.slice a F.groups.length c, .int .i64 F.start, .bool F.flashed] 41)) = WA := ⟨_, rfl⟩
  rw [hWA] at hsb bn hsz hkA
  have HSB := Hid.mk' hsb
  have HBN := Hid.mk' bn
  have HSZ := Hid.mk' hsz
  have HK := Hid.mk' hkA
  have HS := Hid.mk' (h.kept hkA)
  have HT := Hid.mk' (hT.kept hkA)
  have HF := Hid.mk' (hF.kept hkA)
  have n0_ : ∀ w', Kept WA w' none → w'.cell? ⟨w.heap.size + 1, 0, none⟩ = some (.slice a F.groups.length c) := fun w' q => (HBN.out.kept q).c0
  have n1_ : ∀ w', Kept WA w' none → w'.cell? ⟨w.heap.size + 1, 1, none⟩ = some (.int .i64 F.start) := fun w' q => (HBN.out.kept q).c1
  have n2_ : ∀ w', Kept WA w' none → w'.cell? ⟨w.heap.size + 1, 2, none⟩ = some (.bool F.flashed) := fun w' q => (HBN.out.kept q).c2
  have s0_ : ∀ w', Kept WA w' none → w'.cell? ⟨w.heap.size, 0, none⟩ = some (.int .i64 S.id) := fun w' q => (HSB.out.kept q).c0
  have s1_ : ∀ w', Kept WA w' none → w'.cell? ⟨w.heap.size, 1, none⟩ = some (.slice X.g S.groups.length X.gc) := fun w' q => (HSB.out.kept q).c1
  have s2_ : ∀ w', Kept WA w' none → w'.cell? ⟨w.heap.size, 2, none⟩ = some (.slice X.a S.apart.length X.ac) := fun w' q => (HSB.out.kept q).c2
  have s3_ : ∀ w', Kept WA w' none → w'.cell? ⟨w.heap.size, 3, none⟩ = some (.slice X.b S.between.length X.bc) := fun w' q => (HSB.out.kept q).c3
  have s4_ : ∀ w', Kept WA w' none → w'.cell? ⟨w.heap.size, 4, none⟩ = some (.slice X.p S.phases.length X.pc) := fun w' q => (HSB.out.kept q).c4
  have s5_ : ∀ w', Kept WA w' none → w'.cell? ⟨w.heap.size, 5, none⟩ = some (.slice X.e S.eyes.length X.ec) := fun w' q => (HSB.out.kept q).c5
  have s6_ : ∀ w', Kept WA w' none → w'.cell? ⟨w.heap.size, 6, none⟩ = some (.int .i64 S.watch) := fun w' q => (HSB.out.kept q).c6
  have s7_ : ∀ w', Kept WA w' none → w'.cell? ⟨w.heap.size, 7, none⟩ = some (.int .i64 S.feed) := fun w' q => (HSB.out.kept q).c7
  have s8_ : ∀ w', Kept WA w' none → w'.cell? ⟨w.heap.size, 8, none⟩ = some (.int .i64 S.heal) := fun w' q => (HSB.out.kept q).c8
  have s9_ : ∀ w', Kept WA w' none → w'.cell? ⟨w.heap.size, 9, none⟩ = some (.int .i64 S.low) := fun w' q => (HSB.out.kept q).c9
  have s10_ : ∀ w', Kept WA w' none → w'.cell? ⟨w.heap.size, 10, none⟩ = some (.int .i64 S.high) := fun w' q => (HSB.out.kept q).c10
  have s11_ : ∀ w', Kept WA w' none → w'.cell? ⟨w.heap.size, 11, none⟩ = some (.slice X.l S.plans.length X.lc) := fun w' q => (HSB.out.kept q).c11
  have hK0 := Kept.refl WA none
  clear h hT hF k1 k2 hsb bn hsz hkA
  go_enter Tryd.func12, Tryd.ntmps12
  go_wp2_with (first | rw [hWA] | (go_at_call 29; have hg := ggoes_any HS.out HT.out HF.out; rw [hz] at hg; refine hg.mono ?_; rintro e wN ⟨rfl, hkN⟩; have hKN : Kept WA wN none := hkN))
  go_ret2
  exact ⟨rfl, HK.out.tr hKN⟩
set_option maxRecDepth 100000 in
set_option maxHeartbeats 2000000 in
theorem gadmit_go {X : Sa} {S : St} {w : World} {a : Option Addr} {c : Nat} {F : Sf} (h : Sat w X S) (hT : Tabb w) (hF : SafeAt w a c F) {al : Option Addr} {n cl : Nat} {L : List Nat} (hB : By w al n L) (hz : goesE S F = 0) (hn : n = S.groups.length) : Calls Tryd.prog 12 #[siteV X S, safeV a c F, .slice al n cl] w fun e w' => ∃ b, e = .returned (.tuple #[.slice (some ⟨b, 0, none⟩) S.groups.length S.groups.length, .int .i64 0]) ∧ w.heap.size ≤ b ∧ w'.rowIs b 5 S.groups.length (fun i => .int .u8 ((letF S F L i : Nat) : Int)) ∧ Kept w w' none := by
  obtain ⟨hs, hg⟩ := goesE_ok hz
  have HSH := Hid.mk' (span_may hs).base.sh
  have HFN := Hid.mk' (mayS_parts (goes_parts hg).1).1
  have HLET := Hid.mk' (fun w' al' n' cl' (q1 : Sbox w' w.heap.size X S) (q2 : SafeAt w' a c F) (q3 : By w' al' n' L) (q4 : n' = S.groups.length) => glet_any (cl := cl') q1 HSH.out q2 HFN.out q3 q4)
  subst hn
  have hBm := hB.max
  have k1 : Kept w (w.alloc (.cells #[.int .i64 S.id, .slice X.g S.groups.length X.gc, .slice X.a S.apart.length X.ac, .slice X.b S.between.length X.bc, .slice X.p S.phases.length X.pc, .slice X.e S.eyes.length X.ec, .int .i64 S.watch, .int .i64 S.feed, .int .i64 S.heal, .int .i64 S.low, .int .i64 S.high, .slice X.l S.plans.length X.lc] 34)) none := Kept.alloc _ _ _ _ _
  have k2 : Kept (w.alloc (.cells #[.int .i64 S.id, .slice X.g S.groups.length X.gc, .slice X.a S.apart.length X.ac, .slice X.b S.between.length X.bc, .slice X.p S.phases.length X.pc, .slice X.e S.eyes.length X.ec, .int .i64 S.watch, .int .i64 S.feed, .int .i64 S.heal, .int .i64 S.low, .int .i64 S.high, .slice X.l S.plans.length X.lc] 34)) ((w.alloc (.cells #[.int .i64 S.id, .slice X.g S.groups.length X.gc, .slice X.a S.apart.length X.ac, .slice X.b S.between.length X.bc, .slice X.p S.phases.length X.pc, .slice X.e S.eyes.length X.ec, .int .i64 S.watch, .int .i64 S.feed, .int .i64 S.heal, .int .i64 S.low, .int .i64 S.high, .slice X.l S.plans.length X.lc] 34)).alloc (.cells #[.slice a F.groups.length c, .int .i64 F.start, .bool F.flashed] 41)) none := Kept.alloc _ _ _ _ _
  have hsb := (sbox_alloc h 34).kept k2
  have bn := box_alloc (w.alloc (.cells #[.int .i64 S.id, .slice X.g S.groups.length X.gc, .slice X.a S.apart.length X.ac, .slice X.b S.between.length X.bc, .slice X.p S.phases.length X.pc, .slice X.e S.eyes.length X.ec, .int .i64 S.watch, .int .i64 S.feed, .int .i64 S.heal, .int .i64 S.low, .int .i64 S.high, .slice X.l S.plans.length X.lc] 34)) (.slice a F.groups.length c) (.int .i64 F.start) (.bool F.flashed) 41
  have hsz : ((w.alloc (.cells #[.int .i64 S.id, .slice X.g S.groups.length X.gc, .slice X.a S.apart.length X.ac, .slice X.b S.between.length X.bc, .slice X.p S.phases.length X.pc, .slice X.e S.eyes.length X.ec, .int .i64 S.watch, .int .i64 S.feed, .int .i64 S.heal, .int .i64 S.low, .int .i64 S.high, .slice X.l S.plans.length X.lc] 34)).alloc (.cells #[.slice a F.groups.length c, .int .i64 F.start, .bool F.flashed] 41)).heap.size = w.heap.size + 1 + 1 := by simp
  rw [World.size_alloc] at bn
  have hkA := k1.tr k2
  obtain ⟨WA, hWA⟩ : ∃ WA, ((w.alloc (.cells #[.int .i64 S.id, .slice X.g S.groups.length X.gc, .slice X.a S.apart.length X.ac, .slice X.b S.between.length X.bc, .slice X.p S.phases.length X.pc, .slice X.e S.eyes.length X.ec, .int .i64 S.watch, .int .i64 S.feed, .int .i64 S.heal, .int .i64 S.low, .int .i64 S.high, .slice X.l S.plans.length X.lc] 34)).alloc (.cells #[.slice a F.groups.length c, .int .i64 F.start, .bool F.flashed] 41)) = WA := ⟨_, rfl⟩
  rw [hWA] at hsb bn hsz hkA
  have HSB := Hid.mk' hsb
  have HBN := Hid.mk' bn
  have HSZ := Hid.mk' hsz
  have HK := Hid.mk' hkA
  have HS := Hid.mk' (h.kept hkA)
  have HT := Hid.mk' (hT.kept hkA)
  have HF := Hid.mk' (hF.kept hkA)
  have HB := Hid.mk' (hB.kept hkA)
  have n0_ : ∀ w', Kept WA w' none → w'.cell? ⟨w.heap.size + 1, 0, none⟩ = some (.slice a F.groups.length c) := fun w' q => (HBN.out.kept q).c0
  have n1_ : ∀ w', Kept WA w' none → w'.cell? ⟨w.heap.size + 1, 1, none⟩ = some (.int .i64 F.start) := fun w' q => (HBN.out.kept q).c1
  have n2_ : ∀ w', Kept WA w' none → w'.cell? ⟨w.heap.size + 1, 2, none⟩ = some (.bool F.flashed) := fun w' q => (HBN.out.kept q).c2
  have s0_ : ∀ w', Kept WA w' none → w'.cell? ⟨w.heap.size, 0, none⟩ = some (.int .i64 S.id) := fun w' q => (HSB.out.kept q).c0
  have s1_ : ∀ w', Kept WA w' none → w'.cell? ⟨w.heap.size, 1, none⟩ = some (.slice X.g S.groups.length X.gc) := fun w' q => (HSB.out.kept q).c1
  have s2_ : ∀ w', Kept WA w' none → w'.cell? ⟨w.heap.size, 2, none⟩ = some (.slice X.a S.apart.length X.ac) := fun w' q => (HSB.out.kept q).c2
  have s3_ : ∀ w', Kept WA w' none → w'.cell? ⟨w.heap.size, 3, none⟩ = some (.slice X.b S.between.length X.bc) := fun w' q => (HSB.out.kept q).c3
  have s4_ : ∀ w', Kept WA w' none → w'.cell? ⟨w.heap.size, 4, none⟩ = some (.slice X.p S.phases.length X.pc) := fun w' q => (HSB.out.kept q).c4
  have s5_ : ∀ w', Kept WA w' none → w'.cell? ⟨w.heap.size, 5, none⟩ = some (.slice X.e S.eyes.length X.ec) := fun w' q => (HSB.out.kept q).c5
  have s6_ : ∀ w', Kept WA w' none → w'.cell? ⟨w.heap.size, 6, none⟩ = some (.int .i64 S.watch) := fun w' q => (HSB.out.kept q).c6
  have s7_ : ∀ w', Kept WA w' none → w'.cell? ⟨w.heap.size, 7, none⟩ = some (.int .i64 S.feed) := fun w' q => (HSB.out.kept q).c7
  have s8_ : ∀ w', Kept WA w' none → w'.cell? ⟨w.heap.size, 8, none⟩ = some (.int .i64 S.heal) := fun w' q => (HSB.out.kept q).c8
  have s9_ : ∀ w', Kept WA w' none → w'.cell? ⟨w.heap.size, 9, none⟩ = some (.int .i64 S.low) := fun w' q => (HSB.out.kept q).c9
  have s10_ : ∀ w', Kept WA w' none → w'.cell? ⟨w.heap.size, 10, none⟩ = some (.int .i64 S.high) := fun w' q => (HSB.out.kept q).c10
  have s11_ : ∀ w', Kept WA w' none → w'.cell? ⟨w.heap.size, 11, none⟩ = some (.slice X.l S.plans.length X.lc) := fun w' q => (HSB.out.kept q).c11
  have hK0 := Kept.refl WA none
  clear h hT hF k1 k2 hsb bn hsz hkA
  clear hB
  go_enter Tryd.func12, Tryd.ntmps12
  go_wp2_with (first | rw [hWA] | (go_at_call 28; refine (HLET.out _ _ _ _ (HSB.out.kept hKN) (HF.out.kept hKN) (HB.out.kept hKN) rfl).mono ?_; rintro e wL ⟨b, rfl, hbm, hro, hkL⟩) | (go_at_call 29; have hg := ggoes_any HS.out HT.out HF.out; rw [hz] at hg; refine hg.mono ?_; rintro e wN ⟨rfl, hkN⟩; have hKN : Kept WA wN none := hkN))
  go_ret2
  exact ⟨b, ⟨rfl, Nat.le_trans (HK.out.tr hKN).size hbm, hro, (HK.out.tr hKN).tr hkL⟩⟩

/-! ### Open -/
set_option maxRecDepth 100000 in
set_option maxHeartbeats 2000000 in
theorem gopn_no {X : Sa} {S : St} {w : World} {a : Option Addr} {c : Nat} {F : Sf} (h : Sat w X S) (hT : Tabb w) (hF : SafeAt w a c F) (g : Int) (hz : goesE S F ≠ 0) : Calls Tryd.prog 14 #[siteV X S, safeV a c F, .int .i64 g] w fun e w' => e = .returned (.tuple #[.bool false, .int .i64 (goesE S F)]) ∧ Kept w w' none := by
  have hzb : (goesE S F != 0) = true := by simpa using hz
  have k1 : Kept w (w.alloc (.cells #[.int .i64 S.id, .slice X.g S.groups.length X.gc, .slice X.a S.apart.length X.ac, .slice X.b S.between.length X.bc, .slice X.p S.phases.length X.pc, .slice X.e S.eyes.length X.ec, .int .i64 S.watch, .int .i64 S.feed, .int .i64 S.heal, .int .i64 S.low, .int .i64 S.high, .slice X.l S.plans.length X.lc] 34)) none := Kept.alloc _ _ _ _ _
  have k2 : Kept (w.alloc (.cells #[.int .i64 S.id, .slice X.g S.groups.length X.gc, .slice X.a S.apart.length X.ac, .slice X.b S.between.length X.bc, .slice X.p S.phases.length X.pc, .slice X.e S.eyes.length X.ec, .int .i64 S.watch, .int .i64 S.feed, .int .i64 S.heal, .int .i64 S.low, .int .i64 S.high, .slice X.l S.plans.length X.lc] 34)) ((w.alloc (.cells #[.int .i64 S.id, .slice X.g S.groups.length X.gc, .slice X.a S.apart.length X.ac, .slice X.b S.between.length X.bc, .slice X.p S.phases.length X.pc, .slice X.e S.eyes.length X.ec, .int .i64 S.watch, .int .i64 S.feed, .int .i64 S.heal, .int .i64 S.low, .int .i64 S.high, .slice X.l S.plans.length X.lc] 34)).alloc (.cells #[.slice a F.groups.length c, .int .i64 F.start, .bool F.flashed] 41)) none := Kept.alloc _ _ _ _ _
  have hsb := (sbox_alloc h 34).kept k2
  have bn := box_alloc (w.alloc (.cells #[.int .i64 S.id, .slice X.g S.groups.length X.gc, .slice X.a S.apart.length X.ac, .slice X.b S.between.length X.bc, .slice X.p S.phases.length X.pc, .slice X.e S.eyes.length X.ec, .int .i64 S.watch, .int .i64 S.feed, .int .i64 S.heal, .int .i64 S.low, .int .i64 S.high, .slice X.l S.plans.length X.lc] 34)) (.slice a F.groups.length c) (.int .i64 F.start) (.bool F.flashed) 41
  have hsz : ((w.alloc (.cells #[.int .i64 S.id, .slice X.g S.groups.length X.gc, .slice X.a S.apart.length X.ac, .slice X.b S.between.length X.bc, .slice X.p S.phases.length X.pc, .slice X.e S.eyes.length X.ec, .int .i64 S.watch, .int .i64 S.feed, .int .i64 S.heal, .int .i64 S.low, .int .i64 S.high, .slice X.l S.plans.length X.lc] 34)).alloc (.cells #[.slice a F.groups.length c, .int .i64 F.start, .bool F.flashed] 41)).heap.size = w.heap.size + 1 + 1 := by simp
  rw [World.size_alloc] at bn
  have hkA := k1.tr k2
  obtain ⟨WA, hWA⟩ : ∃ WA, ((w.alloc (.cells #[.int .i64 S.id, .slice X.g S.groups.length X.gc, .slice X.a S.apart.length X.ac, .slice X.b S.between.length X.bc, .slice X.p S.phases.length X.pc, .slice X.e S.eyes.length X.ec, .int .i64 S.watch, .int .i64 S.feed, .int .i64 S.heal, .int .i64 S.low, .int .i64 S.high, .slice X.l S.plans.length X.lc] 34)).alloc (.cells #[.slice a F.groups.length c, .int .i64 F.start, .bool F.flashed] 41)) = WA := ⟨_, rfl⟩
  rw [hWA] at hsb bn hsz hkA
  have HSB := Hid.mk' hsb
  have HBN := Hid.mk' bn
  have HSZ := Hid.mk' hsz
  have HK := Hid.mk' hkA
  have HS := Hid.mk' (h.kept hkA)
  have HT := Hid.mk' (hT.kept hkA)
  have HF := Hid.mk' (hF.kept hkA)
  have n0_ : ∀ w', Kept WA w' none → w'.cell? ⟨w.heap.size + 1, 0, none⟩ = some (.slice a F.groups.length c) := fun w' q => (HBN.out.kept q).c0
  have n1_ : ∀ w', Kept WA w' none → w'.cell? ⟨w.heap.size + 1, 1, none⟩ = some (.int .i64 F.start) := fun w' q => (HBN.out.kept q).c1
  have n2_ : ∀ w', Kept WA w' none → w'.cell? ⟨w.heap.size + 1, 2, none⟩ = some (.bool F.flashed) := fun w' q => (HBN.out.kept q).c2
  have s0_ : ∀ w', Kept WA w' none → w'.cell? ⟨w.heap.size, 0, none⟩ = some (.int .i64 S.id) := fun w' q => (HSB.out.kept q).c0
  have s1_ : ∀ w', Kept WA w' none → w'.cell? ⟨w.heap.size, 1, none⟩ = some (.slice X.g S.groups.length X.gc) := fun w' q => (HSB.out.kept q).c1
  have s2_ : ∀ w', Kept WA w' none → w'.cell? ⟨w.heap.size, 2, none⟩ = some (.slice X.a S.apart.length X.ac) := fun w' q => (HSB.out.kept q).c2
  have s3_ : ∀ w', Kept WA w' none → w'.cell? ⟨w.heap.size, 3, none⟩ = some (.slice X.b S.between.length X.bc) := fun w' q => (HSB.out.kept q).c3
  have s4_ : ∀ w', Kept WA w' none → w'.cell? ⟨w.heap.size, 4, none⟩ = some (.slice X.p S.phases.length X.pc) := fun w' q => (HSB.out.kept q).c4
  have s5_ : ∀ w', Kept WA w' none → w'.cell? ⟨w.heap.size, 5, none⟩ = some (.slice X.e S.eyes.length X.ec) := fun w' q => (HSB.out.kept q).c5
  have s6_ : ∀ w', Kept WA w' none → w'.cell? ⟨w.heap.size, 6, none⟩ = some (.int .i64 S.watch) := fun w' q => (HSB.out.kept q).c6
  have s7_ : ∀ w', Kept WA w' none → w'.cell? ⟨w.heap.size, 7, none⟩ = some (.int .i64 S.feed) := fun w' q => (HSB.out.kept q).c7
  have s8_ : ∀ w', Kept WA w' none → w'.cell? ⟨w.heap.size, 8, none⟩ = some (.int .i64 S.heal) := fun w' q => (HSB.out.kept q).c8
  have s9_ : ∀ w', Kept WA w' none → w'.cell? ⟨w.heap.size, 9, none⟩ = some (.int .i64 S.low) := fun w' q => (HSB.out.kept q).c9
  have s10_ : ∀ w', Kept WA w' none → w'.cell? ⟨w.heap.size, 10, none⟩ = some (.int .i64 S.high) := fun w' q => (HSB.out.kept q).c10
  have s11_ : ∀ w', Kept WA w' none → w'.cell? ⟨w.heap.size, 11, none⟩ = some (.slice X.l S.plans.length X.lc) := fun w' q => (HSB.out.kept q).c11
  have hK0 := Kept.refl WA none
  clear h hT hF k1 k2 hsb bn hsz hkA
  go_enter Tryd.func14, Tryd.ntmps14
  go_wp2_with (first | rw [hWA] | (go_at_call 29; refine (ggoes_any HS.out HT.out HF.out).mono ?_; rintro e wN ⟨rfl, hkN⟩; have hKN : Kept WA wN none := hkN))
  go_ret2
  exact ⟨rfl, HK.out.tr hKN⟩
set_option maxRecDepth 100000 in
set_option maxHeartbeats 2000000 in
theorem gopn_arg {X : Sa} {S : St} {w : World} {a : Option Addr} {c : Nat} {F : Sf} (h : Sat w X S) (hT : Tabb w) (hF : SafeAt w a c F) (g : Int) (hz : goesE S F = 0) (hg : g < 0 ∨ (S.groups.length : Int) ≤ g) : Calls Tryd.prog 14 #[siteV X S, safeV a c F, .int .i64 g] w fun e w' => e = .returned (.tuple #[.bool false, .int .i64 2]) ∧ Kept w w' none := by
  by_cases h0 : g < 0
  · clear hg
    have k1 : Kept w (w.alloc (.cells #[.int .i64 S.id, .slice X.g S.groups.length X.gc, .slice X.a S.apart.length X.ac, .slice X.b S.between.length X.bc, .slice X.p S.phases.length X.pc, .slice X.e S.eyes.length X.ec, .int .i64 S.watch, .int .i64 S.feed, .int .i64 S.heal, .int .i64 S.low, .int .i64 S.high, .slice X.l S.plans.length X.lc] 34)) none := Kept.alloc _ _ _ _ _
    have k2 : Kept (w.alloc (.cells #[.int .i64 S.id, .slice X.g S.groups.length X.gc, .slice X.a S.apart.length X.ac, .slice X.b S.between.length X.bc, .slice X.p S.phases.length X.pc, .slice X.e S.eyes.length X.ec, .int .i64 S.watch, .int .i64 S.feed, .int .i64 S.heal, .int .i64 S.low, .int .i64 S.high, .slice X.l S.plans.length X.lc] 34)) ((w.alloc (.cells #[.int .i64 S.id, .slice X.g S.groups.length X.gc, .slice X.a S.apart.length X.ac, .slice X.b S.between.length X.bc, .slice X.p S.phases.length X.pc, .slice X.e S.eyes.length X.ec, .int .i64 S.watch, .int .i64 S.feed, .int .i64 S.heal, .int .i64 S.low, .int .i64 S.high, .slice X.l S.plans.length X.lc] 34)).alloc (.cells #[.slice a F.groups.length c, .int .i64 F.start, .bool F.flashed] 41)) none := Kept.alloc _ _ _ _ _
    have hsb := (sbox_alloc h 34).kept k2
    have bn := box_alloc (w.alloc (.cells #[.int .i64 S.id, .slice X.g S.groups.length X.gc, .slice X.a S.apart.length X.ac, .slice X.b S.between.length X.bc, .slice X.p S.phases.length X.pc, .slice X.e S.eyes.length X.ec, .int .i64 S.watch, .int .i64 S.feed, .int .i64 S.heal, .int .i64 S.low, .int .i64 S.high, .slice X.l S.plans.length X.lc] 34)) (.slice a F.groups.length c) (.int .i64 F.start) (.bool F.flashed) 41
    have hsz : ((w.alloc (.cells #[.int .i64 S.id, .slice X.g S.groups.length X.gc, .slice X.a S.apart.length X.ac, .slice X.b S.between.length X.bc, .slice X.p S.phases.length X.pc, .slice X.e S.eyes.length X.ec, .int .i64 S.watch, .int .i64 S.feed, .int .i64 S.heal, .int .i64 S.low, .int .i64 S.high, .slice X.l S.plans.length X.lc] 34)).alloc (.cells #[.slice a F.groups.length c, .int .i64 F.start, .bool F.flashed] 41)).heap.size = w.heap.size + 1 + 1 := by simp
    rw [World.size_alloc] at bn
    have hkA := k1.tr k2
    obtain ⟨WA, hWA⟩ : ∃ WA, ((w.alloc (.cells #[.int .i64 S.id, .slice X.g S.groups.length X.gc, .slice X.a S.apart.length X.ac, .slice X.b S.between.length X.bc, .slice X.p S.phases.length X.pc, .slice X.e S.eyes.length X.ec, .int .i64 S.watch, .int .i64 S.feed, .int .i64 S.heal, .int .i64 S.low, .int .i64 S.high, .slice X.l S.plans.length X.lc] 34)).alloc (.cells #[.slice a F.groups.length c, .int .i64 F.start, .bool F.flashed] 41)) = WA := ⟨_, rfl⟩
    rw [hWA] at hsb bn hsz hkA
    have HSB := Hid.mk' hsb
    have HBN := Hid.mk' bn
    have HSZ := Hid.mk' hsz
    have HK := Hid.mk' hkA
    have HS := Hid.mk' (h.kept hkA)
    have HT := Hid.mk' (hT.kept hkA)
    have HF := Hid.mk' (hF.kept hkA)
    have n0_ : ∀ w', Kept WA w' none → w'.cell? ⟨w.heap.size + 1, 0, none⟩ = some (.slice a F.groups.length c) := fun w' q => (HBN.out.kept q).c0
    have n1_ : ∀ w', Kept WA w' none → w'.cell? ⟨w.heap.size + 1, 1, none⟩ = some (.int .i64 F.start) := fun w' q => (HBN.out.kept q).c1
    have n2_ : ∀ w', Kept WA w' none → w'.cell? ⟨w.heap.size + 1, 2, none⟩ = some (.bool F.flashed) := fun w' q => (HBN.out.kept q).c2
    have s0_ : ∀ w', Kept WA w' none → w'.cell? ⟨w.heap.size, 0, none⟩ = some (.int .i64 S.id) := fun w' q => (HSB.out.kept q).c0
    have s1_ : ∀ w', Kept WA w' none → w'.cell? ⟨w.heap.size, 1, none⟩ = some (.slice X.g S.groups.length X.gc) := fun w' q => (HSB.out.kept q).c1
    have s2_ : ∀ w', Kept WA w' none → w'.cell? ⟨w.heap.size, 2, none⟩ = some (.slice X.a S.apart.length X.ac) := fun w' q => (HSB.out.kept q).c2
    have s3_ : ∀ w', Kept WA w' none → w'.cell? ⟨w.heap.size, 3, none⟩ = some (.slice X.b S.between.length X.bc) := fun w' q => (HSB.out.kept q).c3
    have s4_ : ∀ w', Kept WA w' none → w'.cell? ⟨w.heap.size, 4, none⟩ = some (.slice X.p S.phases.length X.pc) := fun w' q => (HSB.out.kept q).c4
    have s5_ : ∀ w', Kept WA w' none → w'.cell? ⟨w.heap.size, 5, none⟩ = some (.slice X.e S.eyes.length X.ec) := fun w' q => (HSB.out.kept q).c5
    have s6_ : ∀ w', Kept WA w' none → w'.cell? ⟨w.heap.size, 6, none⟩ = some (.int .i64 S.watch) := fun w' q => (HSB.out.kept q).c6
    have s7_ : ∀ w', Kept WA w' none → w'.cell? ⟨w.heap.size, 7, none⟩ = some (.int .i64 S.feed) := fun w' q => (HSB.out.kept q).c7
    have s8_ : ∀ w', Kept WA w' none → w'.cell? ⟨w.heap.size, 8, none⟩ = some (.int .i64 S.heal) := fun w' q => (HSB.out.kept q).c8
    have s9_ : ∀ w', Kept WA w' none → w'.cell? ⟨w.heap.size, 9, none⟩ = some (.int .i64 S.low) := fun w' q => (HSB.out.kept q).c9
    have s10_ : ∀ w', Kept WA w' none → w'.cell? ⟨w.heap.size, 10, none⟩ = some (.int .i64 S.high) := fun w' q => (HSB.out.kept q).c10
    have s11_ : ∀ w', Kept WA w' none → w'.cell? ⟨w.heap.size, 11, none⟩ = some (.slice X.l S.plans.length X.lc) := fun w' q => (HSB.out.kept q).c11
    have hK0 := Kept.refl WA none
    clear h hT hF k1 k2 hsb bn hsz hkA
    go_enter Tryd.func14, Tryd.ntmps14
    go_wp2_with (first | rw [hWA] | (go_at_call 29; have hg := ggoes_any HS.out HT.out HF.out; rw [hz] at hg; refine hg.mono ?_; rintro e wN ⟨rfl, hkN⟩; have hKN : Kept WA wN none := hkN))
    go_ret2
    exact ⟨rfl, HK.out.tr hKN⟩
  · have h0b : decide (g < 0) = false := by simp; omega
    have h1 : (S.groups.length : Int) ≤ g := by omega
    clear hg
    have k1 : Kept w (w.alloc (.cells #[.int .i64 S.id, .slice X.g S.groups.length X.gc, .slice X.a S.apart.length X.ac, .slice X.b S.between.length X.bc, .slice X.p S.phases.length X.pc, .slice X.e S.eyes.length X.ec, .int .i64 S.watch, .int .i64 S.feed, .int .i64 S.heal, .int .i64 S.low, .int .i64 S.high, .slice X.l S.plans.length X.lc] 34)) none := Kept.alloc _ _ _ _ _
    have k2 : Kept (w.alloc (.cells #[.int .i64 S.id, .slice X.g S.groups.length X.gc, .slice X.a S.apart.length X.ac, .slice X.b S.between.length X.bc, .slice X.p S.phases.length X.pc, .slice X.e S.eyes.length X.ec, .int .i64 S.watch, .int .i64 S.feed, .int .i64 S.heal, .int .i64 S.low, .int .i64 S.high, .slice X.l S.plans.length X.lc] 34)) ((w.alloc (.cells #[.int .i64 S.id, .slice X.g S.groups.length X.gc, .slice X.a S.apart.length X.ac, .slice X.b S.between.length X.bc, .slice X.p S.phases.length X.pc, .slice X.e S.eyes.length X.ec, .int .i64 S.watch, .int .i64 S.feed, .int .i64 S.heal, .int .i64 S.low, .int .i64 S.high, .slice X.l S.plans.length X.lc] 34)).alloc (.cells #[.slice a F.groups.length c, .int .i64 F.start, .bool F.flashed] 41)) none := Kept.alloc _ _ _ _ _
    have hsb := (sbox_alloc h 34).kept k2
    have bn := box_alloc (w.alloc (.cells #[.int .i64 S.id, .slice X.g S.groups.length X.gc, .slice X.a S.apart.length X.ac, .slice X.b S.between.length X.bc, .slice X.p S.phases.length X.pc, .slice X.e S.eyes.length X.ec, .int .i64 S.watch, .int .i64 S.feed, .int .i64 S.heal, .int .i64 S.low, .int .i64 S.high, .slice X.l S.plans.length X.lc] 34)) (.slice a F.groups.length c) (.int .i64 F.start) (.bool F.flashed) 41
    have hsz : ((w.alloc (.cells #[.int .i64 S.id, .slice X.g S.groups.length X.gc, .slice X.a S.apart.length X.ac, .slice X.b S.between.length X.bc, .slice X.p S.phases.length X.pc, .slice X.e S.eyes.length X.ec, .int .i64 S.watch, .int .i64 S.feed, .int .i64 S.heal, .int .i64 S.low, .int .i64 S.high, .slice X.l S.plans.length X.lc] 34)).alloc (.cells #[.slice a F.groups.length c, .int .i64 F.start, .bool F.flashed] 41)).heap.size = w.heap.size + 1 + 1 := by simp
    rw [World.size_alloc] at bn
    have hkA := k1.tr k2
    obtain ⟨WA, hWA⟩ : ∃ WA, ((w.alloc (.cells #[.int .i64 S.id, .slice X.g S.groups.length X.gc, .slice X.a S.apart.length X.ac, .slice X.b S.between.length X.bc, .slice X.p S.phases.length X.pc, .slice X.e S.eyes.length X.ec, .int .i64 S.watch, .int .i64 S.feed, .int .i64 S.heal, .int .i64 S.low, .int .i64 S.high, .slice X.l S.plans.length X.lc] 34)).alloc (.cells #[.slice a F.groups.length c, .int .i64 F.start, .bool F.flashed] 41)) = WA := ⟨_, rfl⟩
    rw [hWA] at hsb bn hsz hkA
    have HSB := Hid.mk' hsb
    have HBN := Hid.mk' bn
    have HSZ := Hid.mk' hsz
    have HK := Hid.mk' hkA
    have HS := Hid.mk' (h.kept hkA)
    have HT := Hid.mk' (hT.kept hkA)
    have HF := Hid.mk' (hF.kept hkA)
    have n0_ : ∀ w', Kept WA w' none → w'.cell? ⟨w.heap.size + 1, 0, none⟩ = some (.slice a F.groups.length c) := fun w' q => (HBN.out.kept q).c0
    have n1_ : ∀ w', Kept WA w' none → w'.cell? ⟨w.heap.size + 1, 1, none⟩ = some (.int .i64 F.start) := fun w' q => (HBN.out.kept q).c1
    have n2_ : ∀ w', Kept WA w' none → w'.cell? ⟨w.heap.size + 1, 2, none⟩ = some (.bool F.flashed) := fun w' q => (HBN.out.kept q).c2
    have s0_ : ∀ w', Kept WA w' none → w'.cell? ⟨w.heap.size, 0, none⟩ = some (.int .i64 S.id) := fun w' q => (HSB.out.kept q).c0
    have s1_ : ∀ w', Kept WA w' none → w'.cell? ⟨w.heap.size, 1, none⟩ = some (.slice X.g S.groups.length X.gc) := fun w' q => (HSB.out.kept q).c1
    have s2_ : ∀ w', Kept WA w' none → w'.cell? ⟨w.heap.size, 2, none⟩ = some (.slice X.a S.apart.length X.ac) := fun w' q => (HSB.out.kept q).c2
    have s3_ : ∀ w', Kept WA w' none → w'.cell? ⟨w.heap.size, 3, none⟩ = some (.slice X.b S.between.length X.bc) := fun w' q => (HSB.out.kept q).c3
    have s4_ : ∀ w', Kept WA w' none → w'.cell? ⟨w.heap.size, 4, none⟩ = some (.slice X.p S.phases.length X.pc) := fun w' q => (HSB.out.kept q).c4
    have s5_ : ∀ w', Kept WA w' none → w'.cell? ⟨w.heap.size, 5, none⟩ = some (.slice X.e S.eyes.length X.ec) := fun w' q => (HSB.out.kept q).c5
    have s6_ : ∀ w', Kept WA w' none → w'.cell? ⟨w.heap.size, 6, none⟩ = some (.int .i64 S.watch) := fun w' q => (HSB.out.kept q).c6
    have s7_ : ∀ w', Kept WA w' none → w'.cell? ⟨w.heap.size, 7, none⟩ = some (.int .i64 S.feed) := fun w' q => (HSB.out.kept q).c7
    have s8_ : ∀ w', Kept WA w' none → w'.cell? ⟨w.heap.size, 8, none⟩ = some (.int .i64 S.heal) := fun w' q => (HSB.out.kept q).c8
    have s9_ : ∀ w', Kept WA w' none → w'.cell? ⟨w.heap.size, 9, none⟩ = some (.int .i64 S.low) := fun w' q => (HSB.out.kept q).c9
    have s10_ : ∀ w', Kept WA w' none → w'.cell? ⟨w.heap.size, 10, none⟩ = some (.int .i64 S.high) := fun w' q => (HSB.out.kept q).c10
    have s11_ : ∀ w', Kept WA w' none → w'.cell? ⟨w.heap.size, 11, none⟩ = some (.slice X.l S.plans.length X.lc) := fun w' q => (HSB.out.kept q).c11
    have hK0 := Kept.refl WA none
    clear h hT hF k1 k2 hsb bn hsz hkA
    go_enter Tryd.func14, Tryd.ntmps14
    go_wp2_with (first | rw [hWA] | (go_at_call 29; have hg := ggoes_any HS.out HT.out HF.out; rw [hz] at hg; refine hg.mono ?_; rintro e wN ⟨rfl, hkN⟩; have hKN : Kept WA wN none := hkN))
    go_ret2
    exact ⟨rfl, HK.out.tr hKN⟩
/-- Green asked of one, red of all others. -/
def oneL (n g : Nat) : List Nat := (List.range n).map (fun i => if i = g then 2 else 1)
theorem oneL_lg {n g i : Nat} (h : i < n) : lg (oneL n g) i = if i = g then 2 else 1 := by simp [oneL, lg, h]
theorem oneL_len (n g : Nat) : (oneL n g).length = n := by simp [oneL]
theorem oneL_lt (n g : Nat) : ∀ x ∈ oneL n g, x < 256 := by
  intro x hx
  simp only [oneL, List.mem_map] at hx
  obtain ⟨i, _, rfl⟩ := hx
  split <;> omega
theorem one_cell {n g i : Nat} (h : i < n) : (if i = g then Value.int .u8 2 else Value.int .u8 ((1 : Nat) : Int)) = .int .u8 (((oneL n g).getD i 0 : Nat) : Int) := by
  rw [show (oneL n g).getD i 0 = lg (oneL n g) i from rfl, oneL_lg h]
  split <;> rfl
set_option maxRecDepth 100000 in
set_option maxHeartbeats 2000000 in
theorem gopn_go {X : Sa} {S : St} {w : World} {a : Option Addr} {c : Nat} {F : Sf} (h : Sat w X S) (hT : Tabb w) (hF : SafeAt w a c F) (g : Nat) (hz : goesE S F = 0) (hg : g < S.groups.length) : Calls Tryd.prog 14 #[siteV X S, safeV a c F, .int .i64 (g : Int)] w fun e w' => e = .returned (.tuple #[.bool (letF S F (oneL S.groups.length g) g == 2), .int .i64 0]) ∧ Kept w w' none := by
  obtain ⟨hs, hgo⟩ := goesE_ok hz
  have HSH := Hid.mk' (span_may hs).base.sh
  have hng := HSH.out.ok.ng
  have HFN := Hid.mk' (mayS_parts (goes_parts hgo).1).1
  have HLET := Hid.mk' (fun w' al' n' cl' (q1 : Sbox w' w.heap.size X S) (q2 : SafeAt w' a c F) (q3 : By w' al' n' (oneL S.groups.length g)) (q4 : n' = S.groups.length) => glet_any (cl := cl') q1 HSH.out q2 HFN.out q3 q4)
  have hn16 : S.groups.length ≤ 100 := by omega
  have h0b : decide ((g : Int) < 0) = false := by simp
  have HEQ : Hid ((((letF S F (oneL S.groups.length g) g : Nat) : Int) == 2) = (letF S F (oneL S.groups.length g) g == 2)) := by show _ = _; rw [Bool.eq_iff_iff]; simp; omega
  have k1 : Kept w (w.alloc (.cells #[.int .i64 S.id, .slice X.g S.groups.length X.gc, .slice X.a S.apart.length X.ac, .slice X.b S.between.length X.bc, .slice X.p S.phases.length X.pc, .slice X.e S.eyes.length X.ec, .int .i64 S.watch, .int .i64 S.feed, .int .i64 S.heal, .int .i64 S.low, .int .i64 S.high, .slice X.l S.plans.length X.lc] 34)) none := Kept.alloc _ _ _ _ _
  have k2 : Kept (w.alloc (.cells #[.int .i64 S.id, .slice X.g S.groups.length X.gc, .slice X.a S.apart.length X.ac, .slice X.b S.between.length X.bc, .slice X.p S.phases.length X.pc, .slice X.e S.eyes.length X.ec, .int .i64 S.watch, .int .i64 S.feed, .int .i64 S.heal, .int .i64 S.low, .int .i64 S.high, .slice X.l S.plans.length X.lc] 34)) ((w.alloc (.cells #[.int .i64 S.id, .slice X.g S.groups.length X.gc, .slice X.a S.apart.length X.ac, .slice X.b S.between.length X.bc, .slice X.p S.phases.length X.pc, .slice X.e S.eyes.length X.ec, .int .i64 S.watch, .int .i64 S.feed, .int .i64 S.heal, .int .i64 S.low, .int .i64 S.high, .slice X.l S.plans.length X.lc] 34)).alloc (.cells #[.slice a F.groups.length c, .int .i64 F.start, .bool F.flashed] 41)) none := Kept.alloc _ _ _ _ _
  have hsb := (sbox_alloc h 34).kept k2
  have bn := box_alloc (w.alloc (.cells #[.int .i64 S.id, .slice X.g S.groups.length X.gc, .slice X.a S.apart.length X.ac, .slice X.b S.between.length X.bc, .slice X.p S.phases.length X.pc, .slice X.e S.eyes.length X.ec, .int .i64 S.watch, .int .i64 S.feed, .int .i64 S.heal, .int .i64 S.low, .int .i64 S.high, .slice X.l S.plans.length X.lc] 34)) (.slice a F.groups.length c) (.int .i64 F.start) (.bool F.flashed) 41
  have hsz : ((w.alloc (.cells #[.int .i64 S.id, .slice X.g S.groups.length X.gc, .slice X.a S.apart.length X.ac, .slice X.b S.between.length X.bc, .slice X.p S.phases.length X.pc, .slice X.e S.eyes.length X.ec, .int .i64 S.watch, .int .i64 S.feed, .int .i64 S.heal, .int .i64 S.low, .int .i64 S.high, .slice X.l S.plans.length X.lc] 34)).alloc (.cells #[.slice a F.groups.length c, .int .i64 F.start, .bool F.flashed] 41)).heap.size = w.heap.size + 1 + 1 := by simp
  rw [World.size_alloc] at bn
  have hkA := k1.tr k2
  obtain ⟨WA, hWA⟩ : ∃ WA, ((w.alloc (.cells #[.int .i64 S.id, .slice X.g S.groups.length X.gc, .slice X.a S.apart.length X.ac, .slice X.b S.between.length X.bc, .slice X.p S.phases.length X.pc, .slice X.e S.eyes.length X.ec, .int .i64 S.watch, .int .i64 S.feed, .int .i64 S.heal, .int .i64 S.low, .int .i64 S.high, .slice X.l S.plans.length X.lc] 34)).alloc (.cells #[.slice a F.groups.length c, .int .i64 F.start, .bool F.flashed] 41)) = WA := ⟨_, rfl⟩
  rw [hWA] at hsb bn hsz hkA
  have HSB := Hid.mk' hsb
  have HBN := Hid.mk' bn
  have HSZ := Hid.mk' hsz
  have HK := Hid.mk' hkA
  have HS := Hid.mk' (h.kept hkA)
  have HT := Hid.mk' (hT.kept hkA)
  have HF := Hid.mk' (hF.kept hkA)
  have n0_ : ∀ w', Kept WA w' none → w'.cell? ⟨w.heap.size + 1, 0, none⟩ = some (.slice a F.groups.length c) := fun w' q => (HBN.out.kept q).c0
  have n1_ : ∀ w', Kept WA w' none → w'.cell? ⟨w.heap.size + 1, 1, none⟩ = some (.int .i64 F.start) := fun w' q => (HBN.out.kept q).c1
  have n2_ : ∀ w', Kept WA w' none → w'.cell? ⟨w.heap.size + 1, 2, none⟩ = some (.bool F.flashed) := fun w' q => (HBN.out.kept q).c2
  have s0_ : ∀ w', Kept WA w' none → w'.cell? ⟨w.heap.size, 0, none⟩ = some (.int .i64 S.id) := fun w' q => (HSB.out.kept q).c0
  have s1_ : ∀ w', Kept WA w' none → w'.cell? ⟨w.heap.size, 1, none⟩ = some (.slice X.g S.groups.length X.gc) := fun w' q => (HSB.out.kept q).c1
  have s2_ : ∀ w', Kept WA w' none → w'.cell? ⟨w.heap.size, 2, none⟩ = some (.slice X.a S.apart.length X.ac) := fun w' q => (HSB.out.kept q).c2
  have s3_ : ∀ w', Kept WA w' none → w'.cell? ⟨w.heap.size, 3, none⟩ = some (.slice X.b S.between.length X.bc) := fun w' q => (HSB.out.kept q).c3
  have s4_ : ∀ w', Kept WA w' none → w'.cell? ⟨w.heap.size, 4, none⟩ = some (.slice X.p S.phases.length X.pc) := fun w' q => (HSB.out.kept q).c4
  have s5_ : ∀ w', Kept WA w' none → w'.cell? ⟨w.heap.size, 5, none⟩ = some (.slice X.e S.eyes.length X.ec) := fun w' q => (HSB.out.kept q).c5
  have s6_ : ∀ w', Kept WA w' none → w'.cell? ⟨w.heap.size, 6, none⟩ = some (.int .i64 S.watch) := fun w' q => (HSB.out.kept q).c6
  have s7_ : ∀ w', Kept WA w' none → w'.cell? ⟨w.heap.size, 7, none⟩ = some (.int .i64 S.feed) := fun w' q => (HSB.out.kept q).c7
  have s8_ : ∀ w', Kept WA w' none → w'.cell? ⟨w.heap.size, 8, none⟩ = some (.int .i64 S.heal) := fun w' q => (HSB.out.kept q).c8
  have s9_ : ∀ w', Kept WA w' none → w'.cell? ⟨w.heap.size, 9, none⟩ = some (.int .i64 S.low) := fun w' q => (HSB.out.kept q).c9
  have s10_ : ∀ w', Kept WA w' none → w'.cell? ⟨w.heap.size, 10, none⟩ = some (.int .i64 S.high) := fun w' q => (HSB.out.kept q).c10
  have s11_ : ∀ w', Kept WA w' none → w'.cell? ⟨w.heap.size, 11, none⟩ = some (.slice X.l S.plans.length X.lc) := fun w' q => (HSB.out.kept q).c11
  have hK0 := Kept.refl WA none
  clear h hT hF k1 k2 hsb bn hsz hkA
  go_enter Tryd.func14, Tryd.ntmps14
  go_wp2_with (first
    | rw [hWA]
    | (have hgo := h6; clear hgo; go_at_call 28; refine (HLET.out _ _ _ _ (HSB.out.kept h6) (HF.out.kept h6) HB6.out rfl).mono ?_; rintro e wL ⟨b, rfl, hbm, hrl, hkL⟩; have yl := hrl.cell (i := g) hg)
    | (go_at_call 31; refine (gallOf_any 1 S.groups.length hn16).mono ?_; rintro e wO ⟨rfl, hro, hkO⟩; have hKO : Kept WA wO none := Kept.tr hKN hkO; have y0 := hro.cell (i := g) hg; have z0 := hro.frozen g; have h6 : Kept WA (wO.setCell ⟨wN.heap.size, g, none⟩ (.int .u8 2)) none := hKO.setNew hKN.size _; have o0 := n0_ _ h6; have o1 := n1_ _ h6; have o2 := n2_ _ h6; have hlo := hro.lt; have HB6 : Hid (By (wO.setCell ⟨wN.heap.size, g, none⟩ (.int .u8 2)) (some ⟨wN.heap.size, 0, none⟩) S.groups.length (oneL S.groups.length g)) := By.row (hro.set g _) _ S.groups.length (Nat.le_refl _) (oneL_len _ _) (by omega) (oneL_lt _ _) (fun i hi => one_cell hi))
    | (go_at_call 29; have hgo := ggoes_any HS.out HT.out HF.out; rw [hz] at hgo; refine hgo.mono ?_; rintro e wN ⟨rfl, hkN⟩; have hKN : Kept WA wN none := hkN; clear hgo))
  go_ret2
  exact ⟨by rw [← HEQ.out]; rfl, (HK.out.tr h6).tr hkL⟩

end Go.Proofs.YtkbhcpgdhbfhnaaDoor

