/-
  Texts joined: some of those that the proofs of this seat stand on.
-/
import Derived.Test.YtkbhcpgdhbfhnaaDoorSafeK
import Derived.Test.YtkbhcpgdhbfhnaaDoorApartM
/-
  WHAT IS LET THROUGH, in numbers: which standings go on, what is let through of what is asked, that it has no fault and that what has none is let through as it is; no text of the program.
-/
namespace Go.Proofs.YtkbhcpgdhbfhnaaDoor
open Go.RowKit Go.Lib Go.Deep
set_option linter.unusedVariables false
set_option linter.unusedSimpArgs false

theorem want_may9 (m y a s q : Int) (ha : 1 ≤ a ∧ a ≤ 3) : mayV m y a s (wantV m y a s q) = 0 := by
  unfold mayV wantV
  repeat' split
  all_goals first | rfl | omega
theorem may_want9 (m y a s q : Int) (ha : 1 ≤ a ∧ a ≤ 3) (h : mayV m y a s q = 0) : wantV m y a s q = q := by
  unfold mayV at h; unfold wantV
  repeat' split at h
  all_goals (repeat' split)
  all_goals first | omega | (exfalso; omega)
/-- An aspect that a group may show in a standing that goes on. -/
def aspG (F : Sf) (a : Nat) : Bool := if F.flashed = true then a == 4 else if 0 < F.start then a == 1 else (a == 1 || (a == 2 || a == 3))
def goesV (S : St) (F : Sf) : Bool := mayS S F && allB F.groups.length (fun i => aspG F (F.g i).asp)
/-- What lamp.Want tells of each group. -/
def wantN (S : St) (F : Sf) (A : List Nat) (i : Nat) : Nat := (wantV (S.gr i).min (S.gr i).yellow (F.g i).asp (F.g i).since (lg A i)).toNat
def w1F (S : St) (F : Sf) (A : List Nat) (i : Nat) : Nat := if (F.g i).asp = 1 then 1 else wantN S F A i
def barB (S : St) (F : Sf) (f : Nat → Nat) (it that : Nat) : Bool := (S.ap it).testBit that && (!(f that == 1) || decide ((F.g that).ended < S.bt that it))
def openB (S : St) (F : Sf) (n : Nat) (f : Nat → Nat) (it : Nat) : Bool := allB n (fun j => !barB S F f it j)
/-- Behind the first k of the second pass. -/
def turnB (S : St) (F : Sf) (A : List Nat) (n : Nat) (f : Nat → Nat) (k : Nat) : Bool := ((F.g k).asp == 1) && ((lg A k == 2) && openB S F n f k)
def p2F (S : St) (F : Sf) (A : List Nat) (n : Nat) : Nat → Nat → Nat
  | 0, j => w1F S F A j
  | k + 1, j => if j = k ∧ turnB S F A n (p2F S F A n k) k = true then 2 else p2F S F A n k j
def letF (S : St) (F : Sf) (A : List Nat) (j : Nat) : Nat := if allIs A 4 = true then 4 else if F.flashed = true ∨ 0 < F.start then 1 else p2F S F A A.length A.length j
def letV (S : St) (F : Sf) (A : List Nat) : List Nat := (List.range A.length).map (letF S F A)
theorem letV_len (S : St) (F : Sf) (A : List Nat) : (letV S F A).length = A.length := by simp [letV]
theorem letV_lg {S : St} {F : Sf} {A : List Nat} {i : Nat} (h : i < A.length) : lg (letV S F A) i = letF S F A i := by simp [letV, lg, h]

theorem barB_congr {S : St} {F : Sf} {f g : Nat → Nat} {it that : Nat} (h : f that = g that) : barB S F f it that = barB S F g it that := by unfold barB; rw [h]
theorem openB_congr {S : St} {F : Sf} {n : Nat} {f g : Nat → Nat} {it : Nat} (h : ∀ j, j < n → f j = g j) : openB S F n f it = openB S F n g it := by
  unfold openB
  have : ∀ j, j < n → (!barB S F f it j) = !barB S F g it j := fun j hj => by rw [barB_congr (h j hj)]
  cases e : allB n (fun j => !barB S F g it j) with
  | true => exact allB_iff.2 (fun j hj => (this j hj).trans (allB_iff.1 e j hj))
  | false =>
    cases e2 : allB n (fun j => !barB S F f it j) with
    | false => rfl
    | true =>
      have : allB n (fun j => !barB S F g it j) = true := allB_iff.2 (fun j hj => (this j hj).symm.trans (allB_iff.1 e2 j hj))
      rw [this] at e; cases e
theorem openB_at {S : St} {F : Sf} {n : Nat} {f : Nat → Nat} {it that : Nat} (h : openB S F n f it = true) (ht : that < n) (ha : (S.ap it).testBit that = true) : f that = 1 ∧ S.bt that it ≤ (F.g that).ended := by
  have := allB_iff.1 h that ht
  unfold barB at this
  rw [ha] at this
  simp at this
  exact this

/-! ### The second pass -/
theorem p2F_late {S : St} {F : Sf} {A : List Nat} {n : Nat} : ∀ {k j : Nat}, k ≤ j → p2F S F A n k j = w1F S F A j
  | 0, _, _ => rfl
  | k + 1, j, h => by rw [p2F, if_neg (by rintro ⟨e, _⟩; omega)]; exact p2F_late (by omega)
theorem p2F_other {S : St} {F : Sf} {A : List Nat} {n j : Nat} (h : (F.g j).asp ≠ 1) : ∀ k, p2F S F A n k j = wantN S F A j
  | 0 => by show w1F S F A j = _; unfold w1F; rw [if_neg h]
  | k + 1 => by
    rw [p2F, if_neg]
    · exact p2F_other h k
    · rintro ⟨rfl, e⟩
      unfold turnB at e
      simp at e
      exact h e.1
theorem p2F_stay {S : St} {F : Sf} {A : List Nat} {n : Nat} : ∀ {k j : Nat}, j < k → p2F S F A n k j = p2F S F A n (j + 1) j
  | 0, _, h => by omega
  | k + 1, j, h => by
    by_cases e : j = k
    · subst e; rfl
    · rw [p2F, if_neg (by rintro ⟨e', _⟩; exact e e')]; exact p2F_stay (by omega)
theorem p2F_red {S : St} {F : Sf} {A : List Nat} {n j : Nat} (h : (F.g j).asp = 1) (k : Nat) : (p2F S F A n k j = 1 ∧ (j < k → turnB S F A n (p2F S F A n j) j = false)) ∨ (p2F S F A n k j = 2 ∧ j < k ∧ turnB S F A n (p2F S F A n j) j = true) := by
  by_cases hk : j < k
  · rw [p2F_stay hk]
    cases e : turnB S F A n (p2F S F A n j) j with
    | true => exact .inr ⟨by rw [p2F, if_pos ⟨rfl, e⟩], hk, rfl⟩
    | false =>
      refine .inl ⟨?_, fun _ => rfl⟩
      rw [p2F, if_neg (by rw [e]; rintro ⟨_, h⟩; cases h), p2F_late (Nat.le_refl _)]
      unfold w1F; rw [if_pos h]
  · refine .inl ⟨?_, fun h => absurd h hk⟩
    rw [p2F_late (by omega)]
    unfold w1F; rw [if_pos h]
theorem turnB_out {S : St} {F : Sf} {A : List Nat} {n j : Nat} {f : Nat → Nat} (h : turnB S F A n f j = true) : (F.g j).asp = 1 ∧ lg A j = 2 ∧ openB S F n f j = true := by
  unfold turnB at h
  simp at h
  exact h
theorem want_rng (m y s q : Int) (a : Nat) : 1 ≤ wantV m y a s q ∧ wantV m y a s q ≤ 3 := by
  unfold wantV
  repeat' split
  all_goals omega
theorem wantN_int (S : St) (F : Sf) (A : List Nat) (i : Nat) : ((wantN S F A i : Nat) : Int) = wantV (S.gr i).min (S.gr i).yellow (F.g i).asp (F.g i).since (lg A i) := by
  have := want_rng (S.gr i).min (S.gr i).yellow (F.g i).since (lg A i) (F.g i).asp
  unfold wantN
  omega
theorem wantN_rng (S : St) (F : Sf) (A : List Nat) (i : Nat) : 1 ≤ wantN S F A i ∧ wantN S F A i ≤ 3 := by
  have := want_rng (S.gr i).min (S.gr i).yellow (F.g i).since (lg A i) (F.g i).asp
  have := wantN_int S F A i
  omega
theorem p2F_rng (S : St) (F : Sf) (A : List Nat) (n k j : Nat) : 1 ≤ p2F S F A n k j ∧ p2F S F A n k j ≤ 3 := by
  by_cases h : (F.g j).asp = 1
  · rcases p2F_red (S := S) (A := A) (n := n) h k with e | e <;> omega
  · rw [p2F_other h]; exact wantN_rng S F A j
theorem letF_rng (S : St) (F : Sf) (A : List Nat) (j : Nat) : 1 ≤ letF S F A j ∧ letF S F A j ≤ 4 := by
  unfold letF
  split
  · omega
  · split
    · omega
    · have := p2F_rng S F A A.length A.length j; omega

/-! ### What a standing that goes on tells -/
theorem mayS_parts {S : St} {F : Sf} (h : mayS S F = true) : F.groups.length = S.groups.length ∧ (0 ≤ F.start ∧ F.start ≤ 1048576) ∧ (mtB S (shown F) = false ∨ allIs (shown F) 4 = true) := by
  unfold mayS at h
  simp only [Bool.and_eq_true, decide_eq_true_eq, inB_iff, Bool.or_eq_true, Bool.not_eq_true'] at h
  exact ⟨h.1, h.2.1, h.2.2⟩
theorem goes_parts {S : St} {F : Sf} (h : goesV S F = true) : mayS S F = true ∧ ∀ i, i < F.groups.length → aspG F (F.g i).asp = true := by
  unfold goesV at h
  rw [Bool.and_eq_true, allB_iff] at h
  exact h
theorem aspG_in {F : Sf} {a : Nat} (hf : F.flashed = false) (h : aspG F a = true) : 1 ≤ a ∧ a ≤ 3 := by
  unfold aspG at h
  rw [if_neg (by rw [hf]; decide)] at h
  split at h
  · have : a = 1 := by simpa using h
    omega
  · simp at h; omega
theorem aspG_start {F : Sf} {a : Nat} (hf : F.flashed = false) (hs : 0 < F.start) (h : aspG F a = true) : a = 1 := by
  unfold aspG at h
  rw [if_neg (by rw [hf]; decide), if_pos hs] at h
  simpa using h
theorem pairM_no {S : St} {L : List Nat} (hs : siteB S = true) (hl : L.length = S.groups.length) (h : mtB S L = false) {a b : Nat} (ha : a < L.length) (hb : b < L.length) (hab : (S.ap a).testBit b = true) (h1 : lg L a ≠ 1) : lg L b = 1 := by
  have hk := keeps_may hs
  by_cases e : lg L b = 1
  · exact e
  · exfalso
    have hne : a ≠ b := fun e => by subst e; rw [hk.own a (by omega)] at hab; cases hab
    by_cases hlt : b < a
    · have := mtB_iff.1 h a ha b hlt
      unfold pairM at this
      simp [h1, e, hab] at this
    · have := mtB_iff.1 h b hb a (by omega)
      unfold pairM at this
      rw [hk.sym a b (by omega) (by omega)] at hab
      simp [h1, e, hab] at this

/-! ### Without a fault -/
theorem fault_zero {S : St} {F : Sf} {L : List Nat} (hl : L.length = S.groups.length) (h : allIs L 4 = true ∨ (hasIt L 4 = false ∧ ((F.flashed = true ∨ 0 < F.start) → allIs L 1 = true) ∧ oneV S F L = 0 ∧ mtB S L = false ∧ soonB S F L = false)) : faultV S F L = 0 := by
  unfold faultV
  rw [if_neg (by simp [hl])]
  rcases h with h | ⟨h1, h2, h3, h4, h5⟩
  · rw [if_pos h]
  · split
    · rfl
    · rw [if_neg (by simp [h1]), if_neg, if_neg (by simp [h3]), if_neg (by simp [h4]), if_neg (by simp [h5])]
      rintro ⟨e, e2⟩
      rw [h2 e] at e2; cases e2
theorem fault_out {S : St} {F : Sf} {L : List Nat} (h : faultV S F L = 0) : L.length = S.groups.length ∧ (allIs L 4 = true ∨ (hasIt L 4 = false ∧ ((F.flashed = true ∨ 0 < F.start) → allIs L 1 = true) ∧ oneV S F L = 0 ∧ mtB S L = false ∧ soonB S F L = false)) := by
  have hl := fault_len h
  refine ⟨hl, ?_⟩
  unfold faultV at h
  rw [if_neg (by simp [hl])] at h
  by_cases e4 : allIs L 4 = true
  · exact .inl e4
  rw [if_neg e4] at h
  refine .inr ?_
  by_cases e7 : hasIt L 4 = true
  · rw [if_pos e7] at h; cases h
  rw [if_neg e7] at h
  by_cases e8 : (F.flashed = true ∨ 0 < F.start) ∧ allIs L 1 = false
  · rw [if_pos e8] at h; cases h
  rw [if_neg e8] at h
  by_cases e1 : oneV S F L = 0
  · rw [if_neg (by simp [e1])] at h
    by_cases e3 : mtB S L = true
    · rw [if_pos e3] at h; cases h
    rw [if_neg e3] at h
    by_cases e5 : soonB S F L = true
    · rw [if_pos e5] at h; cases h
    refine ⟨by simpa using e7, fun hh => ?_, e1, by simpa using e3, by simpa using e5⟩
    cases e : allIs L 1 with
    | true => rfl
    | false => exact absurd ⟨hh, e⟩ e8
  · rw [if_pos e1] at h; exact absurd h e1
theorem may_next (m y s : Int) (a b : Nat) (ha : 1 ≤ a ∧ a ≤ 3) (h : mayV m y a s b = 0) : 1 ≤ b ∧ b ≤ 3 := by
  unfold mayV at h
  repeat' split at h
  all_goals omega
/-- The standing behind lights without a fault goes on. -/
theorem goes_next {S : St} {F : Sf} {L : List Nat} (hs : siteB S = true) (hg : goesV S F = true) (hz : faultV S F L = 0) : goesV S (behindV S F L) = true := by
  obtain ⟨hm, hasp⟩ := goes_parts hg
  obtain ⟨hn, hst, _⟩ := mayS_parts hm
  obtain ⟨hl, hz⟩ := fault_out hz
  have hng := (span_may hs).base.sh.ok.ng
  have hlen := behindV_len S F L
  have hgi : ∀ i, i < L.length → (behindV S F L).g i = sndV (F.g i) (lg L i) := fun i hi => behindV_g hi
  have hshow : shown (behindV S F L) = L := by
    refine List.ext_getElem (by rw [shown_len, hlen]) (fun i h1 h2 => ?_)
    have a := shown_lg (F := behindV S F L) (i := i) (by rw [hlen]; exact h2)
    rw [hgi i h2] at a
    have b : lg (shown (behindV S F L)) i = (shown (behindV S F L))[i] := by simp [lg, h1]
    have c : lg L i = L[i] := by simp [lg, h2]
    rw [← b, a]
    exact c
  have hmay : mayS S (behindV S F L) = true := by
    unfold mayS
    rw [hshow, decide_eq_true (hlen.trans hl), Bool.true_and, show inB (behindV S F L).start 0 1048576 = true from inB_iff.2 (startV_rng hs hst), Bool.true_and]
    rcases hz with hz | ⟨_, _, _, hz, _⟩
    · rw [hz, Bool.or_true]
    · rw [hz]; rfl
  unfold goesV
  rw [hmay, Bool.true_and, allB_iff]
  intro i hi
  rw [hlen] at hi
  rw [hgi i hi]
  show aspG (behindV S F L) (lg L i) = true
  unfold aspG
  rcases hz with hz | ⟨h4, h1, ho, _, _⟩
  · rw [if_pos (show (behindV S F L).flashed = true from hz)]
    have := allIs_iff.1 hz i hi
    simp [this]
  · have hnf : allIs L 4 = false := allIs_no hi (hasIt_iff.1 h4 i hi)
    rw [if_neg (by rw [show (behindV S F L).flashed = allIs L 4 from rfl, hnf]; decide)]
    have hin : 1 ≤ lg L i ∧ lg L i ≤ 3 := by
      cases hf : F.flashed with
      | true => have := allIs_iff.1 (h1 (.inl hf)) i hi; omega
      | false =>
        unfold oneV at ho
        rw [if_neg (by rw [hf]; decide)] at ho
        exact may_next _ _ _ _ _ (aspG_in hf (hasp i (by omega))) (ownV_zero ho i hi)
    split
    · rename_i hst'
      have : F.flashed = true ∨ 0 < F.start := by
        have e : (behindV S F L).start = startV S F L := rfl
        rw [e] at hst'
        unfold startV at hst'
        rw [if_neg (by rw [hnf]; decide)] at hst'
        by_cases hf : F.flashed = true
        · exact .inl hf
        · rw [if_neg hf] at hst'
          exact .inr (by omega)
      have := allIs_iff.1 (h1 this) i hi
      simp [this]
    · have := hin
      simp
      omega
/-- Whatever is asked, what is let through has no fault. -/
theorem let_safe {S : St} {F : Sf} {A : List Nat} (hs : siteB S = true) (hg : goesV S F = true) (hA : A.length = S.groups.length) : faultV S F (letV S F A) = 0 := by
  obtain ⟨hm, hasp⟩ := goes_parts hg
  obtain ⟨hn, hst, hmt⟩ := mayS_parts hm
  have hng := (span_may hs).base.sh.ok.ng
  have hk := keeps_may hs
  have hl := letV_len S F A
  refine fault_zero (hl.trans hA) ?_
  by_cases h4 : allIs A 4 = true
  · refine .inl (allIs_yes (fun i hi => ?_))
    rw [letV_lg (by omega)]; unfold letF; rw [if_pos h4]
  refine .inr ?_
  by_cases hf : F.flashed = true ∨ 0 < F.start
  · have e1 : ∀ i, i < (letV S F A).length → lg (letV S F A) i = 1 := fun i hi => by
      rw [letV_lg (by omega)]; unfold letF; rw [if_neg h4, if_pos hf]
    refine ⟨hasIt_no (fun i hi => by rw [e1 i hi]; omega), fun _ => allIs_yes e1, ?_, mtB_no (fun a ha b hb => by unfold pairM; rw [e1 a ha]; rfl), soonB_no (fun b hb a ha => by unfold pairS; rw [e1 b hb]; rfl)⟩
    unfold oneV
    split
    · rfl
    · rename_i hff
      have hff : F.flashed = false := by simpa using hff
      have hs0 : 0 < F.start := by rcases hf with h | h; (rw [hff] at h; cases h); exact h
      refine ownV_no (fun j hj => ?_)
      unfold oneF
      rw [e1 j hj, aspG_start hff hs0 (hasp j (by omega))]
      rfl
  · have hff : F.flashed = false := by
      cases e : F.flashed with
      | false => rfl
      | true => exact absurd (.inl e) hf
    have eL : ∀ i, i < (letV S F A).length → lg (letV S F A) i = p2F S F A A.length A.length i := fun i hi => by
      rw [letV_lg (by omega)]; unfold letF; rw [if_neg h4, if_neg hf]
    have hshow0 : allIs (shown F) 4 = false := allIs_no (i := 0) (by rw [shown_len]; omega) (by
      rw [shown_lg (by omega)]
      have := aspG_in hff (hasp 0 (by omega)); omega)
    have hmt : mtB S (shown F) = false := by
      rcases hmt with h | h
      · exact h
      · rw [hshow0] at h; cases h
    refine ⟨hasIt_no (fun i hi => by rw [eL i hi]; have := p2F_rng S F A A.length A.length i; omega), fun h => absurd h hf, ?_, ?_, ?_⟩
    · unfold oneV
      rw [if_neg (by rw [hff]; decide)]
      refine ownV_no (fun j hj => ?_)
      unfold oneF
      rw [eL j hj]
      by_cases h1 : (F.g j).asp = 1
      · rw [h1]
        rcases p2F_red (S := S) (A := A) (n := A.length) h1 A.length with e | e
        · rw [e.1]; rfl
        · rw [e.1]; rfl
      · rw [p2F_other h1, wantN_int]
        have := aspG_in hff (hasp j (by omega))
        exact want_may9 _ _ _ _ _ (by omega)
    · have key : ∀ a b, a < A.length → b < A.length → (S.ap a).testBit b = true → p2F S F A A.length A.length a ≠ 1 → (F.g a).asp = 1 → p2F S F A A.length a b = 1 := fun a b ha hb hab h1 hr => by
        rcases p2F_red (S := S) (A := A) (n := A.length) hr A.length with e | e
        · exact absurd e.1 h1
        · exact (openB_at (turnB_out e.2.2).2.2 hb hab).1
      have both : ∀ a b, a < A.length → b < A.length → (S.ap a).testBit b = true → p2F S F A A.length A.length a ≠ 1 → p2F S F A A.length A.length b ≠ 1 → (F.g a).asp = 1 → b < a → False := fun a b ha hb hab h1 h2 hr hlt => by
        have e := key a b ha hb hab h1 hr
        by_cases hrb : (F.g b).asp = 1
        · rw [p2F_stay hlt, ← p2F_stay hb] at e
          exact h2 e
        · rw [p2F_other hrb] at e h2
          exact h2 e
      refine mtB_no (fun a ha b hb => ?_)
      have ha' : a < A.length := by omega
      cases e : pairM S (letV S F A) a b with
      | false => rfl
      | true =>
        exfalso
        unfold pairM at e
        rw [eL a ha, eL b (by omega)] at e
        simp at e
        obtain ⟨e1, e2, e3⟩ := e
        have e3' : (S.ap b).testBit a = true := by rw [← hk.sym a b (by omega) (by omega)]; exact e3
        by_cases ra : (F.g a).asp = 1
        · exact both a b ha' (by omega) e3 e1 e2 ra hb
        · by_cases rb : (F.g b).asp = 1
          · have := key b a (by omega) ha' e3' e2 rb
            rw [p2F_other ra] at this e1
            exact e1 this
          · have h1 := pairM_no hs (by rw [shown_len]; exact hn) hmt (a := a) (b := b) (by rw [shown_len]; omega) (by rw [shown_len]; omega) e3 (by rw [shown_lg (by omega)]; exact ra)
            rw [shown_lg (by omega)] at h1
            exact rb h1
    · refine soonB_no (fun b hb a ha => ?_)
      cases e : pairS S F (letV S F A) b a with
      | false => rfl
      | true =>
        exfalso
        unfold pairS at e
        rw [eL b hb] at e
        simp at e
        obtain ⟨e1, e2, e3, e4⟩ := e
        have hb' : b < A.length := by omega
        have e3' : (S.ap b).testBit a = true := by rw [← hk.sym a b (by omega) (by omega)]; exact e3
        by_cases rb : (F.g b).asp = 1
        · rcases p2F_red (S := S) (A := A) (n := A.length) rb A.length with h | h
          · omega
          · have := (openB_at (turnB_out h.2.2).2.2 (that := a) (by omega) e3').2
            omega
        · rw [p2F_other rb] at e1
          have h3 := aspG_in hff (hasp b (by omega))
          have h3 : (F.g b).asp = 3 := by omega
          have := wantN_int S F A b
          rw [h3, e1] at this
          unfold wantV at this
          simp at this
          split at this <;> omega
/-- What is asked and has no fault is let through as it is. -/
theorem let_same {S : St} {F : Sf} {A : List Nat} (hs : siteB S = true) (hg : goesV S F = true) (hz : faultV S F A = 0) : letV S F A = A := by
  obtain ⟨hm, hasp⟩ := goes_parts hg
  obtain ⟨hn, hst, hmt⟩ := mayS_parts hm
  obtain ⟨hA, hz⟩ := fault_out hz
  have hk := keeps_may hs
  have hl := letV_len S F A
  have key : ∀ i, i < A.length → letF S F A i = lg A i := by
    intro i hi
    unfold letF
    by_cases h4 : allIs A 4 = true
    · rw [if_pos h4, allIs_iff.1 h4 i hi]
    rw [if_neg h4]
    obtain ⟨h7, h1, ho, h3, h5⟩ : hasIt A 4 = false ∧ ((F.flashed = true ∨ 0 < F.start) → allIs A 1 = true) ∧ oneV S F A = 0 ∧ mtB S A = false ∧ soonB S F A = false := by
      rcases hz with hz | hz
      · exact absurd hz h4
      · exact hz
    by_cases hf : F.flashed = true ∨ 0 < F.start
    · rw [if_pos hf, allIs_iff.1 (h1 hf) i hi]
    rw [if_neg hf]
    have hff : F.flashed = false := by
      cases e : F.flashed with
      | false => rfl
      | true => exact absurd (.inl e) hf
    have hone : ∀ j, j < A.length → mayV (S.gr j).min (S.gr j).yellow (F.g j).asp (F.g j).since (lg A j) = 0 := fun j hj => by
      unfold oneV at ho
      rw [if_neg (by rw [hff]; decide)] at ho
      exact ownV_zero ho j hj
    have hoth : ∀ j k, j < A.length → (F.g j).asp ≠ 1 → p2F S F A A.length k j = lg A j := fun j k hj hr => by
      rw [p2F_other hr]
      have ha := aspG_in hff (hasp j (by omega))
      have := may_want9 _ _ _ _ _ (by omega) (hone j hj)
      have := wantN_int S F A j
      omega
    have hred : ∀ j, j < A.length → (F.g j).asp = 1 → lg A j = 1 ∨ lg A j = 2 := fun j hj hr => by
      have := hone j hj
      rw [hr] at this
      unfold mayV at this
      simp at this
      omega
    by_cases hr : (F.g i).asp = 1
    · rcases p2F_red (S := S) (A := A) (n := A.length) hr A.length with e | e
      · rcases hred i hi hr with h | h
        · rw [e.1, h]
        · exfalso
          have ht := e.2 hi
          have : turnB S F A A.length (p2F S F A A.length i) i = true := by
            unfold turnB
            rw [hr, h]
            simp
            refine allB_iff.2 (fun j hj => ?_)
            cases eb : barB S F (p2F S F A A.length i) i j with
            | false => rfl
            | true =>
              exfalso
              unfold barB at eb
              rw [Bool.and_eq_true, Bool.or_eq_true] at eb
              obtain ⟨e1, e2⟩ := eb
              rcases e2 with e2 | e2
              · have hj1 := pairM_no hs hA h3 hi hj e1 (by omega)
                have e2 : p2F S F A A.length i j ≠ 1 := by simpa using e2
                by_cases hrj : (F.g j).asp = 1
                · rcases p2F_red (S := S) (A := A) (n := A.length) hrj i with q | q
                  · exact e2 q.1
                  · have := (turnB_out q.2.2).2.1; omega
                · rw [hoth j i hj hrj] at e2; exact e2 hj1
              · have e2 := of_decide_eq_true e2
                have := soonB_iff.1 h5 i hi j hj
                unfold pairS at this
                rw [hk.sym i j (by omega) (by omega)] at e1
                rw [h, hr, e1] at this
                simp at this
                omega
          rw [this] at ht; cases ht
      · rw [e.1, (turnB_out e.2.2).2.1]
    · exact hoth i A.length hi hr
  refine List.ext_getElem hl (fun i h1 h2 => ?_)
  have a := letV_lg (S := S) (F := F) h2
  rw [key i h2] at a
  have b : lg (letV S F A) i = (letV S F A)[i] := by simp [lg, h1]
  have c : lg A i = A[i] := by simp [lg, h2]
  rw [← b, a, c]
/-- What is let through of a group does not hang on what is asked of red ones behind it. -/
theorem let_later {S : St} {F : Sf} {A B : List Nat} {at_ : Nat} (hl : B.length = A.length) (h0 : 0 < A.length) (hA : ∀ i, i < A.length → lg A i ≠ 4) (hB : ∀ i, i < A.length → lg B i ≠ 4) (hat : at_ ≤ A.length) (hlo : ∀ i, i < at_ → lg B i = lg A i) (hnr : ∀ i, i < A.length → (F.g i).asp ≠ 1 → lg B i = lg A i) {i : Nat} (hi : i < at_) : letF S F A i = letF S F B i := by
  have hA4 : ¬ allIs A 4 = true := by rw [allIs_no h0 (hA 0 h0)]; decide
  have hB4 : ¬ allIs B 4 = true := by rw [allIs_no (i := 0) (by omega) (hB 0 h0)]; decide
  unfold letF
  rw [if_neg hA4, if_neg hB4, hl]
  by_cases hff : F.flashed = true ∨ 0 < F.start
  · rw [if_pos hff, if_pos hff]
  · rw [if_neg hff, if_neg hff]
    have hw : ∀ j, j < A.length → w1F S F A j = w1F S F B j := fun j hj => by
      unfold w1F
      by_cases h : (F.g j).asp = 1
      · rw [if_pos h, if_pos h]
      · rw [if_neg h, if_neg h]; unfold wantN; rw [hnr j hj h]
    have hp : ∀ k, k ≤ at_ → ∀ j, j < A.length → p2F S F A A.length k j = p2F S F B A.length k j := by
      intro k
      induction k with
      | zero => exact fun _ j hj => hw j hj
      | succ k ih =>
        intro hk j hj
        have hk' := ih (by omega)
        have : turnB S F A A.length (p2F S F A A.length k) k = turnB S F B A.length (p2F S F B A.length k) k := by
          unfold turnB
          rw [openB_congr hk', hlo k (by omega)]
        rw [p2F, p2F, this, hk' j hj]
    rw [p2F_stay (show i < A.length by omega), p2F_stay (j := i) (show i < A.length by omega)]
    exact hp (i + 1) (by omega) i (by omega)

/-! ### Tick by tick -/
def runF (S : St) (T : List (List Nat)) : Nat → Sf
  | 0 => firstV S
  | k + 1 => behindV S (runF S T k) (letV S (runF S T k) (tk T k))
def runL (S : St) (T : List (List Nat)) (k : Nat) : List Nat := letV S (runF S T k) (tk T k)
def runV (S : St) (T : List (List Nat)) : List (List Nat) := (List.range T.length).map (runL S T)
theorem runV_tk {S : St} {T : List (List Nat)} {k : Nat} (h : k < T.length) : tk (runV S T) k = runL S T k := by simp [runV, tk, h]
theorem runV_len (S : St) (T : List (List Nat)) : (runV S T).length = T.length := by simp [runV]
theorem goes_first {S : St} (hs : siteB S = true) : goesV S (firstV S) = true := by
  have hl := firstV_len S
  have h1 : ∀ i, i < (firstV S).groups.length → ((firstV S).g i).asp = 1 := fun i hi => by rw [firstV_g (by omega)]
  unfold goesV
  rw [Bool.and_eq_true, allB_iff]
  refine ⟨?_, fun i hi => ?_⟩
  · unfold mayS
    rw [decide_eq_true hl, Bool.true_and, show inB (firstV S).start 0 1048576 = true from inB_iff.2 (worst_rng hs), Bool.true_and, mtB_no]
    · rfl
    · intro a ha b hb
      rw [shown_len] at ha
      unfold pairM
      rw [shown_lg ha, h1 a ha]; rfl
  · rw [h1 i hi]
    unfold aspG
    rw [if_neg (by show ¬ (false = true); decide)]
    split <;> rfl
theorem run_goes {S : St} {T : List (List Nat)} (hs : siteB S = true) (hT : ∀ k, k < T.length → (tk T k).length = S.groups.length) : ∀ k, k ≤ T.length → goesV S (runF S T k) = true
  | 0, _ => goes_first hs
  | k + 1, h => goes_next hs (run_goes hs hT k (by omega)) (let_safe hs (run_goes hs hT k (by omega)) (hT k (by omega)))
theorem run_at {S : St} {T : List (List Nat)} : ∀ k, k ≤ T.length → atV S (runV S T) k = runF S T k
  | 0, _ => rfl
  | k + 1, h => by
    show behindV S (atV S (runV S T) k) (tk (runV S T) k) = behindV S (runF S T k) (letV S (runF S T k) (tk T k))
    rw [run_at k (by omega), runV_tk (by omega)]
    rfl
theorem run_flt {S : St} {T : List (List Nat)} (hs : siteB S = true) (hT : ∀ k, k < T.length → (tk T k).length = S.groups.length) {k : Nat} (h : k < T.length) : fltV S (runV S T) k = 0 := by
  unfold fltV
  rw [run_at k (by omega), runV_tk h]
  exact let_safe hs (run_goes hs hT k (by omega)) (hT k h)

end Go.Proofs.YtkbhcpgdhbfhnaaDoor

/-
  THE CONTRACTS of gate's small calls: has, allAre, allOf, aspectGoesOn; of letThrough's closures bars and open.
-/
namespace Go.Proofs.YtkbhcpgdhbfhnaaDoor
open Go.RowKit Go.Lib Go.Deep
set_option linter.unusedVariables false
set_option linter.unusedSimpArgs false

theorem ghas_any (S i : Nat) (w : World) (hS : S < 4294967296) (hi : i < 32) : Calls Tryd.prog 44 #[.int .u32 (S : Int), .int .i64 (i : Int)] w fun e w' => e = .returned (.bool (S.testBit i)) ∧ w' = w := by
  have hb := has_bit S i hS
  go_enter Tryd.func44, Tryd.ntmps44
  go_wp2
  go_ret
  exact ⟨by rw [← hb]; rfl, rfl⟩
set_option maxRecDepth 100000 in
theorem gindexFn_any {w : World} {a : Option Addr} {n c : Nat} {L : List Nat} (hB : By w a n L) (x B : Nat) (hx : w.cell? ⟨B, 0, none⟩ = some (.int .u8 (x : Int))) : Calls Tryd.prog 86 #[.slice a n c, .func (.func 68) #[] #[.pointer (some ⟨B, 0, none⟩)]] w fun e w' => (∃ z : Int, e = .returned (.int .i64 z) ∧ allIs L x = !decide (0 ≤ z)) ∧ w' = w := by
  have hs := hB.size
  have hm := hB.max
  have HB := Hid.mk' hB
  have HS := Hid.mk' hs
  clear hB hs
  go_enter Tryd.func86, Tryd.ntmps86
  go_wp2
  go_loop [5, 8] (fun _ i => ∃ k : Nat, k ≤ n ∧ i = .int .i64 k ∧ ∀ j, j < k → lg L j = x) (fun _ i => n - (intOf i).toNat)
  case atStart => exact ⟨0, by omega, rfl, fun j hj => by omega⟩
  case round =>
    obtain ⟨k, hk, rfl, hno⟩ := hrel
    have HN := Hid.mk' hno
    clear hno
    by_cases hlt : k < n
    · obtain ⟨b, off, rfl, hb, hc⟩ := HB.out.at_ (by omega)
      have kc := hc k hlt
      rw [show L.getD k 0 = lg L k from rfl] at kc
      by_cases e : lg L k = x
      · have HN2 := Hid.mk' (ext_no HN.out e)
        rw [e] at kc
        clear hc e
        go_wp2
        exact ⟨⟨k + 1, by omega, by go_num, HN2.out⟩, by simp [intOf]; omega⟩
      · have HY := Hid.mk' (allIs_no (by have := HS.out; omega) e)
        have e1 : ((lg L k : Int) == (x : Int)) = false := by simp; omega
        clear hc e
        generalize lg L k = y at *
        go_wp2
        go_ret
        exact ⟨⟨_, rfl, by rw [HY.out]; simp⟩, rfl⟩
    · have HF := Hid.mk' (allIs_yes (L := L) (x := x) (fun i hi => HN.out i (by have := HS.out; omega)))
      go_wp2
      go_ret
      exact ⟨⟨_, rfl, by rw [HF.out]; simp⟩, rfl⟩
theorem gall_any {w : World} {a : Option Addr} {n c : Nat} {L : List Nat} (hB : By w a n L) (x : Nat) : Calls Tryd.prog 42 #[.slice a n c, .int .u8 (x : Int)] w fun e w' => e = .returned (.bool (allIs L x)) ∧ Kept w w' none := by
  have hk : Kept w (w.alloc (.cells #[.int .u8 (x : Int)] 5)) none := Kept.alloc _ _ _ _ _
  have HB := Hid.mk' (hB.kept hk)
  have HK := Hid.mk' hk
  clear hB hk
  have hc : (w.alloc (.cells #[.int .u8 (x : Int)] 5)).cell? ⟨w.heap.size, 0, none⟩ = some (.int .u8 (x : Int)) := by simp [World.cell?_alloc_mark]
  have HC := Hid.mk' hc
  clear hc
  go_enter Tryd.func42, Tryd.ntmps42
  go_wp2_with (first
    | (go_at_call 67; go_in)
    | (go_at_call 86; refine (gindexFn_any HB.out x _ HC.out).mono ?_; rintro e w' ⟨⟨z, rfl, hz⟩, rfl⟩))
  go_ret
  exact ⟨by rw [hz]; rfl, HK.out⟩

/-! ### allOf -/
def ocell (k x : Nat) (i : Nat) : Value := .int .u8 ((if i < k then x else 0 : Nat) : Int)
theorem ocell_set {k x : Nat} : (fun j => if j = k then Value.int .u8 (x : Int) else ocell k x j) = ocell (k + 1) x := by
  funext j
  unfold ocell
  by_cases h : j = k
  · subst h; simp
  · rw [if_neg h]
    by_cases h2 : j < k
    · rw [if_pos h2, if_pos (by omega)]
    · rw [if_neg h2, if_neg (by omega)]
set_option maxRecDepth 100000 in
set_option maxHeartbeats 1000000 in
theorem gallOf_any {w : World} (x n : Nat) (hn : n ≤ 100) : Calls Tryd.prog 31 #[.int .u8 (x : Int), .int .i64 (n : Int)] w fun e w' => e = .returned (.slice (some ⟨w.heap.size, 0, none⟩) n n) ∧ w'.rowIs w.heap.size 5 n (fun _ => .int .u8 (x : Int)) ∧ Kept w w' none := by
  have hmk := run_make_row' (P := Tryd.prog) 36 5 (.int .u8 0) 1 Tryd.uB Tryd.infoByte rfl .i64 .i64 n (by omega) (by omega)
  go_enter Tryd.func31, Tryd.ntmps31
  go_wp2
  have hrw := World.rowIs_made w (.int .u8 0) n 5
  have kM : Kept w (w.alloc (.cells (madeCells #[.int .u8 0] n) 5)) none := Kept.alloc _ _ _ _ _
  obtain ⟨W3, hW3⟩ : ∃ W3, w.alloc (.cells (madeCells #[.int .u8 0] n) 5) = W3 := ⟨_, rfl⟩
  rw [hW3] at hrw kM ⊢
  have HRW := Hid.mk' hrw
  have KM := Hid.mk' kM
  clear hW3 hrw kM hmk
  go_loopw [6, 11] (fun _ i wr => ∃ k : Nat, k ≤ n ∧ i = .int .i64 k ∧ Kept w wr none ∧ wr.rowIs w.heap.size 5 n (ocell k x)) (fun _ i _ => n - (intOf i).toNat)
  case atStart => exact ⟨0, by omega, rfl, KM.out, HRW.out.congr (fun i hi => by unfold ocell; simp)⟩
  case round =>
    obtain ⟨k, hk, rfl, hkw, hrow⟩ := hrel
    have HKW := Hid.mk' hkw
    have HRO := Hid.mk' hrow
    have hlr := hrow.lt
    clear hkw hrow
    by_cases hlt : k < n
    · have y0 := HRO.out.cell hlt
      have z0 := HRO.out.frozen k
      go_wp2
      go_roundw
      case rel =>
        refine ⟨k + 1, by omega, by go_num, HKW.out.setNew (p := ⟨w.heap.size, k, none⟩) (Nat.le_refl _) _, ?_⟩
        rw [← ocell_set]
        exact HRO.out.set k _
      case measure => simp [intOf]; omega
    · have e : k = n := by omega
      subst e
      go_wp2
      go_ret
      exact ⟨rfl, HRO.out.congr (fun i hi => by unfold ocell; rw [if_pos hi]), HKW.out⟩

/-! ### aspectGoesOn -/
set_option maxRecDepth 100000 in
set_option maxHeartbeats 1000000 in
theorem gasp_any {w : World} {a : Option Addr} {c : Nat} {F : Sf} (x : Nat) : Calls Tryd.prog 47 #[safeV a c F, .int .u8 (x : Int)] w fun e w' => e = .returned (.bool (aspG F x)) ∧ Kept w w' none := by
  obtain ⟨G, st, fl⟩ := F
  have hk : Kept w (w.alloc (.cells #[.slice a G.length c, .int .i64 st, .bool fl] 41)) none := Kept.alloc _ _ _ _ _
  have HK := Hid.mk' hk
  clear hk
  unfold aspG
  dsimp only
  cases fl with
  | true =>
    rw [if_pos rfl]
    have hb : ((x : Int) == 4) = (x == 4) := by rw [Bool.eq_iff_iff]; simp; omega
    have HB := Hid.mk' hb
    clear hb
    go_enter Tryd.func47, Tryd.ntmps47
    go_wp2
    go_ret
    exact ⟨by rw [← HB.out]; rfl, HK.out⟩
  | false =>
    rw [if_neg (by decide)]
    by_cases hs : 0 < st
    · rw [if_pos hs]
      have hb : ((x : Int) == 1) = (x == 1) := by rw [Bool.eq_iff_iff]; simp; omega
      have HB := Hid.mk' hb
      clear hb
      go_enter Tryd.func47, Tryd.ntmps47
      go_wp2
      go_ret
      exact ⟨by rw [← HB.out]; rfl, HK.out⟩
    · rw [if_neg hs]
      have hsb : decide (0 < st) = false := by simp; omega
      by_cases h1 : x = 1
      · subst h1
        go_enter Tryd.func47, Tryd.ntmps47
        go_wp2
        go_ret
        exact ⟨rfl, HK.out⟩
      · have b1 : ((x : Int) == 1) = false := by simp; omega
        by_cases h2 : x = 2
        · subst h2
          go_enter Tryd.func47, Tryd.ntmps47
          go_wp2
          go_ret
          exact ⟨rfl, HK.out⟩
        · have b2 : ((x : Int) == 2) = false := by simp; omega
          have hb : ((x : Int) == 3) = (x == 1 || (x == 2 || x == 3)) := by rw [Bool.eq_iff_iff]; simp; omega
          have HB := Hid.mk' hb
          clear hb
          go_enter Tryd.func47, Tryd.ntmps47
          go_wp2
          go_ret
          exact ⟨by rw [← HB.out]; rfl, HK.out⟩

/-! ### The closures -/
/-- What they ask: the site's pointer, the lights' slice, the standing, each in a box. -/
structure Gt (w : World) (B : Nat) (X : Sa) (S : St) (bs bl bn bf off c g : Nat) (F : Sf) (f : Nat → Nat) : Prop where
  ps : w.cell? ⟨bs, 0, none⟩ = some (.pointer (some ⟨B, 0, none⟩))
  pl : w.cell? ⟨bl, 0, none⟩ = some (.slice (some ⟨g, 0, none⟩) S.groups.length S.groups.length)
  bx : Box w bn (.slice (some ⟨bf, off, none⟩) S.groups.length c) (.int .i64 F.start) (.bool F.flashed)
  sb : Sbox w B X S
  cf : ∀ i, i < S.groups.length → ∀ j, j < 3 → w.cell? ⟨bf, off + i * 3 + j, none⟩ = some (snV (F.g i) j)
  rw_ : w.rowIs g 5 S.groups.length (fun i => .int .u8 ((f i : Nat) : Int))
  room : S.groups.length ≤ c
  max : c ≤ 9223372036854775807
theorem Gt.kept {w w' : World} {B : Nat} {X : Sa} {S : St} {bs bl bn bf off c g : Nat} {F : Sf} {f : Nat → Nat} (h : Gt w B X S bs bl bn bf off c g F f) (k : Kept w w' none) : Gt w' B X S bs bl bn bf off c g F f :=
  ⟨cell_kept0 h.ps k, cell_kept0 h.pl k, h.bx.kept k, h.sb.kept k, fun i hi j hj => cell_kept0 (h.cf i hi j hj) k, row_kept h.rw_ k (by simp), h.room, h.max⟩
theorem Gt.congr {w : World} {B : Nat} {X : Sa} {S : St} {bs bl bn bf off c g : Nat} {F : Sf} {f f' : Nat → Nat} (h : Gt w B X S bs bl bn bf off c g F f) (e : ∀ i, i < S.groups.length → f i = f' i) : Gt w B X S bs bl bn bf off c g F f' :=
  ⟨h.ps, h.pl, h.bx, h.sb, h.cf, h.rw_.congr (fun i hi => by rw [e i hi]), h.room, h.max⟩
set_option maxRecDepth 100000 in
set_option maxHeartbeats 2000000 in
theorem gbars_any {w : World} {B : Nat} {X : Sa} {S : St} {bs bl bn bf off c g : Nat} {F : Sf} {f : Nat → Nat} (h : Gt w B X S bs bl bn bf off c g F f) (hSh : Shape S) {that it : Nat} (ht : that < S.groups.length) (hi : it < S.groups.length) : Calls Tryd.prog 43 #[.int .i64 (that : Int), .int .i64 (it : Int), .pointer (some ⟨bs, 0, none⟩), .pointer (some ⟨bl, 0, none⟩), .pointer (some ⟨bn, 0, none⟩)] w fun e w' => e = .returned (.bool (barB S F f it that)) ∧ Kept w w' none := by
  have hng := hSh.ok.ng
  have hna := hSh.ok.na
  have hnb := hSh.ok.nb
  have ps := h.ps
  have pl := h.pl
  have f0 := h.bx.c0
  have c2 := h.sb.c2
  have c3 := h.sb.c3
  have hap : S.ap it < 4294967296 := h.sb.sat.apr it
  obtain ⟨ba, oa, ea, hca⟩ := h.sb.sat.apAt (n := S.groups.length) (by omega) (by omega)
  obtain ⟨bb, ob, br, or, cr, eb, kb, hcr, kr⟩ := h.sb.sat.btAt hSh ht hi
  have a0 := hca it hi
  have s2 := h.cf that ht 2 (by omega)
  have l0 := h.rw_.cell (i := that) ht
  simp only [snV] at s2
  have hac := h.sb.sat.ak.room
  have hbc := h.sb.sat.b.cap.room
  have hro := h.room
  have hmx := h.max
  rw [hna] at hac
  rw [hnb] at hbc
  rw [ea, hna] at c2
  rw [eb, hnb] at c3
  have HHAS := Hid.mk' (fun w' => ghas_any (S.ap it) that w' hap (by omega))
  have HV : Hid (barB S F f it that = ((S.ap it).testBit that && (!(f that == 1) || decide ((F.g that).ended < S.bt that it)))) := rfl
  clear h hSh ea eb hca hna hnb
  generalize barB S F f it that = z at *
  generalize F.g that = N at *
  generalize S.bt that it = v at *
  generalize S.ap it = P at *
  generalize P.testBit that = t at *
  generalize f that = y at *
  cases t with
  | false =>
    go_enter Tryd.func43, Tryd.ntmps43
    go_wp2
    go_quiet ((go_at_call 44; exact Calls.quiet_of_same (HHAS.out _)))
    go_wp2
    go_ret
    exact ⟨by rw [HV.out]; rfl, Kept.drewN _ _ _⟩
  | true =>
    by_cases hy : y = 1
    · subst hy
      by_cases hv : N.ended < v
      · go_enter Tryd.func43, Tryd.ntmps43
        go_wp2
        go_quiet ((go_at_call 44; exact Calls.quiet_of_same (HHAS.out _)))
        go_wp2
        go_ret
        exact ⟨by rw [HV.out]; simp [hv], Kept.drewN _ _ _⟩
      · have hvb : decide (N.ended < v) = false := by simp [hv]
        go_enter Tryd.func43, Tryd.ntmps43
        go_wp2
        go_quiet ((go_at_call 44; exact Calls.quiet_of_same (HHAS.out _)))
        go_wp2
        go_ret
        exact ⟨by rw [HV.out]; simp [hv], Kept.drewN _ _ _⟩
    · have hyb : ((y : Int) != 1) = true := by simp; omega
      have HY : Hid ((y == 1) = false) := by show _ = _; simp [hy]
      clear hy
      go_enter Tryd.func43, Tryd.ntmps43
      go_wp2
      go_quiet ((go_at_call 44; exact Calls.quiet_of_same (HHAS.out _)))
      go_wp2
      go_ret
      exact ⟨by rw [HV.out, HY.out]; rfl, Kept.drewN _ _ _⟩
set_option maxRecDepth 100000 in
set_option maxHeartbeats 1000000 in
theorem gopen_any {w : World} {B : Nat} {X : Sa} {S : St} {bs bl bn bf off c g bb : Nat} {F : Sf} {f : Nat → Nat} (h : Gt w B X S bs bl bn bf off c g F f) (hSh : Shape S) (hb : w.cell? ⟨bb, 0, none⟩ = some (.func (.func 43) #[] #[.pointer (some ⟨bs, 0, none⟩), .pointer (some ⟨bl, 0, none⟩), .pointer (some ⟨bn, 0, none⟩)])) {it : Nat} (hi : it < S.groups.length) : Calls Tryd.prog 45 #[.int .i64 (it : Int), .pointer (some ⟨bl, 0, none⟩), .pointer (some ⟨bb, 0, none⟩)] w fun e w' => e = .returned (.bool (openB S F S.groups.length f it)) ∧ Kept w w' none := by
  have hng := hSh.ok.ng
  have pl := h.pl
  have HG := Hid.mk' h
  have HSH := Hid.mk' hSh
  have HB := Hid.mk' hb
  clear h hSh hb
  go_enter Tryd.func45, Tryd.ntmps45
  go_wp2
  go_loopw [5, 8] (fun _ i wr => ∃ k : Nat, k ≤ S.groups.length ∧ i = .int .i64 k ∧ Kept w wr none ∧ ∀ j, j < k → barB S F f it j = false) (fun _ i _ => S.groups.length - (intOf i).toNat)
  case atStart => exact ⟨0, by omega, rfl, Kept.refl _ _, fun j hj => by omega⟩
  case round =>
    obtain ⟨k, hk, rfl, hkw, hno⟩ := hrel
    have HKW := Hid.mk' hkw
    have HN := Hid.mk' hno
    clear hkw hno
    by_cases hlt : k < S.groups.length
    · have pb := cell_kept0 HB.out HKW.out
      have HBA := Hid.mk' (gbars_any (HG.out.kept HKW.out) HSH.out hlt hi)
      have HY : Hid (barB S F f it k = true → openB S F S.groups.length f it = false) := fun e => allB_no hlt (by rw [e]; rfl)
      have HNO : Hid (barB S F f it k = false → ∀ j, j < k + 1 → barB S F f it j = false) := fun e => ext_no HN.out e
      generalize barB S F f it k = z at *
      cases z with
      | true =>
        have HF := Hid.mk' (HY.out rfl)
        clear HNO HY
        go_wp2_with (go_at_call 43; refine HBA.out.mono ?_; rintro e w2 ⟨rfl, hk2⟩)
        go_ret
        exact ⟨by rw [HF.out]; rfl, HKW.out.tr hk2⟩
      | false =>
        have HN2 := Hid.mk' (HNO.out rfl)
        clear HNO HY
        go_wp2_with (go_at_call 43; refine HBA.out.mono ?_; rintro e w2 ⟨rfl, hk2⟩)
        go_roundw
        case rel => exact ⟨k + 1, by omega, by go_num, HKW.out.tr hk2, HN2.out⟩
        case measure => simp [intOf]; omega
    · have e : k = S.groups.length := by omega
      subst e
      have HF : Hid (openB S F S.groups.length f it = true) := allB_iff.2 (fun j hj => by rw [HN.out j hj]; rfl)
      go_wp2
      go_ret
      exact ⟨by rw [HF.out]; rfl, HKW.out⟩

end Go.Proofs.YtkbhcpgdhbfhnaaDoor

