/-
  MATHS: a site (and plans) is read again as it was written, and nothing else is read as one.
-/
import Derived.Test.YtpajefkfnhibnaaDoorReadR
namespace Go.Proofs.YtpajefkfnhibnaaDoor
open Go.RowKit Go.Lib Go.Deep
set_option linter.unusedVariables false
set_option linter.unusedSimpArgs false

theorem writeL_yes {S : St} (hs : siteB S = true) : writeL S = siteL S ++ sum4 (siteL S) := by unfold writeL; rw [if_pos hs]
theorem read_write {S : St} (hr : Rok S) (hs : siteB S = true) : readB (writeL S) = true ∧ readS (writeL S) = S := by
  have hw := writeL_yes hs
  have hl : (writeL S).length - 4 = (siteL S).length := by rw [hw, List.length_append, sum4_len]; omega
  have ht : (writeL S).take ((writeL S).length - 4) = siteL S := by rw [hl, hw, List.take_left']; rfl
  have hd : (writeL S).drop ((writeL S).length - 4) = sum4 (siteL S) := by rw [hl, hw, List.drop_left']; rfl
  have hm : siteM (siteL S, false) = (S, ([], false)) := by
    have := siteC.fwd S [] hr
    rwa [List.append_nil] at this
  have h4 : 4 ≤ (writeL S).length := by rw [hw, List.length_append, sum4_len]; omega
  constructor
  · unfold readB sumOk toldOk readS
    rw [ht, hd, hm, decide_eq_true h4, decide_eq_true rfl, hs]
    rfl
  · unfold readS
    rw [ht, hm]
theorem write_read {L : List Nat} (hL : ∀ x ∈ L, x < 256) (h : readB L = true) : writeL (readS L) = L ∧ siteB (readS L) = true := by
  unfold readB at h
  simp only [Bool.and_eq_true, decide_eq_true_eq] at h
  obtain ⟨h4, h1, h2, h3⟩ := h
  refine ⟨?_, h3⟩
  rw [writeL_yes h3]
  unfold sumOk at h1
  rw [decide_eq_true_eq] at h1
  unfold toldOk doneB at h2
  simp only [Bool.and_eq_true, decide_eq_true_eq, Bool.not_eq_true'] at h2
  have hb := siteC.bwd (L.take (L.length - 4)) (fun y hy => hL y (List.mem_of_mem_take hy)) h2.1
  rw [h2.2, List.append_nil] at hb
  have e : siteL (readS L) = L.take (L.length - 4) := hb.1.symm
  rw [e, ← h1, List.take_append_drop]

theorem mayL_all {l : List Pl} : mayL l = allB l.length (fun k => mayB (l.getD k q0)) := by
  rw [Bool.eq_iff_iff, allB_iff, mayL_iff]
  constructor
  · exact fun h i hi => h _ (getD_mem hi)
  · intro h p hp
    obtain ⟨i, hi, rfl⟩ := List.mem_iff_getElem.1 hp
    have := h i hi
    rwa [List.getD_eq_getElem?_getD, List.getElem?_eq_getElem hi] at this
theorem parts_whole {l : List Pl} (h : wholeE l = 0) : partsB (wholeL l) = true ∧ (plansM (wholeL l, false)).1 = l := by
  have h8 : l.length ≤ 8 := by
    unfold wholeE at h
    split at h
    · omega
    · omega
  have hm : mayL l = true := by
    unfold wholeE at h
    rw [if_neg (by omega)] at h
    split at h
    · assumption
    · omega
  have hw : wholeL l = smlI (plansI l) := by unfold wholeL; rw [if_pos h]
  have hp := plansC.fwd l [] ⟨h8, fun p hp => by
    obtain ⟨h1, h2, h3, h4⟩ := may_parts (mayL_iff.1 hm p hp)
    exact ⟨by omega, by omega, by omega, fun x hx => h4 x hx⟩⟩
  rw [List.append_nil, ← hw] at hp
  unfold partsB
  rw [hp]
  exact ⟨by rw [← mayL_all, hm]; rfl, rfl⟩
theorem whole_parts {L : List Nat} (hL : ∀ x ∈ L, x < 256) (h : partsB L = true) : wholeE (plansM (L, false)).1 = 0 ∧ wholeL (plansM (L, false)).1 = L := by
  unfold partsB doneB at h
  simp only [Bool.and_eq_true, decide_eq_true_eq, Bool.not_eq_true'] at h
  obtain ⟨⟨h1, h2⟩, h3⟩ := h
  have hb := plansC.bwd L hL h1
  rw [h2, List.append_nil] at hb
  rw [← mayL_all] at h3
  have h0 : wholeE (plansM (L, false)).1 = 0 := by unfold wholeE; rw [if_neg (by have := hb.2.1; omega), if_pos h3]
  refine ⟨h0, ?_⟩
  unfold wholeL
  rw [if_pos h0]
  exact hb.1.symm

end Go.Proofs.YtpajefkfnhibnaaDoor
