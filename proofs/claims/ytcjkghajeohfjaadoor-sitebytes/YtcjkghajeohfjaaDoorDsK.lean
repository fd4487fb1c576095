/-
  Texts joined: some of those that the proofs of this seat stand on.
-/
import Derived.Test.YtcjkghajeohfjaaDoorSiGJ
import Derived.Test.YtcjkghajeohfjaaDoorCodM
/-
  A SITE THAT MAY BE is one that the document's reader takes.
-/
namespace Go.Proofs.YtcjkghajeohfjaaDoor
open Go.RowKit Go.Lib Go.Deep
set_option linter.unusedVariables false

theorem dsok_rok {S : St} (hR : Rok S) (hs : siteB S = true) : DSok S := by
  have hP := pos_may hs
  have hO := hP.ok
  have hs' := hs
  unfold siteB at hs'
  simp only [Bool.and_eq_true, allB_iff] at hs'
  obtain ⟨⟨⟨⟨⟨⟨⟨⟨⟨hc, h1⟩, hg⟩, ha⟩, hb⟩, hp⟩, hv⟩, he⟩, hcy⟩, hpl⟩ := hs'
  unfold ownB timeB at h1
  simp only [Bool.and_eq_true, inB_iff] at h1
  have hng := hO.ng
  have hpw : 2 ^ S.groups.length ≤ 65536 := Nat.pow_le_pow_right (n := 2) (j := 16) (by omega) (by omega)
  refine ⟨⟨by omega, by omega⟩, hR.gn, fun g hgm => ?_, hR.an, fun x hx => ?_, hR.bn, hR.bt, hR.pn, fun p hpm => ?_, hR.en, fun e hem => ?_, hR.own, hR.ln, hR.pl⟩
  · obtain ⟨i, hi, rfl⟩ := List.getElem_of_mem hgm
    have h2 := hg i hi
    have e : S.gr i = S.groups[i] := by unfold St.gr; simp [hi]
    unfold groupB at h2
    rw [e] at h2
    simp only [Bool.and_eq_true, Bool.or_eq_true, decide_eq_true_eq] at h2
    refine ⟨?_, (hR.gr _ hgm).2⟩
    rcases h2.1.1 with q | q <;> omega
  · obtain ⟨i, hi, rfl⟩ := List.getElem_of_mem hx
    have h3 := ha i (by have := hO.na; omega)
    have e : S.ap i = S.apart[i] := by unfold St.ap; simp [hi]
    unfold apartB at h3
    rw [e] at h3
    simp only [Bool.and_eq_true, decide_eq_true_eq] at h3
    have := h3.1.1
    omega
  · obtain ⟨i, hi, rfl⟩ := List.getElem_of_mem hpm
    have h5 := hp i hi
    have e : S.ph i = S.phases[i] := by unfold St.ph; simp [hi]
    unfold phaseB at h5
    rw [e] at h5
    simp only [Bool.and_eq_true, decide_eq_true_eq] at h5
    have h6 := h5.1.1.1.1.1.1.2
    exact ⟨by omega, (hR.ph _ hpm).2⟩
  · obtain ⟨i, hi, rfl⟩ := List.getElem_of_mem hem
    have h7 := he i hi
    have e : S.ey i = S.eyes[i] := by unfold St.ey; simp [hi]
    have hnp := hO.np
    unfold eyeB at h7
    rw [e] at h7
    simp only [Bool.and_eq_true, inB_iff] at h7
    have h8 := hR.ey _ hem
    exact ⟨by omega, h8.2.1, h8.2.2.1, by omega⟩
theorem dsok_may {X : Sa} {S : St} {w : World} (h : Sat w X S) (hs : siteB S = true) : DSok S := dsok_rok (rok_may h hs) hs

end Go.Proofs.YtcjkghajeohfjaaDoor

