import Derived.Test.YtfhmfanmnhclfaaDoorP15
namespace Go.Proofs.YtfhmfanmnhclfaaDoor
set_option linter.unusedVariables false
set_option linter.unusedSimpArgs false
open Go.RowKit Go.Lib Go.Deep

/-! ### Phases that go round -/
def nxP (n i : Nat) : Nat := if i + 1 = n then 0 else i + 1
def pvP (n j : Nat) : Nat := if j = 0 then n - 1 else j - 1
theorem pvP_lt {n i : Nat} (h : i < n) : pvP n i < n := by unfold pvP; split <;> omega
theorem pv_nx {n i : Nat} (h : i < n) : pvP n (nxP n i) = i := by unfold pvP nxP; split <;> split <;> omega
/-! ### How groups stand, behind n ticks in which a phase asks -/

/-- Which phase is wanted. -/
def wanP (n : Nat) (sp gp ph into : Nat → Nat) (t : Nat) : Nat := if into t + gp (ph t) < sp (ph t) then ph t else nxP n (ph t)
/-- Parts one behind the other, of a site that may be and a plan that may be one of it; betweens and yellows are short. -/
structure PS (S : St) (sp gp ph into : Nat → Nat) : Prop where
  may : siteB S = true
  ok : ∀ t, ph t < S.phases.length ∧ into t < sp (ph t)
  st : ∀ t, (into t + 1 < sp (ph t) ∧ ph (t + 1) = ph t ∧ into (t + 1) = into t + 1) ∨ (into t + 1 = sp (ph t) ∧ ph (t + 1) = nxP S.phases.length (ph t) ∧ into (t + 1) = 0)
  le : ∀ i, i < S.phases.length → (S.ph i).min + (gp i : Int) ≤ (sp i : Int)
  gap : ∀ i, i < S.phases.length → (gp i : Int) = liesM S i (nxP S.phases.length i)
  yel : ∀ i, i < S.phases.length → ∀ a, a < S.groups.length → (S.gr a).yellow < (S.ph i).min
  bt : ∀ i, i < S.phases.length → ∀ a, a < S.groups.length → ∀ b, b < S.groups.length → S.bt a b < (S.ph i).min
theorem ph_min {S : St} (hs : siteB S = true) {k : Nat} (hk : k < S.phases.length) : 1 ≤ (S.ph k).min ∧ ∀ c, c < S.groups.length → inP S k c = true → (S.gr c).min ≤ (S.ph k).min := by
  have h : phaseB S k = true := all_of hs 5 (by omega) k hk
  obtain ⟨i, hi, hp⟩ := phase_one hs hk
  have hm := (tur_facts hs).min i hi
  unfold phaseB at h
  simp only [Bool.and_eq_true, decide_eq_true_eq, inB_iff] at h
  have hl : ∀ c, c < S.groups.length → inP S k c = true → (S.gr c).min ≤ (S.ph k).min := fun c hc hpc => by
    have hl := allB_iff.1 (show leastB S (S.ph k).groups (S.ph k).min = true from h.1.1.1.2) c hc
    have hp' : (S.ph k).groups.testBit c = true := hpc
    rw [hp'] at hl
    simpa using hl
  have := hl i hi hp
  exact ⟨by omega, hl⟩
section
variable {S : St} {sp gp ph into : Nat → Nat}
/-- Back within a part. -/
theorem PS.back (h : PS S sp gp ph into) : ∀ (d t : Nat), d ≤ into t → d ≤ t → ph (t - d) = ph t ∧ into (t - d) = into t - d
  | 0, t, _, _ => ⟨rfl, rfl⟩
  | d + 1, t, h1, h2 => by
    obtain ⟨u, rfl⟩ : ∃ u, t = u + 1 := ⟨t - 1, by omega⟩
    rcases h.st u with ⟨_, e2, e3⟩ | ⟨_, _, e3⟩
    · obtain ⟨a, b⟩ := h.back d u (by omega) (by omega)
      rw [show u + 1 - (d + 1) = u - d by omega]
      exact ⟨a.trans e2.symm, by omega⟩
    · omega
/-- The tick ahead of a beginning. -/
theorem PS.prev (h : PS S sp gp ph into) {t : Nat} (h0 : into (t + 1) = 0) : into t + 1 = sp (ph t) ∧ ph t = pvP S.phases.length (ph (t + 1)) := by
  rcases h.st t with ⟨_, _, e3⟩ | ⟨e1, e2, _⟩
  · omega
  · exact ⟨e1, by rw [e2, pv_nx (h.ok t).1]⟩
theorem PS.sp1 (h : PS S sp gp ph into) {i : Nat} (hi : i < S.phases.length) : 1 ≤ sp i ∧ gp i + 1 ≤ sp i := by
  have := h.le i hi
  have := (ph_min h.may hi).1
  omega
/-- The part ahead of a beginning: where it lies. -/
theorem PS.part (h : PS S sp gp ph into) {t : Nat} (h0 : into t = 0) (hj : sp (pvP S.phases.length (ph t)) ≤ t) : ∀ d, 1 ≤ d → d ≤ sp (pvP S.phases.length (ph t)) → ph (t - d) = pvP S.phases.length (ph t) ∧ into (t - d) + d = sp (pvP S.phases.length (ph t)) := by
  intro d d1 d2
  have hs := (h.sp1 (pvP_lt (h.ok t).1)).1
  obtain ⟨u, rfl⟩ : ∃ u, t = u + 1 := ⟨t - 1, by omega⟩
  obtain ⟨a, b⟩ := h.prev h0
  rw [← b] at hj d2 ⊢
  obtain ⟨x, y⟩ := h.back (d - 1) u (by omega) (by omega)
  rw [show u + 1 - d = u - (d - 1) by omega]
  exact ⟨x, by omega⟩
end
section
variable {S : St} {sp gp ph into : Nat → Nat} {G : Nat → Sf}
end
end Go.Proofs.YtfhmfanmnhclfaaDoor
