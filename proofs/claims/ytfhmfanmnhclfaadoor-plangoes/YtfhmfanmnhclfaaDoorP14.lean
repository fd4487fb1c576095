import Derived.Test.YtfhmfanmnhclfaaDoorP13
namespace Go.Proofs.YtfhmfanmnhclfaaDoor
set_option linter.unusedVariables false
set_option linter.unusedSimpArgs false
open Go.RowKit Go.Lib Go.Deep

/-! ### The second pass -/
/-! ### What a standing that goes on tells -/
/-! ### Without a fault -/
/-! ### Tick by tick -/

/-- Is a group one of a phase? What a phase asks. -/
def inP (S : St) (p i : Nat) : Bool := (S.ph p).groups.testBit i
/-- What a site that may be tells. -/
structure TurF (S : St) : Prop where
  g0 : 1 ≤ S.groups.length
  min : ∀ i, i < S.groups.length → 1 ≤ (S.gr i).min ∧ (S.gr i).min ≤ 1048576
  yel : ∀ i, i < S.groups.length → 1 ≤ (S.gr i).yellow ∧ (S.gr i).yellow ≤ 1048576
  bt : ∀ a b, a < S.groups.length → b < S.groups.length → S.bt a b ≤ worstM S
  w0 : 0 ≤ worstM S
  w1 : worstM S ≤ 1048576
theorem tur_facts {S : St} (hs : siteB S = true) : TurF S := by
  have hgr : ∀ i, i < S.groups.length → groupB S i = true := fun i hi => all_of hs 2 (by omega) i hi
  refine ⟨(span_may hs).base.sh.ok.ng.1, fun i hi => ?_, fun i hi => ?_, fun a b ha hb => ?_, (worst_rng hs).1, (worst_rng hs).2⟩
  · have := hgr i hi
    unfold groupB timeB at this
    simp only [Bool.and_eq_true, inB_iff] at this
    omega
  · have := hgr i hi
    unfold groupB timeB at this
    simp only [Bool.and_eq_true, inB_iff] at this
    omega
  · exact (worst_is (span_may hs).base.sh).2.2 _ ⟨a, b, .inl ha, hb, trivial, rfl⟩

/-! ### Ticks out of flash, behind all red -/
end Go.Proofs.YtfhmfanmnhclfaaDoor
