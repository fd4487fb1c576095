import Derived.Test.YtfhmfanmnhclfaaDoorP42
namespace Go.Proofs.YtfhmfanmnhclfaaDoor
set_option linter.unusedVariables false
set_option linter.unusedSimpArgs false
open Go.RowKit Go.Lib Go.Deep


theorem near_len (S : St) (P : Pl) : (nearP S P).splits.length = S.phases.length := by simp [nearP]
theorem spl_rng {S : St} (hs : siteB S = true) (P : Pl) : ∀ i, i < S.phases.length → i64B (splC S P i) := fun i hi => by
  have h := near_may hs P
  have h1 := h.sp i hi
  have h2 := partM_ge hs hi
  have h3 := sumF_one (f := fun k => (nearP S P).splits.getD k 0) (n := S.phases.length) (i := i) (fun k hk => by have := h.sp k hk; have := partM_ge hs hk; omega) hi
  have h4 := h.tot
  have h5 := h.hi
  have h6 := cyc_facts hs
  rw [near_get hi] at h1 h3
  unfold i64B
  omega
theorem pclampP {X : Sa} {S : St} {w : World} (h : Sat w X S) (hT : Tabb w) {P : Pl} {a : Option Addr} {c : Nat} (hI : Ints w a P.splits.length c P.splits) (hO : i64B P.offset) (hs : siteB S = true) : Calls Tryd.prog 8 #[siteV X S, planV P a c] w fun e w' => ∃ g cp, e = .returned (.tuple #[planV (nearP S P) (some ⟨g, 0, none⟩) cp, .int .i64 0]) ∧ w.heap.size ≤ g ∧ Ints w' (some ⟨g, 0, none⟩) (nearP S P).splits.length cp (nearP S P).splits ∧ RowI w' g S.phases.length cp (splC S P) ∧ Kept w w' none := by
  refine (pclamp_yes h hT hI hO hs).mono ?_
  rintro e w' ⟨g, cp, rfl, hg, hR, hk⟩
  have hx := RowI.map hR (spl_rng hs P)
  refine ⟨g, cp, ?_, hg, ?_, hR, hk⟩
  · rw [planV, near_len]; rfl
  · rw [near_len]; exact hx
end Go.Proofs.YtfhmfanmnhclfaaDoor
