/-
  LampRuns, the stage's theorem: whatever is asked, tick by tick, each green that ends has lasted Min ticks at least and each yellow that ends just Yellow ticks (1, where that is lower): the statement returns true for every group and every asks; no condition.
-/
import Derived.Test.YtpokkeobnflijaaRows
import Derived.Test.YtpokkeobnflijaaLampW
import Derived.Test.YtpokkeobnflijaaOpenL
import Derived.WalkKit
import Derived.ProofKit
import Derived.OpenShut
import Derived.ShutString
import Derived.ChangeOld
import Derived.Below
namespace Go.Proofs.Ytpokkeobnflijaa.lampRuns
open Go.ChangeShapes Go.WideShapes Go.ChangeAt Go.RowKit
open Go.ChangeMaps (open_string shut_string)
set_option linter.unusedVariables false
set_option linter.unusedSimpArgs false

theorem own : ownKnob Try.prog.godebug = none := by kernel_rfl
theorem laidOut : laidOutB Try.prog = true := by kernel_rfl

/-! ### The walk: the Go text returns true. -/
theorem walk (k0 m0 y0 : Int) (a1 : Option Addr) (len1 cap1 : Nat) (L1 : List Nat) (w : World) (w0 : (Lit.int .u8 k0).wf = true) (u0 : (Lit.int .i64 m0).wf = true) (x0 : (Lit.int .i64 y0).wf = true) (w1 : By w a1 len1 L1) :
    Calls Try.prog 6 #[grpV k0 m0 y0, .slice a1 len1 cap1] w fun e w' => e = .returned (.bool true) ∧ Below w.heap.size w w' := by
  by_cases h : 4000 < len1
  · exact (runs_long k0 m0 y0 w h w1.max).mono fun e w' ⟨he, hk⟩ => ⟨he, hk.below⟩
  · by_cases h0 : len1 = 0
    · subst h0; exact (runs_zero k0 m0 y0 w).mono fun e w' ⟨he, hk⟩ => ⟨he, hk.below⟩
    · obtain ⟨b, off, rfl, _, _⟩ := w1.at_ (by omega)
      exact (runs_main k0 m0 y0 w (by omega) w1).mono fun e w' ⟨he, hk⟩ => ⟨he, hk.below⟩

/-! ### The row's step. -/
set_option maxRecDepth 100000 in
theorem lifted (os : Os) (started : os.Started) (H : Type) (enc : TypeId × Value → H) :
    ReturnsInHanded {} Try.checked os 6 .any (Rows.lampRunsSpec.pre6 enc Try.prog Try.f6 Rows.lampRunsRow.domain false) (Rows.lampRunsSpec.post enc Try.prog Try.f6 false true false false) := by
  refine returnsInHanded_of_change (C := Try.checked) own started (by kernel_rfl) Try.func6
    (ChangeSpec.witness6 (enc := enc) (C := Try.checked) false ⟨#[], #[.agg #[.int .u8 0, .int .i64 0, .int .i64 0], .slice none 0 0], []⟩ 8 (by kernel_rfl) (by kernel_rfl) (by kernel_rfl) (by kernel_rfl)) ?_
  intro W base args ds gs before hval0 hW hcnd _
  have hval : ∀ (j : Nat) t v, Try.f6.params[j]? = some t → args[j]? = some v → Value.okWide Try.prog W .any base t v := hval0
  have hW' := hW
  obtain ⟨p, q, hA0, hV, rfl, hfz, hnd⟩ := hW
  have hA : DataW.TrodAll enc Try.prog W 0 (fun _ => true) true Try.f6.params.toList args.toList ds p := hA0
  rw [Try.params6] at hA hval
  obtain ⟨v0, vs0, d0, ds0, p0, q0, hargs, rfl, rfl, h0, r0⟩ := trodAll_cons hA
  obtain ⟨v1, vs1, d1, ds1, p1, q1, rfl, rfl, rfl, h1, r1⟩ := trodAll_cons r0
  obtain ⟨rfl, rfl, rfl⟩ := trodAll_nil r1
  obtain rfl : args = #[v0, v1] := by cases args; simp_all
  obtain ⟨rfl, rfl⟩ := trodVars_none hV
  have k0 := h0
  have lt0 : ∀ x ∈ p0, x.block < W.heap.size := by obtain ⟨m, hm⟩ := k0; exact DataW.trod_lt m _ _ _ hm
  obtain ⟨b0, m0, y0, rfl, w0, u0, x0⟩ := open_grp (hval 0 23 v0 rfl rfl) h0
  have k1 := h1
  have lt1 : ∀ x ∈ p1, x.block < W.heap.size := by obtain ⟨m, hm⟩ := k1; exact DataW.trod_lt m _ _ _ hm
  obtain ⟨a1, len1, cap1, rfl⟩ := okWide_slice Try.underlying32 (hval 1 32 v1 rfl rfl)
  obtain ⟨L1, w1⟩ := open_bytes h1
  clear hA0 hval0
  refine (walk b0 m0 y0 a1 len1 cap1 L1 W w0 u0 x0 w1).mono fun e W' ⟨he, bel⟩ => ?_
  subst he
  exact ⟨_, rfl, _, _, _, [], _, [], hW', trodAll_mk1 (shut_bool Try.underlying4 _), (trodAll_cons_mk (Below.trod laidOut (by kernel_rfl) (of_decide_eq_true (by kernel_rfl)) k0 bel lt0) (trodAll_cons_mk (Below.trod laidOut (by kernel_rfl) (of_decide_eq_true (by kernel_rfl)) k1 bel lt1) trodAll_mk0)), rfl, bel.frame _, fun h => by cases h⟩

theorem over : Rows.lampRunsRow.holds Try.pinned (OpenSpec.ofChange Rows.lampRunsSpec) :=
  OpenClaim.holds_of_wide 6 Try.f6 rfl rfl rfl rfl rfl rfl rfl ⟨rfl, rfl, rfl, rfl, rfl⟩ rfl rfl rfl rfl rfl (by kernel_rfl) Try.func6 (by kernel_rfl)
    (of_decide_eq_true (by kernel_rfl)) (by unfold Func.isWrapper; first | (rw [if_pos (by decide +kernel)]; kernel_rfl) | (rw [if_neg (by decide +kernel)]; exact ⟨rfl, rfl⟩))
    (fun os started H enc _ => lifted os started H enc)

end Go.Proofs.Ytpokkeobnflijaa.lampRuns
namespace Go.Proofs.Ytpokkeobnflijaa
/-- The given statement. -/
theorem lampRuns_holds : Rows.LampRunsSaid := lampRuns.over
#print axioms lampRuns_holds
end Go.Proofs.Ytpokkeobnflijaa
