/-
  FixNames: the limits and the error of package fix have their numbers, and the chapter's examples are so: the statement returns true. No condition; it takes no input.
-/
import Derived.Test.YtbmgkimfflidiaaRows
import Derived.Test.YtbmgkimfflidiaaAlive
import Derived.WalkKit
import Derived.ProofKit
import Derived.OpenShut
namespace Go.Proofs.Ytbmgkimfflidiaa.fixNames
open Go.ChangeShapes Go.WideShapes Go.ChangeAt Go.RowKit
set_option linter.unusedVariables false      -- a walk need not use every 'w<i>' (that an integer argument fits its kind)

theorem own : ownKnob Try.prog.godebug = none := by kernel_rfl



/-! ### The walk: the Go text returns true. -/
theorem walk  (w : World) :
    Calls Try.prog 3 #[] w fun e w' => e = .returned (.bool true) ∧ Grown w w' := by
  have t1 : fMul 1 (-1) = -1 := by decide +kernel
  have t2 : fAdd 70368744177664 5 = 70368744177664 := by decide +kernel
  have t3 : fMul 70368744177664 (-70368744177664) = -70368744177664 := by decide +kernel
  have t4 : fDq 70368744177664 1 = 70368744177664 := by decide +kernel
  have t14 : fDe 1 = 0 := by decide +kernel
  have t15 : fDe 0 = 10 := by decide +kernel
  have t5 : fOf 3 = 196608 := by decide +kernel
  have t6 : fOf 1099511627776 = 70368744177664 := by decide +kernel
  have t7 : fRound 98303 = 1 := by decide +kernel
  have t8 : fRound 98304 = 2 := by decide +kernel
  have t9 : fRound (-32768) = 0 := by decide +kernel
  have t10 : fClamp 5 1 3 = 3 := by decide +kernel
  have t11 : fClamp 5 7 3 = 7 := by decide +kernel
  have t12 : fMix 0 100 32768 = 50 := by decide +kernel
  have t13 : fMix 0 (-1) 1 = -1 := by decide +kernel
  go_enter Try.func3, Try.ntmps3
  go_wp2_with (first
    | (go_at_call 14; refine (alive_any _).mono ?_; rintro e w' ⟨rfl, rfl⟩)
    | (go_at_call 9; refine (div_all _ _ _).mono ?_; rintro e w' ⟨rfl, rfl⟩)
    | (go_at_call 11; refine (add_any _ _ _).mono ?_; rintro e w' ⟨rfl, rfl⟩)
    | (go_at_call 10; refine (mul_any _ _ _).mono ?_; rintro e w' ⟨rfl, rfl⟩)
    | (go_at_call 12; refine (of_any _ _ (by decide) (by decide)).mono ?_; rintro e w' ⟨rfl, rfl⟩)
    | (go_at_call 13; refine (round_any _ _).mono ?_; rintro e w' ⟨rfl, rfl⟩)
    | (go_at_call 15; refine (clamp_any _ _ _ _).mono ?_; rintro e w' ⟨rfl, rfl⟩)
    | (go_at_call 16; refine (mix_any _ _ _ _).mono ?_; rintro e w' ⟨rfl, rfl⟩))
  go_ret
  exact ⟨rfl, Grown.refl _⟩

/-! ### The row's step. -/
set_option maxRecDepth 100000 in
theorem lifted (os : Os) (started : os.Started) (H : Type) (enc : TypeId × Value → H) :
    ReturnsInHanded {} Try.checked os 3 .any (Rows.fixNamesSpec.pre6 enc Try.prog Try.f3 Rows.fixNamesRow.domain false) (Rows.fixNamesSpec.post enc Try.prog Try.f3 false true false false) := by
  refine returnsInHanded_of_change (C := Try.checked) own started (by kernel_rfl) Try.func3
    (ChangeSpec.witness6 (enc := enc) (C := Try.checked) false ⟨#[], #[], []⟩ 8 (by kernel_rfl) (by kernel_rfl) (by kernel_rfl) (by kernel_rfl)) ?_
  intro W base args ds gs before hval0 hW hcnd _
  have hval : ∀ (j : Nat) t v, Try.f3.params[j]? = some t → args[j]? = some v → Value.okWide Try.prog W .any base t v := hval0
  have hW' := hW
  obtain ⟨p, q, hA0, hV, rfl, hfz, hnd⟩ := hW
  have hA : DataW.TrodAll enc Try.prog W 0 (fun _ => true) true Try.f3.params.toList args.toList ds p := hA0
  rw [Try.params3] at hA hval
  obtain ⟨rfl, rfl, rfl⟩ := trodAll_none hA
  obtain ⟨rfl, rfl⟩ := trodVars_none hV
  clear hA0 hval0
  simp only [List.append_nil] at hW'
  refine (walk  W).mono fun e W' ⟨he, hg⟩ => ?_
  subst he
  exact ⟨_, rfl, post_of_same (pa := []) (pv := []) hW' (fun _ _ _ => (trodAll_cons_mk (shut_bool Try.underlying4 _) trodAll_mk0)) (fun sp _ => rfl) (fun _ _ => rfl) rfl
    (hg.frame _) hg.2.1 (ok_one (by kernel_rfl) rfl (okWide_bool_mk Try.underlying4 _))⟩

theorem over : Rows.fixNamesRow.holds Try.pinned (OpenSpec.ofChange Rows.fixNamesSpec) :=
  OpenClaim.holds_of_wide 3 Try.f3 rfl rfl rfl rfl rfl rfl rfl ⟨rfl, rfl, rfl, rfl, rfl⟩ rfl rfl rfl rfl rfl (by kernel_rfl) Try.func3 (by kernel_rfl)
    (of_decide_eq_true (by kernel_rfl)) (by unfold Func.isWrapper; first | (rw [if_pos (by decide +kernel)]; kernel_rfl) | (rw [if_neg (by decide +kernel)]; exact ⟨rfl, rfl⟩))
    (fun os started H enc _ => lifted os started H enc)

/-- The given statement. -/
theorem proved : Rows.FixNamesSaid :=
  over
end Go.Proofs.Ytbmgkimfflidiaa.fixNames
namespace Go.Proofs.Ytbmgkimfflidiaa
theorem fixNames_holds : Rows.FixNamesSaid := fixNames.proved
#print axioms fixNames_holds
end Go.Proofs.Ytbmgkimfflidiaa
