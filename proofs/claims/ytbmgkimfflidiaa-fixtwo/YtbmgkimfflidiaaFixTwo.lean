/-
  FixTwo: Add and Mul of package fix do not mind which comes first, and one changes nothing: the statement returns true for every a and b. No condition: any two int64.
-/
import Derived.Test.YtbmgkimfflidiaaRows
import Derived.Test.YtbmgkimfflidiaaAlive
import Derived.WalkKit
import Derived.ProofKit
import Derived.OpenShut
namespace Go.Proofs.Ytbmgkimfflidiaa.fixTwo
open Go.ChangeShapes Go.WideShapes Go.ChangeAt Go.RowKit
set_option linter.unusedVariables false      -- a walk need not use every 'w<i>' (that an integer argument fits its kind)

theorem own : ownKnob Try.prog.godebug = none := by kernel_rfl

theorem add_comm (a b : Int) : fAdd b a = fAdd a b := by unfold fAdd; rw [Int.add_comm]
theorem mul_comm (a b : Int) : fMul b a = fMul a b := by unfold fMul; rw [Int.mul_comm]
theorem add_zero (a : Int) : fAdd a 0 = stp a := by unfold fAdd; rw [stp_zero, Int.add_zero, stp_stp]
theorem mul_one (a : Int) : fMul a 65536 = stp a := by
  unfold fMul; rw [stp_id (x := 65536) (by decide) (by decide), Int.mul_ediv_cancel _ (by decide), stp_stp]
theorem div_one (a : Int) : fDq a 65536 = stp a := by
  unfold fDq fDiv qdn; rw [if_neg (by decide), stp_id (x := 65536) (by decide) (by decide), if_neg (by decide), Int.mul_ediv_cancel _ (by decide), stp_stp]
theorem div_ok : fDe 65536 = 0 := by decide
theorem sub_self (a : Int) : fSub a a = 0 := by unfold fSub; rw [Int.sub_self, stp_zero]
theorem mul_zero (a : Int) : fMul a 0 = 0 := by unfold fMul; rw [stp_zero, Int.mul_zero]; decide

/-! ### The walk: the Go text returns true. -/
theorem walk (a0 : Int) (a1 : Int) (w0 : (Lit.int .i64 a0).wf = true) (w1 : (Lit.int .i64 a1).wf = true) (w : World) :
    Calls Try.prog 7 #[.int .i64 a0, .int .i64 a1] w fun e w' => e = .returned (.bool true) ∧ Grown w w' := by
  clear w0 w1
  have t0 := add_zero a0
  have t1 := mul_one a0; have t2 := div_one a0; have t3 := div_ok; have t4 := sub_self a0; have t5 := mul_zero a0
  have t6 := add_comm a0 a1
  have t7 := mul_comm a0 a1
  have t8 : (fAdd a0 a1 == fAdd a1 a0) = true := by simp [t6]
  have t9 : (fMul a0 a1 == fMul a1 a0) = true := by simp [t7]
  clear t6 t7
  go_enter Try.func7, Try.ntmps7
  go_wp2_with (first
    | (go_at_call 14; refine (alive_any _).mono ?_; rintro e w' ⟨rfl, rfl⟩)
    | (go_at_call 9; refine (div_all _ _ _).mono ?_; rintro e w' ⟨rfl, rfl⟩)
    | (go_at_call 11; refine (add_any _ _ _).mono ?_; rintro e w' ⟨rfl, rfl⟩)
    | (go_at_call 19; refine (sub_any _ _ _).mono ?_; rintro e w' ⟨rfl, rfl⟩)
    | (go_at_call 10; refine (mul_any _ _ _).mono ?_; rintro e w' ⟨rfl, rfl⟩))
  go_ret
  exact ⟨rfl, Grown.refl _⟩

/-! ### The row's step. -/
set_option maxRecDepth 100000 in
theorem lifted (os : Os) (started : os.Started) (H : Type) (enc : TypeId × Value → H) :
    ReturnsInHanded {} Try.checked os 7 .any (Rows.fixTwoSpec.pre6 enc Try.prog Try.f7 Rows.fixTwoRow.domain false) (Rows.fixTwoSpec.post enc Try.prog Try.f7 false true false false) := by
  refine returnsInHanded_of_change (C := Try.checked) own started (by kernel_rfl) Try.func7
    (ChangeSpec.witness6 (enc := enc) (C := Try.checked) false ⟨#[], #[.int .i64 0, .int .i64 0], []⟩ 8 (by kernel_rfl) (by kernel_rfl) (by kernel_rfl) (by kernel_rfl)) ?_
  intro W base args ds gs before hval0 hW hcnd _
  have hval : ∀ (j : Nat) t v, Try.f7.params[j]? = some t → args[j]? = some v → Value.okWide Try.prog W .any base t v := hval0
  have hW' := hW
  obtain ⟨p, q, hA0, hV, rfl, hfz, hnd⟩ := hW
  have hA : DataW.TrodAll enc Try.prog W 0 (fun _ => true) true Try.f7.params.toList args.toList ds p := hA0
  rw [Try.params7] at hA hval
  obtain ⟨v0, vs0, d0, ds0, p0, q0, hargs, rfl, rfl, h0, r0⟩ := trodAll_cons hA
  obtain ⟨v1, vs1, d1, ds1, p1, q1, rfl, rfl, rfl, h1, r1⟩ := trodAll_cons r0
  obtain ⟨rfl, rfl, rfl⟩ := trodAll_nil r1
  obtain rfl : args = #[v0, v1] := by cases args; simp_all
  obtain ⟨rfl, rfl⟩ := trodVars_none hV
  obtain ⟨a0, rfl, rfl, rfl, w0⟩ := open_int Try.underlying2 (hval 0 2 v0 rfl rfl) h0
  obtain ⟨a1, rfl, rfl, rfl, w1⟩ := open_int Try.underlying2 (hval 1 2 v1 rfl rfl) h1
  clear hA0 hval0
  simp only [List.append_nil] at hW'
  refine (walk a0 a1 w0 w1 W).mono fun e W' ⟨he, hg⟩ => ?_
  subst he
  exact ⟨_, rfl, post_of_same (pa := []) (pv := []) hW' (fun _ _ _ => (trodAll_cons_mk (shut_bool Try.underlying4 _) trodAll_mk0)) (fun sp _ => (trodAll_cons_mk (shut_int Try.underlying2 w0) (trodAll_cons_mk (shut_int Try.underlying2 w1) trodAll_mk0))) (fun _ _ => rfl) rfl
    (hg.frame _) hg.2.1 (ok_one (by kernel_rfl) rfl (okWide_bool_mk Try.underlying4 _))⟩

theorem over : Rows.fixTwoRow.holds Try.pinned (OpenSpec.ofChange Rows.fixTwoSpec) :=
  OpenClaim.holds_of_wide 7 Try.f7 rfl rfl rfl rfl rfl rfl rfl ⟨rfl, rfl, rfl, rfl, rfl⟩ rfl rfl rfl rfl rfl (by kernel_rfl) Try.func7 (by kernel_rfl)
    (of_decide_eq_true (by kernel_rfl)) (by unfold Func.isWrapper; first | (rw [if_pos (by decide +kernel)]; kernel_rfl) | (rw [if_neg (by decide +kernel)]; exact ⟨rfl, rfl⟩))
    (fun os started H enc _ => lifted os started H enc)

/-- The given statement. -/
theorem proved : Rows.FixTwoSaid :=
  over
end Go.Proofs.Ytbmgkimfflidiaa.fixTwo
namespace Go.Proofs.Ytbmgkimfflidiaa
theorem fixTwo_holds : Rows.FixTwoSaid := fixTwo.proved
#print axioms fixTwo_holds
end Go.Proofs.Ytbmgkimfflidiaa
