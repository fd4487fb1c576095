/-
  FixNear: a quotient is the greatest number whose product is not above, a product likewise, and a rounded number is the nearest one: the statement returns true for every a and b (it asks only numbers from -2^30 to 2^30, the second above 0). No condition: any two int64.
-/
import Derived.Test.YtbmgkimfflidiabRows
import Derived.Test.YtbmgkimfflidiabAlive
import Derived.WalkKit
import Derived.ProofKit
import Derived.OpenShut
namespace Go.Proofs.Ytbmgkimfflidiab.fixNear
open Go.ChangeShapes Go.WideShapes Go.ChangeAt Go.RowKit
set_option linter.unusedVariables false      -- a walk need not use every 'w<i>' (that an integer argument fits its kind)

theorem own : ownKnob Try.prog.godebug = none := by kernel_rfl

theorem near_div {a b : Int} (h0 : -1073741824 ≤ a) (h1 : a ≤ 1073741824) (h2 : 1 ≤ b) (h3 : b ≤ 1073741824) : fDiv a b = a * 65536 / b := by
  have e : qdn (a * 65536) b = a * 65536 / b := by unfold qdn; rw [if_neg (by omega)]
  unfold fDiv
  rw [stp_id (x := a) (by omega) (by omega), stp_id (x := b) (by omega) (by omega), e]
  have g0 : -70368744177664 ≤ a * 65536 / b := (Int.le_ediv_iff_mul_le (by omega)).2 (by omega)
  have g1 : a * 65536 / b ≤ 70368744177664 := by
    have := (Int.ediv_lt_iff_lt_mul (a := a * 65536) (b := 70368744177665) (c := b) (by omega)).2 (by omega)
    omega
  exact stp_id g0 g1
theorem near_q {a b : Int} (h0 : -1073741824 ≤ a) (h1 : a ≤ 1073741824) (h2 : 1 ≤ b) (h3 : b ≤ 1073741824) :
    fDiv a b * b ≤ a * 65536 ∧ a * 65536 < (fDiv a b + 1) * b ∧ -70368744177664 ≤ fDiv a b ∧ fDiv a b ≤ 70368744177664 ∧ -70369817919488 ≤ fDiv a b * b ∧ (fDiv a b + 1) * b ≤ 70369817919488 := by
  have u : a * 65536 / b * b ≤ a * 65536 := Int.ediv_mul_le _ (by omega)
  have v : a * 65536 < (a * 65536 / b + 1) * b := Int.lt_ediv_add_one_mul_self _ (by omega)
  rw [near_div h0 h1 h2 h3]
  have g := stp_ge (qdn (stp a * 65536) (stp b))
  have g' := stp_le (qdn (stp a * 65536) (stp b))
  have e : stp (qdn (stp a * 65536) (stp b)) = a * 65536 / b := near_div h0 h1 h2 h3
  rw [e] at g g'
  refine ⟨u, v, g, g', ?_, ?_⟩
  · rw [Int.add_mul, Int.one_mul] at v; omega
  · rw [Int.add_mul, Int.one_mul]; omega
theorem near_m {a b : Int} (h0 : -1073741824 ≤ a) (h1 : a ≤ 1073741824) (h2 : 1 ≤ b) (h3 : b ≤ 1073741824) :
    fMul a b = a * b / 65536 ∧ -1152921504606846976 ≤ a * b ∧ a * b ≤ 1152921504606846976 := by
  have h := mul_abs_le (A := 1073741824) (B := 1073741824) h0 h1 (show -1073741824 ≤ b by omega) h3
  refine ⟨?_, h⟩
  unfold fMul
  rw [stp_id (x := a) (by omega) (by omega), stp_id (x := b) (by omega) (by omega)]
  exact stp_id (by omega) (by omega)
theorem near_r {a : Int} (h0 : -1073741824 ≤ a) (h1 : a ≤ 1073741824) : fRound a = (a + 32768) / 65536 := by
  unfold fRound; rw [stp_id (by omega) (by omega)]
theorem near_o {a : Int} (h0 : -1073741824 ≤ a) (h1 : a ≤ 1073741824) : fRound (fOf a) = a := by
  rw [of_id h0 h1]; unfold fRound; rw [stp_id (by omega) (by omega)]; omega
theorem bounds_i64 {n : Int} (h : (Lit.int .i64 n).wf = true) : -9223372036854775808 ≤ n ∧ n ≤ 9223372036854775807 := by
  simp [Lit.wf, IntKind.min, IntKind.max, IntKind.signed, IntKind.bits] at h
  omega

/-! ### The walk: the Go text returns true. -/
theorem walk (a0 : Int) (a1 : Int) (w0 : (Lit.int .i64 a0).wf = true) (w1 : (Lit.int .i64 a1).wf = true) (w : World) :
    Calls Try.prog 3 #[.int .i64 a0, .int .i64 a1] w fun e w' => e = .returned (.bool true) ∧ Grown w w' := by
  obtain ⟨n0, n1⟩ := bounds_i64 w0
  clear w0 w1
  by_cases h0 : a0 < -1073741824
  · go_enter Try.func3, Try.ntmps3
    go_wp2_with (go_at_call 5; refine (alive_any _).mono ?_; rintro e w' ⟨rfl, rfl⟩)
    all_goals
      go_ret
      exact ⟨rfl, Grown.refl _⟩
  by_cases h1 : 1073741824 < a0
  · go_enter Try.func3, Try.ntmps3
    go_wp2_with (go_at_call 5; refine (alive_any _).mono ?_; rintro e w' ⟨rfl, rfl⟩)
    all_goals
      go_ret
      exact ⟨rfl, Grown.refl _⟩
  by_cases h2 : a1 < 1
  · go_enter Try.func3, Try.ntmps3
    go_wp2_with (go_at_call 5; refine (alive_any _).mono ?_; rintro e w' ⟨rfl, rfl⟩)
    all_goals
      go_ret
      exact ⟨rfl, Grown.refl _⟩
  by_cases h3 : 1073741824 < a1
  · go_enter Try.func3, Try.ntmps3
    go_wp2_with (go_at_call 5; refine (alive_any _).mono ?_; rintro e w' ⟨rfl, rfl⟩)
    all_goals
      go_ret
      exact ⟨rfl, Grown.refl _⟩
  have g0 : -1073741824 ≤ a0 := by omega
  have g1 : a0 ≤ 1073741824 := by omega
  have g2 : 1 ≤ a1 := by omega
  have g3 : a1 ≤ 1073741824 := by omega
  have hz : a1 ≠ 0 := by omega
  clear h0 h1 h2 h3
  obtain ⟨q1, q2, q3, q4, q5, q6⟩ := near_q g0 g1 g2 g3
  obtain ⟨m1, m2, m3⟩ := near_m g0 g1 g2 g3
  have r1 := near_r g0 g1
  have o1 := near_o g0 g1
  have mm : fMul a0 a1 * 65536 ≤ a0 * a1 := by omega
  have mn : a0 * a1 < (fMul a0 a1 + 1) * 65536 := by omega
  have mo : -17592186044416 ≤ fMul a0 a1 := by omega
  have mp : fMul a0 a1 ≤ 17592186044416 := by omega
  have rm : fRound a0 * 65536 - a0 ≤ 32768 := by omega
  have rn : a0 - fRound a0 * 65536 < 32769 := by omega
  have ro : -16385 ≤ fRound a0 := by omega
  have rp : fRound a0 ≤ 16385 := by omega
  clear m1 r1
  · go_enter Try.func3, Try.ntmps3
    go_wp2_with (first
      | (go_at_call 5; refine (alive_any _).mono ?_; rintro e w' ⟨rfl, rfl⟩)
      | (go_at_call 6; refine (div_any _ _ _ hz).mono ?_; rintro e w' ⟨rfl, rfl⟩)
      | (go_at_call 7; refine (mul_any _ _ _).mono ?_; rintro e w' ⟨rfl, rfl⟩)
      | (go_at_call 9; refine (of_any _ _ n0 n1).mono ?_; rintro e w' ⟨rfl, rfl⟩)
      | (go_at_call 8; refine (round_any _ _).mono ?_; rintro e w' ⟨rfl, rfl⟩))
    go_ret
    exact ⟨rfl, Grown.refl _⟩

/-! ### The row's step. -/
set_option maxRecDepth 100000 in
theorem lifted (os : Os) (started : os.Started) (H : Type) (enc : TypeId × Value → H) :
    ReturnsInHanded {} Try.checked os 3 .any (Rows.fixNearSpec.pre6 enc Try.prog Try.f3 Rows.fixNearRow.domain false) (Rows.fixNearSpec.post enc Try.prog Try.f3 false true false false) := by
  refine returnsInHanded_of_change (C := Try.checked) own started (by kernel_rfl) Try.func3
    (ChangeSpec.witness6 (enc := enc) (C := Try.checked) false ⟨#[], #[.int .i64 0, .int .i64 0], []⟩ 8 (by kernel_rfl) (by kernel_rfl) (by kernel_rfl) (by kernel_rfl)) ?_
  intro W base args ds gs before hval0 hW hcnd _
  have hval : ∀ (j : Nat) t v, Try.f3.params[j]? = some t → args[j]? = some v → Value.okWide Try.prog W .any base t v := hval0
  have hW' := hW
  obtain ⟨p, q, hA0, hV, rfl, hfz, hnd⟩ := hW
  have hA : DataW.TrodAll enc Try.prog W 0 (fun _ => true) true Try.f3.params.toList args.toList ds p := hA0
  rw [Try.params3] at hA hval
  obtain ⟨v0, vs0, d0, ds0, p0, q0, hargs, rfl, rfl, h0, r0⟩ := trodAll_cons hA
  obtain ⟨v1, vs1, d1, ds1, p1, q1, rfl, rfl, rfl, h1, r1⟩ := trodAll_cons r0
  obtain ⟨rfl, rfl, rfl⟩ := trodAll_nil r1
  obtain rfl : args = #[v0, v1] := by cases args; simp_all
  obtain ⟨rfl, rfl⟩ := trodVars_none hV
  obtain ⟨a0, rfl, rfl, rfl, w0⟩ := open_int Try.underlying2 (hval 0 2 v0 rfl rfl) h0
  obtain ⟨a1, rfl, rfl, rfl, w1⟩ := open_int Try.underlying2 (hval 1 2 v1 rfl rfl) h1
  clear hA0 hval0
  simp only [List.append_nil] at hW'
  refine (walk a0 a1 w0 w1 W).mono fun e W' ⟨he, hg⟩ => ?_
  subst he
  exact ⟨_, rfl, post_of_same (pa := []) (pv := []) hW' (fun _ _ _ => (trodAll_cons_mk (shut_bool Try.underlying4 _) trodAll_mk0)) (fun sp _ => (trodAll_cons_mk (shut_int Try.underlying2 w0) (trodAll_cons_mk (shut_int Try.underlying2 w1) trodAll_mk0))) (fun _ _ => rfl) rfl
    (hg.frame _) hg.2.1 (ok_one (by kernel_rfl) rfl (okWide_bool_mk Try.underlying4 _))⟩

theorem over : Rows.fixNearRow.holds Try.pinned (OpenSpec.ofChange Rows.fixNearSpec) :=
  OpenClaim.holds_of_wide 3 Try.f3 rfl rfl rfl rfl rfl rfl rfl ⟨rfl, rfl, rfl, rfl, rfl⟩ rfl rfl rfl rfl rfl (by kernel_rfl) Try.func3 (by kernel_rfl)
    (of_decide_eq_true (by kernel_rfl)) (by unfold Func.isWrapper; first | (rw [if_pos (by decide +kernel)]; kernel_rfl) | (rw [if_neg (by decide +kernel)]; exact ⟨rfl, rfl⟩))
    (fun os started H enc _ => lifted os started H enc)

/-- The given statement. -/
theorem proved : Rows.FixNearSaid :=
  over
end Go.Proofs.Ytbmgkimfflidiab.fixNear
namespace Go.Proofs.Ytbmgkimfflidiab
theorem fixNear_holds : Rows.FixNearSaid := fixNear.proved
#print axioms fixNear_holds
end Go.Proofs.Ytbmgkimfflidiab
