/-
  FixBounds: nothing that Add, Sub, Mul, Div, Of and Mix of package fix answer is beyond the bounds, and nothing wraps: the statement returns true for every a, b, c and n. No condition: any int64 and int.
-/
import Derived.Test.YtbmgkimfflidiaaRows
import Derived.Test.YtbmgkimfflidiaaAlive
import Derived.WalkKit
import Derived.ProofKit
import Derived.OpenShut
namespace Go.Proofs.Ytbmgkimfflidiaa.fixBounds
open Go.ChangeShapes Go.WideShapes Go.ChangeAt Go.RowKit
set_option linter.unusedVariables false      -- a walk need not use every 'w<i>' (that an integer argument fits its kind)

theorem own : ownKnob Try.prog.godebug = none := by kernel_rfl

theorem within_yes (x : Int) (w : World) (h0 : -70368744177664 ≤ x) (h1 : x ≤ 70368744177664) : Calls Try.prog 26 #[.int .i64 x] w fun e w' => e = .returned (.bool true) ∧ w' = w := by
  go_enter Try.func26, Try.ntmps26
  go_wp2
  go_ret
  exact ⟨rfl, rfl⟩
theorem within_no (x : Int) (w : World) (h : x < -70368744177664 ∨ 70368744177664 < x) : Calls Try.prog 26 #[.int .i64 x] w fun e w' => e = .returned (.bool false) ∧ w' = w := by
  rcases h with h | h
  · have h' : ¬ -70368744177664 ≤ x := by omega
    go_enter Try.func26, Try.ntmps26
    go_wp2
    go_ret
    exact ⟨rfl, rfl⟩
  · have h' : ¬ x ≤ 70368744177664 := by omega
    have h2 : -70368744177664 ≤ x := by omega
    go_enter Try.func26, Try.ntmps26
    go_wp2
    go_ret
    exact ⟨rfl, rfl⟩
/-- Whether a number lies within, as a Bool of our own. -/
def win (x : Int) : Bool := decide (-70368744177664 ≤ x ∧ x ≤ 70368744177664)
theorem within_any (x : Int) (w : World) : Calls Try.prog 26 #[.int .i64 x] w fun e w' => e = .returned (.bool (win x)) ∧ w' = w := by
  by_cases h : -70368744177664 ≤ x ∧ x ≤ 70368744177664
  · rw [show win x = true by unfold win; exact decide_eq_true h]; exact within_yes x w h.1 h.2
  · rw [show win x = false by unfold win; exact decide_eq_false h]; exact within_no x w (by omega)
theorem win_stp (x : Int) : win (stp x) = true := decide_eq_true ⟨stp_ge x, stp_le x⟩
theorem win_add (a b : Int) : win (fAdd a b) = true := win_stp _
theorem win_sub (a b : Int) : win (fSub a b) = true := win_stp _
theorem win_mul (a b : Int) : win (fMul a b) = true := win_stp _
theorem win_of (n : Int) : win (fOf n) = true := win_stp _
theorem win_dq (a b : Int) : win (fDq a b) = true := by
  unfold fDq
  by_cases h : b = 0
  · rw [if_pos h]; decide
  · rw [if_neg h]; exact win_stp _
theorem win_mix (o n p : Int) : win (fMix o n p) = true := by
  have a0 := stp_ge o; have a1 := stp_le o; have b0 := stp_ge n; have b1 := stp_le n; have c0 := clamp_ge p; have c1 := clamp_le p
  have h := mix_between o n p
  exact decide_eq_true (by omega)
theorem add_zero (a : Int) : fAdd a 0 = stp a := by unfold fAdd; rw [stp_zero, Int.add_zero, stp_stp]
theorem add_up (a b : Int) (h : 0 ≤ b) : stp a ≤ fAdd a b := by
  unfold fAdd; have := stp_mono h; rw [stp_zero] at this; have h2 := stp_mono (show stp a ≤ stp a + stp b by omega); rw [stp_stp] at h2; exact h2
theorem add_down (a b : Int) (h : b ≤ 0) : fAdd a b ≤ stp a := by
  unfold fAdd; have := stp_mono h; rw [stp_zero] at this; have h2 := stp_mono (show stp a + stp b ≤ stp a by omega); rw [stp_stp] at h2; exact h2
theorem win_eq (a : Int) : (win a == (stp a == a)) = true := by
  by_cases h : -70368744177664 ≤ a ∧ a ≤ 70368744177664
  · rw [show win a = true by unfold win; exact decide_eq_true h, stp_id h.1 h.2]; simp
  · rw [show win a = false by unfold win; exact decide_eq_false h]
    have : stp a ≠ a := by have := stp_ge a; have := stp_le a; omega
    simpa using this
theorem bounds_i64 {n : Int} (h : (Lit.int .i64 n).wf = true) : -9223372036854775808 ≤ n ∧ n ≤ 9223372036854775807 := by
  simp [Lit.wf, IntKind.min, IntKind.max, IntKind.signed, IntKind.bits] at h
  omega

/-! ### The walk: the Go text returns true. -/
theorem walk (a0 : Int) (a1 : Int) (a2 : Int) (a3 : Int) (w0 : (Lit.int .i64 a0).wf = true) (w1 : (Lit.int .i64 a1).wf = true) (w2 : (Lit.int .i64 a2).wf = true) (w3 : (Lit.int .i64 a3).wf = true) (w : World) :
    Calls Try.prog 6 #[.int .i64 a0, .int .i64 a1, .int .i64 a2, .int .i64 a3] w fun e w' => e = .returned (.bool true) ∧ Grown w w' := by
  obtain ⟨n0, n1⟩ := bounds_i64 w3
  clear w0 w1 w2 w3
  have t0 := add_zero a0
  have t1 := win_add a0 a1; have t2 := win_sub a0 a1; have t3 := win_mul a0 a1; have t4 := win_dq a0 a1; have t5 := win_of a3; have t6 := win_mix a0 a1 a2
  have t7 := win_stp a0
  have t8 := win_eq a0
  by_cases hb : 0 ≤ a1 <;> by_cases hc : a1 ≤ 0
  · have u := add_up a0 a1 hb
    have v := add_down a0 a1 hc
    go_enter Try.func6, Try.ntmps6
    go_wp2_with (first
      | (go_at_call 14; refine (alive_any _).mono ?_; rintro e w' ⟨rfl, rfl⟩)
      | (go_at_call 26; refine (within_any _ _).mono ?_; rintro e w' ⟨rfl, rfl⟩)
      | (go_at_call 9; refine (div_all _ _ _).mono ?_; rintro e w' ⟨rfl, rfl⟩)
      | (go_at_call 11; refine (add_any _ _ _).mono ?_; rintro e w' ⟨rfl, rfl⟩)
      | (go_at_call 19; refine (sub_any _ _ _).mono ?_; rintro e w' ⟨rfl, rfl⟩)
      | (go_at_call 10; refine (mul_any _ _ _).mono ?_; rintro e w' ⟨rfl, rfl⟩)
      | (go_at_call 12; refine (of_any _ _ n0 n1).mono ?_; rintro e w' ⟨rfl, rfl⟩)
      | (go_at_call 16; refine (mix_any _ _ _ _).mono ?_; rintro e w' ⟨rfl, rfl⟩))
    go_ret
    exact ⟨rfl, Grown.refl _⟩
  · have u := add_up a0 a1 hb
    go_enter Try.func6, Try.ntmps6
    go_wp2_with (first
      | (go_at_call 14; refine (alive_any _).mono ?_; rintro e w' ⟨rfl, rfl⟩)
      | (go_at_call 26; refine (within_any _ _).mono ?_; rintro e w' ⟨rfl, rfl⟩)
      | (go_at_call 9; refine (div_all _ _ _).mono ?_; rintro e w' ⟨rfl, rfl⟩)
      | (go_at_call 11; refine (add_any _ _ _).mono ?_; rintro e w' ⟨rfl, rfl⟩)
      | (go_at_call 19; refine (sub_any _ _ _).mono ?_; rintro e w' ⟨rfl, rfl⟩)
      | (go_at_call 10; refine (mul_any _ _ _).mono ?_; rintro e w' ⟨rfl, rfl⟩)
      | (go_at_call 12; refine (of_any _ _ n0 n1).mono ?_; rintro e w' ⟨rfl, rfl⟩)
      | (go_at_call 16; refine (mix_any _ _ _ _).mono ?_; rintro e w' ⟨rfl, rfl⟩))
    go_ret
    exact ⟨rfl, Grown.refl _⟩
  · have v := add_down a0 a1 hc
    go_enter Try.func6, Try.ntmps6
    go_wp2_with (first
      | (go_at_call 14; refine (alive_any _).mono ?_; rintro e w' ⟨rfl, rfl⟩)
      | (go_at_call 26; refine (within_any _ _).mono ?_; rintro e w' ⟨rfl, rfl⟩)
      | (go_at_call 9; refine (div_all _ _ _).mono ?_; rintro e w' ⟨rfl, rfl⟩)
      | (go_at_call 11; refine (add_any _ _ _).mono ?_; rintro e w' ⟨rfl, rfl⟩)
      | (go_at_call 19; refine (sub_any _ _ _).mono ?_; rintro e w' ⟨rfl, rfl⟩)
      | (go_at_call 10; refine (mul_any _ _ _).mono ?_; rintro e w' ⟨rfl, rfl⟩)
      | (go_at_call 12; refine (of_any _ _ n0 n1).mono ?_; rintro e w' ⟨rfl, rfl⟩)
      | (go_at_call 16; refine (mix_any _ _ _ _).mono ?_; rintro e w' ⟨rfl, rfl⟩))
    go_ret
    exact ⟨rfl, Grown.refl _⟩
  · omega

/-! ### The row's step. -/
set_option maxRecDepth 100000 in
theorem lifted (os : Os) (started : os.Started) (H : Type) (enc : TypeId × Value → H) :
    ReturnsInHanded {} Try.checked os 6 .any (Rows.fixBoundsSpec.pre6 enc Try.prog Try.f6 Rows.fixBoundsRow.domain false) (Rows.fixBoundsSpec.post enc Try.prog Try.f6 false true false false) := by
  refine returnsInHanded_of_change (C := Try.checked) own started (by kernel_rfl) Try.func6
    (ChangeSpec.witness6 (enc := enc) (C := Try.checked) false ⟨#[], #[.int .i64 0, .int .i64 0, .int .i64 0, .int .i64 0], []⟩ 8 (by kernel_rfl) (by kernel_rfl) (by kernel_rfl) (by kernel_rfl)) ?_
  intro W base args ds gs before hval0 hW hcnd _
  have hval : ∀ (j : Nat) t v, Try.f6.params[j]? = some t → args[j]? = some v → Value.okWide Try.prog W .any base t v := hval0
  have hW' := hW
  obtain ⟨p, q, hA0, hV, rfl, hfz, hnd⟩ := hW
  have hA : DataW.TrodAll enc Try.prog W 0 (fun _ => true) true Try.f6.params.toList args.toList ds p := hA0
  rw [Try.params6] at hA hval
  obtain ⟨v0, vs0, d0, ds0, p0, q0, hargs, rfl, rfl, h0, r0⟩ := trodAll_cons hA
  obtain ⟨v1, vs1, d1, ds1, p1, q1, rfl, rfl, rfl, h1, r1⟩ := trodAll_cons r0
  obtain ⟨v2, vs2, d2, ds2, p2, q2, rfl, rfl, rfl, h2, r2⟩ := trodAll_cons r1
  obtain ⟨v3, vs3, d3, ds3, p3, q3, rfl, rfl, rfl, h3, r3⟩ := trodAll_cons r2
  obtain ⟨rfl, rfl, rfl⟩ := trodAll_nil r3
  obtain rfl : args = #[v0, v1, v2, v3] := by cases args; simp_all
  obtain ⟨rfl, rfl⟩ := trodVars_none hV
  obtain ⟨a0, rfl, rfl, rfl, w0⟩ := open_int Try.underlying2 (hval 0 2 v0 rfl rfl) h0
  obtain ⟨a1, rfl, rfl, rfl, w1⟩ := open_int Try.underlying2 (hval 1 2 v1 rfl rfl) h1
  obtain ⟨a2, rfl, rfl, rfl, w2⟩ := open_int Try.underlying2 (hval 2 2 v2 rfl rfl) h2
  obtain ⟨a3, rfl, rfl, rfl, w3⟩ := open_int Try.underlying3 (hval 3 3 v3 rfl rfl) h3
  clear hA0 hval0
  simp only [List.append_nil] at hW'
  refine (walk a0 a1 a2 a3 w0 w1 w2 w3 W).mono fun e W' ⟨he, hg⟩ => ?_
  subst he
  exact ⟨_, rfl, post_of_same (pa := []) (pv := []) hW' (fun _ _ _ => (trodAll_cons_mk (shut_bool Try.underlying4 _) trodAll_mk0)) (fun sp _ => (trodAll_cons_mk (shut_int Try.underlying2 w0) (trodAll_cons_mk (shut_int Try.underlying2 w1) (trodAll_cons_mk (shut_int Try.underlying2 w2) (trodAll_cons_mk (shut_int Try.underlying3 w3) trodAll_mk0))))) (fun _ _ => rfl) rfl
    (hg.frame _) hg.2.1 (ok_one (by kernel_rfl) rfl (okWide_bool_mk Try.underlying4 _))⟩

theorem over : Rows.fixBoundsRow.holds Try.pinned (OpenSpec.ofChange Rows.fixBoundsSpec) :=
  OpenClaim.holds_of_wide 6 Try.f6 rfl rfl rfl rfl rfl rfl rfl ⟨rfl, rfl, rfl, rfl, rfl⟩ rfl rfl rfl rfl rfl (by kernel_rfl) Try.func6 (by kernel_rfl)
    (of_decide_eq_true (by kernel_rfl)) (by unfold Func.isWrapper; first | (rw [if_pos (by decide +kernel)]; kernel_rfl) | (rw [if_neg (by decide +kernel)]; exact ⟨rfl, rfl⟩))
    (fun os started H enc _ => lifted os started H enc)

/-- The given statement. -/
theorem proved : Rows.FixBoundsSaid :=
  over
end Go.Proofs.Ytbmgkimfflidiaa.fixBounds
namespace Go.Proofs.Ytbmgkimfflidiaa
theorem fixBounds_holds : Rows.FixBoundsSaid := fixBounds.proved
#print axioms fixBounds_holds
end Go.Proofs.Ytbmgkimfflidiaa
