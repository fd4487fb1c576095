/-
  THE CONTRACTS of package eye: within, mayBe, Believed, Wants, ill, later, and Go's OnesCount64 (made by a program).
-/
import Derived.Test.YtjfajdmifjbblaaDoorEyeM
import Derived.Test.YtjfajdmifjbblaaDoorFits
import Derived.Test.YtjfajdmifjbblaaDoorRows
import Derived.DeepKeys
import Derived.Deep.QuietTactic
import Derived.Deep.RegionHeld
import Derived.BigQuiet
namespace Go.Proofs.YtjfajdmifjbblaaDoor
open Go.RowKit Go.Lib Go.Deep
set_option linter.unusedVariables false
set_option linter.unusedSimpArgs false

theorem or_one {z : Int} : bits BinOp.or IntKind.u64 (z * 2 % 18446744073709551616) 1 = z * 2 % 18446744073709551616 + 1 := by
  have h := bits_or_u64_nat (z * 2 % 18446744073709551616).toNat 1 (by omega) (by omega)
  have e3 := Nat.two_pow_add_eq_or_of_lt (i := 1) (b := 1) (by omega) ((z * 2 % 18446744073709551616).toNat / 2)
  have e4 : 2 ^ 1 * ((z * 2 % 18446744073709551616).toNat / 2) = (z * 2 % 18446744073709551616).toNat := by omega
  rw [e4] at e3
  rw [Int.toNat_of_nonneg (by omega), ← e3] at h
  exact h.trans (by omega)
theorem and_127 (a : Nat) (ha : a < 9223372036854775808) : bits BinOp.and IntKind.i64 (a : Int) 127 = ((a % 128 : Nat) : Int) := by
  have h1 : (BitVec.ofInt 64 (a : Int)).toNat = a := by
    rw [BitVec.ofInt_natCast, BitVec.toNat_ofNat]; exact Nat.mod_eq_of_lt (by omega)
  have h2 : (BitVec.ofInt 64 (127 : Int)).toNat = 127 := by decide
  show IntKind.i64.wrap ((BitVec.ofInt 64 (a : Int) &&& BitVec.ofInt 64 (127 : Int)).toNat : Int) = _
  rw [BitVec.toNat_and, h1, h2, show a &&& 127 = a % 128 from Nat.and_two_pow_sub_one_eq_mod a 7, IntKind.wrap_i64]
  omega
theorem ewithin_any (n l h : Int) (w : World) : Calls Tryd.prog 63 #[.int .i64 n, .int .i64 l, .int .i64 h] w fun e w' => e = .returned (.bool (inB n l h)) ∧ w' = w := by
  go_enter Tryd.func63, Tryd.ntmps63
  go_wp2
  all_goals
    go_ret
    refine ⟨?_, rfl⟩
    simp [inB, *] <;> (first | omega | (intros; omega))
theorem believed_any (x : Lk) (w : World) : Calls Tryd.prog 34 #[lkV x] w fun e w' => e = .returned (.bool (!x.bad)) ∧ Kept w w' none := by
  obtain ⟨u, a, z, b, c⟩ := x
  go_enter Tryd.func34, Tryd.ntmps34
  go_wp2
  go_ret
  exact ⟨rfl, Kept.alloc _ _ _ _ _⟩
theorem wants_y (a z c : Int) (b : Bool) (w : World) : Calls Tryd.prog 35 #[lkV ⟨true, a, z, b, c⟩] w fun e w' => e = .returned (.bool (true || b)) ∧ Kept w w' none := by
  go_enter Tryd.func35, Tryd.ntmps35
  go_wp2_with (go_at_call 34; refine (believed_any ⟨true, a, z, b, c⟩ _).mono ?_; rintro e w1 ⟨rfl, hk1⟩)
  go_ret
  exact ⟨by simp, Kept.alloc _ _ _ _ _⟩
theorem wants_n (a z c : Int) (b : Bool) (w : World) : Calls Tryd.prog 35 #[lkV ⟨false, a, z, b, c⟩] w fun e w' => e = .returned (.bool (false || b)) ∧ Kept w w' none := by
  go_enter Tryd.func35, Tryd.ntmps35
  go_wp2_with (go_at_call 34; refine (believed_any ⟨false, a, z, b, c⟩ _).mono ?_; rintro e w1 ⟨rfl, hk1⟩)
  go_ret
  exact ⟨by simp, (Kept.alloc _ _ _ _ _).tr hk1⟩
theorem wants_any (x : Lk) (w : World) : Calls Tryd.prog 35 #[lkV x] w fun e w' => e = .returned (.bool (x.up || x.bad)) ∧ Kept w w' none := by
  obtain ⟨u, a, z, b, c⟩ := x
  cases u
  · exact wants_n a z c b w
  · exact wants_y a z c b w
set_option maxHeartbeats 1000000 in
theorem emay_a (u : Bool) (a z : Int) (b : Bool) (c : Int) (w : World) (ha : inB a 0 1048576 = false) : Calls Tryd.prog 53 #[lkV ⟨u, a, z, b, c⟩] w fun e w' => e = .returned (.bool (mayK ⟨u, a, z, b, c⟩)) ∧ Kept w w' none := by
  rw [show mayK ⟨u, a, z, b, c⟩ = false by unfold mayK; dsimp only; rw [ha]; rfl]
  go_enter Tryd.func53, Tryd.ntmps53
  go_wp2_with (go_at_call 63; refine (ewithin_any _ _ _ _).mono ?_; rintro e w' ⟨rfl, rfl⟩)
  go_ret
  exact ⟨ret_bool (by simp), Kept.alloc _ _ _ _ _⟩
set_option maxHeartbeats 1000000 in
theorem emay_c (u : Bool) (a z : Int) (b : Bool) (c : Int) (w : World) (ha : inB a 0 1048576 = true) (hc : inB c 0 1048576 = false) : Calls Tryd.prog 53 #[lkV ⟨u, a, z, b, c⟩] w fun e w' => e = .returned (.bool (mayK ⟨u, a, z, b, c⟩)) ∧ Kept w w' none := by
  rw [show mayK ⟨u, a, z, b, c⟩ = false by unfold mayK; dsimp only; rw [ha, hc]; rfl]
  go_enter Tryd.func53, Tryd.ntmps53
  go_wp2_with (go_at_call 63; refine (ewithin_any _ _ _ _).mono ?_; rintro e w' ⟨rfl, rfl⟩)
  go_ret
  exact ⟨ret_bool (by simp), Kept.alloc _ _ _ _ _⟩
set_option maxHeartbeats 1000000 in
theorem emay_b (u : Bool) (a z : Int) (b : Bool) (c : Int) (w : World) (ha : inB a 0 1048576 = true) (hc : inB c 0 1048576 = true) (hb : b = true) : Calls Tryd.prog 53 #[lkV ⟨u, a, z, b, c⟩] w fun e w' => e = .returned (.bool (mayK ⟨u, a, z, b, c⟩)) ∧ Kept w w' none := by
  rw [show mayK ⟨u, a, z, b, c⟩ = true by unfold mayK; dsimp only; rw [ha, hc, hb]; rfl]
  subst hb
  go_enter Tryd.func53, Tryd.ntmps53
  go_wp2_with (go_at_call 63; refine (ewithin_any _ _ _ _).mono ?_; rintro e w' ⟨rfl, rfl⟩)
  go_ret
  exact ⟨ret_bool (by simp), Kept.alloc _ _ _ _ _⟩
set_option maxHeartbeats 1000000 in
theorem emay_z (u : Bool) (a z : Int) (b : Bool) (c : Int) (w : World) (ha : inB a 0 1048576 = true) (hc : inB c 0 1048576 = true) (hb : b = false) (h0 : c = 0) : Calls Tryd.prog 53 #[lkV ⟨u, a, z, b, c⟩] w fun e w' => e = .returned (.bool (mayK ⟨u, a, z, b, c⟩)) ∧ Kept w w' none := by
  rw [show mayK ⟨u, a, z, b, c⟩ = true by unfold mayK; dsimp only; rw [ha, hc, hb]; simp [h0]]
  subst hb h0
  go_enter Tryd.func53, Tryd.ntmps53
  go_wp2_with (go_at_call 63; refine (ewithin_any _ _ _ _).mono ?_; rintro e w' ⟨rfl, rfl⟩)
  go_ret
  exact ⟨ret_bool (by simp), Kept.alloc _ _ _ _ _⟩
set_option maxHeartbeats 1000000 in
theorem emay_n (u : Bool) (a z : Int) (b : Bool) (c : Int) (w : World) (ha : inB a 0 1048576 = true) (hc : inB c 0 1048576 = true) (hb : b = false) (h0 : ¬ c = 0) : Calls Tryd.prog 53 #[lkV ⟨u, a, z, b, c⟩] w fun e w' => e = .returned (.bool (mayK ⟨u, a, z, b, c⟩)) ∧ Kept w w' none := by
  rw [show mayK ⟨u, a, z, b, c⟩ = false by unfold mayK; dsimp only; rw [ha, hc, hb]; simp [h0]]
  have hn2 : (c == 0) = false := by simpa using h0
  clear h0
  subst hb
  go_enter Tryd.func53, Tryd.ntmps53
  go_wp2_with (go_at_call 63; refine (ewithin_any _ _ _ _).mono ?_; rintro e w' ⟨rfl, rfl⟩)
  go_ret
  exact ⟨ret_bool (by simp), Kept.alloc _ _ _ _ _⟩
theorem emay_any (x : Lk) (w : World) : Calls Tryd.prog 53 #[lkV x] w fun e w' => e = .returned (.bool (mayK x)) ∧ Kept w w' none := by
  obtain ⟨u, a, z, b, c⟩ := x
  cases ha : inB a 0 1048576
  · exact emay_a u a z b c w ha
  cases hc : inB c 0 1048576
  · exact emay_c u a z b c w ha hc
  cases hb : b
  · by_cases h0 : c = 0
    · exact emay_z u a z _ c w ha hc rfl h0
    · exact emay_n u a z _ c w ha hc rfl h0
  · exact emay_b u a z _ c w ha hc rfl
end Go.Proofs.YtjfajdmifjbblaaDoor
