/-
  THE CONTRACTS of package eye: within, mayBe, Believed, Wants, ill, later, and Go's OnesCount64 (made by a program).
-/
import Derived.Test.YtommijjacknkpaaDoorEyeM
import Derived.Test.YtommijjacknkpaaDoorFits
import Derived.Test.YtommijjacknkpaaDoorRows
import Derived.DeepKeys
import Derived.Deep.QuietTactic
import Derived.Deep.RegionHeld
import Derived.BigQuiet
namespace Go.Proofs.YtommijjacknkpaaDoor
open Go.RowKit Go.Lib Go.Deep
set_option linter.unusedVariables false
set_option linter.unusedSimpArgs false

theorem or_one {z : Int} : bits BinOp.or IntKind.u64 (z * 2 % 18446744073709551616) 1 = z * 2 % 18446744073709551616 + 1 := by
  have h := bits_or_u64_nat (z * 2 % 18446744073709551616).toNat 1 (by omega) (by omega)
  have e3 := Nat.two_pow_add_eq_or_of_lt (i := 1) (b := 1) (by omega) ((z * 2 % 18446744073709551616).toNat / 2)
  have e4 : 2 ^ 1 * ((z * 2 % 18446744073709551616).toNat / 2) = (z * 2 % 18446744073709551616).toNat := by omega
  rw [e4] at e3
  rw [Int.toNat_of_nonneg (by omega), ← e3] at h
  exact h.trans (by omega)
theorem and_127 (a : Nat) (ha : a < 9223372036854775808) : bits BinOp.and IntKind.i64 (a : Int) 127 = ((a % 128 : Nat) : Int) := by
  have h1 : (BitVec.ofInt 64 (a : Int)).toNat = a := by
    rw [BitVec.ofInt_natCast, BitVec.toNat_ofNat]; exact Nat.mod_eq_of_lt (by omega)
  have h2 : (BitVec.ofInt 64 (127 : Int)).toNat = 127 := by decide
  show IntKind.i64.wrap ((BitVec.ofInt 64 (a : Int) &&& BitVec.ofInt 64 (127 : Int)).toNat : Int) = _
  rw [BitVec.toNat_and, h1, h2, show a &&& 127 = a % 128 from Nat.and_two_pow_sub_one_eq_mod a 7, IntKind.wrap_i64]
  omega
set_option maxHeartbeats 1000000 in
theorem ones_nat (n : Nat) (w : World) (hn : n < 18446744073709551616) : Calls Tryd.prog 55 #[.int .u64 n] w fun e w' => e = .returned (.int .i64 (cnt n 64)) ∧ w' = w := by
  have a1 := bits_and_u64_nat (n / 2) 6148914691236517205 (by omega) (by omega)
  have a2 := bits_and_u64_nat n 6148914691236517205 (by omega) (by omega)
  have l1 := s1_lt n
  have l2 := s2_lt n
  have l3 := s3_lt n hn
  have b1 := bits_and_u64_nat (s1N n / 4) 3689348814741910323 (by omega) (by omega)
  have b2 := bits_and_u64_nat (s1N n) 3689348814741910323 (by omega) (by omega)
  have c1 := bits_and_u64_nat (s2N n / 16 + s2N n) 1085102592571150095 (by omega) (by omega)
  rw [s3_is] at c1
  have e1 := s1_is n
  have e2 := s2_is n
  have e5 := s_out n hn
  generalize s1N n = x1 at *
  generalize s2N n = x2 at *
  generalize s3N n = x3 at *
  generalize n / 2 &&& 6148914691236517205 = y1 at *
  generalize n &&& 6148914691236517205 = y2 at *
  generalize x1 / 4 &&& 3689348814741910323 = y3 at *
  generalize x1 &&& 3689348814741910323 = y4 at *
  have e1' : (y1 : Int) + (y2 : Int) = (x1 : Int) := by omega
  have e2' : (y3 : Int) + (y4 : Int) = (x2 : Int) := by omega
  have a1' : bits BinOp.and IntKind.u64 ((n : Int) / 2) 6148914691236517205 = (y1 : Int) := by rw [show (n : Int) / 2 = ((n / 2 : Nat) : Int) by omega]; exact a1
  have a2' : bits BinOp.and IntKind.u64 (n : Int) 6148914691236517205 = (y2 : Int) := a2
  have b1' : bits BinOp.and IntKind.u64 ((x1 : Int) / 4) 3689348814741910323 = (y3 : Int) := by rw [show (x1 : Int) / 4 = ((x1 / 4 : Nat) : Int) by omega]; exact b1
  have b2' : bits BinOp.and IntKind.u64 (x1 : Int) 3689348814741910323 = (y4 : Int) := b2
  have c1' : bits BinOp.and IntKind.u64 ((x2 : Int) / 16 + x2) 1085102592571150095 = (x3 : Int) := by rw [show (x2 : Int) / 16 + x2 = ((x2 / 16 + x2 : Nat) : Int) by omega]; exact c1
  have l1' : (x1 : Int) ≤ 12297829382473034410 := by omega
  have l2' : (x2 : Int) ≤ 7378697629483820646 := by omega
  have l3' : (x3 : Int) ≤ 1085102592571150095 := by omega
  clear a1 a2 b1 b2 c1 e1 e2 l1 l2 l3
  have E5 := Hid.mk' e5
  clear e5
  go_enter Tryd.func55, Tryd.ntmps55
  go_wp2
  go_ret
  refine ⟨ret_int ?_, rfl⟩
  have h5 := E5.out
  have h6 := and_127 (x3 + x3 / 256 + (x3 + x3 / 256) / 65536 + (x3 + x3 / 256 + (x3 + x3 / 256) / 65536) / 4294967296) (by omega)
  rw [h5] at h6
  refine Eq.trans (congrArg (fun q => bits BinOp.and IntKind.i64 q 127) ?_) h6
  omega
theorem ones64_any (z : Int) (w : World) (h0 : 0 ≤ z) (h1 : z < 18446744073709551616) : Calls Tryd.prog 55 #[.int .u64 z] w fun e w' => e = .returned (.int .i64 (cnt z.toNat 64)) ∧ w' = w := by
  have h := ones_nat z.toNat w (by omega)
  rw [Int.toNat_of_nonneg h0] at h
  exact h
theorem ewithin_any (n l h : Int) (w : World) : Calls Tryd.prog 24 #[.int .i64 n, .int .i64 l, .int .i64 h] w fun e w' => e = .returned (.bool (inB n l h)) ∧ w' = w := by
  go_enter Tryd.func24, Tryd.ntmps24
  go_wp2
  all_goals
    go_ret
    refine ⟨?_, rfl⟩
    simp [inB, *] <;> (first | omega | (intros; omega))
theorem believed_any (x : Lk) (w : World) : Calls Tryd.prog 15 #[lkV x] w fun e w' => e = .returned (.bool (!x.bad)) ∧ Kept w w' none := by
  obtain ⟨u, a, z, b, c⟩ := x
  go_enter Tryd.func15, Tryd.ntmps15
  go_wp2
  go_ret
  exact ⟨rfl, Kept.alloc _ _ _ _ _⟩
theorem wants_y (a z c : Int) (b : Bool) (w : World) : Calls Tryd.prog 14 #[lkV ⟨true, a, z, b, c⟩] w fun e w' => e = .returned (.bool (true || b)) ∧ Kept w w' none := by
  go_enter Tryd.func14, Tryd.ntmps14
  go_wp2_with (go_at_call 15; refine (believed_any ⟨true, a, z, b, c⟩ _).mono ?_; rintro e w1 ⟨rfl, hk1⟩)
  go_ret
  exact ⟨by simp, Kept.alloc _ _ _ _ _⟩
theorem wants_n (a z c : Int) (b : Bool) (w : World) : Calls Tryd.prog 14 #[lkV ⟨false, a, z, b, c⟩] w fun e w' => e = .returned (.bool (false || b)) ∧ Kept w w' none := by
  go_enter Tryd.func14, Tryd.ntmps14
  go_wp2_with (go_at_call 15; refine (believed_any ⟨false, a, z, b, c⟩ _).mono ?_; rintro e w1 ⟨rfl, hk1⟩)
  go_ret
  exact ⟨by simp, (Kept.alloc _ _ _ _ _).tr hk1⟩
theorem wants_any (x : Lk) (w : World) : Calls Tryd.prog 14 #[lkV x] w fun e w' => e = .returned (.bool (x.up || x.bad)) ∧ Kept w w' none := by
  obtain ⟨u, a, z, b, c⟩ := x
  cases u
  · exact wants_n a z c b w
  · exact wants_y a z c b w
set_option maxHeartbeats 1000000 in
theorem emay_a (u : Bool) (a z : Int) (b : Bool) (c : Int) (w : World) (ha : inB a 0 1048576 = false) : Calls Tryd.prog 25 #[lkV ⟨u, a, z, b, c⟩] w fun e w' => e = .returned (.bool (mayK ⟨u, a, z, b, c⟩)) ∧ Kept w w' none := by
  rw [show mayK ⟨u, a, z, b, c⟩ = false by unfold mayK; dsimp only; rw [ha]; rfl]
  go_enter Tryd.func25, Tryd.ntmps25
  go_wp2_with (go_at_call 24; refine (ewithin_any _ _ _ _).mono ?_; rintro e w' ⟨rfl, rfl⟩)
  go_ret
  exact ⟨ret_bool (by simp), Kept.alloc _ _ _ _ _⟩
set_option maxHeartbeats 1000000 in
theorem emay_c (u : Bool) (a z : Int) (b : Bool) (c : Int) (w : World) (ha : inB a 0 1048576 = true) (hc : inB c 0 1048576 = false) : Calls Tryd.prog 25 #[lkV ⟨u, a, z, b, c⟩] w fun e w' => e = .returned (.bool (mayK ⟨u, a, z, b, c⟩)) ∧ Kept w w' none := by
  rw [show mayK ⟨u, a, z, b, c⟩ = false by unfold mayK; dsimp only; rw [ha, hc]; rfl]
  go_enter Tryd.func25, Tryd.ntmps25
  go_wp2_with (go_at_call 24; refine (ewithin_any _ _ _ _).mono ?_; rintro e w' ⟨rfl, rfl⟩)
  go_ret
  exact ⟨ret_bool (by simp), Kept.alloc _ _ _ _ _⟩
set_option maxHeartbeats 1000000 in
theorem emay_b (u : Bool) (a z : Int) (b : Bool) (c : Int) (w : World) (ha : inB a 0 1048576 = true) (hc : inB c 0 1048576 = true) (hb : b = true) : Calls Tryd.prog 25 #[lkV ⟨u, a, z, b, c⟩] w fun e w' => e = .returned (.bool (mayK ⟨u, a, z, b, c⟩)) ∧ Kept w w' none := by
  rw [show mayK ⟨u, a, z, b, c⟩ = true by unfold mayK; dsimp only; rw [ha, hc, hb]; rfl]
  subst hb
  go_enter Tryd.func25, Tryd.ntmps25
  go_wp2_with (go_at_call 24; refine (ewithin_any _ _ _ _).mono ?_; rintro e w' ⟨rfl, rfl⟩)
  go_ret
  exact ⟨ret_bool (by simp), Kept.alloc _ _ _ _ _⟩
set_option maxHeartbeats 1000000 in
theorem emay_z (u : Bool) (a z : Int) (b : Bool) (c : Int) (w : World) (ha : inB a 0 1048576 = true) (hc : inB c 0 1048576 = true) (hb : b = false) (h0 : c = 0) : Calls Tryd.prog 25 #[lkV ⟨u, a, z, b, c⟩] w fun e w' => e = .returned (.bool (mayK ⟨u, a, z, b, c⟩)) ∧ Kept w w' none := by
  rw [show mayK ⟨u, a, z, b, c⟩ = true by unfold mayK; dsimp only; rw [ha, hc, hb]; simp [h0]]
  subst hb h0
  go_enter Tryd.func25, Tryd.ntmps25
  go_wp2_with (go_at_call 24; refine (ewithin_any _ _ _ _).mono ?_; rintro e w' ⟨rfl, rfl⟩)
  go_ret
  exact ⟨ret_bool (by simp), Kept.alloc _ _ _ _ _⟩
set_option maxHeartbeats 1000000 in
theorem emay_n (u : Bool) (a z : Int) (b : Bool) (c : Int) (w : World) (ha : inB a 0 1048576 = true) (hc : inB c 0 1048576 = true) (hb : b = false) (h0 : ¬ c = 0) : Calls Tryd.prog 25 #[lkV ⟨u, a, z, b, c⟩] w fun e w' => e = .returned (.bool (mayK ⟨u, a, z, b, c⟩)) ∧ Kept w w' none := by
  rw [show mayK ⟨u, a, z, b, c⟩ = false by unfold mayK; dsimp only; rw [ha, hc, hb]; simp [h0]]
  have hn2 : (c == 0) = false := by simpa using h0
  clear h0
  subst hb
  go_enter Tryd.func25, Tryd.ntmps25
  go_wp2_with (go_at_call 24; refine (ewithin_any _ _ _ _).mono ?_; rintro e w' ⟨rfl, rfl⟩)
  go_ret
  exact ⟨ret_bool (by simp), Kept.alloc _ _ _ _ _⟩
theorem emay_any (x : Lk) (w : World) : Calls Tryd.prog 25 #[lkV x] w fun e w' => e = .returned (.bool (mayK x)) ∧ Kept w w' none := by
  obtain ⟨u, a, z, b, c⟩ := x
  cases ha : inB a 0 1048576
  · exact emay_a u a z b c w ha
  cases hc : inB c 0 1048576
  · exact emay_c u a z b c w ha hc
  cases hb : b
  · by_cases h0 : c = 0
    · exact emay_z u a z _ c w ha hc rfl h0
    · exact emay_n u a z _ c w ha hc rfl h0
  · exact emay_b u a z _ c w ha hc rfl
set_option maxHeartbeats 1000000 in
theorem ill_ty (p o f t n z : Int) (b : Bool) (c : Int) (w : World) (t0 : 0 ≤ z) (t1 : z < 18446744073709551616) (h : o ≤ n) : Calls Tryd.prog 37 #[eyU ⟨p, o, f, t⟩, lkV ⟨true, n, z, b, c⟩] w fun e w' => e = .returned (.bool true) ∧ Kept w w' none := by
  go_enter Tryd.func37, Tryd.ntmps37
  go_wp2
  all_goals
    go_ret
    exact ⟨rfl, (by (repeat (first | exact Kept.refl _ _ | (refine Kept.setNew ?_ (by simp <;> omega) _) | (refine Kept.tr ?_ (Kept.alloc _ _ _ _ _)) | (refine Kept.tr ?_ (Kept.drew _ _)))))⟩
set_option maxHeartbeats 1000000 in
theorem ill_tn1 (p o f t n z : Int) (b : Bool) (c : Int) (w : World) (t0 : 0 ≤ z) (t1 : z < 18446744073709551616) (h : ¬ o ≤ n) (h2 : t < (cnt z.toNat 64 : Int)) : Calls Tryd.prog 37 #[eyU ⟨p, o, f, t⟩, lkV ⟨true, n, z, b, c⟩] w fun e w' => e = .returned (.bool true) ∧ Kept w w' none := by
  go_enter Tryd.func37, Tryd.ntmps37
  go_wp2_with (go_at_call 55; refine (ones64_any _ _ t0 t1).mono ?_; rintro e w' ⟨rfl, rfl⟩)
  go_region_held (fun w' => w'.cell? ⟨w.heap.size, 3, none⟩ = some (.int .i64 t) ∧ w'.cell? ⟨w.heap.size + 1, 2, none⟩ = some (.int .u64 z)) (go_keep) (first | (go_at_call 55; refine (ones64_any _ _ t0 t1).mono ?_; rintro e w' ⟨rfl, rfl⟩))
  all_goals go_wp2
  all_goals
    go_ret
    exact ⟨rfl, (by (repeat (first | exact Kept.refl _ _ | (refine Kept.setNew ?_ (by simp <;> omega) _) | (refine Kept.tr ?_ (Kept.alloc _ _ _ _ _)) | (refine Kept.tr ?_ (Kept.drew _ _)))))⟩
set_option maxHeartbeats 1000000 in
theorem ill_tn0 (p o f t n z : Int) (b : Bool) (c : Int) (w : World) (t0 : 0 ≤ z) (t1 : z < 18446744073709551616) (h : ¬ o ≤ n) (h2 : ¬ t < (cnt z.toNat 64 : Int)) : Calls Tryd.prog 37 #[eyU ⟨p, o, f, t⟩, lkV ⟨true, n, z, b, c⟩] w fun e w' => e = .returned (.bool false) ∧ Kept w w' none := by
  go_enter Tryd.func37, Tryd.ntmps37
  go_wp2_with (go_at_call 55; refine (ones64_any _ _ t0 t1).mono ?_; rintro e w' ⟨rfl, rfl⟩)
  go_region_held (fun w' => w'.cell? ⟨w.heap.size, 3, none⟩ = some (.int .i64 t) ∧ w'.cell? ⟨w.heap.size + 1, 2, none⟩ = some (.int .u64 z)) (go_keep) (first | (go_at_call 55; refine (ones64_any _ _ t0 t1).mono ?_; rintro e w' ⟨rfl, rfl⟩))
  all_goals go_wp2
  all_goals
    go_ret
    exact ⟨rfl, (by (repeat (first | exact Kept.refl _ _ | (refine Kept.setNew ?_ (by simp <;> omega) _) | (refine Kept.tr ?_ (Kept.alloc _ _ _ _ _)) | (refine Kept.tr ?_ (Kept.drew _ _)))))⟩
set_option maxHeartbeats 1000000 in
theorem ill_fy (p o f t n z : Int) (b : Bool) (c : Int) (w : World) (t0 : 0 ≤ z) (t1 : z < 18446744073709551616) (h : f ≤ n) : Calls Tryd.prog 37 #[eyU ⟨p, o, f, t⟩, lkV ⟨false, n, z, b, c⟩] w fun e w' => e = .returned (.bool true) ∧ Kept w w' none := by
  go_enter Tryd.func37, Tryd.ntmps37
  go_wp2
  all_goals
    go_ret
    exact ⟨rfl, (by (repeat (first | exact Kept.refl _ _ | (refine Kept.setNew ?_ (by simp <;> omega) _) | (refine Kept.tr ?_ (Kept.alloc _ _ _ _ _)) | (refine Kept.tr ?_ (Kept.drew _ _)))))⟩
set_option maxHeartbeats 1000000 in
theorem ill_fn1 (p o f t n z : Int) (b : Bool) (c : Int) (w : World) (t0 : 0 ≤ z) (t1 : z < 18446744073709551616) (h : ¬ f ≤ n) (h2 : t < (cnt z.toNat 64 : Int)) : Calls Tryd.prog 37 #[eyU ⟨p, o, f, t⟩, lkV ⟨false, n, z, b, c⟩] w fun e w' => e = .returned (.bool true) ∧ Kept w w' none := by
  go_enter Tryd.func37, Tryd.ntmps37
  go_wp2_with (go_at_call 55; refine (ones64_any _ _ t0 t1).mono ?_; rintro e w' ⟨rfl, rfl⟩)
  go_region_held (fun w' => w'.cell? ⟨w.heap.size, 3, none⟩ = some (.int .i64 t) ∧ w'.cell? ⟨w.heap.size + 1, 2, none⟩ = some (.int .u64 z)) (go_keep) (first | (go_at_call 55; refine (ones64_any _ _ t0 t1).mono ?_; rintro e w' ⟨rfl, rfl⟩))
  all_goals go_wp2
  all_goals
    go_ret
    exact ⟨rfl, (by (repeat (first | exact Kept.refl _ _ | (refine Kept.setNew ?_ (by simp <;> omega) _) | (refine Kept.tr ?_ (Kept.alloc _ _ _ _ _)) | (refine Kept.tr ?_ (Kept.drew _ _)))))⟩
set_option maxHeartbeats 1000000 in
theorem ill_fn0 (p o f t n z : Int) (b : Bool) (c : Int) (w : World) (t0 : 0 ≤ z) (t1 : z < 18446744073709551616) (h : ¬ f ≤ n) (h2 : ¬ t < (cnt z.toNat 64 : Int)) : Calls Tryd.prog 37 #[eyU ⟨p, o, f, t⟩, lkV ⟨false, n, z, b, c⟩] w fun e w' => e = .returned (.bool false) ∧ Kept w w' none := by
  go_enter Tryd.func37, Tryd.ntmps37
  go_wp2_with (go_at_call 55; refine (ones64_any _ _ t0 t1).mono ?_; rintro e w' ⟨rfl, rfl⟩)
  go_region_held (fun w' => w'.cell? ⟨w.heap.size, 3, none⟩ = some (.int .i64 t) ∧ w'.cell? ⟨w.heap.size + 1, 2, none⟩ = some (.int .u64 z)) (go_keep) (first | (go_at_call 55; refine (ones64_any _ _ t0 t1).mono ?_; rintro e w' ⟨rfl, rfl⟩))
  all_goals go_wp2
  all_goals
    go_ret
    exact ⟨rfl, (by (repeat (first | exact Kept.refl _ _ | (refine Kept.setNew ?_ (by simp <;> omega) _) | (refine Kept.tr ?_ (Kept.alloc _ _ _ _ _)) | (refine Kept.tr ?_ (Kept.drew _ _)))))⟩
theorem ill_any (E : Ey) (x : Lk) (w : World) (t0 : 0 ≤ x.turns) (t1 : x.turns < 18446744073709551616) : Calls Tryd.prog 37 #[eyU E, lkV x] w fun e w' => e = .returned (.bool (illK E x.up x.same x.turns)) ∧ Kept w w' none := by
  obtain ⟨p, o, f, t⟩ := E
  obtain ⟨u, n, z, b, c⟩ := x
  dsimp only at t0 t1
  unfold illK
  dsimp only
  have hs : stand z 64 = (cnt z.toNat 64 : Int) := rfl
  rw [hs]
  cases u
  · by_cases h : f ≤ n
    · rw [decide_eq_true h]; exact ill_fy p o f t n z b c w t0 t1 h
    · by_cases h2 : t < (cnt z.toNat 64 : Int)
      · rw [decide_eq_false h, decide_eq_true h2]; exact ill_fn1 p o f t n z b c w t0 t1 h h2
      · rw [decide_eq_false h, decide_eq_false h2]; exact ill_fn0 p o f t n z b c w t0 t1 h h2
  · by_cases h : o ≤ n
    · rw [decide_eq_true h]; exact ill_ty p o f t n z b c w t0 t1 h
    · by_cases h2 : t < (cnt z.toNat 64 : Int)
      · rw [decide_eq_false h, decide_eq_true h2]; exact ill_tn1 p o f t n z b c w t0 t1 h h2
      · rw [decide_eq_false h, decide_eq_false h2]; exact ill_tn0 p o f t n z b c w t0 t1 h h2

end Go.Proofs.YtommijjacknkpaaDoor
