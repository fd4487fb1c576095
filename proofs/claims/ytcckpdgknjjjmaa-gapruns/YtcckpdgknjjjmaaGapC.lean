/-
  THE CONTRACTS of package gap: within, mayBe, later, standing, and Go's OnesCount64.
-/
import Derived.Test.YtcckpdgknjjjmaaGapM
import Derived.Test.YtcckpdgknjjjmaaFixC
import Derived.Test.YtcckpdgknjjjmaaRows
import Derived.DeepKeys
import Derived.Deep.QuietTactic
import Derived.BigQuiet
namespace Go.Proofs.Ytcckpdgknjjjmaa
open Go.RowKit Go.Lib Go.Deep
set_option linter.unusedVariables false
set_option linter.unusedSimpArgs false

theorem and_one {z : Int} (h0 : 0 ≤ z) (h1 : z < 18446744073709551616) : bits BinOp.and IntKind.u64 z 1 = z % 2 := by
  have h := bits_and_u64_nat z.toNat 1 (by omega) (by omega)
  rw [Int.toNat_of_nonneg h0, show z.toNat &&& 1 = z.toNat % 2 from Nat.and_two_pow_sub_one_eq_mod z.toNat 1] at h
  exact h.trans (by omega)
theorem or_one {z : Int} : bits BinOp.or IntKind.u64 (z * 2 % 18446744073709551616) 1 = z * 2 % 18446744073709551616 + 1 := by
  have h := bits_or_u64_nat (z * 2 % 18446744073709551616).toNat 1 (by omega) (by omega)
  have e3 := Nat.two_pow_add_eq_or_of_lt (i := 1) (b := 1) (by omega) ((z * 2 % 18446744073709551616).toNat / 2)
  have e4 : 2 ^ 1 * ((z * 2 % 18446744073709551616).toNat / 2) = (z * 2 % 18446744073709551616).toNat := by omega
  rw [e4] at e3
  rw [Int.toNat_of_nonneg (by omega), ← e3] at h
  exact h.trans (by omega)
theorem and_127 (a : Nat) (ha : a < 9223372036854775808) : bits BinOp.and IntKind.i64 (a : Int) 127 = ((a % 128 : Nat) : Int) := by
  have h1 : (BitVec.ofInt 64 (a : Int)).toNat = a := by
    rw [BitVec.ofInt_natCast, BitVec.toNat_ofNat]; exact Nat.mod_eq_of_lt (by omega)
  have h2 : (BitVec.ofInt 64 (127 : Int)).toNat = 127 := by decide
  show IntKind.i64.wrap ((BitVec.ofInt 64 (a : Int) &&& BitVec.ofInt 64 (127 : Int)).toNat : Int) = _
  rw [BitVec.toNat_and, h1, h2, show a &&& 127 = a % 128 from Nat.and_two_pow_sub_one_eq_mod a 7, IntKind.wrap_i64]
  omega
theorem within_any (n l h : Int) (w : World) : Calls Try.prog 18 #[.int .i64 n, .int .i64 l, .int .i64 h] w fun e w' => e = .returned (.bool (wiB n l h)) ∧ w' = w := by
  unfold wiB
  by_cases h1 : l ≤ n
  · by_cases h2 : n ≤ h
    · go_enter Try.func18, Try.ntmps18
      go_wp2
      go_ret
      exact ⟨ret_bool (by simp [h1, h2]), rfl⟩
    · go_enter Try.func18, Try.ntmps18
      go_wp2
      go_ret
      exact ⟨ret_bool (by simp [h1, h2]), rfl⟩
  · go_enter Try.func18, Try.ntmps18
    go_wp2
    go_ret
    exact ⟨ret_bool (by simp; omega), rfl⟩
set_option maxHeartbeats 1000000 in
theorem ones_nat (n : Nat) (w : World) (hn : n < 18446744073709551616) : Calls Try.prog 30 #[.int .u64 n] w fun e w' => e = .returned (.int .i64 (cnt n 64)) ∧ w' = w := by
  have a1 := bits_and_u64_nat (n / 2) 6148914691236517205 (by omega) (by omega)
  have a2 := bits_and_u64_nat n 6148914691236517205 (by omega) (by omega)
  have l1 := s1_lt n
  have l2 := s2_lt n
  have l3 := s3_lt n hn
  have b1 := bits_and_u64_nat (s1N n / 4) 3689348814741910323 (by omega) (by omega)
  have b2 := bits_and_u64_nat (s1N n) 3689348814741910323 (by omega) (by omega)
  have c1 := bits_and_u64_nat (s2N n / 16 + s2N n) 1085102592571150095 (by omega) (by omega)
  rw [s3_is] at c1
  have e1 := s1_is n
  have e2 := s2_is n
  have e5 := s_out n hn
  generalize s1N n = x1 at *
  generalize s2N n = x2 at *
  generalize s3N n = x3 at *
  generalize n / 2 &&& 6148914691236517205 = y1 at *
  generalize n &&& 6148914691236517205 = y2 at *
  generalize x1 / 4 &&& 3689348814741910323 = y3 at *
  generalize x1 &&& 3689348814741910323 = y4 at *
  have e1' : (y1 : Int) + (y2 : Int) = (x1 : Int) := by omega
  have e2' : (y3 : Int) + (y4 : Int) = (x2 : Int) := by omega
  have a1' : bits BinOp.and IntKind.u64 ((n : Int) / 2) 6148914691236517205 = (y1 : Int) := by rw [show (n : Int) / 2 = ((n / 2 : Nat) : Int) by omega]; exact a1
  have a2' : bits BinOp.and IntKind.u64 (n : Int) 6148914691236517205 = (y2 : Int) := a2
  have b1' : bits BinOp.and IntKind.u64 ((x1 : Int) / 4) 3689348814741910323 = (y3 : Int) := by rw [show (x1 : Int) / 4 = ((x1 / 4 : Nat) : Int) by omega]; exact b1
  have b2' : bits BinOp.and IntKind.u64 (x1 : Int) 3689348814741910323 = (y4 : Int) := b2
  have c1' : bits BinOp.and IntKind.u64 ((x2 : Int) / 16 + x2) 1085102592571150095 = (x3 : Int) := by rw [show (x2 : Int) / 16 + x2 = ((x2 / 16 + x2 : Nat) : Int) by omega]; exact c1
  have l1' : (x1 : Int) ≤ 12297829382473034410 := by omega
  have l2' : (x2 : Int) ≤ 7378697629483820646 := by omega
  have l3' : (x3 : Int) ≤ 1085102592571150095 := by omega
  clear a1 a2 b1 b2 c1 e1 e2 l1 l2 l3
  have E5 := Hid.mk' e5
  clear e5
  go_enter Try.func30, Try.ntmps30
  go_wp2
  go_ret
  refine ⟨ret_int ?_, rfl⟩
  have h5 := E5.out
  have h6 := and_127 (x3 + x3 / 256 + (x3 + x3 / 256) / 65536 + (x3 + x3 / 256 + (x3 + x3 / 256) / 65536) / 4294967296) (by omega)
  rw [h5] at h6
  refine Eq.trans (congrArg (fun q => bits BinOp.and IntKind.i64 q 127) ?_) h6
  omega
theorem ones64_any (z : Int) (w : World) (h0 : 0 ≤ z) (h1 : z < 18446744073709551616) : Calls Try.prog 30 #[.int .u64 z] w fun e w' => e = .returned (.int .i64 (cnt z.toNat 64)) ∧ w' = w := by
  have h := ones_nat z.toNat w (by omega)
  rw [Int.toNat_of_nonneg h0] at h
  exact h
theorem stand_moved {z n : Int} (hz : 0 ≤ z) (h0 : 1 ≤ n) (h1 : n ≤ 64) : ((cnt (z * 2 ^ (64 - n).toNat % 18446744073709551616).toNat 64 : Nat) : Int) = stand z n := by
  unfold stand
  have e := cnt_moved z.toNat n.toNat (by omega)
  have e1 : (z * 2 ^ (64 - n).toNat % 18446744073709551616).toNat = z.toNat * 2 ^ (64 - n.toNat) % 18446744073709551616 := by
    rw [show (64 - n).toNat = 64 - n.toNat by omega]
    have : z = (z.toNat : Int) := by omega
    rw [this]
    have h2 : ((2 : Int) ^ (64 - n.toNat)) = ((2 ^ (64 - n.toNat) : Nat) : Int) := by simp
    rw [h2, ← Int.natCast_mul]
    simp only [Int.toNat_natCast]
    omega
  rw [e1, e]
theorem standing_any (z n : Int) (w : World) (h0 : 0 ≤ z) (h1 : z < 18446744073709551616) (h2 : 1 ≤ n) (h3 : n ≤ 64) : Calls Try.prog 21 #[.int .u64 z, .int .i64 n] w fun e w' => e = .returned (.int .i64 (stand z n)) ∧ w' = w := by
  have HS := Hid.mk' (stand_moved h0 h2 h3)
  go_enter Try.func21, Try.ntmps21
  go_wp2_with (go_at_call 30; rw [IntKind.wrap_u64]; refine (ones64_any _ _ (by omega) (by omega)).mono ?_; rintro e w' ⟨rfl, rfl⟩; rw [HS.out])
  go_ret
  exact ⟨rfl, rfl⟩
set_option maxHeartbeats 1000000 in
theorem mayBe_a (u : Bool) (a b c z : Int) (w : World) (h0 : 0 ≤ z) (h1 : z < 18446744073709551616) (ha : wiB a 0 1048576 = false) : Calls Try.prog 17 #[gaV ⟨u, a, b, c, z⟩] w fun e w' => e = .returned (.bool (mayG ⟨u, a, b, c, z⟩)) ∧ Kept w w' none := by
  have hz := and_one h0 h1
  rw [show mayG ⟨u, a, b, c, z⟩ = false by unfold mayG; dsimp only; rw [ha]; rfl]
  go_enter Try.func17, Try.ntmps17
  go_wp2_with (go_at_call 18; refine (within_any _ _ _ _).mono ?_; rintro e w' ⟨rfl, rfl⟩)
  go_ret
  exact ⟨ret_bool (by simp), Kept.alloc _ _ _ _ _⟩
set_option maxHeartbeats 1000000 in
theorem mayBe_b (u : Bool) (a b c z : Int) (w : World) (h0 : 0 ≤ z) (h1 : z < 18446744073709551616) (ha : wiB a 0 1048576 = true) (hb : wiB b 0 1048576 = false) : Calls Try.prog 17 #[gaV ⟨u, a, b, c, z⟩] w fun e w' => e = .returned (.bool (mayG ⟨u, a, b, c, z⟩)) ∧ Kept w w' none := by
  have hz := and_one h0 h1
  rw [show mayG ⟨u, a, b, c, z⟩ = false by unfold mayG; dsimp only; rw [ha, hb]; rfl]
  go_enter Try.func17, Try.ntmps17
  go_wp2_with (go_at_call 18; refine (within_any _ _ _ _).mono ?_; rintro e w' ⟨rfl, rfl⟩)
  go_ret
  exact ⟨ret_bool (by simp), Kept.alloc _ _ _ _ _⟩
set_option maxHeartbeats 1000000 in
theorem mayBe_c (u : Bool) (a b c z : Int) (w : World) (h0 : 0 ≤ z) (h1 : z < 18446744073709551616) (ha : wiB a 0 1048576 = true) (hb : wiB b 0 1048576 = true) (hc : wiB c 0 1073741824 = false) : Calls Try.prog 17 #[gaV ⟨u, a, b, c, z⟩] w fun e w' => e = .returned (.bool (mayG ⟨u, a, b, c, z⟩)) ∧ Kept w w' none := by
  have hz := and_one h0 h1
  rw [show mayG ⟨u, a, b, c, z⟩ = false by unfold mayG; dsimp only; rw [ha, hb, hc]; rfl]
  go_enter Try.func17, Try.ntmps17
  go_wp2_with (go_at_call 18; refine (within_any _ _ _ _).mono ?_; rintro e w' ⟨rfl, rfl⟩)
  go_ret
  exact ⟨ret_bool (by simp), Kept.alloc _ _ _ _ _⟩
set_option maxHeartbeats 1000000 in
theorem mayBe_un (u : Bool) (a b c z : Int) (w : World) (h0 : 0 ≤ z) (h1 : z < 18446744073709551616) (ha : wiB a 0 1048576 = true) (hb : wiB b 0 1048576 = true) (hc : wiB c 0 1073741824 = true) (hu : u = true) (hn : ¬ b = 0) : Calls Try.prog 17 #[gaV ⟨u, a, b, c, z⟩] w fun e w' => e = .returned (.bool (mayG ⟨u, a, b, c, z⟩)) ∧ Kept w w' none := by
  have hz := and_one h0 h1
  rw [show mayG ⟨u, a, b, c, z⟩ = false by unfold mayG; dsimp only; rw [ha, hb, hc, hu]; simp [hn]]
  have hn2 : (b == 0) = false := by simpa using hn
  clear hn
  subst hu
  go_enter Try.func17, Try.ntmps17
  go_wp2_with (go_at_call 18; refine (within_any _ _ _ _).mono ?_; rintro e w' ⟨rfl, rfl⟩)
  go_ret
  exact ⟨ret_bool (by simp), Kept.alloc _ _ _ _ _⟩
set_option maxHeartbeats 1000000 in
theorem mayBe_u1 (u : Bool) (a b c z : Int) (w : World) (h0 : 0 ≤ z) (h1 : z < 18446744073709551616) (ha : wiB a 0 1048576 = true) (hb : wiB b 0 1048576 = true) (hc : wiB c 0 1073741824 = true) (hu : u = true) (hn : b = 0) (hq : z % 2 = 1) : Calls Try.prog 17 #[gaV ⟨u, a, b, c, z⟩] w fun e w' => e = .returned (.bool (mayG ⟨u, a, b, c, z⟩)) ∧ Kept w w' none := by
  have hz := and_one h0 h1
  rw [show mayG ⟨u, a, b, c, z⟩ = true by unfold mayG; dsimp only; rw [ha, hb, hc, hu]; simp [hn, hq]]
  subst hn hu
  go_enter Try.func17, Try.ntmps17
  go_wp2_with (go_at_call 18; refine (within_any _ _ _ _).mono ?_; rintro e w' ⟨rfl, rfl⟩)
  go_ret
  exact ⟨ret_bool (by simp), Kept.alloc _ _ _ _ _⟩
set_option maxHeartbeats 1000000 in
theorem mayBe_u0 (u : Bool) (a b c z : Int) (w : World) (h0 : 0 ≤ z) (h1 : z < 18446744073709551616) (ha : wiB a 0 1048576 = true) (hb : wiB b 0 1048576 = true) (hc : wiB c 0 1073741824 = true) (hu : u = true) (hn : b = 0) (hq : z % 2 = 0) : Calls Try.prog 17 #[gaV ⟨u, a, b, c, z⟩] w fun e w' => e = .returned (.bool (mayG ⟨u, a, b, c, z⟩)) ∧ Kept w w' none := by
  have hz := and_one h0 h1
  rw [show mayG ⟨u, a, b, c, z⟩ = false by unfold mayG; dsimp only; rw [ha, hb, hc, hu]; simp [hn, hq]]
  subst hn hu
  go_enter Try.func17, Try.ntmps17
  go_wp2_with (go_at_call 18; refine (within_any _ _ _ _).mono ?_; rintro e w' ⟨rfl, rfl⟩)
  go_ret
  exact ⟨ret_bool (by simp), Kept.alloc _ _ _ _ _⟩
set_option maxHeartbeats 1000000 in
theorem mayBe_dn (u : Bool) (a b c z : Int) (w : World) (h0 : 0 ≤ z) (h1 : z < 18446744073709551616) (ha : wiB a 0 1048576 = true) (hb : wiB b 0 1048576 = true) (hc : wiB c 0 1073741824 = true) (hu : u = false) (hn : ¬ a = 0) : Calls Try.prog 17 #[gaV ⟨u, a, b, c, z⟩] w fun e w' => e = .returned (.bool (mayG ⟨u, a, b, c, z⟩)) ∧ Kept w w' none := by
  have hz := and_one h0 h1
  rw [show mayG ⟨u, a, b, c, z⟩ = false by unfold mayG; dsimp only; rw [ha, hb, hc, hu]; simp [hn]]
  have hn2 : (a == 0) = false := by simpa using hn
  clear hn
  subst hu
  go_enter Try.func17, Try.ntmps17
  go_wp2_with (go_at_call 18; refine (within_any _ _ _ _).mono ?_; rintro e w' ⟨rfl, rfl⟩)
  go_ret
  exact ⟨ret_bool (by simp), Kept.alloc _ _ _ _ _⟩
set_option maxHeartbeats 1000000 in
theorem mayBe_d1 (u : Bool) (a b c z : Int) (w : World) (h0 : 0 ≤ z) (h1 : z < 18446744073709551616) (ha : wiB a 0 1048576 = true) (hb : wiB b 0 1048576 = true) (hc : wiB c 0 1073741824 = true) (hu : u = false) (hn : a = 0) (hq : z % 2 = 1) : Calls Try.prog 17 #[gaV ⟨u, a, b, c, z⟩] w fun e w' => e = .returned (.bool (mayG ⟨u, a, b, c, z⟩)) ∧ Kept w w' none := by
  have hz := and_one h0 h1
  rw [show mayG ⟨u, a, b, c, z⟩ = false by unfold mayG; dsimp only; rw [ha, hb, hc, hu]; simp [hn, hq]]
  subst hn hu
  go_enter Try.func17, Try.ntmps17
  go_wp2_with (go_at_call 18; refine (within_any _ _ _ _).mono ?_; rintro e w' ⟨rfl, rfl⟩)
  go_ret
  exact ⟨ret_bool (by simp), Kept.alloc _ _ _ _ _⟩
set_option maxHeartbeats 1000000 in
theorem mayBe_d0 (u : Bool) (a b c z : Int) (w : World) (h0 : 0 ≤ z) (h1 : z < 18446744073709551616) (ha : wiB a 0 1048576 = true) (hb : wiB b 0 1048576 = true) (hc : wiB c 0 1073741824 = true) (hu : u = false) (hn : a = 0) (hq : z % 2 = 0) : Calls Try.prog 17 #[gaV ⟨u, a, b, c, z⟩] w fun e w' => e = .returned (.bool (mayG ⟨u, a, b, c, z⟩)) ∧ Kept w w' none := by
  have hz := and_one h0 h1
  rw [show mayG ⟨u, a, b, c, z⟩ = true by unfold mayG; dsimp only; rw [ha, hb, hc, hu]; simp [hn, hq]]
  subst hn hu
  go_enter Try.func17, Try.ntmps17
  go_wp2_with (go_at_call 18; refine (within_any _ _ _ _).mono ?_; rintro e w' ⟨rfl, rfl⟩)
  go_ret
  exact ⟨ret_bool (by simp), Kept.alloc _ _ _ _ _⟩
theorem mayBe_any (g : Ga) (w : World) (h0 : 0 ≤ g.last) (h1 : g.last < 18446744073709551616) : Calls Try.prog 17 #[gaV g] w fun e w' => e = .returned (.bool (mayG g)) ∧ Kept w w' none := by
  obtain ⟨u, a, b, c, z⟩ := g
  dsimp only at h0 h1
  cases ha : wiB a 0 1048576
  · exact mayBe_a u a b c z w h0 h1 ha
  cases hb : wiB b 0 1048576
  · exact mayBe_b u a b c z w h0 h1 ha hb
  cases hc : wiB c 0 1073741824
  · exact mayBe_c u a b c z w h0 h1 ha hb hc
  cases hu : u
  · rw [← hu]
    by_cases hn : a = 0
    · by_cases hq : z % 2 = 1
      · exact mayBe_d1 u a b c z w h0 h1 ha hb hc hu hn hq
      · exact mayBe_d0 u a b c z w h0 h1 ha hb hc hu hn (by omega)
    · exact mayBe_dn u a b c z w h0 h1 ha hb hc hu hn
  · rw [← hu]
    by_cases hn : b = 0
    · by_cases hq : z % 2 = 1
      · exact mayBe_u1 u a b c z w h0 h1 ha hb hc hu hn hq
      · exact mayBe_u0 u a b c z w h0 h1 ha hb hc hu hn (by omega)
    · exact mayBe_un u a b c z w h0 h1 ha hb hc hu hn
set_option maxHeartbeats 1000000 in
theorem later_dy (u q : Bool) (a b c z : Int) (w : World) (i0 : 0 ≤ a) (i1 : a ≤ 1048576) (i2 : 0 ≤ b) (i3 : b ≤ 1048576) (i4 : 0 ≤ c) (i5 : c ≤ 1073741824) (h0 : 0 ≤ z) (h1 : z < 18446744073709551616) (hu : u = false) (hm : b + 1 < 1048576) : Calls Try.prog 22 #[gaV ⟨q, a, b, c, z⟩, .bool u] w fun e w' => e = .returned (gaV ⟨false, 0, b + 1, c, z * 2 % 18446744073709551616⟩) ∧ Kept w w' none := by
  have hz : IntKind.u64.wrap (z * 2) = z * 2 % 18446744073709551616 := IntKind.wrap_u64 _
  have ho := or_one (z := z)
  have hb0 : 0 ≤ z * 2 % 18446744073709551616 := by omega
  have hb1 : z * 2 % 18446744073709551616 + 1 ≤ 18446744073709551615 := by omega
  generalize z * 2 % 18446744073709551616 = Z at *
  subst hu
  go_enter Try.func22, Try.ntmps22
  go_wp2
  refine bodyPost_ret (v := gaV _) (by simp [results, Try.results22, go_sem]; done) rfl ⟨rfl, ?_⟩
  exact (by (repeat (first | exact Kept.refl _ _ | (refine Kept.setNew ?_ (by simp <;> omega) _) | (refine Kept.tr ?_ (Kept.alloc _ _ _ _ _)))))
set_option maxHeartbeats 1000000 in
theorem later_dz (u q : Bool) (a b c z : Int) (w : World) (i0 : 0 ≤ a) (i1 : a ≤ 1048576) (i2 : 0 ≤ b) (i3 : b ≤ 1048576) (i4 : 0 ≤ c) (i5 : c ≤ 1073741824) (h0 : 0 ≤ z) (h1 : z < 18446744073709551616) (hu : u = false) (hm : b = 1048575) : Calls Try.prog 22 #[gaV ⟨q, a, b, c, z⟩, .bool u] w fun e w' => e = .returned (gaV ⟨false, 0, 1048576, c, z * 2 % 18446744073709551616⟩) ∧ Kept w w' none := by
  have hz : IntKind.u64.wrap (z * 2) = z * 2 % 18446744073709551616 := IntKind.wrap_u64 _
  have ho := or_one (z := z)
  have hb0 : 0 ≤ z * 2 % 18446744073709551616 := by omega
  have hb1 : z * 2 % 18446744073709551616 + 1 ≤ 18446744073709551615 := by omega
  generalize z * 2 % 18446744073709551616 = Z at *
  subst hu
  subst hm
  go_enter Try.func22, Try.ntmps22
  go_wp2
  refine bodyPost_ret (v := gaV _) (by simp [results, Try.results22, go_sem]; done) rfl ⟨rfl, ?_⟩
  exact (by (repeat (first | exact Kept.refl _ _ | (refine Kept.setNew ?_ (by simp <;> omega) _) | (refine Kept.tr ?_ (Kept.alloc _ _ _ _ _)))))
set_option maxHeartbeats 1000000 in
theorem later_dx (u q : Bool) (a b c z : Int) (w : World) (i0 : 0 ≤ a) (i1 : a ≤ 1048576) (i2 : 0 ≤ b) (i3 : b ≤ 1048576) (i4 : 0 ≤ c) (i5 : c ≤ 1073741824) (h0 : 0 ≤ z) (h1 : z < 18446744073709551616) (hu : u = false) (hm : b = 1048576) : Calls Try.prog 22 #[gaV ⟨q, a, b, c, z⟩, .bool u] w fun e w' => e = .returned (gaV ⟨false, 0, 1048576, c, z * 2 % 18446744073709551616⟩) ∧ Kept w w' none := by
  have hz : IntKind.u64.wrap (z * 2) = z * 2 % 18446744073709551616 := IntKind.wrap_u64 _
  have ho := or_one (z := z)
  have hb0 : 0 ≤ z * 2 % 18446744073709551616 := by omega
  have hb1 : z * 2 % 18446744073709551616 + 1 ≤ 18446744073709551615 := by omega
  generalize z * 2 % 18446744073709551616 = Z at *
  subst hu
  subst hm
  go_enter Try.func22, Try.ntmps22
  go_wp2
  refine bodyPost_ret (v := gaV _) (by simp [results, Try.results22, go_sem]; done) rfl ⟨rfl, ?_⟩
  exact (by (repeat (first | exact Kept.refl _ _ | (refine Kept.setNew ?_ (by simp <;> omega) _) | (refine Kept.tr ?_ (Kept.alloc _ _ _ _ _)))))
set_option maxHeartbeats 1000000 in
theorem later_uy (u q : Bool) (a b c z : Int) (w : World) (i0 : 0 ≤ a) (i1 : a ≤ 1048576) (i2 : 0 ≤ b) (i3 : b ≤ 1048576) (i4 : 0 ≤ c) (i5 : c ≤ 1073741824) (h0 : 0 ≤ z) (h1 : z < 18446744073709551616) (hu : u = true) (hq : q = true) (hm : a + 1 < 1048576) : Calls Try.prog 22 #[gaV ⟨q, a, b, c, z⟩, .bool u] w fun e w' => e = .returned (gaV ⟨true, a + 1, 0, c, z * 2 % 18446744073709551616 + 1⟩) ∧ Kept w w' none := by
  have hz : IntKind.u64.wrap (z * 2) = z * 2 % 18446744073709551616 := IntKind.wrap_u64 _
  have ho := or_one (z := z)
  have hb0 : 0 ≤ z * 2 % 18446744073709551616 := by omega
  have hb1 : z * 2 % 18446744073709551616 + 1 ≤ 18446744073709551615 := by omega
  generalize z * 2 % 18446744073709551616 = Z at *
  subst hu hq
  go_enter Try.func22, Try.ntmps22
  go_wp2
  refine bodyPost_ret (v := gaV _) (by simp [results, Try.results22, go_sem]; done) rfl ⟨rfl, ?_⟩
  exact (by (repeat (first | exact Kept.refl _ _ | (refine Kept.setNew ?_ (by simp <;> omega) _) | (refine Kept.tr ?_ (Kept.alloc _ _ _ _ _)))))
set_option maxHeartbeats 1000000 in
theorem later_uz (u q : Bool) (a b c z : Int) (w : World) (i0 : 0 ≤ a) (i1 : a ≤ 1048576) (i2 : 0 ≤ b) (i3 : b ≤ 1048576) (i4 : 0 ≤ c) (i5 : c ≤ 1073741824) (h0 : 0 ≤ z) (h1 : z < 18446744073709551616) (hu : u = true) (hq : q = true) (hm : a = 1048575) : Calls Try.prog 22 #[gaV ⟨q, a, b, c, z⟩, .bool u] w fun e w' => e = .returned (gaV ⟨true, 1048576, 0, c, z * 2 % 18446744073709551616 + 1⟩) ∧ Kept w w' none := by
  have hz : IntKind.u64.wrap (z * 2) = z * 2 % 18446744073709551616 := IntKind.wrap_u64 _
  have ho := or_one (z := z)
  have hb0 : 0 ≤ z * 2 % 18446744073709551616 := by omega
  have hb1 : z * 2 % 18446744073709551616 + 1 ≤ 18446744073709551615 := by omega
  generalize z * 2 % 18446744073709551616 = Z at *
  subst hu hq
  subst hm
  go_enter Try.func22, Try.ntmps22
  go_wp2
  refine bodyPost_ret (v := gaV _) (by simp [results, Try.results22, go_sem]; done) rfl ⟨rfl, ?_⟩
  exact (by (repeat (first | exact Kept.refl _ _ | (refine Kept.setNew ?_ (by simp <;> omega) _) | (refine Kept.tr ?_ (Kept.alloc _ _ _ _ _)))))
set_option maxHeartbeats 1000000 in
theorem later_ux (u q : Bool) (a b c z : Int) (w : World) (i0 : 0 ≤ a) (i1 : a ≤ 1048576) (i2 : 0 ≤ b) (i3 : b ≤ 1048576) (i4 : 0 ≤ c) (i5 : c ≤ 1073741824) (h0 : 0 ≤ z) (h1 : z < 18446744073709551616) (hu : u = true) (hq : q = true) (hm : a = 1048576) : Calls Try.prog 22 #[gaV ⟨q, a, b, c, z⟩, .bool u] w fun e w' => e = .returned (gaV ⟨true, 1048576, 0, c, z * 2 % 18446744073709551616 + 1⟩) ∧ Kept w w' none := by
  have hz : IntKind.u64.wrap (z * 2) = z * 2 % 18446744073709551616 := IntKind.wrap_u64 _
  have ho := or_one (z := z)
  have hb0 : 0 ≤ z * 2 % 18446744073709551616 := by omega
  have hb1 : z * 2 % 18446744073709551616 + 1 ≤ 18446744073709551615 := by omega
  generalize z * 2 % 18446744073709551616 = Z at *
  subst hu hq
  subst hm
  go_enter Try.func22, Try.ntmps22
  go_wp2
  refine bodyPost_ret (v := gaV _) (by simp [results, Try.results22, go_sem]; done) rfl ⟨rfl, ?_⟩
  exact (by (repeat (first | exact Kept.refl _ _ | (refine Kept.setNew ?_ (by simp <;> omega) _) | (refine Kept.tr ?_ (Kept.alloc _ _ _ _ _)))))
set_option maxHeartbeats 1000000 in
theorem later_nyy (u q : Bool) (a b c z : Int) (w : World) (i0 : 0 ≤ a) (i1 : a ≤ 1048576) (i2 : 0 ≤ b) (i3 : b ≤ 1048576) (i4 : 0 ≤ c) (i5 : c ≤ 1073741824) (h0 : 0 ≤ z) (h1 : z < 18446744073709551616) (hu : u = true) (hq : q = false) (hm : a + 1 < 1048576) (hk : c + 1 < 1073741824) : Calls Try.prog 22 #[gaV ⟨q, a, b, c, z⟩, .bool u] w fun e w' => e = .returned (gaV ⟨true, a + 1, 0, c + 1, z * 2 % 18446744073709551616 + 1⟩) ∧ Kept w w' none := by
  have hz : IntKind.u64.wrap (z * 2) = z * 2 % 18446744073709551616 := IntKind.wrap_u64 _
  have ho := or_one (z := z)
  have hb0 : 0 ≤ z * 2 % 18446744073709551616 := by omega
  have hb1 : z * 2 % 18446744073709551616 + 1 ≤ 18446744073709551615 := by omega
  generalize z * 2 % 18446744073709551616 = Z at *
  subst hu hq
  go_enter Try.func22, Try.ntmps22
  go_wp2
  refine bodyPost_ret (v := gaV _) (by simp [results, Try.results22, go_sem]; done) rfl ⟨rfl, ?_⟩
  exact (by (repeat (first | exact Kept.refl _ _ | (refine Kept.setNew ?_ (by simp <;> omega) _) | (refine Kept.tr ?_ (Kept.alloc _ _ _ _ _)))))
set_option maxHeartbeats 1000000 in
theorem later_nyz (u q : Bool) (a b c z : Int) (w : World) (i0 : 0 ≤ a) (i1 : a ≤ 1048576) (i2 : 0 ≤ b) (i3 : b ≤ 1048576) (i4 : 0 ≤ c) (i5 : c ≤ 1073741824) (h0 : 0 ≤ z) (h1 : z < 18446744073709551616) (hu : u = true) (hq : q = false) (hm : a + 1 < 1048576) (hk : c = 1073741823) : Calls Try.prog 22 #[gaV ⟨q, a, b, c, z⟩, .bool u] w fun e w' => e = .returned (gaV ⟨true, a + 1, 0, 1073741824, z * 2 % 18446744073709551616 + 1⟩) ∧ Kept w w' none := by
  have hz : IntKind.u64.wrap (z * 2) = z * 2 % 18446744073709551616 := IntKind.wrap_u64 _
  have ho := or_one (z := z)
  have hb0 : 0 ≤ z * 2 % 18446744073709551616 := by omega
  have hb1 : z * 2 % 18446744073709551616 + 1 ≤ 18446744073709551615 := by omega
  generalize z * 2 % 18446744073709551616 = Z at *
  subst hu hq
  subst hk
  go_enter Try.func22, Try.ntmps22
  go_wp2
  refine bodyPost_ret (v := gaV _) (by simp [results, Try.results22, go_sem]; done) rfl ⟨rfl, ?_⟩
  exact (by (repeat (first | exact Kept.refl _ _ | (refine Kept.setNew ?_ (by simp <;> omega) _) | (refine Kept.tr ?_ (Kept.alloc _ _ _ _ _)))))
set_option maxHeartbeats 1000000 in
theorem later_nyx (u q : Bool) (a b c z : Int) (w : World) (i0 : 0 ≤ a) (i1 : a ≤ 1048576) (i2 : 0 ≤ b) (i3 : b ≤ 1048576) (i4 : 0 ≤ c) (i5 : c ≤ 1073741824) (h0 : 0 ≤ z) (h1 : z < 18446744073709551616) (hu : u = true) (hq : q = false) (hm : a + 1 < 1048576) (hk : c = 1073741824) : Calls Try.prog 22 #[gaV ⟨q, a, b, c, z⟩, .bool u] w fun e w' => e = .returned (gaV ⟨true, a + 1, 0, 1073741824, z * 2 % 18446744073709551616 + 1⟩) ∧ Kept w w' none := by
  have hz : IntKind.u64.wrap (z * 2) = z * 2 % 18446744073709551616 := IntKind.wrap_u64 _
  have ho := or_one (z := z)
  have hb0 : 0 ≤ z * 2 % 18446744073709551616 := by omega
  have hb1 : z * 2 % 18446744073709551616 + 1 ≤ 18446744073709551615 := by omega
  generalize z * 2 % 18446744073709551616 = Z at *
  subst hu hq
  subst hk
  go_enter Try.func22, Try.ntmps22
  go_wp2
  refine bodyPost_ret (v := gaV _) (by simp [results, Try.results22, go_sem]; done) rfl ⟨rfl, ?_⟩
  exact (by (repeat (first | exact Kept.refl _ _ | (refine Kept.setNew ?_ (by simp <;> omega) _) | (refine Kept.tr ?_ (Kept.alloc _ _ _ _ _)))))
set_option maxHeartbeats 1000000 in
theorem later_nzy (u q : Bool) (a b c z : Int) (w : World) (i0 : 0 ≤ a) (i1 : a ≤ 1048576) (i2 : 0 ≤ b) (i3 : b ≤ 1048576) (i4 : 0 ≤ c) (i5 : c ≤ 1073741824) (h0 : 0 ≤ z) (h1 : z < 18446744073709551616) (hu : u = true) (hq : q = false) (hm : a = 1048575) (hk : c + 1 < 1073741824) : Calls Try.prog 22 #[gaV ⟨q, a, b, c, z⟩, .bool u] w fun e w' => e = .returned (gaV ⟨true, 1048576, 0, c + 1, z * 2 % 18446744073709551616 + 1⟩) ∧ Kept w w' none := by
  have hz : IntKind.u64.wrap (z * 2) = z * 2 % 18446744073709551616 := IntKind.wrap_u64 _
  have ho := or_one (z := z)
  have hb0 : 0 ≤ z * 2 % 18446744073709551616 := by omega
  have hb1 : z * 2 % 18446744073709551616 + 1 ≤ 18446744073709551615 := by omega
  generalize z * 2 % 18446744073709551616 = Z at *
  subst hu hq
  subst hm
  go_enter Try.func22, Try.ntmps22
  go_wp2
  refine bodyPost_ret (v := gaV _) (by simp [results, Try.results22, go_sem]; done) rfl ⟨rfl, ?_⟩
  exact (by (repeat (first | exact Kept.refl _ _ | (refine Kept.setNew ?_ (by simp <;> omega) _) | (refine Kept.tr ?_ (Kept.alloc _ _ _ _ _)))))
set_option maxHeartbeats 1000000 in
theorem later_nzz (u q : Bool) (a b c z : Int) (w : World) (i0 : 0 ≤ a) (i1 : a ≤ 1048576) (i2 : 0 ≤ b) (i3 : b ≤ 1048576) (i4 : 0 ≤ c) (i5 : c ≤ 1073741824) (h0 : 0 ≤ z) (h1 : z < 18446744073709551616) (hu : u = true) (hq : q = false) (hm : a = 1048575) (hk : c = 1073741823) : Calls Try.prog 22 #[gaV ⟨q, a, b, c, z⟩, .bool u] w fun e w' => e = .returned (gaV ⟨true, 1048576, 0, 1073741824, z * 2 % 18446744073709551616 + 1⟩) ∧ Kept w w' none := by
  have hz : IntKind.u64.wrap (z * 2) = z * 2 % 18446744073709551616 := IntKind.wrap_u64 _
  have ho := or_one (z := z)
  have hb0 : 0 ≤ z * 2 % 18446744073709551616 := by omega
  have hb1 : z * 2 % 18446744073709551616 + 1 ≤ 18446744073709551615 := by omega
  generalize z * 2 % 18446744073709551616 = Z at *
  subst hu hq
  subst hm
  subst hk
  go_enter Try.func22, Try.ntmps22
  go_wp2
  refine bodyPost_ret (v := gaV _) (by simp [results, Try.results22, go_sem]; done) rfl ⟨rfl, ?_⟩
  exact (by (repeat (first | exact Kept.refl _ _ | (refine Kept.setNew ?_ (by simp <;> omega) _) | (refine Kept.tr ?_ (Kept.alloc _ _ _ _ _)))))
set_option maxHeartbeats 1000000 in
theorem later_nzx (u q : Bool) (a b c z : Int) (w : World) (i0 : 0 ≤ a) (i1 : a ≤ 1048576) (i2 : 0 ≤ b) (i3 : b ≤ 1048576) (i4 : 0 ≤ c) (i5 : c ≤ 1073741824) (h0 : 0 ≤ z) (h1 : z < 18446744073709551616) (hu : u = true) (hq : q = false) (hm : a = 1048575) (hk : c = 1073741824) : Calls Try.prog 22 #[gaV ⟨q, a, b, c, z⟩, .bool u] w fun e w' => e = .returned (gaV ⟨true, 1048576, 0, 1073741824, z * 2 % 18446744073709551616 + 1⟩) ∧ Kept w w' none := by
  have hz : IntKind.u64.wrap (z * 2) = z * 2 % 18446744073709551616 := IntKind.wrap_u64 _
  have ho := or_one (z := z)
  have hb0 : 0 ≤ z * 2 % 18446744073709551616 := by omega
  have hb1 : z * 2 % 18446744073709551616 + 1 ≤ 18446744073709551615 := by omega
  generalize z * 2 % 18446744073709551616 = Z at *
  subst hu hq
  subst hm
  subst hk
  go_enter Try.func22, Try.ntmps22
  go_wp2
  refine bodyPost_ret (v := gaV _) (by simp [results, Try.results22, go_sem]; done) rfl ⟨rfl, ?_⟩
  exact (by (repeat (first | exact Kept.refl _ _ | (refine Kept.setNew ?_ (by simp <;> omega) _) | (refine Kept.tr ?_ (Kept.alloc _ _ _ _ _)))))
set_option maxHeartbeats 1000000 in
theorem later_nxy (u q : Bool) (a b c z : Int) (w : World) (i0 : 0 ≤ a) (i1 : a ≤ 1048576) (i2 : 0 ≤ b) (i3 : b ≤ 1048576) (i4 : 0 ≤ c) (i5 : c ≤ 1073741824) (h0 : 0 ≤ z) (h1 : z < 18446744073709551616) (hu : u = true) (hq : q = false) (hm : a = 1048576) (hk : c + 1 < 1073741824) : Calls Try.prog 22 #[gaV ⟨q, a, b, c, z⟩, .bool u] w fun e w' => e = .returned (gaV ⟨true, 1048576, 0, c + 1, z * 2 % 18446744073709551616 + 1⟩) ∧ Kept w w' none := by
  have hz : IntKind.u64.wrap (z * 2) = z * 2 % 18446744073709551616 := IntKind.wrap_u64 _
  have ho := or_one (z := z)
  have hb0 : 0 ≤ z * 2 % 18446744073709551616 := by omega
  have hb1 : z * 2 % 18446744073709551616 + 1 ≤ 18446744073709551615 := by omega
  generalize z * 2 % 18446744073709551616 = Z at *
  subst hu hq
  subst hm
  go_enter Try.func22, Try.ntmps22
  go_wp2
  refine bodyPost_ret (v := gaV _) (by simp [results, Try.results22, go_sem]; done) rfl ⟨rfl, ?_⟩
  exact (by (repeat (first | exact Kept.refl _ _ | (refine Kept.setNew ?_ (by simp <;> omega) _) | (refine Kept.tr ?_ (Kept.alloc _ _ _ _ _)))))
set_option maxHeartbeats 1000000 in
theorem later_nxz (u q : Bool) (a b c z : Int) (w : World) (i0 : 0 ≤ a) (i1 : a ≤ 1048576) (i2 : 0 ≤ b) (i3 : b ≤ 1048576) (i4 : 0 ≤ c) (i5 : c ≤ 1073741824) (h0 : 0 ≤ z) (h1 : z < 18446744073709551616) (hu : u = true) (hq : q = false) (hm : a = 1048576) (hk : c = 1073741823) : Calls Try.prog 22 #[gaV ⟨q, a, b, c, z⟩, .bool u] w fun e w' => e = .returned (gaV ⟨true, 1048576, 0, 1073741824, z * 2 % 18446744073709551616 + 1⟩) ∧ Kept w w' none := by
  have hz : IntKind.u64.wrap (z * 2) = z * 2 % 18446744073709551616 := IntKind.wrap_u64 _
  have ho := or_one (z := z)
  have hb0 : 0 ≤ z * 2 % 18446744073709551616 := by omega
  have hb1 : z * 2 % 18446744073709551616 + 1 ≤ 18446744073709551615 := by omega
  generalize z * 2 % 18446744073709551616 = Z at *
  subst hu hq
  subst hm
  subst hk
  go_enter Try.func22, Try.ntmps22
  go_wp2
  refine bodyPost_ret (v := gaV _) (by simp [results, Try.results22, go_sem]; done) rfl ⟨rfl, ?_⟩
  exact (by (repeat (first | exact Kept.refl _ _ | (refine Kept.setNew ?_ (by simp <;> omega) _) | (refine Kept.tr ?_ (Kept.alloc _ _ _ _ _)))))
set_option maxHeartbeats 1000000 in
theorem later_nxx (u q : Bool) (a b c z : Int) (w : World) (i0 : 0 ≤ a) (i1 : a ≤ 1048576) (i2 : 0 ≤ b) (i3 : b ≤ 1048576) (i4 : 0 ≤ c) (i5 : c ≤ 1073741824) (h0 : 0 ≤ z) (h1 : z < 18446744073709551616) (hu : u = true) (hq : q = false) (hm : a = 1048576) (hk : c = 1073741824) : Calls Try.prog 22 #[gaV ⟨q, a, b, c, z⟩, .bool u] w fun e w' => e = .returned (gaV ⟨true, 1048576, 0, 1073741824, z * 2 % 18446744073709551616 + 1⟩) ∧ Kept w w' none := by
  have hz : IntKind.u64.wrap (z * 2) = z * 2 % 18446744073709551616 := IntKind.wrap_u64 _
  have ho := or_one (z := z)
  have hb0 : 0 ≤ z * 2 % 18446744073709551616 := by omega
  have hb1 : z * 2 % 18446744073709551616 + 1 ≤ 18446744073709551615 := by omega
  generalize z * 2 % 18446744073709551616 = Z at *
  subst hu hq
  subst hm
  subst hk
  go_enter Try.func22, Try.ntmps22
  go_wp2
  refine bodyPost_ret (v := gaV _) (by simp [results, Try.results22, go_sem]; done) rfl ⟨rfl, ?_⟩
  exact (by (repeat (first | exact Kept.refl _ _ | (refine Kept.setNew ?_ (by simp <;> omega) _) | (refine Kept.tr ?_ (Kept.alloc _ _ _ _ _)))))
theorem later_any (g : Ga) (u : Bool) (w : World) (hg : mayG g = true) (h0 : 0 ≤ g.last) (h1 : g.last < 18446744073709551616) : Calls Try.prog 22 #[gaV g, .bool u] w fun e w' => e = .returned (gaV (stepG g u)) ∧ Kept w w' none := by
  obtain ⟨i0, i1, i2, i3, i4, i5, _, _, _⟩ := may_iff.1 hg
  obtain ⟨q, a, b, c, z⟩ := g
  dsimp only at *
  unfold stepG lasG
  dsimp only
  cases hu : u
  · rw [← hu, if_neg (by rw [hu]; decide), if_neg (by rw [hu]; decide), if_neg (by rw [hu]; simp), if_neg (by rw [hu]; decide), hu]
    unfold incG
    by_cases hm : b + 1 < 1048576
    · rw [if_pos hm]; exact later_dy _ q a b c z w i0 i1 i2 i3 i4 i5 h0 h1 rfl hm
    · rw [if_neg hm]
      by_cases hk : b = 1048575
      · exact later_dz _ q a b c z w i0 i1 i2 i3 i4 i5 h0 h1 rfl hk
      · exact later_dx _ q a b c z w i0 i1 i2 i3 i4 i5 h0 h1 rfl (by omega)
  · rw [if_pos rfl, if_pos rfl, if_pos rfl]
    cases hq : q
    · rw [if_pos ⟨rfl, rfl⟩]
      unfold incG
      by_cases hm : a + 1 < 1048576
      · rw [if_pos hm]
        by_cases hn : c + 1 < 1073741824
        · rw [if_pos hn]; exact later_nyy _ _ a b c z w i0 i1 i2 i3 i4 i5 h0 h1 rfl rfl hm hn
        · rw [if_neg hn]
          by_cases hl : c = 1073741823
          · exact later_nyz _ _ a b c z w i0 i1 i2 i3 i4 i5 h0 h1 rfl rfl hm hl
          · exact later_nyx _ _ a b c z w i0 i1 i2 i3 i4 i5 h0 h1 rfl rfl hm (by omega)
      · rw [if_neg hm]
        by_cases hk : a = 1048575
        · by_cases hn : c + 1 < 1073741824
          · rw [if_pos hn]; exact later_nzy _ _ a b c z w i0 i1 i2 i3 i4 i5 h0 h1 rfl rfl hk hn
          · rw [if_neg hn]
            by_cases hl : c = 1073741823
            · exact later_nzz _ _ a b c z w i0 i1 i2 i3 i4 i5 h0 h1 rfl rfl hk hl
            · exact later_nzx _ _ a b c z w i0 i1 i2 i3 i4 i5 h0 h1 rfl rfl hk (by omega)
        · have hk : a = 1048576 := by omega
          by_cases hn : c + 1 < 1073741824
          · rw [if_pos hn]; exact later_nxy _ _ a b c z w i0 i1 i2 i3 i4 i5 h0 h1 rfl rfl hk hn
          · rw [if_neg hn]
            by_cases hl : c = 1073741823
            · exact later_nxz _ _ a b c z w i0 i1 i2 i3 i4 i5 h0 h1 rfl rfl hk hl
            · exact later_nxx _ _ a b c z w i0 i1 i2 i3 i4 i5 h0 h1 rfl rfl hk (by omega)
    · rw [if_neg (by simp)]
      unfold incG
      by_cases hm : a + 1 < 1048576
      · rw [if_pos hm]; exact later_uy _ _ a b c z w i0 i1 i2 i3 i4 i5 h0 h1 rfl rfl hm
      · rw [if_neg hm]
        by_cases hk : a = 1048575
        · exact later_uz _ _ a b c z w i0 i1 i2 i3 i4 i5 h0 h1 rfl rfl hk
        · exact later_ux _ _ a b c z w i0 i1 i2 i3 i4 i5 h0 h1 rfl rfl (by omega)

end Go.Proofs.Ytcckpdgknjjjmaa
