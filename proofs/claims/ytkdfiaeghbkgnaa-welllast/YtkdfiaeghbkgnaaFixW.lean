/-
  THE CONTRACTS of package fix, function by function: what each call answers over integers; the world is as it was.
-/
import Derived.Test.YtkdfiaeghbkgnaaRows
import Derived.Test.YtkdfiaeghbkgnaaFixM
import Derived.Test.YtkdfiaeghbkgnaaWorld
import Derived.WalkKit
import Derived.WalkSpells
import Derived.Laws.Bits64b
namespace Go.Proofs.Ytkdfiaeghbkgnaa
open Go.RowKit Go.Lib
set_option linter.unusedVariables false


/-- fix.stop. -/
theorem stop_any (x : Int) (w : World) : Calls Try.prog 20 #[.int .i64 x] w fun e w' => e = .returned (.int .i64 (stF x)) ∧ w' = w := by
  by_cases h1 : 70368744177664 < x
  · rw [stF_hi h1]
    go_enter Try.func20, Try.ntmps20
    go_wp2
    go_ret
    exact ⟨rfl, rfl⟩
  · by_cases h2 : x < -70368744177664
    · rw [stF_lo h2]
      go_enter Try.func20, Try.ntmps20
      go_wp2
      go_ret
      exact ⟨rfl, rfl⟩
    · rw [stF_id (by omega) (by omega)]
      go_enter Try.func20, Try.ntmps20
      go_wp2
      go_ret
      exact ⟨rfl, rfl⟩

/-- The two words of a wide number, shifted by 16. -/
theorem per_lo (n : Int) : bits BinOp.or IntKind.u64 (IntKind.u64.wrap (IntKind.u64.wrap (hiW n) * 281474976710656)) (loW n / 65536) = loW (n / 65536) := by
  have l0 := loW_ge n
  have l1 := loW_lt n
  have e1 : IntKind.u64.wrap (IntKind.u64.wrap (hiW n) * 281474976710656) = ((281474976710656 * (hiW n % 65536).toNat : Nat) : Int) := by
    rw [IntKind.wrap_u64, IntKind.wrap_u64]; omega
  have e2 : loW n / 65536 = ((loW n / 65536).toNat : Int) := by omega
  have h := bits_or_u64_nat (281474976710656 * (hiW n % 65536).toNat) (loW n / 65536).toNat (by omega) (by omega)
  have e3 := Nat.two_pow_add_eq_or_of_lt (i := 48) (b := (loW n / 65536).toNat) (by omega) (hiW n % 65536).toNat
  rw [e1, e2, h]
  have e4 : (281474976710656 : Nat) = 2 ^ 48 := by decide
  rw [e4, ← e3, ← e4]
  have := wide_hi_lo n
  unfold wide at this
  unfold loW hiW at *
  omega
theorem per_hi (n : Int) : hiW n / 65536 = hiW (n / 65536) := by unfold hiW; omega

/-- fix.stopWide. -/
theorem wide_hi {n : Int} (h : 70368744177664 < n) : 0 < hiW n ∨ (hiW n = 0 ∧ 70368744177664 < loW n) := by unfold hiW loW; omega
theorem wide_lo {n : Int} (h : n < -70368744177664) : hiW n < -1 ∨ (hiW n = -1 ∧ loW n < 18446673704965373952) := by unfold hiW loW; omega
theorem wide_pos {n : Int} (h : 0 ≤ n) (h' : n ≤ 70368744177664) : hiW n = 0 ∧ loW n = n := by unfold hiW loW; omega
theorem wide_neg {n : Int} (h : n < 0) (h' : -70368744177664 ≤ n) : hiW n = -1 ∧ 18446673704965373952 ≤ loW n ∧ wrap64 (loW n) = n := by unfold wrap64 hiW loW; omega
theorem stopWide_any (n : Int) (w : World) :
    Calls Try.prog 22 #[.int .i64 (hiW n), .int .u64 (loW n)] w fun e w' => e = .returned (.int .i64 (stF n)) ∧ w' = w := by
  have l0 := loW_ge n
  by_cases h1 : 70368744177664 < n
  · rw [stF_hi h1]
    rcases wide_hi h1 with g | ⟨g, g'⟩
    · go_enter Try.func22, Try.ntmps22
      go_wp2
      go_ret
      exact ⟨rfl, rfl⟩
    · go_enter Try.func22, Try.ntmps22
      go_wp2
      go_ret
      exact ⟨rfl, rfl⟩
  · by_cases h2 : n < -70368744177664
    · rw [stF_lo h2]
      rcases wide_lo h2 with g | ⟨g, g'⟩
      · go_enter Try.func22, Try.ntmps22
        go_wp2
        go_ret
        exact ⟨rfl, rfl⟩
      · go_enter Try.func22, Try.ntmps22
        go_wp2
        go_ret
        exact ⟨rfl, rfl⟩
    · rw [stF_id (by omega) (by omega)]
      by_cases h3 : n < 0
      · obtain ⟨g1, g2, g3⟩ := wide_neg h3 (by omega)
        have G : Hid (wrap64 (loW n) = n) := g3
        clear g3
        go_enter Try.func22, Try.ntmps22
        go_wp2
        go_ret
        exact ⟨ret_int G.out, rfl⟩
      · obtain ⟨g1, g2⟩ := wide_pos (show 0 ≤ n by omega) (by omega)
        have g3 : loW n ≤ 70368744177664 := by omega
        have G : Hid (loW n = n) := g2
        clear g2
        go_enter Try.func22, Try.ntmps22
        go_wp2
        go_ret
        exact ⟨ret_int G.out, rfl⟩

/-! ### math/bits.Mul64, walked in this program's own text: two words in halves of 32 bits; each step fits a word. -/
theorem half_of {a : Int} (h0 : 0 ≤ a) (h1 : a < 18446744073709551616) : bits BinOp.and IntKind.u64 a 4294967295 = a % 4294967296 := by
  have h := bits_and_u64_nat a.toNat 4294967295 (by omega) (by omega)
  rw [Int.toNat_of_nonneg h0, show a.toNat &&& 4294967295 = a.toNat % 4294967296 from Nat.and_two_pow_sub_one_eq_mod a.toNat 32] at h
  exact h.trans (by omega)
theorem halves {X Y : Int} (hX : 0 ≤ X) (hX' : X < 18446744073709551616) (hY : 0 ≤ Y) (hY' : Y < 18446744073709551616) :
    (0 ≤ X % 4294967296 * (Y % 4294967296) ∧ X % 4294967296 * (Y % 4294967296) ≤ 18446744065119617025) ∧
    (0 ≤ X / 4294967296 * (Y % 4294967296) ∧ X / 4294967296 * (Y % 4294967296) ≤ 18446744065119617025) ∧
    (0 ≤ X % 4294967296 * (Y / 4294967296) ∧ X % 4294967296 * (Y / 4294967296) ≤ 18446744065119617025) ∧
    (0 ≤ X / 4294967296 * (Y / 4294967296) ∧ X / 4294967296 * (Y / 4294967296) ≤ 18446744065119617025) ∧
    X * Y = X / 4294967296 * (Y / 4294967296) * 18446744073709551616 + (X / 4294967296 * (Y % 4294967296) + X % 4294967296 * (Y / 4294967296)) * 4294967296 + X % 4294967296 * (Y % 4294967296) := by
  refine ⟨mul_le_of (A := 4294967295) (B := 4294967295) (by omega) (by omega) (by omega) (by omega), mul_le_of (A := 4294967295) (B := 4294967295) (by omega) (by omega) (by omega) (by omega), mul_le_of (A := 4294967295) (B := 4294967295) (by omega) (by omega) (by omega) (by omega), mul_le_of (A := 4294967295) (B := 4294967295) (by omega) (by omega) (by omega) (by omega), ?_⟩
  have eX : X = X / 4294967296 * 4294967296 + X % 4294967296 := by omega
  have eY : Y = Y / 4294967296 * 4294967296 + Y % 4294967296 := by omega
  generalize X / 4294967296 = x1 at *
  generalize X % 4294967296 = x0 at *
  generalize Y / 4294967296 = y1 at *
  generalize Y % 4294967296 = y0 at *
  rw [eX, eY, Int.add_mul, Int.mul_add, Int.mul_add, Int.mul_right_comm x1 4294967296 y0, ← Int.mul_assoc x0 y1 4294967296, Int.mul_assoc x1 4294967296 (y1 * 4294967296), Int.mul_left_comm 4294967296 y1 4294967296, ← Int.mul_assoc x1 y1]
  generalize x1 * y1 = p at *
  generalize x1 * y0 = q at *
  generalize x0 * y1 = r at *
  generalize x0 * y0 = s at *
  omega
set_option maxHeartbeats 1000000 in
theorem mul64_int (x y : Int) (w : World) (h0 : 0 ≤ x) (h1 : x < 18446744073709551616) (h2 : 0 ≤ y) (h3 : y < 18446744073709551616) :
    Calls Try.prog 26 #[.int .u64 x, .int .u64 y] w fun e w' => e = .returned (.tuple #[.int .u64 (hiW (x * y)), .int .u64 (loW (x * y))]) ∧ w' = w := by
  have ex := half_of h0 h1
  have ey := half_of h2 h3
  obtain ⟨⟨d1, d2⟩, ⟨d3, d4⟩, ⟨d5, d6⟩, ⟨d7, d8⟩, d9⟩ := halves h0 h1 h2 h3
  have et := half_of (a := x / 4294967296 * (y % 4294967296) + x % 4294967296 * (y % 4294967296) / 4294967296) (by omega) (by omega)
  have D : Hid (x * y = _) := d9
  clear d9
  have bh : x / 4294967296 * (y / 4294967296) + (x / 4294967296 * (y % 4294967296) + x % 4294967296 * (y % 4294967296) / 4294967296) / 4294967296 + ((x / 4294967296 * (y % 4294967296) + x % 4294967296 * (y % 4294967296) / 4294967296) % 4294967296 + x % 4294967296 * (y / 4294967296)) / 4294967296 ≤ 18446744073709551615 := by
    have hh := (mul_le_of (a := x) (b := y) (A := 18446744073709551615) (B := 18446744073709551615) h0 (by omega) h2 (by omega)).2
    rw [D.out] at hh
    generalize x / 4294967296 * (y / 4294967296) = p at *
    generalize x / 4294967296 * (y % 4294967296) = q at *
    generalize x % 4294967296 * (y / 4294967296) = r at *
    generalize x % 4294967296 * (y % 4294967296) = s at *
    omega
  go_enter Try.func26, Try.ntmps26
  go_wp2
  go_ret2
  refine ⟨ret_int2 ?_ ?_, rfl⟩
  · unfold hiW
    rw [D.out]
    generalize x / 4294967296 * (y / 4294967296) = p at *
    generalize x / 4294967296 * (y % 4294967296) = q at *
    generalize x % 4294967296 * (y / 4294967296) = r at *
    generalize x % 4294967296 * (y % 4294967296) = s at *
    omega
  · rw [IntKind.wrap_u64]; rfl

/-- fix.product: exact. -/
theorem wrap_ge (a : Int) : 0 ≤ IntKind.u64.wrap a := by rw [IntKind.wrap_u64]; omega
theorem wrap_lt (a : Int) : IntKind.u64.wrap a < 18446744073709551616 := by rw [IntKind.wrap_u64]; omega
theorem prod_lo (a b : Int) : loW (IntKind.u64.wrap a * IntKind.u64.wrap b) = loW (a * b) := by rw [IntKind.wrap_u64, IntKind.wrap_u64]; unfold loW; rw [← Int.mul_emod]
theorem prod_lo1 (a b : Int) : loW (IntKind.u64.wrap a * b) = loW (a * b) := by rw [IntKind.wrap_u64]; unfold loW; rw [Int.mul_emod, Int.emod_emod, ← Int.mul_emod]
theorem prod_lo2 (a b : Int) : loW (a * IntKind.u64.wrap b) = loW (a * b) := by rw [IntKind.wrap_u64]; unfold loW; rw [Int.mul_emod, Int.emod_emod, ← Int.mul_emod]
theorem prod_pp {a b : Int} (ha : 0 ≤ a) (ha' : a ≤ 9223372036854775807) (hb : 0 ≤ b) (hb' : b ≤ 9223372036854775807) : wrap64 (hiW (a * b)) = hiW (a * b) := by
  have := prod_bd (a := a) (b := b) (by omega) ha' (by omega) hb'
  generalize hiW (a * b) = h at *
  unfold wrap64; omega
theorem prod_np {a b : Int} (h0 : -9223372036854775808 ≤ a) (ha : a < 0) (hb : 0 ≤ b) (hb' : b ≤ 9223372036854775807) : wrap64 (IntKind.u64.wrap (hiW (IntKind.u64.wrap a * b) - b)) = hiW (a * b) := by
  have := prod_bd (a := a) (b := b) h0 (by omega) (by omega) hb'
  rw [show IntKind.u64.wrap a = a + 18446744073709551616 by rw [IntKind.wrap_u64]; omega, Int.add_mul, IntKind.wrap_u64]
  unfold hiW at *
  generalize a * b = p at *
  unfold wrap64; omega
theorem prod_pn {a b : Int} (ha : 0 ≤ a) (ha' : a ≤ 9223372036854775807) (h0 : -9223372036854775808 ≤ b) (hb : b < 0) : wrap64 (IntKind.u64.wrap (hiW (a * IntKind.u64.wrap b) - a)) = hiW (a * b) := by
  rw [Int.mul_comm a (IntKind.u64.wrap b), Int.mul_comm a b]; exact prod_np h0 hb ha ha'
theorem prod_nn {a b : Int} (h0 : -9223372036854775808 ≤ a) (ha : a < 0) (h1 : -9223372036854775808 ≤ b) (hb : b < 0) : wrap64 (IntKind.u64.wrap (IntKind.u64.wrap (hiW (IntKind.u64.wrap a * IntKind.u64.wrap b) - IntKind.u64.wrap b) - IntKind.u64.wrap a)) = hiW (a * b) := by
  have := prod_bd (a := a) (b := b) h0 (by omega) h1 (by omega)
  rw [show IntKind.u64.wrap a = a + 18446744073709551616 by rw [IntKind.wrap_u64]; omega, show IntKind.u64.wrap b = b + 18446744073709551616 by rw [IntKind.wrap_u64]; omega, Int.add_mul, Int.mul_add, Int.mul_add, IntKind.wrap_u64, IntKind.wrap_u64]
  unfold hiW at *
  rw [Int.mul_comm a 18446744073709551616]
  generalize a * b = p at *
  unfold wrap64; omega
theorem product_any (a b : Int) (w : World) (h0 : -9223372036854775808 ≤ a) (h1 : a ≤ 9223372036854775807) (h2 : -9223372036854775808 ≤ b) (h3 : b ≤ 9223372036854775807) :
    Calls Try.prog 23 #[.int .i64 a, .int .i64 b] w fun e w' => e = .returned (.tuple #[.int .i64 (hiW (a * b)), .int .u64 (loW (a * b))]) ∧ w' = w := by
  by_cases ha : a < 0 <;> by_cases hb : b < 0
  · go_enter Try.func23, Try.ntmps23
    go_wp2_with (go_at_call 26; refine (mul64_int _ _ _ (wrap_ge a) (wrap_lt a) (wrap_ge b) (wrap_lt b)).mono ?_; rintro e w' ⟨rfl, rfl⟩)
    go_ret2
    exact ⟨ret_int2 (prod_nn h0 ha h2 hb) (prod_lo a b), rfl⟩
  · have hb' : 0 ≤ b := by omega
    have hb2 : b < 18446744073709551616 := by omega
    go_enter Try.func23, Try.ntmps23
    go_wp2_with (go_at_call 26; refine (mul64_int _ _ _ (wrap_ge a) (wrap_lt a) hb' hb2).mono ?_; rintro e w' ⟨rfl, rfl⟩)
    go_ret2
    exact ⟨ret_int2 (prod_np h0 ha hb' h3) (prod_lo1 a b), rfl⟩
  · have ha' : 0 ≤ a := by omega
    have ha2 : a < 18446744073709551616 := by omega
    go_enter Try.func23, Try.ntmps23
    go_wp2_with (go_at_call 26; refine (mul64_int _ _ _ ha' ha2 (wrap_ge b) (wrap_lt b)).mono ?_; rintro e w' ⟨rfl, rfl⟩)
    go_ret2
    exact ⟨ret_int2 (prod_pn ha' h1 h2 hb) (prod_lo2 a b), rfl⟩
  · have ha' : 0 ≤ a := by omega
    have ha2 : a < 18446744073709551616 := by omega
    have hb' : 0 ≤ b := by omega
    have hb2 : b < 18446744073709551616 := by omega
    go_enter Try.func23, Try.ntmps23
    go_wp2_with (go_at_call 26; refine (mul64_int _ _ _ ha' ha2 hb' hb2).mono ?_; rintro e w' ⟨rfl, rfl⟩)
    go_ret2
    exact ⟨ret_int2 (prod_pp ha' h1 hb' h3) rfl, rfl⟩

/-- fix.quotient: rounded down, whatever the signs. -/
theorem wrap_tdiv {a b : Int} (h0 : -9223372036854775808 < a) (h1 : a ≤ 9223372036854775807) : wrap64 (a.tdiv b) = a.tdiv b := by
  have := tdiv_bd b h0 h1
  unfold wrap64; omega
theorem wrap_tdiv1 {a b : Int} (h0 : -9223372036854775808 < a) (h1 : a ≤ 9223372036854775807) : wrap64 (a.tdiv b - 1) = a.tdiv b - 1 := by
  have := tdiv_bd b h0 h1
  unfold wrap64; omega
theorem quotient_any (a b : Int) (w : World) (h0 : -9223372036854775808 < a) (h1 : a ≤ 9223372036854775807) (hb : b ≠ 0) :
    Calls Try.prog 21 #[.int .i64 a, .int .i64 b] w fun e w' => e = .returned (.int .i64 (qdn a b)) ∧ w' = w := by
  have t0 := wrap_tdiv (b := b) h0 h1
  have t1 := wrap_tdiv1 (b := b) h0 h1
  by_cases ha : a < 0 <;> by_cases hb' : b < 0
  · go_enter Try.func21, Try.ntmps21
    go_wp2
    all_goals
      go_ret
      exact ⟨ret_int (q_nn ha hb'), rfl⟩
  · have hb2 : 0 ≤ b := by omega
    by_cases hm : a.tmod b = 0
    · go_enter Try.func21, Try.ntmps21
      go_wp2
      go_ret
      exact ⟨ret_int (q_zero hb hm), rfl⟩
    · go_enter Try.func21, Try.ntmps21
      go_wp2
      go_ret
      exact ⟨ret_int (q_np hb ha hb2 hm), rfl⟩
  · have ha2 : 0 ≤ a := by omega
    by_cases hm : a % b = 0
    · go_enter Try.func21, Try.ntmps21
      go_wp2
      go_ret
      exact ⟨ret_int (q_pn0 ha2 hb' hm), rfl⟩
    · go_enter Try.func21, Try.ntmps21
      go_wp2
      go_ret
      exact ⟨ret_int (q_pn ha2 hb' hm), rfl⟩
  · have ha2 : 0 ≤ a := by omega
    have hb2 : 0 ≤ b := by omega
    go_enter Try.func21, Try.ntmps21
    go_wp2
    all_goals
      go_ret
      exact ⟨ret_int (q_pp hb2), rfl⟩
end Go.Proofs.Ytkdfiaeghbkgnaa
