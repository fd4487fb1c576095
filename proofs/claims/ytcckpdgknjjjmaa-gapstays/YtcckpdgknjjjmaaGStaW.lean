/-
  GapStays' walk: gaps that may be, may be a tick later (made by a program).
-/
import Derived.Test.YtcckpdgknjjjmaaGapT
import Derived.Laws.StructEq
namespace Go.Proofs.Ytcckpdgknjjjmaa
open Go.RowKit Go.Lib Go.Deep
set_option linter.unusedVariables false
set_option linter.unusedSimpArgs false

theorem and_63 {z : Int} (h0 : 0 ≤ z) (h1 : z < 18446744073709551616) : bits BinOp.and IntKind.u64 z 9223372036854775807 = z % 9223372036854775808 := by
  have h := bits_and_u64_nat z.toNat 9223372036854775807 (by omega) (by omega)
  rw [Int.toNat_of_nonneg h0, show z.toNat &&& 9223372036854775807 = z.toNat % 9223372036854775808 from Nat.and_two_pow_sub_one_eq_mod z.toNat 63] at h
  exact h.trans (by omega)
theorem las_half (z : Int) (v : Bool) : lasG z v / 2 = z % 9223372036854775808 := by unfold lasG; split <;> omega
theorem inc_grow {n m : Int} (h : n ≤ m) : n ≤ incG n m := by unfold incG; split <;> omega
theorem step_facts {g : Ga} {u : Bool} (h : mayG g = true) : (stepG g u).held ≤ 1048576 ∧ (stepG g u).opn ≤ 1048576 ∧ (stepG g u).came ≤ 1073741824 ∧ g.came ≤ (stepG g u).came := by
  have hm := may_iff.1 (may_step (u := u) h)
  refine ⟨hm.h1, hm.o1, hm.c1, ?_⟩
  have h5 := (may_iff.1 h).c1
  show g.came ≤ if u = true ∧ g.up = false then incG g.came 1073741824 else g.came
  split
  · exact inc_grow h5
  · exact Int.le_refl _
set_option maxRecDepth 100000 in
set_option maxHeartbeats 4000000 in
theorem gstays_bad (g0 : Bool) (g1 g2 g3 g4 : Int) (u v : Bool) (w : World) (hm : mayG ⟨g0, g1, g2, g3, g4⟩ = false) (h0 : 0 ≤ g4) (h1 : g4 < 18446744073709551616) : Calls Try.prog 8 #[gaV ⟨g0, g1, g2, g3, g4⟩, .bool u, .bool v] w fun e w' => e = .returned (.bool true) ∧ Kept w w' none := by
  have H1 := Hid.mk' (fun w' => next_bad g0 g1 g2 g3 g4 u w' hm h0 h1)
  clear hm
  go_enter Try.func8, Try.ntmps8
  go_wp2_with (first | (go_at_call 12; refine (H1.out _).mono ?_; rintro e w2 ⟨rfl, hk2⟩) | (go_at_call 13; refine (alive_any _).mono ?_; rintro e w1 ⟨rfl, hk1⟩; have G1 := (b5_alloc w (.bool g0) (.int .i64 g1) (.int .i64 g2) (.int .i64 g3) (.int .u64 g4) 24).kept hk1; have ga0 := G1.c0; have ga1 := G1.c1; have ga2 := G1.c2; have ga3 := G1.c3; have ga4 := G1.c4; have lg1 := G1.lt))
  go_ret
  exact ⟨by simp, (((Kept.alloc _ _ _ _ _).tr hk1).tr hk2).tr (Kept.alloc _ _ _ _ _)⟩
set_option maxRecDepth 100000 in
set_option maxHeartbeats 4000000 in
theorem gstays_ok (g0 : Bool) (g1 g2 g3 g4 : Int) (u v : Bool) (w : World) (hm : mayG ⟨g0, g1, g2, g3, g4⟩ = true) (h0 : 0 ≤ g4) (h1 : g4 < 18446744073709551616) : Calls Try.prog 8 #[gaV ⟨g0, g1, g2, g3, g4⟩, .bool u, .bool v] w fun e w' => e = .returned (.bool true) ∧ Kept w w' none := by
  have H1 := Hid.mk' (fun w' => next_ok g0 g1 g2 g3 g4 u w' hm h0 h1)
  obtain ⟨f1, f2, f3, f4⟩ := step_facts (u := u) hm
  have hm2 := may_step (u := u) hm
  have l2 := lasG_bd g4 u
  have hm3 : mayG (stepG ⟨g0, g1, g2, g3, g4⟩ u) = true := hm2
  have l3 : 0 ≤ (stepG ⟨g0, g1, g2, g3, g4⟩ u).last ∧ (stepG ⟨g0, g1, g2, g3, g4⟩ u).last < 18446744073709551616 := l2
  have H2 := Hid.mk' (fun w' => next_may v w' hm3 l3.1 l3.2)
  have eu : (stepG ⟨g0, g1, g2, g3, g4⟩ u).up = u := rfl
  have ev : (stepG (stepG ⟨g0, g1, g2, g3, g4⟩ u) v).up = v := rfl
  have ea := and_63 l3.1 l3.2
  have eh : (stepG (stepG ⟨g0, g1, g2, g3, g4⟩ u) v).last / 2 = (stepG ⟨g0, g1, g2, g3, g4⟩ u).last % 9223372036854775808 := las_half _ v
  clear hm hm2 hm3 l2 l3
  generalize stepG (stepG ⟨g0, g1, g2, g3, g4⟩ u) v = M at *
  generalize stepG ⟨g0, g1, g2, g3, g4⟩ u = N at *
  obtain ⟨n0, n1, n2, n3, n4⟩ := N
  obtain ⟨m0, m1, m2, m3, m4⟩ := M
  dsimp only at *
  subst eu ev
  generalize n4 % 9223372036854775808 = X at *
  go_enter Try.func8, Try.ntmps8
  go_wp2_with (first | (go_at_call 12; have hgo := hgo2; clear hgo; refine (H2.out _).mono ?_; rintro e w3 ⟨rfl, hk3⟩; have k3 := (Kept.alloc w2 #[.bool n0, .int .i64 n1, .int .i64 n2, .int .i64 n3, .int .u64 n4] 24 (0, 0) none).tr hk3; have G3 := G2.kept k3; have A3 := (b5_alloc w2 (.bool n0) (.int .i64 n1) (.int .i64 n2) (.int .i64 n3) (.int .u64 n4) 24).kept hk3; have gc0 := G3.c0; have gc1 := G3.c1; have gc2 := G3.c2; have gc3 := G3.c3; have gc4 := G3.c4; have aa0 := A3.c0; have aa1 := A3.c1; have aa2 := A3.c2; have aa3 := A3.c3; have aa4 := A3.c4; have lg3 := G3.lt; have la3 := A3.lt) | (go_at_call 12; refine (H1.out _).mono ?_; rintro e w2 ⟨rfl, hk2⟩; have G2 := G1.kept hk2; have hgo2 := Hid.mk' trivial; clear ga0 ga1 ga2 ga3 ga4) | (go_at_call 13; refine (alive_any _).mono ?_; rintro e w1 ⟨rfl, hk1⟩; have G1 := (b5_alloc w (.bool g0) (.int .i64 g1) (.int .i64 g2) (.int .i64 g3) (.int .u64 g4) 24).kept hk1; have ga0 := G1.c0; have ga1 := G1.c1; have ga2 := G1.c2; have ga3 := G1.c3; have ga4 := G1.c4; have lg1 := G1.lt))
  go_ret
  exact ⟨by simp, ((((Kept.alloc _ _ _ _ _).tr hk1).tr hk2).tr k3).tr (Kept.alloc _ _ _ _ _)⟩
theorem gstays_any (g0 : Bool) (g1 g2 g3 g4 : Int) (u v : Bool) (w : World) (h0 : 0 ≤ g4) (h1 : g4 < 18446744073709551616) : Calls Try.prog 8 #[gaV ⟨g0, g1, g2, g3, g4⟩, .bool u, .bool v] w fun e w' => e = .returned (.bool true) ∧ Kept w w' none := by
  cases hm : mayG ⟨g0, g1, g2, g3, g4⟩
  · exact gstays_bad g0 g1 g2 g3 g4 u v w hm h0 h1
  · exact gstays_ok g0 g1 g2 g3 g4 u v w hm h0 h1

end Go.Proofs.Ytcckpdgknjjjmaa
