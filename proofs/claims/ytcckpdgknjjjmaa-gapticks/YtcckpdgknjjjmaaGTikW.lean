/-
  GapTicks' walk: the program's answers and the document's are the same (made by a program).
-/
import Derived.Test.YtcckpdgknjjjmaaGapF
import Derived.Laws.StructEq
namespace Go.Proofs.Ytcckpdgknjjjmaa
open Go.RowKit Go.Lib Go.Deep
set_option linter.unusedVariables false
set_option linter.unusedSimpArgs false

set_option maxRecDepth 100000 in
set_option maxHeartbeats 4000000 in
theorem gticks_any (g0 : Bool) (g1 g2 g3 g4 : Int) (u : Bool) (m l : Int) (w : World) (h0 : 0 ≤ g4) (h1 : g4 < 18446744073709551616) : Calls Try.prog 4 #[gaV ⟨g0, g1, g2, g3, g4⟩, .bool u, .int .i64 m, .int .i64 l] w fun e w' => e = .returned (.bool true) ∧ Kept w w' none := by
  have H1 := Hid.mk' (fun w' => next_any ⟨g0, g1, g2, g3, g4⟩ u w' h0 h1)
  have H2 := Hid.mk' (fun w' => rnext_any ⟨g0, g1, g2, g3, g4⟩ u w' h0 h1)
  have H3 := Hid.mk' (fun w' => share_any ⟨g0, g1, g2, g3, g4⟩ m w' h0 h1)
  have H4 := Hid.mk' (fun w' => rshare_any ⟨g0, g1, g2, g3, g4⟩ m w' h0 h1)
  have H5 := Hid.mk' (fun w' => past_any ⟨g0, g1, g2, g3, g4⟩ l w' h0 h1)
  have H6 := Hid.mk' (fun w' => rpast_any ⟨g0, g1, g2, g3, g4⟩ l w' h0 h1)
  generalize nxG ⟨g0, g1, g2, g3, g4⟩ u = N at *
  generalize nxE ⟨g0, g1, g2, g3, g4⟩ = E at *
  generalize shV ⟨g0, g1, g2, g3, g4⟩ m = S at *
  generalize shE ⟨g0, g1, g2, g3, g4⟩ m = F at *
  generalize paB ⟨g0, g1, g2, g3, g4⟩ l = P at *
  generalize paE ⟨g0, g1, g2, g3, g4⟩ l = K at *
  obtain ⟨n0, n1, n2, n3, n4⟩ := N
  go_enter Try.func4, Try.ntmps4
  go_wp2_with (first
    | (go_at_call 12; refine (H1.out _).mono ?_; rintro e w1 ⟨rfl, hk1⟩; have G1 := (b5_alloc w (.bool g0) (.int .i64 g1) (.int .i64 g2) (.int .i64 g3) (.int .u64 g4) 24).kept hk1; have ga0 := G1.c0; have ga1 := G1.c1; have ga2 := G1.c2; have ga3 := G1.c3; have ga4 := G1.c4; have lg1 := G1.lt)
    | (go_at_call 14; refine (H2.out _).mono ?_; rintro e w2 ⟨rfl, hk2⟩; have k2 := (Kept.alloc w1 #[.bool n0, .int .i64 n1, .int .i64 n2, .int .i64 n3, .int .u64 n4] 24 (0, 0) none).tr hk2; have G2 := G1.kept k2; have A2 := (b5_alloc w1 (.bool n0) (.int .i64 n1) (.int .i64 n2) (.int .i64 n3) (.int .u64 n4) 24).kept hk2; clear ga0 ga1 ga2 ga3 ga4; have gb0 := G2.c0; have gb1 := G2.c1; have gb2 := G2.c2; have gb3 := G2.c3; have gb4 := G2.c4; have lg2 := G2.lt)
    | (go_at_call 10; refine (H3.out _).mono ?_; rintro e w3 ⟨rfl, hk3⟩; have k3 := (Kept.alloc w2 #[.bool n0, .int .i64 n1, .int .i64 n2, .int .i64 n3, .int .u64 n4] 24 (0, 0) none).tr hk3; have G3 := G2.kept k3; have A3 := A2.kept k3; have B3 := (b5_alloc w2 (.bool n0) (.int .i64 n1) (.int .i64 n2) (.int .i64 n3) (.int .u64 n4) 24).kept hk3; clear gb0 gb1 gb2 gb3 gb4; have gc0 := G3.c0; have gc1 := G3.c1; have gc2 := G3.c2; have gc3 := G3.c3; have gc4 := G3.c4;)
    | (go_at_call 15; refine (H4.out _).mono ?_; rintro e w4 ⟨rfl, hk4⟩; have G4 := G3.kept hk4; clear gc0 gc1 gc2 gc3 gc4; have gd0 := G4.c0; have gd1 := G4.c1; have gd2 := G4.c2; have gd3 := G4.c3; have gd4 := G4.c4;)
    | (go_at_call 11; refine (H5.out _).mono ?_; rintro e w5 ⟨rfl, hk5⟩; have G5 := G4.kept hk5; clear gd0 gd1 gd2 gd3 gd4; have ge0 := G5.c0; have ge1 := G5.c1; have ge2 := G5.c2; have ge3 := G5.c3; have ge4 := G5.c4;)
    | (go_at_call 16; refine (H6.out _).mono ?_; rintro e w6 ⟨rfl, hk6⟩; have k36 := (hk4.tr hk5).tr hk6; have A6 := A3.kept k36; have B6 := B3.kept k36; clear ge0 ge1 ge2 ge3 ge4; have aa0 := A6.c0; have aa1 := A6.c1; have aa2 := A6.c2; have aa3 := A6.c3; have aa4 := A6.c4; have bb0 := B6.c0; have bb1 := B6.c1; have bb2 := B6.c2; have bb3 := B6.c3; have bb4 := B6.c4;))
  go_ret
  exact ⟨by simp, (((((Kept.alloc _ _ _ _ _).tr hk1).tr k2).tr k3).tr k36)⟩

end Go.Proofs.Ytcckpdgknjjjmaa
