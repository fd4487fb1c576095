/-
  GapNames' walk: the chapter's examples (made by a program).
-/
import Derived.Test.YtcckpdgknjjjmaaGapT
import Derived.Laws.StructEq
namespace Go.Proofs.Ytcckpdgknjjjmaa
open Go.RowKit Go.Lib Go.Deep
set_option linter.unusedVariables false
set_option linter.unusedSimpArgs false

theorem s1 (w : World) : Calls Try.prog 10 #[gaV ⟨true, 1, 0, 2, 13⟩, .int .i64 4] w fun e w' => e = .returned (.tuple #[.int .i64 49152, .int .i64 0]) ∧ Kept w w' none := by
  have h := share_any ⟨true, 1, 0, 2, 13⟩ 4 w (by decide) (by decide)
  rw [show shV ⟨true, 1, 0, 2, 13⟩ 4 = 49152 by decide +kernel, show shE ⟨true, 1, 0, 2, 13⟩ 4 = 0 by decide +kernel] at h
  exact h
theorem s2 (w : World) : Calls Try.prog 10 #[gaV ⟨true, 1, 0, 2, 13⟩, .int .i64 2] w fun e w' => e = .returned (.tuple #[.int .i64 32768, .int .i64 0]) ∧ Kept w w' none := by
  have h := share_any ⟨true, 1, 0, 2, 13⟩ 2 w (by decide) (by decide)
  rw [show shV ⟨true, 1, 0, 2, 13⟩ 2 = 32768 by decide +kernel, show shE ⟨true, 1, 0, 2, 13⟩ 2 = 0 by decide +kernel] at h
  exact h
theorem s3 (w : World) : Calls Try.prog 10 #[gaV ⟨true, 1, 0, 2, 13⟩, .int .i64 64] w fun e w' => e = .returned (.tuple #[.int .i64 3072, .int .i64 0]) ∧ Kept w w' none := by
  have h := share_any ⟨true, 1, 0, 2, 13⟩ 64 w (by decide) (by decide)
  rw [show shV ⟨true, 1, 0, 2, 13⟩ 64 = 3072 by decide +kernel, show shE ⟨true, 1, 0, 2, 13⟩ 64 = 0 by decide +kernel] at h
  exact h
theorem s4 (w : World) : Calls Try.prog 10 #[gaV ⟨true, 1, 0, 2, 13⟩, .int .i64 65] w fun e w' => e = .returned (.tuple #[.int .i64 0, .int .i64 2]) ∧ Kept w w' none := by
  have h := share_any ⟨true, 1, 0, 2, 13⟩ 65 w (by decide) (by decide)
  rw [show shV ⟨true, 1, 0, 2, 13⟩ 65 = 0 by decide +kernel, show shE ⟨true, 1, 0, 2, 13⟩ 65 = 2 by decide +kernel] at h
  exact h
theorem p1 (w : World) : Calls Try.prog 11 #[gaV ⟨true, 1, 0, 2, 13⟩, .int .i64 0] w fun e w' => e = .returned (.tuple #[.bool false, .int .i64 0]) ∧ Kept w w' none := by
  have h := past_any ⟨true, 1, 0, 2, 13⟩ 0 w (by decide) (by decide)
  rw [show paB ⟨true, 1, 0, 2, 13⟩ 0 = false by decide +kernel, show paE ⟨true, 1, 0, 2, 13⟩ 0 = 0 by decide +kernel] at h
  exact h
theorem p2 (w : World) : Calls Try.prog 11 #[gaV ⟨false, 0, 1, 2, 26⟩, .int .i64 1] w fun e w' => e = .returned (.tuple #[.bool true, .int .i64 0]) ∧ Kept w w' none := by
  have h := past_any ⟨false, 0, 1, 2, 26⟩ 1 w (by decide) (by decide)
  rw [show paB ⟨false, 0, 1, 2, 26⟩ 1 = true by decide +kernel, show paE ⟨false, 0, 1, 2, 26⟩ 1 = 0 by decide +kernel] at h
  exact h
theorem p3 (w : World) : Calls Try.prog 11 #[gaV ⟨false, 0, 1, 2, 26⟩, .int .i64 2] w fun e w' => e = .returned (.tuple #[.bool false, .int .i64 0]) ∧ Kept w w' none := by
  have h := past_any ⟨false, 0, 1, 2, 26⟩ 2 w (by decide) (by decide)
  rw [show paB ⟨false, 0, 1, 2, 26⟩ 2 = false by decide +kernel, show paE ⟨false, 0, 1, 2, 26⟩ 2 = 0 by decide +kernel] at h
  exact h
theorem n1 (w : World) : Calls Try.prog 12 #[gaV ⟨false, 1, 0, 0, 0⟩, .bool true] w fun e w' => e = .returned (.tuple #[gaV Ga.zero, .int .i64 8]) ∧ Kept w w' none :=
  next_bad false 1 0 0 0 true w (by decide +kernel) (by decide) (by decide)
set_option maxRecDepth 100000 in
set_option maxHeartbeats 4000000 in
theorem gnames_any (w : World) : Calls Try.prog 3 #[] w fun e w' => e = .returned (.bool true) ∧ Kept w w' none := by
  go_enter Try.func3, Try.ntmps3
  go_wp2_with (first
    | (go_at_call 13; refine (alive_any _).mono ?_; rintro e w11 ⟨rfl, hk11⟩)
    | (go_at_call 12; have hgo := hk9; clear hgo; refine (n1 _).mono ?_; rintro e w10 ⟨rfl, hk10⟩; skip)
    | (go_at_call 10; have hgo := hk8; clear hgo; refine (s4 _).mono ?_; rintro e w9 ⟨rfl, hk9⟩; clear ge0 ge1 ge2 ge3 ge4)
    | (go_at_call 11; have hgo := hk7; clear hgo; refine (p3 _).mono ?_; rintro e w8 ⟨rfl, hk8⟩; have G8 := G7.kept hk8; clear hb0 hb1 hb2 hb3 hb4; have ge0 := G8.c0; have ge1 := G8.c1; have ge2 := G8.c2; have ge3 := G8.c3; have ge4 := G8.c4;)
    | (go_at_call 11; have hgo := hk6; clear hgo; refine (p2 _).mono ?_; rintro e w7 ⟨rfl, hk7⟩; have G7 := G6.kept hk7; have H7 := H6.kept hk7; clear ha0 ha1 ha2 ha3 ha4; have hb0 := H7.c0; have hb1 := H7.c1; have hb2 := H7.c2; have hb3 := H7.c3; have hb4 := H7.c4;)
    | (go_at_call 11; have hgo := hk5; clear hgo; refine (p1 _).mono ?_; rintro e w6 ⟨rfl, hk6⟩; have G6 := G5.kept hk6; have H6 := H5.kept hk6; clear gd0 gd1 gd2 gd3 gd4; have ha0 := H6.c0; have ha1 := H6.c1; have ha2 := H6.c2; have ha3 := H6.c3; have ha4 := H6.c4;)
    | (go_at_call 10; have hgo := hk4; clear hgo; refine (s3 _).mono ?_; rintro e w5 ⟨rfl, hk5⟩; have G5 := G4.kept hk5; have H5 := H4.kept hk5; clear gc0 gc1 gc2 gc3 gc4; have gd0 := G5.c0; have gd1 := G5.c1; have gd2 := G5.c2; have gd3 := G5.c3; have gd4 := G5.c4;)
    | (go_at_call 10; have hgo := hk3; clear hgo; refine (s2 _).mono ?_; rintro e w4 ⟨rfl, hk4⟩; have G4 := G3.kept hk4; have H4 := H3.kept hk4; clear gb0 gb1 gb2 gb3 gb4; have gc0 := G4.c0; have gc1 := G4.c1; have gc2 := G4.c2; have gc3 := G4.c3; have gc4 := G4.c4;)
    | (go_at_call 10; have hgo := hk2; clear hgo; refine (s1 _).mono ?_; rintro e w3 ⟨rfl, hk3⟩; have k3 := (Kept.alloc w2 #[.bool false, .int .i64 0, .int .i64 1, .int .i64 2, .int .u64 26] 24 (0, 0) none).tr hk3; have G3 := G2.kept k3; have H3 := (b5_alloc w2 (.bool false) (.int .i64 0) (.int .i64 1) (.int .i64 2) (.int .u64 26) 24).kept hk3; clear ga0 ga1 ga2 ga3 ga4; have gb0 := G3.c0; have gb1 := G3.c1; have gb2 := G3.c2; have gb3 := G3.c3; have gb4 := G3.c4;)
    | (go_at_call 9; have hgo := hk1; clear hgo; refine (behind5 (lies5 (w := w1.alloc (.cells #[.bool true, .int .i64 1, .int .i64 0, .int .i64 2, .int .u64 13] 24)) (H := w1.heap.size + 1) (by simp))).mono ?_; rintro e w2 ⟨rfl, hk2⟩; have k2 := (Kept.alloc w1 #[.bool true, .int .i64 1, .int .i64 0, .int .i64 2, .int .u64 13] 24 (0, 0) none).tr ((Kept.alloc _ _ _ _ _).tr hk2); have G2 := (b5_alloc w1 (.bool true) (.int .i64 1) (.int .i64 0) (.int .i64 2) (.int .u64 13) 24).kept ((Kept.alloc _ _ _ _ _).tr hk2); have ga0 := G2.c0; have ga1 := G2.c1; have ga2 := G2.c2; have ga3 := G2.c3; have ga4 := G2.c4; have l2 := G2.lt)
    | (go_at_call 9; refine (behind4 (lies4 (w := w) rfl)).mono ?_; rintro e w1 ⟨rfl, hk1⟩))
  go_ret
  exact ⟨by simp, (((((((((((Kept.alloc _ _ _ _ _).tr hk1).tr k2).tr k3).tr hk4).tr hk5).tr hk6).tr hk7).tr hk8).tr hk9).tr hk10).tr ((Kept.alloc _ _ _ _ _).tr hk11)⟩

end Go.Proofs.Ytcckpdgknjjjmaa
