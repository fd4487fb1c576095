/-
  THE CONTRACTS of gap.Next, gap.Share, gap.Past (made by a program).
-/
import Derived.Test.YtcckpdgknjjjmaaGapC
import Derived.Test.YtcckpdgknjjjmaaBox5
namespace Go.Proofs.Ytcckpdgknjjjmaa
open Go.RowKit Go.Lib Go.Deep
set_option linter.unusedVariables false
set_option linter.unusedSimpArgs false

set_option maxHeartbeats 1000000 in
theorem next_bad (q : Bool) (a b c z : Int) (u : Bool) (w : World) (hm : mayG ⟨q, a, b, c, z⟩ = false) (h0 : 0 ≤ z) (h1 : z < 18446744073709551616) : Calls Try.prog 12 #[gaV ⟨q, a, b, c, z⟩, .bool u] w fun e w' => e = .returned (.tuple #[gaV Ga.zero, .int .i64 8]) ∧ Kept w w' none := by
  have HM := Hid.mk' hm
  clear hm
  go_enter Try.func12, Try.ntmps12
  go_wp2_with (first | (go_at_call 17; refine (mayBe_any ⟨q, a, b, c, z⟩ _ h0 h1).mono ?_; rw [HM.out]; rintro e w1 ⟨rfl, hk1⟩; have hB := (gbox_alloc w ⟨q, a, b, c, z⟩ 24).kept ((Kept.alloc _ _ _ _ _).tr hk1); have c0 := hB.c0; have c1 := hB.c1; have c2 := hB.c2; have c3 := hB.c3; have c4 := hB.c4; have hR := (gbox_alloc (w.alloc (.cells (gaC ⟨q, a, b, c, z⟩) 24)) Ga.zero 24).kept hk1; simp only [World.size_alloc] at hR; have d0 := hR.c0; have d1 := hR.c1; have d2 := hR.c2; have d3 := hR.c3; have d4 := hR.c4; have e0 := hR.f0; have e1 := hR.f1; have e2 := hR.f2; have e3 := hR.f3; have e4 := hR.f4; have hlt := hR.lt))
  refine bodyPost_ret (v := .tuple #[gaV _, .int .i64 _]) (by simp [results, Try.results12, go_sem, *]; done) rfl ⟨rfl, ?_⟩
  have hK : Kept w _ none := ((Kept.alloc _ _ _ _ _).tr (Kept.alloc _ _ _ _ _)).tr hk1
  exact (((((hK.setNew (p := ⟨w.heap.size + 1, 0, none⟩) (by simp) _).setNew (p := ⟨w.heap.size + 1, 1, none⟩) (by simp) _).setNew (p := ⟨w.heap.size + 1, 2, none⟩) (by simp) _).setNew (p := ⟨w.heap.size + 1, 3, none⟩) (by simp) _).setNew (p := ⟨w.heap.size + 1, 4, none⟩) (by simp) _)
set_option maxHeartbeats 1000000 in
theorem next_ok (q : Bool) (a b c z : Int) (u : Bool) (w : World) (hm : mayG ⟨q, a, b, c, z⟩ = true) (h0 : 0 ≤ z) (h1 : z < 18446744073709551616) : Calls Try.prog 12 #[gaV ⟨q, a, b, c, z⟩, .bool u] w fun e w' => e = .returned (.tuple #[gaV (stepG ⟨q, a, b, c, z⟩ u), .int .i64 0]) ∧ Kept w w' none := by
  have HM := Hid.mk' hm
  clear hm
  go_enter Try.func12, Try.ntmps12
  go_wp2_with (first | (go_at_call 22; refine (later_any ⟨q, a, b, c, z⟩ u _ HM.out h0 h1).mono ?_; rintro e w3 ⟨rfl, hk3⟩; have hR3 := hR.kept hk3; have g0 := hR3.c0; have g1 := hR3.c1; have g2 := hR3.c2; have g3 := hR3.c3; have g4 := hR3.c4; have k0 := hR3.f0; have k1 := hR3.f1; have k2 := hR3.f2; have k3 := hR3.f3; have k4 := hR3.f4; clear d0 d1 d2 d3 d4 e0 e1 e2 e3 e4) | (go_at_call 17; refine (mayBe_any ⟨q, a, b, c, z⟩ _ h0 h1).mono ?_; rw [HM.out]; rintro e w1 ⟨rfl, hk1⟩; have hB := (gbox_alloc w ⟨q, a, b, c, z⟩ 24).kept ((Kept.alloc _ _ _ _ _).tr hk1); have c0 := hB.c0; have c1 := hB.c1; have c2 := hB.c2; have c3 := hB.c3; have c4 := hB.c4; have hR := (gbox_alloc (w.alloc (.cells (gaC ⟨q, a, b, c, z⟩) 24)) Ga.zero 24).kept hk1; simp only [World.size_alloc] at hR; have d0 := hR.c0; have d1 := hR.c1; have d2 := hR.c2; have d3 := hR.c3; have d4 := hR.c4; have e0 := hR.f0; have e1 := hR.f1; have e2 := hR.f2; have e3 := hR.f3; have e4 := hR.f4; have hlt := hR.lt))
  refine bodyPost_ret (v := .tuple #[gaV _, .int .i64 _]) (by simp [results, Try.results12, go_sem, *]; done) rfl ⟨rfl, ?_⟩
  have hK : Kept w _ none := ((Kept.alloc _ _ _ _ _).tr (Kept.alloc _ _ _ _ _)).tr (hk1.tr hk3)
  exact (((((hK.setNew (p := ⟨w.heap.size + 1, 0, none⟩) (by simp) _).setNew (p := ⟨w.heap.size + 1, 1, none⟩) (by simp) _).setNew (p := ⟨w.heap.size + 1, 2, none⟩) (by simp) _).setNew (p := ⟨w.heap.size + 1, 3, none⟩) (by simp) _).setNew (p := ⟨w.heap.size + 1, 4, none⟩) (by simp) _)
theorem next_any (g : Ga) (u : Bool) (w : World) (h0 : 0 ≤ g.last) (h1 : g.last < 18446744073709551616) : Calls Try.prog 12 #[gaV g, .bool u] w fun e w' => e = .returned (.tuple #[gaV (nxG g u), .int .i64 (nxE g)]) ∧ Kept w w' none := by
  obtain ⟨q, a, b, c, z⟩ := g
  unfold nxG nxE
  cases hm : mayG ⟨q, a, b, c, z⟩
  · exact next_bad q a b c z u w hm h0 h1
  · exact next_ok q a b c z u w hm h0 h1
set_option maxHeartbeats 1000000 in
theorem share_bad (q : Bool) (a b c z n : Int) (w : World) (hm : mayG ⟨q, a, b, c, z⟩ = false) (h0 : 0 ≤ z) (h1 : z < 18446744073709551616) : Calls Try.prog 10 #[gaV ⟨q, a, b, c, z⟩, .int .i64 n] w fun e w' => e = .returned (.tuple #[(.int .i64 0), .int .i64 8]) ∧ Kept w w' none := by
  have HM := Hid.mk' hm
  clear hm
  go_enter Try.func10, Try.ntmps10
  go_wp2_with (first | (go_at_call 17; refine (mayBe_any ⟨q, a, b, c, z⟩ _ h0 h1).mono ?_; rw [HM.out]; rintro e w1 ⟨rfl, hk1⟩; have hB := (gbox_alloc w ⟨q, a, b, c, z⟩ 24).kept hk1; have c0 := hB.c0; have c1 := hB.c1; have c2 := hB.c2; have c3 := hB.c3; have c4 := hB.c4;))
  go_ret2
  exact ⟨rfl, (Kept.alloc _ _ _ _ _).tr hk1⟩
set_option maxHeartbeats 1000000 in
theorem share_arg (q : Bool) (a b c z n : Int) (w : World) (hm : mayG ⟨q, a, b, c, z⟩ = true) (hw : wiB n 1 64 = false) (h0 : 0 ≤ z) (h1 : z < 18446744073709551616) : Calls Try.prog 10 #[gaV ⟨q, a, b, c, z⟩, .int .i64 n] w fun e w' => e = .returned (.tuple #[(.int .i64 0), .int .i64 2]) ∧ Kept w w' none := by
  have HM := Hid.mk' hm
  clear hm
  have HW := Hid.mk' hw
  clear hw
  go_enter Try.func10, Try.ntmps10
  go_wp2_with (first | (go_at_call 18; refine (within_any _ _ _ _).mono ?_; rw [HW.out]; rintro e w2 ⟨rfl, rfl⟩) | (go_at_call 17; refine (mayBe_any ⟨q, a, b, c, z⟩ _ h0 h1).mono ?_; rw [HM.out]; rintro e w1 ⟨rfl, hk1⟩; have hB := (gbox_alloc w ⟨q, a, b, c, z⟩ 24).kept hk1; have c0 := hB.c0; have c1 := hB.c1; have c2 := hB.c2; have c3 := hB.c3; have c4 := hB.c4;))
  go_ret2
  exact ⟨rfl, (Kept.alloc _ _ _ _ _).tr hk1⟩
set_option maxHeartbeats 1000000 in
theorem share_ok (q : Bool) (a b c z n : Int) (w : World) (hm : mayG ⟨q, a, b, c, z⟩ = true) (hw : wiB n 1 64 = true) (h0 : 0 ≤ z) (h1 : z < 18446744073709551616) : Calls Try.prog 10 #[gaV ⟨q, a, b, c, z⟩, .int .i64 n] w fun e w' => e = .returned (.tuple #[.int .i64 (fDiv (fOf (stand z n)) (fOf n)), .int .i64 0]) ∧ Kept w w' none := by
  have HM := Hid.mk' hm
  clear hm
  have HW := Hid.mk' hw
  obtain ⟨n0, n1⟩ := wi_iff.1 hw
  obtain ⟨t0, t1⟩ := stand_bd z n
  have HD := Hid.mk' (fOf_ne n0)
  have HO := Hid.mk' (fun w => of_any (stand z n) w (by omega) (by omega))
  have HN := Hid.mk' (fun w => of_any n w (by omega) (by omega))
  clear hw
  go_enter Try.func10, Try.ntmps10
  go_wp2_with (first | (go_at_call 19; refine (div_any _ _ _ HD.out).mono ?_; rintro e w2 ⟨rfl, rfl⟩) | (go_at_call 20; have hgo := HH; clear hgo; refine (HN.out _).mono ?_; rintro e w2 ⟨rfl, rfl⟩) | (go_at_call 20; refine (HO.out _).mono ?_; rintro e w2 ⟨rfl, rfl⟩; have HH := Hid.mk' trivial) | (go_at_call 21; refine (standing_any _ _ _ h0 h1 n0 n1).mono ?_; rintro e w2 ⟨rfl, rfl⟩) | (go_at_call 18; refine (within_any _ _ _ _).mono ?_; rw [HW.out]; rintro e w2 ⟨rfl, rfl⟩) | (go_at_call 17; refine (mayBe_any ⟨q, a, b, c, z⟩ _ h0 h1).mono ?_; rw [HM.out]; rintro e w1 ⟨rfl, hk1⟩; have hB := (gbox_alloc w ⟨q, a, b, c, z⟩ 24).kept hk1; have c0 := hB.c0; have c1 := hB.c1; have c2 := hB.c2; have c3 := hB.c3; have c4 := hB.c4;))
  go_ret2
  exact ⟨rfl, (Kept.alloc _ _ _ _ _).tr hk1⟩
set_option maxHeartbeats 1000000 in
theorem past_bad (q : Bool) (a b c z n : Int) (w : World) (hm : mayG ⟨q, a, b, c, z⟩ = false) (h0 : 0 ≤ z) (h1 : z < 18446744073709551616) : Calls Try.prog 11 #[gaV ⟨q, a, b, c, z⟩, .int .i64 n] w fun e w' => e = .returned (.tuple #[(.bool false), .int .i64 8]) ∧ Kept w w' none := by
  have HM := Hid.mk' hm
  clear hm
  go_enter Try.func11, Try.ntmps11
  go_wp2_with (first | (go_at_call 17; refine (mayBe_any ⟨q, a, b, c, z⟩ _ h0 h1).mono ?_; rw [HM.out]; rintro e w1 ⟨rfl, hk1⟩; have hB := (gbox_alloc w ⟨q, a, b, c, z⟩ 24).kept hk1; have c0 := hB.c0; have c1 := hB.c1; have c2 := hB.c2; have c3 := hB.c3; have c4 := hB.c4;))
  go_ret2
  exact ⟨rfl, (Kept.alloc _ _ _ _ _).tr hk1⟩
set_option maxHeartbeats 1000000 in
theorem past_arg (q : Bool) (a b c z n : Int) (w : World) (hm : mayG ⟨q, a, b, c, z⟩ = true) (hw : wiB n 0 1048576 = false) (h0 : 0 ≤ z) (h1 : z < 18446744073709551616) : Calls Try.prog 11 #[gaV ⟨q, a, b, c, z⟩, .int .i64 n] w fun e w' => e = .returned (.tuple #[(.bool false), .int .i64 2]) ∧ Kept w w' none := by
  have HM := Hid.mk' hm
  clear hm
  have HW := Hid.mk' hw
  clear hw
  go_enter Try.func11, Try.ntmps11
  go_wp2_with (first | (go_at_call 18; refine (within_any _ _ _ _).mono ?_; rw [HW.out]; rintro e w2 ⟨rfl, rfl⟩) | (go_at_call 17; refine (mayBe_any ⟨q, a, b, c, z⟩ _ h0 h1).mono ?_; rw [HM.out]; rintro e w1 ⟨rfl, hk1⟩; have hB := (gbox_alloc w ⟨q, a, b, c, z⟩ 24).kept hk1; have c0 := hB.c0; have c1 := hB.c1; have c2 := hB.c2; have c3 := hB.c3; have c4 := hB.c4;))
  go_ret2
  exact ⟨rfl, (Kept.alloc _ _ _ _ _).tr hk1⟩
set_option maxHeartbeats 1000000 in
theorem past_t (q : Bool) (a b c z n : Int) (w : World) (hm : mayG ⟨q, a, b, c, z⟩ = true) (hw : wiB n 0 1048576 = true) (hq : q = true) (h0 : 0 ≤ z) (h1 : z < 18446744073709551616) : Calls Try.prog 11 #[gaV ⟨q, a, b, c, z⟩, .int .i64 n] w fun e w' => e = .returned (.tuple #[.bool false, .int .i64 0]) ∧ Kept w w' none := by
  subst hq
  have HM := Hid.mk' hm
  have HW := Hid.mk' hw
  clear hm hw
  go_enter Try.func11, Try.ntmps11
  go_wp2_with (first | (go_at_call 18; refine (within_any _ _ _ _).mono ?_; rw [HW.out]; rintro e w2 ⟨rfl, rfl⟩) | (go_at_call 17; refine (mayBe_any ⟨true, a, b, c, z⟩ _ h0 h1).mono ?_; rw [HM.out]; rintro e w1 ⟨rfl, hk1⟩; have hB := (gbox_alloc w ⟨true, a, b, c, z⟩ 24).kept hk1; have c0 := hB.c0; have c1 := hB.c1; have c2 := hB.c2; have c3 := hB.c3; have c4 := hB.c4;))
  go_ret2
  exact ⟨rfl, (Kept.alloc _ _ _ _ _).tr hk1⟩
set_option maxHeartbeats 1000000 in
theorem past_y (q : Bool) (a b c z n : Int) (w : World) (hm : mayG ⟨q, a, b, c, z⟩ = true) (hw : wiB n 0 1048576 = true) (hq : q = false) (hn : n ≤ b) (h0 : 0 ≤ z) (h1 : z < 18446744073709551616) : Calls Try.prog 11 #[gaV ⟨q, a, b, c, z⟩, .int .i64 n] w fun e w' => e = .returned (.tuple #[.bool true, .int .i64 0]) ∧ Kept w w' none := by
  subst hq
  have HM := Hid.mk' hm
  have HW := Hid.mk' hw
  clear hm hw
  go_enter Try.func11, Try.ntmps11
  go_wp2_with (first | (go_at_call 18; refine (within_any _ _ _ _).mono ?_; rw [HW.out]; rintro e w2 ⟨rfl, rfl⟩) | (go_at_call 17; refine (mayBe_any ⟨false, a, b, c, z⟩ _ h0 h1).mono ?_; rw [HM.out]; rintro e w1 ⟨rfl, hk1⟩; have hB := (gbox_alloc w ⟨false, a, b, c, z⟩ 24).kept hk1; have c0 := hB.c0; have c1 := hB.c1; have c2 := hB.c2; have c3 := hB.c3; have c4 := hB.c4;))
  go_ret2
  exact ⟨by simp [hn], (Kept.alloc _ _ _ _ _).tr hk1⟩
set_option maxHeartbeats 1000000 in
theorem past_n (q : Bool) (a b c z n : Int) (w : World) (hm : mayG ⟨q, a, b, c, z⟩ = true) (hw : wiB n 0 1048576 = true) (hq : q = false) (hn : ¬ n ≤ b) (h0 : 0 ≤ z) (h1 : z < 18446744073709551616) : Calls Try.prog 11 #[gaV ⟨q, a, b, c, z⟩, .int .i64 n] w fun e w' => e = .returned (.tuple #[.bool false, .int .i64 0]) ∧ Kept w w' none := by
  subst hq
  have HM := Hid.mk' hm
  have HW := Hid.mk' hw
  clear hm hw
  go_enter Try.func11, Try.ntmps11
  go_wp2_with (first | (go_at_call 18; refine (within_any _ _ _ _).mono ?_; rw [HW.out]; rintro e w2 ⟨rfl, rfl⟩) | (go_at_call 17; refine (mayBe_any ⟨false, a, b, c, z⟩ _ h0 h1).mono ?_; rw [HM.out]; rintro e w1 ⟨rfl, hk1⟩; have hB := (gbox_alloc w ⟨false, a, b, c, z⟩ 24).kept hk1; have c0 := hB.c0; have c1 := hB.c1; have c2 := hB.c2; have c3 := hB.c3; have c4 := hB.c4;))
  go_ret2
  exact ⟨by simp [hn], (Kept.alloc _ _ _ _ _).tr hk1⟩
theorem share_any (g : Ga) (n : Int) (w : World) (h0 : 0 ≤ g.last) (h1 : g.last < 18446744073709551616) : Calls Try.prog 10 #[gaV g, .int .i64 n] w fun e w' => e = .returned (.tuple #[.int .i64 (shV g n), .int .i64 (shE g n)]) ∧ Kept w w' none := by
  obtain ⟨q, a, b, c, z⟩ := g
  unfold shV shE
  cases hm : mayG ⟨q, a, b, c, z⟩
  · exact share_bad q a b c z n w hm h0 h1
  · cases hw : wiB n 1 64
    · exact share_arg q a b c z n w hm hw h0 h1
    · exact share_ok q a b c z n w hm hw h0 h1
theorem past_any (g : Ga) (n : Int) (w : World) (h0 : 0 ≤ g.last) (h1 : g.last < 18446744073709551616) : Calls Try.prog 11 #[gaV g, .int .i64 n] w fun e w' => e = .returned (.tuple #[.bool (paB g n), .int .i64 (paE g n)]) ∧ Kept w w' none := by
  obtain ⟨q, a, b, c, z⟩ := g
  unfold paB paE
  dsimp only
  cases hm : mayG ⟨q, a, b, c, z⟩
  · exact past_bad q a b c z n w hm h0 h1
  · cases hw : wiB n 0 1048576
    · exact past_arg q a b c z n w hm hw h0 h1
    · cases hq : q
      · by_cases hn : n ≤ b
        · rw [hq] at hm
          rw [decide_eq_true hn]
          exact past_y false a b c z n w hm hw rfl hn h0 h1
        · rw [hq] at hm
          rw [decide_eq_false hn]
          exact past_n false a b c z n w hm hw rfl hn h0 h1
      · rw [hq] at hm
        exact past_t true a b c z n w hm hw rfl h0 h1

end Go.Proofs.Ytcckpdgknjjjmaa
