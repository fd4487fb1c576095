/-
  THE CONTRACTS of the document's own answers for package fix (stoplineref01): the same numbers as package fix's.
-/
import Derived.Test.YtbmgkimfflidiaaCalls
namespace Go.Proofs.Ytbmgkimfflidiaa
open Go.RowKit Go.Lib
set_option linter.unusedVariables false

theorem hid {p : Prop} (h : p) : Hid p := h

theorem rstop_any (x : Int) (w : World) : Calls Try.prog 32 #[.int .i64 x] w fun e w' => e = .returned (.int .i64 (stp x)) ∧ w' = w := by
  by_cases h1 : 70368744177664 < x
  · rw [stp_hi h1]
    go_enter Try.func32, Try.ntmps32
    go_wp2
    go_ret
    exact ⟨rfl, rfl⟩
  · by_cases h2 : x < -70368744177664
    · rw [stp_lo h2]
      go_enter Try.func32, Try.ntmps32
      go_wp2
      go_ret
      exact ⟨rfl, rfl⟩
    · rw [stp_id (by omega) (by omega)]
      go_enter Try.func32, Try.ntmps32
      go_wp2
      go_ret
      exact ⟨rfl, rfl⟩
theorem radd_any (a b : Int) (w : World) : Calls Try.prog 18 #[.int .i64 a, .int .i64 b] w fun e w' => e = .returned (.int .i64 (fAdd a b)) ∧ w' = w := by
  have a0 := stp_ge a; have a1 := stp_le a; have b0 := stp_ge b; have b1 := stp_le b
  go_enter Try.func18, Try.ntmps18
  go_wp2_with (go_at_call 32; refine (rstop_any _ _).mono ?_; rintro e w' ⟨rfl, rfl⟩)
  go_ret
  exact ⟨rfl, rfl⟩
theorem rsub_any (a b : Int) (w : World) : Calls Try.prog 20 #[.int .i64 a, .int .i64 b] w fun e w' => e = .returned (.int .i64 (fSub a b)) ∧ w' = w := by
  have a0 := stp_ge a; have a1 := stp_le a; have b0 := stp_ge b; have b1 := stp_le b
  go_enter Try.func20, Try.ntmps20
  go_wp2_with (go_at_call 32; refine (rstop_any _ _).mono ?_; rintro e w' ⟨rfl, rfl⟩)
  go_ret
  exact ⟨rfl, rfl⟩
theorem rabs_any (x : Int) (w : World) (h0 : -9223372036854775808 < x) : Calls Try.prog 34 #[.int .i64 x] w fun e w' => e = .returned (.int .i64 (ab x)) ∧ w' = w := by
  by_cases h : x < 0
  · rw [show ab x = -x by unfold ab; rw [if_pos h]]
    go_enter Try.func34, Try.ntmps34
    go_wp2
    go_ret
    exact ⟨rfl, rfl⟩
  · rw [show ab x = x by unfold ab; rw [if_neg h]]
    go_enter Try.func34, Try.ntmps34
    go_wp2
    go_ret
    exact ⟨rfl, rfl⟩
theorem rdown_any (a b : Int) (w : World) (h0 : -9223372036854775808 < a) (h1 : a ≤ 9223372036854775807) (hb : 0 < b) :
    Calls Try.prog 33 #[.int .i64 a, .int .i64 b] w fun e w' => e = .returned (.int .i64 (a / b)) ∧ w' = w := by
  have t0 := wrap_tdiv (b := b) h0 h1
  have t1 := wrap_tdiv1 (b := b) h0 h1
  by_cases ha : a < 0
  · by_cases hm : a.tmod b = 0
    · have e1 : Hid (a.tdiv b = a / b) := by rw [q_zero (by omega) hm, q_pp (by omega)]; exact rfl
      go_enter Try.func33, Try.ntmps33
      go_wp2
      go_ret
      exact ⟨ret_int e1.out, rfl⟩
    · have e1 : Hid (wrap64 (a.tdiv b - 1) = a / b) := by rw [t1, q_np (by omega) ha (by omega) hm, q_pp (by omega)]; exact rfl
      go_enter Try.func33, Try.ntmps33
      go_wp2
      go_ret
      exact ⟨ret_int e1.out, rfl⟩
  · have ha2 : 0 ≤ a := by omega
    go_enter Try.func33, Try.ntmps33
    go_wp2
    all_goals
      go_ret
      exact ⟨rfl, rfl⟩
set_option maxHeartbeats 1000000 in
theorem rmul_any (a b : Int) (w : World) : Calls Try.prog 21 #[.int .i64 a, .int .i64 b] w fun e w' => e = .returned (.int .i64 (fMul a b)) ∧ w' = w := by
  have a0 := stp_ge a; have a1 := stp_le a; have b0 := stp_ge b; have b1 := stp_le b
  have x0 := ab_ge (stp a); have x1 := ab_le a; have y0 := ab_ge (stp b); have y1 := ab_le b
  obtain ⟨⟨d1, d2⟩, ⟨d3, d4⟩, ⟨d5, d6⟩, ⟨d7, d8⟩, d9⟩ := digits x0 x1 y0 y1
  by_cases sa : stp a < 0 <;> by_cases sb : stp b < 0
  · have D : Hid (stp a * stp b = _) := (ab_mul_same (by omega)).trans d9
    clear d9
    go_enter Try.func21, Try.ntmps21
    go_wp2_with (first
      | (go_at_call 32; refine (rstop_any _ _).mono ?_; rintro e w' ⟨rfl, rfl⟩)
      | (go_at_call 34; refine (rabs_any _ _ (by omega)).mono ?_; rintro e w' ⟨rfl, rfl⟩))
    all_goals
      go_ret
      refine ⟨ret_int ?_, rfl⟩
      unfold fMul
      rw [D.out]
      clear D a0 a1 b0 b1 x0 x1 y0 y1
      generalize ab (stp a) / 16777216 * (ab (stp b) / 16777216) = p at *
      generalize ab (stp a) / 16777216 * (ab (stp b) % 16777216) = q at *
      generalize ab (stp a) % 16777216 * (ab (stp b) / 16777216) = r at *
      generalize ab (stp a) % 16777216 * (ab (stp b) % 16777216) = s at *
      first | (exfalso; omega) | exact (stp_hi (by omega)).symm | (congr 1; omega) | (simp at *; congr 1; omega)
  · have D : Hid (stp a * stp b = _) := (ab_mul_else (by omega)).trans (congrArg (fun z => -z) d9)
    clear d9
    go_enter Try.func21, Try.ntmps21
    go_wp2_with (first
      | (go_at_call 32; refine (rstop_any _ _).mono ?_; rintro e w' ⟨rfl, rfl⟩)
      | (go_at_call 34; refine (rabs_any _ _ (by omega)).mono ?_; rintro e w' ⟨rfl, rfl⟩))
    all_goals
      go_ret
      refine ⟨ret_int ?_, rfl⟩
      unfold fMul
      rw [D.out]
      clear D a0 a1 b0 b1 x0 x1 y0 y1
      generalize ab (stp a) / 16777216 * (ab (stp b) / 16777216) = p at *
      generalize ab (stp a) / 16777216 * (ab (stp b) % 16777216) = q at *
      generalize ab (stp a) % 16777216 * (ab (stp b) / 16777216) = r at *
      generalize ab (stp a) % 16777216 * (ab (stp b) % 16777216) = s at *
      first | (exfalso; omega) | exact (stp_lo (by omega)).symm | (congr 1; omega) | (simp at *; congr 1; omega)
  · have D : Hid (stp a * stp b = _) := (ab_mul_else (by omega)).trans (congrArg (fun z => -z) d9)
    clear d9
    go_enter Try.func21, Try.ntmps21
    go_wp2_with (first
      | (go_at_call 32; refine (rstop_any _ _).mono ?_; rintro e w' ⟨rfl, rfl⟩)
      | (go_at_call 34; refine (rabs_any _ _ (by omega)).mono ?_; rintro e w' ⟨rfl, rfl⟩))
    all_goals
      go_ret
      refine ⟨ret_int ?_, rfl⟩
      unfold fMul
      rw [D.out]
      clear D a0 a1 b0 b1 x0 x1 y0 y1
      generalize ab (stp a) / 16777216 * (ab (stp b) / 16777216) = p at *
      generalize ab (stp a) / 16777216 * (ab (stp b) % 16777216) = q at *
      generalize ab (stp a) % 16777216 * (ab (stp b) / 16777216) = r at *
      generalize ab (stp a) % 16777216 * (ab (stp b) % 16777216) = s at *
      first | (exfalso; omega) | exact (stp_lo (by omega)).symm | (congr 1; omega) | (simp at *; congr 1; omega)
  · have D : Hid (stp a * stp b = _) := (ab_mul_same (by omega)).trans d9
    clear d9
    go_enter Try.func21, Try.ntmps21
    go_wp2_with (first
      | (go_at_call 32; refine (rstop_any _ _).mono ?_; rintro e w' ⟨rfl, rfl⟩)
      | (go_at_call 34; refine (rabs_any _ _ (by omega)).mono ?_; rintro e w' ⟨rfl, rfl⟩))
    all_goals
      go_ret
      refine ⟨ret_int ?_, rfl⟩
      unfold fMul
      rw [D.out]
      clear D a0 a1 b0 b1 x0 x1 y0 y1
      generalize ab (stp a) / 16777216 * (ab (stp b) / 16777216) = p at *
      generalize ab (stp a) / 16777216 * (ab (stp b) % 16777216) = q at *
      generalize ab (stp a) % 16777216 * (ab (stp b) / 16777216) = r at *
      generalize ab (stp a) % 16777216 * (ab (stp b) % 16777216) = s at *
      first | (exfalso; omega) | exact (stp_hi (by omega)).symm | (congr 1; omega) | (simp at *; congr 1; omega)

theorem neg_qdn (x y : Int) (h : y < 0) : (-x * 65536) / (-y) = qdn (x * 65536) y := by unfold qdn; rw [if_pos h, Int.neg_mul]
theorem pos_qdn (x y : Int) (h : 0 ≤ y) : (x * 65536) / y = qdn (x * 65536) y := q_pp h
theorem rdiv_any (a b : Int) (w : World) (hb : b ≠ 0) : Calls Try.prog 17 #[.int .i64 a, .int .i64 b] w fun e w' => e = .returned (.tuple #[.int .i64 (fDiv a b), .int .i64 0]) ∧ w' = w := by
  have a0 := stp_ge a; have a1 := stp_le a; have b0 := stp_ge b; have b1 := stp_le b
  have hz := stp_ne hb
  have hz' : (stp b == 0) = false := by simpa using hz
  by_cases sb : stp b < 0
  · go_enter Try.func17, Try.ntmps17
    go_wp2_with (first
      | (go_at_call 32; refine (rstop_any _ _).mono ?_; rintro e w' ⟨rfl, rfl⟩)
      | (go_at_call 33; refine (rdown_any _ _ _ (by omega) (by omega) (by omega)).mono ?_; rintro e w' ⟨rfl, rfl⟩))
    go_ret2
    exact ⟨ret_int2 (by unfold fDiv; rw [← neg_qdn _ _ sb, Int.ediv_neg]) rfl, rfl⟩
  · go_enter Try.func17, Try.ntmps17
    go_wp2_with (first
      | (go_at_call 32; refine (rstop_any _ _).mono ?_; rintro e w' ⟨rfl, rfl⟩)
      | (go_at_call 33; refine (rdown_any _ _ _ (by omega) (by omega) (by omega)).mono ?_; rintro e w' ⟨rfl, rfl⟩))
    go_ret2
    exact ⟨ret_int2 (by unfold fDiv; rw [← pos_qdn _ _ ‹_›]) rfl, rfl⟩
theorem rdiv_zero (a : Int) (w : World) : Calls Try.prog 17 #[.int .i64 a, .int .i64 0] w fun e w' => e = .returned (.tuple #[.int .i64 0, .int .i64 10]) ∧ w' = w := by
  have hz := stp_zero
  go_enter Try.func17, Try.ntmps17
  go_wp2_with (go_at_call 32; refine (rstop_any _ _).mono ?_; rintro e w' ⟨rfl, rfl⟩)
  go_ret2
  exact ⟨rfl, rfl⟩
theorem rof_any (n : Int) (w : World) : Calls Try.prog 22 #[.int .i64 n] w fun e w' => e = .returned (.int .i64 (fOf n)) ∧ w' = w := by
  by_cases h1 : 1073741824 < n
  · rw [of_hi h1]
    go_enter Try.func22, Try.ntmps22
    go_wp2
    go_ret
    exact ⟨rfl, rfl⟩
  · by_cases h2 : n < -1073741824
    · rw [of_lo h2]
      go_enter Try.func22, Try.ntmps22
      go_wp2
      go_ret
      exact ⟨rfl, rfl⟩
    · rw [of_id (by omega) (by omega)]
      go_enter Try.func22, Try.ntmps22
      go_wp2
      go_ret
      exact ⟨rfl, rfl⟩
theorem rround_any (x : Int) (w : World) : Calls Try.prog 23 #[.int .i64 x] w fun e w' => e = .returned (.int .i64 (fRound x)) ∧ w' = w := by
  have a0 := stp_ge x; have a1 := stp_le x
  go_enter Try.func23, Try.ntmps23
  go_wp2_with (first
    | (go_at_call 32; refine (rstop_any _ _).mono ?_; rintro e w' ⟨rfl, rfl⟩)
    | (go_at_call 33; refine (rdown_any _ _ _ (by omega) (by omega) (by omega)).mono ?_; rintro e w' ⟨rfl, rfl⟩))
  go_ret
  exact ⟨rfl, rfl⟩
theorem rclamp_any (x l h : Int) (w : World) : Calls Try.prog 24 #[.int .i64 x, .int .i64 l, .int .i64 h] w fun e w' => e = .returned (.int .i64 (fClamp x l h)) ∧ w' = w := by
  by_cases h1 : x < l
  · rw [show fClamp x l h = l by unfold fClamp; rw [if_pos (by omega)]]
    go_enter Try.func24, Try.ntmps24
    go_wp2
    go_ret
    exact ⟨rfl, rfl⟩
  · by_cases h2 : h < l
    · rw [show fClamp x l h = l by unfold fClamp; rw [if_pos (by omega)]]
      go_enter Try.func24, Try.ntmps24
      go_wp2
      go_ret
      exact ⟨rfl, rfl⟩
    · by_cases h3 : h < x
      · rw [show fClamp x l h = h by unfold fClamp; rw [if_neg (by omega), if_pos h3]]
        go_enter Try.func24, Try.ntmps24
        go_wp2
        go_ret
        exact ⟨rfl, rfl⟩
      · rw [show fClamp x l h = x by unfold fClamp; rw [if_neg (by omega), if_neg h3]]
        go_enter Try.func24, Try.ntmps24
        go_wp2
        go_ret
        exact ⟨rfl, rfl⟩
theorem rmix_any (o n p : Int) (w : World) : Calls Try.prog 25 #[.int .i64 o, .int .i64 n, .int .i64 p] w fun e w' => e = .returned (.int .i64 (fMix o n p)) ∧ w' = w := by
  have a0 := stp_ge o; have a1 := stp_le o; have b0 := stp_ge n; have b1 := stp_le n
  have c0 := clamp_ge p; have c1 := clamp_le p
  obtain ⟨⟨m0, m1⟩, ⟨m2, m3⟩, m4⟩ := mix_parts (d := stp n - stp o) (by omega) (by omega) c0 c1
  have M := hid m4
  clear m4
  go_enter Try.func25, Try.ntmps25
  go_wp2_with (first
    | (go_at_call 32; refine (rstop_any _ _).mono ?_; rintro e w' ⟨rfl, rfl⟩)
    | (go_at_call 24; refine (rclamp_any _ _ _ _).mono ?_; rintro e w' ⟨rfl, rfl⟩)
    | (go_at_call 33; refine (rdown_any _ _ _ (by omega) (by omega) (by omega)).mono ?_; rintro e w' ⟨rfl, rfl⟩))
  go_ret
  exact ⟨ret_int (by unfold fMix; rw [← M.out]; omega), rfl⟩
end Go.Proofs.Ytbmgkimfflidiaa
