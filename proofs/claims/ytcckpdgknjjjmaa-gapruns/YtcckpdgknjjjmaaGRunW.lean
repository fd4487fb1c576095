/-
  GapRuns' walk: as many came as there are runs; Held and Open are the last run's length (made by a program).
-/
import Derived.Test.YtcckpdgknjjjmaaGapT
import Derived.Test.YtcckpdgknjjjmaaGapU
import Derived.Laws.StructEq
namespace Go.Proofs.Ytcckpdgknjjjmaa
open Go.RowKit Go.Lib Go.Deep
set_option linter.unusedVariables false
set_option linter.unusedSimpArgs false

theorem gruns_long {a : Option Addr} {n c : Nat} {L : List Bool} {w : World} (hA : Bo w a n L) (hl : 400 < n) : Calls Try.prog 5 #[.slice a n c] w fun e w' => e = .returned (.bool true) ∧ Kept w w' none := by
  have hmx := hA.max
  clear hA
  go_enter Try.func5, Try.ntmps5
  go_wp2_with (go_at_call 13; refine (alive_any _).mono ?_; rintro e1 w1 ⟨rfl, hk1⟩)
  go_ret
  exact ⟨rfl, hk1⟩
set_option maxRecDepth 100000 in
set_option maxHeartbeats 8000000 in
theorem gruns_main {a : Option Addr} {n c : Nat} {L : List Bool} {w : World} (hA : Bo w a n L) (hl : n ≤ 400) : Calls Try.prog 5 #[.slice a n c] w fun e w' => e = .returned (.bool true) ∧ Kept w w' none := by
  have hmx := hA.max
  have HA := Hid.mk' hA
  have HL := Hid.mk' hA.size
  have HAT := Hid.mk' (fun (w' : World) => @behind_any a n c L w')
  obtain ⟨G, hG⟩ : ∃ G, G = atG L n := ⟨_, rfl⟩
  rw [← hG] at HAT
  have HG := Hid.mk' hG
  clear hA hG
  obtain ⟨G0, G1, G2, G3, G4⟩ := G
  go_enter Try.func5, Try.ntmps5
  go_wp2_with (first
    | (go_at_call 9; refine (HAT.out _ HA1.out).mono ?_; rintro e w2 ⟨rfl, hk2⟩; have HA2 := Hid.mk' (HA1.out.kept hk2))
    | (go_at_call 13; refine (alive_any _).mono ?_; rintro e1 w1 ⟨rfl, hk1⟩; have HA1 := Hid.mk' (HA.out.kept hk1)))
  have HK3 := Hid.mk' ((hk1.tr hk2).tr (Kept.alloc w2 #[.bool G0, .int .i64 G1, .int .i64 G2, .int .i64 G3, .int .u64 G4] 24 (0, 0) none))
  have HA3 := Hid.mk' (HA2.out.kept (Kept.alloc w2 #[.bool G0, .int .i64 G1, .int .i64 G2, .int .i64 G3, .int .u64 G4] 24 (0, 0) none))
  have HB3 := Hid.mk' (b5_alloc w2 (.bool G0) (.int .i64 G1) (.int .i64 G2) (.int .i64 G3) (.int .u64 G4) 24)
  obtain ⟨w3, hw3⟩ : ∃ w3, w2.alloc (.cells #[.bool G0, .int .i64 G1, .int .i64 G2, .int .i64 G3, .int .u64 G4] 24) = w3 := ⟨_, rfl⟩
  rw [hw3] at HK3 HA3 HB3 ⊢
  clear hw3 hk1 hk2 HA HA1 HA2 HAT
  go_loopw [6, 7, 8] (fun cv rv iv wr => ∃ (i : Nat), cv = .int .i64 (atG L i).came ∧ rv = .int .i64 (runG (atG L i)) ∧ iv = .int .i64 i ∧ i ≤ n ∧ Kept w3 wr none) (fun _ _ iv _ => n - (intOf iv).toNat)
  case atStart => exact ⟨0, rfl, rfl, rfl, by omega, Kept.refl _ _⟩
  case round =>
    obtain ⟨i, rfl, rfl, rfl, hin, hkr⟩ := hrel
    have HKR := Hid.mk' hkr
    clear hkr
    obtain ⟨d0, d1, d2, d3⟩ := run_bd (L := L) (k := i) (by have := HL.out; omega) (by omega)
    by_cases hlt : i < n
    · have hiL : i < L.length := by have := HL.out; omega
      obtain ⟨b3, o3, e3, _, hc3⟩ := (HA3.out.kept HKR.out).at_ (by omega)
      subst e3
      have x1 := hc3 i hlt
      obtain ⟨C, hC⟩ : ∃ C, C = (atG L i).came := ⟨_, rfl⟩
      obtain ⟨C', hC'⟩ : ∃ C', C' = (atG L (i + 1)).came := ⟨_, rfl⟩
      obtain ⟨R, hR⟩ : ∃ R, R = runG (atG L i) := ⟨_, rfl⟩
      obtain ⟨R', hR'⟩ : ∃ R', R' = runG (atG L (i + 1)) := ⟨_, rfl⟩
      rw [← hC] at d2 d3 ⊢
      rw [← hR] at d0 d1 ⊢
      have HC' := Hid.mk' hC'
      have HR' := Hid.mk' hR'
      by_cases hi : 1 ≤ i
      · obtain ⟨k, hk⟩ : ∃ k : Nat, (i : Int) - 1 = (k : Int) := ⟨i - 1, by omega⟩
        have hkn : k < n := by omega
        have x2 := hc3 k hkn
        have hu : (atG L i).up = tr L k := by
          have := up_succ (L := L) (k := k) (by omega)
          rw [show k + 1 = i by omega] at this
          exact this
        have hpos : (0 : Int) < i := by omega
        have hpos2 : 0 < i := by omega
        have hz : ¬ ((i : Int) = 0) := by omega
        cases hy : tr L i <;> cases hp : tr L k
        all_goals rw [hy] at x1
        all_goals rw [hp] at x2 hu
        · obtain rfl : C' = C := by rw [hC', hC]; exact came_no hiL (by rw [hy]; simp)
          obtain rfl : R' = R + 1 := by rw [hR', hR]; exact run_same hiL (by omega) (by rw [hy, hu])
          clear hC hC' hR hR' hy hp hu hc3 hiL
          go_wp2
          go_quiet (fail)
          all_goals
            go_wp2
            go_roundw
            case rel => exact ⟨i + 1, by rw [HC'.out], by rw [HR'.out], by go_num, by omega, HKR.out.tr (Kept.drewN _ _ _)⟩
            case measure => simp [intOf]; omega
        · obtain rfl : C' = C := by rw [hC', hC]; exact came_no hiL (by rw [hy]; simp)
          obtain rfl : R' = 1 := by rw [hR']; exact run_other hiL (by rw [hy, hu]; simp)
          clear hC hC' hR hR' hy hp hu hc3 hiL
          go_wp2
          go_quiet (fail)
          all_goals
            go_wp2
            go_roundw
            case rel => exact ⟨i + 1, by rw [HC'.out], by rw [HR'.out], by go_num, by omega, HKR.out.tr (Kept.drewN _ _ _)⟩
            case measure => simp [intOf]; omega
        · obtain rfl : C' = C + 1 := by rw [hC', hC]; exact came_yes hiL (by omega) hy hu
          obtain rfl : R' = 1 := by rw [hR']; exact run_other hiL (by rw [hy, hu]; simp)
          clear hC hC' hR hR' hy hp hu hc3 hiL
          go_wp2
          go_quiet (fail)
          all_goals
            go_wp2
            go_roundw
            case rel => exact ⟨i + 1, by rw [HC'.out], by rw [HR'.out], by go_num, by omega, HKR.out.tr (Kept.drewN _ _ _)⟩
            case measure => simp [intOf]; omega
        · obtain rfl : C' = C := by rw [hC', hC]; exact came_no hiL (by rw [hu]; simp)
          obtain rfl : R' = R + 1 := by rw [hR', hR]; exact run_same hiL (by omega) (by rw [hy, hu])
          clear hC hC' hR hR' hy hp hu hc3 hiL
          go_wp2
          go_quiet (fail)
          all_goals
            go_wp2
            go_roundw
            case rel => exact ⟨i + 1, by rw [HC'.out], by rw [HR'.out], by go_num, by omega, HKR.out.tr (Kept.drewN _ _ _)⟩
            case measure => simp [intOf]; omega
      · obtain rfl : i = 0 := by omega
        have hu : (atG L 0).up = false := rfl
        have hRR : R' = 1 := by rw [hR']; exact run_first (by omega)
        have hR0 : R = 0 := by rw [hR]; rfl
        have hC0 : C = 0 := by rw [hC]; rfl
        rw [Nat.add_zero] at x1
        cases hy : tr L 0
        all_goals rw [hy] at x1
        · have hCC : C' = 0 := by rw [hC', came_no hiL (by rw [hy]; simp)]; rfl
          subst hRR hR0 hC0 hCC
          clear hC hC' hR hR' hy hu hc3 hiL
          go_wp2
          go_quiet (fail)
          go_wp2
          go_roundw
          case rel => exact ⟨1, by rw [HC'.out], by rw [HR'.out], by go_num, by omega, HKR.out.tr (Kept.drewN _ _ _)⟩
          case measure => simp [intOf]; omega
        · have hCC : C' = 1 := by rw [hC', came_yes hiL (by omega) hy hu]; rfl
          subst hRR hR0 hC0 hCC
          clear hC hC' hR hR' hy hu hc3 hiL
          go_wp2
          go_quiet (fail)
          go_wp2
          go_roundw
          case rel => exact ⟨1, by rw [HC'.out], by rw [HR'.out], by go_num, by omega, HKR.out.tr (Kept.drewN _ _ _)⟩
          case measure => simp [intOf]; omega
    · obtain rfl : i = n := by omega
      have BB := HB3.out.kept HKR.out
      have bb0 := BB.c0
      have bb1 := BB.c1
      have bb2 := BB.c2
      have bb3 := BB.c3
      have bb4 := BB.c4
     
      have hm := may_iff.1 (may_atG (L := L) i (by have := HL.out; omega)).1
      rw [← HG.out] at hm d0 d1 d2 d3 ⊢
      have hhz := hm.hz
      have hoz := hm.oz
      clear hm
      by_cases h0 : i = 0
      · have e : (⟨G0, G1, G2, G3, G4⟩ : Ga) = Ga.zero := by rw [HG.out, h0]; rfl
        injection e with e0 e1 e2 e3 e4
        subst e0 e1 e2 e3 e4
        clear hhz hoz hlt hin
        subst h0
        go_wp2
        go_ret
        exact ⟨by simp, HK3.out.tr HKR.out⟩
      · have hu : G0 = tr L (i - 1) := by
          have := up_succ (L := L) (k := i - 1) (by have := HL.out; omega)
          rw [show i - 1 + 1 = i by omega, ← HG.out] at this
          exact this
        obtain ⟨b3, o3, e3, _, hc3⟩ := (HA3.out.kept HKR.out).at_ (by omega)
        subst e3
        have x1 := hc3 (i - 1) (by omega)
        rw [← hu] at x1
        have hpos2 : 0 < i := by omega
        have hne : ¬ ((i : Int) = 0) := by omega
        have hin1 : 1 ≤ i := by omega
        clear hc3 hu
        have hrun : runG ⟨G0, G1, G2, G3, G4⟩ = if G0 = true then G1 else G2 := rfl
        cases G0
        · obtain rfl : G1 = 0 := hhz rfl
          rw [show runG ⟨false, 0, G2, G3, G4⟩ = G2 from rfl]
          clear hhz hoz hrun
          go_wp2
          go_ret
          exact ⟨by simp, HK3.out.tr HKR.out⟩
        · obtain rfl : G2 = 0 := hoz rfl
          rw [show runG ⟨true, G1, 0, G3, G4⟩ = G1 from rfl]
          clear hhz hoz hrun
          go_wp2
          go_ret
          exact ⟨by simp, HK3.out.tr HKR.out⟩
theorem gruns_any {a : Option Addr} {n c : Nat} {L : List Bool} {w : World} (hA : Bo w a n L) : Calls Try.prog 5 #[.slice a n c] w fun e w' => e = .returned (.bool true) ∧ Kept w w' none := by
  by_cases hl : 400 < n
  · exact gruns_long hA hl
  · exact gruns_main hA (by omega)

end Go.Proofs.Ytcckpdgknjjjmaa
