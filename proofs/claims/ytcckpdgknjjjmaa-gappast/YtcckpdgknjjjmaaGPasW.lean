/-
  GapPast's walk: a gap is past just when nothing has stood there for that long (made by a program).
-/
import Derived.Test.YtcckpdgknjjjmaaGapT
import Derived.Test.YtcckpdgknjjjmaaGapU
import Derived.Laws.StructEq
namespace Go.Proofs.Ytcckpdgknjjjmaa
open Go.RowKit Go.Lib Go.Deep
set_option linter.unusedVariables false
set_option linter.unusedSimpArgs false

theorem gpast_long (l s : Int) {a : Option Addr} {n c : Nat} {L : List Bool} {w : World} (hA : Bo w a n L) (hl : 400 < n) : Calls Try.prog 7 #[.slice a n c, .int .i64 l, .int .i64 s] w fun e w' => e = .returned (.bool true) ∧ Kept w w' none := by
  have hmx := hA.max
  clear hA
  go_enter Try.func7, Try.ntmps7
  go_wp2_with (go_at_call 13; refine (alive_any _).mono ?_; rintro e1 w1 ⟨rfl, hk1⟩)
  go_ret
  exact ⟨rfl, hk1⟩
theorem gpast_none (l s : Int) {a : Option Addr} {n c : Nat} {L : List Bool} {w : World} (hA : Bo w a n L) (hl : n < 1) : Calls Try.prog 7 #[.slice a n c, .int .i64 l, .int .i64 s] w fun e w' => e = .returned (.bool true) ∧ Kept w w' none := by
  have hmx := hA.max
  clear hA
  go_enter Try.func7, Try.ntmps7
  go_wp2_with (go_at_call 13; refine (alive_any _).mono ?_; rintro e1 w1 ⟨rfl, hk1⟩)
  go_ret
  exact ⟨rfl, hk1⟩
theorem gpast_less (l s : Int) {a : Option Addr} {n c : Nat} {L : List Bool} {w : World} (hA : Bo w a n L) (hl : n ≤ 400) (hn : 1 ≤ n) (h1 : l < s) : Calls Try.prog 7 #[.slice a n c, .int .i64 l, .int .i64 s] w fun e w' => e = .returned (.bool true) ∧ Kept w w' none := by
  have hmx := hA.max
  clear hA
  go_enter Try.func7, Try.ntmps7
  go_wp2_with (go_at_call 13; refine (alive_any _).mono ?_; rintro e1 w1 ⟨rfl, hk1⟩)
  go_ret
  exact ⟨rfl, hk1⟩
theorem gpast_neg (l s : Int) {a : Option Addr} {n c : Nat} {L : List Bool} {w : World} (hA : Bo w a n L) (hl : n ≤ 400) (hn : 1 ≤ n) (h1 : ¬ l < s) (h2 : s < 0) : Calls Try.prog 7 #[.slice a n c, .int .i64 l, .int .i64 s] w fun e w' => e = .returned (.bool true) ∧ Kept w w' none := by
  have hmx := hA.max
  clear hA
  go_enter Try.func7, Try.ntmps7
  go_wp2_with (go_at_call 13; refine (alive_any _).mono ?_; rintro e1 w1 ⟨rfl, hk1⟩)
  go_ret
  exact ⟨rfl, hk1⟩
theorem gpast_more (l s : Int) {a : Option Addr} {n c : Nat} {L : List Bool} {w : World} (hA : Bo w a n L) (hl : n ≤ 400) (hn : 1 ≤ n) (h1 : ¬ l < s) (h2 : ¬ s < 0) (h3 : 1048576 < l) : Calls Try.prog 7 #[.slice a n c, .int .i64 l, .int .i64 s] w fun e w' => e = .returned (.bool true) ∧ Kept w w' none := by
  have hmx := hA.max
  clear hA
  go_enter Try.func7, Try.ntmps7
  go_wp2_with (go_at_call 13; refine (alive_any _).mono ?_; rintro e1 w1 ⟨rfl, hk1⟩)
  go_ret
  exact ⟨rfl, hk1⟩
theorem past_at {L : List Bool} {n : Nat} (hn : n ≤ L.length) {l : Int} (h0 : 0 ≤ l) (h1 : l ≤ 1048576) (w : World) : Calls Try.prog 11 #[gaV (atG L n), .int .i64 l] w fun e w' => e = .returned (.tuple #[.bool (paB (atG L n) l), .int .i64 0]) ∧ Kept w w' none := by
  obtain ⟨hm, h3, h4⟩ := may_atG (L := L) n hn
  have h := past_any (atG L n) l w h3 h4
  unfold paE at h
  rw [if_pos hm, show wiB l 0 1048576 = true from decide_eq_true ⟨h0, h1⟩, if_pos rfl] at h
  exact h
set_option maxRecDepth 100000 in
set_option maxHeartbeats 8000000 in
theorem gpast_main (l s : Int) {a : Option Addr} {n c : Nat} {L : List Bool} {w : World} (hA : Bo w a n L) (hl : n ≤ 400) (hn : 1 ≤ n) (h1 : s ≤ l) (h2 : 0 ≤ s) (h3 : l ≤ 1048576) : Calls Try.prog 7 #[.slice a n c, .int .i64 l, .int .i64 s] w fun e w' => e = .returned (.bool true) ∧ Kept w w' none := by
  have hmx := hA.max
  have HA := Hid.mk' hA
  have HLn : Hid (n = L.length) := hA.size.symm
  have HP1 := Hid.mk' (fun w' => past_at (L := L) (n := n) (by rw [hA.size]; omega) (l := l) (by omega) (by omega) w')
  have HP2 := Hid.mk' (fun w' => past_at (L := L) (n := n) (by rw [hA.size]; omega) (l := s) (by omega) (by omega) w')
  obtain ⟨A, hA'⟩ : ∃ A, A = paB (atG L n) l := ⟨_, rfl⟩
  obtain ⟨B, hB'⟩ : ∃ B, B = paB (atG L n) s := ⟨_, rfl⟩
  rw [← hA'] at HP1
  rw [← hB'] at HP2
  have HA' := Hid.mk' hA'
  have HB' := Hid.mk' hB'
  have HAT := Hid.mk' (fun (w' : World) => @behind_any a n c L w')
  clear hA hA' hB'
  obtain ⟨G, hG⟩ : ∃ G, G = atG L n := ⟨_, rfl⟩
  rw [← hG] at HP1 HP2 HAT
  clear hG
  obtain ⟨G0, G1, G2, G3, G4⟩ := G
  go_enter Try.func7, Try.ntmps7
  go_wp2_with (first
    | (go_at_call 11; have hgo := hk3; clear hgo; refine (HP2.out _).mono ?_; rintro e w4 ⟨rfl, hk4⟩; have HA4 := Hid.mk' (HA3.out.kept hk4); clear gb0 gb1 gb2 gb3 gb4)
    | (go_at_call 11; refine (HP1.out _).mono ?_; rintro e w3 ⟨rfl, hk3⟩; have HA3 := Hid.mk' ((HA2.out.kept (Kept.alloc _ _ _ _ _)).kept hk3); have G3' := (b5_alloc w2 (.bool G0) (.int .i64 G1) (.int .i64 G2) (.int .i64 G3) (.int .u64 G4) 24).kept hk3; have gb0 := G3'.c0; have gb1 := G3'.c1; have gb2 := G3'.c2; have gb3 := G3'.c3; have gb4 := G3'.c4;)
    | (go_at_call 9; refine (HAT.out _ HA1.out).mono ?_; rintro e w2 ⟨rfl, hk2⟩; have HA2 := Hid.mk' (HA1.out.kept hk2))
    | (go_at_call 13; refine (alive_any _).mono ?_; rintro e1 w1 ⟨rfl, hk1⟩; have HA1 := Hid.mk' (HA.out.kept hk1)))
  have HK4 := Hid.mk' ((((hk1.tr hk2).tr (Kept.alloc w2 #[.bool G0, .int .i64 G1, .int .i64 G2, .int .i64 G3, .int .u64 G4] 24 (0, 0) none)).tr hk3).tr hk4)
  clear hk1 hk2 hk3 hk4 HA HA1 HA2 HA3 G3' HP1 HP2 HAT
  obtain ⟨b3, o3, e3, _, hc3⟩ := HA4.out.at_ (by omega)
  subst e3
  have HC := Hid.mk' hc3
  have kl0 := hc3 (n - 1) (by omega)
  clear hc3
  go_loopw [14, 15] (fun rv iv wr => ∃ (r : Nat) (z : Int), rv = .int .i64 r ∧ iv = .int .i64 z ∧ z = (n : Int) - 1 - r ∧ r ≤ n ∧ (∀ m, n - r ≤ m → m < n → tr L m = false) ∧ wr = w4) (fun rv _ _ => n - (intOf rv).toNat)
  case atStart => exact ⟨0, (n : Int) - 1, rfl, rfl, by simp, by omega, fun m a b => by omega, rfl⟩
  case round =>
    obtain ⟨r, z, rfl, rfl, hz, hrn, hall, rfl⟩ := hrel
    have HALL := Hid.mk' hall
    clear hall
    by_cases hlt : r < n
    · obtain ⟨k, rfl⟩ : ∃ k : Nat, z = k := ⟨z.toNat, by omega⟩
      have hkr : k + r + 1 = n := by omega
      have hkn : k < n := by omega
      have kc := HC.out k hkn
      clear hz
      cases hy : tr L k
      · rw [hy] at kc
        have HN : Hid (∀ m, n - (r + 1) ≤ m → m < n → tr L m = false) := fun m a b => by
          by_cases h : m = k
          · rw [h]; exact hy
          · exact HALL.out m (by omega) b
        have HKR := Hid.mk' hkr
        clear hkr HALL hy kl0
        go_wp2
        go_roundw
        case rel => exact ⟨r + 1, (k : Int) - 1, by go_num, rfl, by have := HKR.out; omega, by have := HKR.out; omega, HN.out, by first | trivial | rfl⟩
        case measure => have := HKR.out; simp [intOf]; omega
      · rw [hy] at kc
        have hst : r = n ∨ tr L (n - r - 1) = true := Or.inr (by rw [show n - r - 1 = k by omega]; exact hy)
        have eA : A = (!tr L (n - 1) && decide (l ≤ r)) := HA'.out.trans (past_run hn HLn.out (by omega) hrn HALL.out hst (by omega) (by omega))
        have eB : B = (!tr L (n - 1) && decide (s ≤ r)) := HB'.out.trans (past_run hn HLn.out (by omega) hrn HALL.out hst (by omega) (by omega))
        have hr0 : tr L (n - 1) = true → r = 0 := fun hy => by
          by_cases h0 : r = 0
          · exact h0
          · have := HALL.out (n - 1) (by omega) (by omega)
            rw [hy] at this; cases this
        clear HA' HB' HALL hst
        have kl := kl0
        clear hy hkr
        cases hy : tr L (n - 1)
        · rw [hy] at kl eA eB
          clear hr0 hy kl0
          by_cases q1 : l ≤ r
          · have q2 : s ≤ r := by omega
            rw [decide_eq_true q1] at eA
            rw [decide_eq_true q2] at eB
            obtain rfl : A = true := eA
            obtain rfl : B = true := eB
            go_wp2
            go_ret
            exact ⟨by simp [q1, q2], HK4.out⟩
          · rw [decide_eq_false q1] at eA
            obtain rfl : A = false := eA
            by_cases q2 : s ≤ r
            · rw [decide_eq_true q2] at eB
              obtain rfl : B = true := eB
              go_wp2
              go_ret
              exact ⟨by simp [q1, q2], HK4.out⟩
            · rw [decide_eq_false q2] at eB
              obtain rfl : B = false := eB
              go_wp2
              go_ret
              exact ⟨by simp [q1, q2], HK4.out⟩
        · rw [hy] at kl eA eB
          obtain rfl : A = false := eA
          obtain rfl : B = false := eB
          clear hr0 hy kl0
          go_wp2
          go_ret
          exact ⟨by simp, HK4.out⟩

    · obtain rfl : z = -1 := by omega
      have hrn2 : r = n := by omega
      have hst : r = n ∨ tr L (n - r - 1) = true := Or.inl hrn2
      have eA : A = (!tr L (n - 1) && decide (l ≤ r)) := HA'.out.trans (past_run hn HLn.out (by omega) hrn HALL.out hst (by omega) (by omega))
      have eB : B = (!tr L (n - 1) && decide (s ≤ r)) := HB'.out.trans (past_run hn HLn.out (by omega) hrn HALL.out hst (by omega) (by omega))
      have hr0 : tr L (n - 1) = true → r = 0 := fun hy => by
        by_cases h0 : r = 0
        · exact h0
        · have := HALL.out (n - 1) (by omega) (by omega)
          rw [hy] at this; cases this
      clear HA' HB' HALL hst
      have kl := kl0
      clear hrn2 hz hlt
      cases hy : tr L (n - 1)
      · rw [hy] at kl eA eB
        clear hr0 hy kl0
        by_cases q1 : l ≤ r
        · have q2 : s ≤ r := by omega
          rw [decide_eq_true q1] at eA
          rw [decide_eq_true q2] at eB
          obtain rfl : A = true := eA
          obtain rfl : B = true := eB
          go_wp2
          go_ret
          exact ⟨by simp [q1, q2], HK4.out⟩
        · rw [decide_eq_false q1] at eA
          obtain rfl : A = false := eA
          by_cases q2 : s ≤ r
          · rw [decide_eq_true q2] at eB
            obtain rfl : B = true := eB
            go_wp2
            go_ret
            exact ⟨by simp [q1, q2], HK4.out⟩
          · rw [decide_eq_false q2] at eB
            obtain rfl : B = false := eB
            go_wp2
            go_ret
            exact ⟨by simp [q1, q2], HK4.out⟩
      · rw [hy] at kl eA eB
        obtain rfl : A = false := eA
        obtain rfl : B = false := eB
        clear hr0 hy kl0
        go_wp2
        go_ret
        exact ⟨by simp, HK4.out⟩

theorem gpast_any (l s : Int) {a : Option Addr} {n c : Nat} {L : List Bool} {w : World} (hA : Bo w a n L) : Calls Try.prog 7 #[.slice a n c, .int .i64 l, .int .i64 s] w fun e w' => e = .returned (.bool true) ∧ Kept w w' none := by
  by_cases hl : 400 < n
  · exact gpast_long l s hA hl
  by_cases hn : n < 1
  · exact gpast_none l s hA hn
  by_cases h1 : l < s
  · exact gpast_less l s hA (by omega) (by omega) h1
  by_cases h2 : s < 0
  · exact gpast_neg l s hA (by omega) (by omega) h1 h2
  by_cases h3 : 1048576 < l
  · exact gpast_more l s hA (by omega) (by omega) h1 h2 h3
  exact gpast_main l s hA (by omega) (by omega) (by omega) (by omega) (by omega)

end Go.Proofs.Ytcckpdgknjjjmaa
