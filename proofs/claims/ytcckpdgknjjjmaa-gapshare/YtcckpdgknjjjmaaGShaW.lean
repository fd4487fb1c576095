/-
  GapShare's walk: the share of the last ticks is how many of them something stood there (made by a program).
-/
import Derived.Test.YtcckpdgknjjjmaaGapT
import Derived.Test.YtcckpdgknjjjmaaGapU
import Derived.Laws.StructEq
namespace Go.Proofs.Ytcckpdgknjjjmaa
open Go.RowKit Go.Lib Go.Deep
set_option linter.unusedVariables false
set_option linter.unusedSimpArgs false

theorem gshare_long (m : Int) {a : Option Addr} {n c : Nat} {L : List Bool} {w : World} (hA : Bo w a n L) (hl : 400 < n) : Calls Try.prog 6 #[.slice a n c, .int .i64 m] w fun e w' => e = .returned (.bool true) ∧ Kept w w' none := by
  have hmx := hA.max
  clear hA
  go_enter Try.func6, Try.ntmps6
  go_wp2_with (go_at_call 13; refine (alive_any _).mono ?_; rintro e1 w1 ⟨rfl, hk1⟩)
  go_ret
  exact ⟨rfl, hk1⟩
theorem gshare_less (m : Int) {a : Option Addr} {n c : Nat} {L : List Bool} {w : World} (hA : Bo w a n L) (hl : n ≤ 400) (hm : m < 1) : Calls Try.prog 6 #[.slice a n c, .int .i64 m] w fun e w' => e = .returned (.bool true) ∧ Kept w w' none := by
  have hmx := hA.max
  clear hA
  go_enter Try.func6, Try.ntmps6
  go_wp2_with (go_at_call 13; refine (alive_any _).mono ?_; rintro e1 w1 ⟨rfl, hk1⟩)
  go_ret
  exact ⟨rfl, hk1⟩
theorem gshare_more (m : Int) {a : Option Addr} {n c : Nat} {L : List Bool} {w : World} (hA : Bo w a n L) (hl : n ≤ 400) (hm0 : ¬ m < 1) (hm : 64 < m) : Calls Try.prog 6 #[.slice a n c, .int .i64 m] w fun e w' => e = .returned (.bool true) ∧ Kept w w' none := by
  have hmx := hA.max
  clear hA
  go_enter Try.func6, Try.ntmps6
  go_wp2_with (go_at_call 13; refine (alive_any _).mono ?_; rintro e1 w1 ⟨rfl, hk1⟩)
  go_ret
  exact ⟨rfl, hk1⟩
/-- What Share answers behind ticks. -/
theorem share_at {L : List Bool} {n m lo t : Nat} (hn : n ≤ L.length) (h1 : 1 ≤ m) (h2 : m ≤ 64) (hlo : lo = n - m) (ht : t = min m n) (w : World) : Calls Try.prog 10 #[gaV (atG L n), .int .i64 m] w fun e w' => e = .returned (.tuple #[.int .i64 (quo (fbB L lo t) m), .int .i64 0]) ∧ Kept w w' none := by
  obtain ⟨hm, h3, h4⟩ := may_atG (L := L) n hn
  have h := share_any (atG L n) m w h3 h4
  have hw : wiB (m : Int) 1 64 = true := decide_eq_true (by omega)
  have hs := stand_tc (L := L) n m hn h2
  rw [tc_fb, ← hlo, ← ht] at hs
  have hb := fbB_le L lo t
  unfold shV shE at h
  rw [if_pos ⟨hm, hw⟩, if_pos hm, if_pos hw, hs, share_quo (by omega) (by omega) (by omega) (by omega)] at h
  exact h
set_option maxRecDepth 100000 in
set_option maxHeartbeats 4000000 in
theorem gshare_all (m : Nat) {a : Option Addr} {n c : Nat} {L : List Bool} {w : World} (hA : Bo w a n L) (hl : n ≤ 400) (h1 : 1 ≤ m) (h2 : m ≤ 64) (hnm : n ≤ m) : Calls Try.prog 6 #[.slice a n c, .int .i64 (m : Int)] w fun e w' => e = .returned (.bool true) ∧ Kept w w' none := by
  have hmx := hA.max
  have HA := Hid.mk' hA
  have HL := Hid.mk' hA.size
  have HS := Hid.mk' (fun w' => share_at (L := L) (n := n) (m := m) (lo := 0) (t := n) (by rw [hA.size]; omega) h1 h2 (by omega) (by omega) w')
  have hfb := fbB_le L 0 n
  obtain ⟨x1, x2, x3, x4, x5, x6⟩ := quo_facts (s := fbB L 0 n) (m := m) (by omega) (by omega) (by omega) (by omega)
  generalize quo (fbB L 0 n) m = X at *
  have hAT := fun (w' : World) => @behind_any a n c L w'
  have HAT := Hid.mk' hAT
  clear hAT hA
  generalize hG : atG L n = G at *
  clear hG
  obtain ⟨G0, G1, G2, G3, G4⟩ := G
  go_enter Try.func6, Try.ntmps6
  go_wp2_with (first
    | (go_at_call 10; refine (HS.out _).mono ?_; rintro e w3 ⟨rfl, hk3⟩; have HA3 := Hid.mk' ((HA2.out.kept (Kept.alloc _ _ _ _ _)).kept hk3))
    | (go_at_call 9; refine (HAT.out _ HA1.out).mono ?_; rintro e w2 ⟨rfl, hk2⟩; have HA2 := Hid.mk' (HA1.out.kept hk2))
    | (go_at_call 13; refine (alive_any _).mono ?_; rintro e1 w1 ⟨rfl, hk1⟩; have HA1 := Hid.mk' (HA.out.kept hk1)))
  have HK3 := Hid.mk' (((hk1.tr hk2).tr (Kept.alloc w2 #[.bool G0, .int .i64 G1, .int .i64 G2, .int .i64 G3, .int .u64 G4] 24 (0, 0) none)).tr hk3)
  clear hk1 hk2 hk3 HA HA1 HA2
  go_loopw [10, 11] (fun nv iv wr => ∃ (t : Nat), nv = .int .i64 (fbB L 0 t : Nat) ∧ iv = .int .i64 ((t : Nat) : Int) ∧ t ≤ n ∧ wr = w3) (fun _ iv _ => n - (intOf iv).toNat)
  case atStart => exact ⟨0, rfl, by rfl, by omega, rfl⟩
  case round =>
    obtain ⟨t, rfl, rfl, hin, rfl⟩ := hrel
    have hbt := fbB_le L 0 t
    have hss := fbB_succ L 0 t
    rw [Nat.zero_add] at hss
    have HSS := Hid.mk' hss
    clear hss
    by_cases hlt : t < n
    · obtain ⟨b3, o3, e3, _, hc3⟩ := HA3.out.at_ (by omega)
      have kc := hc3 (t) hlt
      clear hc3
      subst e3
      cases hy : tr L (t)
      · rw [hy] at kc
        have HY := Hid.mk' hy
        clear hy
        go_wp2
        go_roundw
        case rel => exact ⟨t + 1, by rw [HSS.out, HY.out]; rfl, by go_num, by omega, by first | trivial | rfl⟩
        case measure => simp [intOf]; omega
      · rw [hy] at kc
        have HY := Hid.mk' hy
        clear hy
        go_wp2
        go_roundw
        case rel => exact ⟨t + 1, by rw [HSS.out, HY.out]; rfl, by go_num, by omega, by first | trivial | rfl⟩
        case measure => simp [intOf]; omega
    · obtain rfl : t = n := by omega
      go_wp2
      go_ret
      exact ⟨by simp, HK3.out⟩
set_option maxRecDepth 100000 in
set_option maxHeartbeats 4000000 in
theorem gshare_some (m : Nat) {a : Option Addr} {n c : Nat} {L : List Bool} {w : World} (hA : Bo w a n L) (hl : n ≤ 400) (h1 : 1 ≤ m) (h2 : m ≤ 64) (hnm : m < n) : Calls Try.prog 6 #[.slice a n c, .int .i64 (m : Int)] w fun e w' => e = .returned (.bool true) ∧ Kept w w' none := by
  have hmx := hA.max
  have HA := Hid.mk' hA
  have HL := Hid.mk' hA.size
  have HS := Hid.mk' (fun w' => share_at (L := L) (n := n) (m := m) (lo := (n - m)) (t := m) (by rw [hA.size]; omega) h1 h2 (by omega) (by omega) w')
  have hfb := fbB_le L (n - m) m
  obtain ⟨x1, x2, x3, x4, x5, x6⟩ := quo_facts (s := fbB L (n - m) m) (m := m) (by omega) (by omega) (by omega) (by omega)
  generalize quo (fbB L (n - m) m) m = X at *
  have hAT := fun (w' : World) => @behind_any a n c L w'
  have HAT := Hid.mk' hAT
  clear hAT hA
  generalize hG : atG L n = G at *
  clear hG
  obtain ⟨G0, G1, G2, G3, G4⟩ := G
  go_enter Try.func6, Try.ntmps6
  go_wp2_with (first
    | (go_at_call 10; refine (HS.out _).mono ?_; rintro e w3 ⟨rfl, hk3⟩; have HA3 := Hid.mk' ((HA2.out.kept (Kept.alloc _ _ _ _ _)).kept hk3))
    | (go_at_call 9; refine (HAT.out _ HA1.out).mono ?_; rintro e w2 ⟨rfl, hk2⟩; have HA2 := Hid.mk' (HA1.out.kept hk2))
    | (go_at_call 13; refine (alive_any _).mono ?_; rintro e1 w1 ⟨rfl, hk1⟩; have HA1 := Hid.mk' (HA.out.kept hk1)))
  have HK3 := Hid.mk' (((hk1.tr hk2).tr (Kept.alloc w2 #[.bool G0, .int .i64 G1, .int .i64 G2, .int .i64 G3, .int .u64 G4] 24 (0, 0) none)).tr hk3)
  clear hk1 hk2 hk3 HA HA1 HA2
  go_loopw [10, 11] (fun nv iv wr => ∃ (t : Nat), nv = .int .i64 (fbB L (n - m) t : Nat) ∧ iv = .int .i64 (((n - m) + t : Nat) : Int) ∧ t ≤ m ∧ wr = w3) (fun _ iv _ => n - (intOf iv).toNat)
  case atStart => exact ⟨0, rfl, by first | rfl | (congr 1; omega), by omega, rfl⟩
  case round =>
    obtain ⟨t, rfl, rfl, hin, rfl⟩ := hrel
    have hbt := fbB_le L (n - m) t
    have hss := fbB_succ L (n - m) t
    have HSS := Hid.mk' hss
    clear hss
    by_cases hlt : (n - m) + t < n
    · obtain ⟨b3, o3, e3, _, hc3⟩ := HA3.out.at_ (by omega)
      have kc := hc3 ((n - m) + t) hlt
      clear hc3
      subst e3
      cases hy : tr L ((n - m) + t)
      · rw [hy] at kc
        have HY := Hid.mk' hy
        clear hy
        go_wp2
        go_roundw
        case rel => exact ⟨t + 1, by rw [HSS.out, HY.out]; rfl, by go_num, by omega, by first | trivial | rfl⟩
        case measure => simp [intOf]; omega
      · rw [hy] at kc
        have HY := Hid.mk' hy
        clear hy
        go_wp2
        go_roundw
        case rel => exact ⟨t + 1, by rw [HSS.out, HY.out]; rfl, by go_num, by omega, by first | trivial | rfl⟩
        case measure => simp [intOf]; omega
    · obtain rfl : t = m := by omega
      go_wp2
      go_ret
      exact ⟨by simp, HK3.out⟩
theorem gshare_any (m : Int) {a : Option Addr} {n c : Nat} {L : List Bool} {w : World} (hA : Bo w a n L) : Calls Try.prog 6 #[.slice a n c, .int .i64 m] w fun e w' => e = .returned (.bool true) ∧ Kept w w' none := by
  by_cases hl : 400 < n
  · exact gshare_long m hA hl
  by_cases h1 : m < 1
  · exact gshare_less m hA (by omega) h1
  by_cases h2 : 64 < m
  · exact gshare_more m hA (by omega) h1 h2
  obtain ⟨k, rfl⟩ : ∃ k : Nat, m = k := ⟨m.toNat, by omega⟩
  by_cases h3 : n ≤ k
  · exact gshare_all k hA (by omega) (by omega) (by omega) h3
  · exact gshare_some k hA (by omega) (by omega) (by omega) (by omega)

end Go.Proofs.Ytcckpdgknjjjmaa
