/-
  WellLast's walk: the share is how many of the last ticks something came in; behind 64 ticks nothing of before counts (made by a program).
-/
import Derived.Test.YtkdfiaeghbkgnaaWelB
namespace Go.Proofs.Ytkdfiaeghbkgnaa
open Go.RowKit Go.Lib Go.Deep
set_option linter.unusedVariables false
set_option linter.unusedSimpArgs false

theorem wlast_long (b : Nat) (m : Int) {a : Option Addr} {n c : Nat} {L : List Bool} {w : World} (hA : Bo w a n L) (hl : 300 < n) : Calls Try.prog 5 #[weV b, .slice a n c, .int .i64 m] w fun e w' => e = .returned (.bool true) ∧ Kept w w' none := by
  have hmx := hA.max
  clear hA
  go_enter Try.func5, Try.ntmps5
  go_wp2_with (go_at_call 9; refine (alive_any _).mono ?_; rintro e1 w1 ⟨rfl, hk1⟩)
  go_ret
  exact ⟨rfl, (Kept.alloc _ _ _ _ _).tr hk1⟩
theorem wlast_less (b : Nat) (m : Int) {a : Option Addr} {n c : Nat} {L : List Bool} {w : World} (hA : Bo w a n L) (hl : n ≤ 300) (hm : m < 1) : Calls Try.prog 5 #[weV b, .slice a n c, .int .i64 m] w fun e w' => e = .returned (.bool true) ∧ Kept w w' none := by
  have hmx := hA.max
  clear hA
  go_enter Try.func5, Try.ntmps5
  go_wp2_with (go_at_call 9; refine (alive_any _).mono ?_; rintro e1 w1 ⟨rfl, hk1⟩)
  go_ret
  exact ⟨rfl, (Kept.alloc _ _ _ _ _).tr hk1⟩
theorem wlast_more (b : Nat) (m : Int) {a : Option Addr} {n c : Nat} {L : List Bool} {w : World} (hA : Bo w a n L) (hl : n ≤ 300) (hm0 : ¬ m < 1) (hm : 64 < m) : Calls Try.prog 5 #[weV b, .slice a n c, .int .i64 m] w fun e w' => e = .returned (.bool true) ∧ Kept w w' none := by
  have hmx := hA.max
  clear hA
  go_enter Try.func5, Try.ntmps5
  go_wp2_with (go_at_call 9; refine (alive_any _).mono ?_; rintro e1 w1 ⟨rfl, hk1⟩)
  go_ret
  exact ⟨rfl, (Kept.alloc _ _ _ _ _).tr hk1⟩
theorem behind0 {a : Option Addr} {n c : Nat} {L : List Bool} {w : World} (hA : Bo w a n L) : Calls Try.prog 14 #[.agg #[.int .u64 0], .slice a n c] w fun e w' => e = .returned (weV (behW 0 L)) ∧ Kept w w' none := behind_any 0 (by decide) hA
theorem bit_int (b j : Nat) : ((b : Int) / 2 ^ j).tmod 2 = ((b / 2 ^ j % 2 : Nat) : Int) := by
  have h : ((b : Int) / 2 ^ j) = ((b / 2 ^ j : Nat) : Int) := by simp
  rw [h]
  generalize b / 2 ^ j = q
  rw [Int.tmod_eq_emod_of_nonneg (by omega)]
  omega
set_option maxRecDepth 100000 in
set_option maxHeartbeats 4000000 in
theorem wlast_near (b m : Nat) {a : Option Addr} {n c : Nat} {L : List Bool} {w : World} (hb : b < 18446744073709551616) (hA : Bo w a n L) (hl : n ≤ 300) (h1 : 1 ≤ m) (h2 : m ≤ 64) (h3 : n < 64) : Calls Try.prog 5 #[weV b, .slice a n c, .int .i64 (m : Int)] w fun e w' => e = .returned (.bool true) ∧ Kept w w' none := by
  have hmx := hA.max
  have hcn : (n : Int) < 64 := by omega
  have HL := Hid.mk' hA.size
  have hag := agN_le b L m
  have hS := fun w' => wshare_ok (behW b L) m w' (behW_lt hb L) h1 h2
  rw [agN_cnt hb L m h2] at hS
  have HS := Hid.mk' hS
  clear hS
  have HB := Hid.mk' (fun (w' : World) (h : Bo w' a n L) => @behind_any b a n c L w' hb h)
  obtain ⟨x1, x2, x3, x4, x5, x6⟩ := quo_facts (s := (agN b L m : Nat)) (m := m) (by omega) (by omega) (by omega) (by omega)
  generalize hN : agN b L m = N at *
  have HN := Hid.mk' hN
  clear hN
  generalize quo (N : Int) (m : Int) = S at *
  generalize behW b L = X at *
  have HA0 := Hid.mk' (hA.kept (Kept.alloc w #[.int .u64 (b : Int)] 24 (0, 0) none))
  have G := wb_alloc w b
  have HK := Hid.mk' (Kept.alloc w #[.int .u64 (b : Int)] 24 (0, 0) none)
  clear hA
  go_enter Try.func5, Try.ntmps5
  go_wp2_with (first
    | (go_at_call 7; have hgo := HA2; clear hgo; refine (HS.out _).mono ?_; rintro e w3 ⟨rfl, hk3⟩; have hq3 := (Kept.alloc w2 #[.int .u64 (X : Int)] 24 (0, 0) none).tr hk3; replace G := G.kept hq3; have HA3 := Hid.mk' (HA2.out.kept hq3); have GX := (wb_alloc w2 X).kept hk3; replace HK := Hid.mk' (HK.out.tr hq3); clear HA2 hk3 hq3 g2; have g3 := G.c0; have gx := GX.c0; have lg := G.lt; have lx := GX.lt)
    | (go_at_call 14; have hgo := HA1; clear hgo; refine (HB.out _ HA1.out).mono ?_; rintro e w2 ⟨rfl, hk2⟩; replace G := G.kept hk2; have HA2 := Hid.mk' (HA1.out.kept hk2); replace HK := Hid.mk' (HK.out.tr hk2); have g2 := G.c0; clear hk2 HA1 g1)
    | (go_at_call 9; refine (alive_any _).mono ?_; rintro e1 w1 ⟨rfl, hk1⟩; replace G := G.kept hk1; have HA1 := Hid.mk' (HA0.out.kept hk1); replace HK := Hid.mk' (HK.out.tr hk1); have g1 := G.c0; clear hk1 HA0))
  go_loopw [11, 12, 13] (fun nv iv kv wr => ∃ (i : Nat), nv = .int .i64 (agN b L i : Nat) ∧ iv = .int .i64 (i : Int) ∧ i ≤ m ∧ wr = w3) (fun _ iv _ _ => m - (intOf iv).toNat)
  case atStart => exact ⟨0, rfl, rfl, by omega, rfl⟩
  case round =>
    obtain ⟨i, rfl, rfl, hin, rfl⟩ := hrel
    have hbt := agN_le b L i
    have hss := agN_succ b L i
    by_cases hlt : i < m
    · by_cases hi : i < n
      · have hiL : i < L.length := by have := HL.out; omega
        rw [ago_in hiL, HL.out] at hss
        have HSS := Hid.mk' hss
        clear hss hiL
        obtain ⟨b3, o3, e3, _, hc3⟩ := HA3.out.at_ (by omega)
        obtain ⟨k, hk⟩ : ∃ k : Nat, k = n - 1 - i := ⟨_, rfl⟩
        rw [← hk] at HSS
        have kc := hc3 k (by omega)
        have hki : (n : Int) - 1 - i = k := by omega
        have hkn : k < n := by omega
        clear hc3 hk
        subst e3
        generalize agN b L i = nn at *
        cases hy : tr L k
        all_goals
          rw [hy] at kc
          have HY := Hid.mk' hy
          clear hy
          go_wp2
          go_roundw
          case rel => exact ⟨i + 1, by rw [HSS.out, HY.out]; rfl, by go_num, by omega, by first | trivial | rfl⟩
          case measure => simp [intOf]; omega
      · rw [ago_out (by have := HL.out; omega), HL.out] at hss
        have HSS := Hid.mk' hss
        clear hss
        obtain ⟨k, hk⟩ : ∃ k : Nat, k = i - n := ⟨_, rfl⟩
        rw [← hk] at HSS
        have hki : (-1 : Int) - ((n : Int) - 1 - i) = k := by omega
        have hneg : ¬ (0 : Int) ≤ (n : Int) - 1 - i := by omega
        have hb2 := bit_int b k
        have hb3 : b / 2 ^ k % 2 < 2 := Nat.mod_lt _ (by decide)
        clear hk
        generalize agN b L i = nn at *
        generalize hbb : b / 2 ^ k % 2 = y at *
        have hyy : y = 0 ∨ y = 1 := by omega
        rcases hyy with hy | hy
        all_goals
          subst hy
          have hb4 := hb2
          clear hb2 hbb hb3
          go_wp2
          go_roundw
          case rel => exact ⟨i + 1, by rw [HSS.out]; rfl, by go_num, by omega, by first | trivial | rfl⟩
          case measure => simp [intOf]; omega
    · obtain rfl : i = m := by omega
      rw [HN.out] at hbt ⊢
      clear hss
      have hc := fun w' (q : Kept wr w' none) => (GX.kept q).c0
      go_wp2
      refine Code.wp_mono (Q := RgP ?A16 (fun w' => Kept wr w' none)) ?cont16 ?reg16
      case reg16 =>
        (repeat (rename_i hh; clear hh))
        refine wp_region_held_drew (S := fun w' => Kept wr w' none) (by kernel_rfl) (Kept.drew _ _) (fun hHeld => ?_)
        refine held_take (i := 0) (v := ?rv2001) rfl rfl (by kernel_rfl) (by kernel_rfl) (by kernel_rfl) (fun _ _ _ h => h) (Or.inl ⟨by rfl, ?rhy2001⟩) hHeld ?rrest2001
        case rhy2001 => first | (intro w hSw; (try dsimp only at hSw); go_simp; done) | (intro w hSw; (try dsimp only at hSw); go_simp; with_reducible rfl)
        try simp only [List.setIfInBounds_toArray, List.set_cons_zero, List.set_cons_succ]
        refine held_take (i := 1) (v := ?rv2002) rfl rfl (by kernel_rfl) (by kernel_rfl) (by kernel_rfl) (fun _ _ _ h => h) (Or.inl ⟨by rfl, ?rhy2002⟩) hHeld ?rrest2002
        case rhy2002 => first | (intro w hSw; (try dsimp only at hSw); go_simp; done) | (intro w hSw; (try dsimp only at hSw); go_simp; with_reducible rfl)
        try simp only [List.setIfInBounds_toArray, List.set_cons_zero, List.set_cons_succ]
        refine held_take (i := 2) (v := ?rv2003) rfl rfl (by kernel_rfl) (by kernel_rfl) (by kernel_rfl) (fun _ _ _ h => h) (Or.inl ⟨by rfl, ?rhy2003⟩) hHeld ?rrest2003
        case rhy2003 => first | (intro w hSw; (try dsimp only at hSw); go_simp; done) | (intro w hSw; (try dsimp only at hSw); go_simp; with_reducible rfl)
        try simp only [List.setIfInBounds_toArray, List.set_cons_zero, List.set_cons_succ]
        refine held_take (i := 3) (v := ?rv2004) rfl rfl (by kernel_rfl) (by kernel_rfl) (by kernel_rfl) (fun _ _ _ h => h) (Or.inl ⟨by rfl, ?rhy2004⟩) hHeld ?rrest2004
        case rhy2004 => first | (intro w hSw; (try dsimp only at hSw); go_simp; done) | (intro w hSw; (try dsimp only at hSw); go_simp; with_reducible rfl)
        try simp only [List.setIfInBounds_toArray, List.set_cons_zero, List.set_cons_succ]
        refine held_take (i := 4) (v := .bool true) rfl rfl (by kernel_rfl) (by kernel_rfl) (by kernel_rfl) (fun _ _ _ h => h) (Or.inl ⟨by rfl, ?rhy2005⟩) hHeld ?rrest2005
        case rhy2005 => first | (intro w hSw; (try dsimp only at hSw); go_simp; done) | (intro w hSw; (try dsimp only at hSw); go_simp; with_reducible rfl) | (intro w hSw; (try dsimp only at hSw); go_simp; simp [hcn]; done)
        try simp only [List.setIfInBounds_toArray, List.set_cons_zero, List.set_cons_succ]
        refine held_take (i := 5) (v := .bool true) rfl rfl (by kernel_rfl) (by kernel_rfl) (by kernel_rfl) (fun _ _ _ h => h) (Or.inl ⟨by rfl, ?rhy2006⟩) hHeld ?rrest2006
        case rhy2006 => first | (intro w hSw; (try dsimp only at hSw); go_simp; done) | (intro w hSw; (try dsimp only at hSw); go_simp; with_reducible rfl) | (intro w hSw; (try dsimp only at hSw); go_simp; simp [hcn]; done)
        try simp only [List.setIfInBounds_toArray, List.set_cons_zero, List.set_cons_succ]
        refine held_take (i := 6) (v := undef) rfl rfl (by kernel_rfl) (by kernel_rfl) (by kernel_rfl) (fun _ _ _ h => h) (Or.inr ⟨by rfl, rfl⟩) hHeld ?_
        try simp only [List.setIfInBounds_toArray, List.set_cons_zero, List.set_cons_succ]
        refine held_take (i := 7) (v := undef) rfl rfl (by kernel_rfl) (by kernel_rfl) (by kernel_rfl) (fun _ _ _ h => h) (Or.inr ⟨by rfl, rfl⟩) hHeld ?_
        try simp only [List.setIfInBounds_toArray, List.set_cons_zero, List.set_cons_succ]
        refine held_take (i := 8) (v := undef) rfl rfl (by kernel_rfl) (by kernel_rfl) (by kernel_rfl) (fun _ _ _ h => h) (Or.inr ⟨by rfl, rfl⟩) hHeld ?_
        try simp only [List.setIfInBounds_toArray, List.set_cons_zero, List.set_cons_succ]
        refine held_take (i := 9) (v := undef) rfl rfl (by kernel_rfl) (by kernel_rfl) (by kernel_rfl) (fun _ _ _ h => h) (Or.inr ⟨by rfl, rfl⟩) hHeld ?_
        try simp only [List.setIfInBounds_toArray, List.set_cons_zero, List.set_cons_succ]
        refine held_take (i := 10) (v := undef) rfl rfl (by kernel_rfl) (by kernel_rfl) (by kernel_rfl) (fun _ _ _ h => h) (Or.inr ⟨by rfl, rfl⟩) hHeld ?_
        try simp only [List.setIfInBounds_toArray, List.set_cons_zero, List.set_cons_succ]
        refine held_take (i := 11) (v := ?rv2007) rfl rfl (by kernel_rfl) (by kernel_rfl) (by kernel_rfl) (fun _ _ _ h => h) (Or.inl ⟨by rfl, ?rhy2007⟩) hHeld ?rrest2007
        case rhy2007 => first | (intro w hSw; (try dsimp only at hSw); go_simp; done) | (intro w hSw; (try dsimp only at hSw); go_simp; with_reducible rfl)
        try simp only [List.setIfInBounds_toArray, List.set_cons_zero, List.set_cons_succ]
        refine held_take (i := 12) (v := ?rv2008) rfl rfl (by kernel_rfl) (by kernel_rfl) (by kernel_rfl) (fun _ _ _ h => h) (Or.inl ⟨by rfl, ?rhy2008⟩) hHeld ?rrest2008
        case rhy2008 => first | (intro w hSw; (try dsimp only at hSw); go_simp; done) | (intro w hSw; (try dsimp only at hSw); go_simp; with_reducible rfl)
        try simp only [List.setIfInBounds_toArray, List.set_cons_zero, List.set_cons_succ]
        refine held_take (i := 13) (v := ?rv2009) rfl rfl (by kernel_rfl) (by kernel_rfl) (by kernel_rfl) (fun _ _ _ h => h) (Or.inl ⟨by rfl, ?rhy2009⟩) hHeld ?rrest2009
        case rhy2009 => first | (intro w hSw; (try dsimp only at hSw); go_simp; done) | (intro w hSw; (try dsimp only at hSw); go_simp; with_reducible rfl)
        try simp only [List.setIfInBounds_toArray, List.set_cons_zero, List.set_cons_succ]
        refine wpAnyH_done (by kernel_rfl) ?_ _
        exact ⟨by with_reducible rfl, hHeld⟩
      case cont16 =>
        intro e16 act16 w16 hq16
        obtain ⟨rfl, rfl, hk16⟩ := RgP.out hq16
        go_wp2
        go_ret
        exact ⟨by simp, HK.out.tr hk16⟩
set_option maxRecDepth 100000 in
set_option maxHeartbeats 4000000 in
theorem wlast_far (b m : Nat) {a : Option Addr} {n c : Nat} {L : List Bool} {w : World} (hb : b < 18446744073709551616) (hA : Bo w a n L) (hl : n ≤ 300) (h1 : 1 ≤ m) (h2 : m ≤ 64) (h3 : ¬ n < 64) : Calls Try.prog 5 #[weV b, .slice a n c, .int .i64 (m : Int)] w fun e w' => e = .returned (.bool true) ∧ Kept w w' none := by
  have hmx := hA.max
  have hcn : ¬ (n : Int) < 64 := by omega
  have HL := Hid.mk' hA.size
  have hag := agN_le b L m
  have hS := fun w' => wshare_ok (behW b L) m w' (behW_lt hb L) h1 h2
  rw [agN_cnt hb L m h2] at hS
  have HS := Hid.mk' hS
  clear hS
  have HB := Hid.mk' (fun (w' : World) (h : Bo w' a n L) => @behind_any b a n c L w' hb h)
  have hz := fun (w' : World) (h : Bo w' a n L) => @behind0 a n c L w' h
  rw [← behW_far hb (by decide) (by have := hA.size; omega)] at hz
  have HZ := Hid.mk' hz
  clear hz
  obtain ⟨x1, x2, x3, x4, x5, x6⟩ := quo_facts (s := (agN b L m : Nat)) (m := m) (by omega) (by omega) (by omega) (by omega)
  generalize hN : agN b L m = N at *
  have HN := Hid.mk' hN
  clear hN
  generalize quo (N : Int) (m : Int) = S at *
  generalize behW b L = X at *
  have HA0 := Hid.mk' (hA.kept (Kept.alloc w #[.int .u64 (b : Int)] 24 (0, 0) none))
  have G := wb_alloc w b
  have HK := Hid.mk' (Kept.alloc w #[.int .u64 (b : Int)] 24 (0, 0) none)
  clear hA
  go_enter Try.func5, Try.ntmps5
  go_wp2_with (first
    | (go_at_call 7; have hgo := HA2; clear hgo; refine (HS.out _).mono ?_; rintro e w3 ⟨rfl, hk3⟩; have hq3 := (Kept.alloc w2 #[.int .u64 (X : Int)] 24 (0, 0) none).tr hk3; replace G := G.kept hq3; have HA3 := Hid.mk' (HA2.out.kept hq3); have GX := (wb_alloc w2 X).kept hk3; replace HK := Hid.mk' (HK.out.tr hq3); clear HA2 hk3 hq3 g2; have g3 := G.c0; have gx := GX.c0; have lg := G.lt; have lx := GX.lt)
    | (go_at_call 14; have hgo := HA1; clear hgo; refine (HB.out _ HA1.out).mono ?_; rintro e w2 ⟨rfl, hk2⟩; replace G := G.kept hk2; have HA2 := Hid.mk' (HA1.out.kept hk2); replace HK := Hid.mk' (HK.out.tr hk2); have g2 := G.c0; clear hk2 HA1 g1)
    | (go_at_call 9; refine (alive_any _).mono ?_; rintro e1 w1 ⟨rfl, hk1⟩; replace G := G.kept hk1; have HA1 := Hid.mk' (HA0.out.kept hk1); replace HK := Hid.mk' (HK.out.tr hk1); have g1 := G.c0; clear hk1 HA0))
  go_loopw [11, 12, 13] (fun nv iv kv wr => ∃ (i : Nat), nv = .int .i64 (agN b L i : Nat) ∧ iv = .int .i64 (i : Int) ∧ i ≤ m ∧ wr = w3) (fun _ iv _ _ => m - (intOf iv).toNat)
  case atStart => exact ⟨0, rfl, rfl, by omega, rfl⟩
  case round =>
    obtain ⟨i, rfl, rfl, hin, rfl⟩ := hrel
    have hbt := agN_le b L i
    have hss := agN_succ b L i
    by_cases hlt : i < m
    · by_cases hi : i < n
      · have hiL : i < L.length := by have := HL.out; omega
        rw [ago_in hiL, HL.out] at hss
        have HSS := Hid.mk' hss
        clear hss hiL
        obtain ⟨b3, o3, e3, _, hc3⟩ := HA3.out.at_ (by omega)
        obtain ⟨k, hk⟩ : ∃ k : Nat, k = n - 1 - i := ⟨_, rfl⟩
        rw [← hk] at HSS
        have kc := hc3 k (by omega)
        have hki : (n : Int) - 1 - i = k := by omega
        have hkn : k < n := by omega
        clear hc3 hk
        subst e3
        generalize agN b L i = nn at *
        cases hy : tr L k
        all_goals
          rw [hy] at kc
          have HY := Hid.mk' hy
          clear hy
          go_wp2
          go_roundw
          case rel => exact ⟨i + 1, by rw [HSS.out, HY.out]; rfl, by go_num, by omega, by first | trivial | rfl⟩
          case measure => simp [intOf]; omega
      · omega
    · obtain rfl : i = m := by omega
      rw [HN.out] at hbt ⊢
      clear hss
      have hc := fun w' (q : Kept wr w' none) => (GX.kept q).c0
      go_wp2
      refine Code.wp_mono (Q := RgP ?A16 (fun w' => Kept wr w' none)) ?cont16 ?reg16
      case reg16 =>
        (repeat (rename_i hh; clear hh))
        refine wp_region_held_drew (S := fun w' => Kept wr w' none) (by kernel_rfl) (Kept.drew _ _) (fun hHeld => ?_)
        refine held_take (i := 0) (v := ?rv1001) rfl rfl (by kernel_rfl) (by kernel_rfl) (by kernel_rfl) (fun _ _ _ h => h) (Or.inl ⟨by rfl, ?rhy1001⟩) hHeld ?rrest1001
        case rhy1001 => first | (intro w hSw; (try dsimp only at hSw); go_simp; done) | (intro w hSw; (try dsimp only at hSw); go_simp; with_reducible rfl)
        try simp only [List.setIfInBounds_toArray, List.set_cons_zero, List.set_cons_succ]
        refine held_take (i := 1) (v := ?rv1002) rfl rfl (by kernel_rfl) (by kernel_rfl) (by kernel_rfl) (fun _ _ _ h => h) (Or.inl ⟨by rfl, ?rhy1002⟩) hHeld ?rrest1002
        case rhy1002 => first | (intro w hSw; (try dsimp only at hSw); go_simp; done) | (intro w hSw; (try dsimp only at hSw); go_simp; with_reducible rfl)
        try simp only [List.setIfInBounds_toArray, List.set_cons_zero, List.set_cons_succ]
        refine held_take (i := 2) (v := ?rv1003) rfl rfl (by kernel_rfl) (by kernel_rfl) (by kernel_rfl) (fun _ _ _ h => h) (Or.inl ⟨by rfl, ?rhy1003⟩) hHeld ?rrest1003
        case rhy1003 => first | (intro w hSw; (try dsimp only at hSw); go_simp; done) | (intro w hSw; (try dsimp only at hSw); go_simp; with_reducible rfl)
        try simp only [List.setIfInBounds_toArray, List.set_cons_zero, List.set_cons_succ]
        refine held_take (i := 3) (v := ?rv1004) rfl rfl (by kernel_rfl) (by kernel_rfl) (by kernel_rfl) (fun _ _ _ h => h) (Or.inl ⟨by rfl, ?rhy1004⟩) hHeld ?rrest1004
        case rhy1004 => first | (intro w hSw; (try dsimp only at hSw); go_simp; done) | (intro w hSw; (try dsimp only at hSw); go_simp; with_reducible rfl)
        try simp only [List.setIfInBounds_toArray, List.set_cons_zero, List.set_cons_succ]
        refine held_take (i := 4) (v := .bool false) rfl rfl (by kernel_rfl) (by kernel_rfl) (by kernel_rfl) (fun _ _ _ h => h) (Or.inl ⟨by rfl, ?rhy1005⟩) hHeld ?rrest1005
        case rhy1005 => first | (intro w hSw; (try dsimp only at hSw); go_simp; done) | (intro w hSw; (try dsimp only at hSw); go_simp; with_reducible rfl) | (intro w hSw; (try dsimp only at hSw); go_simp; simp [hcn]; done)
        try simp only [List.setIfInBounds_toArray, List.set_cons_zero, List.set_cons_succ]
        refine held_take (i := 5) (v := .bool false) rfl rfl (by kernel_rfl) (by kernel_rfl) (by kernel_rfl) (fun _ _ _ h => h) (Or.inl ⟨by rfl, ?rhy1006⟩) hHeld ?rrest1006
        case rhy1006 => first | (intro w hSw; (try dsimp only at hSw); go_simp; done) | (intro w hSw; (try dsimp only at hSw); go_simp; with_reducible rfl) | (intro w hSw; (try dsimp only at hSw); go_simp; simp [hcn]; done)
        try simp only [List.setIfInBounds_toArray, List.set_cons_zero, List.set_cons_succ]
        refine held_take (i := 6) (v := ?rv1007) rfl rfl (by kernel_rfl) (by kernel_rfl) (by kernel_rfl) (fun _ _ _ h => h) (Or.inl ⟨by rfl, ?rhy1007⟩) hHeld ?rrest1007
        case rhy1007 => first | (intro w hSw; (try dsimp only at hSw); go_simp; done) | (intro w hSw; (try dsimp only at hSw); go_simp; with_reducible rfl)
        try simp only [List.setIfInBounds_toArray, List.set_cons_zero, List.set_cons_succ]
        refine held_take (i := 7) (v := ?rv1008) rfl rfl (by kernel_rfl) (by kernel_rfl) (by kernel_rfl) (fun _ _ _ h => h) (Or.inl ⟨by rfl, ?rhy1008⟩) hHeld ?rrest1008
        case rhy1008 => first | (intro w hSw; (try dsimp only at hSw); go_simp; done) | (intro w hSw; (try dsimp only at hSw); go_simp; with_reducible rfl)
        try simp only [List.setIfInBounds_toArray, List.set_cons_zero, List.set_cons_succ]
        refine held_take (i := 8) (v := ?rv1009) rfl rfl (by kernel_rfl) (by kernel_rfl) (by kernel_rfl) (fun _ _ _ h => h) (Or.inl ⟨by rfl, ?rhy1009⟩) hHeld ?rrest1009
        case rhy1009 => first | (intro w hSw; (try dsimp only at hSw); go_simp; done) | (intro w hSw; (try dsimp only at hSw); go_simp; with_reducible rfl)
        try simp only [List.setIfInBounds_toArray, List.set_cons_zero, List.set_cons_succ]
        refine wpAnyH_ready (rs := [9]) (by kernel_rfl) (by simp) ?_
        refine (AllReadyH.cons rfl (fun K hK => ?rz1010x9) AllReadyH.nil)
        case rz1010x9 =>
          go_simp
          go_wp2_with (go_at_call 14; refine (HZ.out _ (HA3.out.kept hHeld)).mono ?_; rintro e wv1011 ⟨rfl, hk⟩)
          have hnew := hHeld.tr hk
          refine hK.out _ _ hnew (fun hHeld => ?_)
          clear hK K hk hnew
          refine held_take (i := 10) (v := ?rv1012) rfl rfl (by kernel_rfl) (by kernel_rfl) (by kernel_rfl) (fun _ _ _ h => h) (Or.inl ⟨by rfl, ?rhy1012⟩) hHeld ?rrest1012
          case rhy1012 => first | (intro w hSw; (try dsimp only at hSw); go_simp; done) | (intro w hSw; (try dsimp only at hSw); go_simp; with_reducible rfl)
          try simp only [List.setIfInBounds_toArray, List.set_cons_zero, List.set_cons_succ]
          refine held_take (i := 11) (v := ?rv1013) rfl rfl (by kernel_rfl) (by kernel_rfl) (by kernel_rfl) (fun _ _ _ h => h) (Or.inl ⟨by rfl, ?rhy1013⟩) hHeld ?rrest1013
          case rhy1013 => first | (intro w hSw; (try dsimp only at hSw); go_simp; done) | (intro w hSw; (try dsimp only at hSw); go_simp; with_reducible rfl)
          try simp only [List.setIfInBounds_toArray, List.set_cons_zero, List.set_cons_succ]
          refine held_take (i := 12) (v := ?rv1014) rfl rfl (by kernel_rfl) (by kernel_rfl) (by kernel_rfl) (fun _ _ _ h => h) (Or.inl ⟨by rfl, ?rhy1014⟩) hHeld ?rrest1014
          case rhy1014 => first | (intro w hSw; (try dsimp only at hSw); go_simp; done) | (intro w hSw; (try dsimp only at hSw); go_simp; with_reducible rfl)
          try simp only [List.setIfInBounds_toArray, List.set_cons_zero, List.set_cons_succ]
          refine held_take (i := 13) (v := ?rv1015) rfl rfl (by kernel_rfl) (by kernel_rfl) (by kernel_rfl) (fun _ _ _ h => h) (Or.inl ⟨by rfl, ?rhy1015⟩) hHeld ?rrest1015
          case rhy1015 => first | (intro w hSw; (try dsimp only at hSw); go_simp; done) | (intro w hSw; (try dsimp only at hSw); go_simp; with_reducible rfl)
          try simp only [List.setIfInBounds_toArray, List.set_cons_zero, List.set_cons_succ]
          refine wpAnyH_done (by kernel_rfl) ?_ _
          exact ⟨by with_reducible rfl, hHeld⟩
      case cont16 =>
        intro e16 act16 w16 hq16
        obtain ⟨rfl, rfl, hk16⟩ := RgP.out hq16
        go_wp2
        go_ret
        exact ⟨by simp, HK.out.tr hk16⟩
theorem wlast_any (b : Nat) (m : Int) {a : Option Addr} {n c : Nat} {L : List Bool} (w : World) (hb : b < 18446744073709551616) (hA : Bo w a n L) : Calls Try.prog 5 #[weV b, .slice a n c, .int .i64 m] w fun e w' => e = .returned (.bool true) ∧ Kept w w' none := by
  by_cases hl : 300 < n
  · exact wlast_long b m hA hl
  by_cases h1 : m < 1
  · exact wlast_less b m hA (by omega) h1
  by_cases h2 : 64 < m
  · exact wlast_more b m hA (by omega) h1 h2
  obtain ⟨k, rfl⟩ : ∃ k : Nat, m = k := ⟨m.toNat, by omega⟩
  by_cases h3 : n < 64
  · exact wlast_near b k hb hA (by omega) (by omega) (by omega) h3
  · exact wlast_far b k hb hA (by omega) (by omega) (by omega) h3

end Go.Proofs.Ytkdfiaeghbkgnaa
