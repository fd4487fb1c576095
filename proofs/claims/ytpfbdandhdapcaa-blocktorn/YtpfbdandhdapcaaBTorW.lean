/-
  BLOCKTORN'S WALK (made by a program).
-/
import Derived.Test.YtpfbdandhdapcaaBTorM
namespace Go.Proofs.Ytpfbdandhdapcaa
open Go.RowKit Go.Lib Go.Deep
set_option linter.unusedVariables false
set_option linter.unusedSimpArgs false

set_option maxRecDepth 100000 in
theorem torn_big {a : Option Addr} {n c : Nat} {L : List Nat} {la : Option Addr} {m lc : Nat} {l : List Pw} (wh to : Int) (w : World) (hC : Come w a n c L) (hP : Plw w la m l) (h : 10000 < n) : Calls Try.prog 6 #[dvV a n c, .slice la m lc, .int .i64 wh, .int .i64 to] w fun e w' => e = .returned (.bool true) ∧ Kept w w' none := by
  have HC := Hid.mk' hC
  have HP := Hid.mk' hP
  have hn := hC.by_.max
  have hm := hP.max
  have HS := Hid.mk' hP.size
  clear hC hP
  have h' : (10000 : Int) < n := by omega
  go_enter Try.func6, Try.ntmps6
  go_wp2_with (go_at_call 14; refine (alive_any _).mono ?_; rintro e w1 ⟨rfl, hk1⟩; have hD1 := (db_alloc w a n c 24).kept hk1; have c1 := hD1.c0; have lt1 := hD1.lt; have HD1 := Hid.mk' hD1; have HK1 := Hid.mk' ((Kept.alloc w (dvC a n c) 24 (0, 0) none).tr hk1); clear hD1)
  go_ret
  exact ⟨rfl, HK1.out⟩
set_option maxRecDepth 100000 in
theorem torn_many {a : Option Addr} {n c : Nat} {L : List Nat} {la : Option Addr} {m lc : Nat} {l : List Pw} (wh to : Int) (w : World) (hC : Come w a n c L) (hP : Plw w la m l) (h : ¬ 10000 < n) (h2 : 64 < m) : Calls Try.prog 6 #[dvV a n c, .slice la m lc, .int .i64 wh, .int .i64 to] w fun e w' => e = .returned (.bool true) ∧ Kept w w' none := by
  have HC := Hid.mk' hC
  have HP := Hid.mk' hP
  have hn := hC.by_.max
  have hm := hP.max
  have HS := Hid.mk' hP.size
  clear hC hP
  have h' : ¬ (10000 : Int) < n := by omega
  have h2' : (64 : Int) < m := by omega
  go_enter Try.func6, Try.ntmps6
  go_wp2_with (go_at_call 14; refine (alive_any _).mono ?_; rintro e w1 ⟨rfl, hk1⟩; have hD1 := (db_alloc w a n c 24).kept hk1; have c1 := hD1.c0; have lt1 := hD1.lt; have HD1 := Hid.mk' hD1; have HK1 := Hid.mk' ((Kept.alloc w (dvC a n c) 24 (0, 0) none).tr hk1); clear hD1)
  go_ret
  exact ⟨rfl, HK1.out⟩
set_option maxRecDepth 100000 in
set_option maxHeartbeats 800000 in
theorem torn_err {a : Option Addr} {n c : Nat} {L : List Nat} {la : Option Addr} {m lc : Nat} {l : List Pw} (wh to : Int) (w : World) (hC : Come w a n c L) (hP : Plw w la m l) (h : ¬ 10000 < n) (h2 : ¬ 64 < m) (hE : ¬ doE n l wh to = 0) : Calls Try.prog 6 #[dvV a n c, .slice la m lc, .int .i64 wh, .int .i64 to] w fun e w' => e = .returned (.bool true) ∧ Kept w w' none := by
  have HC := Hid.mk' hC
  have HP := Hid.mk' hP
  have hn := hC.by_.max
  have hm := hP.max
  have HS := Hid.mk' hP.size
  clear hC hP
  have h' : ¬ (10000 : Int) < n := by omega
  have h2' : ¬ (64 : Int) < m := by omega
  have HE := Hid.mk' hE
  clear hE
  go_enter Try.func6, Try.ntmps6
  go_wp2_with (go_at_call 14; refine (alive_any _).mono ?_; rintro e w1 ⟨rfl, hk1⟩; have hD1 := (db_alloc w a n c 24).kept hk1; have c1 := hD1.c0; have lt1 := hD1.lt; have HD1 := Hid.mk' hD1; have HK1 := Hid.mk' ((Kept.alloc w (dvC a n c) 24 (0, 0) none).tr hk1); clear hD1)
  go_loopw [10] (fun i wr => ∃ k : Nat, k ≤ m ∧ i = .int .i64 k ∧ Hid (Apt l k) ∧ Hid (Kept w1 wr none)) (fun i _ => m - (intOf i).toNat)
  case atStart => exact ⟨0, Nat.zero_le _, rfl, Hid.mk' (fun x y _ _ _ h => absurd h (by omega)), Hid.mk' (Kept.refl _ _)⟩
  case round =>
    obtain ⟨k, hk, rfl, hap, hkr⟩ := hrel
    by_cases hlt : k < m
    · obtain ⟨b, off, rfl, _⟩ := HP.out.at_ (by omega)
      have hkl : k < l.length := by rw [HS.out]; exact hlt
      obtain ⟨ak, ck, hn0, _, _⟩ := (HP.out.kept HK1.out).get hkl
      obtain ⟨wo, hwo⟩ : ∃ wo, wo = wr := ⟨_, rfl⟩
      subst hwo
      go_wp2
      go_loopw [11] (fun i wr => ∃ j : Nat, j ≤ k ∧ i = .int .i64 j ∧ Hid (∀ x (hx : x < l.length), x < j → l[x].n ≠ l[k].n) ∧ Hid (Kept w1 wr none)) (fun i _ => k - (intOf i).toNat)
      case atStart => exact ⟨0, Nat.zero_le _, rfl, Hid.mk' (fun x _ h => absurd h (by omega)), hkr⟩
      case round =>
        obtain ⟨j, hj, rfl, hjs, hkj⟩ := hrel
        by_cases hjl : j < k
        · have hjll : j < l.length := by omega
          obtain ⟨aj, cj, hn1, _, _⟩ := (HP.out.kept HK1.out).get hjll
          have hr0 := fun w' (hq : Kept wr w' none) => hn0 w' (hkj.out.tr hq)
          have hr1 := fun w' (hq : Kept wr w' none) => hn1 w' (hkj.out.tr hq)
          clear hn1
          by_cases he : l[j].n = l[k].n
          · rw [he] at hr1
            generalize l[k].n = z at hr0 hr1
            clear hn0 he
            have hjm : (j : Int) < m := by omega
            have hkm : (k : Int) < m := by omega
            go_wp2
            refine Code.wp_mono (Q := Rbq ?A1 (fun w' => Kept wr w' none)) ?cont1 ?reg1
            case reg1 =>
              repeat (rename_i hh; clear hh)
              refine wp_region_held_drew (S := fun w' => Kept wr w' none) (by kernel_rfl) (kept_drw _ _) (fun hHeld => ?_)
              refine hold_take (i := 0) (v := ?rv1) rfl rfl (by kernel_rfl) (by kernel_rfl) (by kernel_rfl) (fun _ _ _ h => h) (Or.inl ⟨by rfl, ?rhy1⟩) hHeld ?rrest1
              case rhy1 => first | (intro w hSw; (try dsimp only at hSw); go_simp; done) | (intro w hSw; (try dsimp only at hSw); go_simp; with_reducible rfl)
              try simp only [List.setIfInBounds_toArray, List.set_cons_zero, List.set_cons_succ]
              refine hold_take (i := 1) (v := ?rv2) rfl rfl (by kernel_rfl) (by kernel_rfl) (by kernel_rfl) (fun _ _ _ h => h) (Or.inl ⟨by rfl, ?rhy2⟩) hHeld ?rrest2
              case rhy2 => first | (intro w hSw; (try dsimp only at hSw); go_simp; done) | (intro w hSw; (try dsimp only at hSw); go_simp; with_reducible rfl)
              try simp only [List.setIfInBounds_toArray, List.set_cons_zero, List.set_cons_succ]
              refine hold_take (i := 2) (v := ?rv3) rfl rfl (by kernel_rfl) (by kernel_rfl) (by kernel_rfl) (fun _ _ _ h => h) (Or.inl ⟨by rfl, ?rhy3⟩) hHeld ?rrest3
              case rhy3 => first | (intro w hSw; (try dsimp only at hSw); go_simp; done) | (intro w hSw; (try dsimp only at hSw); go_simp; with_reducible rfl)
              try simp only [List.setIfInBounds_toArray, List.set_cons_zero, List.set_cons_succ]
              refine hold_take (i := 3) (v := ?rv4) rfl rfl (by kernel_rfl) (by kernel_rfl) (by kernel_rfl) (fun _ _ _ h => h) (Or.inl ⟨by rfl, ?rhy4⟩) hHeld ?rrest4
              case rhy4 => first | (intro w hSw; (try dsimp only at hSw); go_simp; done) | (intro w hSw; (try dsimp only at hSw); go_simp; with_reducible rfl)
              try simp only [List.setIfInBounds_toArray, List.set_cons_zero, List.set_cons_succ]
              refine hold_take (i := 4) (v := ?rv5) rfl rfl (by kernel_rfl) (by kernel_rfl) (by kernel_rfl) (fun _ _ _ h => h) (Or.inl ⟨by rfl, ?rhy5⟩) hHeld ?rrest5
              case rhy5 => first | (intro w hSw; (try dsimp only at hSw); go_simp; done) | (intro w hSw; (try dsimp only at hSw); go_simp; with_reducible rfl)
              try simp only [List.setIfInBounds_toArray, List.set_cons_zero, List.set_cons_succ]
              refine hold_take (i := 5) (v := ?rv6) rfl rfl (by kernel_rfl) (by kernel_rfl) (by kernel_rfl) (fun _ _ _ h => h) (Or.inl ⟨by rfl, ?rhy6⟩) hHeld ?rrest6
              case rhy6 => first | (intro w hSw; (try dsimp only at hSw); go_simp; done) | (intro w hSw; (try dsimp only at hSw); go_simp; with_reducible rfl)
              try simp only [List.setIfInBounds_toArray, List.set_cons_zero, List.set_cons_succ]
              refine hold_take (i := 6) (v := ?rv7) rfl rfl (by kernel_rfl) (by kernel_rfl) (by kernel_rfl) (fun _ _ _ h => h) (Or.inl ⟨by rfl, ?rhy7⟩) hHeld ?rrest7
              case rhy7 => first | (intro w hSw; (try dsimp only at hSw); go_simp; done) | (intro w hSw; (try dsimp only at hSw); go_simp; with_reducible rfl)
              try simp only [List.setIfInBounds_toArray, List.set_cons_zero, List.set_cons_succ]
              refine hold_take (i := 7) (v := ?rv8) rfl rfl (by kernel_rfl) (by kernel_rfl) (by kernel_rfl) (fun _ _ _ h => h) (Or.inl ⟨by rfl, ?rhy8⟩) hHeld ?rrest8
              case rhy8 => first | (intro w hSw; (try dsimp only at hSw); go_simp; done) | (intro w hSw; (try dsimp only at hSw); go_simp; with_reducible rfl)
              try simp only [List.setIfInBounds_toArray, List.set_cons_zero, List.set_cons_succ]
              refine hold_take (i := 8) (v := ?rv9) rfl rfl (by kernel_rfl) (by kernel_rfl) (by kernel_rfl) (fun _ _ _ h => h) (Or.inl ⟨by rfl, ?rhy9⟩) hHeld ?rrest9
              case rhy9 => first | (intro w hSw; (try dsimp only at hSw); go_simp; done) | (intro w hSw; (try dsimp only at hSw); go_simp; with_reducible rfl)
              try simp only [List.setIfInBounds_toArray, List.set_cons_zero, List.set_cons_succ]
              refine hold_take (i := 9) (v := ?rv10) rfl rfl (by kernel_rfl) (by kernel_rfl) (by kernel_rfl) (fun _ _ _ h => h) (Or.inl ⟨by rfl, ?rhy10⟩) hHeld ?rrest10
              case rhy10 => first | (intro w hSw; (try dsimp only at hSw); go_simp; done) | (intro w hSw; (try dsimp only at hSw); go_simp; with_reducible rfl)
              try simp only [List.setIfInBounds_toArray, List.set_cons_zero, List.set_cons_succ]
              refine hold_take (i := 10) (v := ?rv11) rfl rfl (by kernel_rfl) (by kernel_rfl) (by kernel_rfl) (fun _ _ _ h => h) (Or.inl ⟨by rfl, ?rhy11⟩) hHeld ?rrest11
              case rhy11 => first | (intro w hSw; (try dsimp only at hSw); go_simp; done) | (intro w hSw; (try dsimp only at hSw); go_simp; with_reducible rfl)
              try simp only [List.setIfInBounds_toArray, List.set_cons_zero, List.set_cons_succ]
              refine wpAnyH_done (by kernel_rfl) ?_ _
              refine And.intro ?_ hHeld
              with_reducible rfl
            case cont1 =>
            intro e a' w5 hq
            obtain ⟨rfl, rfl, hk5⟩ := hq.out
            go_wp2
            go_ret
            exact ⟨rfl, (HK1.out.tr hkj.out).tr hk5⟩
          · have HJ : Hid (∀ x (hx : x < l.length), x < j + 1 → l[x].n ≠ l[k].n) := Hid.mk' (fun x hx h => by
              by_cases q : x < j
              · exact hjs.out x hx q
              · have e : x = j := by omega
                subst e
                exact he)
            have hjm : (j : Int) < m := by omega
            have hkm : (k : Int) < m := by omega
            obtain ⟨z0, hz0⟩ : ∃ z0, l[k].n = z0 := ⟨_, rfl⟩
            obtain ⟨z1, hz1⟩ : ∃ z1, l[j].n = z1 := ⟨_, rfl⟩
            rw [hz0] at hr0 he
            rw [hz1] at hr1 he
            clear hn0 hz0 hz1
            go_wp2
            refine Code.wp_mono (Q := Rbq ?A2 (fun w' => Kept wr w' none)) ?cont2 ?reg2
            case reg2 =>
              repeat (rename_i hh; clear hh)
              refine wp_region_held_drew (S := fun w' => Kept wr w' none) (by kernel_rfl) (kept_drw _ _) (fun hHeld => ?_)
              refine hold_take (i := 0) (v := ?rv12) rfl rfl (by kernel_rfl) (by kernel_rfl) (by kernel_rfl) (fun _ _ _ h => h) (Or.inl ⟨by rfl, ?rhy12⟩) hHeld ?rrest12
              case rhy12 => first | (intro w hSw; (try dsimp only at hSw); go_simp; done) | (intro w hSw; (try dsimp only at hSw); go_simp; with_reducible rfl)
              try simp only [List.setIfInBounds_toArray, List.set_cons_zero, List.set_cons_succ]
              refine hold_take (i := 1) (v := ?rv13) rfl rfl (by kernel_rfl) (by kernel_rfl) (by kernel_rfl) (fun _ _ _ h => h) (Or.inl ⟨by rfl, ?rhy13⟩) hHeld ?rrest13
              case rhy13 => first | (intro w hSw; (try dsimp only at hSw); go_simp; done) | (intro w hSw; (try dsimp only at hSw); go_simp; with_reducible rfl)
              try simp only [List.setIfInBounds_toArray, List.set_cons_zero, List.set_cons_succ]
              refine hold_take (i := 2) (v := ?rv14) rfl rfl (by kernel_rfl) (by kernel_rfl) (by kernel_rfl) (fun _ _ _ h => h) (Or.inl ⟨by rfl, ?rhy14⟩) hHeld ?rrest14
              case rhy14 => first | (intro w hSw; (try dsimp only at hSw); go_simp; done) | (intro w hSw; (try dsimp only at hSw); go_simp; with_reducible rfl)
              try simp only [List.setIfInBounds_toArray, List.set_cons_zero, List.set_cons_succ]
              refine hold_take (i := 3) (v := ?rv15) rfl rfl (by kernel_rfl) (by kernel_rfl) (by kernel_rfl) (fun _ _ _ h => h) (Or.inl ⟨by rfl, ?rhy15⟩) hHeld ?rrest15
              case rhy15 => first | (intro w hSw; (try dsimp only at hSw); go_simp; done) | (intro w hSw; (try dsimp only at hSw); go_simp; with_reducible rfl)
              try simp only [List.setIfInBounds_toArray, List.set_cons_zero, List.set_cons_succ]
              refine hold_take (i := 4) (v := ?rv16) rfl rfl (by kernel_rfl) (by kernel_rfl) (by kernel_rfl) (fun _ _ _ h => h) (Or.inl ⟨by rfl, ?rhy16⟩) hHeld ?rrest16
              case rhy16 => first | (intro w hSw; (try dsimp only at hSw); go_simp; done) | (intro w hSw; (try dsimp only at hSw); go_simp; with_reducible rfl)
              try simp only [List.setIfInBounds_toArray, List.set_cons_zero, List.set_cons_succ]
              refine hold_take (i := 5) (v := ?rv17) rfl rfl (by kernel_rfl) (by kernel_rfl) (by kernel_rfl) (fun _ _ _ h => h) (Or.inl ⟨by rfl, ?rhy17⟩) hHeld ?rrest17
              case rhy17 => first | (intro w hSw; (try dsimp only at hSw); go_simp; done) | (intro w hSw; (try dsimp only at hSw); go_simp; with_reducible rfl)
              try simp only [List.setIfInBounds_toArray, List.set_cons_zero, List.set_cons_succ]
              refine hold_take (i := 6) (v := ?rv18) rfl rfl (by kernel_rfl) (by kernel_rfl) (by kernel_rfl) (fun _ _ _ h => h) (Or.inl ⟨by rfl, ?rhy18⟩) hHeld ?rrest18
              case rhy18 => first | (intro w hSw; (try dsimp only at hSw); go_simp; done) | (intro w hSw; (try dsimp only at hSw); go_simp; with_reducible rfl)
              try simp only [List.setIfInBounds_toArray, List.set_cons_zero, List.set_cons_succ]
              refine hold_take (i := 7) (v := ?rv19) rfl rfl (by kernel_rfl) (by kernel_rfl) (by kernel_rfl) (fun _ _ _ h => h) (Or.inl ⟨by rfl, ?rhy19⟩) hHeld ?rrest19
              case rhy19 => first | (intro w hSw; (try dsimp only at hSw); go_simp; done) | (intro w hSw; (try dsimp only at hSw); go_simp; with_reducible rfl)
              try simp only [List.setIfInBounds_toArray, List.set_cons_zero, List.set_cons_succ]
              refine hold_take (i := 8) (v := ?rv20) rfl rfl (by kernel_rfl) (by kernel_rfl) (by kernel_rfl) (fun _ _ _ h => h) (Or.inl ⟨by rfl, ?rhy20⟩) hHeld ?rrest20
              case rhy20 => first | (intro w hSw; (try dsimp only at hSw); go_simp; done) | (intro w hSw; (try dsimp only at hSw); go_simp; with_reducible rfl)
              try simp only [List.setIfInBounds_toArray, List.set_cons_zero, List.set_cons_succ]
              refine hold_take (i := 9) (v := ?rv21) rfl rfl (by kernel_rfl) (by kernel_rfl) (by kernel_rfl) (fun _ _ _ h => h) (Or.inl ⟨by rfl, ?rhy21⟩) hHeld ?rrest21
              case rhy21 => first | (intro w hSw; (try dsimp only at hSw); go_simp; done) | (intro w hSw; (try dsimp only at hSw); go_simp; with_reducible rfl)
              try simp only [List.setIfInBounds_toArray, List.set_cons_zero, List.set_cons_succ]
              refine hold_take (i := 10) (v := ?rv22) rfl rfl (by kernel_rfl) (by kernel_rfl) (by kernel_rfl) (fun _ _ _ h => h) (Or.inl ⟨by rfl, ?rhy22⟩) hHeld ?rrest22
              case rhy22 => first | (intro w hSw; (try dsimp only at hSw); go_simp; done) | (intro w hSw; (try dsimp only at hSw); go_simp; with_reducible rfl)
              try simp only [List.setIfInBounds_toArray, List.set_cons_zero, List.set_cons_succ]
              refine wpAnyH_done (by kernel_rfl) ?_ _
              refine And.intro ?_ hHeld
              with_reducible rfl
            case cont2 =>
            intro e a' w5 hq
            obtain ⟨rfl, rfl, hk5⟩ := hq.out
            go_wp2
            go_roundw
            case rel => exact ⟨j + 1, by omega, by go_num, HJ, Hid.mk' (hkj.out.tr hk5)⟩
            case measure => simp [intOf]; omega
        · have hjk : j = k := by omega
          subst hjk
          have HA : Hid (Apt l (j + 1)) := Hid.mk' (fun x y hx hy h1 h2 => by
            by_cases q : y < j
            · exact hap.out x y hx hy h1 q
            · have e : y = j := by omega
              subst e
              exact hjs.out x hx h1)
          clear hn0
          go_wp2
          go_roundw
          case rel => exact ⟨j + 1, by omega, by go_num, HA, hkj⟩
          case measure => simp [intOf]; omega
    · have hkm : k = m := by omega
      subst hkm
      have HPw := Hid.mk' (apt_pair (by have := hap.out; rwa [← HS.out] at this))
      have HK2 := Hid.mk' (HK1.out.tr hkr.out)
      have hD2 := HD1.out.kept hkr.out
      have c2 := hD2.c0
      have l2 := hD2.lt
      have HD2 := Hid.mk' hD2
      clear c1 lt1 hD2 hap
      go_wp2_with (go_at_call 13; refine (none_do lc wr (HC.out.kpt HK2.out) (HP.out.kept HK2.out) HE.out).mono ?_; rintro e w2 ⟨a2, c2, E, rfl, hE2, hk2⟩)
      go_ret
      exact ⟨rfl, (HK2.out.tr hk2).tr (Kept.alloc _ _ _ _ _)⟩
set_option maxRecDepth 100000 in
set_option maxHeartbeats 1600000 in
theorem torn_ok {a : Option Addr} {n c : Nat} {L : List Nat} {la : Option Addr} {m lc : Nat} {l : List Pw} (wh to : Nat) (w : World) (hC : Come w a n c L) (hP : Plw w la m l) (h : ¬ 10000 < n) (h2 : ¬ 64 < m) (hE : doE n l (wh : Int) (to : Int) = 0) (hlt64 : to < 64) : Calls Try.prog 6 #[dvV a n c, .slice la m lc, .int .i64 wh, .int .i64 to] w fun e w' => e = .returned (.bool true) ∧ Kept w w' none := by
  have HC := Hid.mk' hC
  have HP := Hid.mk' hP
  have hn := hC.by_.max
  have hm := hP.max
  have HS := Hid.mk' hP.size
  clear hC hP
  have h' : ¬ (10000 : Int) < n := by omega
  have h2' : ¬ (64 : Int) < m := by omega
  have HE := Hid.mk' hE
  have hsy := do_says hE
  have HCH : Hid (chkE n = 0) := Hid.mk' (if_pos hsy.1)
  have hto : to ≤ 64 := by omega
  have hwh : wh ≤ l.length := by omega
  clear hE hsy
  go_enter Try.func6, Try.ntmps6
  go_wp2_with (go_at_call 14; refine (alive_any _).mono ?_; rintro e w1 ⟨rfl, hk1⟩; have hD1 := (db_alloc w a n c 24).kept hk1; have c1 := hD1.c0; have lt1 := hD1.lt; have HD1 := Hid.mk' hD1; have HK1 := Hid.mk' ((Kept.alloc w (dvC a n c) 24 (0, 0) none).tr hk1); clear hD1)
  go_loopw [10] (fun i wr => ∃ k : Nat, k ≤ m ∧ i = .int .i64 k ∧ Hid (Apt l k) ∧ Hid (Kept w1 wr none)) (fun i _ => m - (intOf i).toNat)
  case atStart => exact ⟨0, Nat.zero_le _, rfl, Hid.mk' (fun x y _ _ _ h => absurd h (by omega)), Hid.mk' (Kept.refl _ _)⟩
  case round =>
    obtain ⟨k, hk, rfl, hap, hkr⟩ := hrel
    by_cases hlt : k < m
    · obtain ⟨b, off, rfl, _⟩ := HP.out.at_ (by omega)
      have hkl : k < l.length := by rw [HS.out]; exact hlt
      obtain ⟨ak, ck, hn0, _, _⟩ := (HP.out.kept HK1.out).get hkl
      obtain ⟨wo, hwo⟩ : ∃ wo, wo = wr := ⟨_, rfl⟩
      subst hwo
      go_wp2
      go_loopw [11] (fun i wr => ∃ j : Nat, j ≤ k ∧ i = .int .i64 j ∧ Hid (∀ x (hx : x < l.length), x < j → l[x].n ≠ l[k].n) ∧ Hid (Kept w1 wr none)) (fun i _ => k - (intOf i).toNat)
      case atStart => exact ⟨0, Nat.zero_le _, rfl, Hid.mk' (fun x _ h => absurd h (by omega)), hkr⟩
      case round =>
        obtain ⟨j, hj, rfl, hjs, hkj⟩ := hrel
        by_cases hjl : j < k
        · have hjll : j < l.length := by omega
          obtain ⟨aj, cj, hn1, _, _⟩ := (HP.out.kept HK1.out).get hjll
          have hr0 := fun w' (hq : Kept wr w' none) => hn0 w' (hkj.out.tr hq)
          have hr1 := fun w' (hq : Kept wr w' none) => hn1 w' (hkj.out.tr hq)
          clear hn1
          by_cases he : l[j].n = l[k].n
          · rw [he] at hr1
            generalize l[k].n = z at hr0 hr1
            clear hn0 he
            have hjm : (j : Int) < m := by omega
            have hkm : (k : Int) < m := by omega
            go_wp2
            refine Code.wp_mono (Q := Rbq ?A1 (fun w' => Kept wr w' none)) ?cont1 ?reg1
            case reg1 =>
              repeat (rename_i hh; clear hh)
              refine wp_region_held_drew (S := fun w' => Kept wr w' none) (by kernel_rfl) (kept_drw _ _) (fun hHeld => ?_)
              refine hold_take (i := 0) (v := ?rv1) rfl rfl (by kernel_rfl) (by kernel_rfl) (by kernel_rfl) (fun _ _ _ h => h) (Or.inl ⟨by rfl, ?rhy1⟩) hHeld ?rrest1
              case rhy1 => first | (intro w hSw; (try dsimp only at hSw); go_simp; done) | (intro w hSw; (try dsimp only at hSw); go_simp; with_reducible rfl)
              try simp only [List.setIfInBounds_toArray, List.set_cons_zero, List.set_cons_succ]
              refine hold_take (i := 1) (v := ?rv2) rfl rfl (by kernel_rfl) (by kernel_rfl) (by kernel_rfl) (fun _ _ _ h => h) (Or.inl ⟨by rfl, ?rhy2⟩) hHeld ?rrest2
              case rhy2 => first | (intro w hSw; (try dsimp only at hSw); go_simp; done) | (intro w hSw; (try dsimp only at hSw); go_simp; with_reducible rfl)
              try simp only [List.setIfInBounds_toArray, List.set_cons_zero, List.set_cons_succ]
              refine hold_take (i := 2) (v := ?rv3) rfl rfl (by kernel_rfl) (by kernel_rfl) (by kernel_rfl) (fun _ _ _ h => h) (Or.inl ⟨by rfl, ?rhy3⟩) hHeld ?rrest3
              case rhy3 => first | (intro w hSw; (try dsimp only at hSw); go_simp; done) | (intro w hSw; (try dsimp only at hSw); go_simp; with_reducible rfl)
              try simp only [List.setIfInBounds_toArray, List.set_cons_zero, List.set_cons_succ]
              refine hold_take (i := 3) (v := ?rv4) rfl rfl (by kernel_rfl) (by kernel_rfl) (by kernel_rfl) (fun _ _ _ h => h) (Or.inl ⟨by rfl, ?rhy4⟩) hHeld ?rrest4
              case rhy4 => first | (intro w hSw; (try dsimp only at hSw); go_simp; done) | (intro w hSw; (try dsimp only at hSw); go_simp; with_reducible rfl)
              try simp only [List.setIfInBounds_toArray, List.set_cons_zero, List.set_cons_succ]
              refine hold_take (i := 4) (v := ?rv5) rfl rfl (by kernel_rfl) (by kernel_rfl) (by kernel_rfl) (fun _ _ _ h => h) (Or.inl ⟨by rfl, ?rhy5⟩) hHeld ?rrest5
              case rhy5 => first | (intro w hSw; (try dsimp only at hSw); go_simp; done) | (intro w hSw; (try dsimp only at hSw); go_simp; with_reducible rfl)
              try simp only [List.setIfInBounds_toArray, List.set_cons_zero, List.set_cons_succ]
              refine hold_take (i := 5) (v := ?rv6) rfl rfl (by kernel_rfl) (by kernel_rfl) (by kernel_rfl) (fun _ _ _ h => h) (Or.inl ⟨by rfl, ?rhy6⟩) hHeld ?rrest6
              case rhy6 => first | (intro w hSw; (try dsimp only at hSw); go_simp; done) | (intro w hSw; (try dsimp only at hSw); go_simp; with_reducible rfl)
              try simp only [List.setIfInBounds_toArray, List.set_cons_zero, List.set_cons_succ]
              refine hold_take (i := 6) (v := ?rv7) rfl rfl (by kernel_rfl) (by kernel_rfl) (by kernel_rfl) (fun _ _ _ h => h) (Or.inl ⟨by rfl, ?rhy7⟩) hHeld ?rrest7
              case rhy7 => first | (intro w hSw; (try dsimp only at hSw); go_simp; done) | (intro w hSw; (try dsimp only at hSw); go_simp; with_reducible rfl)
              try simp only [List.setIfInBounds_toArray, List.set_cons_zero, List.set_cons_succ]
              refine hold_take (i := 7) (v := ?rv8) rfl rfl (by kernel_rfl) (by kernel_rfl) (by kernel_rfl) (fun _ _ _ h => h) (Or.inl ⟨by rfl, ?rhy8⟩) hHeld ?rrest8
              case rhy8 => first | (intro w hSw; (try dsimp only at hSw); go_simp; done) | (intro w hSw; (try dsimp only at hSw); go_simp; with_reducible rfl)
              try simp only [List.setIfInBounds_toArray, List.set_cons_zero, List.set_cons_succ]
              refine hold_take (i := 8) (v := ?rv9) rfl rfl (by kernel_rfl) (by kernel_rfl) (by kernel_rfl) (fun _ _ _ h => h) (Or.inl ⟨by rfl, ?rhy9⟩) hHeld ?rrest9
              case rhy9 => first | (intro w hSw; (try dsimp only at hSw); go_simp; done) | (intro w hSw; (try dsimp only at hSw); go_simp; with_reducible rfl)
              try simp only [List.setIfInBounds_toArray, List.set_cons_zero, List.set_cons_succ]
              refine hold_take (i := 9) (v := ?rv10) rfl rfl (by kernel_rfl) (by kernel_rfl) (by kernel_rfl) (fun _ _ _ h => h) (Or.inl ⟨by rfl, ?rhy10⟩) hHeld ?rrest10
              case rhy10 => first | (intro w hSw; (try dsimp only at hSw); go_simp; done) | (intro w hSw; (try dsimp only at hSw); go_simp; with_reducible rfl)
              try simp only [List.setIfInBounds_toArray, List.set_cons_zero, List.set_cons_succ]
              refine hold_take (i := 10) (v := ?rv11) rfl rfl (by kernel_rfl) (by kernel_rfl) (by kernel_rfl) (fun _ _ _ h => h) (Or.inl ⟨by rfl, ?rhy11⟩) hHeld ?rrest11
              case rhy11 => first | (intro w hSw; (try dsimp only at hSw); go_simp; done) | (intro w hSw; (try dsimp only at hSw); go_simp; with_reducible rfl)
              try simp only [List.setIfInBounds_toArray, List.set_cons_zero, List.set_cons_succ]
              refine wpAnyH_done (by kernel_rfl) ?_ _
              refine And.intro ?_ hHeld
              with_reducible rfl
            case cont1 =>
            intro e a' w5 hq
            obtain ⟨rfl, rfl, hk5⟩ := hq.out
            go_wp2
            go_ret
            exact ⟨rfl, (HK1.out.tr hkj.out).tr hk5⟩
          · have HJ : Hid (∀ x (hx : x < l.length), x < j + 1 → l[x].n ≠ l[k].n) := Hid.mk' (fun x hx h => by
              by_cases q : x < j
              · exact hjs.out x hx q
              · have e : x = j := by omega
                subst e
                exact he)
            have hjm : (j : Int) < m := by omega
            have hkm : (k : Int) < m := by omega
            obtain ⟨z0, hz0⟩ : ∃ z0, l[k].n = z0 := ⟨_, rfl⟩
            obtain ⟨z1, hz1⟩ : ∃ z1, l[j].n = z1 := ⟨_, rfl⟩
            rw [hz0] at hr0 he
            rw [hz1] at hr1 he
            clear hn0 hz0 hz1
            go_wp2
            refine Code.wp_mono (Q := Rbq ?A2 (fun w' => Kept wr w' none)) ?cont2 ?reg2
            case reg2 =>
              repeat (rename_i hh; clear hh)
              refine wp_region_held_drew (S := fun w' => Kept wr w' none) (by kernel_rfl) (kept_drw _ _) (fun hHeld => ?_)
              refine hold_take (i := 0) (v := ?rv12) rfl rfl (by kernel_rfl) (by kernel_rfl) (by kernel_rfl) (fun _ _ _ h => h) (Or.inl ⟨by rfl, ?rhy12⟩) hHeld ?rrest12
              case rhy12 => first | (intro w hSw; (try dsimp only at hSw); go_simp; done) | (intro w hSw; (try dsimp only at hSw); go_simp; with_reducible rfl)
              try simp only [List.setIfInBounds_toArray, List.set_cons_zero, List.set_cons_succ]
              refine hold_take (i := 1) (v := ?rv13) rfl rfl (by kernel_rfl) (by kernel_rfl) (by kernel_rfl) (fun _ _ _ h => h) (Or.inl ⟨by rfl, ?rhy13⟩) hHeld ?rrest13
              case rhy13 => first | (intro w hSw; (try dsimp only at hSw); go_simp; done) | (intro w hSw; (try dsimp only at hSw); go_simp; with_reducible rfl)
              try simp only [List.setIfInBounds_toArray, List.set_cons_zero, List.set_cons_succ]
              refine hold_take (i := 2) (v := ?rv14) rfl rfl (by kernel_rfl) (by kernel_rfl) (by kernel_rfl) (fun _ _ _ h => h) (Or.inl ⟨by rfl, ?rhy14⟩) hHeld ?rrest14
              case rhy14 => first | (intro w hSw; (try dsimp only at hSw); go_simp; done) | (intro w hSw; (try dsimp only at hSw); go_simp; with_reducible rfl)
              try simp only [List.setIfInBounds_toArray, List.set_cons_zero, List.set_cons_succ]
              refine hold_take (i := 3) (v := ?rv15) rfl rfl (by kernel_rfl) (by kernel_rfl) (by kernel_rfl) (fun _ _ _ h => h) (Or.inl ⟨by rfl, ?rhy15⟩) hHeld ?rrest15
              case rhy15 => first | (intro w hSw; (try dsimp only at hSw); go_simp; done) | (intro w hSw; (try dsimp only at hSw); go_simp; with_reducible rfl)
              try simp only [List.setIfInBounds_toArray, List.set_cons_zero, List.set_cons_succ]
              refine hold_take (i := 4) (v := ?rv16) rfl rfl (by kernel_rfl) (by kernel_rfl) (by kernel_rfl) (fun _ _ _ h => h) (Or.inl ⟨by rfl, ?rhy16⟩) hHeld ?rrest16
              case rhy16 => first | (intro w hSw; (try dsimp only at hSw); go_simp; done) | (intro w hSw; (try dsimp only at hSw); go_simp; with_reducible rfl)
              try simp only [List.setIfInBounds_toArray, List.set_cons_zero, List.set_cons_succ]
              refine hold_take (i := 5) (v := ?rv17) rfl rfl (by kernel_rfl) (by kernel_rfl) (by kernel_rfl) (fun _ _ _ h => h) (Or.inl ⟨by rfl, ?rhy17⟩) hHeld ?rrest17
              case rhy17 => first | (intro w hSw; (try dsimp only at hSw); go_simp; done) | (intro w hSw; (try dsimp only at hSw); go_simp; with_reducible rfl)
              try simp only [List.setIfInBounds_toArray, List.set_cons_zero, List.set_cons_succ]
              refine hold_take (i := 6) (v := ?rv18) rfl rfl (by kernel_rfl) (by kernel_rfl) (by kernel_rfl) (fun _ _ _ h => h) (Or.inl ⟨by rfl, ?rhy18⟩) hHeld ?rrest18
              case rhy18 => first | (intro w hSw; (try dsimp only at hSw); go_simp; done) | (intro w hSw; (try dsimp only at hSw); go_simp; with_reducible rfl)
              try simp only [List.setIfInBounds_toArray, List.set_cons_zero, List.set_cons_succ]
              refine hold_take (i := 7) (v := ?rv19) rfl rfl (by kernel_rfl) (by kernel_rfl) (by kernel_rfl) (fun _ _ _ h => h) (Or.inl ⟨by rfl, ?rhy19⟩) hHeld ?rrest19
              case rhy19 => first | (intro w hSw; (try dsimp only at hSw); go_simp; done) | (intro w hSw; (try dsimp only at hSw); go_simp; with_reducible rfl)
              try simp only [List.setIfInBounds_toArray, List.set_cons_zero, List.set_cons_succ]
              refine hold_take (i := 8) (v := ?rv20) rfl rfl (by kernel_rfl) (by kernel_rfl) (by kernel_rfl) (fun _ _ _ h => h) (Or.inl ⟨by rfl, ?rhy20⟩) hHeld ?rrest20
              case rhy20 => first | (intro w hSw; (try dsimp only at hSw); go_simp; done) | (intro w hSw; (try dsimp only at hSw); go_simp; with_reducible rfl)
              try simp only [List.setIfInBounds_toArray, List.set_cons_zero, List.set_cons_succ]
              refine hold_take (i := 9) (v := ?rv21) rfl rfl (by kernel_rfl) (by kernel_rfl) (by kernel_rfl) (fun _ _ _ h => h) (Or.inl ⟨by rfl, ?rhy21⟩) hHeld ?rrest21
              case rhy21 => first | (intro w hSw; (try dsimp only at hSw); go_simp; done) | (intro w hSw; (try dsimp only at hSw); go_simp; with_reducible rfl)
              try simp only [List.setIfInBounds_toArray, List.set_cons_zero, List.set_cons_succ]
              refine hold_take (i := 10) (v := ?rv22) rfl rfl (by kernel_rfl) (by kernel_rfl) (by kernel_rfl) (fun _ _ _ h => h) (Or.inl ⟨by rfl, ?rhy22⟩) hHeld ?rrest22
              case rhy22 => first | (intro w hSw; (try dsimp only at hSw); go_simp; done) | (intro w hSw; (try dsimp only at hSw); go_simp; with_reducible rfl)
              try simp only [List.setIfInBounds_toArray, List.set_cons_zero, List.set_cons_succ]
              refine wpAnyH_done (by kernel_rfl) ?_ _
              refine And.intro ?_ hHeld
              with_reducible rfl
            case cont2 =>
            intro e a' w5 hq
            obtain ⟨rfl, rfl, hk5⟩ := hq.out
            go_wp2
            go_roundw
            case rel => exact ⟨j + 1, by omega, by go_num, HJ, Hid.mk' (hkj.out.tr hk5)⟩
            case measure => simp [intOf]; omega
        · have hjk : j = k := by omega
          subst hjk
          have HA : Hid (Apt l (j + 1)) := Hid.mk' (fun x y hx hy h1 h2 => by
            by_cases q : y < j
            · exact hap.out x y hx hy h1 q
            · have e : y = j := by omega
              subst e
              exact hjs.out x hx h1)
          clear hn0
          go_wp2
          go_roundw
          case rel => exact ⟨j + 1, by omega, by go_num, HA, hkj⟩
          case measure => simp [intOf]; omega
    · have hkm : k = m := by omega
      subst hkm
      have HPw := Hid.mk' (apt_pair (by have := hap.out; rwa [← HS.out] at this))
      have HK2 := Hid.mk' (HK1.out.tr hkr.out)
      have hD2 := HD1.out.kept hkr.out
      have c2 := hD2.c0
      have l2 := hD2.lt
      have HD2 := Hid.mk' hD2
      clear c1 lt1 hD2 hap
      go_wp2_with (go_at_call 13; refine (tell_do (wh := (wh : Int)) (to := (to : Int)) lc wr (HC.out.kpt HK2.out) (HP.out.kept HK2.out) HE.out rfl).mono ?_; rintro e w2 ⟨a2, c2, rfl, hc2, hk2⟩)
      obtain ⟨W, hW⟩ : ∃ W, Hid (W = w2.alloc (.cells (dvC a2 n c2) 24)) := ⟨_, Hid.mk' rfl⟩
      have hkA : Kept w2 W none := by rw [hW.out]; exact Kept.alloc _ _ _ _ _
      have HKW := Hid.mk' ((HK2.out.tr hk2).tr hkA)
      have HDW := Hid.mk' ((HD2.out.kept hk2).kept hkA)
      have HXW : Hid (Db W w2.heap.size a2 n c2) := Hid.mk' (by rw [hW.out]; exact db_alloc _ _ _ _ _)
      have HCX := Hid.mk' (hc2.out.kpt hkA)
      rw [← hW.out]
      generalize w2.heap.size = bx_ at HXW ⊢
      clear hkA hW hc2 hk2 HK2 HD2 HD1 HK1 hkr l2 hlt hk
      have hU : ∀ w', Kept W w' none → w'.cell? ⟨w.heap.size, 0, none⟩ = some (.slice a n c) := fun w' hk => (HDW.out.kept hk).c0
      have hX : ∀ w', Kept W w' none → w'.cell? ⟨bx_, 0, none⟩ = some (.slice a2 n c2) := fun w' hk => (HXW.out.kept hk).c0
      go_loopw [14] (fun i wr => ∃ i' : Nat, i' ≤ k ∧ i = .int .i64 i' ∧ Hid (Kept W wr none)) (fun i _ => k - (intOf i).toNat)
      case atStart => exact ⟨0, Nat.zero_le _, rfl, Hid.mk' (Kept.refl _ _)⟩
      case round =>
        obtain ⟨i, hi, rfl, hkq⟩ := hrel
        by_cases hlt : i < k
        · obtain ⟨b, off, rfl, _⟩ := HP.out.at_ (by omega)
          have hil : i < l.length := by rw [HS.out]; exact hlt
          obtain ⟨q1, q2, q3, q4, q5, q6⟩ := torn_math HC.out.by_.size HE.out HPw.out hil
          obtain ⟨ai, ci, hn0, hn1, HCi⟩ := (HP.out.kept HKW.out).get hil
          have hU2 := fun w' (hq : Kept wr w' none) => hU w' (hkq.out.tr hq)
          have hX2 := fun w' (hq : Kept wr w' none) => hX w' (hkq.out.tr hq)
          have hm0 := fun w' (hq : Kept wr w' none) => hn0 w' (hkq.out.tr hq)
          have hm1 := fun w' (hq : Kept wr w' none) => hn1 w' (hkq.out.tr hq)
          have hcap := HCi.out.room
          have hcam := HCi.out.max
          rw [q4] at hm1 hcap HCi
          have hcaI : (64 : Int) ≤ ci := by omega
          clear hn0 hn1
          generalize l[i].n = z at *
          generalize l[i].data = dd at *
          clear hil
          have HQ := Hid.mk' (And.intro q1 (And.intro q2 q3))
          clear q1 q2 q3 q4
          obtain ⟨bi, offi, rfl, _⟩ := HCi.out.by_.at_ (by omega)
          have him : (i : Int) < k := by omega
          have HBc := Hid.mk' (fun w' (hq : Kept wr w' none) => HCi.out.by_.kept (hkq.out.tr hq))
          have HRD := Hid.mk' (fun w' (hq : Kept wr w' none) => torn_read (HC.out.kpt ((HKW.out.tr hkq.out).tr hq)) HCH.out HQ.out.1 HQ.out.2.1 HQ.out.2.2)
          go_wp2
          refine Code.wp_mono (Q := R1 ?A3 (fun g w' => Kept wr w' none ∧ Row w' g (blD L z.toNat))) ?cont3 ?reg3
          case reg3 =>
            repeat (rename_i hh; clear hh)
            refine wp_region_held_drew (S := fun w' => Kept wr w' none) (by kernel_rfl) (kept_drw _ _) (fun hHeld => ?_)
            refine hold_take (i := 0) (v := ?rv23) rfl rfl (by kernel_rfl) (by kernel_rfl) (by kernel_rfl) (fun _ _ _ h => h) (Or.inl ⟨by rfl, ?rhy23⟩) hHeld ?rrest23
            case rhy23 => first | (intro w hSw; (try dsimp only at hSw); go_simp; done) | (intro w hSw; (try dsimp only at hSw); go_simp; with_reducible rfl)
            try simp only [List.setIfInBounds_toArray, List.set_cons_zero, List.set_cons_succ]
            refine hold_take (i := 1) (v := ?rv24) rfl rfl (by kernel_rfl) (by kernel_rfl) (by kernel_rfl) (fun _ _ _ h => h) (Or.inl ⟨by rfl, ?rhy24⟩) hHeld ?rrest24
            case rhy24 => first | (intro w hSw; (try dsimp only at hSw); go_simp; done) | (intro w hSw; (try dsimp only at hSw); go_simp; with_reducible rfl)
            try simp only [List.setIfInBounds_toArray, List.set_cons_zero, List.set_cons_succ]
            refine hold_take (i := 2) (v := ?rv25) rfl rfl (by kernel_rfl) (by kernel_rfl) (by kernel_rfl) (fun _ _ _ h => h) (Or.inl ⟨by rfl, ?rhy25⟩) hHeld ?rrest25
            case rhy25 => first | (intro w hSw; (try dsimp only at hSw); go_simp; done) | (intro w hSw; (try dsimp only at hSw); go_simp; with_reducible rfl)
            try simp only [List.setIfInBounds_toArray, List.set_cons_zero, List.set_cons_succ]
            refine hold_take (i := 3) (v := ?rv26) rfl rfl (by kernel_rfl) (by kernel_rfl) (by kernel_rfl) (fun _ _ _ h => h) (Or.inl ⟨by rfl, ?rhy26⟩) hHeld ?rrest26
            case rhy26 => first | (intro w hSw; (try dsimp only at hSw); go_simp; done) | (intro w hSw; (try dsimp only at hSw); go_simp; with_reducible rfl)
            try simp only [List.setIfInBounds_toArray, List.set_cons_zero, List.set_cons_succ]
            refine hold_take (i := 4) (v := ?rv27) rfl rfl (by kernel_rfl) (by kernel_rfl) (by kernel_rfl) (fun _ _ _ h => h) (Or.inl ⟨by rfl, ?rhy27⟩) hHeld ?rrest27
            case rhy27 => first | (intro w hSw; (try dsimp only at hSw); go_simp; done) | (intro w hSw; (try dsimp only at hSw); go_simp; with_reducible rfl)
            try simp only [List.setIfInBounds_toArray, List.set_cons_zero, List.set_cons_succ]
            refine hold_take (i := 5) (v := ?rv28) rfl rfl (by kernel_rfl) (by kernel_rfl) (by kernel_rfl) (fun _ _ _ h => h) (Or.inl ⟨by rfl, ?rhy28⟩) hHeld ?rrest28
            case rhy28 => first | (intro w hSw; (try dsimp only at hSw); go_simp; done) | (intro w hSw; (try dsimp only at hSw); go_simp; with_reducible rfl)
            try simp only [List.setIfInBounds_toArray, List.set_cons_zero, List.set_cons_succ]
            refine wpAnyH_ready (rs := [6]) (by kernel_rfl) (by simp) ?_
            refine (AllReadyH.cons rfl (fun K hK => ?rz29x6) AllReadyH.nil)
            case rz29x6 =>
              go_simp
              refine (HRD.out wr.drew hHeld).mono ?_
              rintro e wv30 ⟨g, rfl, hr, hk⟩
              dsimp only
              have hnew := hHeld.tr hk
              have HRw := hr
              clear hr
              refine hK.out _ _ hnew (fun hHeld => ?_)
              clear hK K hk hnew
              refine hold_take (i := 7) (v := ?rv31) rfl rfl (by kernel_rfl) (by kernel_rfl) (by kernel_rfl) (fun _ _ _ h => h) (Or.inl ⟨by rfl, ?rhy31⟩) hHeld ?rrest31
              case rhy31 => first | (intro w hSw; (try dsimp only at hSw); go_simp; done) | (intro w hSw; (try dsimp only at hSw); go_simp; with_reducible rfl)
              try simp only [List.setIfInBounds_toArray, List.set_cons_zero, List.set_cons_succ]
              refine hold_take (i := 8) (v := ?rv32) rfl rfl (by kernel_rfl) (by kernel_rfl) (by kernel_rfl) (fun _ _ _ h => h) (Or.inl ⟨by rfl, ?rhy32⟩) hHeld ?rrest32
              case rhy32 => first | (intro w hSw; (try dsimp only at hSw); go_simp; done) | (intro w hSw; (try dsimp only at hSw); go_simp; with_reducible rfl)
              try simp only [List.setIfInBounds_toArray, List.set_cons_zero, List.set_cons_succ]
              refine hold_take (i := 9) (v := ?rv33) rfl rfl (by kernel_rfl) (by kernel_rfl) (by kernel_rfl) (fun _ _ _ h => h) (Or.inl ⟨by rfl, ?rhy33⟩) hHeld ?rrest33
              case rhy33 => first | (intro w hSw; (try dsimp only at hSw); go_simp; done) | (intro w hSw; (try dsimp only at hSw); go_simp; with_reducible rfl)
              try simp only [List.setIfInBounds_toArray, List.set_cons_zero, List.set_cons_succ]
              refine hold_take (i := 10) (v := ?rv34) rfl rfl (by kernel_rfl) (by kernel_rfl) (by kernel_rfl) (fun _ _ _ h => h) (Or.inl ⟨by rfl, ?rhy34⟩) hHeld ?rrest34
              case rhy34 => first | (intro w hSw; (try dsimp only at hSw); go_simp; done) | (intro w hSw; (try dsimp only at hSw); go_simp; with_reducible rfl)
              try simp only [List.setIfInBounds_toArray, List.set_cons_zero, List.set_cons_succ]
              refine hold_take (i := 11) (v := ?rv35) rfl rfl (by kernel_rfl) (by kernel_rfl) (by kernel_rfl) (fun _ _ _ h => h) (Or.inl ⟨by rfl, ?rhy35⟩) hHeld ?rrest35
              case rhy35 => first | (intro w hSw; (try dsimp only at hSw); go_simp; done) | (intro w hSw; (try dsimp only at hSw); go_simp; with_reducible rfl)
              try simp only [List.setIfInBounds_toArray, List.set_cons_zero, List.set_cons_succ]
              refine wpAnyH_done (by kernel_rfl) ?_ _
              refine ⟨g, ?_, hHeld, HRw.out⟩
              with_reducible rfl
          case cont3 =>
          intro e a' w3 hq
          obtain ⟨rfl, g1, rfl, hk3, hr3⟩ := hq.out
          have hX3 := fun w' (hq : Kept w3 w' none) => hX2 w' (hk3.tr hq)
          have hn3 := fun w' (hq : Kept w3 w' none) => hm0 w' (hk3.tr hq)
          have HXD := Hid.mk' (fun w' (hq : Kept w3 w' none) => torn_read (HCX.out.kpt ((hkq.out.tr hk3).tr hq)) HCH.out HQ.out.1 HQ.out.2.1 HQ.out.2.2)
          have HK3 := Hid.mk' hk3
          have HR3 := Hid.mk' hr3
          clear hU2 hX2 hm0 hk3 hr3
          go_wp2
          refine Code.wp_mono (Q := R1 ?A4 (fun g w' => Kept w3 w' none ∧ Row w' g (blD (doL L l wh to) z.toNat))) ?cont4 ?reg4
          case reg4 =>
            repeat (rename_i hh; clear hh)
            refine wp_region_held_drew (S := fun w' => Kept w3 w' none) (by kernel_rfl) (kept_drw _ _) (fun hHeld => ?_)
            refine hold_take (i := 0) (v := ?rv36) rfl rfl (by kernel_rfl) (by kernel_rfl) (by kernel_rfl) (fun _ _ _ h => h) (Or.inl ⟨by rfl, ?rhy36⟩) hHeld ?rrest36
            case rhy36 => first | (intro w hSw; (try dsimp only at hSw); go_simp; done) | (intro w hSw; (try dsimp only at hSw); go_simp; with_reducible rfl)
            try simp only [List.setIfInBounds_toArray, List.set_cons_zero, List.set_cons_succ]
            refine hold_take (i := 1) (v := ?rv37) rfl rfl (by kernel_rfl) (by kernel_rfl) (by kernel_rfl) (fun _ _ _ h => h) (Or.inl ⟨by rfl, ?rhy37⟩) hHeld ?rrest37
            case rhy37 => first | (intro w hSw; (try dsimp only at hSw); go_simp; done) | (intro w hSw; (try dsimp only at hSw); go_simp; with_reducible rfl)
            try simp only [List.setIfInBounds_toArray, List.set_cons_zero, List.set_cons_succ]
            refine hold_take (i := 2) (v := ?rv38) rfl rfl (by kernel_rfl) (by kernel_rfl) (by kernel_rfl) (fun _ _ _ h => h) (Or.inl ⟨by rfl, ?rhy38⟩) hHeld ?rrest38
            case rhy38 => first | (intro w hSw; (try dsimp only at hSw); go_simp; done) | (intro w hSw; (try dsimp only at hSw); go_simp; with_reducible rfl)
            try simp only [List.setIfInBounds_toArray, List.set_cons_zero, List.set_cons_succ]
            refine hold_take (i := 3) (v := ?rv39) rfl rfl (by kernel_rfl) (by kernel_rfl) (by kernel_rfl) (fun _ _ _ h => h) (Or.inl ⟨by rfl, ?rhy39⟩) hHeld ?rrest39
            case rhy39 => first | (intro w hSw; (try dsimp only at hSw); go_simp; done) | (intro w hSw; (try dsimp only at hSw); go_simp; with_reducible rfl)
            try simp only [List.setIfInBounds_toArray, List.set_cons_zero, List.set_cons_succ]
            refine hold_take (i := 4) (v := ?rv40) rfl rfl (by kernel_rfl) (by kernel_rfl) (by kernel_rfl) (fun _ _ _ h => h) (Or.inl ⟨by rfl, ?rhy40⟩) hHeld ?rrest40
            case rhy40 => first | (intro w hSw; (try dsimp only at hSw); go_simp; done) | (intro w hSw; (try dsimp only at hSw); go_simp; with_reducible rfl)
            try simp only [List.setIfInBounds_toArray, List.set_cons_zero, List.set_cons_succ]
            refine hold_take (i := 5) (v := ?rv41) rfl rfl (by kernel_rfl) (by kernel_rfl) (by kernel_rfl) (fun _ _ _ h => h) (Or.inl ⟨by rfl, ?rhy41⟩) hHeld ?rrest41
            case rhy41 => first | (intro w hSw; (try dsimp only at hSw); go_simp; done) | (intro w hSw; (try dsimp only at hSw); go_simp; with_reducible rfl)
            try simp only [List.setIfInBounds_toArray, List.set_cons_zero, List.set_cons_succ]
            refine wpAnyH_ready (rs := [6]) (by kernel_rfl) (by simp) ?_
            refine (AllReadyH.cons rfl (fun K hK => ?rz42x6) AllReadyH.nil)
            case rz42x6 =>
              go_simp
              refine (HXD.out w3.drew hHeld).mono ?_
              rintro e wv43 ⟨g, rfl, hr, hk⟩
              dsimp only
              have hnew := hHeld.tr hk
              have HRw := hr
              clear hr
              refine hK.out _ _ hnew (fun hHeld => ?_)
              clear hK K hk hnew
              refine hold_take (i := 7) (v := ?rv44) rfl rfl (by kernel_rfl) (by kernel_rfl) (by kernel_rfl) (fun _ _ _ h => h) (Or.inl ⟨by rfl, ?rhy44⟩) hHeld ?rrest44
              case rhy44 => first | (intro w hSw; (try dsimp only at hSw); go_simp; done) | (intro w hSw; (try dsimp only at hSw); go_simp; with_reducible rfl)
              try simp only [List.setIfInBounds_toArray, List.set_cons_zero, List.set_cons_succ]
              refine hold_take (i := 8) (v := ?rv45) rfl rfl (by kernel_rfl) (by kernel_rfl) (by kernel_rfl) (fun _ _ _ h => h) (Or.inl ⟨by rfl, ?rhy45⟩) hHeld ?rrest45
              case rhy45 => first | (intro w hSw; (try dsimp only at hSw); go_simp; done) | (intro w hSw; (try dsimp only at hSw); go_simp; with_reducible rfl)
              try simp only [List.setIfInBounds_toArray, List.set_cons_zero, List.set_cons_succ]
              refine hold_take (i := 9) (v := ?rv46) rfl rfl (by kernel_rfl) (by kernel_rfl) (by kernel_rfl) (fun _ _ _ h => h) (Or.inl ⟨by rfl, ?rhy46⟩) hHeld ?rrest46
              case rhy46 => first | (intro w hSw; (try dsimp only at hSw); go_simp; done) | (intro w hSw; (try dsimp only at hSw); go_simp; with_reducible rfl)
              try simp only [List.setIfInBounds_toArray, List.set_cons_zero, List.set_cons_succ]
              refine hold_take (i := 10) (v := ?rv47) rfl rfl (by kernel_rfl) (by kernel_rfl) (by kernel_rfl) (fun _ _ _ h => h) (Or.inl ⟨by rfl, ?rhy47⟩) hHeld ?rrest47
              case rhy47 => first | (intro w hSw; (try dsimp only at hSw); go_simp; done) | (intro w hSw; (try dsimp only at hSw); go_simp; with_reducible rfl)
              try simp only [List.setIfInBounds_toArray, List.set_cons_zero, List.set_cons_succ]
              refine hold_take (i := 11) (v := ?rv48) rfl rfl (by kernel_rfl) (by kernel_rfl) (by kernel_rfl) (fun _ _ _ h => h) (Or.inl ⟨by rfl, ?rhy48⟩) hHeld ?rrest48
              case rhy48 => first | (intro w hSw; (try dsimp only at hSw); go_simp; done) | (intro w hSw; (try dsimp only at hSw); go_simp; with_reducible rfl)
              try simp only [List.setIfInBounds_toArray, List.set_cons_zero, List.set_cons_succ]
              refine wpAnyH_done (by kernel_rfl) ?_ _
              refine ⟨g, ?_, hHeld, HRw.out⟩
              with_reducible rfl
          case cont4 =>
          intro e a' w4 hq
          obtain ⟨rfl, g2, rfl, hk4, hr4⟩ := hq.out
          have hn1 := fun w' (hq : Kept w4 w' none) => hm1 w' ((HK3.out.tr hk4).tr hq)
          have hlz : (blD L z.toNat).length = 64 := blD_len (by have := HC.out.by_.size; have := HQ.out; omega)
          have hlx : (blD (doL L l wh to) z.toNat).length = 64 := blD_len (by have := (doL_yes HC.out.by_.size HE.out).2; have := HQ.out; omega)
          have HBw := Hid.mk' (fun w' (hq : Kept w4 w' none) => (((HR3.out.kept hk4 (by simp)).kept hq (by simp)).cm 64 hlz (by omega) (blD_lt HC.out.by_.lt _)).by_)
          have HBn := Hid.mk' (fun w' (hq : Kept w4 w' none) => ((hr4.kept hq (by simp)).cm 64 hlx (by omega) (blD_lt HCX.out.by_.lt _)).by_)
          have HBd := Hid.mk' (fun w' (hq : Kept w4 w' none) => HBc.out w' ((HK3.out.tr hk4).tr hq))
          have HK4 := Hid.mk' ((hkq.out.tr HK3.out).tr hk4)
          generalize blD L z.toNat = was at *
          generalize blD (doL L l wh to) z.toNat = now at *
          have c4 := hm1 w4 (HK3.out.tr hk4)
          clear hX3 hn3 hm1 hlz hlx hr4 hk4 HK3 HR3 hX hU
          by_cases hlo : i < wh
          · have hlo' : (i : Int) < wh := by omega
            have hne' : ¬ (i : Int) = wh := by omega
            rw [dn_lo hlo] at q5 q6
            have e1 : now = dd := by rw [List.take_of_length_le (by have := (HBn.out w4 (Kept.refl _ _)).size; omega), List.take_of_length_le (by have := (HBd.out w4 (Kept.refl _ _)).size; omega)] at q5; exact q5
            subst e1
            clear q5 q6
            have hT1 : ∀ w', Kept w4 w' none → (convert 22 9 (.slice (some ⟨g2, 0, none⟩) 64 64)).run Try.prog w' = .ok (.string (textOf now)) w' := fun w' hq => run_text (HBn.out w' hq) _
            have hT2 : ∀ w', Kept w4 w' none → (convert 22 9 (.slice (some ⟨bi, offi, none⟩) 64 ci)).run Try.prog w' = .ok (.string (textOf now)) w' := fun w' hq => run_text (HBd.out w' hq) _
            have hT3 : ∀ w', Kept w4 w' none → (convert 22 9 (.slice (some ⟨g2, 0, none⟩) 0 0)).run Try.prog w' = .ok (.string (textOf [])) w' := fun w' hq => run_text (By.nil _ _) _
            have hT4 : ∀ w', Kept w4 w' none → (convert 22 9 (.slice (some ⟨g1, 0, none⟩) 0 0)).run Try.prog w' = .ok (.string (textOf [])) w' := fun w' hq => run_text (By.nil _ _) _
            go_wp2
            refine Code.wp_mono (Q := Rbq ?A5 (fun w' => Kept w4 w' none)) ?cont5 ?reg5
            case reg5 =>
              repeat (rename_i hh; clear hh)
              refine wp_region_held_drew (S := fun w' => Kept w4 w' none) (by kernel_rfl) (kept_drw _ _) (fun hHeld => ?_)
              refine hold_take (i := 0) (v := ?rv49) rfl rfl (by kernel_rfl) (by kernel_rfl) (by kernel_rfl) (fun _ _ _ h => h) (Or.inl ⟨by rfl, ?rhy49⟩) hHeld ?rrest49
              case rhy49 => first | (intro w hSw; (try dsimp only at hSw); go_simp; done) | (intro w hSw; (try dsimp only at hSw); go_simp; with_reducible rfl)
              try simp only [List.setIfInBounds_toArray, List.set_cons_zero, List.set_cons_succ]
              refine hold_take (i := 1) (v := ?rv50) rfl rfl (by kernel_rfl) (by kernel_rfl) (by kernel_rfl) (fun _ _ _ h => h) (Or.inl ⟨by rfl, ?rhy50⟩) hHeld ?rrest50
              case rhy50 => first | (intro w hSw; (try dsimp only at hSw); go_simp; done) | (intro w hSw; (try dsimp only at hSw); go_simp; with_reducible rfl)
              try simp only [List.setIfInBounds_toArray, List.set_cons_zero, List.set_cons_succ]
              refine hold_take (i := 2) (v := ?rv51) rfl rfl (by kernel_rfl) (by kernel_rfl) (by kernel_rfl) (fun _ _ _ h => h) (Or.inl ⟨by rfl, ?rhy51⟩) hHeld ?rrest51
              case rhy51 => first | (intro w hSw; (try dsimp only at hSw); go_simp; done) | (intro w hSw; (try dsimp only at hSw); go_simp; with_reducible rfl)
              try simp only [List.setIfInBounds_toArray, List.set_cons_zero, List.set_cons_succ]
              refine hold_take (i := 3) (v := ?rv52) rfl rfl (by kernel_rfl) (by kernel_rfl) (by kernel_rfl) (fun _ _ _ h => h) (Or.inl ⟨by rfl, ?rhy52⟩) hHeld ?rrest52
              case rhy52 => first | (intro w hSw; (try dsimp only at hSw); go_simp; done) | (intro w hSw; (try dsimp only at hSw); go_simp; with_reducible rfl)
              try simp only [List.setIfInBounds_toArray, List.set_cons_zero, List.set_cons_succ]
              refine hold_take (i := 4) (v := ?rv53) rfl rfl (by kernel_rfl) (by kernel_rfl) (by kernel_rfl) (fun _ _ _ h => h) (Or.inl ⟨by rfl, ?rhy53⟩) hHeld ?rrest53
              case rhy53 => first | (intro w hSw; (try dsimp only at hSw); go_simp; done) | (intro w hSw; (try dsimp only at hSw); go_simp; with_reducible rfl)
              try simp only [List.setIfInBounds_toArray, List.set_cons_zero, List.set_cons_succ]
              refine hold_take (i := 5) (v := ?rv54) rfl rfl (by kernel_rfl) (by kernel_rfl) (by kernel_rfl) (fun _ _ _ h => h) (Or.inl ⟨by rfl, ?rhy54⟩) hHeld ?rrest54
              case rhy54 => first | (intro w hSw; (try dsimp only at hSw); go_simp; done) | (intro w hSw; (try dsimp only at hSw); go_simp; with_reducible rfl)
              try simp only [List.setIfInBounds_toArray, List.set_cons_zero, List.set_cons_succ]
              refine hold_take (i := 6) (v := ?rv55) rfl rfl (by kernel_rfl) (by kernel_rfl) (by kernel_rfl) (fun _ _ _ h => h) (Or.inl ⟨by rfl, ?rhy55⟩) hHeld ?rrest55
              case rhy55 => first | (intro w hSw; (try dsimp only at hSw); go_simp; done) | (intro w hSw; (try dsimp only at hSw); go_simp; with_reducible rfl)
              try simp only [List.setIfInBounds_toArray, List.set_cons_zero, List.set_cons_succ]
              refine hold_take (i := 7) (v := ?rv56) rfl rfl (by kernel_rfl) (by kernel_rfl) (by kernel_rfl) (fun _ _ _ h => h) (Or.inl ⟨by rfl, ?rhy56⟩) hHeld ?rrest56
              case rhy56 => first | (intro w hSw; (try dsimp only at hSw); go_simp; done) | (intro w hSw; (try dsimp only at hSw); go_simp; with_reducible rfl)
              try simp only [List.setIfInBounds_toArray, List.set_cons_zero, List.set_cons_succ]
              refine hold_take (i := 8) (v := ?rv57) rfl rfl (by kernel_rfl) (by kernel_rfl) (by kernel_rfl) (fun _ _ _ h => h) (Or.inl ⟨by rfl, ?rhy57⟩) hHeld ?rrest57
              case rhy57 => first | (intro w hSw; (try dsimp only at hSw); go_simp; done) | (intro w hSw; (try dsimp only at hSw); go_simp; with_reducible rfl)
              try simp only [List.setIfInBounds_toArray, List.set_cons_zero, List.set_cons_succ]
              refine hold_take (i := 9) (v := ?rv58) rfl rfl (by kernel_rfl) (by kernel_rfl) (by kernel_rfl) (fun _ _ _ h => h) (Or.inl ⟨by rfl, ?rhy58⟩) hHeld ?rrest58
              case rhy58 => first | (intro w hSw; (try dsimp only at hSw); go_simp; done) | (intro w hSw; (try dsimp only at hSw); go_simp; with_reducible rfl)
              try simp only [List.setIfInBounds_toArray, List.set_cons_zero, List.set_cons_succ]
              refine hold_take (i := 10) (v := ?rv59) rfl rfl (by kernel_rfl) (by kernel_rfl) (by kernel_rfl) (fun _ _ _ h => h) (Or.inl ⟨by rfl, ?rhy59⟩) hHeld ?rrest59
              case rhy59 => first | (intro w hSw; (try dsimp only at hSw); go_simp; done) | (intro w hSw; (try dsimp only at hSw); go_simp; with_reducible rfl)
              try simp only [List.setIfInBounds_toArray, List.set_cons_zero, List.set_cons_succ]
              refine hold_take (i := 11) (v := ?rv60) rfl rfl (by kernel_rfl) (by kernel_rfl) (by kernel_rfl) (fun _ _ _ h => h) (Or.inl ⟨by rfl, ?rhy60⟩) hHeld ?rrest60
              case rhy60 => first | (intro w hSw; (try dsimp only at hSw); go_simp; done) | (intro w hSw; (try dsimp only at hSw); go_simp; with_reducible rfl)
              try simp only [List.setIfInBounds_toArray, List.set_cons_zero, List.set_cons_succ]
              refine hold_take (i := 12) (v := ?rv61) rfl rfl (by kernel_rfl) (by kernel_rfl) (by kernel_rfl) (fun _ _ _ h => h) (Or.inl ⟨by rfl, ?rhy61⟩) hHeld ?rrest61
              case rhy61 => first | (intro w hSw; (try dsimp only at hSw); go_simp; done) | (intro w hSw; (try dsimp only at hSw); go_simp; with_reducible rfl)
              try simp only [List.setIfInBounds_toArray, List.set_cons_zero, List.set_cons_succ]
              refine hold_take (i := 13) (v := ?rv62) rfl rfl (by kernel_rfl) (by kernel_rfl) (by kernel_rfl) (fun _ _ _ h => h) (Or.inl ⟨by rfl, ?rhy62⟩) hHeld ?rrest62
              case rhy62 => first | (intro w hSw; (try dsimp only at hSw); go_simp; done) | (intro w hSw; (try dsimp only at hSw); go_simp; with_reducible rfl)
              try simp only [List.setIfInBounds_toArray, List.set_cons_zero, List.set_cons_succ]
              refine hold_take (i := 14) (v := ?rv63) rfl rfl (by kernel_rfl) (by kernel_rfl) (by kernel_rfl) (fun _ _ _ h => h) (Or.inl ⟨by rfl, ?rhy63⟩) hHeld ?rrest63
              case rhy63 => first | (intro w hSw; (try dsimp only at hSw); go_simp; done) | (intro w hSw; (try dsimp only at hSw); go_simp; with_reducible rfl)
              try simp only [List.setIfInBounds_toArray, List.set_cons_zero, List.set_cons_succ]
              refine hold_take (i := 15) (v := ?rv64) rfl rfl (by kernel_rfl) (by kernel_rfl) (by kernel_rfl) (fun _ _ _ h => h) (Or.inl ⟨by rfl, ?rhy64⟩) hHeld ?rrest64
              case rhy64 => first | (intro w hSw; (try dsimp only at hSw); go_simp; done) | (intro w hSw; (try dsimp only at hSw); go_simp; with_reducible rfl)
              try simp only [List.setIfInBounds_toArray, List.set_cons_zero, List.set_cons_succ]
              refine hold_take (i := 16) (v := ?rv65) rfl rfl (by kernel_rfl) (by kernel_rfl) (by kernel_rfl) (fun _ _ _ h => h) (Or.inl ⟨by rfl, ?rhy65⟩) hHeld ?rrest65
              case rhy65 => first | (intro w hSw; (try dsimp only at hSw); go_simp; done) | (intro w hSw; (try dsimp only at hSw); go_simp; with_reducible rfl)
              try simp only [List.setIfInBounds_toArray, List.set_cons_zero, List.set_cons_succ]
              refine hold_take (i := 17) (v := ?rv66) rfl rfl (by kernel_rfl) (by kernel_rfl) (by kernel_rfl) (fun _ _ _ h => h) (Or.inl ⟨by rfl, ?rhy66⟩) hHeld ?rrest66
              case rhy66 => first | (intro w hSw; (try dsimp only at hSw); go_simp; done) | (intro w hSw; (try dsimp only at hSw); go_simp; with_reducible rfl)
              try simp only [List.setIfInBounds_toArray, List.set_cons_zero, List.set_cons_succ]
              refine hold_take (i := 18) (v := ?rv67) rfl rfl (by kernel_rfl) (by kernel_rfl) (by kernel_rfl) (fun _ _ _ h => h) (Or.inl ⟨by rfl, ?rhy67⟩) hHeld ?rrest67
              case rhy67 => first | (intro w hSw; (try dsimp only at hSw); go_simp; done) | (intro w hSw; (try dsimp only at hSw); go_simp; with_reducible rfl)
              try simp only [List.setIfInBounds_toArray, List.set_cons_zero, List.set_cons_succ]
              refine hold_take (i := 19) (v := ?rv68) rfl rfl (by kernel_rfl) (by kernel_rfl) (by kernel_rfl) (fun _ _ _ h => h) (Or.inl ⟨by rfl, ?rhy68⟩) hHeld ?rrest68
              case rhy68 => first | (intro w hSw; (try dsimp only at hSw); go_simp; done) | (intro w hSw; (try dsimp only at hSw); go_simp; with_reducible rfl)
              try simp only [List.setIfInBounds_toArray, List.set_cons_zero, List.set_cons_succ]
              refine hold_take (i := 20) (v := ?rv69) rfl rfl (by kernel_rfl) (by kernel_rfl) (by kernel_rfl) (fun _ _ _ h => h) (Or.inl ⟨by rfl, ?rhy69⟩) hHeld ?rrest69
              case rhy69 => first | (intro w hSw; (try dsimp only at hSw); go_simp; done) | (intro w hSw; (try dsimp only at hSw); go_simp; with_reducible rfl)
              try simp only [List.setIfInBounds_toArray, List.set_cons_zero, List.set_cons_succ]
              refine hold_take (i := 21) (v := ?rv70) rfl rfl (by kernel_rfl) (by kernel_rfl) (by kernel_rfl) (fun _ _ _ h => h) (Or.inl ⟨by rfl, ?rhy70⟩) hHeld ?rrest70
              case rhy70 => first | (intro w hSw; (try dsimp only at hSw); go_simp; done) | (intro w hSw; (try dsimp only at hSw); go_simp; with_reducible rfl)
              try simp only [List.setIfInBounds_toArray, List.set_cons_zero, List.set_cons_succ]
              refine hold_take (i := 22) (v := ?rv71) rfl rfl (by kernel_rfl) (by kernel_rfl) (by kernel_rfl) (fun _ _ _ h => h) (Or.inl ⟨by rfl, ?rhy71⟩) hHeld ?rrest71
              case rhy71 => first | (intro w hSw; (try dsimp only at hSw); go_simp; done) | (intro w hSw; (try dsimp only at hSw); go_simp; with_reducible rfl)
              try simp only [List.setIfInBounds_toArray, List.set_cons_zero, List.set_cons_succ]
              refine hold_take (i := 23) (v := ?rv72) rfl rfl (by kernel_rfl) (by kernel_rfl) (by kernel_rfl) (fun _ _ _ h => h) (Or.inl ⟨by rfl, ?rhy72⟩) hHeld ?rrest72
              case rhy72 => first | (intro w hSw; (try dsimp only at hSw); go_simp; done) | (intro w hSw; (try dsimp only at hSw); go_simp; with_reducible rfl)
              try simp only [List.setIfInBounds_toArray, List.set_cons_zero, List.set_cons_succ]
              refine wpAnyH_done (by kernel_rfl) ?_ _
              refine And.intro ?_ hHeld
              with_reducible rfl
            case cont5 =>
            intro e a' w5 hq
            obtain ⟨rfl, rfl, hk5⟩ := hq.out
            go_wp2
            go_roundw
            case rel => exact ⟨i + 1, by omega, by go_num, Hid.mk' (HK4.out.tr hk5)⟩
            case measure => simp [intOf]; omega
          · have hlo' : ¬ (i : Int) < wh := by omega
            by_cases hat : i = wh
            · subst hat
              rw [dn_at] at q5 q6
              have h64' : ¬ 64 = to := by omega
              have htoI : (to : Int) ≤ 64 := by omega
              have htc : to ≤ ci := by omega
              obtain ⟨P, hP5⟩ : ∃ P, now.take to = P := ⟨_, rfl⟩
              obtain ⟨Q, hQ6⟩ : ∃ Q, now.drop to = Q := ⟨_, rfl⟩
              rw [hP5] at q5
              rw [hQ6] at q6
              have HP5 := Hid.mk' hP5
              have HQ6 := Hid.mk' hQ6
              have HP6 := Hid.mk' q5
              have HQ7 := Hid.mk' q6
              clear q5 q6 hP5 hQ6
              have hT1 : ∀ w', Kept w4 w' none → (convert 22 9 (.slice (some ⟨g2, 0, none⟩) to 64)).run Try.prog w' = .ok (.string (textOf P)) w' := fun w' hq => run_text (by have := (HBn.out w' hq).take to hto; rwa [HP5.out] at this) _
              have hT2 : ∀ w', Kept w4 w' none → (convert 22 9 (.slice (some ⟨bi, offi, none⟩) to ci)).run Try.prog w' = .ok (.string (textOf P)) w' := fun w' hq => run_text (by have := (HBd.out w' hq).take to hto; rwa [← HP6.out] at this) _
              have hT3 : ∀ w', Kept w4 w' none → (convert 22 9 (.slice (some ⟨g2, to, none⟩) (64 - to) (64 - to))).run Try.prog w' = .ok (.string (textOf Q)) w' := fun w' hq => run_text (by have := (HBn.out w' hq).drp to hto; rw [Nat.zero_add] at this; rwa [HQ6.out] at this) _
              have hT4 : ∀ w', Kept w4 w' none → (convert 22 9 (.slice (some ⟨g1, to, none⟩) (64 - to) (64 - to))).run Try.prog w' = .ok (.string (textOf Q)) w' := fun w' hq => run_text (by have := (HBw.out w' hq).drp to hto; rw [Nat.zero_add] at this; rwa [← HQ7.out] at this) _
              go_wp2
              refine Code.wp_mono (Q := Rbq ?A7 (fun w' => Kept w4 w' none)) ?cont7 ?reg7
              case reg7 =>
                repeat (rename_i hh; clear hh)
                refine wp_region_held_drew (S := fun w' => Kept w4 w' none) (by kernel_rfl) (kept_drw _ _) (fun hHeld => ?_)
                refine hold_take (i := 0) (v := ?rv73) rfl rfl (by kernel_rfl) (by kernel_rfl) (by kernel_rfl) (fun _ _ _ h => h) (Or.inl ⟨by rfl, ?rhy73⟩) hHeld ?rrest73
                case rhy73 => first | (intro w hSw; (try dsimp only at hSw); go_simp; done) | (intro w hSw; (try dsimp only at hSw); go_simp; with_reducible rfl)
                try simp only [List.setIfInBounds_toArray, List.set_cons_zero, List.set_cons_succ]
                refine hold_take (i := 1) (v := ?rv74) rfl rfl (by kernel_rfl) (by kernel_rfl) (by kernel_rfl) (fun _ _ _ h => h) (Or.inl ⟨by rfl, ?rhy74⟩) hHeld ?rrest74
                case rhy74 => first | (intro w hSw; (try dsimp only at hSw); go_simp; done) | (intro w hSw; (try dsimp only at hSw); go_simp; with_reducible rfl)
                try simp only [List.setIfInBounds_toArray, List.set_cons_zero, List.set_cons_succ]
                refine hold_take (i := 2) (v := ?rv75) rfl rfl (by kernel_rfl) (by kernel_rfl) (by kernel_rfl) (fun _ _ _ h => h) (Or.inl ⟨by rfl, ?rhy75⟩) hHeld ?rrest75
                case rhy75 => first | (intro w hSw; (try dsimp only at hSw); go_simp; done) | (intro w hSw; (try dsimp only at hSw); go_simp; with_reducible rfl)
                try simp only [List.setIfInBounds_toArray, List.set_cons_zero, List.set_cons_succ]
                refine hold_take (i := 3) (v := ?rv76) rfl rfl (by kernel_rfl) (by kernel_rfl) (by kernel_rfl) (fun _ _ _ h => h) (Or.inl ⟨by rfl, ?rhy76⟩) hHeld ?rrest76
                case rhy76 => first | (intro w hSw; (try dsimp only at hSw); go_simp; done) | (intro w hSw; (try dsimp only at hSw); go_simp; with_reducible rfl)
                try simp only [List.setIfInBounds_toArray, List.set_cons_zero, List.set_cons_succ]
                refine hold_take (i := 4) (v := ?rv77) rfl rfl (by kernel_rfl) (by kernel_rfl) (by kernel_rfl) (fun _ _ _ h => h) (Or.inl ⟨by rfl, ?rhy77⟩) hHeld ?rrest77
                case rhy77 => first | (intro w hSw; (try dsimp only at hSw); go_simp; done) | (intro w hSw; (try dsimp only at hSw); go_simp; with_reducible rfl)
                try simp only [List.setIfInBounds_toArray, List.set_cons_zero, List.set_cons_succ]
                refine hold_take (i := 5) (v := ?rv78) rfl rfl (by kernel_rfl) (by kernel_rfl) (by kernel_rfl) (fun _ _ _ h => h) (Or.inl ⟨by rfl, ?rhy78⟩) hHeld ?rrest78
                case rhy78 => first | (intro w hSw; (try dsimp only at hSw); go_simp; done) | (intro w hSw; (try dsimp only at hSw); go_simp; with_reducible rfl)
                try simp only [List.setIfInBounds_toArray, List.set_cons_zero, List.set_cons_succ]
                refine hold_take (i := 6) (v := ?rv79) rfl rfl (by kernel_rfl) (by kernel_rfl) (by kernel_rfl) (fun _ _ _ h => h) (Or.inl ⟨by rfl, ?rhy79⟩) hHeld ?rrest79
                case rhy79 => first | (intro w hSw; (try dsimp only at hSw); go_simp; done) | (intro w hSw; (try dsimp only at hSw); go_simp; with_reducible rfl)
                try simp only [List.setIfInBounds_toArray, List.set_cons_zero, List.set_cons_succ]
                refine hold_take (i := 7) (v := ?rv80) rfl rfl (by kernel_rfl) (by kernel_rfl) (by kernel_rfl) (fun _ _ _ h => h) (Or.inl ⟨by rfl, ?rhy80⟩) hHeld ?rrest80
                case rhy80 => first | (intro w hSw; (try dsimp only at hSw); go_simp; done) | (intro w hSw; (try dsimp only at hSw); go_simp; with_reducible rfl)
                try simp only [List.setIfInBounds_toArray, List.set_cons_zero, List.set_cons_succ]
                refine hold_take (i := 8) (v := ?rv81) rfl rfl (by kernel_rfl) (by kernel_rfl) (by kernel_rfl) (fun _ _ _ h => h) (Or.inl ⟨by rfl, ?rhy81⟩) hHeld ?rrest81
                case rhy81 => first | (intro w hSw; (try dsimp only at hSw); go_simp; done) | (intro w hSw; (try dsimp only at hSw); go_simp; with_reducible rfl)
                try simp only [List.setIfInBounds_toArray, List.set_cons_zero, List.set_cons_succ]
                refine hold_take (i := 9) (v := ?rv82) rfl rfl (by kernel_rfl) (by kernel_rfl) (by kernel_rfl) (fun _ _ _ h => h) (Or.inl ⟨by rfl, ?rhy82⟩) hHeld ?rrest82
                case rhy82 => first | (intro w hSw; (try dsimp only at hSw); go_simp; done) | (intro w hSw; (try dsimp only at hSw); go_simp; with_reducible rfl)
                try simp only [List.setIfInBounds_toArray, List.set_cons_zero, List.set_cons_succ]
                refine hold_take (i := 10) (v := ?rv83) rfl rfl (by kernel_rfl) (by kernel_rfl) (by kernel_rfl) (fun _ _ _ h => h) (Or.inl ⟨by rfl, ?rhy83⟩) hHeld ?rrest83
                case rhy83 => first | (intro w hSw; (try dsimp only at hSw); go_simp; done) | (intro w hSw; (try dsimp only at hSw); go_simp; with_reducible rfl)
                try simp only [List.setIfInBounds_toArray, List.set_cons_zero, List.set_cons_succ]
                refine hold_take (i := 11) (v := ?rv84) rfl rfl (by kernel_rfl) (by kernel_rfl) (by kernel_rfl) (fun _ _ _ h => h) (Or.inl ⟨by rfl, ?rhy84⟩) hHeld ?rrest84
                case rhy84 => first | (intro w hSw; (try dsimp only at hSw); go_simp; done) | (intro w hSw; (try dsimp only at hSw); go_simp; with_reducible rfl)
                try simp only [List.setIfInBounds_toArray, List.set_cons_zero, List.set_cons_succ]
                refine hold_take (i := 12) (v := ?rv85) rfl rfl (by kernel_rfl) (by kernel_rfl) (by kernel_rfl) (fun _ _ _ h => h) (Or.inl ⟨by rfl, ?rhy85⟩) hHeld ?rrest85
                case rhy85 => first | (intro w hSw; (try dsimp only at hSw); go_simp; done) | (intro w hSw; (try dsimp only at hSw); go_simp; with_reducible rfl)
                try simp only [List.setIfInBounds_toArray, List.set_cons_zero, List.set_cons_succ]
                refine hold_take (i := 13) (v := ?rv86) rfl rfl (by kernel_rfl) (by kernel_rfl) (by kernel_rfl) (fun _ _ _ h => h) (Or.inl ⟨by rfl, ?rhy86⟩) hHeld ?rrest86
                case rhy86 => first | (intro w hSw; (try dsimp only at hSw); go_simp; done) | (intro w hSw; (try dsimp only at hSw); go_simp; with_reducible rfl)
                try simp only [List.setIfInBounds_toArray, List.set_cons_zero, List.set_cons_succ]
                refine hold_take (i := 14) (v := ?rv87) rfl rfl (by kernel_rfl) (by kernel_rfl) (by kernel_rfl) (fun _ _ _ h => h) (Or.inl ⟨by rfl, ?rhy87⟩) hHeld ?rrest87
                case rhy87 => first | (intro w hSw; (try dsimp only at hSw); go_simp; done) | (intro w hSw; (try dsimp only at hSw); go_simp; with_reducible rfl)
                try simp only [List.setIfInBounds_toArray, List.set_cons_zero, List.set_cons_succ]
                refine hold_take (i := 15) (v := ?rv88) rfl rfl (by kernel_rfl) (by kernel_rfl) (by kernel_rfl) (fun _ _ _ h => h) (Or.inl ⟨by rfl, ?rhy88⟩) hHeld ?rrest88
                case rhy88 => first | (intro w hSw; (try dsimp only at hSw); go_simp; done) | (intro w hSw; (try dsimp only at hSw); go_simp; with_reducible rfl)
                try simp only [List.setIfInBounds_toArray, List.set_cons_zero, List.set_cons_succ]
                refine hold_take (i := 16) (v := ?rv89) rfl rfl (by kernel_rfl) (by kernel_rfl) (by kernel_rfl) (fun _ _ _ h => h) (Or.inl ⟨by rfl, ?rhy89⟩) hHeld ?rrest89
                case rhy89 => first | (intro w hSw; (try dsimp only at hSw); go_simp; done) | (intro w hSw; (try dsimp only at hSw); go_simp; with_reducible rfl)
                try simp only [List.setIfInBounds_toArray, List.set_cons_zero, List.set_cons_succ]
                refine hold_take (i := 17) (v := ?rv90) rfl rfl (by kernel_rfl) (by kernel_rfl) (by kernel_rfl) (fun _ _ _ h => h) (Or.inl ⟨by rfl, ?rhy90⟩) hHeld ?rrest90
                case rhy90 => first | (intro w hSw; (try dsimp only at hSw); go_simp; done) | (intro w hSw; (try dsimp only at hSw); go_simp; with_reducible rfl)
                try simp only [List.setIfInBounds_toArray, List.set_cons_zero, List.set_cons_succ]
                refine hold_take (i := 18) (v := ?rv91) rfl rfl (by kernel_rfl) (by kernel_rfl) (by kernel_rfl) (fun _ _ _ h => h) (Or.inl ⟨by rfl, ?rhy91⟩) hHeld ?rrest91
                case rhy91 => first | (intro w hSw; (try dsimp only at hSw); go_simp; done) | (intro w hSw; (try dsimp only at hSw); go_simp; with_reducible rfl)
                try simp only [List.setIfInBounds_toArray, List.set_cons_zero, List.set_cons_succ]
                refine hold_take (i := 19) (v := ?rv92) rfl rfl (by kernel_rfl) (by kernel_rfl) (by kernel_rfl) (fun _ _ _ h => h) (Or.inl ⟨by rfl, ?rhy92⟩) hHeld ?rrest92
                case rhy92 => first | (intro w hSw; (try dsimp only at hSw); go_simp; done) | (intro w hSw; (try dsimp only at hSw); go_simp; with_reducible rfl)
                try simp only [List.setIfInBounds_toArray, List.set_cons_zero, List.set_cons_succ]
                refine hold_take (i := 20) (v := ?rv93) rfl rfl (by kernel_rfl) (by kernel_rfl) (by kernel_rfl) (fun _ _ _ h => h) (Or.inl ⟨by rfl, ?rhy93⟩) hHeld ?rrest93
                case rhy93 => first | (intro w hSw; (try dsimp only at hSw); go_simp; done) | (intro w hSw; (try dsimp only at hSw); go_simp; with_reducible rfl)
                try simp only [List.setIfInBounds_toArray, List.set_cons_zero, List.set_cons_succ]
                refine hold_take (i := 21) (v := ?rv94) rfl rfl (by kernel_rfl) (by kernel_rfl) (by kernel_rfl) (fun _ _ _ h => h) (Or.inl ⟨by rfl, ?rhy94⟩) hHeld ?rrest94
                case rhy94 => first | (intro w hSw; (try dsimp only at hSw); go_simp; done) | (intro w hSw; (try dsimp only at hSw); go_simp; with_reducible rfl)
                try simp only [List.setIfInBounds_toArray, List.set_cons_zero, List.set_cons_succ]
                refine hold_take (i := 22) (v := ?rv95) rfl rfl (by kernel_rfl) (by kernel_rfl) (by kernel_rfl) (fun _ _ _ h => h) (Or.inl ⟨by rfl, ?rhy95⟩) hHeld ?rrest95
                case rhy95 => first | (intro w hSw; (try dsimp only at hSw); go_simp; done) | (intro w hSw; (try dsimp only at hSw); go_simp; with_reducible rfl)
                try simp only [List.setIfInBounds_toArray, List.set_cons_zero, List.set_cons_succ]
                refine hold_take (i := 23) (v := ?rv96) rfl rfl (by kernel_rfl) (by kernel_rfl) (by kernel_rfl) (fun _ _ _ h => h) (Or.inl ⟨by rfl, ?rhy96⟩) hHeld ?rrest96
                case rhy96 => first | (intro w hSw; (try dsimp only at hSw); go_simp; done) | (intro w hSw; (try dsimp only at hSw); go_simp; with_reducible rfl)
                try simp only [List.setIfInBounds_toArray, List.set_cons_zero, List.set_cons_succ]
                refine wpAnyH_done (by kernel_rfl) ?_ _
                refine And.intro ?_ hHeld
                with_reducible rfl
              case cont7 =>
              intro e a' w5 hq
              obtain ⟨rfl, rfl, hk5⟩ := hq.out
              go_wp2
              go_roundw
              case rel => exact ⟨i + 1, by omega, by go_num, Hid.mk' (HK4.out.tr hk5)⟩
              case measure => simp [intOf]; omega
            · have hne' : ¬ (i : Int) = wh := by omega
              rw [dn_hi (by omega)] at q5 q6
              have e1 : now = was := by simpa using q6
              subst e1
              clear q5 q6
              have hT1 : ∀ w', Kept w4 w' none → (convert 22 9 (.slice (some ⟨g2, 0, none⟩) 0 64)).run Try.prog w' = .ok (.string (textOf [])) w' := fun w' hq => run_text (By.nil _ _) _
              have hT2 : ∀ w', Kept w4 w' none → (convert 22 9 (.slice (some ⟨bi, offi, none⟩) 0 ci)).run Try.prog w' = .ok (.string (textOf [])) w' := fun w' hq => run_text (By.nil _ _) _
              have hT3 : ∀ w', Kept w4 w' none → (convert 22 9 (.slice (some ⟨g2, 0, none⟩) 64 64)).run Try.prog w' = .ok (.string (textOf now)) w' := fun w' hq => run_text (HBn.out w' hq) _
              have hT4 : ∀ w', Kept w4 w' none → (convert 22 9 (.slice (some ⟨g1, 0, none⟩) 64 64)).run Try.prog w' = .ok (.string (textOf now)) w' := fun w' hq => run_text (HBw.out w' hq) _
              go_wp2
              refine Code.wp_mono (Q := Rbq ?A8 (fun w' => Kept w4 w' none)) ?cont8 ?reg8
              case reg8 =>
                repeat (rename_i hh; clear hh)
                refine wp_region_held_drew (S := fun w' => Kept w4 w' none) (by kernel_rfl) (kept_drw _ _) (fun hHeld => ?_)
                refine hold_take (i := 0) (v := ?rv97) rfl rfl (by kernel_rfl) (by kernel_rfl) (by kernel_rfl) (fun _ _ _ h => h) (Or.inl ⟨by rfl, ?rhy97⟩) hHeld ?rrest97
                case rhy97 => first | (intro w hSw; (try dsimp only at hSw); go_simp; done) | (intro w hSw; (try dsimp only at hSw); go_simp; with_reducible rfl)
                try simp only [List.setIfInBounds_toArray, List.set_cons_zero, List.set_cons_succ]
                refine hold_take (i := 1) (v := ?rv98) rfl rfl (by kernel_rfl) (by kernel_rfl) (by kernel_rfl) (fun _ _ _ h => h) (Or.inl ⟨by rfl, ?rhy98⟩) hHeld ?rrest98
                case rhy98 => first | (intro w hSw; (try dsimp only at hSw); go_simp; done) | (intro w hSw; (try dsimp only at hSw); go_simp; with_reducible rfl)
                try simp only [List.setIfInBounds_toArray, List.set_cons_zero, List.set_cons_succ]
                refine hold_take (i := 2) (v := ?rv99) rfl rfl (by kernel_rfl) (by kernel_rfl) (by kernel_rfl) (fun _ _ _ h => h) (Or.inl ⟨by rfl, ?rhy99⟩) hHeld ?rrest99
                case rhy99 => first | (intro w hSw; (try dsimp only at hSw); go_simp; done) | (intro w hSw; (try dsimp only at hSw); go_simp; with_reducible rfl)
                try simp only [List.setIfInBounds_toArray, List.set_cons_zero, List.set_cons_succ]
                refine hold_take (i := 3) (v := ?rv100) rfl rfl (by kernel_rfl) (by kernel_rfl) (by kernel_rfl) (fun _ _ _ h => h) (Or.inl ⟨by rfl, ?rhy100⟩) hHeld ?rrest100
                case rhy100 => first | (intro w hSw; (try dsimp only at hSw); go_simp; done) | (intro w hSw; (try dsimp only at hSw); go_simp; with_reducible rfl)
                try simp only [List.setIfInBounds_toArray, List.set_cons_zero, List.set_cons_succ]
                refine hold_take (i := 4) (v := ?rv101) rfl rfl (by kernel_rfl) (by kernel_rfl) (by kernel_rfl) (fun _ _ _ h => h) (Or.inl ⟨by rfl, ?rhy101⟩) hHeld ?rrest101
                case rhy101 => first | (intro w hSw; (try dsimp only at hSw); go_simp; done) | (intro w hSw; (try dsimp only at hSw); go_simp; with_reducible rfl)
                try simp only [List.setIfInBounds_toArray, List.set_cons_zero, List.set_cons_succ]
                refine hold_take (i := 5) (v := ?rv102) rfl rfl (by kernel_rfl) (by kernel_rfl) (by kernel_rfl) (fun _ _ _ h => h) (Or.inl ⟨by rfl, ?rhy102⟩) hHeld ?rrest102
                case rhy102 => first | (intro w hSw; (try dsimp only at hSw); go_simp; done) | (intro w hSw; (try dsimp only at hSw); go_simp; with_reducible rfl)
                try simp only [List.setIfInBounds_toArray, List.set_cons_zero, List.set_cons_succ]
                refine hold_take (i := 6) (v := ?rv103) rfl rfl (by kernel_rfl) (by kernel_rfl) (by kernel_rfl) (fun _ _ _ h => h) (Or.inl ⟨by rfl, ?rhy103⟩) hHeld ?rrest103
                case rhy103 => first | (intro w hSw; (try dsimp only at hSw); go_simp; done) | (intro w hSw; (try dsimp only at hSw); go_simp; with_reducible rfl)
                try simp only [List.setIfInBounds_toArray, List.set_cons_zero, List.set_cons_succ]
                refine hold_take (i := 7) (v := ?rv104) rfl rfl (by kernel_rfl) (by kernel_rfl) (by kernel_rfl) (fun _ _ _ h => h) (Or.inl ⟨by rfl, ?rhy104⟩) hHeld ?rrest104
                case rhy104 => first | (intro w hSw; (try dsimp only at hSw); go_simp; done) | (intro w hSw; (try dsimp only at hSw); go_simp; with_reducible rfl)
                try simp only [List.setIfInBounds_toArray, List.set_cons_zero, List.set_cons_succ]
                refine hold_take (i := 8) (v := ?rv105) rfl rfl (by kernel_rfl) (by kernel_rfl) (by kernel_rfl) (fun _ _ _ h => h) (Or.inl ⟨by rfl, ?rhy105⟩) hHeld ?rrest105
                case rhy105 => first | (intro w hSw; (try dsimp only at hSw); go_simp; done) | (intro w hSw; (try dsimp only at hSw); go_simp; with_reducible rfl)
                try simp only [List.setIfInBounds_toArray, List.set_cons_zero, List.set_cons_succ]
                refine hold_take (i := 9) (v := ?rv106) rfl rfl (by kernel_rfl) (by kernel_rfl) (by kernel_rfl) (fun _ _ _ h => h) (Or.inl ⟨by rfl, ?rhy106⟩) hHeld ?rrest106
                case rhy106 => first | (intro w hSw; (try dsimp only at hSw); go_simp; done) | (intro w hSw; (try dsimp only at hSw); go_simp; with_reducible rfl)
                try simp only [List.setIfInBounds_toArray, List.set_cons_zero, List.set_cons_succ]
                refine hold_take (i := 10) (v := ?rv107) rfl rfl (by kernel_rfl) (by kernel_rfl) (by kernel_rfl) (fun _ _ _ h => h) (Or.inl ⟨by rfl, ?rhy107⟩) hHeld ?rrest107
                case rhy107 => first | (intro w hSw; (try dsimp only at hSw); go_simp; done) | (intro w hSw; (try dsimp only at hSw); go_simp; with_reducible rfl)
                try simp only [List.setIfInBounds_toArray, List.set_cons_zero, List.set_cons_succ]
                refine hold_take (i := 11) (v := ?rv108) rfl rfl (by kernel_rfl) (by kernel_rfl) (by kernel_rfl) (fun _ _ _ h => h) (Or.inl ⟨by rfl, ?rhy108⟩) hHeld ?rrest108
                case rhy108 => first | (intro w hSw; (try dsimp only at hSw); go_simp; done) | (intro w hSw; (try dsimp only at hSw); go_simp; with_reducible rfl)
                try simp only [List.setIfInBounds_toArray, List.set_cons_zero, List.set_cons_succ]
                refine hold_take (i := 12) (v := ?rv109) rfl rfl (by kernel_rfl) (by kernel_rfl) (by kernel_rfl) (fun _ _ _ h => h) (Or.inl ⟨by rfl, ?rhy109⟩) hHeld ?rrest109
                case rhy109 => first | (intro w hSw; (try dsimp only at hSw); go_simp; done) | (intro w hSw; (try dsimp only at hSw); go_simp; with_reducible rfl)
                try simp only [List.setIfInBounds_toArray, List.set_cons_zero, List.set_cons_succ]
                refine hold_take (i := 13) (v := ?rv110) rfl rfl (by kernel_rfl) (by kernel_rfl) (by kernel_rfl) (fun _ _ _ h => h) (Or.inl ⟨by rfl, ?rhy110⟩) hHeld ?rrest110
                case rhy110 => first | (intro w hSw; (try dsimp only at hSw); go_simp; done) | (intro w hSw; (try dsimp only at hSw); go_simp; with_reducible rfl)
                try simp only [List.setIfInBounds_toArray, List.set_cons_zero, List.set_cons_succ]
                refine hold_take (i := 14) (v := ?rv111) rfl rfl (by kernel_rfl) (by kernel_rfl) (by kernel_rfl) (fun _ _ _ h => h) (Or.inl ⟨by rfl, ?rhy111⟩) hHeld ?rrest111
                case rhy111 => first | (intro w hSw; (try dsimp only at hSw); go_simp; done) | (intro w hSw; (try dsimp only at hSw); go_simp; with_reducible rfl)
                try simp only [List.setIfInBounds_toArray, List.set_cons_zero, List.set_cons_succ]
                refine hold_take (i := 15) (v := ?rv112) rfl rfl (by kernel_rfl) (by kernel_rfl) (by kernel_rfl) (fun _ _ _ h => h) (Or.inl ⟨by rfl, ?rhy112⟩) hHeld ?rrest112
                case rhy112 => first | (intro w hSw; (try dsimp only at hSw); go_simp; done) | (intro w hSw; (try dsimp only at hSw); go_simp; with_reducible rfl)
                try simp only [List.setIfInBounds_toArray, List.set_cons_zero, List.set_cons_succ]
                refine hold_take (i := 16) (v := ?rv113) rfl rfl (by kernel_rfl) (by kernel_rfl) (by kernel_rfl) (fun _ _ _ h => h) (Or.inl ⟨by rfl, ?rhy113⟩) hHeld ?rrest113
                case rhy113 => first | (intro w hSw; (try dsimp only at hSw); go_simp; done) | (intro w hSw; (try dsimp only at hSw); go_simp; with_reducible rfl)
                try simp only [List.setIfInBounds_toArray, List.set_cons_zero, List.set_cons_succ]
                refine hold_take (i := 17) (v := ?rv114) rfl rfl (by kernel_rfl) (by kernel_rfl) (by kernel_rfl) (fun _ _ _ h => h) (Or.inl ⟨by rfl, ?rhy114⟩) hHeld ?rrest114
                case rhy114 => first | (intro w hSw; (try dsimp only at hSw); go_simp; done) | (intro w hSw; (try dsimp only at hSw); go_simp; with_reducible rfl)
                try simp only [List.setIfInBounds_toArray, List.set_cons_zero, List.set_cons_succ]
                refine hold_take (i := 18) (v := ?rv115) rfl rfl (by kernel_rfl) (by kernel_rfl) (by kernel_rfl) (fun _ _ _ h => h) (Or.inl ⟨by rfl, ?rhy115⟩) hHeld ?rrest115
                case rhy115 => first | (intro w hSw; (try dsimp only at hSw); go_simp; done) | (intro w hSw; (try dsimp only at hSw); go_simp; with_reducible rfl)
                try simp only [List.setIfInBounds_toArray, List.set_cons_zero, List.set_cons_succ]
                refine hold_take (i := 19) (v := ?rv116) rfl rfl (by kernel_rfl) (by kernel_rfl) (by kernel_rfl) (fun _ _ _ h => h) (Or.inl ⟨by rfl, ?rhy116⟩) hHeld ?rrest116
                case rhy116 => first | (intro w hSw; (try dsimp only at hSw); go_simp; done) | (intro w hSw; (try dsimp only at hSw); go_simp; with_reducible rfl)
                try simp only [List.setIfInBounds_toArray, List.set_cons_zero, List.set_cons_succ]
                refine hold_take (i := 20) (v := ?rv117) rfl rfl (by kernel_rfl) (by kernel_rfl) (by kernel_rfl) (fun _ _ _ h => h) (Or.inl ⟨by rfl, ?rhy117⟩) hHeld ?rrest117
                case rhy117 => first | (intro w hSw; (try dsimp only at hSw); go_simp; done) | (intro w hSw; (try dsimp only at hSw); go_simp; with_reducible rfl)
                try simp only [List.setIfInBounds_toArray, List.set_cons_zero, List.set_cons_succ]
                refine hold_take (i := 21) (v := ?rv118) rfl rfl (by kernel_rfl) (by kernel_rfl) (by kernel_rfl) (fun _ _ _ h => h) (Or.inl ⟨by rfl, ?rhy118⟩) hHeld ?rrest118
                case rhy118 => first | (intro w hSw; (try dsimp only at hSw); go_simp; done) | (intro w hSw; (try dsimp only at hSw); go_simp; with_reducible rfl)
                try simp only [List.setIfInBounds_toArray, List.set_cons_zero, List.set_cons_succ]
                refine hold_take (i := 22) (v := ?rv119) rfl rfl (by kernel_rfl) (by kernel_rfl) (by kernel_rfl) (fun _ _ _ h => h) (Or.inl ⟨by rfl, ?rhy119⟩) hHeld ?rrest119
                case rhy119 => first | (intro w hSw; (try dsimp only at hSw); go_simp; done) | (intro w hSw; (try dsimp only at hSw); go_simp; with_reducible rfl)
                try simp only [List.setIfInBounds_toArray, List.set_cons_zero, List.set_cons_succ]
                refine hold_take (i := 23) (v := ?rv120) rfl rfl (by kernel_rfl) (by kernel_rfl) (by kernel_rfl) (fun _ _ _ h => h) (Or.inl ⟨by rfl, ?rhy120⟩) hHeld ?rrest120
                case rhy120 => first | (intro w hSw; (try dsimp only at hSw); go_simp; done) | (intro w hSw; (try dsimp only at hSw); go_simp; with_reducible rfl)
                try simp only [List.setIfInBounds_toArray, List.set_cons_zero, List.set_cons_succ]
                refine wpAnyH_done (by kernel_rfl) ?_ _
                refine And.intro ?_ hHeld
                with_reducible rfl
              case cont8 =>
              intro e a' w5 hq
              obtain ⟨rfl, rfl, hk5⟩ := hq.out
              go_wp2
              go_roundw
              case rel => exact ⟨i + 1, by omega, by go_num, Hid.mk' (HK4.out.tr hk5)⟩
              case measure => simp [intOf]; omega
        · have hik : i = k := by omega
          subst hik
          go_wp2
          go_ret
          exact ⟨rfl, HKW.out.tr hkq.out⟩
set_option maxRecDepth 100000 in
set_option maxHeartbeats 1600000 in
theorem torn_ok64 {a : Option Addr} {n c : Nat} {L : List Nat} {la : Option Addr} {m lc : Nat} {l : List Pw} (wh : Nat) (w : World) (hC : Come w a n c L) (hP : Plw w la m l) (h : ¬ 10000 < n) (h2 : ¬ 64 < m) (hE : doE n l (wh : Int) 64 = 0) : Calls Try.prog 6 #[dvV a n c, .slice la m lc, .int .i64 wh, .int .i64 64] w fun e w' => e = .returned (.bool true) ∧ Kept w w' none := by
  have HC := Hid.mk' hC
  have HP := Hid.mk' hP
  have hn := hC.by_.max
  have hm := hP.max
  have HS := Hid.mk' hP.size
  clear hC hP
  have h' : ¬ (10000 : Int) < n := by omega
  have h2' : ¬ (64 : Int) < m := by omega
  have HE := Hid.mk' hE
  have hsy := do_says hE
  have HCH : Hid (chkE n = 0) := Hid.mk' (if_pos hsy.1)
  have hwh : wh ≤ l.length := by omega
  clear hE hsy
  go_enter Try.func6, Try.ntmps6
  go_wp2_with (go_at_call 14; refine (alive_any _).mono ?_; rintro e w1 ⟨rfl, hk1⟩; have hD1 := (db_alloc w a n c 24).kept hk1; have c1 := hD1.c0; have lt1 := hD1.lt; have HD1 := Hid.mk' hD1; have HK1 := Hid.mk' ((Kept.alloc w (dvC a n c) 24 (0, 0) none).tr hk1); clear hD1)
  go_loopw [10] (fun i wr => ∃ k : Nat, k ≤ m ∧ i = .int .i64 k ∧ Hid (Apt l k) ∧ Hid (Kept w1 wr none)) (fun i _ => m - (intOf i).toNat)
  case atStart => exact ⟨0, Nat.zero_le _, rfl, Hid.mk' (fun x y _ _ _ h => absurd h (by omega)), Hid.mk' (Kept.refl _ _)⟩
  case round =>
    obtain ⟨k, hk, rfl, hap, hkr⟩ := hrel
    by_cases hlt : k < m
    · obtain ⟨b, off, rfl, _⟩ := HP.out.at_ (by omega)
      have hkl : k < l.length := by rw [HS.out]; exact hlt
      obtain ⟨ak, ck, hn0, _, _⟩ := (HP.out.kept HK1.out).get hkl
      obtain ⟨wo, hwo⟩ : ∃ wo, wo = wr := ⟨_, rfl⟩
      subst hwo
      go_wp2
      go_loopw [11] (fun i wr => ∃ j : Nat, j ≤ k ∧ i = .int .i64 j ∧ Hid (∀ x (hx : x < l.length), x < j → l[x].n ≠ l[k].n) ∧ Hid (Kept w1 wr none)) (fun i _ => k - (intOf i).toNat)
      case atStart => exact ⟨0, Nat.zero_le _, rfl, Hid.mk' (fun x _ h => absurd h (by omega)), hkr⟩
      case round =>
        obtain ⟨j, hj, rfl, hjs, hkj⟩ := hrel
        by_cases hjl : j < k
        · have hjll : j < l.length := by omega
          obtain ⟨aj, cj, hn1, _, _⟩ := (HP.out.kept HK1.out).get hjll
          have hr0 := fun w' (hq : Kept wr w' none) => hn0 w' (hkj.out.tr hq)
          have hr1 := fun w' (hq : Kept wr w' none) => hn1 w' (hkj.out.tr hq)
          clear hn1
          by_cases he : l[j].n = l[k].n
          · rw [he] at hr1
            generalize l[k].n = z at hr0 hr1
            clear hn0 he
            have hjm : (j : Int) < m := by omega
            have hkm : (k : Int) < m := by omega
            go_wp2
            refine Code.wp_mono (Q := Rbq ?A1 (fun w' => Kept wr w' none)) ?cont1 ?reg1
            case reg1 =>
              repeat (rename_i hh; clear hh)
              refine wp_region_held_drew (S := fun w' => Kept wr w' none) (by kernel_rfl) (kept_drw _ _) (fun hHeld => ?_)
              refine hold_take (i := 0) (v := ?rv1) rfl rfl (by kernel_rfl) (by kernel_rfl) (by kernel_rfl) (fun _ _ _ h => h) (Or.inl ⟨by rfl, ?rhy1⟩) hHeld ?rrest1
              case rhy1 => first | (intro w hSw; (try dsimp only at hSw); go_simp; done) | (intro w hSw; (try dsimp only at hSw); go_simp; with_reducible rfl)
              try simp only [List.setIfInBounds_toArray, List.set_cons_zero, List.set_cons_succ]
              refine hold_take (i := 1) (v := ?rv2) rfl rfl (by kernel_rfl) (by kernel_rfl) (by kernel_rfl) (fun _ _ _ h => h) (Or.inl ⟨by rfl, ?rhy2⟩) hHeld ?rrest2
              case rhy2 => first | (intro w hSw; (try dsimp only at hSw); go_simp; done) | (intro w hSw; (try dsimp only at hSw); go_simp; with_reducible rfl)
              try simp only [List.setIfInBounds_toArray, List.set_cons_zero, List.set_cons_succ]
              refine hold_take (i := 2) (v := ?rv3) rfl rfl (by kernel_rfl) (by kernel_rfl) (by kernel_rfl) (fun _ _ _ h => h) (Or.inl ⟨by rfl, ?rhy3⟩) hHeld ?rrest3
              case rhy3 => first | (intro w hSw; (try dsimp only at hSw); go_simp; done) | (intro w hSw; (try dsimp only at hSw); go_simp; with_reducible rfl)
              try simp only [List.setIfInBounds_toArray, List.set_cons_zero, List.set_cons_succ]
              refine hold_take (i := 3) (v := ?rv4) rfl rfl (by kernel_rfl) (by kernel_rfl) (by kernel_rfl) (fun _ _ _ h => h) (Or.inl ⟨by rfl, ?rhy4⟩) hHeld ?rrest4
              case rhy4 => first | (intro w hSw; (try dsimp only at hSw); go_simp; done) | (intro w hSw; (try dsimp only at hSw); go_simp; with_reducible rfl)
              try simp only [List.setIfInBounds_toArray, List.set_cons_zero, List.set_cons_succ]
              refine hold_take (i := 4) (v := ?rv5) rfl rfl (by kernel_rfl) (by kernel_rfl) (by kernel_rfl) (fun _ _ _ h => h) (Or.inl ⟨by rfl, ?rhy5⟩) hHeld ?rrest5
              case rhy5 => first | (intro w hSw; (try dsimp only at hSw); go_simp; done) | (intro w hSw; (try dsimp only at hSw); go_simp; with_reducible rfl)
              try simp only [List.setIfInBounds_toArray, List.set_cons_zero, List.set_cons_succ]
              refine hold_take (i := 5) (v := ?rv6) rfl rfl (by kernel_rfl) (by kernel_rfl) (by kernel_rfl) (fun _ _ _ h => h) (Or.inl ⟨by rfl, ?rhy6⟩) hHeld ?rrest6
              case rhy6 => first | (intro w hSw; (try dsimp only at hSw); go_simp; done) | (intro w hSw; (try dsimp only at hSw); go_simp; with_reducible rfl)
              try simp only [List.setIfInBounds_toArray, List.set_cons_zero, List.set_cons_succ]
              refine hold_take (i := 6) (v := ?rv7) rfl rfl (by kernel_rfl) (by kernel_rfl) (by kernel_rfl) (fun _ _ _ h => h) (Or.inl ⟨by rfl, ?rhy7⟩) hHeld ?rrest7
              case rhy7 => first | (intro w hSw; (try dsimp only at hSw); go_simp; done) | (intro w hSw; (try dsimp only at hSw); go_simp; with_reducible rfl)
              try simp only [List.setIfInBounds_toArray, List.set_cons_zero, List.set_cons_succ]
              refine hold_take (i := 7) (v := ?rv8) rfl rfl (by kernel_rfl) (by kernel_rfl) (by kernel_rfl) (fun _ _ _ h => h) (Or.inl ⟨by rfl, ?rhy8⟩) hHeld ?rrest8
              case rhy8 => first | (intro w hSw; (try dsimp only at hSw); go_simp; done) | (intro w hSw; (try dsimp only at hSw); go_simp; with_reducible rfl)
              try simp only [List.setIfInBounds_toArray, List.set_cons_zero, List.set_cons_succ]
              refine hold_take (i := 8) (v := ?rv9) rfl rfl (by kernel_rfl) (by kernel_rfl) (by kernel_rfl) (fun _ _ _ h => h) (Or.inl ⟨by rfl, ?rhy9⟩) hHeld ?rrest9
              case rhy9 => first | (intro w hSw; (try dsimp only at hSw); go_simp; done) | (intro w hSw; (try dsimp only at hSw); go_simp; with_reducible rfl)
              try simp only [List.setIfInBounds_toArray, List.set_cons_zero, List.set_cons_succ]
              refine hold_take (i := 9) (v := ?rv10) rfl rfl (by kernel_rfl) (by kernel_rfl) (by kernel_rfl) (fun _ _ _ h => h) (Or.inl ⟨by rfl, ?rhy10⟩) hHeld ?rrest10
              case rhy10 => first | (intro w hSw; (try dsimp only at hSw); go_simp; done) | (intro w hSw; (try dsimp only at hSw); go_simp; with_reducible rfl)
              try simp only [List.setIfInBounds_toArray, List.set_cons_zero, List.set_cons_succ]
              refine hold_take (i := 10) (v := ?rv11) rfl rfl (by kernel_rfl) (by kernel_rfl) (by kernel_rfl) (fun _ _ _ h => h) (Or.inl ⟨by rfl, ?rhy11⟩) hHeld ?rrest11
              case rhy11 => first | (intro w hSw; (try dsimp only at hSw); go_simp; done) | (intro w hSw; (try dsimp only at hSw); go_simp; with_reducible rfl)
              try simp only [List.setIfInBounds_toArray, List.set_cons_zero, List.set_cons_succ]
              refine wpAnyH_done (by kernel_rfl) ?_ _
              refine And.intro ?_ hHeld
              with_reducible rfl
            case cont1 =>
            intro e a' w5 hq
            obtain ⟨rfl, rfl, hk5⟩ := hq.out
            go_wp2
            go_ret
            exact ⟨rfl, (HK1.out.tr hkj.out).tr hk5⟩
          · have HJ : Hid (∀ x (hx : x < l.length), x < j + 1 → l[x].n ≠ l[k].n) := Hid.mk' (fun x hx h => by
              by_cases q : x < j
              · exact hjs.out x hx q
              · have e : x = j := by omega
                subst e
                exact he)
            have hjm : (j : Int) < m := by omega
            have hkm : (k : Int) < m := by omega
            obtain ⟨z0, hz0⟩ : ∃ z0, l[k].n = z0 := ⟨_, rfl⟩
            obtain ⟨z1, hz1⟩ : ∃ z1, l[j].n = z1 := ⟨_, rfl⟩
            rw [hz0] at hr0 he
            rw [hz1] at hr1 he
            clear hn0 hz0 hz1
            go_wp2
            refine Code.wp_mono (Q := Rbq ?A2 (fun w' => Kept wr w' none)) ?cont2 ?reg2
            case reg2 =>
              repeat (rename_i hh; clear hh)
              refine wp_region_held_drew (S := fun w' => Kept wr w' none) (by kernel_rfl) (kept_drw _ _) (fun hHeld => ?_)
              refine hold_take (i := 0) (v := ?rv12) rfl rfl (by kernel_rfl) (by kernel_rfl) (by kernel_rfl) (fun _ _ _ h => h) (Or.inl ⟨by rfl, ?rhy12⟩) hHeld ?rrest12
              case rhy12 => first | (intro w hSw; (try dsimp only at hSw); go_simp; done) | (intro w hSw; (try dsimp only at hSw); go_simp; with_reducible rfl)
              try simp only [List.setIfInBounds_toArray, List.set_cons_zero, List.set_cons_succ]
              refine hold_take (i := 1) (v := ?rv13) rfl rfl (by kernel_rfl) (by kernel_rfl) (by kernel_rfl) (fun _ _ _ h => h) (Or.inl ⟨by rfl, ?rhy13⟩) hHeld ?rrest13
              case rhy13 => first | (intro w hSw; (try dsimp only at hSw); go_simp; done) | (intro w hSw; (try dsimp only at hSw); go_simp; with_reducible rfl)
              try simp only [List.setIfInBounds_toArray, List.set_cons_zero, List.set_cons_succ]
              refine hold_take (i := 2) (v := ?rv14) rfl rfl (by kernel_rfl) (by kernel_rfl) (by kernel_rfl) (fun _ _ _ h => h) (Or.inl ⟨by rfl, ?rhy14⟩) hHeld ?rrest14
              case rhy14 => first | (intro w hSw; (try dsimp only at hSw); go_simp; done) | (intro w hSw; (try dsimp only at hSw); go_simp; with_reducible rfl)
              try simp only [List.setIfInBounds_toArray, List.set_cons_zero, List.set_cons_succ]
              refine hold_take (i := 3) (v := ?rv15) rfl rfl (by kernel_rfl) (by kernel_rfl) (by kernel_rfl) (fun _ _ _ h => h) (Or.inl ⟨by rfl, ?rhy15⟩) hHeld ?rrest15
              case rhy15 => first | (intro w hSw; (try dsimp only at hSw); go_simp; done) | (intro w hSw; (try dsimp only at hSw); go_simp; with_reducible rfl)
              try simp only [List.setIfInBounds_toArray, List.set_cons_zero, List.set_cons_succ]
              refine hold_take (i := 4) (v := ?rv16) rfl rfl (by kernel_rfl) (by kernel_rfl) (by kernel_rfl) (fun _ _ _ h => h) (Or.inl ⟨by rfl, ?rhy16⟩) hHeld ?rrest16
              case rhy16 => first | (intro w hSw; (try dsimp only at hSw); go_simp; done) | (intro w hSw; (try dsimp only at hSw); go_simp; with_reducible rfl)
              try simp only [List.setIfInBounds_toArray, List.set_cons_zero, List.set_cons_succ]
              refine hold_take (i := 5) (v := ?rv17) rfl rfl (by kernel_rfl) (by kernel_rfl) (by kernel_rfl) (fun _ _ _ h => h) (Or.inl ⟨by rfl, ?rhy17⟩) hHeld ?rrest17
              case rhy17 => first | (intro w hSw; (try dsimp only at hSw); go_simp; done) | (intro w hSw; (try dsimp only at hSw); go_simp; with_reducible rfl)
              try simp only [List.setIfInBounds_toArray, List.set_cons_zero, List.set_cons_succ]
              refine hold_take (i := 6) (v := ?rv18) rfl rfl (by kernel_rfl) (by kernel_rfl) (by kernel_rfl) (fun _ _ _ h => h) (Or.inl ⟨by rfl, ?rhy18⟩) hHeld ?rrest18
              case rhy18 => first | (intro w hSw; (try dsimp only at hSw); go_simp; done) | (intro w hSw; (try dsimp only at hSw); go_simp; with_reducible rfl)
              try simp only [List.setIfInBounds_toArray, List.set_cons_zero, List.set_cons_succ]
              refine hold_take (i := 7) (v := ?rv19) rfl rfl (by kernel_rfl) (by kernel_rfl) (by kernel_rfl) (fun _ _ _ h => h) (Or.inl ⟨by rfl, ?rhy19⟩) hHeld ?rrest19
              case rhy19 => first | (intro w hSw; (try dsimp only at hSw); go_simp; done) | (intro w hSw; (try dsimp only at hSw); go_simp; with_reducible rfl)
              try simp only [List.setIfInBounds_toArray, List.set_cons_zero, List.set_cons_succ]
              refine hold_take (i := 8) (v := ?rv20) rfl rfl (by kernel_rfl) (by kernel_rfl) (by kernel_rfl) (fun _ _ _ h => h) (Or.inl ⟨by rfl, ?rhy20⟩) hHeld ?rrest20
              case rhy20 => first | (intro w hSw; (try dsimp only at hSw); go_simp; done) | (intro w hSw; (try dsimp only at hSw); go_simp; with_reducible rfl)
              try simp only [List.setIfInBounds_toArray, List.set_cons_zero, List.set_cons_succ]
              refine hold_take (i := 9) (v := ?rv21) rfl rfl (by kernel_rfl) (by kernel_rfl) (by kernel_rfl) (fun _ _ _ h => h) (Or.inl ⟨by rfl, ?rhy21⟩) hHeld ?rrest21
              case rhy21 => first | (intro w hSw; (try dsimp only at hSw); go_simp; done) | (intro w hSw; (try dsimp only at hSw); go_simp; with_reducible rfl)
              try simp only [List.setIfInBounds_toArray, List.set_cons_zero, List.set_cons_succ]
              refine hold_take (i := 10) (v := ?rv22) rfl rfl (by kernel_rfl) (by kernel_rfl) (by kernel_rfl) (fun _ _ _ h => h) (Or.inl ⟨by rfl, ?rhy22⟩) hHeld ?rrest22
              case rhy22 => first | (intro w hSw; (try dsimp only at hSw); go_simp; done) | (intro w hSw; (try dsimp only at hSw); go_simp; with_reducible rfl)
              try simp only [List.setIfInBounds_toArray, List.set_cons_zero, List.set_cons_succ]
              refine wpAnyH_done (by kernel_rfl) ?_ _
              refine And.intro ?_ hHeld
              with_reducible rfl
            case cont2 =>
            intro e a' w5 hq
            obtain ⟨rfl, rfl, hk5⟩ := hq.out
            go_wp2
            go_roundw
            case rel => exact ⟨j + 1, by omega, by go_num, HJ, Hid.mk' (hkj.out.tr hk5)⟩
            case measure => simp [intOf]; omega
        · have hjk : j = k := by omega
          subst hjk
          have HA : Hid (Apt l (j + 1)) := Hid.mk' (fun x y hx hy h1 h2 => by
            by_cases q : y < j
            · exact hap.out x y hx hy h1 q
            · have e : y = j := by omega
              subst e
              exact hjs.out x hx h1)
          clear hn0
          go_wp2
          go_roundw
          case rel => exact ⟨j + 1, by omega, by go_num, HA, hkj⟩
          case measure => simp [intOf]; omega
    · have hkm : k = m := by omega
      subst hkm
      have HPw := Hid.mk' (apt_pair (by have := hap.out; rwa [← HS.out] at this))
      have HK2 := Hid.mk' (HK1.out.tr hkr.out)
      have hD2 := HD1.out.kept hkr.out
      have c2 := hD2.c0
      have l2 := hD2.lt
      have HD2 := Hid.mk' hD2
      clear c1 lt1 hD2 hap
      go_wp2_with (go_at_call 13; refine (tell_do (wh := (wh : Int)) (to := 64) lc wr (HC.out.kpt HK2.out) (HP.out.kept HK2.out) HE.out rfl).mono ?_; rintro e w2 ⟨a2, c2, rfl, hc2, hk2⟩)
      obtain ⟨W, hW⟩ : ∃ W, Hid (W = w2.alloc (.cells (dvC a2 n c2) 24)) := ⟨_, Hid.mk' rfl⟩
      have hkA : Kept w2 W none := by rw [hW.out]; exact Kept.alloc _ _ _ _ _
      have HKW := Hid.mk' ((HK2.out.tr hk2).tr hkA)
      have HDW := Hid.mk' ((HD2.out.kept hk2).kept hkA)
      have HXW : Hid (Db W w2.heap.size a2 n c2) := Hid.mk' (by rw [hW.out]; exact db_alloc _ _ _ _ _)
      have HCX := Hid.mk' (hc2.out.kpt hkA)
      rw [← hW.out]
      generalize w2.heap.size = bx_ at HXW ⊢
      clear hkA hW hc2 hk2 HK2 HD2 HD1 HK1 hkr l2 hlt hk
      have hU : ∀ w', Kept W w' none → w'.cell? ⟨w.heap.size, 0, none⟩ = some (.slice a n c) := fun w' hk => (HDW.out.kept hk).c0
      have hX : ∀ w', Kept W w' none → w'.cell? ⟨bx_, 0, none⟩ = some (.slice a2 n c2) := fun w' hk => (HXW.out.kept hk).c0
      go_loopw [14] (fun i wr => ∃ i' : Nat, i' ≤ k ∧ i = .int .i64 i' ∧ Hid (Kept W wr none)) (fun i _ => k - (intOf i).toNat)
      case atStart => exact ⟨0, Nat.zero_le _, rfl, Hid.mk' (Kept.refl _ _)⟩
      case round =>
        obtain ⟨i, hi, rfl, hkq⟩ := hrel
        by_cases hlt : i < k
        · obtain ⟨b, off, rfl, _⟩ := HP.out.at_ (by omega)
          have hil : i < l.length := by rw [HS.out]; exact hlt
          obtain ⟨q1, q2, q3, q4, q5, q6⟩ := torn_math (to := 64) HC.out.by_.size HE.out HPw.out hil
          obtain ⟨ai, ci, hn0, hn1, HCi⟩ := (HP.out.kept HKW.out).get hil
          have hU2 := fun w' (hq : Kept wr w' none) => hU w' (hkq.out.tr hq)
          have hX2 := fun w' (hq : Kept wr w' none) => hX w' (hkq.out.tr hq)
          have hm0 := fun w' (hq : Kept wr w' none) => hn0 w' (hkq.out.tr hq)
          have hm1 := fun w' (hq : Kept wr w' none) => hn1 w' (hkq.out.tr hq)
          have hcap := HCi.out.room
          have hcam := HCi.out.max
          rw [q4] at hm1 hcap HCi
          have hcaI : (64 : Int) ≤ ci := by omega
          clear hn0 hn1
          generalize l[i].n = z at *
          generalize l[i].data = dd at *
          clear hil
          have HQ := Hid.mk' (And.intro q1 (And.intro q2 q3))
          clear q1 q2 q3 q4
          obtain ⟨bi, offi, rfl, _⟩ := HCi.out.by_.at_ (by omega)
          have him : (i : Int) < k := by omega
          have HBc := Hid.mk' (fun w' (hq : Kept wr w' none) => HCi.out.by_.kept (hkq.out.tr hq))
          have HRD := Hid.mk' (fun w' (hq : Kept wr w' none) => torn_read (HC.out.kpt ((HKW.out.tr hkq.out).tr hq)) HCH.out HQ.out.1 HQ.out.2.1 HQ.out.2.2)
          go_wp2
          refine Code.wp_mono (Q := R1 ?A3 (fun g w' => Kept wr w' none ∧ Row w' g (blD L z.toNat))) ?cont3 ?reg3
          case reg3 =>
            repeat (rename_i hh; clear hh)
            refine wp_region_held_drew (S := fun w' => Kept wr w' none) (by kernel_rfl) (kept_drw _ _) (fun hHeld => ?_)
            refine hold_take (i := 0) (v := ?rv121) rfl rfl (by kernel_rfl) (by kernel_rfl) (by kernel_rfl) (fun _ _ _ h => h) (Or.inl ⟨by rfl, ?rhy121⟩) hHeld ?rrest121
            case rhy121 => first | (intro w hSw; (try dsimp only at hSw); go_simp; done) | (intro w hSw; (try dsimp only at hSw); go_simp; with_reducible rfl)
            try simp only [List.setIfInBounds_toArray, List.set_cons_zero, List.set_cons_succ]
            refine hold_take (i := 1) (v := ?rv122) rfl rfl (by kernel_rfl) (by kernel_rfl) (by kernel_rfl) (fun _ _ _ h => h) (Or.inl ⟨by rfl, ?rhy122⟩) hHeld ?rrest122
            case rhy122 => first | (intro w hSw; (try dsimp only at hSw); go_simp; done) | (intro w hSw; (try dsimp only at hSw); go_simp; with_reducible rfl)
            try simp only [List.setIfInBounds_toArray, List.set_cons_zero, List.set_cons_succ]
            refine hold_take (i := 2) (v := ?rv123) rfl rfl (by kernel_rfl) (by kernel_rfl) (by kernel_rfl) (fun _ _ _ h => h) (Or.inl ⟨by rfl, ?rhy123⟩) hHeld ?rrest123
            case rhy123 => first | (intro w hSw; (try dsimp only at hSw); go_simp; done) | (intro w hSw; (try dsimp only at hSw); go_simp; with_reducible rfl)
            try simp only [List.setIfInBounds_toArray, List.set_cons_zero, List.set_cons_succ]
            refine hold_take (i := 3) (v := ?rv124) rfl rfl (by kernel_rfl) (by kernel_rfl) (by kernel_rfl) (fun _ _ _ h => h) (Or.inl ⟨by rfl, ?rhy124⟩) hHeld ?rrest124
            case rhy124 => first | (intro w hSw; (try dsimp only at hSw); go_simp; done) | (intro w hSw; (try dsimp only at hSw); go_simp; with_reducible rfl)
            try simp only [List.setIfInBounds_toArray, List.set_cons_zero, List.set_cons_succ]
            refine hold_take (i := 4) (v := ?rv125) rfl rfl (by kernel_rfl) (by kernel_rfl) (by kernel_rfl) (fun _ _ _ h => h) (Or.inl ⟨by rfl, ?rhy125⟩) hHeld ?rrest125
            case rhy125 => first | (intro w hSw; (try dsimp only at hSw); go_simp; done) | (intro w hSw; (try dsimp only at hSw); go_simp; with_reducible rfl)
            try simp only [List.setIfInBounds_toArray, List.set_cons_zero, List.set_cons_succ]
            refine hold_take (i := 5) (v := ?rv126) rfl rfl (by kernel_rfl) (by kernel_rfl) (by kernel_rfl) (fun _ _ _ h => h) (Or.inl ⟨by rfl, ?rhy126⟩) hHeld ?rrest126
            case rhy126 => first | (intro w hSw; (try dsimp only at hSw); go_simp; done) | (intro w hSw; (try dsimp only at hSw); go_simp; with_reducible rfl)
            try simp only [List.setIfInBounds_toArray, List.set_cons_zero, List.set_cons_succ]
            refine wpAnyH_ready (rs := [6]) (by kernel_rfl) (by simp) ?_
            refine (AllReadyH.cons rfl (fun K hK => ?rz127x6) AllReadyH.nil)
            case rz127x6 =>
              go_simp
              refine (HRD.out wr.drew hHeld).mono ?_
              rintro e wv128 ⟨g, rfl, hr, hk⟩
              dsimp only
              have hnew := hHeld.tr hk
              have HRw := hr
              clear hr
              refine hK.out _ _ hnew (fun hHeld => ?_)
              clear hK K hk hnew
              refine hold_take (i := 7) (v := ?rv129) rfl rfl (by kernel_rfl) (by kernel_rfl) (by kernel_rfl) (fun _ _ _ h => h) (Or.inl ⟨by rfl, ?rhy129⟩) hHeld ?rrest129
              case rhy129 => first | (intro w hSw; (try dsimp only at hSw); go_simp; done) | (intro w hSw; (try dsimp only at hSw); go_simp; with_reducible rfl)
              try simp only [List.setIfInBounds_toArray, List.set_cons_zero, List.set_cons_succ]
              refine hold_take (i := 8) (v := ?rv130) rfl rfl (by kernel_rfl) (by kernel_rfl) (by kernel_rfl) (fun _ _ _ h => h) (Or.inl ⟨by rfl, ?rhy130⟩) hHeld ?rrest130
              case rhy130 => first | (intro w hSw; (try dsimp only at hSw); go_simp; done) | (intro w hSw; (try dsimp only at hSw); go_simp; with_reducible rfl)
              try simp only [List.setIfInBounds_toArray, List.set_cons_zero, List.set_cons_succ]
              refine hold_take (i := 9) (v := ?rv131) rfl rfl (by kernel_rfl) (by kernel_rfl) (by kernel_rfl) (fun _ _ _ h => h) (Or.inl ⟨by rfl, ?rhy131⟩) hHeld ?rrest131
              case rhy131 => first | (intro w hSw; (try dsimp only at hSw); go_simp; done) | (intro w hSw; (try dsimp only at hSw); go_simp; with_reducible rfl)
              try simp only [List.setIfInBounds_toArray, List.set_cons_zero, List.set_cons_succ]
              refine hold_take (i := 10) (v := ?rv132) rfl rfl (by kernel_rfl) (by kernel_rfl) (by kernel_rfl) (fun _ _ _ h => h) (Or.inl ⟨by rfl, ?rhy132⟩) hHeld ?rrest132
              case rhy132 => first | (intro w hSw; (try dsimp only at hSw); go_simp; done) | (intro w hSw; (try dsimp only at hSw); go_simp; with_reducible rfl)
              try simp only [List.setIfInBounds_toArray, List.set_cons_zero, List.set_cons_succ]
              refine hold_take (i := 11) (v := ?rv133) rfl rfl (by kernel_rfl) (by kernel_rfl) (by kernel_rfl) (fun _ _ _ h => h) (Or.inl ⟨by rfl, ?rhy133⟩) hHeld ?rrest133
              case rhy133 => first | (intro w hSw; (try dsimp only at hSw); go_simp; done) | (intro w hSw; (try dsimp only at hSw); go_simp; with_reducible rfl)
              try simp only [List.setIfInBounds_toArray, List.set_cons_zero, List.set_cons_succ]
              refine wpAnyH_done (by kernel_rfl) ?_ _
              refine ⟨g, ?_, hHeld, HRw.out⟩
              with_reducible rfl
          case cont3 =>
          intro e a' w3 hq
          obtain ⟨rfl, g1, rfl, hk3, hr3⟩ := hq.out
          have hX3 := fun w' (hq : Kept w3 w' none) => hX2 w' (hk3.tr hq)
          have hn3 := fun w' (hq : Kept w3 w' none) => hm0 w' (hk3.tr hq)
          have HXD := Hid.mk' (fun w' (hq : Kept w3 w' none) => torn_read (HCX.out.kpt ((hkq.out.tr hk3).tr hq)) HCH.out HQ.out.1 HQ.out.2.1 HQ.out.2.2)
          have HK3 := Hid.mk' hk3
          have HR3 := Hid.mk' hr3
          clear hU2 hX2 hm0 hk3 hr3
          go_wp2
          refine Code.wp_mono (Q := R1 ?A4 (fun g w' => Kept w3 w' none ∧ Row w' g (blD (doL L l wh 64) z.toNat))) ?cont4 ?reg4
          case reg4 =>
            repeat (rename_i hh; clear hh)
            refine wp_region_held_drew (S := fun w' => Kept w3 w' none) (by kernel_rfl) (kept_drw _ _) (fun hHeld => ?_)
            refine hold_take (i := 0) (v := ?rv134) rfl rfl (by kernel_rfl) (by kernel_rfl) (by kernel_rfl) (fun _ _ _ h => h) (Or.inl ⟨by rfl, ?rhy134⟩) hHeld ?rrest134
            case rhy134 => first | (intro w hSw; (try dsimp only at hSw); go_simp; done) | (intro w hSw; (try dsimp only at hSw); go_simp; with_reducible rfl)
            try simp only [List.setIfInBounds_toArray, List.set_cons_zero, List.set_cons_succ]
            refine hold_take (i := 1) (v := ?rv135) rfl rfl (by kernel_rfl) (by kernel_rfl) (by kernel_rfl) (fun _ _ _ h => h) (Or.inl ⟨by rfl, ?rhy135⟩) hHeld ?rrest135
            case rhy135 => first | (intro w hSw; (try dsimp only at hSw); go_simp; done) | (intro w hSw; (try dsimp only at hSw); go_simp; with_reducible rfl)
            try simp only [List.setIfInBounds_toArray, List.set_cons_zero, List.set_cons_succ]
            refine hold_take (i := 2) (v := ?rv136) rfl rfl (by kernel_rfl) (by kernel_rfl) (by kernel_rfl) (fun _ _ _ h => h) (Or.inl ⟨by rfl, ?rhy136⟩) hHeld ?rrest136
            case rhy136 => first | (intro w hSw; (try dsimp only at hSw); go_simp; done) | (intro w hSw; (try dsimp only at hSw); go_simp; with_reducible rfl)
            try simp only [List.setIfInBounds_toArray, List.set_cons_zero, List.set_cons_succ]
            refine hold_take (i := 3) (v := ?rv137) rfl rfl (by kernel_rfl) (by kernel_rfl) (by kernel_rfl) (fun _ _ _ h => h) (Or.inl ⟨by rfl, ?rhy137⟩) hHeld ?rrest137
            case rhy137 => first | (intro w hSw; (try dsimp only at hSw); go_simp; done) | (intro w hSw; (try dsimp only at hSw); go_simp; with_reducible rfl)
            try simp only [List.setIfInBounds_toArray, List.set_cons_zero, List.set_cons_succ]
            refine hold_take (i := 4) (v := ?rv138) rfl rfl (by kernel_rfl) (by kernel_rfl) (by kernel_rfl) (fun _ _ _ h => h) (Or.inl ⟨by rfl, ?rhy138⟩) hHeld ?rrest138
            case rhy138 => first | (intro w hSw; (try dsimp only at hSw); go_simp; done) | (intro w hSw; (try dsimp only at hSw); go_simp; with_reducible rfl)
            try simp only [List.setIfInBounds_toArray, List.set_cons_zero, List.set_cons_succ]
            refine hold_take (i := 5) (v := ?rv139) rfl rfl (by kernel_rfl) (by kernel_rfl) (by kernel_rfl) (fun _ _ _ h => h) (Or.inl ⟨by rfl, ?rhy139⟩) hHeld ?rrest139
            case rhy139 => first | (intro w hSw; (try dsimp only at hSw); go_simp; done) | (intro w hSw; (try dsimp only at hSw); go_simp; with_reducible rfl)
            try simp only [List.setIfInBounds_toArray, List.set_cons_zero, List.set_cons_succ]
            refine wpAnyH_ready (rs := [6]) (by kernel_rfl) (by simp) ?_
            refine (AllReadyH.cons rfl (fun K hK => ?rz140x6) AllReadyH.nil)
            case rz140x6 =>
              go_simp
              refine (HXD.out w3.drew hHeld).mono ?_
              rintro e wv141 ⟨g, rfl, hr, hk⟩
              dsimp only
              have hnew := hHeld.tr hk
              have HRw := hr
              clear hr
              refine hK.out _ _ hnew (fun hHeld => ?_)
              clear hK K hk hnew
              refine hold_take (i := 7) (v := ?rv142) rfl rfl (by kernel_rfl) (by kernel_rfl) (by kernel_rfl) (fun _ _ _ h => h) (Or.inl ⟨by rfl, ?rhy142⟩) hHeld ?rrest142
              case rhy142 => first | (intro w hSw; (try dsimp only at hSw); go_simp; done) | (intro w hSw; (try dsimp only at hSw); go_simp; with_reducible rfl)
              try simp only [List.setIfInBounds_toArray, List.set_cons_zero, List.set_cons_succ]
              refine hold_take (i := 8) (v := ?rv143) rfl rfl (by kernel_rfl) (by kernel_rfl) (by kernel_rfl) (fun _ _ _ h => h) (Or.inl ⟨by rfl, ?rhy143⟩) hHeld ?rrest143
              case rhy143 => first | (intro w hSw; (try dsimp only at hSw); go_simp; done) | (intro w hSw; (try dsimp only at hSw); go_simp; with_reducible rfl)
              try simp only [List.setIfInBounds_toArray, List.set_cons_zero, List.set_cons_succ]
              refine hold_take (i := 9) (v := ?rv144) rfl rfl (by kernel_rfl) (by kernel_rfl) (by kernel_rfl) (fun _ _ _ h => h) (Or.inl ⟨by rfl, ?rhy144⟩) hHeld ?rrest144
              case rhy144 => first | (intro w hSw; (try dsimp only at hSw); go_simp; done) | (intro w hSw; (try dsimp only at hSw); go_simp; with_reducible rfl)
              try simp only [List.setIfInBounds_toArray, List.set_cons_zero, List.set_cons_succ]
              refine hold_take (i := 10) (v := ?rv145) rfl rfl (by kernel_rfl) (by kernel_rfl) (by kernel_rfl) (fun _ _ _ h => h) (Or.inl ⟨by rfl, ?rhy145⟩) hHeld ?rrest145
              case rhy145 => first | (intro w hSw; (try dsimp only at hSw); go_simp; done) | (intro w hSw; (try dsimp only at hSw); go_simp; with_reducible rfl)
              try simp only [List.setIfInBounds_toArray, List.set_cons_zero, List.set_cons_succ]
              refine hold_take (i := 11) (v := ?rv146) rfl rfl (by kernel_rfl) (by kernel_rfl) (by kernel_rfl) (fun _ _ _ h => h) (Or.inl ⟨by rfl, ?rhy146⟩) hHeld ?rrest146
              case rhy146 => first | (intro w hSw; (try dsimp only at hSw); go_simp; done) | (intro w hSw; (try dsimp only at hSw); go_simp; with_reducible rfl)
              try simp only [List.setIfInBounds_toArray, List.set_cons_zero, List.set_cons_succ]
              refine wpAnyH_done (by kernel_rfl) ?_ _
              refine ⟨g, ?_, hHeld, HRw.out⟩
              with_reducible rfl
          case cont4 =>
          intro e a' w4 hq
          obtain ⟨rfl, g2, rfl, hk4, hr4⟩ := hq.out
          have hn1 := fun w' (hq : Kept w4 w' none) => hm1 w' ((HK3.out.tr hk4).tr hq)
          have hlz : (blD L z.toNat).length = 64 := blD_len (by have := HC.out.by_.size; have := HQ.out; omega)
          have hlx : (blD (doL L l wh 64) z.toNat).length = 64 := blD_len (by have := (doL_yes HC.out.by_.size HE.out).2; have := HQ.out; omega)
          have HBw := Hid.mk' (fun w' (hq : Kept w4 w' none) => (((HR3.out.kept hk4 (by simp)).kept hq (by simp)).cm 64 hlz (by omega) (blD_lt HC.out.by_.lt _)).by_)
          have HBn := Hid.mk' (fun w' (hq : Kept w4 w' none) => ((hr4.kept hq (by simp)).cm 64 hlx (by omega) (blD_lt HCX.out.by_.lt _)).by_)
          have HBd := Hid.mk' (fun w' (hq : Kept w4 w' none) => HBc.out w' ((HK3.out.tr hk4).tr hq))
          have HK4 := Hid.mk' ((hkq.out.tr HK3.out).tr hk4)
          generalize blD L z.toNat = was at *
          generalize blD (doL L l wh 64) z.toNat = now at *
          have c4 := hm1 w4 (HK3.out.tr hk4)
          clear hX3 hn3 hm1 hlz hlx hr4 hk4 HK3 HR3 hX hU
          by_cases hlo : i < wh
          · have hlo' : (i : Int) < wh := by omega
            have hne' : ¬ (i : Int) = wh := by omega
            rw [dn_lo hlo] at q5 q6
            have e1 : now = dd := by rw [List.take_of_length_le (by have := (HBn.out w4 (Kept.refl _ _)).size; omega), List.take_of_length_le (by have := (HBd.out w4 (Kept.refl _ _)).size; omega)] at q5; exact q5
            subst e1
            clear q5 q6
            have hT1 : ∀ w', Kept w4 w' none → (convert 22 9 (.slice (some ⟨g2, 0, none⟩) 64 64)).run Try.prog w' = .ok (.string (textOf now)) w' := fun w' hq => run_text (HBn.out w' hq) _
            have hT2 : ∀ w', Kept w4 w' none → (convert 22 9 (.slice (some ⟨bi, offi, none⟩) 64 ci)).run Try.prog w' = .ok (.string (textOf now)) w' := fun w' hq => run_text (HBd.out w' hq) _
            have hT3 : ∀ w', Kept w4 w' none → (convert 22 9 (.slice (some ⟨g2, 0, none⟩) 0 0)).run Try.prog w' = .ok (.string (textOf [])) w' := fun w' hq => run_text (By.nil _ _) _
            have hT4 : ∀ w', Kept w4 w' none → (convert 22 9 (.slice (some ⟨g1, 0, none⟩) 0 0)).run Try.prog w' = .ok (.string (textOf [])) w' := fun w' hq => run_text (By.nil _ _) _
            go_wp2
            refine Code.wp_mono (Q := Rbq ?A5 (fun w' => Kept w4 w' none)) ?cont5 ?reg5
            case reg5 =>
              repeat (rename_i hh; clear hh)
              refine wp_region_held_drew (S := fun w' => Kept w4 w' none) (by kernel_rfl) (kept_drw _ _) (fun hHeld => ?_)
              refine hold_take (i := 0) (v := ?rv147) rfl rfl (by kernel_rfl) (by kernel_rfl) (by kernel_rfl) (fun _ _ _ h => h) (Or.inl ⟨by rfl, ?rhy147⟩) hHeld ?rrest147
              case rhy147 => first | (intro w hSw; (try dsimp only at hSw); go_simp; done) | (intro w hSw; (try dsimp only at hSw); go_simp; with_reducible rfl)
              try simp only [List.setIfInBounds_toArray, List.set_cons_zero, List.set_cons_succ]
              refine hold_take (i := 1) (v := ?rv148) rfl rfl (by kernel_rfl) (by kernel_rfl) (by kernel_rfl) (fun _ _ _ h => h) (Or.inl ⟨by rfl, ?rhy148⟩) hHeld ?rrest148
              case rhy148 => first | (intro w hSw; (try dsimp only at hSw); go_simp; done) | (intro w hSw; (try dsimp only at hSw); go_simp; with_reducible rfl)
              try simp only [List.setIfInBounds_toArray, List.set_cons_zero, List.set_cons_succ]
              refine hold_take (i := 2) (v := ?rv149) rfl rfl (by kernel_rfl) (by kernel_rfl) (by kernel_rfl) (fun _ _ _ h => h) (Or.inl ⟨by rfl, ?rhy149⟩) hHeld ?rrest149
              case rhy149 => first | (intro w hSw; (try dsimp only at hSw); go_simp; done) | (intro w hSw; (try dsimp only at hSw); go_simp; with_reducible rfl)
              try simp only [List.setIfInBounds_toArray, List.set_cons_zero, List.set_cons_succ]
              refine hold_take (i := 3) (v := ?rv150) rfl rfl (by kernel_rfl) (by kernel_rfl) (by kernel_rfl) (fun _ _ _ h => h) (Or.inl ⟨by rfl, ?rhy150⟩) hHeld ?rrest150
              case rhy150 => first | (intro w hSw; (try dsimp only at hSw); go_simp; done) | (intro w hSw; (try dsimp only at hSw); go_simp; with_reducible rfl)
              try simp only [List.setIfInBounds_toArray, List.set_cons_zero, List.set_cons_succ]
              refine hold_take (i := 4) (v := ?rv151) rfl rfl (by kernel_rfl) (by kernel_rfl) (by kernel_rfl) (fun _ _ _ h => h) (Or.inl ⟨by rfl, ?rhy151⟩) hHeld ?rrest151
              case rhy151 => first | (intro w hSw; (try dsimp only at hSw); go_simp; done) | (intro w hSw; (try dsimp only at hSw); go_simp; with_reducible rfl)
              try simp only [List.setIfInBounds_toArray, List.set_cons_zero, List.set_cons_succ]
              refine hold_take (i := 5) (v := ?rv152) rfl rfl (by kernel_rfl) (by kernel_rfl) (by kernel_rfl) (fun _ _ _ h => h) (Or.inl ⟨by rfl, ?rhy152⟩) hHeld ?rrest152
              case rhy152 => first | (intro w hSw; (try dsimp only at hSw); go_simp; done) | (intro w hSw; (try dsimp only at hSw); go_simp; with_reducible rfl)
              try simp only [List.setIfInBounds_toArray, List.set_cons_zero, List.set_cons_succ]
              refine hold_take (i := 6) (v := ?rv153) rfl rfl (by kernel_rfl) (by kernel_rfl) (by kernel_rfl) (fun _ _ _ h => h) (Or.inl ⟨by rfl, ?rhy153⟩) hHeld ?rrest153
              case rhy153 => first | (intro w hSw; (try dsimp only at hSw); go_simp; done) | (intro w hSw; (try dsimp only at hSw); go_simp; with_reducible rfl)
              try simp only [List.setIfInBounds_toArray, List.set_cons_zero, List.set_cons_succ]
              refine hold_take (i := 7) (v := ?rv154) rfl rfl (by kernel_rfl) (by kernel_rfl) (by kernel_rfl) (fun _ _ _ h => h) (Or.inl ⟨by rfl, ?rhy154⟩) hHeld ?rrest154
              case rhy154 => first | (intro w hSw; (try dsimp only at hSw); go_simp; done) | (intro w hSw; (try dsimp only at hSw); go_simp; with_reducible rfl)
              try simp only [List.setIfInBounds_toArray, List.set_cons_zero, List.set_cons_succ]
              refine hold_take (i := 8) (v := ?rv155) rfl rfl (by kernel_rfl) (by kernel_rfl) (by kernel_rfl) (fun _ _ _ h => h) (Or.inl ⟨by rfl, ?rhy155⟩) hHeld ?rrest155
              case rhy155 => first | (intro w hSw; (try dsimp only at hSw); go_simp; done) | (intro w hSw; (try dsimp only at hSw); go_simp; with_reducible rfl)
              try simp only [List.setIfInBounds_toArray, List.set_cons_zero, List.set_cons_succ]
              refine hold_take (i := 9) (v := ?rv156) rfl rfl (by kernel_rfl) (by kernel_rfl) (by kernel_rfl) (fun _ _ _ h => h) (Or.inl ⟨by rfl, ?rhy156⟩) hHeld ?rrest156
              case rhy156 => first | (intro w hSw; (try dsimp only at hSw); go_simp; done) | (intro w hSw; (try dsimp only at hSw); go_simp; with_reducible rfl)
              try simp only [List.setIfInBounds_toArray, List.set_cons_zero, List.set_cons_succ]
              refine hold_take (i := 10) (v := ?rv157) rfl rfl (by kernel_rfl) (by kernel_rfl) (by kernel_rfl) (fun _ _ _ h => h) (Or.inl ⟨by rfl, ?rhy157⟩) hHeld ?rrest157
              case rhy157 => first | (intro w hSw; (try dsimp only at hSw); go_simp; done) | (intro w hSw; (try dsimp only at hSw); go_simp; with_reducible rfl)
              try simp only [List.setIfInBounds_toArray, List.set_cons_zero, List.set_cons_succ]
              refine hold_take (i := 11) (v := ?rv158) rfl rfl (by kernel_rfl) (by kernel_rfl) (by kernel_rfl) (fun _ _ _ h => h) (Or.inl ⟨by rfl, ?rhy158⟩) hHeld ?rrest158
              case rhy158 => first | (intro w hSw; (try dsimp only at hSw); go_simp; done) | (intro w hSw; (try dsimp only at hSw); go_simp; with_reducible rfl)
              try simp only [List.setIfInBounds_toArray, List.set_cons_zero, List.set_cons_succ]
              refine hold_take (i := 12) (v := ?rv159) rfl rfl (by kernel_rfl) (by kernel_rfl) (by kernel_rfl) (fun _ _ _ h => h) (Or.inl ⟨by rfl, ?rhy159⟩) hHeld ?rrest159
              case rhy159 => first | (intro w hSw; (try dsimp only at hSw); go_simp; done) | (intro w hSw; (try dsimp only at hSw); go_simp; with_reducible rfl)
              try simp only [List.setIfInBounds_toArray, List.set_cons_zero, List.set_cons_succ]
              refine hold_take (i := 13) (v := ?rv160) rfl rfl (by kernel_rfl) (by kernel_rfl) (by kernel_rfl) (fun _ _ _ h => h) (Or.inl ⟨by rfl, ?rhy160⟩) hHeld ?rrest160
              case rhy160 => first | (intro w hSw; (try dsimp only at hSw); go_simp; done) | (intro w hSw; (try dsimp only at hSw); go_simp; with_reducible rfl)
              try simp only [List.setIfInBounds_toArray, List.set_cons_zero, List.set_cons_succ]
              refine hold_take (i := 14) (v := ?rv161) rfl rfl (by kernel_rfl) (by kernel_rfl) (by kernel_rfl) (fun _ _ _ h => h) (Or.inl ⟨by rfl, ?rhy161⟩) hHeld ?rrest161
              case rhy161 => first | (intro w hSw; (try dsimp only at hSw); go_simp; done) | (intro w hSw; (try dsimp only at hSw); go_simp; with_reducible rfl)
              try simp only [List.setIfInBounds_toArray, List.set_cons_zero, List.set_cons_succ]
              refine hold_take (i := 15) (v := ?rv162) rfl rfl (by kernel_rfl) (by kernel_rfl) (by kernel_rfl) (fun _ _ _ h => h) (Or.inl ⟨by rfl, ?rhy162⟩) hHeld ?rrest162
              case rhy162 => first | (intro w hSw; (try dsimp only at hSw); go_simp; done) | (intro w hSw; (try dsimp only at hSw); go_simp; with_reducible rfl)
              try simp only [List.setIfInBounds_toArray, List.set_cons_zero, List.set_cons_succ]
              refine hold_take (i := 16) (v := ?rv163) rfl rfl (by kernel_rfl) (by kernel_rfl) (by kernel_rfl) (fun _ _ _ h => h) (Or.inl ⟨by rfl, ?rhy163⟩) hHeld ?rrest163
              case rhy163 => first | (intro w hSw; (try dsimp only at hSw); go_simp; done) | (intro w hSw; (try dsimp only at hSw); go_simp; with_reducible rfl)
              try simp only [List.setIfInBounds_toArray, List.set_cons_zero, List.set_cons_succ]
              refine hold_take (i := 17) (v := ?rv164) rfl rfl (by kernel_rfl) (by kernel_rfl) (by kernel_rfl) (fun _ _ _ h => h) (Or.inl ⟨by rfl, ?rhy164⟩) hHeld ?rrest164
              case rhy164 => first | (intro w hSw; (try dsimp only at hSw); go_simp; done) | (intro w hSw; (try dsimp only at hSw); go_simp; with_reducible rfl)
              try simp only [List.setIfInBounds_toArray, List.set_cons_zero, List.set_cons_succ]
              refine hold_take (i := 18) (v := ?rv165) rfl rfl (by kernel_rfl) (by kernel_rfl) (by kernel_rfl) (fun _ _ _ h => h) (Or.inl ⟨by rfl, ?rhy165⟩) hHeld ?rrest165
              case rhy165 => first | (intro w hSw; (try dsimp only at hSw); go_simp; done) | (intro w hSw; (try dsimp only at hSw); go_simp; with_reducible rfl)
              try simp only [List.setIfInBounds_toArray, List.set_cons_zero, List.set_cons_succ]
              refine hold_take (i := 19) (v := ?rv166) rfl rfl (by kernel_rfl) (by kernel_rfl) (by kernel_rfl) (fun _ _ _ h => h) (Or.inl ⟨by rfl, ?rhy166⟩) hHeld ?rrest166
              case rhy166 => first | (intro w hSw; (try dsimp only at hSw); go_simp; done) | (intro w hSw; (try dsimp only at hSw); go_simp; with_reducible rfl)
              try simp only [List.setIfInBounds_toArray, List.set_cons_zero, List.set_cons_succ]
              refine hold_take (i := 20) (v := ?rv167) rfl rfl (by kernel_rfl) (by kernel_rfl) (by kernel_rfl) (fun _ _ _ h => h) (Or.inl ⟨by rfl, ?rhy167⟩) hHeld ?rrest167
              case rhy167 => first | (intro w hSw; (try dsimp only at hSw); go_simp; done) | (intro w hSw; (try dsimp only at hSw); go_simp; with_reducible rfl)
              try simp only [List.setIfInBounds_toArray, List.set_cons_zero, List.set_cons_succ]
              refine hold_take (i := 21) (v := ?rv168) rfl rfl (by kernel_rfl) (by kernel_rfl) (by kernel_rfl) (fun _ _ _ h => h) (Or.inl ⟨by rfl, ?rhy168⟩) hHeld ?rrest168
              case rhy168 => first | (intro w hSw; (try dsimp only at hSw); go_simp; done) | (intro w hSw; (try dsimp only at hSw); go_simp; with_reducible rfl)
              try simp only [List.setIfInBounds_toArray, List.set_cons_zero, List.set_cons_succ]
              refine hold_take (i := 22) (v := ?rv169) rfl rfl (by kernel_rfl) (by kernel_rfl) (by kernel_rfl) (fun _ _ _ h => h) (Or.inl ⟨by rfl, ?rhy169⟩) hHeld ?rrest169
              case rhy169 => first | (intro w hSw; (try dsimp only at hSw); go_simp; done) | (intro w hSw; (try dsimp only at hSw); go_simp; with_reducible rfl)
              try simp only [List.setIfInBounds_toArray, List.set_cons_zero, List.set_cons_succ]
              refine hold_take (i := 23) (v := ?rv170) rfl rfl (by kernel_rfl) (by kernel_rfl) (by kernel_rfl) (fun _ _ _ h => h) (Or.inl ⟨by rfl, ?rhy170⟩) hHeld ?rrest170
              case rhy170 => first | (intro w hSw; (try dsimp only at hSw); go_simp; done) | (intro w hSw; (try dsimp only at hSw); go_simp; with_reducible rfl)
              try simp only [List.setIfInBounds_toArray, List.set_cons_zero, List.set_cons_succ]
              refine wpAnyH_done (by kernel_rfl) ?_ _
              refine And.intro ?_ hHeld
              with_reducible rfl
            case cont5 =>
            intro e a' w5 hq
            obtain ⟨rfl, rfl, hk5⟩ := hq.out
            go_wp2
            go_roundw
            case rel => exact ⟨i + 1, by omega, by go_num, Hid.mk' (HK4.out.tr hk5)⟩
            case measure => simp [intOf]; omega
          · have hlo' : ¬ (i : Int) < wh := by omega
            by_cases hat : i = wh
            · subst hat
              rw [dn_at i 64] at q5 q6
              have e1 : now = dd := by rw [List.take_of_length_le (by have := (HBn.out w4 (Kept.refl _ _)).size; omega), List.take_of_length_le (by have := (HBd.out w4 (Kept.refl _ _)).size; omega)] at q5; exact q5
              subst e1
              clear q5 q6
              have hT1 : ∀ w', Kept w4 w' none → (convert 22 9 (.slice (some ⟨g2, 0, none⟩) 64 64)).run Try.prog w' = .ok (.string (textOf now)) w' := fun w' hq => run_text (HBn.out w' hq) _
              have hT2 : ∀ w', Kept w4 w' none → (convert 22 9 (.slice (some ⟨bi, offi, none⟩) 64 ci)).run Try.prog w' = .ok (.string (textOf now)) w' := fun w' hq => run_text (HBd.out w' hq) _
              have hT3 : ∀ w', Kept w4 w' none → (convert 22 9 (.slice (some ⟨g2, 0, none⟩) 0 0)).run Try.prog w' = .ok (.string (textOf [])) w' := fun w' hq => run_text (By.nil _ _) _
              have hT4 : ∀ w', Kept w4 w' none → (convert 22 9 (.slice (some ⟨g1, 0, none⟩) 0 0)).run Try.prog w' = .ok (.string (textOf [])) w' := fun w' hq => run_text (By.nil _ _) _
              go_wp2
              refine Code.wp_mono (Q := Rbq ?A6 (fun w' => Kept w4 w' none)) ?cont6 ?reg6
              case reg6 =>
                repeat (rename_i hh; clear hh)
                refine wp_region_held_drew (S := fun w' => Kept w4 w' none) (by kernel_rfl) (kept_drw _ _) (fun hHeld => ?_)
                refine hold_take (i := 0) (v := ?rv171) rfl rfl (by kernel_rfl) (by kernel_rfl) (by kernel_rfl) (fun _ _ _ h => h) (Or.inl ⟨by rfl, ?rhy171⟩) hHeld ?rrest171
                case rhy171 => first | (intro w hSw; (try dsimp only at hSw); go_simp; done) | (intro w hSw; (try dsimp only at hSw); go_simp; with_reducible rfl)
                try simp only [List.setIfInBounds_toArray, List.set_cons_zero, List.set_cons_succ]
                refine hold_take (i := 1) (v := ?rv172) rfl rfl (by kernel_rfl) (by kernel_rfl) (by kernel_rfl) (fun _ _ _ h => h) (Or.inl ⟨by rfl, ?rhy172⟩) hHeld ?rrest172
                case rhy172 => first | (intro w hSw; (try dsimp only at hSw); go_simp; done) | (intro w hSw; (try dsimp only at hSw); go_simp; with_reducible rfl)
                try simp only [List.setIfInBounds_toArray, List.set_cons_zero, List.set_cons_succ]
                refine hold_take (i := 2) (v := ?rv173) rfl rfl (by kernel_rfl) (by kernel_rfl) (by kernel_rfl) (fun _ _ _ h => h) (Or.inl ⟨by rfl, ?rhy173⟩) hHeld ?rrest173
                case rhy173 => first | (intro w hSw; (try dsimp only at hSw); go_simp; done) | (intro w hSw; (try dsimp only at hSw); go_simp; with_reducible rfl)
                try simp only [List.setIfInBounds_toArray, List.set_cons_zero, List.set_cons_succ]
                refine hold_take (i := 3) (v := ?rv174) rfl rfl (by kernel_rfl) (by kernel_rfl) (by kernel_rfl) (fun _ _ _ h => h) (Or.inl ⟨by rfl, ?rhy174⟩) hHeld ?rrest174
                case rhy174 => first | (intro w hSw; (try dsimp only at hSw); go_simp; done) | (intro w hSw; (try dsimp only at hSw); go_simp; with_reducible rfl)
                try simp only [List.setIfInBounds_toArray, List.set_cons_zero, List.set_cons_succ]
                refine hold_take (i := 4) (v := ?rv175) rfl rfl (by kernel_rfl) (by kernel_rfl) (by kernel_rfl) (fun _ _ _ h => h) (Or.inl ⟨by rfl, ?rhy175⟩) hHeld ?rrest175
                case rhy175 => first | (intro w hSw; (try dsimp only at hSw); go_simp; done) | (intro w hSw; (try dsimp only at hSw); go_simp; with_reducible rfl)
                try simp only [List.setIfInBounds_toArray, List.set_cons_zero, List.set_cons_succ]
                refine hold_take (i := 5) (v := ?rv176) rfl rfl (by kernel_rfl) (by kernel_rfl) (by kernel_rfl) (fun _ _ _ h => h) (Or.inl ⟨by rfl, ?rhy176⟩) hHeld ?rrest176
                case rhy176 => first | (intro w hSw; (try dsimp only at hSw); go_simp; done) | (intro w hSw; (try dsimp only at hSw); go_simp; with_reducible rfl)
                try simp only [List.setIfInBounds_toArray, List.set_cons_zero, List.set_cons_succ]
                refine hold_take (i := 6) (v := ?rv177) rfl rfl (by kernel_rfl) (by kernel_rfl) (by kernel_rfl) (fun _ _ _ h => h) (Or.inl ⟨by rfl, ?rhy177⟩) hHeld ?rrest177
                case rhy177 => first | (intro w hSw; (try dsimp only at hSw); go_simp; done) | (intro w hSw; (try dsimp only at hSw); go_simp; with_reducible rfl)
                try simp only [List.setIfInBounds_toArray, List.set_cons_zero, List.set_cons_succ]
                refine hold_take (i := 7) (v := ?rv178) rfl rfl (by kernel_rfl) (by kernel_rfl) (by kernel_rfl) (fun _ _ _ h => h) (Or.inl ⟨by rfl, ?rhy178⟩) hHeld ?rrest178
                case rhy178 => first | (intro w hSw; (try dsimp only at hSw); go_simp; done) | (intro w hSw; (try dsimp only at hSw); go_simp; with_reducible rfl)
                try simp only [List.setIfInBounds_toArray, List.set_cons_zero, List.set_cons_succ]
                refine hold_take (i := 8) (v := ?rv179) rfl rfl (by kernel_rfl) (by kernel_rfl) (by kernel_rfl) (fun _ _ _ h => h) (Or.inl ⟨by rfl, ?rhy179⟩) hHeld ?rrest179
                case rhy179 => first | (intro w hSw; (try dsimp only at hSw); go_simp; done) | (intro w hSw; (try dsimp only at hSw); go_simp; with_reducible rfl)
                try simp only [List.setIfInBounds_toArray, List.set_cons_zero, List.set_cons_succ]
                refine hold_take (i := 9) (v := ?rv180) rfl rfl (by kernel_rfl) (by kernel_rfl) (by kernel_rfl) (fun _ _ _ h => h) (Or.inl ⟨by rfl, ?rhy180⟩) hHeld ?rrest180
                case rhy180 => first | (intro w hSw; (try dsimp only at hSw); go_simp; done) | (intro w hSw; (try dsimp only at hSw); go_simp; with_reducible rfl)
                try simp only [List.setIfInBounds_toArray, List.set_cons_zero, List.set_cons_succ]
                refine hold_take (i := 10) (v := ?rv181) rfl rfl (by kernel_rfl) (by kernel_rfl) (by kernel_rfl) (fun _ _ _ h => h) (Or.inl ⟨by rfl, ?rhy181⟩) hHeld ?rrest181
                case rhy181 => first | (intro w hSw; (try dsimp only at hSw); go_simp; done) | (intro w hSw; (try dsimp only at hSw); go_simp; with_reducible rfl)
                try simp only [List.setIfInBounds_toArray, List.set_cons_zero, List.set_cons_succ]
                refine hold_take (i := 11) (v := ?rv182) rfl rfl (by kernel_rfl) (by kernel_rfl) (by kernel_rfl) (fun _ _ _ h => h) (Or.inl ⟨by rfl, ?rhy182⟩) hHeld ?rrest182
                case rhy182 => first | (intro w hSw; (try dsimp only at hSw); go_simp; done) | (intro w hSw; (try dsimp only at hSw); go_simp; with_reducible rfl)
                try simp only [List.setIfInBounds_toArray, List.set_cons_zero, List.set_cons_succ]
                refine hold_take (i := 12) (v := ?rv183) rfl rfl (by kernel_rfl) (by kernel_rfl) (by kernel_rfl) (fun _ _ _ h => h) (Or.inl ⟨by rfl, ?rhy183⟩) hHeld ?rrest183
                case rhy183 => first | (intro w hSw; (try dsimp only at hSw); go_simp; done) | (intro w hSw; (try dsimp only at hSw); go_simp; with_reducible rfl)
                try simp only [List.setIfInBounds_toArray, List.set_cons_zero, List.set_cons_succ]
                refine hold_take (i := 13) (v := ?rv184) rfl rfl (by kernel_rfl) (by kernel_rfl) (by kernel_rfl) (fun _ _ _ h => h) (Or.inl ⟨by rfl, ?rhy184⟩) hHeld ?rrest184
                case rhy184 => first | (intro w hSw; (try dsimp only at hSw); go_simp; done) | (intro w hSw; (try dsimp only at hSw); go_simp; with_reducible rfl)
                try simp only [List.setIfInBounds_toArray, List.set_cons_zero, List.set_cons_succ]
                refine hold_take (i := 14) (v := ?rv185) rfl rfl (by kernel_rfl) (by kernel_rfl) (by kernel_rfl) (fun _ _ _ h => h) (Or.inl ⟨by rfl, ?rhy185⟩) hHeld ?rrest185
                case rhy185 => first | (intro w hSw; (try dsimp only at hSw); go_simp; done) | (intro w hSw; (try dsimp only at hSw); go_simp; with_reducible rfl)
                try simp only [List.setIfInBounds_toArray, List.set_cons_zero, List.set_cons_succ]
                refine hold_take (i := 15) (v := ?rv186) rfl rfl (by kernel_rfl) (by kernel_rfl) (by kernel_rfl) (fun _ _ _ h => h) (Or.inl ⟨by rfl, ?rhy186⟩) hHeld ?rrest186
                case rhy186 => first | (intro w hSw; (try dsimp only at hSw); go_simp; done) | (intro w hSw; (try dsimp only at hSw); go_simp; with_reducible rfl)
                try simp only [List.setIfInBounds_toArray, List.set_cons_zero, List.set_cons_succ]
                refine hold_take (i := 16) (v := ?rv187) rfl rfl (by kernel_rfl) (by kernel_rfl) (by kernel_rfl) (fun _ _ _ h => h) (Or.inl ⟨by rfl, ?rhy187⟩) hHeld ?rrest187
                case rhy187 => first | (intro w hSw; (try dsimp only at hSw); go_simp; done) | (intro w hSw; (try dsimp only at hSw); go_simp; with_reducible rfl)
                try simp only [List.setIfInBounds_toArray, List.set_cons_zero, List.set_cons_succ]
                refine hold_take (i := 17) (v := ?rv188) rfl rfl (by kernel_rfl) (by kernel_rfl) (by kernel_rfl) (fun _ _ _ h => h) (Or.inl ⟨by rfl, ?rhy188⟩) hHeld ?rrest188
                case rhy188 => first | (intro w hSw; (try dsimp only at hSw); go_simp; done) | (intro w hSw; (try dsimp only at hSw); go_simp; with_reducible rfl)
                try simp only [List.setIfInBounds_toArray, List.set_cons_zero, List.set_cons_succ]
                refine hold_take (i := 18) (v := ?rv189) rfl rfl (by kernel_rfl) (by kernel_rfl) (by kernel_rfl) (fun _ _ _ h => h) (Or.inl ⟨by rfl, ?rhy189⟩) hHeld ?rrest189
                case rhy189 => first | (intro w hSw; (try dsimp only at hSw); go_simp; done) | (intro w hSw; (try dsimp only at hSw); go_simp; with_reducible rfl)
                try simp only [List.setIfInBounds_toArray, List.set_cons_zero, List.set_cons_succ]
                refine hold_take (i := 19) (v := ?rv190) rfl rfl (by kernel_rfl) (by kernel_rfl) (by kernel_rfl) (fun _ _ _ h => h) (Or.inl ⟨by rfl, ?rhy190⟩) hHeld ?rrest190
                case rhy190 => first | (intro w hSw; (try dsimp only at hSw); go_simp; done) | (intro w hSw; (try dsimp only at hSw); go_simp; with_reducible rfl)
                try simp only [List.setIfInBounds_toArray, List.set_cons_zero, List.set_cons_succ]
                refine hold_take (i := 20) (v := ?rv191) rfl rfl (by kernel_rfl) (by kernel_rfl) (by kernel_rfl) (fun _ _ _ h => h) (Or.inl ⟨by rfl, ?rhy191⟩) hHeld ?rrest191
                case rhy191 => first | (intro w hSw; (try dsimp only at hSw); go_simp; done) | (intro w hSw; (try dsimp only at hSw); go_simp; with_reducible rfl)
                try simp only [List.setIfInBounds_toArray, List.set_cons_zero, List.set_cons_succ]
                refine hold_take (i := 21) (v := ?rv192) rfl rfl (by kernel_rfl) (by kernel_rfl) (by kernel_rfl) (fun _ _ _ h => h) (Or.inl ⟨by rfl, ?rhy192⟩) hHeld ?rrest192
                case rhy192 => first | (intro w hSw; (try dsimp only at hSw); go_simp; done) | (intro w hSw; (try dsimp only at hSw); go_simp; with_reducible rfl)
                try simp only [List.setIfInBounds_toArray, List.set_cons_zero, List.set_cons_succ]
                refine hold_take (i := 22) (v := ?rv193) rfl rfl (by kernel_rfl) (by kernel_rfl) (by kernel_rfl) (fun _ _ _ h => h) (Or.inl ⟨by rfl, ?rhy193⟩) hHeld ?rrest193
                case rhy193 => first | (intro w hSw; (try dsimp only at hSw); go_simp; done) | (intro w hSw; (try dsimp only at hSw); go_simp; with_reducible rfl)
                try simp only [List.setIfInBounds_toArray, List.set_cons_zero, List.set_cons_succ]
                refine hold_take (i := 23) (v := ?rv194) rfl rfl (by kernel_rfl) (by kernel_rfl) (by kernel_rfl) (fun _ _ _ h => h) (Or.inl ⟨by rfl, ?rhy194⟩) hHeld ?rrest194
                case rhy194 => first | (intro w hSw; (try dsimp only at hSw); go_simp; done) | (intro w hSw; (try dsimp only at hSw); go_simp; with_reducible rfl)
                try simp only [List.setIfInBounds_toArray, List.set_cons_zero, List.set_cons_succ]
                refine wpAnyH_done (by kernel_rfl) ?_ _
                refine And.intro ?_ hHeld
                with_reducible rfl
              case cont6 =>
              intro e a' w5 hq
              obtain ⟨rfl, rfl, hk5⟩ := hq.out
              go_wp2
              go_roundw
              case rel => exact ⟨i + 1, by omega, by go_num, Hid.mk' (HK4.out.tr hk5)⟩
              case measure => simp [intOf]; omega
            · have hne' : ¬ (i : Int) = wh := by omega
              rw [dn_hi (by omega)] at q5 q6
              have e1 : now = was := by simpa using q6
              subst e1
              clear q5 q6
              have hT1 : ∀ w', Kept w4 w' none → (convert 22 9 (.slice (some ⟨g2, 0, none⟩) 0 64)).run Try.prog w' = .ok (.string (textOf [])) w' := fun w' hq => run_text (By.nil _ _) _
              have hT2 : ∀ w', Kept w4 w' none → (convert 22 9 (.slice (some ⟨bi, offi, none⟩) 0 ci)).run Try.prog w' = .ok (.string (textOf [])) w' := fun w' hq => run_text (By.nil _ _) _
              have hT3 : ∀ w', Kept w4 w' none → (convert 22 9 (.slice (some ⟨g2, 0, none⟩) 64 64)).run Try.prog w' = .ok (.string (textOf now)) w' := fun w' hq => run_text (HBn.out w' hq) _
              have hT4 : ∀ w', Kept w4 w' none → (convert 22 9 (.slice (some ⟨g1, 0, none⟩) 64 64)).run Try.prog w' = .ok (.string (textOf now)) w' := fun w' hq => run_text (HBw.out w' hq) _
              go_wp2
              refine Code.wp_mono (Q := Rbq ?A8 (fun w' => Kept w4 w' none)) ?cont8 ?reg8
              case reg8 =>
                repeat (rename_i hh; clear hh)
                refine wp_region_held_drew (S := fun w' => Kept w4 w' none) (by kernel_rfl) (kept_drw _ _) (fun hHeld => ?_)
                refine hold_take (i := 0) (v := ?rv195) rfl rfl (by kernel_rfl) (by kernel_rfl) (by kernel_rfl) (fun _ _ _ h => h) (Or.inl ⟨by rfl, ?rhy195⟩) hHeld ?rrest195
                case rhy195 => first | (intro w hSw; (try dsimp only at hSw); go_simp; done) | (intro w hSw; (try dsimp only at hSw); go_simp; with_reducible rfl)
                try simp only [List.setIfInBounds_toArray, List.set_cons_zero, List.set_cons_succ]
                refine hold_take (i := 1) (v := ?rv196) rfl rfl (by kernel_rfl) (by kernel_rfl) (by kernel_rfl) (fun _ _ _ h => h) (Or.inl ⟨by rfl, ?rhy196⟩) hHeld ?rrest196
                case rhy196 => first | (intro w hSw; (try dsimp only at hSw); go_simp; done) | (intro w hSw; (try dsimp only at hSw); go_simp; with_reducible rfl)
                try simp only [List.setIfInBounds_toArray, List.set_cons_zero, List.set_cons_succ]
                refine hold_take (i := 2) (v := ?rv197) rfl rfl (by kernel_rfl) (by kernel_rfl) (by kernel_rfl) (fun _ _ _ h => h) (Or.inl ⟨by rfl, ?rhy197⟩) hHeld ?rrest197
                case rhy197 => first | (intro w hSw; (try dsimp only at hSw); go_simp; done) | (intro w hSw; (try dsimp only at hSw); go_simp; with_reducible rfl)
                try simp only [List.setIfInBounds_toArray, List.set_cons_zero, List.set_cons_succ]
                refine hold_take (i := 3) (v := ?rv198) rfl rfl (by kernel_rfl) (by kernel_rfl) (by kernel_rfl) (fun _ _ _ h => h) (Or.inl ⟨by rfl, ?rhy198⟩) hHeld ?rrest198
                case rhy198 => first | (intro w hSw; (try dsimp only at hSw); go_simp; done) | (intro w hSw; (try dsimp only at hSw); go_simp; with_reducible rfl)
                try simp only [List.setIfInBounds_toArray, List.set_cons_zero, List.set_cons_succ]
                refine hold_take (i := 4) (v := ?rv199) rfl rfl (by kernel_rfl) (by kernel_rfl) (by kernel_rfl) (fun _ _ _ h => h) (Or.inl ⟨by rfl, ?rhy199⟩) hHeld ?rrest199
                case rhy199 => first | (intro w hSw; (try dsimp only at hSw); go_simp; done) | (intro w hSw; (try dsimp only at hSw); go_simp; with_reducible rfl)
                try simp only [List.setIfInBounds_toArray, List.set_cons_zero, List.set_cons_succ]
                refine hold_take (i := 5) (v := ?rv200) rfl rfl (by kernel_rfl) (by kernel_rfl) (by kernel_rfl) (fun _ _ _ h => h) (Or.inl ⟨by rfl, ?rhy200⟩) hHeld ?rrest200
                case rhy200 => first | (intro w hSw; (try dsimp only at hSw); go_simp; done) | (intro w hSw; (try dsimp only at hSw); go_simp; with_reducible rfl)
                try simp only [List.setIfInBounds_toArray, List.set_cons_zero, List.set_cons_succ]
                refine hold_take (i := 6) (v := ?rv201) rfl rfl (by kernel_rfl) (by kernel_rfl) (by kernel_rfl) (fun _ _ _ h => h) (Or.inl ⟨by rfl, ?rhy201⟩) hHeld ?rrest201
                case rhy201 => first | (intro w hSw; (try dsimp only at hSw); go_simp; done) | (intro w hSw; (try dsimp only at hSw); go_simp; with_reducible rfl)
                try simp only [List.setIfInBounds_toArray, List.set_cons_zero, List.set_cons_succ]
                refine hold_take (i := 7) (v := ?rv202) rfl rfl (by kernel_rfl) (by kernel_rfl) (by kernel_rfl) (fun _ _ _ h => h) (Or.inl ⟨by rfl, ?rhy202⟩) hHeld ?rrest202
                case rhy202 => first | (intro w hSw; (try dsimp only at hSw); go_simp; done) | (intro w hSw; (try dsimp only at hSw); go_simp; with_reducible rfl)
                try simp only [List.setIfInBounds_toArray, List.set_cons_zero, List.set_cons_succ]
                refine hold_take (i := 8) (v := ?rv203) rfl rfl (by kernel_rfl) (by kernel_rfl) (by kernel_rfl) (fun _ _ _ h => h) (Or.inl ⟨by rfl, ?rhy203⟩) hHeld ?rrest203
                case rhy203 => first | (intro w hSw; (try dsimp only at hSw); go_simp; done) | (intro w hSw; (try dsimp only at hSw); go_simp; with_reducible rfl)
                try simp only [List.setIfInBounds_toArray, List.set_cons_zero, List.set_cons_succ]
                refine hold_take (i := 9) (v := ?rv204) rfl rfl (by kernel_rfl) (by kernel_rfl) (by kernel_rfl) (fun _ _ _ h => h) (Or.inl ⟨by rfl, ?rhy204⟩) hHeld ?rrest204
                case rhy204 => first | (intro w hSw; (try dsimp only at hSw); go_simp; done) | (intro w hSw; (try dsimp only at hSw); go_simp; with_reducible rfl)
                try simp only [List.setIfInBounds_toArray, List.set_cons_zero, List.set_cons_succ]
                refine hold_take (i := 10) (v := ?rv205) rfl rfl (by kernel_rfl) (by kernel_rfl) (by kernel_rfl) (fun _ _ _ h => h) (Or.inl ⟨by rfl, ?rhy205⟩) hHeld ?rrest205
                case rhy205 => first | (intro w hSw; (try dsimp only at hSw); go_simp; done) | (intro w hSw; (try dsimp only at hSw); go_simp; with_reducible rfl)
                try simp only [List.setIfInBounds_toArray, List.set_cons_zero, List.set_cons_succ]
                refine hold_take (i := 11) (v := ?rv206) rfl rfl (by kernel_rfl) (by kernel_rfl) (by kernel_rfl) (fun _ _ _ h => h) (Or.inl ⟨by rfl, ?rhy206⟩) hHeld ?rrest206
                case rhy206 => first | (intro w hSw; (try dsimp only at hSw); go_simp; done) | (intro w hSw; (try dsimp only at hSw); go_simp; with_reducible rfl)
                try simp only [List.setIfInBounds_toArray, List.set_cons_zero, List.set_cons_succ]
                refine hold_take (i := 12) (v := ?rv207) rfl rfl (by kernel_rfl) (by kernel_rfl) (by kernel_rfl) (fun _ _ _ h => h) (Or.inl ⟨by rfl, ?rhy207⟩) hHeld ?rrest207
                case rhy207 => first | (intro w hSw; (try dsimp only at hSw); go_simp; done) | (intro w hSw; (try dsimp only at hSw); go_simp; with_reducible rfl)
                try simp only [List.setIfInBounds_toArray, List.set_cons_zero, List.set_cons_succ]
                refine hold_take (i := 13) (v := ?rv208) rfl rfl (by kernel_rfl) (by kernel_rfl) (by kernel_rfl) (fun _ _ _ h => h) (Or.inl ⟨by rfl, ?rhy208⟩) hHeld ?rrest208
                case rhy208 => first | (intro w hSw; (try dsimp only at hSw); go_simp; done) | (intro w hSw; (try dsimp only at hSw); go_simp; with_reducible rfl)
                try simp only [List.setIfInBounds_toArray, List.set_cons_zero, List.set_cons_succ]
                refine hold_take (i := 14) (v := ?rv209) rfl rfl (by kernel_rfl) (by kernel_rfl) (by kernel_rfl) (fun _ _ _ h => h) (Or.inl ⟨by rfl, ?rhy209⟩) hHeld ?rrest209
                case rhy209 => first | (intro w hSw; (try dsimp only at hSw); go_simp; done) | (intro w hSw; (try dsimp only at hSw); go_simp; with_reducible rfl)
                try simp only [List.setIfInBounds_toArray, List.set_cons_zero, List.set_cons_succ]
                refine hold_take (i := 15) (v := ?rv210) rfl rfl (by kernel_rfl) (by kernel_rfl) (by kernel_rfl) (fun _ _ _ h => h) (Or.inl ⟨by rfl, ?rhy210⟩) hHeld ?rrest210
                case rhy210 => first | (intro w hSw; (try dsimp only at hSw); go_simp; done) | (intro w hSw; (try dsimp only at hSw); go_simp; with_reducible rfl)
                try simp only [List.setIfInBounds_toArray, List.set_cons_zero, List.set_cons_succ]
                refine hold_take (i := 16) (v := ?rv211) rfl rfl (by kernel_rfl) (by kernel_rfl) (by kernel_rfl) (fun _ _ _ h => h) (Or.inl ⟨by rfl, ?rhy211⟩) hHeld ?rrest211
                case rhy211 => first | (intro w hSw; (try dsimp only at hSw); go_simp; done) | (intro w hSw; (try dsimp only at hSw); go_simp; with_reducible rfl)
                try simp only [List.setIfInBounds_toArray, List.set_cons_zero, List.set_cons_succ]
                refine hold_take (i := 17) (v := ?rv212) rfl rfl (by kernel_rfl) (by kernel_rfl) (by kernel_rfl) (fun _ _ _ h => h) (Or.inl ⟨by rfl, ?rhy212⟩) hHeld ?rrest212
                case rhy212 => first | (intro w hSw; (try dsimp only at hSw); go_simp; done) | (intro w hSw; (try dsimp only at hSw); go_simp; with_reducible rfl)
                try simp only [List.setIfInBounds_toArray, List.set_cons_zero, List.set_cons_succ]
                refine hold_take (i := 18) (v := ?rv213) rfl rfl (by kernel_rfl) (by kernel_rfl) (by kernel_rfl) (fun _ _ _ h => h) (Or.inl ⟨by rfl, ?rhy213⟩) hHeld ?rrest213
                case rhy213 => first | (intro w hSw; (try dsimp only at hSw); go_simp; done) | (intro w hSw; (try dsimp only at hSw); go_simp; with_reducible rfl)
                try simp only [List.setIfInBounds_toArray, List.set_cons_zero, List.set_cons_succ]
                refine hold_take (i := 19) (v := ?rv214) rfl rfl (by kernel_rfl) (by kernel_rfl) (by kernel_rfl) (fun _ _ _ h => h) (Or.inl ⟨by rfl, ?rhy214⟩) hHeld ?rrest214
                case rhy214 => first | (intro w hSw; (try dsimp only at hSw); go_simp; done) | (intro w hSw; (try dsimp only at hSw); go_simp; with_reducible rfl)
                try simp only [List.setIfInBounds_toArray, List.set_cons_zero, List.set_cons_succ]
                refine hold_take (i := 20) (v := ?rv215) rfl rfl (by kernel_rfl) (by kernel_rfl) (by kernel_rfl) (fun _ _ _ h => h) (Or.inl ⟨by rfl, ?rhy215⟩) hHeld ?rrest215
                case rhy215 => first | (intro w hSw; (try dsimp only at hSw); go_simp; done) | (intro w hSw; (try dsimp only at hSw); go_simp; with_reducible rfl)
                try simp only [List.setIfInBounds_toArray, List.set_cons_zero, List.set_cons_succ]
                refine hold_take (i := 21) (v := ?rv216) rfl rfl (by kernel_rfl) (by kernel_rfl) (by kernel_rfl) (fun _ _ _ h => h) (Or.inl ⟨by rfl, ?rhy216⟩) hHeld ?rrest216
                case rhy216 => first | (intro w hSw; (try dsimp only at hSw); go_simp; done) | (intro w hSw; (try dsimp only at hSw); go_simp; with_reducible rfl)
                try simp only [List.setIfInBounds_toArray, List.set_cons_zero, List.set_cons_succ]
                refine hold_take (i := 22) (v := ?rv217) rfl rfl (by kernel_rfl) (by kernel_rfl) (by kernel_rfl) (fun _ _ _ h => h) (Or.inl ⟨by rfl, ?rhy217⟩) hHeld ?rrest217
                case rhy217 => first | (intro w hSw; (try dsimp only at hSw); go_simp; done) | (intro w hSw; (try dsimp only at hSw); go_simp; with_reducible rfl)
                try simp only [List.setIfInBounds_toArray, List.set_cons_zero, List.set_cons_succ]
                refine hold_take (i := 23) (v := ?rv218) rfl rfl (by kernel_rfl) (by kernel_rfl) (by kernel_rfl) (fun _ _ _ h => h) (Or.inl ⟨by rfl, ?rhy218⟩) hHeld ?rrest218
                case rhy218 => first | (intro w hSw; (try dsimp only at hSw); go_simp; done) | (intro w hSw; (try dsimp only at hSw); go_simp; with_reducible rfl)
                try simp only [List.setIfInBounds_toArray, List.set_cons_zero, List.set_cons_succ]
                refine wpAnyH_done (by kernel_rfl) ?_ _
                refine And.intro ?_ hHeld
                with_reducible rfl
              case cont8 =>
              intro e a' w5 hq
              obtain ⟨rfl, rfl, hk5⟩ := hq.out
              go_wp2
              go_roundw
              case rel => exact ⟨i + 1, by omega, by go_num, Hid.mk' (HK4.out.tr hk5)⟩
              case measure => simp [intOf]; omega
        · have hik : i = k := by omega
          subst hik
          go_wp2
          go_ret
          exact ⟨rfl, HKW.out.tr hkq.out⟩
theorem btor_any {a : Option Addr} {n c : Nat} {L : List Nat} {la : Option Addr} {m lc : Nat} {l : List Pw} (wh to : Int) (w : World) (hC : Come w a n c L) (hP : Plw w la m l) : Calls Try.prog 6 #[dvV a n c, .slice la m lc, .int .i64 wh, .int .i64 to] w fun e w' => e = .returned (.bool true) ∧ Kept w w' none := by
  by_cases h : 10000 < n
  · exact torn_big wh to w hC hP h
  · by_cases h2 : 64 < m
    · exact torn_many wh to w hC hP h h2
    · by_cases hE : doE n l wh to = 0
      · obtain ⟨_, _, _, q1, q2, q3, q4⟩ := do_says hE
        obtain ⟨wh, rfl⟩ := Int.eq_ofNat_of_zero_le q1
        obtain ⟨to, rfl⟩ := Int.eq_ofNat_of_zero_le q3
        by_cases h64 : to < 64
        · exact torn_ok wh to w hC hP h h2 hE h64
        · obtain rfl : to = 64 := by omega
          exact torn_ok64 wh w hC hP h h2 hE
      · exact torn_err wh to w hC hP h h2 hE

end Go.Proofs.Ytpfbdandhdapcaa
