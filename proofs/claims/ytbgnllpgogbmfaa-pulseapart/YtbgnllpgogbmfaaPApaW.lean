/-
  PulseApart's walk: two turns lie at least as far apart as it is held.
-/
import Derived.Test.YtbgnllpgogbmfaaPulT
namespace Go.Proofs.Ytbgnllpgogbmfaa
open Go.RowKit Go.Lib Go.Deep
set_option linter.unusedVariables false
set_option linter.unusedSimpArgs false

theorem papart_long (h : Int) {a : Option Addr} {n c : Nat} {L : List Bool} {w : World} (hA : Bo w a n L) (hl : 400 < n) : Calls Try.prog 6 #[.slice a n c, .int .i64 h] w fun e w' => e = .returned (.bool true) ∧ Kept w w' none := by
  have hmx := hA.max
  clear hA
  go_enter Try.func6, Try.ntmps6
  go_wp2_with (go_at_call 10; refine (alive_any _).mono ?_; rintro e1 w1 ⟨rfl, hk1⟩)
  go_ret
  exact ⟨rfl, hk1⟩
set_option maxHeartbeats 2000000 in
theorem papart_arg (h : Int) {a : Option Addr} {n c : Nat} {L : List Bool} {w : World} (hA : Bo w a n L) (hl : n ≤ 400) (hh : holB h = false) : Calls Try.prog 6 #[.slice a n c, .int .i64 h] w fun e w' => e = .returned (.bool true) ∧ Kept w w' none := by
  have hmx := hA.max
  have HA := Hid.mk' hA
  have HH := Hid.mk' hh
  clear hA hh
  go_enter Try.func6, Try.ntmps6
  go_wp2_with (first
    | (go_at_call 14; refine (same_any (L := L) (M := L) (HB3.out.kept (Kept.alloc _ _ _ _ _)) (HA3.out.kept (Kept.alloc _ _ _ _ _))).mono ?_; rintro e w4 ⟨rfl, hk4⟩)
    | (go_at_call 9; have hgo := hk2; clear hgo; refine (run0_one (HA2.out.kept (Kept.alloc _ _ _ _ _)) hl).mono ?_; rintro e w3 ⟨⟨r0, r1, r2⟩, a3, c3, rfl, hb3, hk3⟩; have HB3 := Hid.mk' hb3; have HA3 := Hid.mk' ((HA2.out.kept (Kept.alloc _ _ _ _ _)).kept hk3); clear hb3)
    | (go_at_call 9; refine (run0_arg HA1.out hl HH.out).mono ?_; rintro e w2 ⟨a2, c2, rfl, hk2⟩; have HA2 := Hid.mk' (HA1.out.kept hk2))
    | (go_at_call 10; refine (alive_any _).mono ?_; rintro e1 w1 ⟨rfl, hk1⟩; have HA1 := Hid.mk' (HA.out.kept hk1)))
  have K4 := ((hk1.tr hk2).tr ((Kept.alloc _ _ _ _ _).tr hk3)).tr ((Kept.alloc _ _ _ _ _).tr hk4)
  have HK4 := Hid.mk' K4
  clear K4
  go_loopw [12, 13] (fun la i wr => i = .int .i64 1 ∧ Kept w wr none) (fun _ _ _ => 0)
  case atStart => exact ⟨rfl, HK4.out⟩
  case round =>
    obtain ⟨rfl, hkr⟩ := hrel
    go_wp2
    go_ret
    exact ⟨rfl, hkr⟩
set_option maxHeartbeats 4000000 in
theorem papart_ok (h : Int) {a : Option Addr} {n c : Nat} {L : List Bool} {w : World} (hA : Bo w a n L) (hl : n ≤ 400) (hh : holB h = true) : Calls Try.prog 6 #[.slice a n c, .int .i64 h] w fun e w' => e = .returned (.bool true) ∧ Kept w w' none := by
  have hmx := hA.max
  have HA := Hid.mk' hA
  have HL := Hid.mk' hA.size
  have HH := Hid.mk' hh
  have hh' : 1 ≤ h ∧ h ≤ 1048576 := of_decide_eq_true hh
  obtain ⟨hh0, hh1⟩ := hh'
  clear hA hh
  go_enter Try.func6, Try.ntmps6
  go_wp2_with (first
    | (go_at_call 14; refine (same_any (L := L) (M := L) (HB3.out.kept (Kept.alloc _ _ _ _ _)) (HA3.out.kept (Kept.alloc _ _ _ _ _))).mono ?_; rintro e w4 ⟨rfl, hk4⟩)
    | (go_at_call 9; have hgo := hk2; clear hgo; refine (run0_one (HA2.out.kept (Kept.alloc _ _ _ _ _)) hl).mono ?_; rintro e w3 ⟨⟨r0, r1, r2⟩, a3, c3, rfl, hb3, hk3⟩; have HB3 := Hid.mk' hb3; have HA3 := Hid.mk' ((HA2.out.kept (Kept.alloc _ _ _ _ _)).kept hk3); clear hb3)
    | (go_at_call 9; refine (run0_ok HA1.out hl HH.out).mono ?_; rintro e w2 ⟨⟨q0, q1, q2⟩, a2, c2, rfl, hb2, hk2⟩; have HB2 := Hid.mk' hb2; have HA2 := Hid.mk' (HA1.out.kept hk2); clear hb2)
    | (go_at_call 10; refine (alive_any _).mono ?_; rintro e1 w1 ⟨rfl, hk1⟩; have HA1 := Hid.mk' (HA.out.kept hk1)))
  have k24 : Kept w2 w4 none := ((Kept.alloc _ _ _ _ _).tr hk3).tr ((Kept.alloc _ _ _ _ _).tr hk4)
  have HK4 := Hid.mk' ((hk1.tr hk2).tr k24)
  have HB4 := Hid.mk' (HB2.out.kept k24)
  clear k24
  go_loopw [12, 13] (fun la i wr => ∃ (k : Nat) (z : Int), i = .int .i64 k ∧ la = .int .i64 z ∧ 1 ≤ k ∧ (k ≤ n ∨ k = 1) ∧ (z = -1 ∨ ∃ j : Nat, z = j ∧ j < k ∧ k ≤ n ∧ (atP h Pu.zero L k).up = tr L j) ∧ Kept w4 wr none) (fun _ i _ => n + 1 - (intOf i).toNat)
  case atStart => exact ⟨1, -1, rfl, rfl, by omega, .inr rfl, .inl rfl, Kept.refl _ _⟩
  case round =>
    obtain ⟨k, z, rfl, rfl, hk1', hkn, hz, hkr⟩ := hrel
    have HKR := Hid.mk' hkr
    have HZ := Hid.mk' hz
    clear hz hkr hkn
    by_cases hlt : k < n
    · obtain ⟨b, off, ea, _, hc⟩ := (HB4.out.kept HKR.out).at_ (by omega)
      subst ea
      have x1 := hc k hlt
      have x2 := hc (k - 1) (by omega)
      have hkL : k < L.length := by have := HL.out; omega
      rw [tr_said h Pu.zero hkL] at x1
      rw [tr_said h Pu.zero (show k - 1 < L.length by omega), show k - 1 + 1 = k by omega] at x2
      clear hc
      by_cases he : (atP h Pu.zero L (k + 1)).up = (atP h Pu.zero L k).up
      · have HN : Hid (z = -1 ∨ ∃ j : Nat, z = j ∧ j < k + 1 ∧ k + 1 ≤ n ∧ (atP h Pu.zero L (k + 1)).up = tr L j) := by
          rcases HZ.out with e | ⟨j, e1, e2, e3, e4⟩
          · exact .inl e
          · exact .inr ⟨j, e1, by omega, by omega, he.trans e4⟩
        have hb : ((atP h Pu.zero L (k + 1)).up == (atP h Pu.zero L k).up) = true := by rw [he]; simp
        clear he HZ
        generalize (atP h Pu.zero L (k + 1)).up = y at x1 hb
        generalize (atP h Pu.zero L k).up = y' at x2 hb
        go_wp2
        go_region
        all_goals
          go_wp2
          go_roundw
          case rel => exact ⟨k + 1, z, by go_num, rfl, by omega, .inl (by omega), HN.out, HKR.out.tr (Kept.drew _ _)⟩
          case measure => simp [intOf]; omega
      · obtain ⟨t1, t2⟩ := turn_at hkL he
        have HN : Hid (((k : Nat) : Int) = -1 ∨ ∃ j : Nat, ((k : Nat) : Int) = j ∧ j < k + 1 ∧ k + 1 ≤ n ∧ (atP h Pu.zero L (k + 1)).up = tr L j) := .inr ⟨k, rfl, by omega, by omega, t2⟩
        have hb : ((atP h Pu.zero L (k + 1)).up == (atP h Pu.zero L k).up) = false := by simpa using he
        have hap : z = -1 ∨ ∃ j : Nat, z = j ∧ h ≤ (k : Int) - (j : Int) := by
          rcases HZ.out with e | ⟨j, e1, e2, e3, e4⟩
          · exact .inl e
          · exact .inr ⟨j, e1, apart_at hkL e2 e4 he⟩
        clear he HZ t1 t2
        generalize (atP h Pu.zero L (k + 1)).up = y at x1 hb
        generalize (atP h Pu.zero L k).up = y' at x2 hb
        rcases hap with rfl | ⟨j, rfl, hge⟩
        · go_wp2
          go_region
          all_goals
            go_wp2
            go_roundw
            case rel => exact ⟨k + 1, k, by go_num, rfl, by omega, .inl (by omega), HN.out, HKR.out.tr (Kept.drew _ _)⟩
            case measure => simp [intOf]; omega
        · go_wp2
          go_region
          all_goals
            go_wp2
            go_roundw
            case rel => exact ⟨k + 1, k, by go_num, rfl, by omega, .inl (by omega), HN.out, HKR.out.tr (Kept.drew _ _)⟩
            case measure => simp [intOf]; omega
    · go_wp2
      go_ret
      exact ⟨rfl, HK4.out.tr HKR.out⟩
theorem papart_any (h : Int) {a : Option Addr} {n c : Nat} {L : List Bool} {w : World} (hA : Bo w a n L) : Calls Try.prog 6 #[.slice a n c, .int .i64 h] w fun e w' => e = .returned (.bool true) ∧ Kept w w' none := by
  by_cases hl : 400 < n
  · exact papart_long h hA hl
  · cases hh : holB h with
    | false => exact papart_arg h hA (by omega) hh
    | true => exact papart_ok h hA (by omega) hh

end Go.Proofs.Ytbgnllpgogbmfaa
