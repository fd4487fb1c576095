/-
  WellMore's walk: a tick more in which something came never makes the share less; what is poor by a bound is poor by every greater one (made by a program).
-/
import Derived.Test.YtkdfiaeghbkgnaaWelB
namespace Go.Proofs.Ytkdfiaeghbkgnaa
open Go.RowKit Go.Lib Go.Deep
set_option linter.unusedVariables false
set_option linter.unusedSimpArgs false

set_option maxRecDepth 100000 in
set_option maxHeartbeats 4000000 in
theorem wmore_no (b : Nat) (m l h : Int) (w : World) (hb : b < 18446744073709551616) (hm : ¬ (1 ≤ m ∧ m ≤ 64)) : Calls Try.prog 6 #[weV b, .int .i64 m, .int .i64 l, .int .i64 h] w fun e w' => e = .returned (.bool true) ∧ Kept w w' none := by
  have HA := Hid.mk' alive_any
  have HT := Hid.mk' (fun w' => wnext_any b true w' hb)
  have HF := Hid.mk' (fun w' => wnext_any b false w' hb)
  have h1 := nxW_lt b true
  have h2 := nxW_lt b false
  generalize nxW b true = x at *
  generalize nxW b false = y at *
  have HST := Hid.mk' (fun w' => wshare_no x m w' hm)
  have HSF := Hid.mk' (fun w' => wshare_no y m w' hm)
  clear hm h1 h2
  have G := wb_alloc w b
  have HK := Hid.mk' (Kept.alloc w #[.int .u64 (b : Int)] 24 (0, 0) none)
  go_enter Try.func6, Try.ntmps6
  go_wp2_with (first
    | (go_at_call 9; have M1 := Hid.mk' True.intro; refine (HA.out _).mono ?_; rintro e w1 ⟨rfl, hk1⟩; replace G := G.kept hk1; replace HK := Hid.mk' (HK.out.tr hk1); have g1 := G.c0; clear hk1)
    | (go_at_call 12; have hgo := M1; clear hgo; have M2 := Hid.mk' True.intro; refine (HT.out _).mono ?_; rintro e w2 ⟨rfl, hk2⟩; replace G := G.kept hk2; replace HK := Hid.mk' (HK.out.tr hk2); have g2 := G.c0; clear hk2 M1)
    | (go_at_call 7; have hgo := M2; clear hgo; have M3 := Hid.mk' True.intro; refine (HST.out _).mono ?_; rintro e w3 ⟨rfl, hk3⟩; replace G := G.kept hk3; replace HK := Hid.mk' (HK.out.tr hk3); have g3 := G.c0; clear hk3 M2)
    | (go_at_call 12; have hgo := M3; clear hgo; have M4 := Hid.mk' True.intro; refine (HF.out _).mono ?_; rintro e w4 ⟨rfl, hk4⟩; replace G := G.kept hk4; replace HK := Hid.mk' (HK.out.tr hk4); have g4 := G.c0; clear hk4 M3)
    | (go_at_call 7; have hgo := M4; clear hgo; have M5 := Hid.mk' True.intro; refine (HSF.out _).mono ?_; rintro e w5 ⟨rfl, hk5⟩; replace G := G.kept hk5; replace HK := Hid.mk' (HK.out.tr hk5); have g5 := G.c0; clear hk5 M4))
  go_ret
  exact ⟨by simp, HK.out⟩
set_option maxRecDepth 100000 in
set_option maxHeartbeats 4000000 in
theorem wmore_low (b : Nat) (m l h : Int) (w : World) (hb : b < 18446744073709551616) (hm : 1 ≤ m ∧ m ≤ 64) (h9 : l < 0) : Calls Try.prog 6 #[weV b, .int .i64 m, .int .i64 l, .int .i64 h] w fun e w' => e = .returned (.bool true) ∧ Kept w w' none := by
  have HA := Hid.mk' alive_any
  have HT := Hid.mk' (fun w' => wnext_any b true w' hb)
  have HF := Hid.mk' (fun w' => wnext_any b false w' hb)
  have h1 := nxW_lt b true
  have h2 := nxW_lt b false
  have h3 := shQ_more b m
  generalize nxW b true = x at *
  generalize nxW b false = y at *
  have h4 := fun w' => wshare_any x m w' h1
  have h5 := fun w' => wshare_any y m w' h2
  rw [shF_ok hm] at h4 h5
  have h6 := fun w' => wpoor_ok b m 0 w' hb hm (by omega)
  have h7 : decide (shQ b m < 0) = false := decide_eq_false (by have := (shQ_bd b m).1; omega)
  rw [h7] at h6
  generalize shQ x m = X at *
  generalize shQ y m = Y at *
  have HST := Hid.mk' h4
  have HSF := Hid.mk' h5
  have HP0 := Hid.mk' h6
  clear h1 h2 h4 h5 h6 h7
  clear hm
  have G := wb_alloc w b
  have HK := Hid.mk' (Kept.alloc w #[.int .u64 (b : Int)] 24 (0, 0) none)
  go_enter Try.func6, Try.ntmps6
  go_wp2_with (first
    | (go_at_call 9; have M1 := Hid.mk' True.intro; refine (HA.out _).mono ?_; rintro e w1 ⟨rfl, hk1⟩; replace G := G.kept hk1; replace HK := Hid.mk' (HK.out.tr hk1); have g1 := G.c0; clear hk1)
    | (go_at_call 12; have hgo := M1; clear hgo; have M2 := Hid.mk' True.intro; refine (HT.out _).mono ?_; rintro e w2 ⟨rfl, hk2⟩; replace G := G.kept hk2; replace HK := Hid.mk' (HK.out.tr hk2); have g2 := G.c0; clear hk2 M1)
    | (go_at_call 7; have hgo := M2; clear hgo; have M3 := Hid.mk' True.intro; refine (HST.out _).mono ?_; rintro e w3 ⟨rfl, hk3⟩; replace G := G.kept hk3; replace HK := Hid.mk' (HK.out.tr hk3); have g3 := G.c0; clear hk3 M2)
    | (go_at_call 12; have hgo := M3; clear hgo; have M4 := Hid.mk' True.intro; refine (HF.out _).mono ?_; rintro e w4 ⟨rfl, hk4⟩; replace G := G.kept hk4; replace HK := Hid.mk' (HK.out.tr hk4); have g4 := G.c0; clear hk4 M3)
    | (go_at_call 7; have hgo := M4; clear hgo; have M5 := Hid.mk' True.intro; refine (HSF.out _).mono ?_; rintro e w5 ⟨rfl, hk5⟩; replace G := G.kept hk5; replace HK := Hid.mk' (HK.out.tr hk5); have g5 := G.c0; clear hk5 M4)
    | (go_at_call 8; have hgo := M5; clear hgo; have M6 := Hid.mk' True.intro; refine (HP0.out _).mono ?_; rintro e w6 ⟨rfl, hk6⟩; replace G := G.kept hk6; replace HK := Hid.mk' (HK.out.tr hk6); have g6 := G.c0; clear hk6 M5))
  go_ret
  exact ⟨by simp, HK.out⟩
set_option maxRecDepth 100000 in
set_option maxHeartbeats 4000000 in
theorem wmore_over (b : Nat) (m l h : Int) (w : World) (hb : b < 18446744073709551616) (hm : 1 ≤ m ∧ m ≤ 64) (h9 : ¬ l < 0) (h10 : h < l) : Calls Try.prog 6 #[weV b, .int .i64 m, .int .i64 l, .int .i64 h] w fun e w' => e = .returned (.bool true) ∧ Kept w w' none := by
  have HA := Hid.mk' alive_any
  have HT := Hid.mk' (fun w' => wnext_any b true w' hb)
  have HF := Hid.mk' (fun w' => wnext_any b false w' hb)
  have h1 := nxW_lt b true
  have h2 := nxW_lt b false
  have h3 := shQ_more b m
  generalize nxW b true = x at *
  generalize nxW b false = y at *
  have h4 := fun w' => wshare_any x m w' h1
  have h5 := fun w' => wshare_any y m w' h2
  rw [shF_ok hm] at h4 h5
  have h6 := fun w' => wpoor_ok b m 0 w' hb hm (by omega)
  have h7 : decide (shQ b m < 0) = false := decide_eq_false (by have := (shQ_bd b m).1; omega)
  rw [h7] at h6
  generalize shQ x m = X at *
  generalize shQ y m = Y at *
  have HST := Hid.mk' h4
  have HSF := Hid.mk' h5
  have HP0 := Hid.mk' h6
  clear h1 h2 h4 h5 h6 h7
  clear hm
  have G := wb_alloc w b
  have HK := Hid.mk' (Kept.alloc w #[.int .u64 (b : Int)] 24 (0, 0) none)
  go_enter Try.func6, Try.ntmps6
  go_wp2_with (first
    | (go_at_call 9; have M1 := Hid.mk' True.intro; refine (HA.out _).mono ?_; rintro e w1 ⟨rfl, hk1⟩; replace G := G.kept hk1; replace HK := Hid.mk' (HK.out.tr hk1); have g1 := G.c0; clear hk1)
    | (go_at_call 12; have hgo := M1; clear hgo; have M2 := Hid.mk' True.intro; refine (HT.out _).mono ?_; rintro e w2 ⟨rfl, hk2⟩; replace G := G.kept hk2; replace HK := Hid.mk' (HK.out.tr hk2); have g2 := G.c0; clear hk2 M1)
    | (go_at_call 7; have hgo := M2; clear hgo; have M3 := Hid.mk' True.intro; refine (HST.out _).mono ?_; rintro e w3 ⟨rfl, hk3⟩; replace G := G.kept hk3; replace HK := Hid.mk' (HK.out.tr hk3); have g3 := G.c0; clear hk3 M2)
    | (go_at_call 12; have hgo := M3; clear hgo; have M4 := Hid.mk' True.intro; refine (HF.out _).mono ?_; rintro e w4 ⟨rfl, hk4⟩; replace G := G.kept hk4; replace HK := Hid.mk' (HK.out.tr hk4); have g4 := G.c0; clear hk4 M3)
    | (go_at_call 7; have hgo := M4; clear hgo; have M5 := Hid.mk' True.intro; refine (HSF.out _).mono ?_; rintro e w5 ⟨rfl, hk5⟩; replace G := G.kept hk5; replace HK := Hid.mk' (HK.out.tr hk5); have g5 := G.c0; clear hk5 M4)
    | (go_at_call 8; have hgo := M5; clear hgo; have M6 := Hid.mk' True.intro; refine (HP0.out _).mono ?_; rintro e w6 ⟨rfl, hk6⟩; replace G := G.kept hk6; replace HK := Hid.mk' (HK.out.tr hk6); have g6 := G.c0; clear hk6 M5))
  go_ret
  exact ⟨by simp, HK.out⟩
set_option maxRecDepth 100000 in
set_option maxHeartbeats 4000000 in
theorem wmore_high (b : Nat) (m l h : Int) (w : World) (hb : b < 18446744073709551616) (hm : 1 ≤ m ∧ m ≤ 64) (h9 : ¬ l < 0) (h10 : ¬ h < l) (h11 : 65536 < h) : Calls Try.prog 6 #[weV b, .int .i64 m, .int .i64 l, .int .i64 h] w fun e w' => e = .returned (.bool true) ∧ Kept w w' none := by
  have HA := Hid.mk' alive_any
  have HT := Hid.mk' (fun w' => wnext_any b true w' hb)
  have HF := Hid.mk' (fun w' => wnext_any b false w' hb)
  have h1 := nxW_lt b true
  have h2 := nxW_lt b false
  have h3 := shQ_more b m
  generalize nxW b true = x at *
  generalize nxW b false = y at *
  have h4 := fun w' => wshare_any x m w' h1
  have h5 := fun w' => wshare_any y m w' h2
  rw [shF_ok hm] at h4 h5
  have h6 := fun w' => wpoor_ok b m 0 w' hb hm (by omega)
  have h7 : decide (shQ b m < 0) = false := decide_eq_false (by have := (shQ_bd b m).1; omega)
  rw [h7] at h6
  generalize shQ x m = X at *
  generalize shQ y m = Y at *
  have HST := Hid.mk' h4
  have HSF := Hid.mk' h5
  have HP0 := Hid.mk' h6
  clear h1 h2 h4 h5 h6 h7
  clear hm
  have G := wb_alloc w b
  have HK := Hid.mk' (Kept.alloc w #[.int .u64 (b : Int)] 24 (0, 0) none)
  go_enter Try.func6, Try.ntmps6
  go_wp2_with (first
    | (go_at_call 9; have M1 := Hid.mk' True.intro; refine (HA.out _).mono ?_; rintro e w1 ⟨rfl, hk1⟩; replace G := G.kept hk1; replace HK := Hid.mk' (HK.out.tr hk1); have g1 := G.c0; clear hk1)
    | (go_at_call 12; have hgo := M1; clear hgo; have M2 := Hid.mk' True.intro; refine (HT.out _).mono ?_; rintro e w2 ⟨rfl, hk2⟩; replace G := G.kept hk2; replace HK := Hid.mk' (HK.out.tr hk2); have g2 := G.c0; clear hk2 M1)
    | (go_at_call 7; have hgo := M2; clear hgo; have M3 := Hid.mk' True.intro; refine (HST.out _).mono ?_; rintro e w3 ⟨rfl, hk3⟩; replace G := G.kept hk3; replace HK := Hid.mk' (HK.out.tr hk3); have g3 := G.c0; clear hk3 M2)
    | (go_at_call 12; have hgo := M3; clear hgo; have M4 := Hid.mk' True.intro; refine (HF.out _).mono ?_; rintro e w4 ⟨rfl, hk4⟩; replace G := G.kept hk4; replace HK := Hid.mk' (HK.out.tr hk4); have g4 := G.c0; clear hk4 M3)
    | (go_at_call 7; have hgo := M4; clear hgo; have M5 := Hid.mk' True.intro; refine (HSF.out _).mono ?_; rintro e w5 ⟨rfl, hk5⟩; replace G := G.kept hk5; replace HK := Hid.mk' (HK.out.tr hk5); have g5 := G.c0; clear hk5 M4)
    | (go_at_call 8; have hgo := M5; clear hgo; have M6 := Hid.mk' True.intro; refine (HP0.out _).mono ?_; rintro e w6 ⟨rfl, hk6⟩; replace G := G.kept hk6; replace HK := Hid.mk' (HK.out.tr hk6); have g6 := G.c0; clear hk6 M5))
  go_ret
  exact ⟨by simp, HK.out⟩
set_option maxRecDepth 100000 in
set_option maxHeartbeats 4000000 in
theorem wmore_ok (b : Nat) (m l h : Int) (w : World) (hb : b < 18446744073709551616) (hm : 1 ≤ m ∧ m ≤ 64) (h9 : ¬ l < 0) (h10 : ¬ h < l) (h11 : ¬ 65536 < h) : Calls Try.prog 6 #[weV b, .int .i64 m, .int .i64 l, .int .i64 h] w fun e w' => e = .returned (.bool true) ∧ Kept w w' none := by
  have HA := Hid.mk' alive_any
  have HT := Hid.mk' (fun w' => wnext_any b true w' hb)
  have HF := Hid.mk' (fun w' => wnext_any b false w' hb)
  have h1 := nxW_lt b true
  have h2 := nxW_lt b false
  have h3 := shQ_more b m
  generalize nxW b true = x at *
  generalize nxW b false = y at *
  have h4 := fun w' => wshare_any x m w' h1
  have h5 := fun w' => wshare_any y m w' h2
  rw [shF_ok hm] at h4 h5
  have h6 := fun w' => wpoor_ok b m 0 w' hb hm (by omega)
  have h7 : decide (shQ b m < 0) = false := decide_eq_false (by have := (shQ_bd b m).1; omega)
  rw [h7] at h6
  generalize shQ x m = X at *
  generalize shQ y m = Y at *
  have HST := Hid.mk' h4
  have HSF := Hid.mk' h5
  have HP0 := Hid.mk' h6
  clear h1 h2 h4 h5 h6 h7
  have p1 := fun w' => wpoor_any b m l w' hb
  have p2 := fun w' => wpoor_any b m h w' hb
  rw [poF_ok hm (by omega)] at p1
  rw [poF_ok hm (by omega)] at p2
  have p3 := poQ_more (b := b) hm (by omega : 0 ≤ l) (by omega : l ≤ h) (by omega : h ≤ 65536)
  generalize poQ b m l = A at *
  generalize poQ b m h = B at *
  have HP1 := Hid.mk' p1
  have HP2 := Hid.mk' p2
  have HX := Hid.mk' p3
  clear hm p1 p2 p3
  have G := wb_alloc w b
  have HK := Hid.mk' (Kept.alloc w #[.int .u64 (b : Int)] 24 (0, 0) none)
  go_enter Try.func6, Try.ntmps6
  go_wp2_with (first
    | (go_at_call 9; have M1 := Hid.mk' True.intro; refine (HA.out _).mono ?_; rintro e w1 ⟨rfl, hk1⟩; replace G := G.kept hk1; replace HK := Hid.mk' (HK.out.tr hk1); have g1 := G.c0; clear hk1)
    | (go_at_call 12; have hgo := M1; clear hgo; have M2 := Hid.mk' True.intro; refine (HT.out _).mono ?_; rintro e w2 ⟨rfl, hk2⟩; replace G := G.kept hk2; replace HK := Hid.mk' (HK.out.tr hk2); have g2 := G.c0; clear hk2 M1)
    | (go_at_call 7; have hgo := M2; clear hgo; have M3 := Hid.mk' True.intro; refine (HST.out _).mono ?_; rintro e w3 ⟨rfl, hk3⟩; replace G := G.kept hk3; replace HK := Hid.mk' (HK.out.tr hk3); have g3 := G.c0; clear hk3 M2)
    | (go_at_call 12; have hgo := M3; clear hgo; have M4 := Hid.mk' True.intro; refine (HF.out _).mono ?_; rintro e w4 ⟨rfl, hk4⟩; replace G := G.kept hk4; replace HK := Hid.mk' (HK.out.tr hk4); have g4 := G.c0; clear hk4 M3)
    | (go_at_call 7; have hgo := M4; clear hgo; have M5 := Hid.mk' True.intro; refine (HSF.out _).mono ?_; rintro e w5 ⟨rfl, hk5⟩; replace G := G.kept hk5; replace HK := Hid.mk' (HK.out.tr hk5); have g5 := G.c0; clear hk5 M4)
    | (go_at_call 8; have hgo := M5; clear hgo; have M6 := Hid.mk' True.intro; refine (HP0.out _).mono ?_; rintro e w6 ⟨rfl, hk6⟩; replace G := G.kept hk6; replace HK := Hid.mk' (HK.out.tr hk6); have g6 := G.c0; clear hk6 M5)
    | (go_at_call 8; have hgo := M6; clear hgo; have M7 := Hid.mk' True.intro; refine (HP1.out _).mono ?_; rintro e w7 ⟨rfl, hk7⟩; replace G := G.kept hk7; replace HK := Hid.mk' (HK.out.tr hk7); have g7 := G.c0; clear hk7 M6)
    | (go_at_call 8; have hgo := M7; clear hgo; have M8 := Hid.mk' True.intro; refine (HP2.out _).mono ?_; rintro e w8 ⟨rfl, hk8⟩; replace G := G.kept hk8; replace HK := Hid.mk' (HK.out.tr hk8); have g8 := G.c0; clear hk8 M7))
  all_goals go_ret
  all_goals refine ⟨?_, HK.out⟩
  all_goals have hx := HX.out
  all_goals clear HX HP1 HP2
  all_goals cases A <;> cases B <;> simp_all
theorem wmore_any (b : Nat) (m l h : Int) (w : World) (hb : b < 18446744073709551616) : Calls Try.prog 6 #[weV b, .int .i64 m, .int .i64 l, .int .i64 h] w fun e w' => e = .returned (.bool true) ∧ Kept w w' none := by
  by_cases hm : 1 ≤ m ∧ m ≤ 64
  · by_cases h9 : l < 0
    · exact wmore_low b m l h w hb hm h9
    by_cases h10 : h < l
    · exact wmore_over b m l h w hb hm h9 h10
    by_cases h11 : 65536 < h
    · exact wmore_high b m l h w hb hm h9 h10 h11
    · exact wmore_ok b m l h w hb hm h9 h10 h11
  · exact wmore_no b m l h w hb hm

end Go.Proofs.Ytkdfiaeghbkgnaa
