/-
  THE WALK of StoreTorn (made by a program).
-/
import Derived.Test.YtmjkhafifemegaaStoQ
namespace Go.Proofs.Ytmjkhafifemegaa
open Go.RowKit Go.Lib Go.Deep
set_option linter.unusedVariables false
set_option linter.unusedSimpArgs false
set_option maxRecDepth 100000 in
set_option maxHeartbeats 2000000 in
theorem storn_a {a : Option Addr} {n c : Nat} {L : List Nat} {m : Nat} {la : Option Addr} {ln lc : Nat} {l : List Pl} {w : World} (hC : Come w a n c L) (hP : Plans w la ln lc l) {wh tn : Int} (h : wh < 0) : Calls Try.prog 7 #[dvV a n c, .int .u8 (m : Int), .slice la ln lc, .int .i64 wh, .int .i64 tn] w (fun e w' => e = .returned (.bool true) ∧ Kept w w' none) := by
  have HPU := Hid.mk' (fun w' (hk : Kept w w' none) => sput_any (md := m) (hC.kpt hk) (hP.kept hk))
  unfold PtP at HPU
  have hkA : Kept w (w.alloc (.cells (dvC a n c) 24)) none := Kept.alloc _ _ _ _ _
  have HKA := Hid.mk' hkA
  have HDB := Hid.mk' (db_alloc w a n c 24)
  have HC := Hid.mk' hC
  have HP := Hid.mk' hP
  clear hC hP hkA
  go_enter Try.func7, Try.ntmps7
  go_wp2_with (first
    | (have hgo := K1; clear hgo; go_at_call 28; refine (much_any HC.out.by_.max (HP.out.kept K1.out)).mono ?_; rintro e w2 ⟨b, rfl, hk2⟩; have K2 := Hid.mk' (K1.out.tr hk2); have d2 := (cell_kpt hk2 HL1.out).trans d1; have HL2 := Hid.mk' (Nat.lt_of_lt_of_le HL1.out hk2.size); clear hk2; cases b)
    | (go_at_call 13; refine (alive_any _).mono ?_; rintro e w1 ⟨rfl, hk1⟩; have K1 := Hid.mk' (HKA.out.tr hk1); have d1 := (HDB.out.kept hk1).c0; have HL1 := Hid.mk' (HDB.out.kept hk1).lt; clear hk1))
  all_goals go_ret
  all_goals first | exact ⟨rfl, K2.out⟩
set_option maxRecDepth 100000 in
set_option maxHeartbeats 2000000 in
theorem storn_b {a : Option Addr} {n c : Nat} {L : List Nat} {m : Nat} {la : Option Addr} {ln lc : Nat} {l : List Pl} {w : World} (hC : Come w a n c L) (hP : Plans w la ln lc l) {wh tn : Int} (h0 : ¬ wh < 0) (h : tn < 0) : Calls Try.prog 7 #[dvV a n c, .int .u8 (m : Int), .slice la ln lc, .int .i64 wh, .int .i64 tn] w (fun e w' => e = .returned (.bool true) ∧ Kept w w' none) := by
  have HPU := Hid.mk' (fun w' (hk : Kept w w' none) => sput_any (md := m) (hC.kpt hk) (hP.kept hk))
  unfold PtP at HPU
  have hkA : Kept w (w.alloc (.cells (dvC a n c) 24)) none := Kept.alloc _ _ _ _ _
  have HKA := Hid.mk' hkA
  have HDB := Hid.mk' (db_alloc w a n c 24)
  have HC := Hid.mk' hC
  have HP := Hid.mk' hP
  clear hC hP hkA
  go_enter Try.func7, Try.ntmps7
  go_wp2_with (first
    | (have hgo := K1; clear hgo; go_at_call 28; refine (much_any HC.out.by_.max (HP.out.kept K1.out)).mono ?_; rintro e w2 ⟨b, rfl, hk2⟩; have K2 := Hid.mk' (K1.out.tr hk2); have d2 := (cell_kpt hk2 HL1.out).trans d1; have HL2 := Hid.mk' (Nat.lt_of_lt_of_le HL1.out hk2.size); clear hk2; cases b)
    | (go_at_call 13; refine (alive_any _).mono ?_; rintro e w1 ⟨rfl, hk1⟩; have K1 := Hid.mk' (HKA.out.tr hk1); have d1 := (HDB.out.kept hk1).c0; have HL1 := Hid.mk' (HDB.out.kept hk1).lt; clear hk1))
  all_goals go_ret
  all_goals first | exact ⟨rfl, K2.out⟩
set_option maxRecDepth 100000 in
set_option maxHeartbeats 2000000 in
theorem storn_c {a : Option Addr} {n c : Nat} {L : List Nat} {m : Nat} {la : Option Addr} {ln lc : Nat} {l : List Pl} {w : World} (hC : Come w a n c L) (hP : Plans w la ln lc l) {wh tn : Int} (h0 : ¬ wh < 0) (h1 : ¬ tn < 0) (h : 64 < tn) : Calls Try.prog 7 #[dvV a n c, .int .u8 (m : Int), .slice la ln lc, .int .i64 wh, .int .i64 tn] w (fun e w' => e = .returned (.bool true) ∧ Kept w w' none) := by
  have HPU := Hid.mk' (fun w' (hk : Kept w w' none) => sput_any (md := m) (hC.kpt hk) (hP.kept hk))
  unfold PtP at HPU
  have hkA : Kept w (w.alloc (.cells (dvC a n c) 24)) none := Kept.alloc _ _ _ _ _
  have HKA := Hid.mk' hkA
  have HDB := Hid.mk' (db_alloc w a n c 24)
  have HC := Hid.mk' hC
  have HP := Hid.mk' hP
  clear hC hP hkA
  go_enter Try.func7, Try.ntmps7
  go_wp2_with (first
    | (have hgo := K1; clear hgo; go_at_call 28; refine (much_any HC.out.by_.max (HP.out.kept K1.out)).mono ?_; rintro e w2 ⟨b, rfl, hk2⟩; have K2 := Hid.mk' (K1.out.tr hk2); have d2 := (cell_kpt hk2 HL1.out).trans d1; have HL2 := Hid.mk' (Nat.lt_of_lt_of_le HL1.out hk2.size); clear hk2; cases b)
    | (go_at_call 13; refine (alive_any _).mono ?_; rintro e w1 ⟨rfl, hk1⟩; have K1 := Hid.mk' (HKA.out.tr hk1); have d1 := (HDB.out.kept hk1).c0; have HL1 := Hid.mk' (HDB.out.kept hk1).lt; clear hk1))
  all_goals go_ret
  all_goals first | exact ⟨rfl, K2.out⟩
set_option maxRecDepth 100000 in
set_option maxHeartbeats 2000000 in
theorem storn_no {a : Option Addr} {n c : Nat} {L : List Nat} {m : Nat} {la : Option Addr} {ln lc : Nat} {l : List Pl} {w : World} (hC : Come w a n c L) (hP : Plans w la ln lc l) {wh tn : Int} (h0 : 0 ≤ wh) (h1 : 0 ≤ tn) (h2 : tn ≤ 64) (h : ptE L m l ≠ 0) : Calls Try.prog 7 #[dvV a n c, .int .u8 (m : Int), .slice la ln lc, .int .i64 wh, .int .i64 tn] w (fun e w' => e = .returned (.bool true) ∧ Kept w w' none) := by
  have HPU := Hid.mk' (fun w' (hk : Kept w w' none) => sput_any (md := m) (hC.kpt hk) (hP.kept hk))
  unfold PtP at HPU
  have hkA : Kept w (w.alloc (.cells (dvC a n c) 24)) none := Kept.alloc _ _ _ _ _
  have HKA := Hid.mk' hkA
  have HDB := Hid.mk' (db_alloc w a n c 24)
  have HC := Hid.mk' hC
  have HP := Hid.mk' hP
  have hl : ptL L m l = [] := by unfold ptL; rw [if_neg h]
  obtain ⟨E, hE⟩ : ∃ g, ptE L m l = g := ⟨_, rfl⟩
  rw [hE] at HPU h
  rw [hl] at HPU
  dsimp only [List.length_nil] at HPU
  clear hC hP hkA hE hl
  go_enter Try.func7, Try.ntmps7
  go_wp2_with (first
    | (have hgo := K2; clear hgo; go_at_call 11; refine (HPU.out _ K2.out).mono ?_; rintro e w3 ⟨ap, cp, rfl, hp3, hk3⟩; have P3 := Hid.mk' hp3.plw; have K3 := Hid.mk' (K2.out.tr hk3); have d3 := (cell_kpt hk3 HL2.out).trans d2; have HL3 := Hid.mk' (Nat.lt_of_lt_of_le HL2.out hk3.size); clear hp3 hk3)
    | (have hgo := K1; clear hgo; go_at_call 28; refine (much_any HC.out.by_.max (HP.out.kept K1.out)).mono ?_; rintro e w2 ⟨b, rfl, hk2⟩; have K2 := Hid.mk' (K1.out.tr hk2); have d2 := (cell_kpt hk2 HL1.out).trans d1; have HL2 := Hid.mk' (Nat.lt_of_lt_of_le HL1.out hk2.size); clear hk2; cases b)
    | (go_at_call 13; refine (alive_any _).mono ?_; rintro e w1 ⟨rfl, hk1⟩; have K1 := Hid.mk' (HKA.out.tr hk1); have d1 := (HDB.out.kept hk1).c0; have HL1 := Hid.mk' (HDB.out.kept hk1).lt; clear hk1))
  all_goals go_ret
  all_goals first | exact ⟨rfl, K3.out⟩ | exact ⟨rfl, K2.out⟩
set_option maxRecDepth 100000 in
set_option maxHeartbeats 2000000 in
theorem storn_far {a : Option Addr} {n c : Nat} {L : List Nat} {m : Nat} {la : Option Addr} {ln lc : Nat} {l : List Pl} {w : World} (hC : Come w a n c L) (hP : Plans w la ln lc l) {k t : Nat} (ht : t ≤ 64) (h : ptE L m l = 0) (hk : manK L.length < k) : Calls Try.prog 7 #[dvV a n c, .int .u8 (m : Int), .slice la ln lc, .int .i64 (k : Int), .int .i64 (t : Int)] w (fun e w' => e = .returned (.bool true) ∧ Kept w w' none) := by
  have HPU := Hid.mk' (fun w' (hk : Kept w w' none) => sput_any (md := m) (hC.kpt hk) (hP.kept hk))
  unfold PtP at HPU
  have hkA : Kept w (w.alloc (.cells (dvC a n c) 24)) none := Kept.alloc _ _ _ _ _
  have HKA := Hid.mk' hkA
  have HDB := Hid.mk' (db_alloc w a n c 24)
  have HC := Hid.mk' hC
  have HP := Hid.mk' hP
  have hh := pt_ok h
  obtain ⟨q1, q2, q3, q4, q5, q6, q7⟩ := ask_ok hh.ask
  have hs := hC.by_.size
  have hpl : (ptL L m l).length = manK L.length := by rw [hh.list, pw_len']
  rw [h, hpl, hh.list] at HPU
  obtain ⟨M, hM⟩ : ∃ M, manK L.length = M := ⟨_, rfl⟩
  rw [hM] at HPU hk
  clear hC hP hkA hh hs hpl hM q1 q2 q3 q4 q5 q6 q7 h
  have hk' : (M : Int) < (k : Int) := by omega
  go_enter Try.func7, Try.ntmps7
  go_wp2_with (first
    | (have hgo := K2; clear hgo; go_at_call 11; refine (HPU.out _ K2.out).mono ?_; rintro e w3 ⟨ap, cp, rfl, hp3, hk3⟩; have P3 := Hid.mk' hp3.plw; have K3 := Hid.mk' (K2.out.tr hk3); have d3 := (cell_kpt hk3 HL2.out).trans d2; have HL3 := Hid.mk' (Nat.lt_of_lt_of_le HL2.out hk3.size); clear hp3 hk3)
    | (have hgo := K1; clear hgo; go_at_call 28; refine (much_any HC.out.by_.max (HP.out.kept K1.out)).mono ?_; rintro e w2 ⟨b, rfl, hk2⟩; have K2 := Hid.mk' (K1.out.tr hk2); have d2 := (cell_kpt hk2 HL1.out).trans d1; have HL2 := Hid.mk' (Nat.lt_of_lt_of_le HL1.out hk2.size); clear hk2; cases b)
    | (go_at_call 13; refine (alive_any _).mono ?_; rintro e w1 ⟨rfl, hk1⟩; have K1 := Hid.mk' (HKA.out.tr hk1); have d1 := (HDB.out.kept hk1).c0; have HL1 := Hid.mk' (HDB.out.kept hk1).lt; clear hk1))
  all_goals go_ret
  all_goals first | exact ⟨rfl, K3.out⟩ | exact ⟨rfl, K2.out⟩
set_option maxRecDepth 100000 in
set_option maxHeartbeats 2000000 in
theorem storn_all {a : Option Addr} {n c : Nat} {L : List Nat} {m : Nat} {la : Option Addr} {ln lc : Nat} {l : List Pl} {w : World} (hC : Come w a n c L) (hP : Plans w la ln lc l) {t : Nat} (ht : t ≤ 64) (h : ptE L m l = 0) : Calls Try.prog 7 #[dvV a n c, .int .u8 (m : Int), .slice la ln lc, .int .i64 (manK L.length : Int), .int .i64 (t : Int)] w (fun e w' => e = .returned (.bool true) ∧ Kept w w' none) := by
  have HPU := Hid.mk' (fun w' (hk : Kept w w' none) => sput_any (md := m) (hC.kpt hk) (hP.kept hk))
  unfold PtP at HPU
  have hkA : Kept w (w.alloc (.cells (dvC a n c) 24)) none := Kept.alloc _ _ _ _ _
  have HKA := Hid.mk' hkA
  have HDB := Hid.mk' (db_alloc w a n c 24)
  have HC := Hid.mk' hC
  have HP := Hid.mk' hP
  have hh := pt_ok h
  obtain ⟨q1, q2, q3, q4, q5, q6, q7⟩ := ask_ok hh.ask
  have hs := hC.by_.size
  have hpl : (ptL L m l).length = manK L.length := by rw [hh.list, pw_len']
  rw [h, hpl, hh.list] at HPU
  obtain ⟨M, hM⟩ : ∃ M, manK L.length = M := ⟨_, rfl⟩
  have HDX := Hid.mk' (fun (w' : World) (hk : Kept w w' none) (a2 : Option Addr) (c2 : Nat) (hp : Plw w' a2 (manK L.length) (ptW L m l)) => do_any c2 w' (hC.kpt hk) hp ((manK L.length) : Int) (t : Int))
  have HDY := Hid.mk' (fun (w' : World) (hk : Kept w w' none) (a2 : Option Addr) (c2 : Nat) (hp : Plw w' a2 (manK L.length) (ptW L m l)) => do_any c2 w' (hC.kpt hk) hp (manK L.length : Int) 0)
  obtain ⟨ex1, ex2⟩ := doE_ok hh (k := (manK L.length)) (t := t) (by omega) ht
  obtain ⟨ey1, ey2⟩ := doE_ok hh (k := manK L.length) (t := 0) (Nat.le_refl _) (by omega)
  rw [← hs, ex1, ex2] at HDX
  rw [← hs] at HDY
  replace ey1 : doE L.length (ptW L m l) (manK L.length : Int) 0 = 0 := ey1
  replace ey2 : doL L (ptW L m l) (manK L.length : Int) 0 = doD (ptW L m l) (manK L.length) 0 L := ey2
  rw [ey1, ey2] at HDY
  have hxl : (doD (ptW L m l) (manK L.length) t L).length = L.length := x_len hh ht
  have hyl : (doD (ptW L m l) (manK L.length) 0 L).length = L.length := x_len hh (by omega)
  have hyc := done_read hh 0 (by omega)
  have hab := (new_above hh).1
  have HXY := Hid.mk' (sam_ct (A := doD (ptW L m l) (manK L.length) t L) (B := doD (ptW L m l) (manK L.length) 0 L) (hxl.trans hyl.symm) ((done_read hh t ht).trans hyc.symm))
  generalize doD (ptW L m l) (manK L.length) t L = X at *
  generalize doD (ptW L m l) (manK L.length) 0 L = Y at *
  rw [hM] at HPU HDX HDY
  rw [hM]
  rw [hM] at q4 q5
  generalize ptW L m l = W at *
  subst hs
  clear hC hP hkA hh hpl hM ex1 ex2 ey1 ey2 hxl hyl hyc hab h q6
  go_enter Try.func7, Try.ntmps7
  go_wp2_with (first
    | (have hgo := CY; clear hgo; go_at_call 30; refine (lsame_yes CX5.out CY.out HXY.out).mono ?_; rintro e w6 ⟨rfl, hk6⟩; have K6 := Hid.mk' (K5.out.tr hk6); clear hk6)
    | (have hgo := CX; clear hgo; go_at_call 29; refine (HDY.out _ K4.out _ cp P4.out).mono ?_; rintro e w5 ⟨⟨ay, ny, cy, rfl, hdy⟩, hk5⟩; have KA5 : Hid (Kept w5 (w5.alloc (.cells #[.slice ay ny cy] 24)) none) := Hid.mk' (Kept.alloc _ _ _ _ _); have K5 := Hid.mk' ((K4.out.tr hk5).tr KA5.out); have CY := Hid.mk' (hdy.come.kpt KA5.out); have CX5 := Hid.mk' (CX.out.kpt (hk5.tr KA5.out)); have RX5 := Hid.mk' (rowK (rowK RX.out hk5) KA5.out); have RY := Hid.mk' (row1 w5 (.slice ay ny cy) 24); have d5 := (cell_kpt (hk5.tr KA5.out) HL4.out).trans d4; have HL5 := Hid.mk' (Nat.lt_of_lt_of_le HL4.out (hk5.tr KA5.out).size); have u0 : (w5.alloc (.cells #[.slice ay ny cy] 24)).cell? ⟨w4.heap.size, 0, none⟩ = some (.slice ax nx cx) := RX5.out.cell (i := 0) (by omega); have v0 : (w5.alloc (.cells #[.slice ay ny cy] 24)).cell? ⟨w5.heap.size, 0, none⟩ = some (.slice ay ny cy) := RY.out.cell (i := 0) (by omega); clear hdy hk5 CX)
    | (have hgo := K3; clear hgo; go_at_call 29; refine (HDX.out _ K3.out _ cp P3.out).mono ?_; rintro e w4 ⟨⟨ax, nx, cx, rfl, hdx⟩, hk4⟩; have KA4 : Hid (Kept w4 (w4.alloc (.cells #[.slice ax nx cx] 24)) none) := Hid.mk' (Kept.alloc _ _ _ _ _); have K4 := Hid.mk' ((K3.out.tr hk4).tr KA4.out); have CX := Hid.mk' (hdx.come.kpt KA4.out); have P4 := Hid.mk' (P3.out.kept (hk4.tr KA4.out)); have RX := Hid.mk' (row1 w4 (.slice ax nx cx) 24); have d4 := (cell_kpt (hk4.tr KA4.out) HL3.out).trans d3; have HL4 := Hid.mk' (Nat.lt_of_lt_of_le HL3.out (hk4.tr KA4.out).size); have t0 : (w4.alloc (.cells #[.slice ax nx cx] 24)).cell? ⟨w4.heap.size, 0, none⟩ = some (.slice ax nx cx) := RX.out.cell (i := 0) (by omega); clear hdx hk4)
    | (have hgo := K2; clear hgo; go_at_call 11; refine (HPU.out _ K2.out).mono ?_; rintro e w3 ⟨ap, cp, rfl, hp3, hk3⟩; have P3 := Hid.mk' hp3.plw; have K3 := Hid.mk' (K2.out.tr hk3); have d3 := (cell_kpt hk3 HL2.out).trans d2; have HL3 := Hid.mk' (Nat.lt_of_lt_of_le HL2.out hk3.size); clear hp3 hk3)
    | (have hgo := K1; clear hgo; go_at_call 28; refine (much_any HC.out.by_.max (HP.out.kept K1.out)).mono ?_; rintro e w2 ⟨b, rfl, hk2⟩; have K2 := Hid.mk' (K1.out.tr hk2); have d2 := (cell_kpt hk2 HL1.out).trans d1; have HL2 := Hid.mk' (Nat.lt_of_lt_of_le HL1.out hk2.size); clear hk2; cases b)
    | (go_at_call 13; refine (alive_any _).mono ?_; rintro e w1 ⟨rfl, hk1⟩; have K1 := Hid.mk' (HKA.out.tr hk1); have d1 := (HDB.out.kept hk1).c0; have HL1 := Hid.mk' (HDB.out.kept hk1).lt; clear hk1))
  all_goals go_ret
  all_goals first | exact ⟨by simp, K6.out⟩ | exact ⟨rfl, K2.out⟩
set_option maxRecDepth 100000 in
set_option maxHeartbeats 2000000 in
theorem storn_keep {a : Option Addr} {n c : Nat} {L : List Nat} {m : Nat} {la : Option Addr} {ln lc : Nat} {l : List Pl} {w : World} (hC : Come w a n c L) (hP : Plans w la ln lc l) {k t : Nat} (ht : t ≤ 64) (h : ptE L m l = 0) (hk : k < manK L.length) (hct : ctK (doD (ptW L m l) k t L) = ctK L) : Calls Try.prog 7 #[dvV a n c, .int .u8 (m : Int), .slice la ln lc, .int .i64 (k : Int), .int .i64 (t : Int)] w (fun e w' => e = .returned (.bool true) ∧ Kept w w' none) := by
  have HPU := Hid.mk' (fun w' (hk : Kept w w' none) => sput_any (md := m) (hC.kpt hk) (hP.kept hk))
  unfold PtP at HPU
  have hkA : Kept w (w.alloc (.cells (dvC a n c) 24)) none := Kept.alloc _ _ _ _ _
  have HKA := Hid.mk' hkA
  have HDB := Hid.mk' (db_alloc w a n c 24)
  have HC := Hid.mk' hC
  have HP := Hid.mk' hP
  have hh := pt_ok h
  obtain ⟨q1, q2, q3, q4, q5, q6, q7⟩ := ask_ok hh.ask
  have hs := hC.by_.size
  have hpl : (ptL L m l).length = manK L.length := by rw [hh.list, pw_len']
  rw [h, hpl, hh.list] at HPU
  obtain ⟨M, hM⟩ : ∃ M, manK L.length = M := ⟨_, rfl⟩
  have HDX := Hid.mk' (fun (w' : World) (hk : Kept w w' none) (a2 : Option Addr) (c2 : Nat) (hp : Plw w' a2 (manK L.length) (ptW L m l)) => do_any c2 w' (hC.kpt hk) hp (k : Int) (t : Int))
  have HDY := Hid.mk' (fun (w' : World) (hk : Kept w w' none) (a2 : Option Addr) (c2 : Nat) (hp : Plw w' a2 (manK L.length) (ptW L m l)) => do_any c2 w' (hC.kpt hk) hp (manK L.length : Int) 0)
  obtain ⟨ex1, ex2⟩ := doE_ok hh (k := k) (t := t) (by omega) ht
  obtain ⟨ey1, ey2⟩ := doE_ok hh (k := manK L.length) (t := 0) (Nat.le_refl _) (by omega)
  rw [← hs, ex1, ex2] at HDX
  rw [← hs] at HDY
  replace ey1 : doE L.length (ptW L m l) (manK L.length : Int) 0 = 0 := ey1
  replace ey2 : doL L (ptW L m l) (manK L.length : Int) 0 = doD (ptW L m l) (manK L.length) 0 L := ey2
  rw [ey1, ey2] at HDY
  have hxl : (doD (ptW L m l) k t L).length = L.length := x_len hh ht
  have hyl : (doD (ptW L m l) (manK L.length) 0 L).length = L.length := x_len hh (by omega)
  have hyc := done_read hh 0 (by omega)
  have hab := (new_above hh).1
  have HXD := Hid.mk' (sam_ct (A := doD (ptW L m l) k t L) (B := L) hxl hct)
  generalize doD (ptW L m l) k t L = X at *
  generalize doD (ptW L m l) (manK L.length) 0 L = Y at *
  rw [hM] at HPU HDX HDY
  rw [hM] at hk q4 q5
  generalize ptW L m l = W at *
  subst hs
  clear hC hP hkA hh hpl hM ex1 ex2 ey1 ey2 hxl hyl hyc hab h q6 hct
  have hk1 : (k : Int) < (M : Int) := by omega
  have hk2 : ¬ (k : Int) = (M : Int) := by omega
  go_enter Try.func7, Try.ntmps7
  go_wp2_with (first
    | (have hgo := CY; clear hgo; go_at_call 30; refine (lsame_yes CX5.out (HC.out.kpt K5.out) HXD.out).mono ?_; rintro e w6 ⟨rfl, hk6⟩; have K6 := Hid.mk' (K5.out.tr hk6); clear hk6)
    | (have hgo := CX; clear hgo; go_at_call 29; refine (HDY.out _ K4.out _ cp P4.out).mono ?_; rintro e w5 ⟨⟨ay, ny, cy, rfl, hdy⟩, hk5⟩; have KA5 : Hid (Kept w5 (w5.alloc (.cells #[.slice ay ny cy] 24)) none) := Hid.mk' (Kept.alloc _ _ _ _ _); have K5 := Hid.mk' ((K4.out.tr hk5).tr KA5.out); have CY := Hid.mk' (hdy.come.kpt KA5.out); have CX5 := Hid.mk' (CX.out.kpt (hk5.tr KA5.out)); have RX5 := Hid.mk' (rowK (rowK RX.out hk5) KA5.out); have RY := Hid.mk' (row1 w5 (.slice ay ny cy) 24); have d5 := (cell_kpt (hk5.tr KA5.out) HL4.out).trans d4; have HL5 := Hid.mk' (Nat.lt_of_lt_of_le HL4.out (hk5.tr KA5.out).size); have u0 : (w5.alloc (.cells #[.slice ay ny cy] 24)).cell? ⟨w4.heap.size, 0, none⟩ = some (.slice ax nx cx) := RX5.out.cell (i := 0) (by omega); have v0 : (w5.alloc (.cells #[.slice ay ny cy] 24)).cell? ⟨w5.heap.size, 0, none⟩ = some (.slice ay ny cy) := RY.out.cell (i := 0) (by omega); clear hdy hk5 CX)
    | (have hgo := K3; clear hgo; go_at_call 29; refine (HDX.out _ K3.out _ cp P3.out).mono ?_; rintro e w4 ⟨⟨ax, nx, cx, rfl, hdx⟩, hk4⟩; have KA4 : Hid (Kept w4 (w4.alloc (.cells #[.slice ax nx cx] 24)) none) := Hid.mk' (Kept.alloc _ _ _ _ _); have K4 := Hid.mk' ((K3.out.tr hk4).tr KA4.out); have CX := Hid.mk' (hdx.come.kpt KA4.out); have P4 := Hid.mk' (P3.out.kept (hk4.tr KA4.out)); have RX := Hid.mk' (row1 w4 (.slice ax nx cx) 24); have d4 := (cell_kpt (hk4.tr KA4.out) HL3.out).trans d3; have HL4 := Hid.mk' (Nat.lt_of_lt_of_le HL3.out (hk4.tr KA4.out).size); have t0 : (w4.alloc (.cells #[.slice ax nx cx] 24)).cell? ⟨w4.heap.size, 0, none⟩ = some (.slice ax nx cx) := RX.out.cell (i := 0) (by omega); clear hdx hk4)
    | (have hgo := K2; clear hgo; go_at_call 11; refine (HPU.out _ K2.out).mono ?_; rintro e w3 ⟨ap, cp, rfl, hp3, hk3⟩; have P3 := Hid.mk' hp3.plw; have K3 := Hid.mk' (K2.out.tr hk3); have d3 := (cell_kpt hk3 HL2.out).trans d2; have HL3 := Hid.mk' (Nat.lt_of_lt_of_le HL2.out hk3.size); clear hp3 hk3)
    | (have hgo := K1; clear hgo; go_at_call 28; refine (much_any HC.out.by_.max (HP.out.kept K1.out)).mono ?_; rintro e w2 ⟨b, rfl, hk2⟩; have K2 := Hid.mk' (K1.out.tr hk2); have d2 := (cell_kpt hk2 HL1.out).trans d1; have HL2 := Hid.mk' (Nat.lt_of_lt_of_le HL1.out hk2.size); clear hk2; cases b)
    | (go_at_call 13; refine (alive_any _).mono ?_; rintro e w1 ⟨rfl, hk1⟩; have K1 := Hid.mk' (HKA.out.tr hk1); have d1 := (HDB.out.kept hk1).c0; have HL1 := Hid.mk' (HDB.out.kept hk1).lt; clear hk1))
  all_goals go_ret
  all_goals first | exact ⟨by simp, K6.out⟩ | exact ⟨rfl, K2.out⟩
set_option maxRecDepth 100000 in
set_option maxHeartbeats 2000000 in
theorem storn_new {a : Option Addr} {n c : Nat} {L : List Nat} {m : Nat} {la : Option Addr} {ln lc : Nat} {l : List Pl} {w : World} (hC : Come w a n c L) (hP : Plans w la ln lc l) {k t : Nat} (ht : t ≤ 64) (h : ptE L m l = 0) (hk : k < manK L.length) (hct : ctK (doD (ptW L m l) k t L) = ⟨ptN L, m, l⟩) (hnn : 64 * (manK L.length - 1) < nnW k t (manK L.length)) : Calls Try.prog 7 #[dvV a n c, .int .u8 (m : Int), .slice la ln lc, .int .i64 (k : Int), .int .i64 (t : Int)] w (fun e w' => e = .returned (.bool true) ∧ Kept w w' none) := by
  have HPU := Hid.mk' (fun w' (hk : Kept w w' none) => sput_any (md := m) (hC.kpt hk) (hP.kept hk))
  unfold PtP at HPU
  have hkA : Kept w (w.alloc (.cells (dvC a n c) 24)) none := Kept.alloc _ _ _ _ _
  have HKA := Hid.mk' hkA
  have HDB := Hid.mk' (db_alloc w a n c 24)
  have HC := Hid.mk' hC
  have HP := Hid.mk' hP
  have hh := pt_ok h
  obtain ⟨q1, q2, q3, q4, q5, q6, q7⟩ := ask_ok hh.ask
  have hs := hC.by_.size
  have hpl : (ptL L m l).length = manK L.length := by rw [hh.list, pw_len']
  rw [h, hpl, hh.list] at HPU
  obtain ⟨M, hM⟩ : ∃ M, manK L.length = M := ⟨_, rfl⟩
  have HDX := Hid.mk' (fun (w' : World) (hk : Kept w w' none) (a2 : Option Addr) (c2 : Nat) (hp : Plw w' a2 (manK L.length) (ptW L m l)) => do_any c2 w' (hC.kpt hk) hp (k : Int) (t : Int))
  have HDY := Hid.mk' (fun (w' : World) (hk : Kept w w' none) (a2 : Option Addr) (c2 : Nat) (hp : Plw w' a2 (manK L.length) (ptW L m l)) => do_any c2 w' (hC.kpt hk) hp (manK L.length : Int) 0)
  obtain ⟨ex1, ex2⟩ := doE_ok hh (k := k) (t := t) (by omega) ht
  obtain ⟨ey1, ey2⟩ := doE_ok hh (k := manK L.length) (t := 0) (Nat.le_refl _) (by omega)
  rw [← hs, ex1, ex2] at HDX
  rw [← hs] at HDY
  replace ey1 : doE L.length (ptW L m l) (manK L.length : Int) 0 = 0 := ey1
  replace ey2 : doL L (ptW L m l) (manK L.length : Int) 0 = doD (ptW L m l) (manK L.length) 0 L := ey2
  rw [ey1, ey2] at HDY
  have hxl : (doD (ptW L m l) k t L).length = L.length := x_len hh ht
  have hyl : (doD (ptW L m l) (manK L.length) 0 L).length = L.length := x_len hh (by omega)
  have hyc := done_read hh 0 (by omega)
  have hab := (new_above hh).1
  have HXD := Hid.mk' (sam_not (A := doD (ptW L m l) k t L) (B := L) (by rw [hxl]; exact hh.ask) hct hab)
  have HXY := Hid.mk' (sam_ct (A := doD (ptW L m l) k t L) (B := doD (ptW L m l) (manK L.length) 0 L) (hxl.trans hyl.symm) (hct.trans hyc.symm))
  generalize doD (ptW L m l) k t L = X at *
  generalize doD (ptW L m l) (manK L.length) 0 L = Y at *
  rw [hM] at HPU HDX HDY
  rw [hM] at hk q4 q5 hnn
  generalize ptW L m l = W at *
  subst hs
  have hk1 : k = M - 1 ∧ 0 < t := by
    unfold nnW at hnn
    rw [if_pos hk] at hnn
    omega
  obtain ⟨hk3, ht0⟩ := hk1
  have hk2 : ¬ (k : Int) = (M : Int) := by omega
  have hk4 : (((k : Int) == (M : Int) - 1) = true) := by rw [beq_iff_eq]; omega
  have hk6 : (decide ((k : Int) = (M : Int) - 1) = true) := by rw [decide_eq_true_eq]; omega
  have ht1 : (0 : Int) < (t : Int) := by omega
  have hk5 : (k : Int) < (M : Int) := by omega
  have HK := Hid.mk' (And.intro hk4 (And.intro hk6 ht1))
  clear hC hP hkA hh hpl hM ex1 ex2 ey1 ey2 hxl hyl hyc hab h q6 hct hnn hk3 ht0 hk4 hk6 ht1
  go_enter Try.func7, Try.ntmps7
  go_wp2_with (first
    | (have hgo := CX6; clear hgo; go_at_call 30; refine (lsame_yes CX6.out CY6.out HXY.out).mono ?_; rintro e w7 ⟨rfl, hk7⟩; have K7 := Hid.mk' (K6.out.tr hk7); clear hk7)
    | (have hgo := CX5; clear hgo; go_at_call 30; refine (lsame_no CX5.out (HC.out.kpt K5.out) HXD.out).mono ?_; rintro e w6 ⟨rfl, hk6⟩; have K6 := Hid.mk' (K5.out.tr hk6); have CX6 := Hid.mk' (CX5.out.kpt hk6); have CY6 := Hid.mk' (CY.out.kpt hk6); have x0 := (rowK RX5.out hk6).cell (i := 0) (by omega); have y0 := (rowK RY.out hk6).cell (i := 0) (by omega); (try simp at x0); (try simp at y0); clear hk6 CX5)
    | (have hgo := CX; clear hgo; go_at_call 29; refine (HDY.out _ K4.out _ cp P4.out).mono ?_; rintro e w5 ⟨⟨ay, ny, cy, rfl, hdy⟩, hk5⟩; have KA5 : Hid (Kept w5 (w5.alloc (.cells #[.slice ay ny cy] 24)) none) := Hid.mk' (Kept.alloc _ _ _ _ _); have K5 := Hid.mk' ((K4.out.tr hk5).tr KA5.out); have CY := Hid.mk' (hdy.come.kpt KA5.out); have CX5 := Hid.mk' (CX.out.kpt (hk5.tr KA5.out)); have RX5 := Hid.mk' (rowK (rowK RX.out hk5) KA5.out); have RY := Hid.mk' (row1 w5 (.slice ay ny cy) 24); have d5 := (cell_kpt (hk5.tr KA5.out) HL4.out).trans d4; have HL5 := Hid.mk' (Nat.lt_of_lt_of_le HL4.out (hk5.tr KA5.out).size); have u0 : (w5.alloc (.cells #[.slice ay ny cy] 24)).cell? ⟨w4.heap.size, 0, none⟩ = some (.slice ax nx cx) := RX5.out.cell (i := 0) (by omega); have v0 : (w5.alloc (.cells #[.slice ay ny cy] 24)).cell? ⟨w5.heap.size, 0, none⟩ = some (.slice ay ny cy) := RY.out.cell (i := 0) (by omega); clear hdy hk5 CX)
    | (have hgo := K3; clear hgo; go_at_call 29; refine (HDX.out _ K3.out _ cp P3.out).mono ?_; rintro e w4 ⟨⟨ax, nx, cx, rfl, hdx⟩, hk4⟩; have KA4 : Hid (Kept w4 (w4.alloc (.cells #[.slice ax nx cx] 24)) none) := Hid.mk' (Kept.alloc _ _ _ _ _); have K4 := Hid.mk' ((K3.out.tr hk4).tr KA4.out); have CX := Hid.mk' (hdx.come.kpt KA4.out); have P4 := Hid.mk' (P3.out.kept (hk4.tr KA4.out)); have RX := Hid.mk' (row1 w4 (.slice ax nx cx) 24); have d4 := (cell_kpt (hk4.tr KA4.out) HL3.out).trans d3; have HL4 := Hid.mk' (Nat.lt_of_lt_of_le HL3.out (hk4.tr KA4.out).size); have t0 : (w4.alloc (.cells #[.slice ax nx cx] 24)).cell? ⟨w4.heap.size, 0, none⟩ = some (.slice ax nx cx) := RX.out.cell (i := 0) (by omega); clear hdx hk4)
    | (have hgo := K2; clear hgo; go_at_call 11; refine (HPU.out _ K2.out).mono ?_; rintro e w3 ⟨ap, cp, rfl, hp3, hk3⟩; have P3 := Hid.mk' hp3.plw; have K3 := Hid.mk' (K2.out.tr hk3); have d3 := (cell_kpt hk3 HL2.out).trans d2; have HL3 := Hid.mk' (Nat.lt_of_lt_of_le HL2.out hk3.size); clear hp3 hk3)
    | (have hgo := K1; clear hgo; go_at_call 28; refine (much_any HC.out.by_.max (HP.out.kept K1.out)).mono ?_; rintro e w2 ⟨b, rfl, hk2⟩; have K2 := Hid.mk' (K1.out.tr hk2); have d2 := (cell_kpt hk2 HL1.out).trans d1; have HL2 := Hid.mk' (Nat.lt_of_lt_of_le HL1.out hk2.size); clear hk2; cases b)
    | (go_at_call 13; refine (alive_any _).mono ?_; rintro e w1 ⟨rfl, hk1⟩; have K1 := Hid.mk' (HKA.out.tr hk1); have d1 := (HDB.out.kept hk1).c0; have HL1 := Hid.mk' (HDB.out.kept hk1).lt; clear hk1))
  all_goals go_ret
  all_goals first | (exfalso; have e3 := HK.out.2.2; omega) | exact ⟨by obtain ⟨e1, e2, e3⟩ := HK.out; simp [e1, e2, e3], K7.out⟩ | exact ⟨by obtain ⟨e1, e2, e3⟩ := HK.out; simp at e1; simp [e1, e3], K7.out⟩ | exact ⟨rfl, K2.out⟩
theorem storn_any {a : Option Addr} {n c : Nat} {L : List Nat} {m : Nat} {la : Option Addr} {ln lc : Nat} {l : List Pl} {w : World} (hC : Come w a n c L) (hP : Plans w la ln lc l) {wh tn : Int} : Calls Try.prog 7 #[dvV a n c, .int .u8 (m : Int), .slice la ln lc, .int .i64 wh, .int .i64 tn] w (fun e w' => e = .returned (.bool true) ∧ Kept w w' none) := by
  by_cases h1 : wh < 0
  · exact storn_a hC hP h1
  by_cases h2 : tn < 0
  · exact storn_b hC hP h1 h2
  by_cases h3 : 64 < tn
  · exact storn_c hC hP h1 h2 h3
  by_cases h : ptE L m l = 0
  · obtain ⟨k, rfl⟩ := Int.eq_ofNat_of_zero_le (show 0 ≤ wh by omega)
    obtain ⟨t, rfl⟩ := Int.eq_ofNat_of_zero_le (show 0 ≤ tn by omega)
    have ht : t ≤ 64 := by omega
    rcases Nat.lt_trichotomy k (manK L.length) with hk | hk | hk
    · rcases torn_read hC.by_.lt (pt_ok h) (k := k) (t := t) (by omega) ht with hc | ⟨hc, hn⟩
      · exact storn_keep hC hP ht h hk hc
      · exact storn_new hC hP ht h hk hc hn
    · subst hk
      exact storn_all hC hP ht h
    · exact storn_far hC hP ht h hk
  · exact storn_no hC hP (by omega) (by omega) (by omega) h

end Go.Proofs.Ytmjkhafifemegaa
