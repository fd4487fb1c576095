/-
  THE WALK of StoreDone (made by a program).
-/
import Derived.Test.YtmjkhafifemegaaStoQ
namespace Go.Proofs.Ytmjkhafifemegaa
open Go.RowKit Go.Lib Go.Deep
set_option linter.unusedVariables false
set_option linter.unusedSimpArgs false

theorem rdE_cases (L : List Nat) (h : askE L.length = 0) : (rdE19 L = 0 ∧ rdK19 L = ctK L) ∨ rdE19 L ≠ 0 := by
  by_cases e : rdE19 L = 0
  · exact .inl ⟨e, by unfold rdK19; rw [if_pos e]⟩
  · exact .inr e
set_option maxRecDepth 100000 in
set_option maxHeartbeats 2000000 in
theorem sdone_no {a : Option Addr} {n c : Nat} {L : List Nat} {m : Nat} {la : Option Addr} {ln lc : Nat} {l : List Pl} {w : World} (hC : Come w a n c L) (hP : Plans w la ln lc l) (h : ptE L m l ≠ 0) : Calls Try.prog 6 #[dvV a n c, .int .u8 (m : Int), .slice la ln lc] w (fun e w' => e = .returned (.bool true) ∧ Kept w w' none) := by
  have HR1 := Hid.mk' (fun w' (hk : Kept w w' none) => sread_any (hC.kpt hk))
  unfold RdP at HR1
  have hkA : Kept w (w.alloc (.cells (dvC a n c) 24)) none := Kept.alloc _ _ _ _ _
  have HKA := Hid.mk' hkA
  have HDB := Hid.mk' (db_alloc w a n c 24)
  have HC := Hid.mk' hC
  have HP := Hid.mk' hP
  have HDN := Hid.mk' (fun w' (hk : Kept w w' none) => ldone_any (m := m) (wh := 99) (tn := 0) (hC.kpt hk) (hP.kept hk))
  unfold DonP at HDN
  obtain ⟨g1, hg1⟩ : ∃ g : Int, ((rdK19 L).gen : Int) = g := ⟨_, rfl⟩
  obtain ⟨m1, hm1⟩ : ∃ g, (rdK19 L).mode = g := ⟨_, rfl⟩
  obtain ⟨E1, hE1⟩ : ∃ g, rdE19 L = g := ⟨_, rfl⟩
  rw [hg1, hm1, hE1] at HR1
  obtain ⟨hd1, hd2⟩ := dn_no (wh := 99) (tn := 0) h
  rw [hd1, hd2] at HDN
  clear hC hP hg1 hm1 hE1 hkA hd1 hd2 h
  go_enter Try.func6, Try.ntmps6
  go_wp2_with (first
    | (have hgo := K3; clear hgo; go_at_call 14; refine (HDN.out _ K3.out).mono ?_; rintro e w4 ⟨ax, nx, cx, rfl, hcx, hk4⟩; have KA4 : Hid (Kept w4 (w4.alloc (.cells #[.slice ax nx cx] 24)) none) := Hid.mk' (Kept.alloc _ _ _ _ _); have K4 := Hid.mk' ((K3.out.tr hk4).tr KA4.out); have CX := Hid.mk' (hcx.kpt KA4.out); have RK2 := Hid.mk' (rowK (rowK RK1.out hk4) KA4.out); have tt0 : (w4.alloc (.cells #[.slice ax nx cx] 24)).cell? ⟨w3.heap.size, 0, none⟩ = some (.int .i64 g1) := RK2.out.cell (i := 0) (by omega); have tt1 : (w4.alloc (.cells #[.slice ax nx cx] 24)).cell? ⟨w3.heap.size, 1, none⟩ = some (.int .u8 (m1 : Int)) := RK2.out.cell (i := 1) (by omega); have tt2 : (w4.alloc (.cells #[.slice ax nx cx] 24)).cell? ⟨w3.heap.size, 2, none⟩ = some (.slice p1 n1 c1) := RK2.out.cell (i := 2) (by omega); clear hcx hk4)
    | (have hgo := K2; clear hgo; go_at_call 10; refine (HR1.out _ K2.out).mono ?_; rintro e w3 ⟨p1, n1, c1, rfl, hp3, hk3⟩; have KA3 : Hid (Kept w3 (w3.alloc (.cells #[(.int .i64 g1), (.int .u8 (m1 : Int)), (.slice p1 n1 c1)] 30)) none) := Hid.mk' (Kept.alloc _ _ _ _ _); have K3 := Hid.mk' ((K2.out.tr hk3).tr KA3.out); have RK1 := Hid.mk' (row3 w3 (.int .i64 g1) (.int .u8 (m1 : Int)) (.slice p1 n1 c1) 30); have d3 := (cell_kpt (hk3.tr KA3.out) HL2.out).trans d2; have t0 : (w3.alloc (.cells #[(.int .i64 g1), (.int .u8 (m1 : Int)), (.slice p1 n1 c1)] 30)).cell? ⟨w3.heap.size, 0, none⟩ = some (.int .i64 g1) := RK1.out.cell (i := 0) (by omega); have t1 : (w3.alloc (.cells #[(.int .i64 g1), (.int .u8 (m1 : Int)), (.slice p1 n1 c1)] 30)).cell? ⟨w3.heap.size, 1, none⟩ = some (.int .u8 (m1 : Int)) := RK1.out.cell (i := 1) (by omega); have t2 : (w3.alloc (.cells #[(.int .i64 g1), (.int .u8 (m1 : Int)), (.slice p1 n1 c1)] 30)).cell? ⟨w3.heap.size, 2, none⟩ = some (.slice p1 n1 c1) := RK1.out.cell (i := 2) (by omega); clear hp3 hk3)
    | (have hgo := K1; clear hgo; go_at_call 28; refine (much_any HC.out.by_.max (HP.out.kept K1.out)).mono ?_; rintro e w2 ⟨b, rfl, hk2⟩; have K2 := Hid.mk' (K1.out.tr hk2); have d2 := (cell_kpt hk2 HL1.out).trans d1; have HL2 := Hid.mk' (Nat.lt_of_lt_of_le HL1.out hk2.size); clear hk2; cases b)
    | (go_at_call 13; refine (alive_any _).mono ?_; rintro e w1 ⟨rfl, hk1⟩; have K1 := Hid.mk' (HKA.out.tr hk1); have d1 := (HDB.out.kept hk1).c0; have HL1 := Hid.mk' (HDB.out.kept hk1).lt; clear hk1))
  all_goals go_ret
  all_goals first | exact ⟨rfl, K4.out⟩ | exact ⟨rfl, K2.out⟩
set_option maxRecDepth 100000 in
set_option maxHeartbeats 2000000 in
theorem sdone_yes0 {a : Option Addr} {n c : Nat} {L : List Nat} {m : Nat} {la : Option Addr} {ln lc : Nat} {l : List Pl} {w : World} (hC : Come w a n c L) (hP : Plans w la ln lc l) (h : ptE L m l = 0) (h0 : rdE19 L = 0) : Calls Try.prog 6 #[dvV a n c, .int .u8 (m : Int), .slice la ln lc] w (fun e w' => e = .returned (.bool true) ∧ Kept w w' none) := by
  have HR1 := Hid.mk' (fun w' (hk : Kept w w' none) => sread_any (hC.kpt hk))
  unfold RdP at HR1
  have hkA : Kept w (w.alloc (.cells (dvC a n c) 24)) none := Kept.alloc _ _ _ _ _
  have HKA := Hid.mk' hkA
  have HDB := Hid.mk' (db_alloc w a n c 24)
  have HC := Hid.mk' hC
  have HP := Hid.mk' hP
  have HDN := Hid.mk' (fun w' (hk : Kept w w' none) => ldone_any (m := m) (wh := 99) (tn := 0) (hC.kpt hk) (hP.kept hk))
  unfold DonP at HDN
  obtain ⟨g1, hg1⟩ : ∃ g : Int, ((rdK19 L).gen : Int) = g := ⟨_, rfl⟩
  obtain ⟨m1, hm1⟩ : ∃ g, (rdK19 L).mode = g := ⟨_, rfl⟩
  obtain ⟨E1, hE1⟩ : ∃ g, rdE19 L = g := ⟨_, rfl⟩
  have hh := pt_ok h
  have hq := ask_ok hh.ask
  have hmany := hq.2.2.2.2.1
  have hx := dn_ok hh (k := 99) (t := 0) (by omega)
  rw [show min 99 (manK L.length) = manK L.length by omega] at hx
  have hx1 : dnB L m l 99 0 = true := hx.1
  have hx2 : dnL L m l 99 0 = doD (ptW L m l) (manK L.length) 0 L := hx.2
  have hxl : (doD (ptW L m l) (manK L.length) 0 L).length = L.length := x_len hh (by omega)
  have hab := (new_above hh).1
  obtain ⟨r1, r2⟩ := rd_new (X := doD (ptW L m l) (manK L.length) 0 L) (by rw [hxl]; exact hh.ask) (done_read hh 0 (by omega)) (by omega)
  rw [hx1, hx2] at HDN
  have HR2 := Hid.mk' (fun (w' : World) (a' : Option Addr) (n' c' : Nat) (hc : Come w' a' n' c' (doD (ptW L m l) (manK L.length) 0 L)) => sread_any hc)
  unfold RdP at HR2
  rw [r1, r2] at HR2
  obtain ⟨g2, hg2⟩ : ∃ g : Int, ((ptN L : Nat) : Int) = g := ⟨_, rfl⟩
  dsimp only at HR2
  rw [hg2] at HR2
  have hpos : 1 ≤ g2 := by omega
  have hgt : g1 < g2 := by
    have : rdK19 L = ctK L := by unfold rdK19; rw [if_pos h0]
    rw [this] at hg1
    omega
  rw [h0] at hE1
  subst hE1
  rw [hg1, hm1, h0] at HR1
  generalize doD (ptW L m l) (manK L.length) 0 L = X at *
  generalize (rdK19 L).plans = pl1 at *
  clear hC hP hg1 hm1 h0 hkA hx hx1 hx2 r1 r2 hab hxl h hg2 hq hmany hh
  go_enter Try.func6, Try.ntmps6
  go_wp2_with (first
    | (have hgo := RX; clear hgo; go_at_call 25; have hnn := P5.out.size.symm.trans HP.out.size; subst hnn; refine (rsamePlans_yes P5.out.plans (HP.out.kept K5.out)).mono ?_; rintro e w6 ⟨rfl, hk6⟩; have R6 := Hid.mk' (rowK RX.out hk6); have R7 := Hid.mk' (rowK RK3.out hk6); have x0 : w6.cell? ⟨w5.heap.size, 0, none⟩ = some (.int .i64 g2) := R6.out.cell (i := 0) (by omega); have z0 : w6.cell? ⟨w3.heap.size, 0, none⟩ = some (.int .i64 g1) := R7.out.cell (i := 0) (by omega); have K6 := Hid.mk' (K5.out.tr hk6); clear hk6)
    | (have hgo := CX; clear hgo; go_at_call 10; refine (HR2.out _ _ _ _ CX.out).mono ?_; rintro e w5 ⟨p2, n2, c2, rfl, hp5, hk5⟩; have KA5 : Hid (Kept w5 (w5.alloc (.cells #[(.int .i64 g2), (.int .u8 (m : Int)), (.slice p2 n2 c2)] 30)) none) := Hid.mk' (Kept.alloc _ _ _ _ _); have K5 := Hid.mk' ((K4.out.tr hk5).tr KA5.out); have P5 := Hid.mk' (hp5.kept KA5.out); have RK3 := Hid.mk' (rowK (rowK RK2.out hk5) KA5.out); have RX := Hid.mk' (row3 w5 (.int .i64 g2) (.int .u8 (m : Int)) (.slice p2 n2 c2) 30); have v0 : (w5.alloc (.cells #[(.int .i64 g2), (.int .u8 (m : Int)), (.slice p2 n2 c2)] 30)).cell? ⟨w3.heap.size, 0, none⟩ = some (.int .i64 g1) := RK3.out.cell (i := 0) (by omega); have v1 : (w5.alloc (.cells #[(.int .i64 g2), (.int .u8 (m : Int)), (.slice p2 n2 c2)] 30)).cell? ⟨w3.heap.size, 1, none⟩ = some (.int .u8 (m1 : Int)) := RK3.out.cell (i := 1) (by omega); have v2 : (w5.alloc (.cells #[(.int .i64 g2), (.int .u8 (m : Int)), (.slice p2 n2 c2)] 30)).cell? ⟨w3.heap.size, 2, none⟩ = some (.slice p1 n1 c1) := RK3.out.cell (i := 2) (by omega); have u0 : (w5.alloc (.cells #[(.int .i64 g2), (.int .u8 (m : Int)), (.slice p2 n2 c2)] 30)).cell? ⟨w5.heap.size, 0, none⟩ = some (.int .i64 g2) := RX.out.cell (i := 0) (by omega); have u1 : (w5.alloc (.cells #[(.int .i64 g2), (.int .u8 (m : Int)), (.slice p2 n2 c2)] 30)).cell? ⟨w5.heap.size, 1, none⟩ = some (.int .u8 (m : Int)) := RX.out.cell (i := 1) (by omega); have u2 : (w5.alloc (.cells #[(.int .i64 g2), (.int .u8 (m : Int)), (.slice p2 n2 c2)] 30)).cell? ⟨w5.heap.size, 2, none⟩ = some (.slice p2 n2 c2) := RX.out.cell (i := 2) (by omega); clear hp5 hk5 CX)
    | (have hgo := K3; clear hgo; go_at_call 14; refine (HDN.out _ K3.out).mono ?_; rintro e w4 ⟨ax, nx, cx, rfl, hcx, hk4⟩; have KA4 : Hid (Kept w4 (w4.alloc (.cells #[.slice ax nx cx] 24)) none) := Hid.mk' (Kept.alloc _ _ _ _ _); have K4 := Hid.mk' ((K3.out.tr hk4).tr KA4.out); have CX := Hid.mk' (hcx.kpt KA4.out); have RK2 := Hid.mk' (rowK (rowK RK1.out hk4) KA4.out); have tt0 : (w4.alloc (.cells #[.slice ax nx cx] 24)).cell? ⟨w3.heap.size, 0, none⟩ = some (.int .i64 g1) := RK2.out.cell (i := 0) (by omega); have tt1 : (w4.alloc (.cells #[.slice ax nx cx] 24)).cell? ⟨w3.heap.size, 1, none⟩ = some (.int .u8 (m1 : Int)) := RK2.out.cell (i := 1) (by omega); have tt2 : (w4.alloc (.cells #[.slice ax nx cx] 24)).cell? ⟨w3.heap.size, 2, none⟩ = some (.slice p1 n1 c1) := RK2.out.cell (i := 2) (by omega); clear hcx hk4)
    | (have hgo := K2; clear hgo; go_at_call 10; refine (HR1.out _ K2.out).mono ?_; rintro e w3 ⟨p1, n1, c1, rfl, hp3, hk3⟩; have KA3 : Hid (Kept w3 (w3.alloc (.cells #[(.int .i64 g1), (.int .u8 (m1 : Int)), (.slice p1 n1 c1)] 30)) none) := Hid.mk' (Kept.alloc _ _ _ _ _); have K3 := Hid.mk' ((K2.out.tr hk3).tr KA3.out); have RK1 := Hid.mk' (row3 w3 (.int .i64 g1) (.int .u8 (m1 : Int)) (.slice p1 n1 c1) 30); have d3 := (cell_kpt (hk3.tr KA3.out) HL2.out).trans d2; have t0 : (w3.alloc (.cells #[(.int .i64 g1), (.int .u8 (m1 : Int)), (.slice p1 n1 c1)] 30)).cell? ⟨w3.heap.size, 0, none⟩ = some (.int .i64 g1) := RK1.out.cell (i := 0) (by omega); have t1 : (w3.alloc (.cells #[(.int .i64 g1), (.int .u8 (m1 : Int)), (.slice p1 n1 c1)] 30)).cell? ⟨w3.heap.size, 1, none⟩ = some (.int .u8 (m1 : Int)) := RK1.out.cell (i := 1) (by omega); have t2 : (w3.alloc (.cells #[(.int .i64 g1), (.int .u8 (m1 : Int)), (.slice p1 n1 c1)] 30)).cell? ⟨w3.heap.size, 2, none⟩ = some (.slice p1 n1 c1) := RK1.out.cell (i := 2) (by omega); clear hp3 hk3)
    | (have hgo := K1; clear hgo; go_at_call 28; refine (much_any HC.out.by_.max (HP.out.kept K1.out)).mono ?_; rintro e w2 ⟨b, rfl, hk2⟩; have K2 := Hid.mk' (K1.out.tr hk2); have d2 := (cell_kpt hk2 HL1.out).trans d1; have HL2 := Hid.mk' (Nat.lt_of_lt_of_le HL1.out hk2.size); clear hk2; cases b)
    | (go_at_call 13; refine (alive_any _).mono ?_; rintro e w1 ⟨rfl, hk1⟩; have K1 := Hid.mk' (HKA.out.tr hk1); have d1 := (HDB.out.kept hk1).c0; have HL1 := Hid.mk' (HDB.out.kept hk1).lt; clear hk1))
  all_goals go_ret
  all_goals first | exact ⟨by simp, K6.out⟩ | exact ⟨rfl, K2.out⟩
set_option maxRecDepth 100000 in
set_option maxHeartbeats 2000000 in
theorem sdone_yes1 {a : Option Addr} {n c : Nat} {L : List Nat} {m : Nat} {la : Option Addr} {ln lc : Nat} {l : List Pl} {w : World} (hC : Come w a n c L) (hP : Plans w la ln lc l) (h : ptE L m l = 0) (h0 : rdE19 L ≠ 0) : Calls Try.prog 6 #[dvV a n c, .int .u8 (m : Int), .slice la ln lc] w (fun e w' => e = .returned (.bool true) ∧ Kept w w' none) := by
  have HR1 := Hid.mk' (fun w' (hk : Kept w w' none) => sread_any (hC.kpt hk))
  unfold RdP at HR1
  have hkA : Kept w (w.alloc (.cells (dvC a n c) 24)) none := Kept.alloc _ _ _ _ _
  have HKA := Hid.mk' hkA
  have HDB := Hid.mk' (db_alloc w a n c 24)
  have HC := Hid.mk' hC
  have HP := Hid.mk' hP
  have HDN := Hid.mk' (fun w' (hk : Kept w w' none) => ldone_any (m := m) (wh := 99) (tn := 0) (hC.kpt hk) (hP.kept hk))
  unfold DonP at HDN
  obtain ⟨g1, hg1⟩ : ∃ g : Int, ((rdK19 L).gen : Int) = g := ⟨_, rfl⟩
  obtain ⟨m1, hm1⟩ : ∃ g, (rdK19 L).mode = g := ⟨_, rfl⟩
  obtain ⟨E1, hE1⟩ : ∃ g, rdE19 L = g := ⟨_, rfl⟩
  have hh := pt_ok h
  have hq := ask_ok hh.ask
  have hmany := hq.2.2.2.2.1
  have hx := dn_ok hh (k := 99) (t := 0) (by omega)
  rw [show min 99 (manK L.length) = manK L.length by omega] at hx
  have hx1 : dnB L m l 99 0 = true := hx.1
  have hx2 : dnL L m l 99 0 = doD (ptW L m l) (manK L.length) 0 L := hx.2
  have hxl : (doD (ptW L m l) (manK L.length) 0 L).length = L.length := x_len hh (by omega)
  have hab := (new_above hh).1
  obtain ⟨r1, r2⟩ := rd_new (X := doD (ptW L m l) (manK L.length) 0 L) (by rw [hxl]; exact hh.ask) (done_read hh 0 (by omega)) (by omega)
  rw [hx1, hx2] at HDN
  have HR2 := Hid.mk' (fun (w' : World) (a' : Option Addr) (n' c' : Nat) (hc : Come w' a' n' c' (doD (ptW L m l) (manK L.length) 0 L)) => sread_any hc)
  unfold RdP at HR2
  rw [r1, r2] at HR2
  obtain ⟨g2, hg2⟩ : ∃ g : Int, ((ptN L : Nat) : Int) = g := ⟨_, rfl⟩
  dsimp only at HR2
  rw [hg2] at HR2
  have hpos : 1 ≤ g2 := by omega
  rw [hE1] at h0
  rw [hg1, hm1, hE1] at HR1
  generalize doD (ptW L m l) (manK L.length) 0 L = X at *
  generalize (rdK19 L).plans = pl1 at *
  clear hC hP hg1 hm1 hE1 hkA hx hx1 hx2 r1 r2 hab hxl h hg2 hq hmany hh
  go_enter Try.func6, Try.ntmps6
  go_wp2_with (first
    | (have hgo := RX; clear hgo; go_at_call 25; have hnn := P5.out.size.symm.trans HP.out.size; subst hnn; refine (rsamePlans_yes P5.out.plans (HP.out.kept K5.out)).mono ?_; rintro e w6 ⟨rfl, hk6⟩; have R6 := Hid.mk' (rowK RX.out hk6); have R7 := Hid.mk' (rowK RK3.out hk6); have x0 : w6.cell? ⟨w5.heap.size, 0, none⟩ = some (.int .i64 g2) := R6.out.cell (i := 0) (by omega); have z0 : w6.cell? ⟨w3.heap.size, 0, none⟩ = some (.int .i64 g1) := R7.out.cell (i := 0) (by omega); have K6 := Hid.mk' (K5.out.tr hk6); clear hk6)
    | (have hgo := CX; clear hgo; go_at_call 10; refine (HR2.out _ _ _ _ CX.out).mono ?_; rintro e w5 ⟨p2, n2, c2, rfl, hp5, hk5⟩; have KA5 : Hid (Kept w5 (w5.alloc (.cells #[(.int .i64 g2), (.int .u8 (m : Int)), (.slice p2 n2 c2)] 30)) none) := Hid.mk' (Kept.alloc _ _ _ _ _); have K5 := Hid.mk' ((K4.out.tr hk5).tr KA5.out); have P5 := Hid.mk' (hp5.kept KA5.out); have RK3 := Hid.mk' (rowK (rowK RK2.out hk5) KA5.out); have RX := Hid.mk' (row3 w5 (.int .i64 g2) (.int .u8 (m : Int)) (.slice p2 n2 c2) 30); have v0 : (w5.alloc (.cells #[(.int .i64 g2), (.int .u8 (m : Int)), (.slice p2 n2 c2)] 30)).cell? ⟨w3.heap.size, 0, none⟩ = some (.int .i64 g1) := RK3.out.cell (i := 0) (by omega); have v1 : (w5.alloc (.cells #[(.int .i64 g2), (.int .u8 (m : Int)), (.slice p2 n2 c2)] 30)).cell? ⟨w3.heap.size, 1, none⟩ = some (.int .u8 (m1 : Int)) := RK3.out.cell (i := 1) (by omega); have v2 : (w5.alloc (.cells #[(.int .i64 g2), (.int .u8 (m : Int)), (.slice p2 n2 c2)] 30)).cell? ⟨w3.heap.size, 2, none⟩ = some (.slice p1 n1 c1) := RK3.out.cell (i := 2) (by omega); have u0 : (w5.alloc (.cells #[(.int .i64 g2), (.int .u8 (m : Int)), (.slice p2 n2 c2)] 30)).cell? ⟨w5.heap.size, 0, none⟩ = some (.int .i64 g2) := RX.out.cell (i := 0) (by omega); have u1 : (w5.alloc (.cells #[(.int .i64 g2), (.int .u8 (m : Int)), (.slice p2 n2 c2)] 30)).cell? ⟨w5.heap.size, 1, none⟩ = some (.int .u8 (m : Int)) := RX.out.cell (i := 1) (by omega); have u2 : (w5.alloc (.cells #[(.int .i64 g2), (.int .u8 (m : Int)), (.slice p2 n2 c2)] 30)).cell? ⟨w5.heap.size, 2, none⟩ = some (.slice p2 n2 c2) := RX.out.cell (i := 2) (by omega); clear hp5 hk5 CX)
    | (have hgo := K3; clear hgo; go_at_call 14; refine (HDN.out _ K3.out).mono ?_; rintro e w4 ⟨ax, nx, cx, rfl, hcx, hk4⟩; have KA4 : Hid (Kept w4 (w4.alloc (.cells #[.slice ax nx cx] 24)) none) := Hid.mk' (Kept.alloc _ _ _ _ _); have K4 := Hid.mk' ((K3.out.tr hk4).tr KA4.out); have CX := Hid.mk' (hcx.kpt KA4.out); have RK2 := Hid.mk' (rowK (rowK RK1.out hk4) KA4.out); have tt0 : (w4.alloc (.cells #[.slice ax nx cx] 24)).cell? ⟨w3.heap.size, 0, none⟩ = some (.int .i64 g1) := RK2.out.cell (i := 0) (by omega); have tt1 : (w4.alloc (.cells #[.slice ax nx cx] 24)).cell? ⟨w3.heap.size, 1, none⟩ = some (.int .u8 (m1 : Int)) := RK2.out.cell (i := 1) (by omega); have tt2 : (w4.alloc (.cells #[.slice ax nx cx] 24)).cell? ⟨w3.heap.size, 2, none⟩ = some (.slice p1 n1 c1) := RK2.out.cell (i := 2) (by omega); clear hcx hk4)
    | (have hgo := K2; clear hgo; go_at_call 10; refine (HR1.out _ K2.out).mono ?_; rintro e w3 ⟨p1, n1, c1, rfl, hp3, hk3⟩; have KA3 : Hid (Kept w3 (w3.alloc (.cells #[(.int .i64 g1), (.int .u8 (m1 : Int)), (.slice p1 n1 c1)] 30)) none) := Hid.mk' (Kept.alloc _ _ _ _ _); have K3 := Hid.mk' ((K2.out.tr hk3).tr KA3.out); have RK1 := Hid.mk' (row3 w3 (.int .i64 g1) (.int .u8 (m1 : Int)) (.slice p1 n1 c1) 30); have d3 := (cell_kpt (hk3.tr KA3.out) HL2.out).trans d2; have t0 : (w3.alloc (.cells #[(.int .i64 g1), (.int .u8 (m1 : Int)), (.slice p1 n1 c1)] 30)).cell? ⟨w3.heap.size, 0, none⟩ = some (.int .i64 g1) := RK1.out.cell (i := 0) (by omega); have t1 : (w3.alloc (.cells #[(.int .i64 g1), (.int .u8 (m1 : Int)), (.slice p1 n1 c1)] 30)).cell? ⟨w3.heap.size, 1, none⟩ = some (.int .u8 (m1 : Int)) := RK1.out.cell (i := 1) (by omega); have t2 : (w3.alloc (.cells #[(.int .i64 g1), (.int .u8 (m1 : Int)), (.slice p1 n1 c1)] 30)).cell? ⟨w3.heap.size, 2, none⟩ = some (.slice p1 n1 c1) := RK1.out.cell (i := 2) (by omega); clear hp3 hk3)
    | (have hgo := K1; clear hgo; go_at_call 28; refine (much_any HC.out.by_.max (HP.out.kept K1.out)).mono ?_; rintro e w2 ⟨b, rfl, hk2⟩; have K2 := Hid.mk' (K1.out.tr hk2); have d2 := (cell_kpt hk2 HL1.out).trans d1; have HL2 := Hid.mk' (Nat.lt_of_lt_of_le HL1.out hk2.size); clear hk2; cases b)
    | (go_at_call 13; refine (alive_any _).mono ?_; rintro e w1 ⟨rfl, hk1⟩; have K1 := Hid.mk' (HKA.out.tr hk1); have d1 := (HDB.out.kept hk1).c0; have HL1 := Hid.mk' (HDB.out.kept hk1).lt; clear hk1))
  all_goals go_ret
  all_goals first | exact ⟨by simp, K6.out⟩ | exact ⟨rfl, K2.out⟩
theorem sdone_any {a : Option Addr} {n c : Nat} {L : List Nat} {m : Nat} {la : Option Addr} {ln lc : Nat} {l : List Pl} {w : World} (hC : Come w a n c L) (hP : Plans w la ln lc l) : Calls Try.prog 6 #[dvV a n c, .int .u8 (m : Int), .slice la ln lc] w (fun e w' => e = .returned (.bool true) ∧ Kept w w' none) := by
  by_cases h : ptE L m l = 0
  · by_cases h0 : rdE19 L = 0
    · exact sdone_yes0 hC hP h h0
    · exact sdone_yes1 hC hP h h0
  · exact sdone_no hC hP h

end Go.Proofs.Ytmjkhafifemegaa
