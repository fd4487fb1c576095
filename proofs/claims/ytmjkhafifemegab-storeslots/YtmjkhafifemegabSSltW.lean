/-
  THE WALK of StoreSlots (made by a program).
-/
import Derived.Test.YtmjkhafifemegabStoQ
import Derived.Test.YtmjkhafifemegabStoI
import Derived.Test.YtmjkhafifemegabSSameQ
namespace Go.Proofs.Ytmjkhafifemegab
open Go.RowKit Go.Lib Go.Deep
set_option linter.unusedVariables false
set_option linter.unusedSimpArgs false

theorem rsamePlans_y {a a' : Option Addr} {n n' c c' : Nat} {l : List Pl} {w : World} (h1 : Plans w a n c l) (h2 : Plans w a' n' c' l) : Calls Try.prog 10 #[.slice a n c, .slice a' n' c'] w fun e w' => e = .returned (.bool true) ∧ Kept w w' none := by
  have hnn := h1.size.symm.trans h2.size
  subst hnn
  exact rsamePlans_yes h1 h2
set_option maxRecDepth 100000 in
set_option maxHeartbeats 3000000 in
theorem sslt_e0 {a : Option Addr} {n c : Nat} {L : List Nat} {m : Nat} {la : Option Addr} {ln lc : Nat} {l : List Pl} {w : World} (hC : Come w a n c L) (hP : Plans w la ln lc l) {wh tn : Int}  (h : wh < 0) : Calls Try.prog 3 #[dvV a n c, .int .u8 (m : Int), .slice la ln lc, .int .i64 wh, .int .i64 tn] w (fun e w' => e = .returned (.bool true) ∧ Kept w w' none) := by
  have hkA : Kept w (w.alloc (.cells (dvC a n c) 24)) none := Kept.alloc _ _ _ _ _
  have KZ := Hid.mk' hkA
  have r1 : (w.alloc (.cells (dvC a n c) 24)).rowIs w.heap.size 24 1 (fun _ => .slice a n c) := row1 w (.slice a n c) 24
  have RD := Hid.mk' r1
  have HC := Hid.mk' hC
  have HP := Hid.mk' hP
  have HR := Hid.mk' (fun w' (hk : Kept w w' none) => sread_any (hC.kpt hk))
  have HPU := Hid.mk' (fun w' (hk : Kept w w' none) => sput_any (md := m) (hC.kpt hk) (hP.kept hk))
  unfold RdP at HR
  unfold PtP at HPU
  clear HR HPU
  clear hC hP hkA r1
  go_enter Try.func3, Try.ntmps3
  go_wp2_with (first
    | (have hgo := M1; clear hgo; go_at_call 5; refine (much_any HC.out.by_.max (HP.out.kept K.out)).mono ?_; rintro e w2 ⟨b, rfl, hk2⟩; replace K := Hid.mk' (K.out.tr hk2); replace RD := Hid.mk' (rowK RD.out hk2); replace d0 : w2.cell? ⟨w.heap.size, 0, none⟩ = some (.slice a n c) := RD.out.cell (i := 0) (by omega); have M2 := Hid.mk' True.intro; clear hk2 M1; cases b)
    | (go_at_call 4; refine (alive_any _).mono ?_; rintro e w1 ⟨rfl, hk1⟩; have K := Hid.mk' (KZ.out.tr hk1); replace RD := Hid.mk' (rowK RD.out hk1); have d0 : w1.cell? ⟨w.heap.size, 0, none⟩ = some (.slice a n c) := RD.out.cell (i := 0) (by omega); have M1 := Hid.mk' True.intro; clear hk1 KZ))
  all_goals go_ret
  all_goals first | exact ⟨rfl, K.out⟩
set_option maxRecDepth 100000 in
set_option maxHeartbeats 3000000 in
theorem sslt_e1 {a : Option Addr} {n c : Nat} {L : List Nat} {m : Nat} {la : Option Addr} {ln lc : Nat} {l : List Pl} {w : World} (hC : Come w a n c L) (hP : Plans w la ln lc l) {wh tn : Int} (h0 : ¬ wh < 0) (h : tn < 0) : Calls Try.prog 3 #[dvV a n c, .int .u8 (m : Int), .slice la ln lc, .int .i64 wh, .int .i64 tn] w (fun e w' => e = .returned (.bool true) ∧ Kept w w' none) := by
  have hkA : Kept w (w.alloc (.cells (dvC a n c) 24)) none := Kept.alloc _ _ _ _ _
  have KZ := Hid.mk' hkA
  have r1 : (w.alloc (.cells (dvC a n c) 24)).rowIs w.heap.size 24 1 (fun _ => .slice a n c) := row1 w (.slice a n c) 24
  have RD := Hid.mk' r1
  have HC := Hid.mk' hC
  have HP := Hid.mk' hP
  have HR := Hid.mk' (fun w' (hk : Kept w w' none) => sread_any (hC.kpt hk))
  have HPU := Hid.mk' (fun w' (hk : Kept w w' none) => sput_any (md := m) (hC.kpt hk) (hP.kept hk))
  unfold RdP at HR
  unfold PtP at HPU
  clear HR HPU
  clear hC hP hkA r1
  go_enter Try.func3, Try.ntmps3
  go_wp2_with (first
    | (have hgo := M1; clear hgo; go_at_call 5; refine (much_any HC.out.by_.max (HP.out.kept K.out)).mono ?_; rintro e w2 ⟨b, rfl, hk2⟩; replace K := Hid.mk' (K.out.tr hk2); replace RD := Hid.mk' (rowK RD.out hk2); replace d0 : w2.cell? ⟨w.heap.size, 0, none⟩ = some (.slice a n c) := RD.out.cell (i := 0) (by omega); have M2 := Hid.mk' True.intro; clear hk2 M1; cases b)
    | (go_at_call 4; refine (alive_any _).mono ?_; rintro e w1 ⟨rfl, hk1⟩; have K := Hid.mk' (KZ.out.tr hk1); replace RD := Hid.mk' (rowK RD.out hk1); have d0 : w1.cell? ⟨w.heap.size, 0, none⟩ = some (.slice a n c) := RD.out.cell (i := 0) (by omega); have M1 := Hid.mk' True.intro; clear hk1 KZ))
  all_goals go_ret
  all_goals first | exact ⟨rfl, K.out⟩
set_option maxRecDepth 100000 in
set_option maxHeartbeats 3000000 in
theorem sslt_e2 {a : Option Addr} {n c : Nat} {L : List Nat} {m : Nat} {la : Option Addr} {ln lc : Nat} {l : List Pl} {w : World} (hC : Come w a n c L) (hP : Plans w la ln lc l) {wh tn : Int} (h0 : ¬ wh < 0) (h1 : ¬ tn < 0) (h : 64 < tn) : Calls Try.prog 3 #[dvV a n c, .int .u8 (m : Int), .slice la ln lc, .int .i64 wh, .int .i64 tn] w (fun e w' => e = .returned (.bool true) ∧ Kept w w' none) := by
  have hkA : Kept w (w.alloc (.cells (dvC a n c) 24)) none := Kept.alloc _ _ _ _ _
  have KZ := Hid.mk' hkA
  have r1 : (w.alloc (.cells (dvC a n c) 24)).rowIs w.heap.size 24 1 (fun _ => .slice a n c) := row1 w (.slice a n c) 24
  have RD := Hid.mk' r1
  have HC := Hid.mk' hC
  have HP := Hid.mk' hP
  have HR := Hid.mk' (fun w' (hk : Kept w w' none) => sread_any (hC.kpt hk))
  have HPU := Hid.mk' (fun w' (hk : Kept w w' none) => sput_any (md := m) (hC.kpt hk) (hP.kept hk))
  unfold RdP at HR
  unfold PtP at HPU
  clear HR HPU
  clear hC hP hkA r1
  go_enter Try.func3, Try.ntmps3
  go_wp2_with (first
    | (have hgo := M1; clear hgo; go_at_call 5; refine (much_any HC.out.by_.max (HP.out.kept K.out)).mono ?_; rintro e w2 ⟨b, rfl, hk2⟩; replace K := Hid.mk' (K.out.tr hk2); replace RD := Hid.mk' (rowK RD.out hk2); replace d0 : w2.cell? ⟨w.heap.size, 0, none⟩ = some (.slice a n c) := RD.out.cell (i := 0) (by omega); have M2 := Hid.mk' True.intro; clear hk2 M1; cases b)
    | (go_at_call 4; refine (alive_any _).mono ?_; rintro e w1 ⟨rfl, hk1⟩; have K := Hid.mk' (KZ.out.tr hk1); replace RD := Hid.mk' (rowK RD.out hk1); have d0 : w1.cell? ⟨w.heap.size, 0, none⟩ = some (.slice a n c) := RD.out.cell (i := 0) (by omega); have M1 := Hid.mk' True.intro; clear hk1 KZ))
  all_goals go_ret
  all_goals first | exact ⟨rfl, K.out⟩
set_option maxRecDepth 100000 in
set_option maxHeartbeats 3000000 in
theorem sslt_r {a : Option Addr} {n c : Nat} {L : List Nat} {m : Nat} {la : Option Addr} {ln lc : Nat} {l : List Pl} {w : World} (hC : Come w a n c L) (hP : Plans w la ln lc l) {k t : Nat} (ht : t ≤ 64) (h : rdE19 L ≠ 0) : Calls Try.prog 3 #[dvV a n c, .int .u8 (m : Int), .slice la ln lc, .int .i64 (k : Int), .int .i64 (t : Int)] w (fun e w' => e = .returned (.bool true) ∧ Kept w w' none) := by
  have hkA : Kept w (w.alloc (.cells (dvC a n c) 24)) none := Kept.alloc _ _ _ _ _
  have KZ := Hid.mk' hkA
  have r1 : (w.alloc (.cells (dvC a n c) 24)).rowIs w.heap.size 24 1 (fun _ => .slice a n c) := row1 w (.slice a n c) 24
  have RD := Hid.mk' r1
  have HC := Hid.mk' hC
  have HP := Hid.mk' hP
  have HR := Hid.mk' (fun w' (hk : Kept w w' none) => sread_any (hC.kpt hk))
  have HPU := Hid.mk' (fun w' (hk : Kept w w' none) => sput_any (md := m) (hC.kpt hk) (hP.kept hk))
  unfold RdP at HR
  unfold PtP at HPU
  obtain ⟨g1, hg1⟩ : ∃ g : Int, ((rdK19 L).gen : Int) = g := ⟨_, rfl⟩
  obtain ⟨m1, hm1⟩ : ∃ g, (rdK19 L).mode = g := ⟨_, rfl⟩
  obtain ⟨l1, hl1⟩ : ∃ g, (rdK19 L).plans = g := ⟨_, rfl⟩
  obtain ⟨E1, hE1⟩ : ∃ g, rdE19 L = g := ⟨_, rfl⟩
  rw [hg1, hm1, hl1, hE1] at HR
  obtain ⟨q, hq⟩ : ∃ q, (ptL L m l).length = q := ⟨_, rfl⟩
  obtain ⟨E2, hE2⟩ : ∃ g, ptE L m l = g := ⟨_, rfl⟩
  rw [hq, hE2] at HPU
  rw [hE1] at h
  clear hg1 hm1 hl1 hE1 hq hE2
  clear hC hP hkA r1
  go_enter Try.func3, Try.ntmps3
  go_wp2_with (first
    | (have hgo := M3; clear hgo; go_at_call 7; refine (HPU.out _ K.out).mono ?_; rintro e w4 ⟨ap, cp, rfl, hp, hk⟩; replace K := Hid.mk' (K.out.tr hk); replace PK := Hid.mk' (PK.out.kept hk); replace RD := Hid.mk' (rowK RD.out hk); replace d0 : w4.cell? ⟨w.heap.size, 0, none⟩ = some (.slice a n c) := RD.out.cell (i := 0) (by omega); replace RK := Hid.mk' (rowK RK.out hk); replace k0 : w4.cell? ⟨w3.heap.size, 0, none⟩ = some (.int .i64 g1) := RK.out.cell (i := 0) (by omega); replace k1 : w4.cell? ⟨w3.heap.size, 1, none⟩ = some (.int .u8 (m1 : Int)) := RK.out.cell (i := 1) (by omega); replace k2 : w4.cell? ⟨w3.heap.size, 2, none⟩ = some (.slice p1 n1 c1) := RK.out.cell (i := 2) (by omega); have M4 := Hid.mk' True.intro; clear hp hk M3)
    | (have hgo := M2; clear hgo; go_at_call 6; refine (HR.out _ K.out).mono ?_; rintro e w3 ⟨p1, n1, c1, rfl, hp, hk⟩; have KA : Kept w3 (w3.alloc (.cells #[(.int .i64 g1), (.int .u8 (m1 : Int)), (.slice p1 n1 c1)] 29)) none := Kept.alloc _ _ _ _ _; replace K := Hid.mk' ((K.out.tr hk).tr KA); have PK := Hid.mk' (hp.kept KA); replace RD := Hid.mk' (rowK (rowK RD.out hk) KA); replace d0 : (w3.alloc (.cells #[(.int .i64 g1), (.int .u8 (m1 : Int)), (.slice p1 n1 c1)] 29)).cell? ⟨w.heap.size, 0, none⟩ = some (.slice a n c) := RD.out.cell (i := 0) (by omega); have RK := Hid.mk' (row3 w3 (.int .i64 g1) (.int .u8 (m1 : Int)) (.slice p1 n1 c1) 29); have k0 : (w3.alloc (.cells #[(.int .i64 g1), (.int .u8 (m1 : Int)), (.slice p1 n1 c1)] 29)).cell? ⟨w3.heap.size, 0, none⟩ = some (.int .i64 g1) := RK.out.cell (i := 0) (by omega); have k1 : (w3.alloc (.cells #[(.int .i64 g1), (.int .u8 (m1 : Int)), (.slice p1 n1 c1)] 29)).cell? ⟨w3.heap.size, 1, none⟩ = some (.int .u8 (m1 : Int)) := RK.out.cell (i := 1) (by omega); have k2 : (w3.alloc (.cells #[(.int .i64 g1), (.int .u8 (m1 : Int)), (.slice p1 n1 c1)] 29)).cell? ⟨w3.heap.size, 2, none⟩ = some (.slice p1 n1 c1) := RK.out.cell (i := 2) (by omega); have M3 := Hid.mk' True.intro; clear hp hk KA M2)
    | (have hgo := M1; clear hgo; go_at_call 5; refine (much_any HC.out.by_.max (HP.out.kept K.out)).mono ?_; rintro e w2 ⟨b, rfl, hk2⟩; replace K := Hid.mk' (K.out.tr hk2); replace RD := Hid.mk' (rowK RD.out hk2); replace d0 : w2.cell? ⟨w.heap.size, 0, none⟩ = some (.slice a n c) := RD.out.cell (i := 0) (by omega); have M2 := Hid.mk' True.intro; clear hk2 M1; cases b)
    | (go_at_call 4; refine (alive_any _).mono ?_; rintro e w1 ⟨rfl, hk1⟩; have K := Hid.mk' (KZ.out.tr hk1); replace RD := Hid.mk' (rowK RD.out hk1); have d0 : w1.cell? ⟨w.heap.size, 0, none⟩ = some (.slice a n c) := RD.out.cell (i := 0) (by omega); have M1 := Hid.mk' True.intro; clear hk1 KZ))
  all_goals go_ret
  all_goals first | exact ⟨rfl, K.out⟩
set_option maxRecDepth 100000 in
set_option maxHeartbeats 3000000 in
theorem sslt_p {a : Option Addr} {n c : Nat} {L : List Nat} {m : Nat} {la : Option Addr} {ln lc : Nat} {l : List Pl} {w : World} (hC : Come w a n c L) (hP : Plans w la ln lc l) {k t : Nat} (ht : t ≤ 64) (h0 : rdE19 L = 0) (h : ptE L m l ≠ 0) : Calls Try.prog 3 #[dvV a n c, .int .u8 (m : Int), .slice la ln lc, .int .i64 (k : Int), .int .i64 (t : Int)] w (fun e w' => e = .returned (.bool true) ∧ Kept w w' none) := by
  have hkA : Kept w (w.alloc (.cells (dvC a n c) 24)) none := Kept.alloc _ _ _ _ _
  have KZ := Hid.mk' hkA
  have r1 : (w.alloc (.cells (dvC a n c) 24)).rowIs w.heap.size 24 1 (fun _ => .slice a n c) := row1 w (.slice a n c) 24
  have RD := Hid.mk' r1
  have HC := Hid.mk' hC
  have HP := Hid.mk' hP
  have HR := Hid.mk' (fun w' (hk : Kept w w' none) => sread_any (hC.kpt hk))
  have HPU := Hid.mk' (fun w' (hk : Kept w w' none) => sput_any (md := m) (hC.kpt hk) (hP.kept hk))
  unfold RdP at HR
  unfold PtP at HPU
  obtain ⟨g1, hg1⟩ : ∃ g : Int, ((rdK19 L).gen : Int) = g := ⟨_, rfl⟩
  obtain ⟨m1, hm1⟩ : ∃ g, (rdK19 L).mode = g := ⟨_, rfl⟩
  obtain ⟨l1, hl1⟩ : ∃ g, (rdK19 L).plans = g := ⟨_, rfl⟩
  obtain ⟨E1, hE1⟩ : ∃ g, rdE19 L = g := ⟨_, rfl⟩
  rw [hg1, hm1, hl1, hE1] at HR
  rw [hE1] at h0
  subst h0
  obtain ⟨q, hq⟩ : ∃ q, (ptL L m l).length = q := ⟨_, rfl⟩
  obtain ⟨E2, hE2⟩ : ∃ g, ptE L m l = g := ⟨_, rfl⟩
  rw [hq, hE2] at HPU
  rw [hE2] at h
  clear hg1 hm1 hl1 hE1 hq hE2
  clear hC hP hkA r1
  go_enter Try.func3, Try.ntmps3
  go_wp2_with (first
    | (have hgo := M3; clear hgo; go_at_call 7; refine (HPU.out _ K.out).mono ?_; rintro e w4 ⟨ap, cp, rfl, hp, hk⟩; replace K := Hid.mk' (K.out.tr hk); replace PK := Hid.mk' (PK.out.kept hk); replace RD := Hid.mk' (rowK RD.out hk); replace d0 : w4.cell? ⟨w.heap.size, 0, none⟩ = some (.slice a n c) := RD.out.cell (i := 0) (by omega); replace RK := Hid.mk' (rowK RK.out hk); replace k0 : w4.cell? ⟨w3.heap.size, 0, none⟩ = some (.int .i64 g1) := RK.out.cell (i := 0) (by omega); replace k1 : w4.cell? ⟨w3.heap.size, 1, none⟩ = some (.int .u8 (m1 : Int)) := RK.out.cell (i := 1) (by omega); replace k2 : w4.cell? ⟨w3.heap.size, 2, none⟩ = some (.slice p1 n1 c1) := RK.out.cell (i := 2) (by omega); have M4 := Hid.mk' True.intro; clear hp hk M3)
    | (have hgo := M2; clear hgo; go_at_call 6; refine (HR.out _ K.out).mono ?_; rintro e w3 ⟨p1, n1, c1, rfl, hp, hk⟩; have KA : Kept w3 (w3.alloc (.cells #[(.int .i64 g1), (.int .u8 (m1 : Int)), (.slice p1 n1 c1)] 29)) none := Kept.alloc _ _ _ _ _; replace K := Hid.mk' ((K.out.tr hk).tr KA); have PK := Hid.mk' (hp.kept KA); replace RD := Hid.mk' (rowK (rowK RD.out hk) KA); replace d0 : (w3.alloc (.cells #[(.int .i64 g1), (.int .u8 (m1 : Int)), (.slice p1 n1 c1)] 29)).cell? ⟨w.heap.size, 0, none⟩ = some (.slice a n c) := RD.out.cell (i := 0) (by omega); have RK := Hid.mk' (row3 w3 (.int .i64 g1) (.int .u8 (m1 : Int)) (.slice p1 n1 c1) 29); have k0 : (w3.alloc (.cells #[(.int .i64 g1), (.int .u8 (m1 : Int)), (.slice p1 n1 c1)] 29)).cell? ⟨w3.heap.size, 0, none⟩ = some (.int .i64 g1) := RK.out.cell (i := 0) (by omega); have k1 : (w3.alloc (.cells #[(.int .i64 g1), (.int .u8 (m1 : Int)), (.slice p1 n1 c1)] 29)).cell? ⟨w3.heap.size, 1, none⟩ = some (.int .u8 (m1 : Int)) := RK.out.cell (i := 1) (by omega); have k2 : (w3.alloc (.cells #[(.int .i64 g1), (.int .u8 (m1 : Int)), (.slice p1 n1 c1)] 29)).cell? ⟨w3.heap.size, 2, none⟩ = some (.slice p1 n1 c1) := RK.out.cell (i := 2) (by omega); have M3 := Hid.mk' True.intro; clear hp hk KA M2)
    | (have hgo := M1; clear hgo; go_at_call 5; refine (much_any HC.out.by_.max (HP.out.kept K.out)).mono ?_; rintro e w2 ⟨b, rfl, hk2⟩; replace K := Hid.mk' (K.out.tr hk2); replace RD := Hid.mk' (rowK RD.out hk2); replace d0 : w2.cell? ⟨w.heap.size, 0, none⟩ = some (.slice a n c) := RD.out.cell (i := 0) (by omega); have M2 := Hid.mk' True.intro; clear hk2 M1; cases b)
    | (go_at_call 4; refine (alive_any _).mono ?_; rintro e w1 ⟨rfl, hk1⟩; have K := Hid.mk' (KZ.out.tr hk1); replace RD := Hid.mk' (rowK RD.out hk1); have d0 : w1.cell? ⟨w.heap.size, 0, none⟩ = some (.slice a n c) := RD.out.cell (i := 0) (by omega); have M1 := Hid.mk' True.intro; clear hk1 KZ))
  all_goals go_ret
  all_goals first | exact ⟨rfl, K.out⟩
set_option maxRecDepth 100000 in
set_option maxHeartbeats 3000000 in
theorem sslt_far {a : Option Addr} {n c : Nat} {L : List Nat} {m : Nat} {la : Option Addr} {ln lc : Nat} {l : List Pl} {w : World} (hC : Come w a n c L) (hP : Plans w la ln lc l) {k t : Nat} (ht : t ≤ 64) (h0 : rdE19 L = 0) (h : ptE L m l = 0) (hk : manK L.length < k) : Calls Try.prog 3 #[dvV a n c, .int .u8 (m : Int), .slice la ln lc, .int .i64 (k : Int), .int .i64 (t : Int)] w (fun e w' => e = .returned (.bool true) ∧ Kept w w' none) := by
  have hkA : Kept w (w.alloc (.cells (dvC a n c) 24)) none := Kept.alloc _ _ _ _ _
  have KZ := Hid.mk' hkA
  have r1 : (w.alloc (.cells (dvC a n c) 24)).rowIs w.heap.size 24 1 (fun _ => .slice a n c) := row1 w (.slice a n c) 24
  have RD := Hid.mk' r1
  have HC := Hid.mk' hC
  have HP := Hid.mk' hP
  have HR := Hid.mk' (fun w' (hk : Kept w w' none) => sread_any (hC.kpt hk))
  have HPU := Hid.mk' (fun w' (hk : Kept w w' none) => sput_any (md := m) (hC.kpt hk) (hP.kept hk))
  unfold RdP at HR
  unfold PtP at HPU
  obtain ⟨g1, hg1⟩ : ∃ g : Int, ((rdK19 L).gen : Int) = g := ⟨_, rfl⟩
  obtain ⟨m1, hm1⟩ : ∃ g, (rdK19 L).mode = g := ⟨_, rfl⟩
  obtain ⟨l1, hl1⟩ : ∃ g, (rdK19 L).plans = g := ⟨_, rfl⟩
  obtain ⟨E1, hE1⟩ : ∃ g, rdE19 L = g := ⟨_, rfl⟩
  rw [hg1, hm1, hl1, hE1] at HR
  rw [hE1] at h0
  subst h0
  have hh := pt_ok h
  obtain ⟨q1, q2, q3, q4, q5, q6, q7⟩ := ask_ok hh.ask
  have hs := hC.by_.size
  have hpl : (ptL L m l).length = manK L.length := by rw [hh.list, pw_len']
  rw [h, hpl, hh.list] at HPU
  obtain ⟨M, hM⟩ : ∃ M, manK L.length = M := ⟨_, rfl⟩
  rw [hM] at HPU hk
  have hk' : (M : Int) < (k : Int) := by omega
  clear hg1 hm1 hl1 hE1 hh hs hpl hM q1 q2 q3 q4 q5 q6 q7 h
  clear hC hP hkA r1
  go_enter Try.func3, Try.ntmps3
  go_wp2_with (first
    | (have hgo := M3; clear hgo; go_at_call 7; refine (HPU.out _ K.out).mono ?_; rintro e w4 ⟨ap, cp, rfl, hp, hk⟩; have P := Hid.mk' hp.plw; replace K := Hid.mk' (K.out.tr hk); replace PK := Hid.mk' (PK.out.kept hk); replace RD := Hid.mk' (rowK RD.out hk); replace d0 : w4.cell? ⟨w.heap.size, 0, none⟩ = some (.slice a n c) := RD.out.cell (i := 0) (by omega); replace RK := Hid.mk' (rowK RK.out hk); replace k0 : w4.cell? ⟨w3.heap.size, 0, none⟩ = some (.int .i64 g1) := RK.out.cell (i := 0) (by omega); replace k1 : w4.cell? ⟨w3.heap.size, 1, none⟩ = some (.int .u8 (m1 : Int)) := RK.out.cell (i := 1) (by omega); replace k2 : w4.cell? ⟨w3.heap.size, 2, none⟩ = some (.slice p1 n1 c1) := RK.out.cell (i := 2) (by omega); have M4 := Hid.mk' True.intro; clear hp hk M3)
    | (have hgo := M2; clear hgo; go_at_call 6; refine (HR.out _ K.out).mono ?_; rintro e w3 ⟨p1, n1, c1, rfl, hp, hk⟩; have KA : Kept w3 (w3.alloc (.cells #[(.int .i64 g1), (.int .u8 (m1 : Int)), (.slice p1 n1 c1)] 29)) none := Kept.alloc _ _ _ _ _; replace K := Hid.mk' ((K.out.tr hk).tr KA); have PK := Hid.mk' (hp.kept KA); replace RD := Hid.mk' (rowK (rowK RD.out hk) KA); replace d0 : (w3.alloc (.cells #[(.int .i64 g1), (.int .u8 (m1 : Int)), (.slice p1 n1 c1)] 29)).cell? ⟨w.heap.size, 0, none⟩ = some (.slice a n c) := RD.out.cell (i := 0) (by omega); have RK := Hid.mk' (row3 w3 (.int .i64 g1) (.int .u8 (m1 : Int)) (.slice p1 n1 c1) 29); have k0 : (w3.alloc (.cells #[(.int .i64 g1), (.int .u8 (m1 : Int)), (.slice p1 n1 c1)] 29)).cell? ⟨w3.heap.size, 0, none⟩ = some (.int .i64 g1) := RK.out.cell (i := 0) (by omega); have k1 : (w3.alloc (.cells #[(.int .i64 g1), (.int .u8 (m1 : Int)), (.slice p1 n1 c1)] 29)).cell? ⟨w3.heap.size, 1, none⟩ = some (.int .u8 (m1 : Int)) := RK.out.cell (i := 1) (by omega); have k2 : (w3.alloc (.cells #[(.int .i64 g1), (.int .u8 (m1 : Int)), (.slice p1 n1 c1)] 29)).cell? ⟨w3.heap.size, 2, none⟩ = some (.slice p1 n1 c1) := RK.out.cell (i := 2) (by omega); have M3 := Hid.mk' True.intro; clear hp hk KA M2)
    | (have hgo := M1; clear hgo; go_at_call 5; refine (much_any HC.out.by_.max (HP.out.kept K.out)).mono ?_; rintro e w2 ⟨b, rfl, hk2⟩; replace K := Hid.mk' (K.out.tr hk2); replace RD := Hid.mk' (rowK RD.out hk2); replace d0 : w2.cell? ⟨w.heap.size, 0, none⟩ = some (.slice a n c) := RD.out.cell (i := 0) (by omega); have M2 := Hid.mk' True.intro; clear hk2 M1; cases b)
    | (go_at_call 4; refine (alive_any _).mono ?_; rintro e w1 ⟨rfl, hk1⟩; have K := Hid.mk' (KZ.out.tr hk1); replace RD := Hid.mk' (rowK RD.out hk1); have d0 : w1.cell? ⟨w.heap.size, 0, none⟩ = some (.slice a n c) := RD.out.cell (i := 0) (by omega); have M1 := Hid.mk' True.intro; clear hk1 KZ))
  all_goals go_ret
  all_goals first | exact ⟨rfl, K.out⟩
/-- The slot that counts is not written. -/
theorem slt_keeps {L : List Nat} {m : Nat} {l : List Pl} (hh : PtOk L m l) {k t : Nat} (hk : k ≤ manK L.length) (ht : t ≤ 64) (h0 : rdE19 L = 0) : slE19 (doD (ptW L m l) k t L) ((1 - wrI L : Nat) : Int) = 0 ∧ slK19 (doD (ptW L m l) k t L) ((1 - wrI L : Nat) : Int) = rdK19 L := by
  have hxl := x_len hh (k := k) ht
  have ho : sltB (doD (ptW L m l) k t L) (1 - wrI L) = sltB L (1 - wrI L) := x_other hh ht (by omega) (by rcases wr_01 L with e | e <;> rw [e] <;> omega)
  have hK : rdK19 L = ctK L := by unfold rdK19; rw [if_pos h0]
  have hg : 0 < (ctK L).gen := by
    unfold rdE19 at h0
    rw [if_pos hh.ask] at h0
    by_cases e : 0 < (ctK L).gen
    · exact e
    · rw [if_neg e] at h0
      exact absurd h0 (by decide)
  have hb : kepB (sltB L (1 - wrI L)) = true := by rw [kep_gen, other_is]; exact decide_eq_true hg
  have hE : slE19 (doD (ptW L m l) k t L) ((1 - wrI L : Nat) : Int) = 0 := by
    unfold slE19
    rw [hxl, if_pos hh.ask, if_pos (by omega), Int.toNat_natCast, ho, if_pos hb]
  refine ⟨hE, ?_⟩
  unfold slK19
  rw [if_pos hE, Int.toNat_natCast, ho, other_is, hK]
set_option maxRecDepth 100000 in
set_option maxHeartbeats 3000000 in
theorem sslt_0 {a : Option Addr} {n c : Nat} {L : List Nat} {m : Nat} {la : Option Addr} {ln lc : Nat} {l : List Pl} {w : World} (hC : Come w a n c L) (hP : Plans w la ln lc l) {k t : Nat} (ht : t ≤ 64) (h0 : rdE19 L = 0) (h : ptE L m l = 0) (hk : k ≤ manK L.length) (hw : wrI L = 1) : Calls Try.prog 3 #[dvV a n c, .int .u8 (m : Int), .slice la ln lc, .int .i64 (k : Int), .int .i64 (t : Int)] w (fun e w' => e = .returned (.bool true) ∧ Kept w w' none) := by
  have hkA : Kept w (w.alloc (.cells (dvC a n c) 24)) none := Kept.alloc _ _ _ _ _
  have KZ := Hid.mk' hkA
  have r1 : (w.alloc (.cells (dvC a n c) 24)).rowIs w.heap.size 24 1 (fun _ => .slice a n c) := row1 w (.slice a n c) 24
  have RD := Hid.mk' r1
  have HC := Hid.mk' hC
  have HP := Hid.mk' hP
  have HR := Hid.mk' (fun w' (hk : Kept w w' none) => sread_any (hC.kpt hk))
  have HPU := Hid.mk' (fun w' (hk : Kept w w' none) => sput_any (md := m) (hC.kpt hk) (hP.kept hk))
  unfold RdP at HR
  unfold PtP at HPU
  obtain ⟨g1, hg1⟩ : ∃ g : Int, ((rdK19 L).gen : Int) = g := ⟨_, rfl⟩
  obtain ⟨m1, hm1⟩ : ∃ g, (rdK19 L).mode = g := ⟨_, rfl⟩
  obtain ⟨l1, hl1⟩ : ∃ g, (rdK19 L).plans = g := ⟨_, rfl⟩
  obtain ⟨E1, hE1⟩ : ∃ g, rdE19 L = g := ⟨_, rfl⟩
  have hh := pt_ok h
  obtain ⟨q1, q2, q3, q4, q5, q6, q7⟩ := ask_ok hh.ask
  have hs := hC.by_.size
  have hpl : (ptL L m l).length = manK L.length := by rw [hh.list, pw_len']
  rw [h, hpl, hh.list] at HPU
  obtain ⟨M, hM⟩ : ∃ M, manK L.length = M := ⟨_, rfl⟩
  have HDX := Hid.mk' (fun (w' : World) (hk : Kept w w' none) (a2 : Option Addr) (c2 : Nat) (hp : Plw w' a2 (manK L.length) (ptW L m l)) => do_any c2 w' (hC.kpt hk) hp (k : Int) (t : Int))
  obtain ⟨ex1, ex2⟩ := doE_ok hh (k := k) (t := t) hk ht
  have ex1' : doE n (ptW L m l) (k : Int) (t : Int) = 0 := by rw [← hs]; exact ex1
  rw [ex1', ex2] at HDX
  have HSA := Hid.mk' (fun (w' : World) (a' : Option Addr) (n' c' : Nat) (hc : Come w' a' n' c' (doD (ptW L m l) k t L)) => sslot_any (i := 0) hc)
  have HSB := Hid.mk' (fun (w' : World) (a' : Option Addr) (n' c' : Nat) (hc : Come w' a' n' c' (doD (ptW L m l) k t L)) => sslot_any (i := 1) hc)
  unfold SlqP at HSA HSB
  obtain ⟨sE, sK⟩ := slt_keeps hh hk ht h0
  rw [hw] at sE sK
  replace sE : slE19 (doD (ptW L m l) k t L) 0 = 0 := sE
  replace sK : slK19 (doD (ptW L m l) k t L) 0 = rdK19 L := sK
  rw [sE, sK, hg1, hm1, hl1] at HSA
  rw [hg1, hm1, hl1, h0] at HR
  clear sE sK hg1 hm1 hl1 hE1
  obtain ⟨gb0, hgb0⟩ : ∃ g : Int, ((slK19 (doD (ptW L m l) k t L) 1).gen : Int) = g := ⟨_, rfl⟩
  obtain ⟨mb0, hmb0⟩ : ∃ g, (slK19 (doD (ptW L m l) k t L) 1).mode = g := ⟨_, rfl⟩
  obtain ⟨lb0, hlb0⟩ : ∃ g, (slK19 (doD (ptW L m l) k t L) 1).plans = g := ⟨_, rfl⟩
  obtain ⟨Eb, hEb⟩ : ∃ g, slE19 (doD (ptW L m l) k t L) 1 = g := ⟨_, rfl⟩
  rw [hgb0, hmb0, hlb0, hEb] at HSB
  clear hgb0 hmb0 hlb0 hEb
  generalize doD (ptW L m l) k t L = X at *
  rw [hM] at HPU HDX hk
  generalize ptW L m l = W at *
  have hk' : ¬ (M : Int) < (k : Int) := by omega
  clear hh hs hpl hM ex1 ex1' ex2 h h0 hw q1 q2 q3 q4 q5 q6 q7
  clear hC hP hkA r1
  go_enter Try.func3, Try.ntmps3
  go_wp2_with (first
    | (have hgo := M8; clear hgo; go_at_call 10; refine (rsamePlans_q PB.out.plans PK.out.plans).mono ?_; rintro e w9 ⟨q, rfl, hk⟩; replace K := Hid.mk' (K.out.tr hk); replace PK := Hid.mk' (PK.out.kept hk); replace PB := Hid.mk' (PB.out.kept hk); replace RD := Hid.mk' (rowK RD.out hk); replace d0 : w9.cell? ⟨w.heap.size, 0, none⟩ = some (.slice a n c) := RD.out.cell (i := 0) (by omega); replace RK := Hid.mk' (rowK RK.out hk); replace k0 : w9.cell? ⟨w3.heap.size, 0, none⟩ = some (.int .i64 g1) := RK.out.cell (i := 0) (by omega); replace k1 : w9.cell? ⟨w3.heap.size, 1, none⟩ = some (.int .u8 (m1 : Int)) := RK.out.cell (i := 1) (by omega); replace k2 : w9.cell? ⟨w3.heap.size, 2, none⟩ = some (.slice p1 n1 c1) := RK.out.cell (i := 2) (by omega); replace RX := Hid.mk' (rowK RX.out hk); replace x0 : w9.cell? ⟨w5.heap.size, 0, none⟩ = some (.slice ax nx cx) := RX.out.cell (i := 0) (by omega); replace RA := Hid.mk' (rowK RA.out hk); replace ka0 : w9.cell? ⟨w6.heap.size, 0, none⟩ = some (.int .i64 g1) := RA.out.cell (i := 0) (by omega); replace ka1 : w9.cell? ⟨w6.heap.size, 1, none⟩ = some (.int .u8 (m1 : Int)) := RA.out.cell (i := 1) (by omega); replace ka2 : w9.cell? ⟨w6.heap.size, 2, none⟩ = some (.slice pa na ca) := RA.out.cell (i := 2) (by omega); replace RB := Hid.mk' (rowK RB.out hk); replace kb0 : w9.cell? ⟨w7.heap.size, 0, none⟩ = some (.int .i64 gb0) := RB.out.cell (i := 0) (by omega); replace kb1 : w9.cell? ⟨w7.heap.size, 1, none⟩ = some (.int .u8 (mb0 : Int)) := RB.out.cell (i := 1) (by omega); replace kb2 : w9.cell? ⟨w7.heap.size, 2, none⟩ = some (.slice pb nb cb) := RB.out.cell (i := 2) (by omega); clear hk M8)
    | (have hgo := M7; clear hgo; go_at_call 10; refine (rsamePlans_y PA.out.plans PK.out.plans).mono ?_; rintro e w8 ⟨rfl, hk⟩; replace K := Hid.mk' (K.out.tr hk); replace PK := Hid.mk' (PK.out.kept hk); replace PB := Hid.mk' (PB.out.kept hk); replace RD := Hid.mk' (rowK RD.out hk); replace d0 : w8.cell? ⟨w.heap.size, 0, none⟩ = some (.slice a n c) := RD.out.cell (i := 0) (by omega); replace RK := Hid.mk' (rowK RK.out hk); replace k0 : w8.cell? ⟨w3.heap.size, 0, none⟩ = some (.int .i64 g1) := RK.out.cell (i := 0) (by omega); replace k1 : w8.cell? ⟨w3.heap.size, 1, none⟩ = some (.int .u8 (m1 : Int)) := RK.out.cell (i := 1) (by omega); replace k2 : w8.cell? ⟨w3.heap.size, 2, none⟩ = some (.slice p1 n1 c1) := RK.out.cell (i := 2) (by omega); replace RX := Hid.mk' (rowK RX.out hk); replace x0 : w8.cell? ⟨w5.heap.size, 0, none⟩ = some (.slice ax nx cx) := RX.out.cell (i := 0) (by omega); replace RA := Hid.mk' (rowK RA.out hk); replace ka0 : w8.cell? ⟨w6.heap.size, 0, none⟩ = some (.int .i64 g1) := RA.out.cell (i := 0) (by omega); replace ka1 : w8.cell? ⟨w6.heap.size, 1, none⟩ = some (.int .u8 (m1 : Int)) := RA.out.cell (i := 1) (by omega); replace ka2 : w8.cell? ⟨w6.heap.size, 2, none⟩ = some (.slice pa na ca) := RA.out.cell (i := 2) (by omega); replace RB := Hid.mk' (rowK RB.out hk); replace kb0 : w8.cell? ⟨w7.heap.size, 0, none⟩ = some (.int .i64 gb0) := RB.out.cell (i := 0) (by omega); replace kb1 : w8.cell? ⟨w7.heap.size, 1, none⟩ = some (.int .u8 (mb0 : Int)) := RB.out.cell (i := 1) (by omega); replace kb2 : w8.cell? ⟨w7.heap.size, 2, none⟩ = some (.slice pb nb cb) := RB.out.cell (i := 2) (by omega); have M8 := Hid.mk' True.intro; clear hk M7)
    | (have hgo := M6; clear hgo; go_at_call 9; refine (HSB.out _ _ _ _ CX.out).mono ?_; rintro e w7 ⟨pb, nb, cb, rfl, hp, hk⟩; have KA : Kept w7 (w7.alloc (.cells #[(.int .i64 gb0), (.int .u8 (mb0 : Int)), (.slice pb nb cb)] 29)) none := Kept.alloc _ _ _ _ _; replace K := Hid.mk' ((K.out.tr hk).tr KA); replace PK := Hid.mk' ((PK.out.kept hk).kept KA); replace PA := Hid.mk' ((PA.out.kept hk).kept KA); have PB := Hid.mk' (hp.kept KA); replace RD := Hid.mk' (rowK (rowK RD.out hk) KA); replace d0 : (w7.alloc (.cells #[(.int .i64 gb0), (.int .u8 (mb0 : Int)), (.slice pb nb cb)] 29)).cell? ⟨w.heap.size, 0, none⟩ = some (.slice a n c) := RD.out.cell (i := 0) (by omega); replace RK := Hid.mk' (rowK (rowK RK.out hk) KA); replace k0 : (w7.alloc (.cells #[(.int .i64 gb0), (.int .u8 (mb0 : Int)), (.slice pb nb cb)] 29)).cell? ⟨w3.heap.size, 0, none⟩ = some (.int .i64 g1) := RK.out.cell (i := 0) (by omega); replace k1 : (w7.alloc (.cells #[(.int .i64 gb0), (.int .u8 (mb0 : Int)), (.slice pb nb cb)] 29)).cell? ⟨w3.heap.size, 1, none⟩ = some (.int .u8 (m1 : Int)) := RK.out.cell (i := 1) (by omega); replace k2 : (w7.alloc (.cells #[(.int .i64 gb0), (.int .u8 (mb0 : Int)), (.slice pb nb cb)] 29)).cell? ⟨w3.heap.size, 2, none⟩ = some (.slice p1 n1 c1) := RK.out.cell (i := 2) (by omega); replace RX := Hid.mk' (rowK (rowK RX.out hk) KA); replace x0 : (w7.alloc (.cells #[(.int .i64 gb0), (.int .u8 (mb0 : Int)), (.slice pb nb cb)] 29)).cell? ⟨w5.heap.size, 0, none⟩ = some (.slice ax nx cx) := RX.out.cell (i := 0) (by omega); replace RA := Hid.mk' (rowK (rowK RA.out hk) KA); replace ka0 : (w7.alloc (.cells #[(.int .i64 gb0), (.int .u8 (mb0 : Int)), (.slice pb nb cb)] 29)).cell? ⟨w6.heap.size, 0, none⟩ = some (.int .i64 g1) := RA.out.cell (i := 0) (by omega); replace ka1 : (w7.alloc (.cells #[(.int .i64 gb0), (.int .u8 (mb0 : Int)), (.slice pb nb cb)] 29)).cell? ⟨w6.heap.size, 1, none⟩ = some (.int .u8 (m1 : Int)) := RA.out.cell (i := 1) (by omega); replace ka2 : (w7.alloc (.cells #[(.int .i64 gb0), (.int .u8 (mb0 : Int)), (.slice pb nb cb)] 29)).cell? ⟨w6.heap.size, 2, none⟩ = some (.slice pa na ca) := RA.out.cell (i := 2) (by omega); have RB := Hid.mk' (row3 w7 (.int .i64 gb0) (.int .u8 (mb0 : Int)) (.slice pb nb cb) 29); have kb0 : (w7.alloc (.cells #[(.int .i64 gb0), (.int .u8 (mb0 : Int)), (.slice pb nb cb)] 29)).cell? ⟨w7.heap.size, 0, none⟩ = some (.int .i64 gb0) := RB.out.cell (i := 0) (by omega); have kb1 : (w7.alloc (.cells #[(.int .i64 gb0), (.int .u8 (mb0 : Int)), (.slice pb nb cb)] 29)).cell? ⟨w7.heap.size, 1, none⟩ = some (.int .u8 (mb0 : Int)) := RB.out.cell (i := 1) (by omega); have kb2 : (w7.alloc (.cells #[(.int .i64 gb0), (.int .u8 (mb0 : Int)), (.slice pb nb cb)] 29)).cell? ⟨w7.heap.size, 2, none⟩ = some (.slice pb nb cb) := RB.out.cell (i := 2) (by omega); have M7 := Hid.mk' True.intro; clear hp hk KA M6)
    | (have hgo := M5; clear hgo; go_at_call 9; refine (HSA.out _ _ _ _ CX.out).mono ?_; rintro e w6 ⟨pa, na, ca, rfl, hp, hk⟩; have KA : Kept w6 (w6.alloc (.cells #[(.int .i64 g1), (.int .u8 (m1 : Int)), (.slice pa na ca)] 29)) none := Kept.alloc _ _ _ _ _; replace K := Hid.mk' ((K.out.tr hk).tr KA); replace PK := Hid.mk' ((PK.out.kept hk).kept KA); replace CX := Hid.mk' (CX.out.kpt (hk.tr KA)); have PA := Hid.mk' (hp.kept KA); replace RD := Hid.mk' (rowK (rowK RD.out hk) KA); replace d0 : (w6.alloc (.cells #[(.int .i64 g1), (.int .u8 (m1 : Int)), (.slice pa na ca)] 29)).cell? ⟨w.heap.size, 0, none⟩ = some (.slice a n c) := RD.out.cell (i := 0) (by omega); replace RK := Hid.mk' (rowK (rowK RK.out hk) KA); replace k0 : (w6.alloc (.cells #[(.int .i64 g1), (.int .u8 (m1 : Int)), (.slice pa na ca)] 29)).cell? ⟨w3.heap.size, 0, none⟩ = some (.int .i64 g1) := RK.out.cell (i := 0) (by omega); replace k1 : (w6.alloc (.cells #[(.int .i64 g1), (.int .u8 (m1 : Int)), (.slice pa na ca)] 29)).cell? ⟨w3.heap.size, 1, none⟩ = some (.int .u8 (m1 : Int)) := RK.out.cell (i := 1) (by omega); replace k2 : (w6.alloc (.cells #[(.int .i64 g1), (.int .u8 (m1 : Int)), (.slice pa na ca)] 29)).cell? ⟨w3.heap.size, 2, none⟩ = some (.slice p1 n1 c1) := RK.out.cell (i := 2) (by omega); replace RX := Hid.mk' (rowK (rowK RX.out hk) KA); replace x0 : (w6.alloc (.cells #[(.int .i64 g1), (.int .u8 (m1 : Int)), (.slice pa na ca)] 29)).cell? ⟨w5.heap.size, 0, none⟩ = some (.slice ax nx cx) := RX.out.cell (i := 0) (by omega); have RA := Hid.mk' (row3 w6 (.int .i64 g1) (.int .u8 (m1 : Int)) (.slice pa na ca) 29); have ka0 : (w6.alloc (.cells #[(.int .i64 g1), (.int .u8 (m1 : Int)), (.slice pa na ca)] 29)).cell? ⟨w6.heap.size, 0, none⟩ = some (.int .i64 g1) := RA.out.cell (i := 0) (by omega); have ka1 : (w6.alloc (.cells #[(.int .i64 g1), (.int .u8 (m1 : Int)), (.slice pa na ca)] 29)).cell? ⟨w6.heap.size, 1, none⟩ = some (.int .u8 (m1 : Int)) := RA.out.cell (i := 1) (by omega); have ka2 : (w6.alloc (.cells #[(.int .i64 g1), (.int .u8 (m1 : Int)), (.slice pa na ca)] 29)).cell? ⟨w6.heap.size, 2, none⟩ = some (.slice pa na ca) := RA.out.cell (i := 2) (by omega); have M6 := Hid.mk' True.intro; clear hp hk KA M5)
    | (have hgo := M4; clear hgo; go_at_call 8; refine (HDX.out _ K.out _ cp P.out).mono ?_; rintro e w5 ⟨⟨ax, nx, cx, rfl, hdx⟩, hk⟩; have KA : Kept w5 (w5.alloc (.cells #[.slice ax nx cx] 24)) none := Kept.alloc _ _ _ _ _; replace K := Hid.mk' ((K.out.tr hk).tr KA); replace PK := Hid.mk' ((PK.out.kept hk).kept KA); have CX := Hid.mk' (hdx.come.kpt KA); replace RD := Hid.mk' (rowK (rowK RD.out hk) KA); replace d0 : (w5.alloc (.cells #[.slice ax nx cx] 24)).cell? ⟨w.heap.size, 0, none⟩ = some (.slice a n c) := RD.out.cell (i := 0) (by omega); replace RK := Hid.mk' (rowK (rowK RK.out hk) KA); replace k0 : (w5.alloc (.cells #[.slice ax nx cx] 24)).cell? ⟨w3.heap.size, 0, none⟩ = some (.int .i64 g1) := RK.out.cell (i := 0) (by omega); replace k1 : (w5.alloc (.cells #[.slice ax nx cx] 24)).cell? ⟨w3.heap.size, 1, none⟩ = some (.int .u8 (m1 : Int)) := RK.out.cell (i := 1) (by omega); replace k2 : (w5.alloc (.cells #[.slice ax nx cx] 24)).cell? ⟨w3.heap.size, 2, none⟩ = some (.slice p1 n1 c1) := RK.out.cell (i := 2) (by omega); have RX := Hid.mk' (row1 w5 (.slice ax nx cx) 24); have x0 : (w5.alloc (.cells #[.slice ax nx cx] 24)).cell? ⟨w5.heap.size, 0, none⟩ = some (.slice ax nx cx) := RX.out.cell (i := 0) (by omega); have M5 := Hid.mk' True.intro; clear hdx hk KA M4)
    | (have hgo := M3; clear hgo; go_at_call 7; refine (HPU.out _ K.out).mono ?_; rintro e w4 ⟨ap, cp, rfl, hp, hk⟩; have P := Hid.mk' hp.plw; replace K := Hid.mk' (K.out.tr hk); replace PK := Hid.mk' (PK.out.kept hk); replace RD := Hid.mk' (rowK RD.out hk); replace d0 : w4.cell? ⟨w.heap.size, 0, none⟩ = some (.slice a n c) := RD.out.cell (i := 0) (by omega); replace RK := Hid.mk' (rowK RK.out hk); replace k0 : w4.cell? ⟨w3.heap.size, 0, none⟩ = some (.int .i64 g1) := RK.out.cell (i := 0) (by omega); replace k1 : w4.cell? ⟨w3.heap.size, 1, none⟩ = some (.int .u8 (m1 : Int)) := RK.out.cell (i := 1) (by omega); replace k2 : w4.cell? ⟨w3.heap.size, 2, none⟩ = some (.slice p1 n1 c1) := RK.out.cell (i := 2) (by omega); have M4 := Hid.mk' True.intro; clear hp hk M3)
    | (have hgo := M2; clear hgo; go_at_call 6; refine (HR.out _ K.out).mono ?_; rintro e w3 ⟨p1, n1, c1, rfl, hp, hk⟩; have KA : Kept w3 (w3.alloc (.cells #[(.int .i64 g1), (.int .u8 (m1 : Int)), (.slice p1 n1 c1)] 29)) none := Kept.alloc _ _ _ _ _; replace K := Hid.mk' ((K.out.tr hk).tr KA); have PK := Hid.mk' (hp.kept KA); replace RD := Hid.mk' (rowK (rowK RD.out hk) KA); replace d0 : (w3.alloc (.cells #[(.int .i64 g1), (.int .u8 (m1 : Int)), (.slice p1 n1 c1)] 29)).cell? ⟨w.heap.size, 0, none⟩ = some (.slice a n c) := RD.out.cell (i := 0) (by omega); have RK := Hid.mk' (row3 w3 (.int .i64 g1) (.int .u8 (m1 : Int)) (.slice p1 n1 c1) 29); have k0 : (w3.alloc (.cells #[(.int .i64 g1), (.int .u8 (m1 : Int)), (.slice p1 n1 c1)] 29)).cell? ⟨w3.heap.size, 0, none⟩ = some (.int .i64 g1) := RK.out.cell (i := 0) (by omega); have k1 : (w3.alloc (.cells #[(.int .i64 g1), (.int .u8 (m1 : Int)), (.slice p1 n1 c1)] 29)).cell? ⟨w3.heap.size, 1, none⟩ = some (.int .u8 (m1 : Int)) := RK.out.cell (i := 1) (by omega); have k2 : (w3.alloc (.cells #[(.int .i64 g1), (.int .u8 (m1 : Int)), (.slice p1 n1 c1)] 29)).cell? ⟨w3.heap.size, 2, none⟩ = some (.slice p1 n1 c1) := RK.out.cell (i := 2) (by omega); have M3 := Hid.mk' True.intro; clear hp hk KA M2)
    | (have hgo := M1; clear hgo; go_at_call 5; refine (much_any HC.out.by_.max (HP.out.kept K.out)).mono ?_; rintro e w2 ⟨b, rfl, hk2⟩; replace K := Hid.mk' (K.out.tr hk2); replace RD := Hid.mk' (rowK RD.out hk2); replace d0 : w2.cell? ⟨w.heap.size, 0, none⟩ = some (.slice a n c) := RD.out.cell (i := 0) (by omega); have M2 := Hid.mk' True.intro; clear hk2 M1; cases b)
    | (go_at_call 4; refine (alive_any _).mono ?_; rintro e w1 ⟨rfl, hk1⟩; have K := Hid.mk' (KZ.out.tr hk1); replace RD := Hid.mk' (rowK RD.out hk1); have d0 : w1.cell? ⟨w.heap.size, 0, none⟩ = some (.slice a n c) := RD.out.cell (i := 0) (by omega); have M1 := Hid.mk' True.intro; clear hk1 KZ))
  all_goals go_ret
  all_goals first | exact ⟨rfl, K.out⟩ | exact ⟨by simp, K.out⟩ | exact ⟨by simp [*], K.out⟩
set_option maxRecDepth 100000 in
set_option maxHeartbeats 3000000 in
theorem sslt_1y {a : Option Addr} {n c : Nat} {L : List Nat} {m : Nat} {la : Option Addr} {ln lc : Nat} {l : List Pl} {w : World} (hC : Come w a n c L) (hP : Plans w la ln lc l) {k t : Nat} (ht : t ≤ 64) (h0 : rdE19 L = 0) (h : ptE L m l = 0) (hk : k ≤ manK L.length) (hw : wrI L = 0) (hy1 : slE19 (doD (ptW L m l) k t L) 0 = 0) (hy2 : ((slK19 (doD (ptW L m l) k t L) 0).gen : Int) = ((rdK19 L).gen : Int)) (hy3 : (slK19 (doD (ptW L m l) k t L) 0).mode = (rdK19 L).mode) : Calls Try.prog 3 #[dvV a n c, .int .u8 (m : Int), .slice la ln lc, .int .i64 (k : Int), .int .i64 (t : Int)] w (fun e w' => e = .returned (.bool true) ∧ Kept w w' none) := by
  have hkA : Kept w (w.alloc (.cells (dvC a n c) 24)) none := Kept.alloc _ _ _ _ _
  have KZ := Hid.mk' hkA
  have r1 : (w.alloc (.cells (dvC a n c) 24)).rowIs w.heap.size 24 1 (fun _ => .slice a n c) := row1 w (.slice a n c) 24
  have RD := Hid.mk' r1
  have HC := Hid.mk' hC
  have HP := Hid.mk' hP
  have HR := Hid.mk' (fun w' (hk : Kept w w' none) => sread_any (hC.kpt hk))
  have HPU := Hid.mk' (fun w' (hk : Kept w w' none) => sput_any (md := m) (hC.kpt hk) (hP.kept hk))
  unfold RdP at HR
  unfold PtP at HPU
  obtain ⟨g1, hg1⟩ : ∃ g : Int, ((rdK19 L).gen : Int) = g := ⟨_, rfl⟩
  obtain ⟨m1, hm1⟩ : ∃ g, (rdK19 L).mode = g := ⟨_, rfl⟩
  obtain ⟨l1, hl1⟩ : ∃ g, (rdK19 L).plans = g := ⟨_, rfl⟩
  obtain ⟨E1, hE1⟩ : ∃ g, rdE19 L = g := ⟨_, rfl⟩
  have hh := pt_ok h
  obtain ⟨q1, q2, q3, q4, q5, q6, q7⟩ := ask_ok hh.ask
  have hs := hC.by_.size
  have hpl : (ptL L m l).length = manK L.length := by rw [hh.list, pw_len']
  rw [h, hpl, hh.list] at HPU
  obtain ⟨M, hM⟩ : ∃ M, manK L.length = M := ⟨_, rfl⟩
  have HDX := Hid.mk' (fun (w' : World) (hk : Kept w w' none) (a2 : Option Addr) (c2 : Nat) (hp : Plw w' a2 (manK L.length) (ptW L m l)) => do_any c2 w' (hC.kpt hk) hp (k : Int) (t : Int))
  obtain ⟨ex1, ex2⟩ := doE_ok hh (k := k) (t := t) hk ht
  have ex1' : doE n (ptW L m l) (k : Int) (t : Int) = 0 := by rw [← hs]; exact ex1
  rw [ex1', ex2] at HDX
  have HSA := Hid.mk' (fun (w' : World) (a' : Option Addr) (n' c' : Nat) (hc : Come w' a' n' c' (doD (ptW L m l) k t L)) => sslot_any (i := 0) hc)
  have HSB := Hid.mk' (fun (w' : World) (a' : Option Addr) (n' c' : Nat) (hc : Come w' a' n' c' (doD (ptW L m l) k t L)) => sslot_any (i := 1) hc)
  unfold SlqP at HSA HSB
  obtain ⟨sE, sK⟩ := slt_keeps hh hk ht h0
  rw [hw] at sE sK
  replace sE : slE19 (doD (ptW L m l) k t L) 1 = 0 := sE
  replace sK : slK19 (doD (ptW L m l) k t L) 1 = rdK19 L := sK
  rw [sE, sK, hg1, hm1, hl1] at HSB
  rw [hg1, hm1, hl1, h0] at HR
  clear sE sK hl1 hE1
  rw [hg1] at hy2
  rw [hm1] at hy3
  rw [hy1, hy2, hy3] at HSA
  generalize (slK19 (doD (ptW L m l) k t L) 0).plans = la0 at HSA
  clear hy1 hy2 hy3
  clear hg1 hm1
  generalize doD (ptW L m l) k t L = X at *
  rw [hM] at HPU HDX hk
  generalize ptW L m l = W at *
  have hk' : ¬ (M : Int) < (k : Int) := by omega
  clear hh hs hpl hM ex1 ex1' ex2 h h0 hw q1 q2 q3 q4 q5 q6 q7
  clear hC hP hkA r1
  go_enter Try.func3, Try.ntmps3
  go_wp2_with (first
    | (have hgo := M8; clear hgo; go_at_call 10; refine (rsamePlans_y PB.out.plans PK.out.plans).mono ?_; rintro e w9 ⟨rfl, hk⟩; replace K := Hid.mk' (K.out.tr hk); replace PK := Hid.mk' (PK.out.kept hk); replace PB := Hid.mk' (PB.out.kept hk); replace RD := Hid.mk' (rowK RD.out hk); replace d0 : w9.cell? ⟨w.heap.size, 0, none⟩ = some (.slice a n c) := RD.out.cell (i := 0) (by omega); replace RK := Hid.mk' (rowK RK.out hk); replace k0 : w9.cell? ⟨w3.heap.size, 0, none⟩ = some (.int .i64 g1) := RK.out.cell (i := 0) (by omega); replace k1 : w9.cell? ⟨w3.heap.size, 1, none⟩ = some (.int .u8 (m1 : Int)) := RK.out.cell (i := 1) (by omega); replace k2 : w9.cell? ⟨w3.heap.size, 2, none⟩ = some (.slice p1 n1 c1) := RK.out.cell (i := 2) (by omega); replace RX := Hid.mk' (rowK RX.out hk); replace x0 : w9.cell? ⟨w5.heap.size, 0, none⟩ = some (.slice ax nx cx) := RX.out.cell (i := 0) (by omega); replace RA := Hid.mk' (rowK RA.out hk); replace ka0 : w9.cell? ⟨w6.heap.size, 0, none⟩ = some (.int .i64 g1) := RA.out.cell (i := 0) (by omega); replace ka1 : w9.cell? ⟨w6.heap.size, 1, none⟩ = some (.int .u8 (m1 : Int)) := RA.out.cell (i := 1) (by omega); replace ka2 : w9.cell? ⟨w6.heap.size, 2, none⟩ = some (.slice pa na ca) := RA.out.cell (i := 2) (by omega); replace RB := Hid.mk' (rowK RB.out hk); replace kb0 : w9.cell? ⟨w7.heap.size, 0, none⟩ = some (.int .i64 g1) := RB.out.cell (i := 0) (by omega); replace kb1 : w9.cell? ⟨w7.heap.size, 1, none⟩ = some (.int .u8 (m1 : Int)) := RB.out.cell (i := 1) (by omega); replace kb2 : w9.cell? ⟨w7.heap.size, 2, none⟩ = some (.slice pb nb cb) := RB.out.cell (i := 2) (by omega); clear hk M8)
    | (have hgo := M7; clear hgo; go_at_call 10; refine (rsamePlans_q PA.out.plans PK.out.plans).mono ?_; rintro e w8 ⟨q, rfl, hk⟩; replace K := Hid.mk' (K.out.tr hk); replace PK := Hid.mk' (PK.out.kept hk); replace PB := Hid.mk' (PB.out.kept hk); replace RD := Hid.mk' (rowK RD.out hk); replace d0 : w8.cell? ⟨w.heap.size, 0, none⟩ = some (.slice a n c) := RD.out.cell (i := 0) (by omega); replace RK := Hid.mk' (rowK RK.out hk); replace k0 : w8.cell? ⟨w3.heap.size, 0, none⟩ = some (.int .i64 g1) := RK.out.cell (i := 0) (by omega); replace k1 : w8.cell? ⟨w3.heap.size, 1, none⟩ = some (.int .u8 (m1 : Int)) := RK.out.cell (i := 1) (by omega); replace k2 : w8.cell? ⟨w3.heap.size, 2, none⟩ = some (.slice p1 n1 c1) := RK.out.cell (i := 2) (by omega); replace RX := Hid.mk' (rowK RX.out hk); replace x0 : w8.cell? ⟨w5.heap.size, 0, none⟩ = some (.slice ax nx cx) := RX.out.cell (i := 0) (by omega); replace RA := Hid.mk' (rowK RA.out hk); replace ka0 : w8.cell? ⟨w6.heap.size, 0, none⟩ = some (.int .i64 g1) := RA.out.cell (i := 0) (by omega); replace ka1 : w8.cell? ⟨w6.heap.size, 1, none⟩ = some (.int .u8 (m1 : Int)) := RA.out.cell (i := 1) (by omega); replace ka2 : w8.cell? ⟨w6.heap.size, 2, none⟩ = some (.slice pa na ca) := RA.out.cell (i := 2) (by omega); replace RB := Hid.mk' (rowK RB.out hk); replace kb0 : w8.cell? ⟨w7.heap.size, 0, none⟩ = some (.int .i64 g1) := RB.out.cell (i := 0) (by omega); replace kb1 : w8.cell? ⟨w7.heap.size, 1, none⟩ = some (.int .u8 (m1 : Int)) := RB.out.cell (i := 1) (by omega); replace kb2 : w8.cell? ⟨w7.heap.size, 2, none⟩ = some (.slice pb nb cb) := RB.out.cell (i := 2) (by omega); have M8 := Hid.mk' True.intro; clear hk M7)
    | (have hgo := M6; clear hgo; go_at_call 9; refine (HSB.out _ _ _ _ CX.out).mono ?_; rintro e w7 ⟨pb, nb, cb, rfl, hp, hk⟩; have KA : Kept w7 (w7.alloc (.cells #[(.int .i64 g1), (.int .u8 (m1 : Int)), (.slice pb nb cb)] 29)) none := Kept.alloc _ _ _ _ _; replace K := Hid.mk' ((K.out.tr hk).tr KA); replace PK := Hid.mk' ((PK.out.kept hk).kept KA); replace PA := Hid.mk' ((PA.out.kept hk).kept KA); have PB := Hid.mk' (hp.kept KA); replace RD := Hid.mk' (rowK (rowK RD.out hk) KA); replace d0 : (w7.alloc (.cells #[(.int .i64 g1), (.int .u8 (m1 : Int)), (.slice pb nb cb)] 29)).cell? ⟨w.heap.size, 0, none⟩ = some (.slice a n c) := RD.out.cell (i := 0) (by omega); replace RK := Hid.mk' (rowK (rowK RK.out hk) KA); replace k0 : (w7.alloc (.cells #[(.int .i64 g1), (.int .u8 (m1 : Int)), (.slice pb nb cb)] 29)).cell? ⟨w3.heap.size, 0, none⟩ = some (.int .i64 g1) := RK.out.cell (i := 0) (by omega); replace k1 : (w7.alloc (.cells #[(.int .i64 g1), (.int .u8 (m1 : Int)), (.slice pb nb cb)] 29)).cell? ⟨w3.heap.size, 1, none⟩ = some (.int .u8 (m1 : Int)) := RK.out.cell (i := 1) (by omega); replace k2 : (w7.alloc (.cells #[(.int .i64 g1), (.int .u8 (m1 : Int)), (.slice pb nb cb)] 29)).cell? ⟨w3.heap.size, 2, none⟩ = some (.slice p1 n1 c1) := RK.out.cell (i := 2) (by omega); replace RX := Hid.mk' (rowK (rowK RX.out hk) KA); replace x0 : (w7.alloc (.cells #[(.int .i64 g1), (.int .u8 (m1 : Int)), (.slice pb nb cb)] 29)).cell? ⟨w5.heap.size, 0, none⟩ = some (.slice ax nx cx) := RX.out.cell (i := 0) (by omega); replace RA := Hid.mk' (rowK (rowK RA.out hk) KA); replace ka0 : (w7.alloc (.cells #[(.int .i64 g1), (.int .u8 (m1 : Int)), (.slice pb nb cb)] 29)).cell? ⟨w6.heap.size, 0, none⟩ = some (.int .i64 g1) := RA.out.cell (i := 0) (by omega); replace ka1 : (w7.alloc (.cells #[(.int .i64 g1), (.int .u8 (m1 : Int)), (.slice pb nb cb)] 29)).cell? ⟨w6.heap.size, 1, none⟩ = some (.int .u8 (m1 : Int)) := RA.out.cell (i := 1) (by omega); replace ka2 : (w7.alloc (.cells #[(.int .i64 g1), (.int .u8 (m1 : Int)), (.slice pb nb cb)] 29)).cell? ⟨w6.heap.size, 2, none⟩ = some (.slice pa na ca) := RA.out.cell (i := 2) (by omega); have RB := Hid.mk' (row3 w7 (.int .i64 g1) (.int .u8 (m1 : Int)) (.slice pb nb cb) 29); have kb0 : (w7.alloc (.cells #[(.int .i64 g1), (.int .u8 (m1 : Int)), (.slice pb nb cb)] 29)).cell? ⟨w7.heap.size, 0, none⟩ = some (.int .i64 g1) := RB.out.cell (i := 0) (by omega); have kb1 : (w7.alloc (.cells #[(.int .i64 g1), (.int .u8 (m1 : Int)), (.slice pb nb cb)] 29)).cell? ⟨w7.heap.size, 1, none⟩ = some (.int .u8 (m1 : Int)) := RB.out.cell (i := 1) (by omega); have kb2 : (w7.alloc (.cells #[(.int .i64 g1), (.int .u8 (m1 : Int)), (.slice pb nb cb)] 29)).cell? ⟨w7.heap.size, 2, none⟩ = some (.slice pb nb cb) := RB.out.cell (i := 2) (by omega); have M7 := Hid.mk' True.intro; clear hp hk KA M6)
    | (have hgo := M5; clear hgo; go_at_call 9; refine (HSA.out _ _ _ _ CX.out).mono ?_; rintro e w6 ⟨pa, na, ca, rfl, hp, hk⟩; have KA : Kept w6 (w6.alloc (.cells #[(.int .i64 g1), (.int .u8 (m1 : Int)), (.slice pa na ca)] 29)) none := Kept.alloc _ _ _ _ _; replace K := Hid.mk' ((K.out.tr hk).tr KA); replace PK := Hid.mk' ((PK.out.kept hk).kept KA); replace CX := Hid.mk' (CX.out.kpt (hk.tr KA)); have PA := Hid.mk' (hp.kept KA); replace RD := Hid.mk' (rowK (rowK RD.out hk) KA); replace d0 : (w6.alloc (.cells #[(.int .i64 g1), (.int .u8 (m1 : Int)), (.slice pa na ca)] 29)).cell? ⟨w.heap.size, 0, none⟩ = some (.slice a n c) := RD.out.cell (i := 0) (by omega); replace RK := Hid.mk' (rowK (rowK RK.out hk) KA); replace k0 : (w6.alloc (.cells #[(.int .i64 g1), (.int .u8 (m1 : Int)), (.slice pa na ca)] 29)).cell? ⟨w3.heap.size, 0, none⟩ = some (.int .i64 g1) := RK.out.cell (i := 0) (by omega); replace k1 : (w6.alloc (.cells #[(.int .i64 g1), (.int .u8 (m1 : Int)), (.slice pa na ca)] 29)).cell? ⟨w3.heap.size, 1, none⟩ = some (.int .u8 (m1 : Int)) := RK.out.cell (i := 1) (by omega); replace k2 : (w6.alloc (.cells #[(.int .i64 g1), (.int .u8 (m1 : Int)), (.slice pa na ca)] 29)).cell? ⟨w3.heap.size, 2, none⟩ = some (.slice p1 n1 c1) := RK.out.cell (i := 2) (by omega); replace RX := Hid.mk' (rowK (rowK RX.out hk) KA); replace x0 : (w6.alloc (.cells #[(.int .i64 g1), (.int .u8 (m1 : Int)), (.slice pa na ca)] 29)).cell? ⟨w5.heap.size, 0, none⟩ = some (.slice ax nx cx) := RX.out.cell (i := 0) (by omega); have RA := Hid.mk' (row3 w6 (.int .i64 g1) (.int .u8 (m1 : Int)) (.slice pa na ca) 29); have ka0 : (w6.alloc (.cells #[(.int .i64 g1), (.int .u8 (m1 : Int)), (.slice pa na ca)] 29)).cell? ⟨w6.heap.size, 0, none⟩ = some (.int .i64 g1) := RA.out.cell (i := 0) (by omega); have ka1 : (w6.alloc (.cells #[(.int .i64 g1), (.int .u8 (m1 : Int)), (.slice pa na ca)] 29)).cell? ⟨w6.heap.size, 1, none⟩ = some (.int .u8 (m1 : Int)) := RA.out.cell (i := 1) (by omega); have ka2 : (w6.alloc (.cells #[(.int .i64 g1), (.int .u8 (m1 : Int)), (.slice pa na ca)] 29)).cell? ⟨w6.heap.size, 2, none⟩ = some (.slice pa na ca) := RA.out.cell (i := 2) (by omega); have M6 := Hid.mk' True.intro; clear hp hk KA M5)
    | (have hgo := M4; clear hgo; go_at_call 8; refine (HDX.out _ K.out _ cp P.out).mono ?_; rintro e w5 ⟨⟨ax, nx, cx, rfl, hdx⟩, hk⟩; have KA : Kept w5 (w5.alloc (.cells #[.slice ax nx cx] 24)) none := Kept.alloc _ _ _ _ _; replace K := Hid.mk' ((K.out.tr hk).tr KA); replace PK := Hid.mk' ((PK.out.kept hk).kept KA); have CX := Hid.mk' (hdx.come.kpt KA); replace RD := Hid.mk' (rowK (rowK RD.out hk) KA); replace d0 : (w5.alloc (.cells #[.slice ax nx cx] 24)).cell? ⟨w.heap.size, 0, none⟩ = some (.slice a n c) := RD.out.cell (i := 0) (by omega); replace RK := Hid.mk' (rowK (rowK RK.out hk) KA); replace k0 : (w5.alloc (.cells #[.slice ax nx cx] 24)).cell? ⟨w3.heap.size, 0, none⟩ = some (.int .i64 g1) := RK.out.cell (i := 0) (by omega); replace k1 : (w5.alloc (.cells #[.slice ax nx cx] 24)).cell? ⟨w3.heap.size, 1, none⟩ = some (.int .u8 (m1 : Int)) := RK.out.cell (i := 1) (by omega); replace k2 : (w5.alloc (.cells #[.slice ax nx cx] 24)).cell? ⟨w3.heap.size, 2, none⟩ = some (.slice p1 n1 c1) := RK.out.cell (i := 2) (by omega); have RX := Hid.mk' (row1 w5 (.slice ax nx cx) 24); have x0 : (w5.alloc (.cells #[.slice ax nx cx] 24)).cell? ⟨w5.heap.size, 0, none⟩ = some (.slice ax nx cx) := RX.out.cell (i := 0) (by omega); have M5 := Hid.mk' True.intro; clear hdx hk KA M4)
    | (have hgo := M3; clear hgo; go_at_call 7; refine (HPU.out _ K.out).mono ?_; rintro e w4 ⟨ap, cp, rfl, hp, hk⟩; have P := Hid.mk' hp.plw; replace K := Hid.mk' (K.out.tr hk); replace PK := Hid.mk' (PK.out.kept hk); replace RD := Hid.mk' (rowK RD.out hk); replace d0 : w4.cell? ⟨w.heap.size, 0, none⟩ = some (.slice a n c) := RD.out.cell (i := 0) (by omega); replace RK := Hid.mk' (rowK RK.out hk); replace k0 : w4.cell? ⟨w3.heap.size, 0, none⟩ = some (.int .i64 g1) := RK.out.cell (i := 0) (by omega); replace k1 : w4.cell? ⟨w3.heap.size, 1, none⟩ = some (.int .u8 (m1 : Int)) := RK.out.cell (i := 1) (by omega); replace k2 : w4.cell? ⟨w3.heap.size, 2, none⟩ = some (.slice p1 n1 c1) := RK.out.cell (i := 2) (by omega); have M4 := Hid.mk' True.intro; clear hp hk M3)
    | (have hgo := M2; clear hgo; go_at_call 6; refine (HR.out _ K.out).mono ?_; rintro e w3 ⟨p1, n1, c1, rfl, hp, hk⟩; have KA : Kept w3 (w3.alloc (.cells #[(.int .i64 g1), (.int .u8 (m1 : Int)), (.slice p1 n1 c1)] 29)) none := Kept.alloc _ _ _ _ _; replace K := Hid.mk' ((K.out.tr hk).tr KA); have PK := Hid.mk' (hp.kept KA); replace RD := Hid.mk' (rowK (rowK RD.out hk) KA); replace d0 : (w3.alloc (.cells #[(.int .i64 g1), (.int .u8 (m1 : Int)), (.slice p1 n1 c1)] 29)).cell? ⟨w.heap.size, 0, none⟩ = some (.slice a n c) := RD.out.cell (i := 0) (by omega); have RK := Hid.mk' (row3 w3 (.int .i64 g1) (.int .u8 (m1 : Int)) (.slice p1 n1 c1) 29); have k0 : (w3.alloc (.cells #[(.int .i64 g1), (.int .u8 (m1 : Int)), (.slice p1 n1 c1)] 29)).cell? ⟨w3.heap.size, 0, none⟩ = some (.int .i64 g1) := RK.out.cell (i := 0) (by omega); have k1 : (w3.alloc (.cells #[(.int .i64 g1), (.int .u8 (m1 : Int)), (.slice p1 n1 c1)] 29)).cell? ⟨w3.heap.size, 1, none⟩ = some (.int .u8 (m1 : Int)) := RK.out.cell (i := 1) (by omega); have k2 : (w3.alloc (.cells #[(.int .i64 g1), (.int .u8 (m1 : Int)), (.slice p1 n1 c1)] 29)).cell? ⟨w3.heap.size, 2, none⟩ = some (.slice p1 n1 c1) := RK.out.cell (i := 2) (by omega); have M3 := Hid.mk' True.intro; clear hp hk KA M2)
    | (have hgo := M1; clear hgo; go_at_call 5; refine (much_any HC.out.by_.max (HP.out.kept K.out)).mono ?_; rintro e w2 ⟨b, rfl, hk2⟩; replace K := Hid.mk' (K.out.tr hk2); replace RD := Hid.mk' (rowK RD.out hk2); replace d0 : w2.cell? ⟨w.heap.size, 0, none⟩ = some (.slice a n c) := RD.out.cell (i := 0) (by omega); have M2 := Hid.mk' True.intro; clear hk2 M1; cases b)
    | (go_at_call 4; refine (alive_any _).mono ?_; rintro e w1 ⟨rfl, hk1⟩; have K := Hid.mk' (KZ.out.tr hk1); replace RD := Hid.mk' (rowK RD.out hk1); have d0 : w1.cell? ⟨w.heap.size, 0, none⟩ = some (.slice a n c) := RD.out.cell (i := 0) (by omega); have M1 := Hid.mk' True.intro; clear hk1 KZ))
  all_goals go_ret
  all_goals first | exact ⟨rfl, K.out⟩ | exact ⟨by simp, K.out⟩ | exact ⟨by simp [*], K.out⟩
set_option maxRecDepth 100000 in
set_option maxHeartbeats 3000000 in
theorem sslt_1n {a : Option Addr} {n c : Nat} {L : List Nat} {m : Nat} {la : Option Addr} {ln lc : Nat} {l : List Pl} {w : World} (hC : Come w a n c L) (hP : Plans w la ln lc l) {k t : Nat} (ht : t ≤ 64) (h0 : rdE19 L = 0) (h : ptE L m l = 0) (hk : k ≤ manK L.length) (hw : wrI L = 0) (hn : ¬ (slE19 (doD (ptW L m l) k t L) 0 = 0 ∧ ((slK19 (doD (ptW L m l) k t L) 0).gen : Int) = ((rdK19 L).gen : Int) ∧ (slK19 (doD (ptW L m l) k t L) 0).mode = (rdK19 L).mode)) : Calls Try.prog 3 #[dvV a n c, .int .u8 (m : Int), .slice la ln lc, .int .i64 (k : Int), .int .i64 (t : Int)] w (fun e w' => e = .returned (.bool true) ∧ Kept w w' none) := by
  have hkA : Kept w (w.alloc (.cells (dvC a n c) 24)) none := Kept.alloc _ _ _ _ _
  have KZ := Hid.mk' hkA
  have r1 : (w.alloc (.cells (dvC a n c) 24)).rowIs w.heap.size 24 1 (fun _ => .slice a n c) := row1 w (.slice a n c) 24
  have RD := Hid.mk' r1
  have HC := Hid.mk' hC
  have HP := Hid.mk' hP
  have HR := Hid.mk' (fun w' (hk : Kept w w' none) => sread_any (hC.kpt hk))
  have HPU := Hid.mk' (fun w' (hk : Kept w w' none) => sput_any (md := m) (hC.kpt hk) (hP.kept hk))
  unfold RdP at HR
  unfold PtP at HPU
  obtain ⟨g1, hg1⟩ : ∃ g : Int, ((rdK19 L).gen : Int) = g := ⟨_, rfl⟩
  obtain ⟨m1, hm1⟩ : ∃ g, (rdK19 L).mode = g := ⟨_, rfl⟩
  obtain ⟨l1, hl1⟩ : ∃ g, (rdK19 L).plans = g := ⟨_, rfl⟩
  obtain ⟨E1, hE1⟩ : ∃ g, rdE19 L = g := ⟨_, rfl⟩
  have hh := pt_ok h
  obtain ⟨q1, q2, q3, q4, q5, q6, q7⟩ := ask_ok hh.ask
  have hs := hC.by_.size
  have hpl : (ptL L m l).length = manK L.length := by rw [hh.list, pw_len']
  rw [h, hpl, hh.list] at HPU
  obtain ⟨M, hM⟩ : ∃ M, manK L.length = M := ⟨_, rfl⟩
  have HDX := Hid.mk' (fun (w' : World) (hk : Kept w w' none) (a2 : Option Addr) (c2 : Nat) (hp : Plw w' a2 (manK L.length) (ptW L m l)) => do_any c2 w' (hC.kpt hk) hp (k : Int) (t : Int))
  obtain ⟨ex1, ex2⟩ := doE_ok hh (k := k) (t := t) hk ht
  have ex1' : doE n (ptW L m l) (k : Int) (t : Int) = 0 := by rw [← hs]; exact ex1
  rw [ex1', ex2] at HDX
  have HSA := Hid.mk' (fun (w' : World) (a' : Option Addr) (n' c' : Nat) (hc : Come w' a' n' c' (doD (ptW L m l) k t L)) => sslot_any (i := 0) hc)
  have HSB := Hid.mk' (fun (w' : World) (a' : Option Addr) (n' c' : Nat) (hc : Come w' a' n' c' (doD (ptW L m l) k t L)) => sslot_any (i := 1) hc)
  unfold SlqP at HSA HSB
  obtain ⟨sE, sK⟩ := slt_keeps hh hk ht h0
  rw [hw] at sE sK
  replace sE : slE19 (doD (ptW L m l) k t L) 1 = 0 := sE
  replace sK : slK19 (doD (ptW L m l) k t L) 1 = rdK19 L := sK
  rw [sE, sK, hg1, hm1, hl1] at HSB
  rw [hg1, hm1, hl1, h0] at HR
  clear sE sK hl1 hE1
  obtain ⟨ga0, hga0⟩ : ∃ g : Int, ((slK19 (doD (ptW L m l) k t L) 0).gen : Int) = g := ⟨_, rfl⟩
  obtain ⟨ma0, hma0⟩ : ∃ g, (slK19 (doD (ptW L m l) k t L) 0).mode = g := ⟨_, rfl⟩
  obtain ⟨la0, hla0⟩ : ∃ g, (slK19 (doD (ptW L m l) k t L) 0).plans = g := ⟨_, rfl⟩
  obtain ⟨Ea, hEa⟩ : ∃ g, slE19 (doD (ptW L m l) k t L) 0 = g := ⟨_, rfl⟩
  rw [hga0, hma0, hla0, hEa] at HSA
  rw [hga0, hma0, hEa, hg1, hm1] at hn
  have HN := Hid.mk' hn
  clear hga0 hma0 hla0 hEa hn
  clear hg1 hm1
  generalize doD (ptW L m l) k t L = X at *
  rw [hM] at HPU HDX hk
  generalize ptW L m l = W at *
  have hk' : ¬ (M : Int) < (k : Int) := by omega
  clear hh hs hpl hM ex1 ex1' ex2 h h0 hw q1 q2 q3 q4 q5 q6 q7
  clear hC hP hkA r1
  go_enter Try.func3, Try.ntmps3
  go_wp2_with (first
    | (have hgo := M7; clear hgo; exfalso; have hn := HN.out; omega)
    | (have hgo := M7; clear hgo; go_at_call 10; refine (rsamePlans_y PB.out.plans PK.out.plans).mono ?_; rintro e w9 ⟨rfl, hk⟩; replace K := Hid.mk' (K.out.tr hk); replace PK := Hid.mk' (PK.out.kept hk); replace PB := Hid.mk' (PB.out.kept hk); replace RD := Hid.mk' (rowK RD.out hk); replace d0 : w9.cell? ⟨w.heap.size, 0, none⟩ = some (.slice a n c) := RD.out.cell (i := 0) (by omega); replace RK := Hid.mk' (rowK RK.out hk); replace k0 : w9.cell? ⟨w3.heap.size, 0, none⟩ = some (.int .i64 g1) := RK.out.cell (i := 0) (by omega); replace k1 : w9.cell? ⟨w3.heap.size, 1, none⟩ = some (.int .u8 (m1 : Int)) := RK.out.cell (i := 1) (by omega); replace k2 : w9.cell? ⟨w3.heap.size, 2, none⟩ = some (.slice p1 n1 c1) := RK.out.cell (i := 2) (by omega); replace RX := Hid.mk' (rowK RX.out hk); replace x0 : w9.cell? ⟨w5.heap.size, 0, none⟩ = some (.slice ax nx cx) := RX.out.cell (i := 0) (by omega); replace RA := Hid.mk' (rowK RA.out hk); replace ka0 : w9.cell? ⟨w6.heap.size, 0, none⟩ = some (.int .i64 ga0) := RA.out.cell (i := 0) (by omega); replace ka1 : w9.cell? ⟨w6.heap.size, 1, none⟩ = some (.int .u8 (ma0 : Int)) := RA.out.cell (i := 1) (by omega); replace ka2 : w9.cell? ⟨w6.heap.size, 2, none⟩ = some (.slice pa na ca) := RA.out.cell (i := 2) (by omega); replace RB := Hid.mk' (rowK RB.out hk); replace kb0 : w9.cell? ⟨w7.heap.size, 0, none⟩ = some (.int .i64 g1) := RB.out.cell (i := 0) (by omega); replace kb1 : w9.cell? ⟨w7.heap.size, 1, none⟩ = some (.int .u8 (m1 : Int)) := RB.out.cell (i := 1) (by omega); replace kb2 : w9.cell? ⟨w7.heap.size, 2, none⟩ = some (.slice pb nb cb) := RB.out.cell (i := 2) (by omega); clear hk M7)
    | (have hgo := M6; clear hgo; go_at_call 9; refine (HSB.out _ _ _ _ CX.out).mono ?_; rintro e w7 ⟨pb, nb, cb, rfl, hp, hk⟩; have KA : Kept w7 (w7.alloc (.cells #[(.int .i64 g1), (.int .u8 (m1 : Int)), (.slice pb nb cb)] 29)) none := Kept.alloc _ _ _ _ _; replace K := Hid.mk' ((K.out.tr hk).tr KA); replace PK := Hid.mk' ((PK.out.kept hk).kept KA); replace PA := Hid.mk' ((PA.out.kept hk).kept KA); have PB := Hid.mk' (hp.kept KA); replace RD := Hid.mk' (rowK (rowK RD.out hk) KA); replace d0 : (w7.alloc (.cells #[(.int .i64 g1), (.int .u8 (m1 : Int)), (.slice pb nb cb)] 29)).cell? ⟨w.heap.size, 0, none⟩ = some (.slice a n c) := RD.out.cell (i := 0) (by omega); replace RK := Hid.mk' (rowK (rowK RK.out hk) KA); replace k0 : (w7.alloc (.cells #[(.int .i64 g1), (.int .u8 (m1 : Int)), (.slice pb nb cb)] 29)).cell? ⟨w3.heap.size, 0, none⟩ = some (.int .i64 g1) := RK.out.cell (i := 0) (by omega); replace k1 : (w7.alloc (.cells #[(.int .i64 g1), (.int .u8 (m1 : Int)), (.slice pb nb cb)] 29)).cell? ⟨w3.heap.size, 1, none⟩ = some (.int .u8 (m1 : Int)) := RK.out.cell (i := 1) (by omega); replace k2 : (w7.alloc (.cells #[(.int .i64 g1), (.int .u8 (m1 : Int)), (.slice pb nb cb)] 29)).cell? ⟨w3.heap.size, 2, none⟩ = some (.slice p1 n1 c1) := RK.out.cell (i := 2) (by omega); replace RX := Hid.mk' (rowK (rowK RX.out hk) KA); replace x0 : (w7.alloc (.cells #[(.int .i64 g1), (.int .u8 (m1 : Int)), (.slice pb nb cb)] 29)).cell? ⟨w5.heap.size, 0, none⟩ = some (.slice ax nx cx) := RX.out.cell (i := 0) (by omega); replace RA := Hid.mk' (rowK (rowK RA.out hk) KA); replace ka0 : (w7.alloc (.cells #[(.int .i64 g1), (.int .u8 (m1 : Int)), (.slice pb nb cb)] 29)).cell? ⟨w6.heap.size, 0, none⟩ = some (.int .i64 ga0) := RA.out.cell (i := 0) (by omega); replace ka1 : (w7.alloc (.cells #[(.int .i64 g1), (.int .u8 (m1 : Int)), (.slice pb nb cb)] 29)).cell? ⟨w6.heap.size, 1, none⟩ = some (.int .u8 (ma0 : Int)) := RA.out.cell (i := 1) (by omega); replace ka2 : (w7.alloc (.cells #[(.int .i64 g1), (.int .u8 (m1 : Int)), (.slice pb nb cb)] 29)).cell? ⟨w6.heap.size, 2, none⟩ = some (.slice pa na ca) := RA.out.cell (i := 2) (by omega); have RB := Hid.mk' (row3 w7 (.int .i64 g1) (.int .u8 (m1 : Int)) (.slice pb nb cb) 29); have kb0 : (w7.alloc (.cells #[(.int .i64 g1), (.int .u8 (m1 : Int)), (.slice pb nb cb)] 29)).cell? ⟨w7.heap.size, 0, none⟩ = some (.int .i64 g1) := RB.out.cell (i := 0) (by omega); have kb1 : (w7.alloc (.cells #[(.int .i64 g1), (.int .u8 (m1 : Int)), (.slice pb nb cb)] 29)).cell? ⟨w7.heap.size, 1, none⟩ = some (.int .u8 (m1 : Int)) := RB.out.cell (i := 1) (by omega); have kb2 : (w7.alloc (.cells #[(.int .i64 g1), (.int .u8 (m1 : Int)), (.slice pb nb cb)] 29)).cell? ⟨w7.heap.size, 2, none⟩ = some (.slice pb nb cb) := RB.out.cell (i := 2) (by omega); have M7 := Hid.mk' True.intro; clear hp hk KA M6)
    | (have hgo := M5; clear hgo; go_at_call 9; refine (HSA.out _ _ _ _ CX.out).mono ?_; rintro e w6 ⟨pa, na, ca, rfl, hp, hk⟩; have KA : Kept w6 (w6.alloc (.cells #[(.int .i64 ga0), (.int .u8 (ma0 : Int)), (.slice pa na ca)] 29)) none := Kept.alloc _ _ _ _ _; replace K := Hid.mk' ((K.out.tr hk).tr KA); replace PK := Hid.mk' ((PK.out.kept hk).kept KA); replace CX := Hid.mk' (CX.out.kpt (hk.tr KA)); have PA := Hid.mk' (hp.kept KA); replace RD := Hid.mk' (rowK (rowK RD.out hk) KA); replace d0 : (w6.alloc (.cells #[(.int .i64 ga0), (.int .u8 (ma0 : Int)), (.slice pa na ca)] 29)).cell? ⟨w.heap.size, 0, none⟩ = some (.slice a n c) := RD.out.cell (i := 0) (by omega); replace RK := Hid.mk' (rowK (rowK RK.out hk) KA); replace k0 : (w6.alloc (.cells #[(.int .i64 ga0), (.int .u8 (ma0 : Int)), (.slice pa na ca)] 29)).cell? ⟨w3.heap.size, 0, none⟩ = some (.int .i64 g1) := RK.out.cell (i := 0) (by omega); replace k1 : (w6.alloc (.cells #[(.int .i64 ga0), (.int .u8 (ma0 : Int)), (.slice pa na ca)] 29)).cell? ⟨w3.heap.size, 1, none⟩ = some (.int .u8 (m1 : Int)) := RK.out.cell (i := 1) (by omega); replace k2 : (w6.alloc (.cells #[(.int .i64 ga0), (.int .u8 (ma0 : Int)), (.slice pa na ca)] 29)).cell? ⟨w3.heap.size, 2, none⟩ = some (.slice p1 n1 c1) := RK.out.cell (i := 2) (by omega); replace RX := Hid.mk' (rowK (rowK RX.out hk) KA); replace x0 : (w6.alloc (.cells #[(.int .i64 ga0), (.int .u8 (ma0 : Int)), (.slice pa na ca)] 29)).cell? ⟨w5.heap.size, 0, none⟩ = some (.slice ax nx cx) := RX.out.cell (i := 0) (by omega); have RA := Hid.mk' (row3 w6 (.int .i64 ga0) (.int .u8 (ma0 : Int)) (.slice pa na ca) 29); have ka0 : (w6.alloc (.cells #[(.int .i64 ga0), (.int .u8 (ma0 : Int)), (.slice pa na ca)] 29)).cell? ⟨w6.heap.size, 0, none⟩ = some (.int .i64 ga0) := RA.out.cell (i := 0) (by omega); have ka1 : (w6.alloc (.cells #[(.int .i64 ga0), (.int .u8 (ma0 : Int)), (.slice pa na ca)] 29)).cell? ⟨w6.heap.size, 1, none⟩ = some (.int .u8 (ma0 : Int)) := RA.out.cell (i := 1) (by omega); have ka2 : (w6.alloc (.cells #[(.int .i64 ga0), (.int .u8 (ma0 : Int)), (.slice pa na ca)] 29)).cell? ⟨w6.heap.size, 2, none⟩ = some (.slice pa na ca) := RA.out.cell (i := 2) (by omega); have M6 := Hid.mk' True.intro; clear hp hk KA M5)
    | (have hgo := M4; clear hgo; go_at_call 8; refine (HDX.out _ K.out _ cp P.out).mono ?_; rintro e w5 ⟨⟨ax, nx, cx, rfl, hdx⟩, hk⟩; have KA : Kept w5 (w5.alloc (.cells #[.slice ax nx cx] 24)) none := Kept.alloc _ _ _ _ _; replace K := Hid.mk' ((K.out.tr hk).tr KA); replace PK := Hid.mk' ((PK.out.kept hk).kept KA); have CX := Hid.mk' (hdx.come.kpt KA); replace RD := Hid.mk' (rowK (rowK RD.out hk) KA); replace d0 : (w5.alloc (.cells #[.slice ax nx cx] 24)).cell? ⟨w.heap.size, 0, none⟩ = some (.slice a n c) := RD.out.cell (i := 0) (by omega); replace RK := Hid.mk' (rowK (rowK RK.out hk) KA); replace k0 : (w5.alloc (.cells #[.slice ax nx cx] 24)).cell? ⟨w3.heap.size, 0, none⟩ = some (.int .i64 g1) := RK.out.cell (i := 0) (by omega); replace k1 : (w5.alloc (.cells #[.slice ax nx cx] 24)).cell? ⟨w3.heap.size, 1, none⟩ = some (.int .u8 (m1 : Int)) := RK.out.cell (i := 1) (by omega); replace k2 : (w5.alloc (.cells #[.slice ax nx cx] 24)).cell? ⟨w3.heap.size, 2, none⟩ = some (.slice p1 n1 c1) := RK.out.cell (i := 2) (by omega); have RX := Hid.mk' (row1 w5 (.slice ax nx cx) 24); have x0 : (w5.alloc (.cells #[.slice ax nx cx] 24)).cell? ⟨w5.heap.size, 0, none⟩ = some (.slice ax nx cx) := RX.out.cell (i := 0) (by omega); have M5 := Hid.mk' True.intro; clear hdx hk KA M4)
    | (have hgo := M3; clear hgo; go_at_call 7; refine (HPU.out _ K.out).mono ?_; rintro e w4 ⟨ap, cp, rfl, hp, hk⟩; have P := Hid.mk' hp.plw; replace K := Hid.mk' (K.out.tr hk); replace PK := Hid.mk' (PK.out.kept hk); replace RD := Hid.mk' (rowK RD.out hk); replace d0 : w4.cell? ⟨w.heap.size, 0, none⟩ = some (.slice a n c) := RD.out.cell (i := 0) (by omega); replace RK := Hid.mk' (rowK RK.out hk); replace k0 : w4.cell? ⟨w3.heap.size, 0, none⟩ = some (.int .i64 g1) := RK.out.cell (i := 0) (by omega); replace k1 : w4.cell? ⟨w3.heap.size, 1, none⟩ = some (.int .u8 (m1 : Int)) := RK.out.cell (i := 1) (by omega); replace k2 : w4.cell? ⟨w3.heap.size, 2, none⟩ = some (.slice p1 n1 c1) := RK.out.cell (i := 2) (by omega); have M4 := Hid.mk' True.intro; clear hp hk M3)
    | (have hgo := M2; clear hgo; go_at_call 6; refine (HR.out _ K.out).mono ?_; rintro e w3 ⟨p1, n1, c1, rfl, hp, hk⟩; have KA : Kept w3 (w3.alloc (.cells #[(.int .i64 g1), (.int .u8 (m1 : Int)), (.slice p1 n1 c1)] 29)) none := Kept.alloc _ _ _ _ _; replace K := Hid.mk' ((K.out.tr hk).tr KA); have PK := Hid.mk' (hp.kept KA); replace RD := Hid.mk' (rowK (rowK RD.out hk) KA); replace d0 : (w3.alloc (.cells #[(.int .i64 g1), (.int .u8 (m1 : Int)), (.slice p1 n1 c1)] 29)).cell? ⟨w.heap.size, 0, none⟩ = some (.slice a n c) := RD.out.cell (i := 0) (by omega); have RK := Hid.mk' (row3 w3 (.int .i64 g1) (.int .u8 (m1 : Int)) (.slice p1 n1 c1) 29); have k0 : (w3.alloc (.cells #[(.int .i64 g1), (.int .u8 (m1 : Int)), (.slice p1 n1 c1)] 29)).cell? ⟨w3.heap.size, 0, none⟩ = some (.int .i64 g1) := RK.out.cell (i := 0) (by omega); have k1 : (w3.alloc (.cells #[(.int .i64 g1), (.int .u8 (m1 : Int)), (.slice p1 n1 c1)] 29)).cell? ⟨w3.heap.size, 1, none⟩ = some (.int .u8 (m1 : Int)) := RK.out.cell (i := 1) (by omega); have k2 : (w3.alloc (.cells #[(.int .i64 g1), (.int .u8 (m1 : Int)), (.slice p1 n1 c1)] 29)).cell? ⟨w3.heap.size, 2, none⟩ = some (.slice p1 n1 c1) := RK.out.cell (i := 2) (by omega); have M3 := Hid.mk' True.intro; clear hp hk KA M2)
    | (have hgo := M1; clear hgo; go_at_call 5; refine (much_any HC.out.by_.max (HP.out.kept K.out)).mono ?_; rintro e w2 ⟨b, rfl, hk2⟩; replace K := Hid.mk' (K.out.tr hk2); replace RD := Hid.mk' (rowK RD.out hk2); replace d0 : w2.cell? ⟨w.heap.size, 0, none⟩ = some (.slice a n c) := RD.out.cell (i := 0) (by omega); have M2 := Hid.mk' True.intro; clear hk2 M1; cases b)
    | (go_at_call 4; refine (alive_any _).mono ?_; rintro e w1 ⟨rfl, hk1⟩; have K := Hid.mk' (KZ.out.tr hk1); replace RD := Hid.mk' (rowK RD.out hk1); have d0 : w1.cell? ⟨w.heap.size, 0, none⟩ = some (.slice a n c) := RD.out.cell (i := 0) (by omega); have M1 := Hid.mk' True.intro; clear hk1 KZ))
  all_goals go_ret
  all_goals first | exact ⟨rfl, K.out⟩ | exact ⟨by simp, K.out⟩ | exact ⟨by simp [*], K.out⟩
theorem sslt_any {a : Option Addr} {n c : Nat} {L : List Nat} {m : Nat} {la : Option Addr} {ln lc : Nat} {l : List Pl} {w : World} (hC : Come w a n c L) (hP : Plans w la ln lc l) {wh tn : Int} : Calls Try.prog 3 #[dvV a n c, .int .u8 (m : Int), .slice la ln lc, .int .i64 wh, .int .i64 tn] w (fun e w' => e = .returned (.bool true) ∧ Kept w w' none) := by
  by_cases h0 : wh < 0
  · exact sslt_e0 hC hP h0
  by_cases h1 : tn < 0
  · exact sslt_e1 hC hP h0 h1
  by_cases h2 : 64 < tn
  · exact sslt_e2 hC hP h0 h1 h2
  obtain ⟨k, rfl⟩ := Int.eq_ofNat_of_zero_le (show 0 ≤ wh by omega)
  obtain ⟨t, rfl⟩ := Int.eq_ofNat_of_zero_le (show 0 ≤ tn by omega)
  have ht : t ≤ 64 := by omega
  by_cases hr : rdE19 L = 0
  · by_cases hp : ptE L m l = 0
    · by_cases hk : k ≤ manK L.length
      · rcases wr_01 L with e | e
        · by_cases hy : slE19 (doD (ptW L m l) k t L) 0 = 0 ∧ ((slK19 (doD (ptW L m l) k t L) 0).gen : Int) = ((rdK19 L).gen : Int) ∧ (slK19 (doD (ptW L m l) k t L) 0).mode = (rdK19 L).mode
          · exact sslt_1y hC hP ht hr hp hk e hy.1 hy.2.1 hy.2.2
          · exact sslt_1n hC hP ht hr hp hk e hy
        · exact sslt_0 hC hP ht hr hp hk e
      · exact sslt_far hC hP ht hr hp (by omega)
    · exact sslt_p hC hP ht hr hp
  · exact sslt_r hC hP ht hr

end Go.Proofs.Ytmjkhafifemegab
