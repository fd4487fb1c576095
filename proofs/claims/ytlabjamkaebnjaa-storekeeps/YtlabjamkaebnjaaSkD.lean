/-
  THE DOCUMENT's counts (made by a program).
-/
import Derived.Test.YtlabjamkaebnjaaSkC
namespace Go.Proofs.Ytlabjamkaebnjaa
open Go.RowKit Go.Lib Go.Deep
set_option linter.unusedVariables false
set_option linter.unusedSimpArgs false

/-- The slot that counts, as the document's counts tells it. -/
def ctAt (d : List Nat) : Int := if cnt0 d = true then 0 else if kepB (sltB d 1) = true then 1 else -1
/-- What the document's counts answers. -/
def RctP (w : World) (L : List Nat) (e : Ending) (w' : World) : Prop := ∃ pa n c, e = .returned (.tuple #[.int .i64 (ctAt L), kpV ((ctK L).gen : Int) (ctK L).mode pa n c]) ∧ PlF w' w.heap.size pa n c (ctK L).plans ∧ Kept w w' none
theorem ct_FF {L : List Nat} (h0 : kepB (sltB L 0) = false) (h1 : kepB (sltB L 1) = false) : ctAt L = -1 ∧ ctK L = k00 := by
  have hc : cnt0 L = false := by unfold cnt0; rw [← kep_gen, h0]; rfl
  unfold ctAt ctK
  rw [hc, h1, kep_no h1]
  exact ⟨rfl, rfl⟩
theorem ct_FT {L : List Nat} (h0 : kepB (sltB L 0) = false) (h1 : kepB (sltB L 1) = true) : ctAt L = 1 ∧ ctK L = kepK (sltB L 1) := by
  have hc : cnt0 L = false := by unfold cnt0; rw [← kep_gen, h0]; rfl
  unfold ctAt ctK
  rw [hc, h1]
  exact ⟨rfl, rfl⟩
theorem ct_TF {L : List Nat} (h0 : kepB (sltB L 0) = true) (h1 : kepB (sltB L 1) = false) : ctAt L = 0 ∧ ctK L = kepK (sltB L 0) := by
  have hc : cnt0 L = true := by
    unfold cnt0
    rw [← kep_gen, h0, kep_no h1]
    simp [k00]
  unfold ctAt ctK
  rw [hc]
  exact ⟨rfl, rfl⟩
theorem ct_TTge {L : List Nat} (h0 : kepB (sltB L 0) = true) (h1 : kepB (sltB L 1) = true) (h : (kepK (sltB L 1)).gen ≤ (kepK (sltB L 0)).gen) : ctAt L = 0 ∧ ctK L = kepK (sltB L 0) := by
  have hc : cnt0 L = true := by
    unfold cnt0
    rw [← kep_gen, h0, decide_eq_true h]
    rfl
  unfold ctAt ctK
  rw [hc]
  exact ⟨rfl, rfl⟩
theorem ct_TTlt {L : List Nat} (h0 : kepB (sltB L 0) = true) (h1 : kepB (sltB L 1) = true) (h : ¬ (kepK (sltB L 1)).gen ≤ (kepK (sltB L 0)).gen) : ctAt L = 1 ∧ ctK L = kepK (sltB L 1) := by
  have hc : cnt0 L = false := by
    unfold cnt0
    rw [← kep_gen, h0, decide_eq_false h]
    rfl
  unfold ctAt ctK
  rw [hc, h1]
  exact ⟨rfl, rfl⟩
set_option maxRecDepth 100000 in
set_option maxHeartbeats 4000000 in
theorem rcounts_any {b off n c : Nat} {L : List Nat} {w : World} (hC : Come w (some ⟨b, off, none⟩) n c L) (hA : askE n = 0) : Calls Try.prog 24 #[dvV (some ⟨b, off, none⟩) n c] w (RctP w L) := by
  obtain ⟨k1, k2, k3, k4, k5, k6, k7⟩ := ask_ok hA
  have hl := hC.by_.size
  have hAL : askE L.length = 0 := by rw [hl]; exact hA
  obtain ⟨WA, hWA⟩ : ∃ WA, (w.alloc (.cells #[.slice (some ⟨b, off, none⟩) n c] 24)).alloc (.cells #[.int .i64 0, .int .u8 0, .slice none 0 0] 35) = WA := ⟨_, rfl⟩
  have hkA : Kept w WA none := by rw [← hWA]; exact (Kept.alloc _ _ _ _ _).tr (Kept.alloc _ _ _ _ _)
  have hzA : WA.heap.size = w.heap.size + 2 := by rw [← hWA]; simp
  have RD : Hid (WA.rowIs w.heap.size 24 1 (fun _ => .slice (some ⟨b, off, none⟩) n c)) := Hid.mk' (by
    rw [← hWA]
    exact rowK (row1k w (.slice (some ⟨b, off, none⟩) n c) 24) (Kept.alloc _ _ _ _ _))
  have RR : Hid (WA.rowIs (w.heap.size + 1) 35 3 (f3 (.int .i64 0) (.int .u8 0) (.slice none 0 0))) := Hid.mk' (by
    have h := row3 (w.alloc (.cells #[.slice (some ⟨b, off, none⟩) n c] 24)) (.int .i64 0) (.int .u8 0) (.slice none 0 0) 35
    rw [World.size_alloc] at h
    rw [← hWA]
    exact h)
  have HS0 : Hid (∀ w', Kept WA w' none → Calls Try.prog 32 #[dvV (some ⟨b, off, none⟩) n c, .int .i64 0] w' fun e w2 => ∃ a' c', e = .returned (.slice a' (manK n) c') ∧ Bl w2 w'.heap.size a' (manK n) (sltB L 0) ∧ Kept w' w2 none) := Hid.mk' (fun w' hk => rslot_any (i := 0) w' (hC.kpt (hkA.tr hk)) hA (by omega))
  have HS1 : Hid (∀ w', Kept WA w' none → Calls Try.prog 32 #[dvV (some ⟨b, off, none⟩) n c, .int .i64 1] w' fun e w2 => ∃ a' c', e = .returned (.slice a' (manK n) c') ∧ Bl w2 w'.heap.size a' (manK n) (sltB L 1) ∧ Kept w' w2 none) := Hid.mk' (fun w' hk => rslot_any (i := 1) w' (hC.kpt (hkA.tr hk)) hA (by omega))
  have HK0 := Hid.mk' (fun (w' : World) (a' : Option Addr) (c' : Nat) (h : Bl w' 0 a' (manK n) (sltB L 0)) => rkept_any (c := c') h (slt_64 hAL (by omega)) k4 k5)
  have HK1 := Hid.mk' (fun (w' : World) (a' : Option Addr) (c' : Nat) (h : Bl w' 0 a' (manK n) (sltB L 1)) => rkept_any (c := c') h (slt_64 hAL (by omega)) k4 k5)
  unfold RkP at HK0 HK1
  have hT := And.intro (ct_FF (L := L)) (And.intro (ct_FT (L := L)) (And.intro (ct_TF (L := L)) (And.intro (ct_TTge (L := L)) (ct_TTlt (L := L)))))
  generalize manK n = mn at *
  unfold RctP
  generalize ctAt L = AT at *
  generalize ctK L = CT at *
  generalize sltB L 0 = B0 at *
  generalize sltB L 1 = B1' at *
  generalize kepB B0 = T0 at *
  generalize kepB B1' = T1 at *
  obtain ⟨q0, hq0⟩ : ∃ q, kepK B0 = q := ⟨_, rfl⟩
  obtain ⟨q1, hq1⟩ : ∃ q, kepK B1' = q := ⟨_, rfl⟩
  rw [hq0] at HK0 hT
  rw [hq1] at HK1 hT
  obtain ⟨G0, m0, l0⟩ := q0
  obtain ⟨G1, m1, l1⟩ := q1
  dsimp only at HK0 HK1 hT
  obtain ⟨g0, hg0⟩ : ∃ g : Int, (G0 : Int) = g := ⟨_, rfl⟩
  obtain ⟨g1, hg1⟩ : ∃ g : Int, (G1 : Int) = g := ⟨_, rfl⟩
  rw [hg0] at HK0
  rw [hg1] at HK1
  have HT := Hid.mk' hT
  have HG := Hid.mk' (And.intro hg0 hg1)
  have HZ : Hid (w.heap.size + 2 ≤ WA.heap.size) := Hid.mk' (by omega)
  have HWA := Hid.mk' hWA
  have HKA := Hid.mk' hkA
  have M0 := Hid.mk' True.intro
  clear hC hA hAL hl k1 k2 k3 k4 k5 k6 k7 hkA hzA hT hq0 hq1 hg0 hg1 hWA
  cases T0 <;> cases T1
  · have HCT := Hid.mk' (HT.out.1 rfl rfl)
    go_enter Try.func24, Try.ntmps24
    go_wp2_with (first
      | (have hgo := M3; clear hgo; go_at_call 35; refine (HK1.out _ _ _ B3.out).mono ?_; rintro e w4 ⟨pa1, n1, c1, rfl, hp, hk⟩; have P1 := Hid.mk' (hp.mono (Nat.le_trans HZ.out (HKW.out.size))); have HKX := Hid.mk' (HKW.out.tr (hk.tr (Kept.alloc w4 #[.int .i64 g1, .int .u8 (m1 : Int), .slice pa1 n1 c1] 35 (0, 0) none))); have RBX := Hid.mk' (row3 w4 (.int .i64 g1) (.int .u8 (m1 : Int)) (.slice pa1 n1 c1) 35); have RAX := Hid.mk' (rowK RA2.out (KW.out.tr (hk.tr (Kept.alloc w4 #[.int .i64 g1, .int .u8 (m1 : Int), .slice pa1 n1 c1] 35 (0, 0) none)))); have RRX := Hid.mk' (rowK RR.out HKX.out); have KA4 := Hid.mk' (KW.out.tr hk); have P1X := Hid.mk' (P1.out.kept (Kept.alloc w4 #[.int .i64 g1, .int .u8 (m1 : Int), .slice pa1 n1 c1] 35 (0, 0) none)); have P0X := Hid.mk' (P0.out.kept ((Kept.alloc w2 #[.int .i64 g0, .int .u8 (m0 : Int), .slice pa0 n0 c0] 35 (0, 0) none).tr (KW.out.tr (hk.tr (Kept.alloc w4 #[.int .i64 g1, .int .u8 (m1 : Int), .slice pa1 n1 c1] 35 (0, 0) none))))); have s0 : (w4.alloc (.cells #[.int .i64 g1, .int .u8 (m1 : Int), .slice pa1 n1 c1] 35)).cell? ⟨w2.heap.size, 0, none⟩ = some (.int .i64 g0) := RAX.out.cell (i := 0) (by omega); have s1 : (w4.alloc (.cells #[.int .i64 g1, .int .u8 (m1 : Int), .slice pa1 n1 c1] 35)).cell? ⟨w2.heap.size, 1, none⟩ = some (.int .u8 (m0 : Int)) := RAX.out.cell (i := 1) (by omega); have s2 : (w4.alloc (.cells #[.int .i64 g1, .int .u8 (m1 : Int), .slice pa1 n1 c1] 35)).cell? ⟨w2.heap.size, 2, none⟩ = some (.slice pa0 n0 c0) := RAX.out.cell (i := 2) (by omega); have u0 : (w4.alloc (.cells #[.int .i64 g1, .int .u8 (m1 : Int), .slice pa1 n1 c1] 35)).cell? ⟨w4.heap.size, 0, none⟩ = some (.int .i64 g1) := RBX.out.cell (i := 0) (by omega); have u1 : (w4.alloc (.cells #[.int .i64 g1, .int .u8 (m1 : Int), .slice pa1 n1 c1] 35)).cell? ⟨w4.heap.size, 1, none⟩ = some (.int .u8 (m1 : Int)) := RBX.out.cell (i := 1) (by omega); have u2 : (w4.alloc (.cells #[.int .i64 g1, .int .u8 (m1 : Int), .slice pa1 n1 c1] 35)).cell? ⟨w4.heap.size, 2, none⟩ = some (.slice pa1 n1 c1) := RBX.out.cell (i := 2) (by omega); have t0 : (w4.alloc (.cells #[.int .i64 g1, .int .u8 (m1 : Int), .slice pa1 n1 c1] 35)).cell? ⟨w.heap.size + 1, 0, none⟩ = some (.int .i64 0) := RRX.out.cell (i := 0) (by omega); have y0 : (w4.alloc (.cells #[.int .i64 g1, .int .u8 (m1 : Int), .slice pa1 n1 c1] 35)).frozen? ⟨w.heap.size + 1, 0, none⟩ = false := RRX.out.frozen 0; have t1 : (w4.alloc (.cells #[.int .i64 g1, .int .u8 (m1 : Int), .slice pa1 n1 c1] 35)).cell? ⟨w.heap.size + 1, 1, none⟩ = some (.int .u8 0) := RRX.out.cell (i := 1) (by omega); have y1 : (w4.alloc (.cells #[.int .i64 g1, .int .u8 (m1 : Int), .slice pa1 n1 c1] 35)).frozen? ⟨w.heap.size + 1, 1, none⟩ = false := RRX.out.frozen 1; have t2 : (w4.alloc (.cells #[.int .i64 g1, .int .u8 (m1 : Int), .slice pa1 n1 c1] 35)).cell? ⟨w.heap.size + 1, 2, none⟩ = some (.slice none 0 0) := RRX.out.cell (i := 2) (by omega); have y2 : (w4.alloc (.cells #[.int .i64 g1, .int .u8 (m1 : Int), .slice pa1 n1 c1] 35)).frozen? ⟨w.heap.size + 1, 2, none⟩ = false := RRX.out.frozen 2; have hz4 := KA4.out.size; rw [World.size_alloc] at hz4; have hz2 := HZ2.out; have hne1 : ¬ w2.heap.size = w4.heap.size := (by omega); have hne2 : ¬ w.heap.size + 1 = w4.heap.size := (by omega); have hne3 : ¬ w.heap.size + 1 = w2.heap.size := (by omega); have M4 := Hid.mk' True.intro; clear hp hk M3)
      | (have hgo := M2; clear hgo; go_at_call 32; refine (HS1.out _ HKB.out).mono ?_; rintro e w3 ⟨b3, c3, rfl, hb, hk⟩; have B3 := Hid.mk' (hb.mono (Nat.zero_le _)); have KW := Hid.mk' hk; have HKW := Hid.mk' (HKB.out.tr hk); have M3 := Hid.mk' True.intro; clear hb hk M2)
      | (have hgo := M1; clear hgo; go_at_call 35; refine (HK0.out _ _ _ B1.out).mono ?_; rintro e w2 ⟨pa0, n0, c0, rfl, hp, hk⟩; have P0 := Hid.mk' (hp.mono (Nat.le_trans HZ.out (K1W.out.size))); have HZ2 := Hid.mk' (Nat.le_trans HZ.out (K1W.out.tr hk).size); have HKB := Hid.mk' (K1W.out.tr (hk.tr (Kept.alloc w2 #[.int .i64 g0, .int .u8 (m0 : Int), .slice pa0 n0 c0] 35 (0, 0) none))); have RA2 := Hid.mk' (row3 w2 (.int .i64 g0) (.int .u8 (m0 : Int)) (.slice pa0 n0 c0) 35); have d2 : (w2.alloc (.cells #[.int .i64 g0, .int .u8 (m0 : Int), .slice pa0 n0 c0] 35)).cell? ⟨w.heap.size, 0, none⟩ = some (.slice (some ⟨b, off, none⟩) n c) := (rowK RD.out HKB.out).cell (i := 0) (by omega); have M2 := Hid.mk' True.intro; clear hp hk M1)
      | (have hgo := M0; clear hgo; go_at_call 32; rw [HWA.out]; refine (HS0.out _ (Kept.refl _ _)).mono ?_; rintro e w1 ⟨b1, c1, rfl, hb, hk⟩; have B1 := Hid.mk' (hb.mono (Nat.zero_le _)); have K1W := Hid.mk' hk; have M1 := Hid.mk' True.intro; clear hb hk M0))
    have hct := HCT.out
    generalize (w4.alloc (.cells #[.int .i64 g1, .int .u8 (m1 : Int), .slice pa1 n1 c1] 35)) = WD at *
    have hrw := row3_set RRX.out (.int .i64 0) (.int .u8 0) (.slice none 0 0)
    have q0 : (((WD.setCell ⟨w.heap.size + 1, 0, none⟩ (.int .i64 0)).setCell ⟨w.heap.size + 1, 1, none⟩ (.int .u8 0)).setCell ⟨w.heap.size + 1, 2, none⟩ (.slice none 0 0)).cell? ⟨w.heap.size + 1, 0, none⟩ = some (.int .i64 0) := hrw.cell (i := 0) (by omega)
    have q1 : (((WD.setCell ⟨w.heap.size + 1, 0, none⟩ (.int .i64 0)).setCell ⟨w.heap.size + 1, 1, none⟩ (.int .u8 0)).setCell ⟨w.heap.size + 1, 2, none⟩ (.slice none 0 0)).cell? ⟨w.heap.size + 1, 1, none⟩ = some (.int .u8 0) := hrw.cell (i := 1) (by omega)
    have q2 : (((WD.setCell ⟨w.heap.size + 1, 0, none⟩ (.int .i64 0)).setCell ⟨w.heap.size + 1, 1, none⟩ (.int .u8 0)).setCell ⟨w.heap.size + 1, 2, none⟩ (.slice none 0 0)).cell? ⟨w.heap.size + 1, 2, none⟩ = some (.slice none 0 0) := hrw.cell (i := 2) (by omega)
    have hkf : Kept w (((WD.setCell ⟨w.heap.size + 1, 0, none⟩ (.int .i64 0)).setCell ⟨w.heap.size + 1, 1, none⟩ (.int .u8 0)).setCell ⟨w.heap.size + 1, 2, none⟩ (.slice none 0 0)) none := (((HKA.out.tr HKX.out).setNew (p := ⟨w.heap.size + 1, 0, none⟩) (show w.heap.size ≤ w.heap.size + 1 by omega) _).setNew (p := ⟨w.heap.size + 1, 1, none⟩) (show w.heap.size ≤ w.heap.size + 1 by omega) _).setNew (p := ⟨w.heap.size + 1, 2, none⟩) (show w.heap.size ≤ w.heap.size + 1 by omega) _
    refine bodyPost_ret (v := .tuple #[.int .i64 (-1), .agg #[(.int .i64 0), (.int .u8 0), (.slice none 0 0)]]) (by simp [results, Try.results24, go_sem, q0, q1, q2]) rfl ⟨none, 0, 0, ?_, ?_, hkf⟩
    · rw [hct.1, hct.2]; rfl
    · rw [hct.2]; exact PlF.nil _ _
  · have HCT := Hid.mk' (HT.out.2.1 rfl rfl)
    go_enter Try.func24, Try.ntmps24
    go_wp2_with (first
      | (have hgo := M3; clear hgo; go_at_call 35; refine (HK1.out _ _ _ B3.out).mono ?_; rintro e w4 ⟨pa1, n1, c1, rfl, hp, hk⟩; have P1 := Hid.mk' (hp.mono (Nat.le_trans HZ.out (HKW.out.size))); have HKX := Hid.mk' (HKW.out.tr (hk.tr (Kept.alloc w4 #[.int .i64 g1, .int .u8 (m1 : Int), .slice pa1 n1 c1] 35 (0, 0) none))); have RBX := Hid.mk' (row3 w4 (.int .i64 g1) (.int .u8 (m1 : Int)) (.slice pa1 n1 c1) 35); have RAX := Hid.mk' (rowK RA2.out (KW.out.tr (hk.tr (Kept.alloc w4 #[.int .i64 g1, .int .u8 (m1 : Int), .slice pa1 n1 c1] 35 (0, 0) none)))); have RRX := Hid.mk' (rowK RR.out HKX.out); have KA4 := Hid.mk' (KW.out.tr hk); have P1X := Hid.mk' (P1.out.kept (Kept.alloc w4 #[.int .i64 g1, .int .u8 (m1 : Int), .slice pa1 n1 c1] 35 (0, 0) none)); have P0X := Hid.mk' (P0.out.kept ((Kept.alloc w2 #[.int .i64 g0, .int .u8 (m0 : Int), .slice pa0 n0 c0] 35 (0, 0) none).tr (KW.out.tr (hk.tr (Kept.alloc w4 #[.int .i64 g1, .int .u8 (m1 : Int), .slice pa1 n1 c1] 35 (0, 0) none))))); have s0 : (w4.alloc (.cells #[.int .i64 g1, .int .u8 (m1 : Int), .slice pa1 n1 c1] 35)).cell? ⟨w2.heap.size, 0, none⟩ = some (.int .i64 g0) := RAX.out.cell (i := 0) (by omega); have s1 : (w4.alloc (.cells #[.int .i64 g1, .int .u8 (m1 : Int), .slice pa1 n1 c1] 35)).cell? ⟨w2.heap.size, 1, none⟩ = some (.int .u8 (m0 : Int)) := RAX.out.cell (i := 1) (by omega); have s2 : (w4.alloc (.cells #[.int .i64 g1, .int .u8 (m1 : Int), .slice pa1 n1 c1] 35)).cell? ⟨w2.heap.size, 2, none⟩ = some (.slice pa0 n0 c0) := RAX.out.cell (i := 2) (by omega); have u0 : (w4.alloc (.cells #[.int .i64 g1, .int .u8 (m1 : Int), .slice pa1 n1 c1] 35)).cell? ⟨w4.heap.size, 0, none⟩ = some (.int .i64 g1) := RBX.out.cell (i := 0) (by omega); have u1 : (w4.alloc (.cells #[.int .i64 g1, .int .u8 (m1 : Int), .slice pa1 n1 c1] 35)).cell? ⟨w4.heap.size, 1, none⟩ = some (.int .u8 (m1 : Int)) := RBX.out.cell (i := 1) (by omega); have u2 : (w4.alloc (.cells #[.int .i64 g1, .int .u8 (m1 : Int), .slice pa1 n1 c1] 35)).cell? ⟨w4.heap.size, 2, none⟩ = some (.slice pa1 n1 c1) := RBX.out.cell (i := 2) (by omega); have t0 : (w4.alloc (.cells #[.int .i64 g1, .int .u8 (m1 : Int), .slice pa1 n1 c1] 35)).cell? ⟨w.heap.size + 1, 0, none⟩ = some (.int .i64 0) := RRX.out.cell (i := 0) (by omega); have y0 : (w4.alloc (.cells #[.int .i64 g1, .int .u8 (m1 : Int), .slice pa1 n1 c1] 35)).frozen? ⟨w.heap.size + 1, 0, none⟩ = false := RRX.out.frozen 0; have t1 : (w4.alloc (.cells #[.int .i64 g1, .int .u8 (m1 : Int), .slice pa1 n1 c1] 35)).cell? ⟨w.heap.size + 1, 1, none⟩ = some (.int .u8 0) := RRX.out.cell (i := 1) (by omega); have y1 : (w4.alloc (.cells #[.int .i64 g1, .int .u8 (m1 : Int), .slice pa1 n1 c1] 35)).frozen? ⟨w.heap.size + 1, 1, none⟩ = false := RRX.out.frozen 1; have t2 : (w4.alloc (.cells #[.int .i64 g1, .int .u8 (m1 : Int), .slice pa1 n1 c1] 35)).cell? ⟨w.heap.size + 1, 2, none⟩ = some (.slice none 0 0) := RRX.out.cell (i := 2) (by omega); have y2 : (w4.alloc (.cells #[.int .i64 g1, .int .u8 (m1 : Int), .slice pa1 n1 c1] 35)).frozen? ⟨w.heap.size + 1, 2, none⟩ = false := RRX.out.frozen 2; have hz4 := KA4.out.size; rw [World.size_alloc] at hz4; have hz2 := HZ2.out; have hne1 : ¬ w2.heap.size = w4.heap.size := (by omega); have hne2 : ¬ w.heap.size + 1 = w4.heap.size := (by omega); have hne3 : ¬ w.heap.size + 1 = w2.heap.size := (by omega); have M4 := Hid.mk' True.intro; clear hp hk M3)
      | (have hgo := M2; clear hgo; go_at_call 32; refine (HS1.out _ HKB.out).mono ?_; rintro e w3 ⟨b3, c3, rfl, hb, hk⟩; have B3 := Hid.mk' (hb.mono (Nat.zero_le _)); have KW := Hid.mk' hk; have HKW := Hid.mk' (HKB.out.tr hk); have M3 := Hid.mk' True.intro; clear hb hk M2)
      | (have hgo := M1; clear hgo; go_at_call 35; refine (HK0.out _ _ _ B1.out).mono ?_; rintro e w2 ⟨pa0, n0, c0, rfl, hp, hk⟩; have P0 := Hid.mk' (hp.mono (Nat.le_trans HZ.out (K1W.out.size))); have HZ2 := Hid.mk' (Nat.le_trans HZ.out (K1W.out.tr hk).size); have HKB := Hid.mk' (K1W.out.tr (hk.tr (Kept.alloc w2 #[.int .i64 g0, .int .u8 (m0 : Int), .slice pa0 n0 c0] 35 (0, 0) none))); have RA2 := Hid.mk' (row3 w2 (.int .i64 g0) (.int .u8 (m0 : Int)) (.slice pa0 n0 c0) 35); have d2 : (w2.alloc (.cells #[.int .i64 g0, .int .u8 (m0 : Int), .slice pa0 n0 c0] 35)).cell? ⟨w.heap.size, 0, none⟩ = some (.slice (some ⟨b, off, none⟩) n c) := (rowK RD.out HKB.out).cell (i := 0) (by omega); have M2 := Hid.mk' True.intro; clear hp hk M1)
      | (have hgo := M0; clear hgo; go_at_call 32; rw [HWA.out]; refine (HS0.out _ (Kept.refl _ _)).mono ?_; rintro e w1 ⟨b1, c1, rfl, hb, hk⟩; have B1 := Hid.mk' (hb.mono (Nat.zero_le _)); have K1W := Hid.mk' hk; have M1 := Hid.mk' True.intro; clear hb hk M0))
    have hct := HCT.out
    generalize (w4.alloc (.cells #[.int .i64 g1, .int .u8 (m1 : Int), .slice pa1 n1 c1] 35)) = WD at *
    go_region_with (fail)
    all_goals (
      go_wp2
      have hrw := row3_set RRX.out (.int .i64 g1) (.int .u8 (m1 : Int)) (.slice pa1 n1 c1)
      have hrw2 := rowK hrw (Kept.drew _ _)
      have hrw := hrw2
      have q0 : ((((WD.setCell ⟨w.heap.size + 1, 0, none⟩ (.int .i64 g1)).setCell ⟨w.heap.size + 1, 1, none⟩ (.int .u8 (m1 : Int))).setCell ⟨w.heap.size + 1, 2, none⟩ (.slice pa1 n1 c1)).drew).cell? ⟨w.heap.size + 1, 0, none⟩ = some (.int .i64 g1) := hrw.cell (i := 0) (by omega)
      have q1 : ((((WD.setCell ⟨w.heap.size + 1, 0, none⟩ (.int .i64 g1)).setCell ⟨w.heap.size + 1, 1, none⟩ (.int .u8 (m1 : Int))).setCell ⟨w.heap.size + 1, 2, none⟩ (.slice pa1 n1 c1)).drew).cell? ⟨w.heap.size + 1, 1, none⟩ = some (.int .u8 (m1 : Int)) := hrw.cell (i := 1) (by omega)
      have q2 : ((((WD.setCell ⟨w.heap.size + 1, 0, none⟩ (.int .i64 g1)).setCell ⟨w.heap.size + 1, 1, none⟩ (.int .u8 (m1 : Int))).setCell ⟨w.heap.size + 1, 2, none⟩ (.slice pa1 n1 c1)).drew).cell? ⟨w.heap.size + 1, 2, none⟩ = some (.slice pa1 n1 c1) := hrw.cell (i := 2) (by omega)
      have hkf : Kept w ((((WD.setCell ⟨w.heap.size + 1, 0, none⟩ (.int .i64 g1)).setCell ⟨w.heap.size + 1, 1, none⟩ (.int .u8 (m1 : Int))).setCell ⟨w.heap.size + 1, 2, none⟩ (.slice pa1 n1 c1)).drew) none := ((((HKA.out.tr HKX.out).setNew (p := ⟨w.heap.size + 1, 0, none⟩) (show w.heap.size ≤ w.heap.size + 1 by omega) _).setNew (p := ⟨w.heap.size + 1, 1, none⟩) (show w.heap.size ≤ w.heap.size + 1 by omega) _).setNew (p := ⟨w.heap.size + 1, 2, none⟩) (show w.heap.size ≤ w.heap.size + 1 by omega) _).tr (Kept.drew _ _)
      refine bodyPost_ret (v := .tuple #[.int .i64 1, .agg #[(.int .i64 g1), (.int .u8 (m1 : Int)), (.slice pa1 n1 c1)]]) (by simp [results, Try.results24, go_sem, q0, q1, q2]) rfl ⟨pa1, n1, c1, ?_, ?_, hkf⟩
      · rw [hct.1, hct.2]; dsimp only; rw [HG.out.2]
      · rw [hct.2]; exact ((((P1X.out.set (by omega) 0 _).set (by omega) 1 _).set (by omega) 2 _).kept (Kept.drew _ _)).mono (by omega))
  · have HCT := Hid.mk' (HT.out.2.2.1 rfl rfl)
    go_enter Try.func24, Try.ntmps24
    go_wp2_with (first
      | (have hgo := M3; clear hgo; go_at_call 35; refine (HK1.out _ _ _ B3.out).mono ?_; rintro e w4 ⟨pa1, n1, c1, rfl, hp, hk⟩; have P1 := Hid.mk' (hp.mono (Nat.le_trans HZ.out (HKW.out.size))); have HKX := Hid.mk' (HKW.out.tr (hk.tr (Kept.alloc w4 #[.int .i64 g1, .int .u8 (m1 : Int), .slice pa1 n1 c1] 35 (0, 0) none))); have RBX := Hid.mk' (row3 w4 (.int .i64 g1) (.int .u8 (m1 : Int)) (.slice pa1 n1 c1) 35); have RAX := Hid.mk' (rowK RA2.out (KW.out.tr (hk.tr (Kept.alloc w4 #[.int .i64 g1, .int .u8 (m1 : Int), .slice pa1 n1 c1] 35 (0, 0) none)))); have RRX := Hid.mk' (rowK RR.out HKX.out); have KA4 := Hid.mk' (KW.out.tr hk); have P1X := Hid.mk' (P1.out.kept (Kept.alloc w4 #[.int .i64 g1, .int .u8 (m1 : Int), .slice pa1 n1 c1] 35 (0, 0) none)); have P0X := Hid.mk' (P0.out.kept ((Kept.alloc w2 #[.int .i64 g0, .int .u8 (m0 : Int), .slice pa0 n0 c0] 35 (0, 0) none).tr (KW.out.tr (hk.tr (Kept.alloc w4 #[.int .i64 g1, .int .u8 (m1 : Int), .slice pa1 n1 c1] 35 (0, 0) none))))); have s0 : (w4.alloc (.cells #[.int .i64 g1, .int .u8 (m1 : Int), .slice pa1 n1 c1] 35)).cell? ⟨w2.heap.size, 0, none⟩ = some (.int .i64 g0) := RAX.out.cell (i := 0) (by omega); have s1 : (w4.alloc (.cells #[.int .i64 g1, .int .u8 (m1 : Int), .slice pa1 n1 c1] 35)).cell? ⟨w2.heap.size, 1, none⟩ = some (.int .u8 (m0 : Int)) := RAX.out.cell (i := 1) (by omega); have s2 : (w4.alloc (.cells #[.int .i64 g1, .int .u8 (m1 : Int), .slice pa1 n1 c1] 35)).cell? ⟨w2.heap.size, 2, none⟩ = some (.slice pa0 n0 c0) := RAX.out.cell (i := 2) (by omega); have u0 : (w4.alloc (.cells #[.int .i64 g1, .int .u8 (m1 : Int), .slice pa1 n1 c1] 35)).cell? ⟨w4.heap.size, 0, none⟩ = some (.int .i64 g1) := RBX.out.cell (i := 0) (by omega); have u1 : (w4.alloc (.cells #[.int .i64 g1, .int .u8 (m1 : Int), .slice pa1 n1 c1] 35)).cell? ⟨w4.heap.size, 1, none⟩ = some (.int .u8 (m1 : Int)) := RBX.out.cell (i := 1) (by omega); have u2 : (w4.alloc (.cells #[.int .i64 g1, .int .u8 (m1 : Int), .slice pa1 n1 c1] 35)).cell? ⟨w4.heap.size, 2, none⟩ = some (.slice pa1 n1 c1) := RBX.out.cell (i := 2) (by omega); have t0 : (w4.alloc (.cells #[.int .i64 g1, .int .u8 (m1 : Int), .slice pa1 n1 c1] 35)).cell? ⟨w.heap.size + 1, 0, none⟩ = some (.int .i64 0) := RRX.out.cell (i := 0) (by omega); have y0 : (w4.alloc (.cells #[.int .i64 g1, .int .u8 (m1 : Int), .slice pa1 n1 c1] 35)).frozen? ⟨w.heap.size + 1, 0, none⟩ = false := RRX.out.frozen 0; have t1 : (w4.alloc (.cells #[.int .i64 g1, .int .u8 (m1 : Int), .slice pa1 n1 c1] 35)).cell? ⟨w.heap.size + 1, 1, none⟩ = some (.int .u8 0) := RRX.out.cell (i := 1) (by omega); have y1 : (w4.alloc (.cells #[.int .i64 g1, .int .u8 (m1 : Int), .slice pa1 n1 c1] 35)).frozen? ⟨w.heap.size + 1, 1, none⟩ = false := RRX.out.frozen 1; have t2 : (w4.alloc (.cells #[.int .i64 g1, .int .u8 (m1 : Int), .slice pa1 n1 c1] 35)).cell? ⟨w.heap.size + 1, 2, none⟩ = some (.slice none 0 0) := RRX.out.cell (i := 2) (by omega); have y2 : (w4.alloc (.cells #[.int .i64 g1, .int .u8 (m1 : Int), .slice pa1 n1 c1] 35)).frozen? ⟨w.heap.size + 1, 2, none⟩ = false := RRX.out.frozen 2; have hz4 := KA4.out.size; rw [World.size_alloc] at hz4; have hz2 := HZ2.out; have hne1 : ¬ w2.heap.size = w4.heap.size := (by omega); have hne2 : ¬ w.heap.size + 1 = w4.heap.size := (by omega); have hne3 : ¬ w.heap.size + 1 = w2.heap.size := (by omega); have M4 := Hid.mk' True.intro; clear hp hk M3)
      | (have hgo := M2; clear hgo; go_at_call 32; refine (HS1.out _ HKB.out).mono ?_; rintro e w3 ⟨b3, c3, rfl, hb, hk⟩; have B3 := Hid.mk' (hb.mono (Nat.zero_le _)); have KW := Hid.mk' hk; have HKW := Hid.mk' (HKB.out.tr hk); have M3 := Hid.mk' True.intro; clear hb hk M2)
      | (have hgo := M1; clear hgo; go_at_call 35; refine (HK0.out _ _ _ B1.out).mono ?_; rintro e w2 ⟨pa0, n0, c0, rfl, hp, hk⟩; have P0 := Hid.mk' (hp.mono (Nat.le_trans HZ.out (K1W.out.size))); have HZ2 := Hid.mk' (Nat.le_trans HZ.out (K1W.out.tr hk).size); have HKB := Hid.mk' (K1W.out.tr (hk.tr (Kept.alloc w2 #[.int .i64 g0, .int .u8 (m0 : Int), .slice pa0 n0 c0] 35 (0, 0) none))); have RA2 := Hid.mk' (row3 w2 (.int .i64 g0) (.int .u8 (m0 : Int)) (.slice pa0 n0 c0) 35); have d2 : (w2.alloc (.cells #[.int .i64 g0, .int .u8 (m0 : Int), .slice pa0 n0 c0] 35)).cell? ⟨w.heap.size, 0, none⟩ = some (.slice (some ⟨b, off, none⟩) n c) := (rowK RD.out HKB.out).cell (i := 0) (by omega); have M2 := Hid.mk' True.intro; clear hp hk M1)
      | (have hgo := M0; clear hgo; go_at_call 32; rw [HWA.out]; refine (HS0.out _ (Kept.refl _ _)).mono ?_; rintro e w1 ⟨b1, c1, rfl, hb, hk⟩; have B1 := Hid.mk' (hb.mono (Nat.zero_le _)); have K1W := Hid.mk' hk; have M1 := Hid.mk' True.intro; clear hb hk M0))
    have hct := HCT.out
    generalize (w4.alloc (.cells #[.int .i64 g1, .int .u8 (m1 : Int), .slice pa1 n1 c1] 35)) = WD at *
    go_region_with (fail)
    all_goals (
      go_wp2
      have hrw := row3_set RRX.out (.int .i64 g0) (.int .u8 (m0 : Int)) (.slice pa0 n0 c0)
      have hrw2 := rowK hrw (Kept.drew _ _)
      have hrw := hrw2
      have q0 : ((((WD.setCell ⟨w.heap.size + 1, 0, none⟩ (.int .i64 g0)).setCell ⟨w.heap.size + 1, 1, none⟩ (.int .u8 (m0 : Int))).setCell ⟨w.heap.size + 1, 2, none⟩ (.slice pa0 n0 c0)).drew).cell? ⟨w.heap.size + 1, 0, none⟩ = some (.int .i64 g0) := hrw.cell (i := 0) (by omega)
      have q1 : ((((WD.setCell ⟨w.heap.size + 1, 0, none⟩ (.int .i64 g0)).setCell ⟨w.heap.size + 1, 1, none⟩ (.int .u8 (m0 : Int))).setCell ⟨w.heap.size + 1, 2, none⟩ (.slice pa0 n0 c0)).drew).cell? ⟨w.heap.size + 1, 1, none⟩ = some (.int .u8 (m0 : Int)) := hrw.cell (i := 1) (by omega)
      have q2 : ((((WD.setCell ⟨w.heap.size + 1, 0, none⟩ (.int .i64 g0)).setCell ⟨w.heap.size + 1, 1, none⟩ (.int .u8 (m0 : Int))).setCell ⟨w.heap.size + 1, 2, none⟩ (.slice pa0 n0 c0)).drew).cell? ⟨w.heap.size + 1, 2, none⟩ = some (.slice pa0 n0 c0) := hrw.cell (i := 2) (by omega)
      have hkf : Kept w ((((WD.setCell ⟨w.heap.size + 1, 0, none⟩ (.int .i64 g0)).setCell ⟨w.heap.size + 1, 1, none⟩ (.int .u8 (m0 : Int))).setCell ⟨w.heap.size + 1, 2, none⟩ (.slice pa0 n0 c0)).drew) none := ((((HKA.out.tr HKX.out).setNew (p := ⟨w.heap.size + 1, 0, none⟩) (show w.heap.size ≤ w.heap.size + 1 by omega) _).setNew (p := ⟨w.heap.size + 1, 1, none⟩) (show w.heap.size ≤ w.heap.size + 1 by omega) _).setNew (p := ⟨w.heap.size + 1, 2, none⟩) (show w.heap.size ≤ w.heap.size + 1 by omega) _).tr (Kept.drew _ _)
      refine bodyPost_ret (v := .tuple #[.int .i64 0, .agg #[(.int .i64 g0), (.int .u8 (m0 : Int)), (.slice pa0 n0 c0)]]) (by simp [results, Try.results24, go_sem, q0, q1, q2]) rfl ⟨pa0, n0, c0, ?_, ?_, hkf⟩
      · rw [hct.1, hct.2]; dsimp only; rw [HG.out.1]
      · rw [hct.2]; exact ((((P0X.out.set (by omega) 0 _).set (by omega) 1 _).set (by omega) 2 _).kept (Kept.drew _ _)).mono (by omega))
  · by_cases hge : g1 ≤ g0
    · have HCT := Hid.mk' (HT.out.2.2.2.1 rfl rfl (by have := HG.out; omega))
      go_enter Try.func24, Try.ntmps24
      go_wp2_with (first
        | (have hgo := M3; clear hgo; go_at_call 35; refine (HK1.out _ _ _ B3.out).mono ?_; rintro e w4 ⟨pa1, n1, c1, rfl, hp, hk⟩; have P1 := Hid.mk' (hp.mono (Nat.le_trans HZ.out (HKW.out.size))); have HKX := Hid.mk' (HKW.out.tr (hk.tr (Kept.alloc w4 #[.int .i64 g1, .int .u8 (m1 : Int), .slice pa1 n1 c1] 35 (0, 0) none))); have RBX := Hid.mk' (row3 w4 (.int .i64 g1) (.int .u8 (m1 : Int)) (.slice pa1 n1 c1) 35); have RAX := Hid.mk' (rowK RA2.out (KW.out.tr (hk.tr (Kept.alloc w4 #[.int .i64 g1, .int .u8 (m1 : Int), .slice pa1 n1 c1] 35 (0, 0) none)))); have RRX := Hid.mk' (rowK RR.out HKX.out); have KA4 := Hid.mk' (KW.out.tr hk); have P1X := Hid.mk' (P1.out.kept (Kept.alloc w4 #[.int .i64 g1, .int .u8 (m1 : Int), .slice pa1 n1 c1] 35 (0, 0) none)); have P0X := Hid.mk' (P0.out.kept ((Kept.alloc w2 #[.int .i64 g0, .int .u8 (m0 : Int), .slice pa0 n0 c0] 35 (0, 0) none).tr (KW.out.tr (hk.tr (Kept.alloc w4 #[.int .i64 g1, .int .u8 (m1 : Int), .slice pa1 n1 c1] 35 (0, 0) none))))); have s0 : (w4.alloc (.cells #[.int .i64 g1, .int .u8 (m1 : Int), .slice pa1 n1 c1] 35)).cell? ⟨w2.heap.size, 0, none⟩ = some (.int .i64 g0) := RAX.out.cell (i := 0) (by omega); have s1 : (w4.alloc (.cells #[.int .i64 g1, .int .u8 (m1 : Int), .slice pa1 n1 c1] 35)).cell? ⟨w2.heap.size, 1, none⟩ = some (.int .u8 (m0 : Int)) := RAX.out.cell (i := 1) (by omega); have s2 : (w4.alloc (.cells #[.int .i64 g1, .int .u8 (m1 : Int), .slice pa1 n1 c1] 35)).cell? ⟨w2.heap.size, 2, none⟩ = some (.slice pa0 n0 c0) := RAX.out.cell (i := 2) (by omega); have u0 : (w4.alloc (.cells #[.int .i64 g1, .int .u8 (m1 : Int), .slice pa1 n1 c1] 35)).cell? ⟨w4.heap.size, 0, none⟩ = some (.int .i64 g1) := RBX.out.cell (i := 0) (by omega); have u1 : (w4.alloc (.cells #[.int .i64 g1, .int .u8 (m1 : Int), .slice pa1 n1 c1] 35)).cell? ⟨w4.heap.size, 1, none⟩ = some (.int .u8 (m1 : Int)) := RBX.out.cell (i := 1) (by omega); have u2 : (w4.alloc (.cells #[.int .i64 g1, .int .u8 (m1 : Int), .slice pa1 n1 c1] 35)).cell? ⟨w4.heap.size, 2, none⟩ = some (.slice pa1 n1 c1) := RBX.out.cell (i := 2) (by omega); have t0 : (w4.alloc (.cells #[.int .i64 g1, .int .u8 (m1 : Int), .slice pa1 n1 c1] 35)).cell? ⟨w.heap.size + 1, 0, none⟩ = some (.int .i64 0) := RRX.out.cell (i := 0) (by omega); have y0 : (w4.alloc (.cells #[.int .i64 g1, .int .u8 (m1 : Int), .slice pa1 n1 c1] 35)).frozen? ⟨w.heap.size + 1, 0, none⟩ = false := RRX.out.frozen 0; have t1 : (w4.alloc (.cells #[.int .i64 g1, .int .u8 (m1 : Int), .slice pa1 n1 c1] 35)).cell? ⟨w.heap.size + 1, 1, none⟩ = some (.int .u8 0) := RRX.out.cell (i := 1) (by omega); have y1 : (w4.alloc (.cells #[.int .i64 g1, .int .u8 (m1 : Int), .slice pa1 n1 c1] 35)).frozen? ⟨w.heap.size + 1, 1, none⟩ = false := RRX.out.frozen 1; have t2 : (w4.alloc (.cells #[.int .i64 g1, .int .u8 (m1 : Int), .slice pa1 n1 c1] 35)).cell? ⟨w.heap.size + 1, 2, none⟩ = some (.slice none 0 0) := RRX.out.cell (i := 2) (by omega); have y2 : (w4.alloc (.cells #[.int .i64 g1, .int .u8 (m1 : Int), .slice pa1 n1 c1] 35)).frozen? ⟨w.heap.size + 1, 2, none⟩ = false := RRX.out.frozen 2; have hz4 := KA4.out.size; rw [World.size_alloc] at hz4; have hz2 := HZ2.out; have hne1 : ¬ w2.heap.size = w4.heap.size := (by omega); have hne2 : ¬ w.heap.size + 1 = w4.heap.size := (by omega); have hne3 : ¬ w.heap.size + 1 = w2.heap.size := (by omega); have M4 := Hid.mk' True.intro; clear hp hk M3)
        | (have hgo := M2; clear hgo; go_at_call 32; refine (HS1.out _ HKB.out).mono ?_; rintro e w3 ⟨b3, c3, rfl, hb, hk⟩; have B3 := Hid.mk' (hb.mono (Nat.zero_le _)); have KW := Hid.mk' hk; have HKW := Hid.mk' (HKB.out.tr hk); have M3 := Hid.mk' True.intro; clear hb hk M2)
        | (have hgo := M1; clear hgo; go_at_call 35; refine (HK0.out _ _ _ B1.out).mono ?_; rintro e w2 ⟨pa0, n0, c0, rfl, hp, hk⟩; have P0 := Hid.mk' (hp.mono (Nat.le_trans HZ.out (K1W.out.size))); have HZ2 := Hid.mk' (Nat.le_trans HZ.out (K1W.out.tr hk).size); have HKB := Hid.mk' (K1W.out.tr (hk.tr (Kept.alloc w2 #[.int .i64 g0, .int .u8 (m0 : Int), .slice pa0 n0 c0] 35 (0, 0) none))); have RA2 := Hid.mk' (row3 w2 (.int .i64 g0) (.int .u8 (m0 : Int)) (.slice pa0 n0 c0) 35); have d2 : (w2.alloc (.cells #[.int .i64 g0, .int .u8 (m0 : Int), .slice pa0 n0 c0] 35)).cell? ⟨w.heap.size, 0, none⟩ = some (.slice (some ⟨b, off, none⟩) n c) := (rowK RD.out HKB.out).cell (i := 0) (by omega); have M2 := Hid.mk' True.intro; clear hp hk M1)
        | (have hgo := M0; clear hgo; go_at_call 32; rw [HWA.out]; refine (HS0.out _ (Kept.refl _ _)).mono ?_; rintro e w1 ⟨b1, c1, rfl, hb, hk⟩; have B1 := Hid.mk' (hb.mono (Nat.zero_le _)); have K1W := Hid.mk' hk; have M1 := Hid.mk' True.intro; clear hb hk M0))
      have hct := HCT.out
      generalize (w4.alloc (.cells #[.int .i64 g1, .int .u8 (m1 : Int), .slice pa1 n1 c1] 35)) = WD at *
      go_region_with (fail)
      all_goals (
        go_wp2
        have hrw := row3_set RRX.out (.int .i64 g0) (.int .u8 (m0 : Int)) (.slice pa0 n0 c0)
        have hrw2 := rowK hrw (Kept.drew _ _)
        have hrw := hrw2
        have q0 : ((((WD.setCell ⟨w.heap.size + 1, 0, none⟩ (.int .i64 g0)).setCell ⟨w.heap.size + 1, 1, none⟩ (.int .u8 (m0 : Int))).setCell ⟨w.heap.size + 1, 2, none⟩ (.slice pa0 n0 c0)).drew).cell? ⟨w.heap.size + 1, 0, none⟩ = some (.int .i64 g0) := hrw.cell (i := 0) (by omega)
        have q1 : ((((WD.setCell ⟨w.heap.size + 1, 0, none⟩ (.int .i64 g0)).setCell ⟨w.heap.size + 1, 1, none⟩ (.int .u8 (m0 : Int))).setCell ⟨w.heap.size + 1, 2, none⟩ (.slice pa0 n0 c0)).drew).cell? ⟨w.heap.size + 1, 1, none⟩ = some (.int .u8 (m0 : Int)) := hrw.cell (i := 1) (by omega)
        have q2 : ((((WD.setCell ⟨w.heap.size + 1, 0, none⟩ (.int .i64 g0)).setCell ⟨w.heap.size + 1, 1, none⟩ (.int .u8 (m0 : Int))).setCell ⟨w.heap.size + 1, 2, none⟩ (.slice pa0 n0 c0)).drew).cell? ⟨w.heap.size + 1, 2, none⟩ = some (.slice pa0 n0 c0) := hrw.cell (i := 2) (by omega)
        have hkf : Kept w ((((WD.setCell ⟨w.heap.size + 1, 0, none⟩ (.int .i64 g0)).setCell ⟨w.heap.size + 1, 1, none⟩ (.int .u8 (m0 : Int))).setCell ⟨w.heap.size + 1, 2, none⟩ (.slice pa0 n0 c0)).drew) none := ((((HKA.out.tr HKX.out).setNew (p := ⟨w.heap.size + 1, 0, none⟩) (show w.heap.size ≤ w.heap.size + 1 by omega) _).setNew (p := ⟨w.heap.size + 1, 1, none⟩) (show w.heap.size ≤ w.heap.size + 1 by omega) _).setNew (p := ⟨w.heap.size + 1, 2, none⟩) (show w.heap.size ≤ w.heap.size + 1 by omega) _).tr (Kept.drew _ _)
        refine bodyPost_ret (v := .tuple #[.int .i64 0, .agg #[(.int .i64 g0), (.int .u8 (m0 : Int)), (.slice pa0 n0 c0)]]) (by simp [results, Try.results24, go_sem, q0, q1, q2]) rfl ⟨pa0, n0, c0, ?_, ?_, hkf⟩
        · rw [hct.1, hct.2]; dsimp only; rw [HG.out.1]
        · rw [hct.2]; exact ((((P0X.out.set (by omega) 0 _).set (by omega) 1 _).set (by omega) 2 _).kept (Kept.drew _ _)).mono (by omega))
    · have HCT := Hid.mk' (HT.out.2.2.2.2 rfl rfl (by have := HG.out; omega))
      go_enter Try.func24, Try.ntmps24
      go_wp2_with (first
        | (have hgo := M3; clear hgo; go_at_call 35; refine (HK1.out _ _ _ B3.out).mono ?_; rintro e w4 ⟨pa1, n1, c1, rfl, hp, hk⟩; have P1 := Hid.mk' (hp.mono (Nat.le_trans HZ.out (HKW.out.size))); have HKX := Hid.mk' (HKW.out.tr (hk.tr (Kept.alloc w4 #[.int .i64 g1, .int .u8 (m1 : Int), .slice pa1 n1 c1] 35 (0, 0) none))); have RBX := Hid.mk' (row3 w4 (.int .i64 g1) (.int .u8 (m1 : Int)) (.slice pa1 n1 c1) 35); have RAX := Hid.mk' (rowK RA2.out (KW.out.tr (hk.tr (Kept.alloc w4 #[.int .i64 g1, .int .u8 (m1 : Int), .slice pa1 n1 c1] 35 (0, 0) none)))); have RRX := Hid.mk' (rowK RR.out HKX.out); have KA4 := Hid.mk' (KW.out.tr hk); have P1X := Hid.mk' (P1.out.kept (Kept.alloc w4 #[.int .i64 g1, .int .u8 (m1 : Int), .slice pa1 n1 c1] 35 (0, 0) none)); have P0X := Hid.mk' (P0.out.kept ((Kept.alloc w2 #[.int .i64 g0, .int .u8 (m0 : Int), .slice pa0 n0 c0] 35 (0, 0) none).tr (KW.out.tr (hk.tr (Kept.alloc w4 #[.int .i64 g1, .int .u8 (m1 : Int), .slice pa1 n1 c1] 35 (0, 0) none))))); have s0 : (w4.alloc (.cells #[.int .i64 g1, .int .u8 (m1 : Int), .slice pa1 n1 c1] 35)).cell? ⟨w2.heap.size, 0, none⟩ = some (.int .i64 g0) := RAX.out.cell (i := 0) (by omega); have s1 : (w4.alloc (.cells #[.int .i64 g1, .int .u8 (m1 : Int), .slice pa1 n1 c1] 35)).cell? ⟨w2.heap.size, 1, none⟩ = some (.int .u8 (m0 : Int)) := RAX.out.cell (i := 1) (by omega); have s2 : (w4.alloc (.cells #[.int .i64 g1, .int .u8 (m1 : Int), .slice pa1 n1 c1] 35)).cell? ⟨w2.heap.size, 2, none⟩ = some (.slice pa0 n0 c0) := RAX.out.cell (i := 2) (by omega); have u0 : (w4.alloc (.cells #[.int .i64 g1, .int .u8 (m1 : Int), .slice pa1 n1 c1] 35)).cell? ⟨w4.heap.size, 0, none⟩ = some (.int .i64 g1) := RBX.out.cell (i := 0) (by omega); have u1 : (w4.alloc (.cells #[.int .i64 g1, .int .u8 (m1 : Int), .slice pa1 n1 c1] 35)).cell? ⟨w4.heap.size, 1, none⟩ = some (.int .u8 (m1 : Int)) := RBX.out.cell (i := 1) (by omega); have u2 : (w4.alloc (.cells #[.int .i64 g1, .int .u8 (m1 : Int), .slice pa1 n1 c1] 35)).cell? ⟨w4.heap.size, 2, none⟩ = some (.slice pa1 n1 c1) := RBX.out.cell (i := 2) (by omega); have t0 : (w4.alloc (.cells #[.int .i64 g1, .int .u8 (m1 : Int), .slice pa1 n1 c1] 35)).cell? ⟨w.heap.size + 1, 0, none⟩ = some (.int .i64 0) := RRX.out.cell (i := 0) (by omega); have y0 : (w4.alloc (.cells #[.int .i64 g1, .int .u8 (m1 : Int), .slice pa1 n1 c1] 35)).frozen? ⟨w.heap.size + 1, 0, none⟩ = false := RRX.out.frozen 0; have t1 : (w4.alloc (.cells #[.int .i64 g1, .int .u8 (m1 : Int), .slice pa1 n1 c1] 35)).cell? ⟨w.heap.size + 1, 1, none⟩ = some (.int .u8 0) := RRX.out.cell (i := 1) (by omega); have y1 : (w4.alloc (.cells #[.int .i64 g1, .int .u8 (m1 : Int), .slice pa1 n1 c1] 35)).frozen? ⟨w.heap.size + 1, 1, none⟩ = false := RRX.out.frozen 1; have t2 : (w4.alloc (.cells #[.int .i64 g1, .int .u8 (m1 : Int), .slice pa1 n1 c1] 35)).cell? ⟨w.heap.size + 1, 2, none⟩ = some (.slice none 0 0) := RRX.out.cell (i := 2) (by omega); have y2 : (w4.alloc (.cells #[.int .i64 g1, .int .u8 (m1 : Int), .slice pa1 n1 c1] 35)).frozen? ⟨w.heap.size + 1, 2, none⟩ = false := RRX.out.frozen 2; have hz4 := KA4.out.size; rw [World.size_alloc] at hz4; have hz2 := HZ2.out; have hne1 : ¬ w2.heap.size = w4.heap.size := (by omega); have hne2 : ¬ w.heap.size + 1 = w4.heap.size := (by omega); have hne3 : ¬ w.heap.size + 1 = w2.heap.size := (by omega); have M4 := Hid.mk' True.intro; clear hp hk M3)
        | (have hgo := M2; clear hgo; go_at_call 32; refine (HS1.out _ HKB.out).mono ?_; rintro e w3 ⟨b3, c3, rfl, hb, hk⟩; have B3 := Hid.mk' (hb.mono (Nat.zero_le _)); have KW := Hid.mk' hk; have HKW := Hid.mk' (HKB.out.tr hk); have M3 := Hid.mk' True.intro; clear hb hk M2)
        | (have hgo := M1; clear hgo; go_at_call 35; refine (HK0.out _ _ _ B1.out).mono ?_; rintro e w2 ⟨pa0, n0, c0, rfl, hp, hk⟩; have P0 := Hid.mk' (hp.mono (Nat.le_trans HZ.out (K1W.out.size))); have HZ2 := Hid.mk' (Nat.le_trans HZ.out (K1W.out.tr hk).size); have HKB := Hid.mk' (K1W.out.tr (hk.tr (Kept.alloc w2 #[.int .i64 g0, .int .u8 (m0 : Int), .slice pa0 n0 c0] 35 (0, 0) none))); have RA2 := Hid.mk' (row3 w2 (.int .i64 g0) (.int .u8 (m0 : Int)) (.slice pa0 n0 c0) 35); have d2 : (w2.alloc (.cells #[.int .i64 g0, .int .u8 (m0 : Int), .slice pa0 n0 c0] 35)).cell? ⟨w.heap.size, 0, none⟩ = some (.slice (some ⟨b, off, none⟩) n c) := (rowK RD.out HKB.out).cell (i := 0) (by omega); have M2 := Hid.mk' True.intro; clear hp hk M1)
        | (have hgo := M0; clear hgo; go_at_call 32; rw [HWA.out]; refine (HS0.out _ (Kept.refl _ _)).mono ?_; rintro e w1 ⟨b1, c1, rfl, hb, hk⟩; have B1 := Hid.mk' (hb.mono (Nat.zero_le _)); have K1W := Hid.mk' hk; have M1 := Hid.mk' True.intro; clear hb hk M0))
      have hct := HCT.out
      generalize (w4.alloc (.cells #[.int .i64 g1, .int .u8 (m1 : Int), .slice pa1 n1 c1] 35)) = WD at *
      go_region_with (fail)
      all_goals (
        go_wp2
        have hrw := row3_set RRX.out (.int .i64 g1) (.int .u8 (m1 : Int)) (.slice pa1 n1 c1)
        have hrw2 := rowK hrw (Kept.drew _ _)
        have hrw := hrw2
        have q0 : ((((WD.setCell ⟨w.heap.size + 1, 0, none⟩ (.int .i64 g1)).setCell ⟨w.heap.size + 1, 1, none⟩ (.int .u8 (m1 : Int))).setCell ⟨w.heap.size + 1, 2, none⟩ (.slice pa1 n1 c1)).drew).cell? ⟨w.heap.size + 1, 0, none⟩ = some (.int .i64 g1) := hrw.cell (i := 0) (by omega)
        have q1 : ((((WD.setCell ⟨w.heap.size + 1, 0, none⟩ (.int .i64 g1)).setCell ⟨w.heap.size + 1, 1, none⟩ (.int .u8 (m1 : Int))).setCell ⟨w.heap.size + 1, 2, none⟩ (.slice pa1 n1 c1)).drew).cell? ⟨w.heap.size + 1, 1, none⟩ = some (.int .u8 (m1 : Int)) := hrw.cell (i := 1) (by omega)
        have q2 : ((((WD.setCell ⟨w.heap.size + 1, 0, none⟩ (.int .i64 g1)).setCell ⟨w.heap.size + 1, 1, none⟩ (.int .u8 (m1 : Int))).setCell ⟨w.heap.size + 1, 2, none⟩ (.slice pa1 n1 c1)).drew).cell? ⟨w.heap.size + 1, 2, none⟩ = some (.slice pa1 n1 c1) := hrw.cell (i := 2) (by omega)
        have hkf : Kept w ((((WD.setCell ⟨w.heap.size + 1, 0, none⟩ (.int .i64 g1)).setCell ⟨w.heap.size + 1, 1, none⟩ (.int .u8 (m1 : Int))).setCell ⟨w.heap.size + 1, 2, none⟩ (.slice pa1 n1 c1)).drew) none := ((((HKA.out.tr HKX.out).setNew (p := ⟨w.heap.size + 1, 0, none⟩) (show w.heap.size ≤ w.heap.size + 1 by omega) _).setNew (p := ⟨w.heap.size + 1, 1, none⟩) (show w.heap.size ≤ w.heap.size + 1 by omega) _).setNew (p := ⟨w.heap.size + 1, 2, none⟩) (show w.heap.size ≤ w.heap.size + 1 by omega) _).tr (Kept.drew _ _)
        refine bodyPost_ret (v := .tuple #[.int .i64 1, .agg #[(.int .i64 g1), (.int .u8 (m1 : Int)), (.slice pa1 n1 c1)]]) (by simp [results, Try.results24, go_sem, q0, q1, q2]) rfl ⟨pa1, n1, c1, ?_, ?_, hkf⟩
        · rw [hct.1, hct.2]; dsimp only; rw [HG.out.2]
        · rw [hct.2]; exact ((((P1X.out.set (by omega) 0 _).set (by omega) 1 _).set (by omega) 2 _).kept (Kept.drew _ _)).mono (by omega))

end Go.Proofs.Ytlabjamkaebnjaa
