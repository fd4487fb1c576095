/-
  THE DOCUMENT's Format, Read, Slot (made by a program).
-/
import Derived.Test.YtlabjamkaebnjaaSkD
import Derived.Test.YtlabjamkaebnjaaStoG
import Derived.Test.YtlabjamkaebnjaaStoI
namespace Go.Proofs.Ytlabjamkaebnjaa
open Go.RowKit Go.Lib Go.Deep
set_option linter.unusedVariables false
set_option linter.unusedSimpArgs false

theorem ct_at (L : List Nat) : (ctAt L < 0 ∧ ctK L = k00) ∨ (0 ≤ ctAt L ∧ 0 < (ctK L).gen) := by
  cases h0 : kepB (sltB L 0) <;> cases h1 : kepB (sltB L 1)
  · obtain ⟨a, b⟩ := ct_FF h0 h1
    exact .inl ⟨by rw [a]; decide, b⟩
  · obtain ⟨a, b⟩ := ct_FT h0 h1
    exact .inr ⟨by rw [a]; decide, by rw [b]; exact (kep_is h1).g1⟩
  · obtain ⟨a, b⟩ := ct_TF h0 h1
    exact .inr ⟨by rw [a]; decide, by rw [b]; exact (kep_is h0).g1⟩
  · by_cases h : (kepK (sltB L 1)).gen ≤ (kepK (sltB L 0)).gen
    · obtain ⟨a, b⟩ := ct_TTge h0 h1 h
      exact .inr ⟨by rw [a]; decide, by rw [b]; exact (kep_is h0).g1⟩
    · obtain ⟨a, b⟩ := ct_TTlt h0 h1 h
      exact .inr ⟨by rw [a]; decide, by rw [b]; exact (kep_is h1).g1⟩
theorem come_addr {w : World} {a : Option Addr} {n c : Nat} {L : List Nat} (h : Come w a n c L) (hp : 0 < n) : ∃ b off, a = some ⟨b, off, none⟩ := by
  obtain ⟨b, off, e, _⟩ := h.by_.at_ hp
  exact ⟨b, off, e⟩
set_option maxRecDepth 100000 in
set_option maxHeartbeats 4000000 in
theorem rread19_any {a : Option Addr} {n c : Nat} {L : List Nat} {w : World} (hC : Come w a n c L) : Calls Try.prog 10 #[dvV a n c] w (RdP w L) := by
  have hn : n ≤ 9223372036854775807 := by have := hC.room; have := hC.max; omega
  have hl := hC.by_.size
  have HAS := Hid.mk' (fun w' => rasked19_any a n c w' hn)
  obtain ⟨WA, hWA⟩ : ∃ WA, (w.alloc (.cells #[.slice a n c] 24)).alloc (.cells #[.int .i64 0, .int .u8 0, .slice none 0 0] 35) = WA := ⟨_, rfl⟩
  have hkA : Kept w WA none := by rw [← hWA]; exact (Kept.alloc _ _ _ _ _).tr (Kept.alloc _ _ _ _ _)
  have hzA : WA.heap.size = w.heap.size + 2 := by rw [← hWA]; simp
  have RD : Hid (WA.rowIs w.heap.size 24 1 (fun _ => .slice a n c)) := Hid.mk' (by
    rw [← hWA]
    exact rowK (row1k w (.slice a n c) 24) (Kept.alloc _ _ _ _ _))
  have RR : Hid (WA.rowIs (w.heap.size + 1) 35 3 (f3 (.int .i64 0) (.int .u8 0) (.slice none 0 0))) := Hid.mk' (by
    have h := row3 (w.alloc (.cells #[.slice a n c] 24)) (.int .i64 0) (.int .u8 0) (.slice none 0 0) 35
    rw [World.size_alloc] at h
    rw [← hWA]
    exact h)
  have HWA := Hid.mk' hWA
  have HKA := Hid.mk' hkA
  have HZA := Hid.mk' hzA
  have M0 := Hid.mk' True.intro
  by_cases hA : askE n = 0
  rotate_left
  · have hE : rdE19 L = askE n := by unfold rdE19; rw [hl, if_neg hA]
    have hK : rdK19 L = k00 := by unfold rdK19; rw [hE, if_neg hA]
    unfold RdP
    rw [hE, hK]
    generalize askE n = E at *
    have HEK := Hid.mk' True.intro
    clear hC hkA hzA hWA hE hK hl
    go_enter Try.func10, Try.ntmps10
    go_wp2_with (first
      | (have hgo := M0; clear hgo; go_at_call 23; rw [HWA.out]; refine (HAS.out _).mono ?_; rintro e w1 ⟨rfl, hk⟩; have K1 := Hid.mk' hk; have QR1 := Hid.mk' (rowK RR.out hk); have RD1 := Hid.mk' (rowK RD.out hk); have d1 : w1.cell? ⟨w.heap.size, 0, none⟩ = some (.slice _ n c) := RD1.out.cell (i := 0) (by omega); have t0 : w1.cell? ⟨w.heap.size + 1, 0, none⟩ = some (.int .i64 0) := QR1.out.cell (i := 0) (by omega); have y0 : w1.frozen? ⟨w.heap.size + 1, 0, none⟩ = false := QR1.out.frozen 0; have t1 : w1.cell? ⟨w.heap.size + 1, 1, none⟩ = some (.int .u8 0) := QR1.out.cell (i := 1) (by omega); have y1 : w1.frozen? ⟨w.heap.size + 1, 1, none⟩ = false := QR1.out.frozen 1; have t2 : w1.cell? ⟨w.heap.size + 1, 2, none⟩ = some (.slice none 0 0) := QR1.out.cell (i := 2) (by omega); have y2 : w1.frozen? ⟨w.heap.size + 1, 2, none⟩ = false := QR1.out.frozen 2; have M1 := Hid.mk' True.intro; clear hk M0))
    have hrw := row3_set QR1.out (.int .i64 0) (.int .u8 0) (.slice none 0 0)
    have q0 : (((w1.setCell ⟨w.heap.size + 1, 0, none⟩ (.int .i64 0)).setCell ⟨w.heap.size + 1, 1, none⟩ (.int .u8 0)).setCell ⟨w.heap.size + 1, 2, none⟩ (.slice none 0 0)).cell? ⟨w.heap.size + 1, 0, none⟩ = some (.int .i64 0) := hrw.cell (i := 0) (by omega)
    have q1 : (((w1.setCell ⟨w.heap.size + 1, 0, none⟩ (.int .i64 0)).setCell ⟨w.heap.size + 1, 1, none⟩ (.int .u8 0)).setCell ⟨w.heap.size + 1, 2, none⟩ (.slice none 0 0)).cell? ⟨w.heap.size + 1, 1, none⟩ = some (.int .u8 0) := hrw.cell (i := 1) (by omega)
    have q2 : (((w1.setCell ⟨w.heap.size + 1, 0, none⟩ (.int .i64 0)).setCell ⟨w.heap.size + 1, 1, none⟩ (.int .u8 0)).setCell ⟨w.heap.size + 1, 2, none⟩ (.slice none 0 0)).cell? ⟨w.heap.size + 1, 2, none⟩ = some (.slice none 0 0) := hrw.cell (i := 2) (by omega)
    have hkf : Kept w (((w1.setCell ⟨w.heap.size + 1, 0, none⟩ (.int .i64 0)).setCell ⟨w.heap.size + 1, 1, none⟩ (.int .u8 0)).setCell ⟨w.heap.size + 1, 2, none⟩ (.slice none 0 0)) none := (((HKA.out.tr K1.out).setNew (p := ⟨w.heap.size + 1, 0, none⟩) (show w.heap.size ≤ w.heap.size + 1 by omega) _).setNew (p := ⟨w.heap.size + 1, 1, none⟩) (show w.heap.size ≤ w.heap.size + 1 by omega) _).setNew (p := ⟨w.heap.size + 1, 2, none⟩) (show w.heap.size ≤ w.heap.size + 1 by omega) _
    refine bodyPost_ret (v := .tuple #[.agg #[.int .i64 0, .int .u8 0, .slice none 0 0], .int .i64 E]) (by simp [results, Try.results10, go_sem, q0, q1, q2]) rfl ⟨none, 0, 0, ?_, ?_, hkf⟩
    · rfl
    · exact PlF.nil _ _
  · obtain ⟨_, k2, _⟩ := ask_ok hA
    obtain ⟨b, off, rfl⟩ := come_addr hC (by omega)
    rw [hA] at HAS
    have HCT := Hid.mk' (fun w' (hk : Kept WA w' none) => rcounts_any (hC.kpt (hkA.tr hk)) hA)
    unfold RctP at HCT
    have hcc := ct_at L
    have hE : rdE19 L = (if 0 < (ctK L).gen then 0 else 190) := by unfold rdE19; rw [hl, if_pos hA]
    have hK : rdK19 L = if rdE19 L = 0 then ctK L else k00 := rfl
    unfold RdP
    generalize ctAt L = AT at *
    generalize ctK L = CT at *
    obtain ⟨G, md, pl⟩ := CT
    dsimp only at HCT hcc hE
    obtain ⟨g, hg⟩ : ∃ g : Int, (G : Int) = g := ⟨_, rfl⟩
    rw [hg] at HCT
    have HG := Hid.mk' hg
    by_cases hat : AT < 0
    · have e0 : (⟨G, md, pl⟩ : Kp) = k00 := by
        rcases hcc with q | q
        · exact q.2
        · exact absurd hat (by omega)
      have eG : G = 0 := congrArg Kp.gen e0
      rw [if_neg (by omega)] at hE
      rw [hE, if_neg (by decide)] at hK
      rw [hE, hK]
      clear hC hkA hzA hWA hE hK hl hcc e0 eG k2 hA hg
      go_enter Try.func10, Try.ntmps10
      go_wp2_with (first
        | (have hgo := M1; clear hgo; go_at_call 24; refine (HCT.out _ K1.out).mono ?_; rintro e w2 ⟨pa, pn, pc, rfl, hp, hk⟩; have P2 := Hid.mk' (hp.kept (Kept.alloc w2 #[.int .i64 g, .int .u8 (md : Int), .slice pa pn pc] 35 (0, 0) none)); have K2 := Hid.mk' (K1.out.tr (hk.tr (Kept.alloc w2 #[.int .i64 g, .int .u8 (md : Int), .slice pa pn pc] 35 (0, 0) none))); have RK := Hid.mk' (row3 w2 (.int .i64 g) (.int .u8 (md : Int)) (.slice pa pn pc) 35); have QR2 := Hid.mk' (rowK RR.out K2.out); have s0 : (w2.alloc (.cells #[.int .i64 g, .int .u8 (md : Int), .slice pa pn pc] 35)).cell? ⟨w2.heap.size, 0, none⟩ = some (.int .i64 g) := RK.out.cell (i := 0) (by omega); have s1 : (w2.alloc (.cells #[.int .i64 g, .int .u8 (md : Int), .slice pa pn pc] 35)).cell? ⟨w2.heap.size, 1, none⟩ = some (.int .u8 (md : Int)) := RK.out.cell (i := 1) (by omega); have s2 : (w2.alloc (.cells #[.int .i64 g, .int .u8 (md : Int), .slice pa pn pc] 35)).cell? ⟨w2.heap.size, 2, none⟩ = some (.slice pa pn pc) := RK.out.cell (i := 2) (by omega); have x0 : (w2.alloc (.cells #[.int .i64 g, .int .u8 (md : Int), .slice pa pn pc] 35)).cell? ⟨w.heap.size + 1, 0, none⟩ = some (.int .i64 0) := QR2.out.cell (i := 0) (by omega); have z0 : (w2.alloc (.cells #[.int .i64 g, .int .u8 (md : Int), .slice pa pn pc] 35)).frozen? ⟨w.heap.size + 1, 0, none⟩ = false := QR2.out.frozen 0; have x1 : (w2.alloc (.cells #[.int .i64 g, .int .u8 (md : Int), .slice pa pn pc] 35)).cell? ⟨w.heap.size + 1, 1, none⟩ = some (.int .u8 0) := QR2.out.cell (i := 1) (by omega); have z1 : (w2.alloc (.cells #[.int .i64 g, .int .u8 (md : Int), .slice pa pn pc] 35)).frozen? ⟨w.heap.size + 1, 1, none⟩ = false := QR2.out.frozen 1; have x2 : (w2.alloc (.cells #[.int .i64 g, .int .u8 (md : Int), .slice pa pn pc] 35)).cell? ⟨w.heap.size + 1, 2, none⟩ = some (.slice none 0 0) := QR2.out.cell (i := 2) (by omega); have z2 : (w2.alloc (.cells #[.int .i64 g, .int .u8 (md : Int), .slice pa pn pc] 35)).frozen? ⟨w.heap.size + 1, 2, none⟩ = false := QR2.out.frozen 2; have hz2 : w.heap.size + 2 ≤ w2.heap.size := (by have := (K1.out.tr hk).size; have := HZA.out; omega); have hne2 : ¬ w.heap.size + 1 = w2.heap.size := (by omega); have hzp := K1.out.size; have M2 := Hid.mk' True.intro; clear hp hk M1)
        | (have hgo := M0; clear hgo; go_at_call 23; rw [HWA.out]; refine (HAS.out _).mono ?_; rintro e w1 ⟨rfl, hk⟩; have K1 := Hid.mk' hk; have QR1 := Hid.mk' (rowK RR.out hk); have RD1 := Hid.mk' (rowK RD.out hk); have d1 : w1.cell? ⟨w.heap.size, 0, none⟩ = some (.slice _ n c) := RD1.out.cell (i := 0) (by omega); have t0 : w1.cell? ⟨w.heap.size + 1, 0, none⟩ = some (.int .i64 0) := QR1.out.cell (i := 0) (by omega); have y0 : w1.frozen? ⟨w.heap.size + 1, 0, none⟩ = false := QR1.out.frozen 0; have t1 : w1.cell? ⟨w.heap.size + 1, 1, none⟩ = some (.int .u8 0) := QR1.out.cell (i := 1) (by omega); have y1 : w1.frozen? ⟨w.heap.size + 1, 1, none⟩ = false := QR1.out.frozen 1; have t2 : w1.cell? ⟨w.heap.size + 1, 2, none⟩ = some (.slice none 0 0) := QR1.out.cell (i := 2) (by omega); have y2 : w1.frozen? ⟨w.heap.size + 1, 2, none⟩ = false := QR1.out.frozen 2; have M1 := Hid.mk' True.intro; clear hk M0))
      have hrw := row3_set QR2.out (.int .i64 0) (.int .u8 0) (.slice none 0 0)
      have q0 : ((((w2.alloc (.cells #[.int .i64 g, .int .u8 (md : Int), .slice pa pn pc] 35)).setCell ⟨w.heap.size + 1, 0, none⟩ (.int .i64 0)).setCell ⟨w.heap.size + 1, 1, none⟩ (.int .u8 0)).setCell ⟨w.heap.size + 1, 2, none⟩ (.slice none 0 0)).cell? ⟨w.heap.size + 1, 0, none⟩ = some (.int .i64 0) := hrw.cell (i := 0) (by omega)
      have q1 : ((((w2.alloc (.cells #[.int .i64 g, .int .u8 (md : Int), .slice pa pn pc] 35)).setCell ⟨w.heap.size + 1, 0, none⟩ (.int .i64 0)).setCell ⟨w.heap.size + 1, 1, none⟩ (.int .u8 0)).setCell ⟨w.heap.size + 1, 2, none⟩ (.slice none 0 0)).cell? ⟨w.heap.size + 1, 1, none⟩ = some (.int .u8 0) := hrw.cell (i := 1) (by omega)
      have q2 : ((((w2.alloc (.cells #[.int .i64 g, .int .u8 (md : Int), .slice pa pn pc] 35)).setCell ⟨w.heap.size + 1, 0, none⟩ (.int .i64 0)).setCell ⟨w.heap.size + 1, 1, none⟩ (.int .u8 0)).setCell ⟨w.heap.size + 1, 2, none⟩ (.slice none 0 0)).cell? ⟨w.heap.size + 1, 2, none⟩ = some (.slice none 0 0) := hrw.cell (i := 2) (by omega)
      have hkf : Kept w ((((w2.alloc (.cells #[.int .i64 g, .int .u8 (md : Int), .slice pa pn pc] 35)).setCell ⟨w.heap.size + 1, 0, none⟩ (.int .i64 0)).setCell ⟨w.heap.size + 1, 1, none⟩ (.int .u8 0)).setCell ⟨w.heap.size + 1, 2, none⟩ (.slice none 0 0)) none := (((HKA.out.tr K2.out).setNew (p := ⟨w.heap.size + 1, 0, none⟩) (show w.heap.size ≤ w.heap.size + 1 by omega) _).setNew (p := ⟨w.heap.size + 1, 1, none⟩) (show w.heap.size ≤ w.heap.size + 1 by omega) _).setNew (p := ⟨w.heap.size + 1, 2, none⟩) (show w.heap.size ≤ w.heap.size + 1 by omega) _
      refine bodyPost_ret (v := .tuple #[.agg #[.int .i64 0, .int .u8 0, .slice none 0 0], .int .i64 190]) (by simp [results, Try.results10, go_sem, q0, q1, q2]) rfl ⟨none, 0, 0, ?_, ?_, hkf⟩
      · rfl
      · exact PlF.nil _ _
    · have e0 : 0 < G := by
        rcases hcc with q | q
        · exact absurd q.1 hat
        · exact q.2
      have hat' : ¬ AT < 0 := hat
      rw [if_pos e0] at hE
      rw [hE, if_pos rfl] at hK
      rw [hE, hK]
      clear hC hkA hzA hWA hE hK hl hcc e0 k2 hA hg
      go_enter Try.func10, Try.ntmps10
      go_wp2_with (first
        | (have hgo := M1; clear hgo; go_at_call 24; refine (HCT.out _ K1.out).mono ?_; rintro e w2 ⟨pa, pn, pc, rfl, hp, hk⟩; have P2 := Hid.mk' (hp.kept (Kept.alloc w2 #[.int .i64 g, .int .u8 (md : Int), .slice pa pn pc] 35 (0, 0) none)); have K2 := Hid.mk' (K1.out.tr (hk.tr (Kept.alloc w2 #[.int .i64 g, .int .u8 (md : Int), .slice pa pn pc] 35 (0, 0) none))); have RK := Hid.mk' (row3 w2 (.int .i64 g) (.int .u8 (md : Int)) (.slice pa pn pc) 35); have QR2 := Hid.mk' (rowK RR.out K2.out); have s0 : (w2.alloc (.cells #[.int .i64 g, .int .u8 (md : Int), .slice pa pn pc] 35)).cell? ⟨w2.heap.size, 0, none⟩ = some (.int .i64 g) := RK.out.cell (i := 0) (by omega); have s1 : (w2.alloc (.cells #[.int .i64 g, .int .u8 (md : Int), .slice pa pn pc] 35)).cell? ⟨w2.heap.size, 1, none⟩ = some (.int .u8 (md : Int)) := RK.out.cell (i := 1) (by omega); have s2 : (w2.alloc (.cells #[.int .i64 g, .int .u8 (md : Int), .slice pa pn pc] 35)).cell? ⟨w2.heap.size, 2, none⟩ = some (.slice pa pn pc) := RK.out.cell (i := 2) (by omega); have x0 : (w2.alloc (.cells #[.int .i64 g, .int .u8 (md : Int), .slice pa pn pc] 35)).cell? ⟨w.heap.size + 1, 0, none⟩ = some (.int .i64 0) := QR2.out.cell (i := 0) (by omega); have z0 : (w2.alloc (.cells #[.int .i64 g, .int .u8 (md : Int), .slice pa pn pc] 35)).frozen? ⟨w.heap.size + 1, 0, none⟩ = false := QR2.out.frozen 0; have x1 : (w2.alloc (.cells #[.int .i64 g, .int .u8 (md : Int), .slice pa pn pc] 35)).cell? ⟨w.heap.size + 1, 1, none⟩ = some (.int .u8 0) := QR2.out.cell (i := 1) (by omega); have z1 : (w2.alloc (.cells #[.int .i64 g, .int .u8 (md : Int), .slice pa pn pc] 35)).frozen? ⟨w.heap.size + 1, 1, none⟩ = false := QR2.out.frozen 1; have x2 : (w2.alloc (.cells #[.int .i64 g, .int .u8 (md : Int), .slice pa pn pc] 35)).cell? ⟨w.heap.size + 1, 2, none⟩ = some (.slice none 0 0) := QR2.out.cell (i := 2) (by omega); have z2 : (w2.alloc (.cells #[.int .i64 g, .int .u8 (md : Int), .slice pa pn pc] 35)).frozen? ⟨w.heap.size + 1, 2, none⟩ = false := QR2.out.frozen 2; have hz2 : w.heap.size + 2 ≤ w2.heap.size := (by have := (K1.out.tr hk).size; have := HZA.out; omega); have hne2 : ¬ w.heap.size + 1 = w2.heap.size := (by omega); have hzp := K1.out.size; have M2 := Hid.mk' True.intro; clear hp hk M1)
        | (have hgo := M0; clear hgo; go_at_call 23; rw [HWA.out]; refine (HAS.out _).mono ?_; rintro e w1 ⟨rfl, hk⟩; have K1 := Hid.mk' hk; have QR1 := Hid.mk' (rowK RR.out hk); have RD1 := Hid.mk' (rowK RD.out hk); have d1 : w1.cell? ⟨w.heap.size, 0, none⟩ = some (.slice _ n c) := RD1.out.cell (i := 0) (by omega); have t0 : w1.cell? ⟨w.heap.size + 1, 0, none⟩ = some (.int .i64 0) := QR1.out.cell (i := 0) (by omega); have y0 : w1.frozen? ⟨w.heap.size + 1, 0, none⟩ = false := QR1.out.frozen 0; have t1 : w1.cell? ⟨w.heap.size + 1, 1, none⟩ = some (.int .u8 0) := QR1.out.cell (i := 1) (by omega); have y1 : w1.frozen? ⟨w.heap.size + 1, 1, none⟩ = false := QR1.out.frozen 1; have t2 : w1.cell? ⟨w.heap.size + 1, 2, none⟩ = some (.slice none 0 0) := QR1.out.cell (i := 2) (by omega); have y2 : w1.frozen? ⟨w.heap.size + 1, 2, none⟩ = false := QR1.out.frozen 2; have M1 := Hid.mk' True.intro; clear hk M0))
      have hrw := row3_set QR2.out (.int .i64 g) (.int .u8 (md : Int)) (.slice pa pn pc)
      have q0 : ((((w2.alloc (.cells #[.int .i64 g, .int .u8 (md : Int), .slice pa pn pc] 35)).setCell ⟨w.heap.size + 1, 0, none⟩ (.int .i64 g)).setCell ⟨w.heap.size + 1, 1, none⟩ (.int .u8 (md : Int))).setCell ⟨w.heap.size + 1, 2, none⟩ (.slice pa pn pc)).cell? ⟨w.heap.size + 1, 0, none⟩ = some (.int .i64 g) := hrw.cell (i := 0) (by omega)
      have q1 : ((((w2.alloc (.cells #[.int .i64 g, .int .u8 (md : Int), .slice pa pn pc] 35)).setCell ⟨w.heap.size + 1, 0, none⟩ (.int .i64 g)).setCell ⟨w.heap.size + 1, 1, none⟩ (.int .u8 (md : Int))).setCell ⟨w.heap.size + 1, 2, none⟩ (.slice pa pn pc)).cell? ⟨w.heap.size + 1, 1, none⟩ = some (.int .u8 (md : Int)) := hrw.cell (i := 1) (by omega)
      have q2 : ((((w2.alloc (.cells #[.int .i64 g, .int .u8 (md : Int), .slice pa pn pc] 35)).setCell ⟨w.heap.size + 1, 0, none⟩ (.int .i64 g)).setCell ⟨w.heap.size + 1, 1, none⟩ (.int .u8 (md : Int))).setCell ⟨w.heap.size + 1, 2, none⟩ (.slice pa pn pc)).cell? ⟨w.heap.size + 1, 2, none⟩ = some (.slice pa pn pc) := hrw.cell (i := 2) (by omega)
      have hkf : Kept w ((((w2.alloc (.cells #[.int .i64 g, .int .u8 (md : Int), .slice pa pn pc] 35)).setCell ⟨w.heap.size + 1, 0, none⟩ (.int .i64 g)).setCell ⟨w.heap.size + 1, 1, none⟩ (.int .u8 (md : Int))).setCell ⟨w.heap.size + 1, 2, none⟩ (.slice pa pn pc)) none := (((HKA.out.tr K2.out).setNew (p := ⟨w.heap.size + 1, 0, none⟩) (show w.heap.size ≤ w.heap.size + 1 by omega) _).setNew (p := ⟨w.heap.size + 1, 1, none⟩) (show w.heap.size ≤ w.heap.size + 1 by omega) _).setNew (p := ⟨w.heap.size + 1, 2, none⟩) (show w.heap.size ≤ w.heap.size + 1 by omega) _
      refine bodyPost_ret (v := .tuple #[.agg #[.int .i64 g, .int .u8 (md : Int), .slice pa pn pc], .int .i64 0]) (by simp [results, Try.results10, go_sem, q0, q1, q2]) rfl ⟨pa, pn, pc, ?_, ?_, hkf⟩
      · rw [← HG.out]
      · exact (((P2.out.set (by have := HZA.out; omega) 0 _).set (by have := HZA.out; omega) 1 _).set (by have := HZA.out; omega) 2 _).mono (by have := HZA.out; omega)
set_option maxRecDepth 100000 in
set_option maxHeartbeats 4000000 in
theorem rslot19_any {a : Option Addr} {n c : Nat} {L : List Nat} {w : World} (i : Int) (hC : Come w a n c L) : Calls Try.prog 14 #[dvV a n c, .int .i64 i] w (SlqP w L i) := by
  have hn : n ≤ 9223372036854775807 := by have := hC.room; have := hC.max; omega
  have hl := hC.by_.size
  have HAS := Hid.mk' (fun w' => rasked19_any a n c w' hn)
  obtain ⟨WA, hWA⟩ : ∃ WA, (w.alloc (.cells #[.slice a n c] 24)).alloc (.cells #[.int .i64 0, .int .u8 0, .slice none 0 0] 35) = WA := ⟨_, rfl⟩
  have hkA : Kept w WA none := by rw [← hWA]; exact (Kept.alloc _ _ _ _ _).tr (Kept.alloc _ _ _ _ _)
  have hzA : WA.heap.size = w.heap.size + 2 := by rw [← hWA]; simp
  have RD : Hid (WA.rowIs w.heap.size 24 1 (fun _ => .slice a n c)) := Hid.mk' (by
    rw [← hWA]
    exact rowK (row1k w (.slice a n c) 24) (Kept.alloc _ _ _ _ _))
  have RR : Hid (WA.rowIs (w.heap.size + 1) 35 3 (f3 (.int .i64 0) (.int .u8 0) (.slice none 0 0))) := Hid.mk' (by
    have h := row3 (w.alloc (.cells #[.slice a n c] 24)) (.int .i64 0) (.int .u8 0) (.slice none 0 0) 35
    rw [World.size_alloc] at h
    rw [← hWA]
    exact h)
  have HWA := Hid.mk' hWA
  have HKA := Hid.mk' hkA
  have HZA := Hid.mk' hzA
  have M0 := Hid.mk' True.intro
  by_cases hA : askE n = 0
  rotate_left
  · have hE : slE19 L i = askE n := by unfold slE19; rw [hl, if_neg hA]
    have hK : slK19 L i = k00 := by unfold slK19; rw [hE, if_neg hA]
    unfold SlqP
    rw [hE, hK]
    generalize askE n = E at *
    clear hC hkA hzA hWA hE hK hl
    go_enter Try.func14, Try.ntmps14
    go_wp2_with (first
      | (have hgo := M0; clear hgo; go_at_call 23; rw [HWA.out]; refine (HAS.out _).mono ?_; rintro e w1 ⟨rfl, hk⟩; have K1 := Hid.mk' hk; have QR1 := Hid.mk' (rowK RR.out hk); have RD1 := Hid.mk' (rowK RD.out hk); have d1 : w1.cell? ⟨w.heap.size, 0, none⟩ = some (.slice _ n c) := RD1.out.cell (i := 0) (by omega); have t0 : w1.cell? ⟨w.heap.size + 1, 0, none⟩ = some (.int .i64 0) := QR1.out.cell (i := 0) (by omega); have y0 : w1.frozen? ⟨w.heap.size + 1, 0, none⟩ = false := QR1.out.frozen 0; have t1 : w1.cell? ⟨w.heap.size + 1, 1, none⟩ = some (.int .u8 0) := QR1.out.cell (i := 1) (by omega); have y1 : w1.frozen? ⟨w.heap.size + 1, 1, none⟩ = false := QR1.out.frozen 1; have t2 : w1.cell? ⟨w.heap.size + 1, 2, none⟩ = some (.slice none 0 0) := QR1.out.cell (i := 2) (by omega); have y2 : w1.frozen? ⟨w.heap.size + 1, 2, none⟩ = false := QR1.out.frozen 2; have M1 := Hid.mk' True.intro; clear hk M0))
    have hrw := row3_set QR1.out (.int .i64 0) (.int .u8 0) (.slice none 0 0)
    have q0 : (((w1.setCell ⟨w.heap.size + 1, 0, none⟩ (.int .i64 0)).setCell ⟨w.heap.size + 1, 1, none⟩ (.int .u8 0)).setCell ⟨w.heap.size + 1, 2, none⟩ (.slice none 0 0)).cell? ⟨w.heap.size + 1, 0, none⟩ = some (.int .i64 0) := hrw.cell (i := 0) (by omega)
    have q1 : (((w1.setCell ⟨w.heap.size + 1, 0, none⟩ (.int .i64 0)).setCell ⟨w.heap.size + 1, 1, none⟩ (.int .u8 0)).setCell ⟨w.heap.size + 1, 2, none⟩ (.slice none 0 0)).cell? ⟨w.heap.size + 1, 1, none⟩ = some (.int .u8 0) := hrw.cell (i := 1) (by omega)
    have q2 : (((w1.setCell ⟨w.heap.size + 1, 0, none⟩ (.int .i64 0)).setCell ⟨w.heap.size + 1, 1, none⟩ (.int .u8 0)).setCell ⟨w.heap.size + 1, 2, none⟩ (.slice none 0 0)).cell? ⟨w.heap.size + 1, 2, none⟩ = some (.slice none 0 0) := hrw.cell (i := 2) (by omega)
    have hkf : Kept w (((w1.setCell ⟨w.heap.size + 1, 0, none⟩ (.int .i64 0)).setCell ⟨w.heap.size + 1, 1, none⟩ (.int .u8 0)).setCell ⟨w.heap.size + 1, 2, none⟩ (.slice none 0 0)) none := (((HKA.out.tr K1.out).setNew (p := ⟨w.heap.size + 1, 0, none⟩) (show w.heap.size ≤ w.heap.size + 1 by omega) _).setNew (p := ⟨w.heap.size + 1, 1, none⟩) (show w.heap.size ≤ w.heap.size + 1 by omega) _).setNew (p := ⟨w.heap.size + 1, 2, none⟩) (show w.heap.size ≤ w.heap.size + 1 by omega) _
    refine bodyPost_ret (v := .tuple #[.agg #[.int .i64 0, .int .u8 0, .slice none 0 0], .int .i64 E]) (by simp [results, Try.results14, go_sem, q0, q1, q2]) rfl ⟨none, 0, 0, ?_, ?_, hkf⟩
    · rfl
    · exact PlF.nil _ _
  · obtain ⟨_, k2, _, k4, k5, _⟩ := ask_ok hA
    obtain ⟨b, off, rfl⟩ := come_addr hC (by omega)
    rw [hA] at HAS
    by_cases hi : i = 0 ∨ i = 1
    rotate_left
    · have hE : slE19 L i = 2 := by unfold slE19; rw [hl, if_pos hA, if_neg hi]
      have hK : slK19 L i = k00 := by unfold slK19; rw [hE, if_neg (by decide)]
      unfold SlqP
      rw [hE, hK]
      have hi0 : ¬ i = 0 := fun q => hi (.inl q)
      have hi1 : ¬ i = 1 := fun q => hi (.inr q)
      have hb0 : (i != 0) = true := by simp [hi0]
      have hb1 : (i != 1) = true := by simp [hi1]
      clear hC hkA hzA hWA hE hK hl hi
      go_enter Try.func14, Try.ntmps14
      go_wp2_with (first
        | (have hgo := M0; clear hgo; go_at_call 23; rw [HWA.out]; refine (HAS.out _).mono ?_; rintro e w1 ⟨rfl, hk⟩; have K1 := Hid.mk' hk; have QR1 := Hid.mk' (rowK RR.out hk); have RD1 := Hid.mk' (rowK RD.out hk); have d1 : w1.cell? ⟨w.heap.size, 0, none⟩ = some (.slice _ n c) := RD1.out.cell (i := 0) (by omega); have t0 : w1.cell? ⟨w.heap.size + 1, 0, none⟩ = some (.int .i64 0) := QR1.out.cell (i := 0) (by omega); have y0 : w1.frozen? ⟨w.heap.size + 1, 0, none⟩ = false := QR1.out.frozen 0; have t1 : w1.cell? ⟨w.heap.size + 1, 1, none⟩ = some (.int .u8 0) := QR1.out.cell (i := 1) (by omega); have y1 : w1.frozen? ⟨w.heap.size + 1, 1, none⟩ = false := QR1.out.frozen 1; have t2 : w1.cell? ⟨w.heap.size + 1, 2, none⟩ = some (.slice none 0 0) := QR1.out.cell (i := 2) (by omega); have y2 : w1.frozen? ⟨w.heap.size + 1, 2, none⟩ = false := QR1.out.frozen 2; have M1 := Hid.mk' True.intro; clear hk M0))
      have hrw := row3_set QR1.out (.int .i64 0) (.int .u8 0) (.slice none 0 0)
      have q0 : (((w1.setCell ⟨w.heap.size + 1, 0, none⟩ (.int .i64 0)).setCell ⟨w.heap.size + 1, 1, none⟩ (.int .u8 0)).setCell ⟨w.heap.size + 1, 2, none⟩ (.slice none 0 0)).cell? ⟨w.heap.size + 1, 0, none⟩ = some (.int .i64 0) := hrw.cell (i := 0) (by omega)
      have q1 : (((w1.setCell ⟨w.heap.size + 1, 0, none⟩ (.int .i64 0)).setCell ⟨w.heap.size + 1, 1, none⟩ (.int .u8 0)).setCell ⟨w.heap.size + 1, 2, none⟩ (.slice none 0 0)).cell? ⟨w.heap.size + 1, 1, none⟩ = some (.int .u8 0) := hrw.cell (i := 1) (by omega)
      have q2 : (((w1.setCell ⟨w.heap.size + 1, 0, none⟩ (.int .i64 0)).setCell ⟨w.heap.size + 1, 1, none⟩ (.int .u8 0)).setCell ⟨w.heap.size + 1, 2, none⟩ (.slice none 0 0)).cell? ⟨w.heap.size + 1, 2, none⟩ = some (.slice none 0 0) := hrw.cell (i := 2) (by omega)
      have hkf : Kept w (((w1.setCell ⟨w.heap.size + 1, 0, none⟩ (.int .i64 0)).setCell ⟨w.heap.size + 1, 1, none⟩ (.int .u8 0)).setCell ⟨w.heap.size + 1, 2, none⟩ (.slice none 0 0)) none := (((HKA.out.tr K1.out).setNew (p := ⟨w.heap.size + 1, 0, none⟩) (show w.heap.size ≤ w.heap.size + 1 by omega) _).setNew (p := ⟨w.heap.size + 1, 1, none⟩) (show w.heap.size ≤ w.heap.size + 1 by omega) _).setNew (p := ⟨w.heap.size + 1, 2, none⟩) (show w.heap.size ≤ w.heap.size + 1 by omega) _
      refine bodyPost_ret (v := .tuple #[.agg #[.int .i64 0, .int .u8 0, .slice none 0 0], .int .i64 2]) (by simp [results, Try.results14, go_sem, q0, q1, q2]) rfl ⟨none, 0, 0, ?_, ?_, hkf⟩
      · rfl
      · exact PlF.nil _ _
    · obtain ⟨j, hj, hj1⟩ : ∃ j : Nat, i = (j : Int) ∧ j ≤ 1 := by
        rcases hi with q | q
        · exact ⟨0, q, by omega⟩
        · exact ⟨1, q, by omega⟩
      have HSL : Hid (∀ w', Kept WA w' none → Calls Try.prog 32 #[dvV (some ⟨b, off, none⟩) n c, .int .i64 i] w' fun e w2 => ∃ a' c', e = .returned (.slice a' (manK n) c') ∧ Bl w2 w'.heap.size a' (manK n) (sltB L j) ∧ Kept w' w2 none) := Hid.mk' (fun w' hk => by rw [hj]; exact rslot_any w' (hC.kpt (hkA.tr hk)) hA hj1)
      have HKP := Hid.mk' (fun (w' : World) (a' : Option Addr) (c' : Nat) (h : Bl w' 0 a' (manK n) (sltB L j)) => rkept_any (c := c') h (slt_64 (by rw [hl]; exact hA) hj1) k4 k5)
      unfold RkP at HKP
      have hE : slE19 L i = if kepB (sltB L j) = true then 0 else 8 := by unfold slE19; rw [hl, if_pos hA, if_pos hi, hj, Int.toNat_natCast]
      have hK : slK19 L i = if slE19 L i = 0 then kepK (sltB L j) else k00 := by unfold slK19; rw [hj, Int.toNat_natCast]
      unfold SlqP
      generalize manK n = mn at *
      generalize sltB L j = B at *
      generalize kepB B = TB at *
      obtain ⟨q, hq⟩ : ∃ q, kepK B = q := ⟨_, rfl⟩
      rw [hq] at HKP hK
      obtain ⟨G, md, pl⟩ := q
      dsimp only at HKP
      obtain ⟨g, hg⟩ : ∃ g : Int, (G : Int) = g := ⟨_, rfl⟩
      rw [hg] at HKP
      have HG := Hid.mk' hg
      have HI := Hid.mk' hi
      clear hj hj1 hq hg hi
      cases TB with
      | false =>
        rw [if_neg (by decide)] at hE
        rw [hE, if_neg (by decide)] at hK
        rw [hE, hK]
        clear hC hkA hzA hWA hE hK hl k2 hA k4 k5
        rcases HI.out with rfl | rfl
        all_goals (
          go_enter Try.func14, Try.ntmps14
          go_wp2_with (first
            | (have hgo := M2; clear hgo; go_at_call 35; refine (HKP.out _ _ _ B3.out).mono ?_; rintro e w2 ⟨pa, pn, pc, rfl, hp, hk⟩; have P2 := Hid.mk' (hp.kept (Kept.alloc w2 #[.int .i64 g, .int .u8 (md : Int), .slice pa pn pc] 35 (0, 0) none)); have K2 := Hid.mk' (K3.out.tr (hk.tr (Kept.alloc w2 #[.int .i64 g, .int .u8 (md : Int), .slice pa pn pc] 35 (0, 0) none))); have RK := Hid.mk' (row3 w2 (.int .i64 g) (.int .u8 (md : Int)) (.slice pa pn pc) 35); have QR2 := Hid.mk' (rowK RR.out K2.out); have s0 : (w2.alloc (.cells #[.int .i64 g, .int .u8 (md : Int), .slice pa pn pc] 35)).cell? ⟨w2.heap.size, 0, none⟩ = some (.int .i64 g) := RK.out.cell (i := 0) (by omega); have s1 : (w2.alloc (.cells #[.int .i64 g, .int .u8 (md : Int), .slice pa pn pc] 35)).cell? ⟨w2.heap.size, 1, none⟩ = some (.int .u8 (md : Int)) := RK.out.cell (i := 1) (by omega); have s2 : (w2.alloc (.cells #[.int .i64 g, .int .u8 (md : Int), .slice pa pn pc] 35)).cell? ⟨w2.heap.size, 2, none⟩ = some (.slice pa pn pc) := RK.out.cell (i := 2) (by omega); have x0 : (w2.alloc (.cells #[.int .i64 g, .int .u8 (md : Int), .slice pa pn pc] 35)).cell? ⟨w.heap.size + 1, 0, none⟩ = some (.int .i64 0) := QR2.out.cell (i := 0) (by omega); have z0 : (w2.alloc (.cells #[.int .i64 g, .int .u8 (md : Int), .slice pa pn pc] 35)).frozen? ⟨w.heap.size + 1, 0, none⟩ = false := QR2.out.frozen 0; have x1 : (w2.alloc (.cells #[.int .i64 g, .int .u8 (md : Int), .slice pa pn pc] 35)).cell? ⟨w.heap.size + 1, 1, none⟩ = some (.int .u8 0) := QR2.out.cell (i := 1) (by omega); have z1 : (w2.alloc (.cells #[.int .i64 g, .int .u8 (md : Int), .slice pa pn pc] 35)).frozen? ⟨w.heap.size + 1, 1, none⟩ = false := QR2.out.frozen 1; have x2 : (w2.alloc (.cells #[.int .i64 g, .int .u8 (md : Int), .slice pa pn pc] 35)).cell? ⟨w.heap.size + 1, 2, none⟩ = some (.slice none 0 0) := QR2.out.cell (i := 2) (by omega); have z2 : (w2.alloc (.cells #[.int .i64 g, .int .u8 (md : Int), .slice pa pn pc] 35)).frozen? ⟨w.heap.size + 1, 2, none⟩ = false := QR2.out.frozen 2; have hz2 : w.heap.size + 2 ≤ w2.heap.size := (by have := (K3.out.tr hk).size; have := HZA.out; omega); have hne2 : ¬ w.heap.size + 1 = w2.heap.size := (by omega); have hzp := K3.out.size; have M3 := Hid.mk' True.intro; clear hp hk M2)
            | (have hgo := M1; clear hgo; go_at_call 32; refine (HSL.out _ K1.out).mono ?_; rintro e w3 ⟨b3, c3, rfl, hb, hk⟩; have B3 := Hid.mk' (hb.mono (Nat.zero_le _)); have K3 := Hid.mk' (K1.out.tr hk); have M2 := Hid.mk' True.intro; clear hb hk M1)
            | (have hgo := M0; clear hgo; go_at_call 23; rw [HWA.out]; refine (HAS.out _).mono ?_; rintro e w1 ⟨rfl, hk⟩; have K1 := Hid.mk' hk; have QR1 := Hid.mk' (rowK RR.out hk); have RD1 := Hid.mk' (rowK RD.out hk); have d1 : w1.cell? ⟨w.heap.size, 0, none⟩ = some (.slice _ n c) := RD1.out.cell (i := 0) (by omega); have t0 : w1.cell? ⟨w.heap.size + 1, 0, none⟩ = some (.int .i64 0) := QR1.out.cell (i := 0) (by omega); have y0 : w1.frozen? ⟨w.heap.size + 1, 0, none⟩ = false := QR1.out.frozen 0; have t1 : w1.cell? ⟨w.heap.size + 1, 1, none⟩ = some (.int .u8 0) := QR1.out.cell (i := 1) (by omega); have y1 : w1.frozen? ⟨w.heap.size + 1, 1, none⟩ = false := QR1.out.frozen 1; have t2 : w1.cell? ⟨w.heap.size + 1, 2, none⟩ = some (.slice none 0 0) := QR1.out.cell (i := 2) (by omega); have y2 : w1.frozen? ⟨w.heap.size + 1, 2, none⟩ = false := QR1.out.frozen 2; have M1 := Hid.mk' True.intro; clear hk M0))
          have hrw := row3_set QR2.out (.int .i64 0) (.int .u8 0) (.slice none 0 0)
          have q0 : ((((w2.alloc (.cells #[.int .i64 g, .int .u8 (md : Int), .slice pa pn pc] 35)).setCell ⟨w.heap.size + 1, 0, none⟩ (.int .i64 0)).setCell ⟨w.heap.size + 1, 1, none⟩ (.int .u8 0)).setCell ⟨w.heap.size + 1, 2, none⟩ (.slice none 0 0)).cell? ⟨w.heap.size + 1, 0, none⟩ = some (.int .i64 0) := hrw.cell (i := 0) (by omega)
          have q1 : ((((w2.alloc (.cells #[.int .i64 g, .int .u8 (md : Int), .slice pa pn pc] 35)).setCell ⟨w.heap.size + 1, 0, none⟩ (.int .i64 0)).setCell ⟨w.heap.size + 1, 1, none⟩ (.int .u8 0)).setCell ⟨w.heap.size + 1, 2, none⟩ (.slice none 0 0)).cell? ⟨w.heap.size + 1, 1, none⟩ = some (.int .u8 0) := hrw.cell (i := 1) (by omega)
          have q2 : ((((w2.alloc (.cells #[.int .i64 g, .int .u8 (md : Int), .slice pa pn pc] 35)).setCell ⟨w.heap.size + 1, 0, none⟩ (.int .i64 0)).setCell ⟨w.heap.size + 1, 1, none⟩ (.int .u8 0)).setCell ⟨w.heap.size + 1, 2, none⟩ (.slice none 0 0)).cell? ⟨w.heap.size + 1, 2, none⟩ = some (.slice none 0 0) := hrw.cell (i := 2) (by omega)
          have hkf : Kept w ((((w2.alloc (.cells #[.int .i64 g, .int .u8 (md : Int), .slice pa pn pc] 35)).setCell ⟨w.heap.size + 1, 0, none⟩ (.int .i64 0)).setCell ⟨w.heap.size + 1, 1, none⟩ (.int .u8 0)).setCell ⟨w.heap.size + 1, 2, none⟩ (.slice none 0 0)) none := (((HKA.out.tr K2.out).setNew (p := ⟨w.heap.size + 1, 0, none⟩) (show w.heap.size ≤ w.heap.size + 1 by omega) _).setNew (p := ⟨w.heap.size + 1, 1, none⟩) (show w.heap.size ≤ w.heap.size + 1 by omega) _).setNew (p := ⟨w.heap.size + 1, 2, none⟩) (show w.heap.size ≤ w.heap.size + 1 by omega) _
          refine bodyPost_ret (v := .tuple #[.agg #[.int .i64 0, .int .u8 0, .slice none 0 0], .int .i64 8]) (by simp [results, Try.results14, go_sem, q0, q1, q2]) rfl ⟨none, 0, 0, ?_, ?_, hkf⟩
          · rfl
          · exact PlF.nil _ _)
      | true =>
        rw [if_pos rfl] at hE
        rw [hE, if_pos rfl] at hK
        rw [hE, hK]
        clear hC hkA hzA hWA hE hK hl k2 hA k4 k5
        rcases HI.out with rfl | rfl
        all_goals (
          go_enter Try.func14, Try.ntmps14
          go_wp2_with (first
            | (have hgo := M2; clear hgo; go_at_call 35; refine (HKP.out _ _ _ B3.out).mono ?_; rintro e w2 ⟨pa, pn, pc, rfl, hp, hk⟩; have P2 := Hid.mk' (hp.kept (Kept.alloc w2 #[.int .i64 g, .int .u8 (md : Int), .slice pa pn pc] 35 (0, 0) none)); have K2 := Hid.mk' (K3.out.tr (hk.tr (Kept.alloc w2 #[.int .i64 g, .int .u8 (md : Int), .slice pa pn pc] 35 (0, 0) none))); have RK := Hid.mk' (row3 w2 (.int .i64 g) (.int .u8 (md : Int)) (.slice pa pn pc) 35); have QR2 := Hid.mk' (rowK RR.out K2.out); have s0 : (w2.alloc (.cells #[.int .i64 g, .int .u8 (md : Int), .slice pa pn pc] 35)).cell? ⟨w2.heap.size, 0, none⟩ = some (.int .i64 g) := RK.out.cell (i := 0) (by omega); have s1 : (w2.alloc (.cells #[.int .i64 g, .int .u8 (md : Int), .slice pa pn pc] 35)).cell? ⟨w2.heap.size, 1, none⟩ = some (.int .u8 (md : Int)) := RK.out.cell (i := 1) (by omega); have s2 : (w2.alloc (.cells #[.int .i64 g, .int .u8 (md : Int), .slice pa pn pc] 35)).cell? ⟨w2.heap.size, 2, none⟩ = some (.slice pa pn pc) := RK.out.cell (i := 2) (by omega); have x0 : (w2.alloc (.cells #[.int .i64 g, .int .u8 (md : Int), .slice pa pn pc] 35)).cell? ⟨w.heap.size + 1, 0, none⟩ = some (.int .i64 0) := QR2.out.cell (i := 0) (by omega); have z0 : (w2.alloc (.cells #[.int .i64 g, .int .u8 (md : Int), .slice pa pn pc] 35)).frozen? ⟨w.heap.size + 1, 0, none⟩ = false := QR2.out.frozen 0; have x1 : (w2.alloc (.cells #[.int .i64 g, .int .u8 (md : Int), .slice pa pn pc] 35)).cell? ⟨w.heap.size + 1, 1, none⟩ = some (.int .u8 0) := QR2.out.cell (i := 1) (by omega); have z1 : (w2.alloc (.cells #[.int .i64 g, .int .u8 (md : Int), .slice pa pn pc] 35)).frozen? ⟨w.heap.size + 1, 1, none⟩ = false := QR2.out.frozen 1; have x2 : (w2.alloc (.cells #[.int .i64 g, .int .u8 (md : Int), .slice pa pn pc] 35)).cell? ⟨w.heap.size + 1, 2, none⟩ = some (.slice none 0 0) := QR2.out.cell (i := 2) (by omega); have z2 : (w2.alloc (.cells #[.int .i64 g, .int .u8 (md : Int), .slice pa pn pc] 35)).frozen? ⟨w.heap.size + 1, 2, none⟩ = false := QR2.out.frozen 2; have hz2 : w.heap.size + 2 ≤ w2.heap.size := (by have := (K3.out.tr hk).size; have := HZA.out; omega); have hne2 : ¬ w.heap.size + 1 = w2.heap.size := (by omega); have hzp := K3.out.size; have M3 := Hid.mk' True.intro; clear hp hk M2)
            | (have hgo := M1; clear hgo; go_at_call 32; refine (HSL.out _ K1.out).mono ?_; rintro e w3 ⟨b3, c3, rfl, hb, hk⟩; have B3 := Hid.mk' (hb.mono (Nat.zero_le _)); have K3 := Hid.mk' (K1.out.tr hk); have M2 := Hid.mk' True.intro; clear hb hk M1)
            | (have hgo := M0; clear hgo; go_at_call 23; rw [HWA.out]; refine (HAS.out _).mono ?_; rintro e w1 ⟨rfl, hk⟩; have K1 := Hid.mk' hk; have QR1 := Hid.mk' (rowK RR.out hk); have RD1 := Hid.mk' (rowK RD.out hk); have d1 : w1.cell? ⟨w.heap.size, 0, none⟩ = some (.slice _ n c) := RD1.out.cell (i := 0) (by omega); have t0 : w1.cell? ⟨w.heap.size + 1, 0, none⟩ = some (.int .i64 0) := QR1.out.cell (i := 0) (by omega); have y0 : w1.frozen? ⟨w.heap.size + 1, 0, none⟩ = false := QR1.out.frozen 0; have t1 : w1.cell? ⟨w.heap.size + 1, 1, none⟩ = some (.int .u8 0) := QR1.out.cell (i := 1) (by omega); have y1 : w1.frozen? ⟨w.heap.size + 1, 1, none⟩ = false := QR1.out.frozen 1; have t2 : w1.cell? ⟨w.heap.size + 1, 2, none⟩ = some (.slice none 0 0) := QR1.out.cell (i := 2) (by omega); have y2 : w1.frozen? ⟨w.heap.size + 1, 2, none⟩ = false := QR1.out.frozen 2; have M1 := Hid.mk' True.intro; clear hk M0))
          have hrw := row3_set QR2.out (.int .i64 g) (.int .u8 (md : Int)) (.slice pa pn pc)
          have q0 : ((((w2.alloc (.cells #[.int .i64 g, .int .u8 (md : Int), .slice pa pn pc] 35)).setCell ⟨w.heap.size + 1, 0, none⟩ (.int .i64 g)).setCell ⟨w.heap.size + 1, 1, none⟩ (.int .u8 (md : Int))).setCell ⟨w.heap.size + 1, 2, none⟩ (.slice pa pn pc)).cell? ⟨w.heap.size + 1, 0, none⟩ = some (.int .i64 g) := hrw.cell (i := 0) (by omega)
          have q1 : ((((w2.alloc (.cells #[.int .i64 g, .int .u8 (md : Int), .slice pa pn pc] 35)).setCell ⟨w.heap.size + 1, 0, none⟩ (.int .i64 g)).setCell ⟨w.heap.size + 1, 1, none⟩ (.int .u8 (md : Int))).setCell ⟨w.heap.size + 1, 2, none⟩ (.slice pa pn pc)).cell? ⟨w.heap.size + 1, 1, none⟩ = some (.int .u8 (md : Int)) := hrw.cell (i := 1) (by omega)
          have q2 : ((((w2.alloc (.cells #[.int .i64 g, .int .u8 (md : Int), .slice pa pn pc] 35)).setCell ⟨w.heap.size + 1, 0, none⟩ (.int .i64 g)).setCell ⟨w.heap.size + 1, 1, none⟩ (.int .u8 (md : Int))).setCell ⟨w.heap.size + 1, 2, none⟩ (.slice pa pn pc)).cell? ⟨w.heap.size + 1, 2, none⟩ = some (.slice pa pn pc) := hrw.cell (i := 2) (by omega)
          have hkf : Kept w ((((w2.alloc (.cells #[.int .i64 g, .int .u8 (md : Int), .slice pa pn pc] 35)).setCell ⟨w.heap.size + 1, 0, none⟩ (.int .i64 g)).setCell ⟨w.heap.size + 1, 1, none⟩ (.int .u8 (md : Int))).setCell ⟨w.heap.size + 1, 2, none⟩ (.slice pa pn pc)) none := (((HKA.out.tr K2.out).setNew (p := ⟨w.heap.size + 1, 0, none⟩) (show w.heap.size ≤ w.heap.size + 1 by omega) _).setNew (p := ⟨w.heap.size + 1, 1, none⟩) (show w.heap.size ≤ w.heap.size + 1 by omega) _).setNew (p := ⟨w.heap.size + 1, 2, none⟩) (show w.heap.size ≤ w.heap.size + 1 by omega) _
          refine bodyPost_ret (v := .tuple #[.agg #[.int .i64 g, .int .u8 (md : Int), .slice pa pn pc], .int .i64 0]) (by simp [results, Try.results14, go_sem, q0, q1, q2]) rfl ⟨pa, pn, pc, ?_, ?_, hkf⟩
          · rw [← HG.out]
          · exact (((P2.out.set (by have := HZA.out; omega) 0 _).set (by have := HZA.out; omega) 1 _).set (by have := HZA.out; omega) 2 _).mono (by have := HZA.out; omega))
theorem row1_set {w : World} {g : Nat} {t : TypeId} {f : Nat → Value} (h : w.rowIs g t 1 f) (v : Value) : (w.setCell ⟨g, 0, none⟩ v).rowIs g t 1 (fun _ => v) := (h.set 0 v).congr fun i hi => by
  have : i = 0 := by omega
  subst this
  rfl
set_option maxRecDepth 100000 in
set_option maxHeartbeats 2000000 in
theorem rfmt_no {n : Int} (w : World) (h : ¬ (1 ≤ n ∧ n ≤ 64)) : Calls Try.prog 8 #[.int .i64 n] w fun e w' => ∃ a2 c2, e = dvR a2 0 c2 180 ∧ Come w' a2 0 c2 [] ∧ Kept w w' none := by
  have HN := Hid.mk' (fun w' => rnew_no (n := n) w' h)
  have M0 := Hid.mk' True.intro
  clear h
  go_enter Try.func8, Try.ntmps8
  go_wp2_with (first
    | (have hgo := M0; clear hgo; go_at_call 20; refine (HN.out _).mono ?_; rintro e w1 ⟨rfl, hk⟩; have QR1 := Hid.mk' (rowK (row1k w (.slice none 0 0) 24) (hk.tr (Kept.alloc w1 #[.slice none 0 0] 24 (0, 0) none))); have RE := Hid.mk' (row1k w1 (.slice none 0 0) 24); have t0 : (w1.alloc (.cells #[.slice none 0 0] 24)).cell? ⟨w.heap.size, 0, none⟩ = some (.slice none 0 0) := QR1.out.cell (i := 0) (by omega); have y0 : (w1.alloc (.cells #[.slice none 0 0] 24)).frozen? ⟨w.heap.size, 0, none⟩ = false := QR1.out.frozen 0; have s0 : (w1.alloc (.cells #[.slice none 0 0] 24)).cell? ⟨w1.heap.size, 0, none⟩ = some (.slice none 0 0) := RE.out.cell (i := 0) (by omega); have hz1 := hk.size; rw [World.size_alloc] at hz1; have hne : ¬ w.heap.size = w1.heap.size := (by omega); have K1 := Hid.mk' hk; clear hk M0))
  have hrw := row1_set QR1.out (.slice none 0 0)
  have q0 : ((w1.alloc (.cells #[.slice none 0 0] 24)).setCell ⟨w.heap.size, 0, none⟩ (.slice none 0 0)).cell? ⟨w.heap.size, 0, none⟩ = some (.slice none 0 0) := hrw.cell (i := 0) (by omega)
  refine bodyPost_ret (v := .tuple #[.agg #[.slice none 0 0], .int .i64 180]) (by simp [results, Try.results8, go_sem, q0]) rfl ⟨none, 0, rfl, ?_, ((Kept.alloc w #[.slice none 0 0] 24 (0, 0) none).tr (K1.out.tr (Kept.alloc w1 #[.slice none 0 0] 24 (0, 0) none))).setNew (p := ⟨w.heap.size, 0, none⟩) (Nat.le_refl _) _⟩
  exact ⟨By.nil _ _, fun _ => rfl, Nat.le_refl _, by omega⟩
theorem rnew_g {n : Int} (w : World) (hb : 1 ≤ n ∧ n ≤ 64) {N : Nat} (hN : 64 * n.toNat = N) : Calls Try.prog 20 #[.int .i64 n] w fun e w' => ∃ g, e = dvR (some ⟨g, 0, none⟩) N N 0 ∧ w.heap.size < g ∧ Row w' g (List.replicate N 0) ∧ Kept w w' none := by
  refine (rnew_yes w hb).mono ?_
  rintro e w' ⟨rfl, h2, h3⟩
  rw [hN] at h2 ⊢
  exact ⟨_, rfl, by omega, h2, h3⟩
set_option maxRecDepth 100000 in
set_option maxHeartbeats 2000000 in
theorem rfmt_one (w : World) : Calls Try.prog 8 #[.int .i64 1] w fun e w' => ∃ a2 c2, e = dvR a2 0 c2 190 ∧ Come w' a2 0 c2 [] ∧ Kept w w' none := by
  obtain ⟨N, hN⟩ : ∃ N, 64 * (1 : Int).toNat = N := ⟨_, rfl⟩
  have HN := Hid.mk' (fun w' => rnew_g (n := 1) w' (by omega) hN)
  have M0 := Hid.mk' True.intro
  clear hN
  go_enter Try.func8, Try.ntmps8
  go_wp2_with (first
    | (have hgo := M0; clear hgo; go_at_call 20; refine (HN.out _).mono ?_; rintro e w1 ⟨g, rfl, hg, hr, hk⟩; have QR1 := Hid.mk' (rowK (row1k w (.slice none 0 0) 24) (hk.tr (Kept.alloc w1 #[.slice (some ⟨g, 0, none⟩) N N] 24 (0, 0) none))); have RE := Hid.mk' (row1k w1 (.slice (some ⟨g, 0, none⟩) N N) 24); have t0 : (w1.alloc (.cells #[.slice (some ⟨g, 0, none⟩) N N] 24)).cell? ⟨w.heap.size, 0, none⟩ = some (.slice none 0 0) := QR1.out.cell (i := 0) (by omega); have y0 : (w1.alloc (.cells #[.slice (some ⟨g, 0, none⟩) N N] 24)).frozen? ⟨w.heap.size, 0, none⟩ = false := QR1.out.frozen 0; have s0 : (w1.alloc (.cells #[.slice (some ⟨g, 0, none⟩) N N] 24)).cell? ⟨w1.heap.size, 0, none⟩ = some (.slice (some ⟨g, 0, none⟩) N N) := RE.out.cell (i := 0) (by omega); have hz1 := hk.size; rw [World.size_alloc] at hz1; have hne : ¬ w.heap.size = w1.heap.size := (by omega); have K1 := Hid.mk' hk; clear hk M0))
  have hrw := row1_set QR1.out (.slice none 0 0)
  have q0 : ((w1.alloc (.cells #[.slice (some ⟨g, 0, none⟩) N N] 24)).setCell ⟨w.heap.size, 0, none⟩ (.slice none 0 0)).cell? ⟨w.heap.size, 0, none⟩ = some (.slice none 0 0) := hrw.cell (i := 0) (by omega)
  refine bodyPost_ret (v := .tuple #[.agg #[.slice none 0 0], .int .i64 190]) (by simp [results, Try.results8, go_sem, q0]) rfl ⟨none, 0, rfl, ?_, ((Kept.alloc w #[.slice none 0 0] 24 (0, 0) none).tr (K1.out.tr (Kept.alloc w1 #[.slice (some ⟨g, 0, none⟩) N N] 24 (0, 0) none))).setNew (p := ⟨w.heap.size, 0, none⟩) (Nat.le_refl _) _⟩
  exact ⟨By.nil _ _, fun _ => rfl, Nat.le_refl _, by omega⟩
set_option maxRecDepth 100000 in
set_option maxHeartbeats 2000000 in
theorem rfmt_yes {n : Int} (w : World) (hb : 1 ≤ n ∧ n ≤ 64) (h1 : ¬ n = 1) {N : Nat} (hN : 64 * n.toNat = N) (hN2 : N ≤ 4096) : Calls Try.prog 8 #[.int .i64 n] w fun e w' => ∃ a2 c2, e = dvR a2 N c2 0 ∧ Come w' a2 N c2 (List.replicate N 0) ∧ Kept w w' none := by
  have HN := Hid.mk' (fun w' => rnew_g (n := n) w' hb hN)
  have M0 := Hid.mk' True.intro
  clear hN
  go_enter Try.func8, Try.ntmps8
  go_wp2_with (first
    | (have hgo := M0; clear hgo; go_at_call 20; refine (HN.out _).mono ?_; rintro e w1 ⟨g, rfl, hg, hr, hk⟩; have QR1 := Hid.mk' (rowK (row1k w (.slice none 0 0) 24) (hk.tr (Kept.alloc w1 #[.slice (some ⟨g, 0, none⟩) N N] 24 (0, 0) none))); have RE := Hid.mk' (row1k w1 (.slice (some ⟨g, 0, none⟩) N N) 24); have t0 : (w1.alloc (.cells #[.slice (some ⟨g, 0, none⟩) N N] 24)).cell? ⟨w.heap.size, 0, none⟩ = some (.slice none 0 0) := QR1.out.cell (i := 0) (by omega); have y0 : (w1.alloc (.cells #[.slice (some ⟨g, 0, none⟩) N N] 24)).frozen? ⟨w.heap.size, 0, none⟩ = false := QR1.out.frozen 0; have s0 : (w1.alloc (.cells #[.slice (some ⟨g, 0, none⟩) N N] 24)).cell? ⟨w1.heap.size, 0, none⟩ = some (.slice (some ⟨g, 0, none⟩) N N) := RE.out.cell (i := 0) (by omega); have hz1 := hk.size; rw [World.size_alloc] at hz1; have hne : ¬ w.heap.size = w1.heap.size := (by omega); have HR := Hid.mk' (hr.kept (Kept.alloc w1 #[.slice (some ⟨g, 0, none⟩) N N] 24 (0, 0) none) (by simp)); rw [World.size_alloc] at hg; have HGN := Hid.mk' hg; clear hr hg; have K1 := Hid.mk' hk; clear hk M0))
  have hrw := row1_set QR1.out (.slice (some ⟨g, 0, none⟩) N N)
  have q0 : ((w1.alloc (.cells #[.slice (some ⟨g, 0, none⟩) N N] 24)).setCell ⟨w.heap.size, 0, none⟩ (.slice (some ⟨g, 0, none⟩) N N)).cell? ⟨w.heap.size, 0, none⟩ = some (.slice (some ⟨g, 0, none⟩) N N) := hrw.cell (i := 0) (by omega)
  refine bodyPost_ret (v := .tuple #[.agg #[.slice (some ⟨g, 0, none⟩) N N], .int .i64 0]) (by simp [results, Try.results8, go_sem, q0]) rfl ⟨some ⟨g, 0, none⟩, N, rfl, ?_, ((Kept.alloc w #[.slice none 0 0] 24 (0, 0) none).tr (K1.out.tr (Kept.alloc w1 #[.slice (some ⟨g, 0, none⟩) N N] 24 (0, 0) none))).setNew (p := ⟨w.heap.size, 0, none⟩) (Nat.le_refl _) _⟩
  exact (HR.out.far (b := w.heap.size) (by have := HGN.out; omega) 0 _).cm N (by simp) hN2 (fun x hx => by have := List.eq_of_mem_replicate hx; omega)
theorem rformat_any (n : Int) (w : World) : Calls Try.prog 8 #[.int .i64 n] w fun e w' => ∃ a2 c2, e = dvR a2 (foL n).length c2 (foE n) ∧ Come w' a2 (foL n).length c2 (foL n) ∧ Kept w w' none := by
  by_cases hb : 1 ≤ n ∧ n ≤ 64
  · have hm : bmayV n = true := by unfold bmayV; simp; omega
    by_cases h1 : n = 1
    · subst h1
      have e1 : foE 1 = 190 := by decide
      have e2 : foL 1 = [] := by unfold foL; rw [e1]; rfl
      rw [e1, e2]
      exact rfmt_one w
    · have e1 : foE n = 0 := by unfold foE newE; rw [hm, if_pos rfl, if_pos rfl, if_neg h1]
      have e2 : foL n = List.replicate (64 * n.toNat) 0 := by unfold foL newL; rw [e1, hm, if_pos rfl, if_pos rfl]
      rw [e1, e2, List.length_replicate]
      exact rfmt_yes w hb h1 rfl (by omega)
  · have hm : newE n = 180 := by
      unfold newE
      have : bmayV n = false := by
        cases q : bmayV n with
        | false => rfl
        | true => unfold bmayV at q; simp at q; omega
      rw [this]; rfl
    have e1 : foE n = 180 := by unfold foE; rw [hm]; rfl
    have e2 : foL n = [] := by unfold foL; rw [e1]; rfl
    rw [e1, e2]
    exact rfmt_no w hb

end Go.Proofs.Ytlabjamkaebnjaa
