/-
  THE CONTRACTS of store.Format, Read, Slot.
-/
import Derived.Test.YtlabjamkaebnjaaStoC
namespace Go.Proofs.Ytlabjamkaebnjaa
open Go.RowKit Go.Lib Go.Deep
set_option linter.unusedVariables false
set_option linter.unusedSimpArgs false

/-! ### Format -/
theorem fmt_one (w : World) : Calls Try.prog 7 #[.int .i64 1] w fun e w' => e = dvR none 0 0 190 ∧ Kept w w' none := by
  go_enter Try.func7, Try.ntmps7
  go_wp2
  refine bodyPost_ret (v := .tuple #[dvV _ _ _, .int .i64 _]) (by simp [results, Try.results7, go_sem, *]; done) rfl ⟨rfl, ?_⟩
  exact Kept.alloc _ _ _ _ _
theorem fmt_more {n : Int} (w : World) (h : n ≠ 1) : Calls Try.prog 7 #[.int .i64 n] w fun e w' => DvP w w' e (newE n) (newL n) := by
  have HB := Hid.mk' (fun w' => bnew_any n w')
  have hR := db_alloc w none 0 0 24
  have HR := Hid.mk' hR
  have hkA : Kept w (w.alloc (.cells #[.slice none 0 0] 24)) none := Kept.alloc _ _ _ _ _
  have HK := Hid.mk' hkA
  clear hR hkA
  generalize hE : newE n = E at *
  generalize hL : newL n = L at *
  clear hE hL
  go_enter Try.func7, Try.ntmps7
  go_wp2_with (go_at_call 19; refine (HB.out _).mono ?_; rintro e w1 ⟨⟨a1, n1, c1, rfl, hd1⟩, hk1⟩; have HD1 := Hid.mk' hd1; have K1 := Hid.mk' hk1; have hS := HR.out.kept hk1; have s0 := hS.c0; have s1 := hS.f0; have s2 := hS.lt; clear hd1 hk1 hS)
  refine bodyPost_ret (v := .tuple #[dvV a1 n1 c1, .int .i64 E]) (by simp [results, Try.results7, go_sem, *]; done) rfl ⟨⟨a1, n1, c1, rfl, ?_⟩, ?_⟩
  · exact (HD1.out.far (b := w.heap.size) (by simp) 0 _).from HK.out.size
  · exact (HK.out.tr K1.out).setNew (p := ⟨w.heap.size, 0, none⟩) (Nat.le_refl _) _
theorem format_any (n : Int) (w : World) : Calls Try.prog 7 #[.int .i64 n] w fun e w' => DvP w w' e (foE n) (foL n) := by
  by_cases h : n = 1
  · subst h
    have e1 : foE 1 = 190 := by decide
    have e2 : foL 1 = [] := by unfold foL; rw [e1]; rfl
    rw [e1, e2]
    refine (fmt_one w).mono ?_
    rintro e w' ⟨rfl, hk⟩
    exact ⟨⟨_, _, _, rfl, Dv.none _ _⟩, hk⟩
  · have e1 : foE n = newE n := by unfold foE; rw [if_neg h]; split <;> simp_all
    have e2 : foL n = newL n := by
      unfold foL
      rw [e1]
      by_cases h0 : newE n = 0
      · rw [if_pos h0]
      · rw [if_neg h0]
        unfold newE at h0
        unfold newL
        split at h0
        · exact absurd rfl h0
        · next hb => rw [if_neg hb]
    rw [e1, e2]
    exact fmt_more w h

/-! ### slotsOf, where there are none -/
set_option maxRecDepth 100000 in
set_option maxHeartbeats 2000000 in
theorem slots_bad (a : Option Addr) (n c : Nat) (w : World) (hn : n ≤ 9223372036854775807) (h : askE n ≠ 0) : Calls Try.prog 21 #[dvV a n c] w fun e w' => e = .returned (.tuple #[slV 0 0 none 0 0 0 none 0 0, slV 0 0 none 0 0 0 none 0 0, .int .i64 (askE n)]) ∧ Kept w w' none := by
  have HBS := Hid.mk' (fun w' => bslot_any a n c w' hn)
  have hmE : manE n = 0 := by unfold manE; rw [if_neg h]
  rw [hmE] at HBS
  obtain ⟨E, hE⟩ : ∃ E, askE n = E := ⟨_, rfl⟩
  rw [hE] at HBS h ⊢
  clear hmE hE
  obtain ⟨WA, hWA⟩ : ∃ WA, ((w.alloc (.cells #[.slice a n c] 24)).alloc (.cells #[.int .i64 0, .int .u8 0, .slice none 0 0, .int .i64 0, .slice none 0 0] 66)).alloc (.cells #[.int .i64 0, .int .u8 0, .slice none 0 0, .int .i64 0, .slice none 0 0] 66) = WA := ⟨_, rfl⟩
  have hkA0 : Kept w WA none := by rw [← hWA]; exact ((Kept.alloc _ _ _ _ _).tr (Kept.alloc _ _ _ _ _)).tr (Kept.alloc _ _ _ _ _)
  have RA1 : WA.rowIs (w.heap.size + 1) 66 5 (f5 (.int .i64 0) (.int .u8 0) (.slice none 0 0) (.int .i64 0) (.slice none 0 0)) := by
    have h := (row5 (w.alloc (.cells #[.slice a n c] 24)) (.int .i64 0) (.int .u8 0) (.slice none 0 0) (.int .i64 0) (.slice none 0 0) 66).alloc (.cells #[.int .i64 0, .int .u8 0, .slice none 0 0, .int .i64 0, .slice none 0 0] 66)
    rw [World.size_alloc] at h
    rw [← hWA]
    exact h
  have RA2 : WA.rowIs (w.heap.size + 1 + 1) 66 5 (f5 (.int .i64 0) (.int .u8 0) (.slice none 0 0) (.int .i64 0) (.slice none 0 0)) := by
    have h := row5 ((w.alloc (.cells #[.slice a n c] 24)).alloc (.cells #[.int .i64 0, .int .u8 0, .slice none 0 0, .int .i64 0, .slice none 0 0] 66)) (.int .i64 0) (.int .u8 0) (.slice none 0 0) (.int .i64 0) (.slice none 0 0) 66
    simp only [World.size_alloc] at h
    rw [← hWA]
    exact h
  have HR1 := Hid.mk' RA1
  have HR2 := Hid.mk' RA2
  have HKA := Hid.mk' hkA0
  have HWA := Hid.mk' hWA
  clear RA1 RA2 hkA0 hWA
  go_enter Try.func21, Try.ntmps21
  go_wp2_with (go_at_call 33; rw [HWA.out]; refine (HBS.out _).mono ?_; rintro e w1 ⟨rfl, hk1⟩; have K1 := Hid.mk' (HKA.out.tr hk1); have X1 := Hid.mk' (rowK HR1.out hk1); have X2 := Hid.mk' (rowK HR2.out hk1); have t0 : w1.cell? ⟨w.heap.size + 1, 0, none⟩ = some (.int .i64 0) := X1.out.cell (i := 0) (by omega); have y0 : w1.frozen? ⟨w.heap.size + 1, 0, none⟩ = false := X1.out.frozen 0; have t1 : w1.cell? ⟨w.heap.size + 1, 1, none⟩ = some (.int .u8 0) := X1.out.cell (i := 1) (by omega); have y1 : w1.frozen? ⟨w.heap.size + 1, 1, none⟩ = false := X1.out.frozen 1; have t2 : w1.cell? ⟨w.heap.size + 1, 2, none⟩ = some (.slice none 0 0) := X1.out.cell (i := 2) (by omega); have y2 : w1.frozen? ⟨w.heap.size + 1, 2, none⟩ = false := X1.out.frozen 2; have t3 : w1.cell? ⟨w.heap.size + 1, 3, none⟩ = some (.int .i64 0) := X1.out.cell (i := 3) (by omega); have y3 : w1.frozen? ⟨w.heap.size + 1, 3, none⟩ = false := X1.out.frozen 3; have t4 : w1.cell? ⟨w.heap.size + 1, 4, none⟩ = some (.slice none 0 0) := X1.out.cell (i := 4) (by omega); have y4 : w1.frozen? ⟨w.heap.size + 1, 4, none⟩ = false := X1.out.frozen 4; have s0 : w1.cell? ⟨w.heap.size + 1 + 1, 0, none⟩ = some (.int .i64 0) := X2.out.cell (i := 0) (by omega); have z0 : w1.frozen? ⟨w.heap.size + 1 + 1, 0, none⟩ = false := X2.out.frozen 0; have s1 : w1.cell? ⟨w.heap.size + 1 + 1, 1, none⟩ = some (.int .u8 0) := X2.out.cell (i := 1) (by omega); have z1 : w1.frozen? ⟨w.heap.size + 1 + 1, 1, none⟩ = false := X2.out.frozen 1; have s2 : w1.cell? ⟨w.heap.size + 1 + 1, 2, none⟩ = some (.slice none 0 0) := X2.out.cell (i := 2) (by omega); have z2 : w1.frozen? ⟨w.heap.size + 1 + 1, 2, none⟩ = false := X2.out.frozen 2; have s3 : w1.cell? ⟨w.heap.size + 1 + 1, 3, none⟩ = some (.int .i64 0) := X2.out.cell (i := 3) (by omega); have z3 : w1.frozen? ⟨w.heap.size + 1 + 1, 3, none⟩ = false := X2.out.frozen 3; have s4 : w1.cell? ⟨w.heap.size + 1 + 1, 4, none⟩ = some (.slice none 0 0) := X2.out.cell (i := 4) (by omega); have z4 : w1.frozen? ⟨w.heap.size + 1 + 1, 4, none⟩ = false := X2.out.frozen 4; clear hk1)
  have Q1 := st5_row (g := w.heap.size + 1 + 1) (row5_set5 X1.out (.int .i64 0) (.int .u8 0) (.slice none 0 0) (.int .i64 0) (.slice none 0 0)) (by omega) (.int .i64 0) (.int .u8 0) (.slice none 0 0) (.int .i64 0) (.slice none 0 0)
  have Q2 := row5_set5 (st5_row (g := w.heap.size + 1) X2.out (by omega) (.int .i64 0) (.int .u8 0) (.slice none 0 0) (.int .i64 0) (.slice none 0 0)) (.int .i64 0) (.int .u8 0) (.slice none 0 0) (.int .i64 0) (.slice none 0 0)
  clear t0 t1 t2 t3 t4 y0 y1 y2 y3 y4 s0 s1 s2 s3 s4 z0 z1 z2 z3 z4
  have v0 : ((((((((((w1.setCell ⟨w.heap.size + 1, 0, none⟩ (.int .i64 0)).setCell ⟨w.heap.size + 1, 1, none⟩ (.int .u8 0)).setCell ⟨w.heap.size + 1, 2, none⟩ (.slice none 0 0)).setCell ⟨w.heap.size + 1, 3, none⟩ (.int .i64 0)).setCell ⟨w.heap.size + 1, 4, none⟩ (.slice none 0 0)).setCell ⟨w.heap.size + 1 + 1, 0, none⟩ (.int .i64 0)).setCell ⟨w.heap.size + 1 + 1, 1, none⟩ (.int .u8 0)).setCell ⟨w.heap.size + 1 + 1, 2, none⟩ (.slice none 0 0)).setCell ⟨w.heap.size + 1 + 1, 3, none⟩ (.int .i64 0)).setCell ⟨w.heap.size + 1 + 1, 4, none⟩ (.slice none 0 0)).cell? ⟨w.heap.size + 1, 0, none⟩ = some (.int .i64 0) := Q1.cell (i := 0) (by omega)
  have v1 : ((((((((((w1.setCell ⟨w.heap.size + 1, 0, none⟩ (.int .i64 0)).setCell ⟨w.heap.size + 1, 1, none⟩ (.int .u8 0)).setCell ⟨w.heap.size + 1, 2, none⟩ (.slice none 0 0)).setCell ⟨w.heap.size + 1, 3, none⟩ (.int .i64 0)).setCell ⟨w.heap.size + 1, 4, none⟩ (.slice none 0 0)).setCell ⟨w.heap.size + 1 + 1, 0, none⟩ (.int .i64 0)).setCell ⟨w.heap.size + 1 + 1, 1, none⟩ (.int .u8 0)).setCell ⟨w.heap.size + 1 + 1, 2, none⟩ (.slice none 0 0)).setCell ⟨w.heap.size + 1 + 1, 3, none⟩ (.int .i64 0)).setCell ⟨w.heap.size + 1 + 1, 4, none⟩ (.slice none 0 0)).cell? ⟨w.heap.size + 1, 1, none⟩ = some (.int .u8 0) := Q1.cell (i := 1) (by omega)
  have v2 : ((((((((((w1.setCell ⟨w.heap.size + 1, 0, none⟩ (.int .i64 0)).setCell ⟨w.heap.size + 1, 1, none⟩ (.int .u8 0)).setCell ⟨w.heap.size + 1, 2, none⟩ (.slice none 0 0)).setCell ⟨w.heap.size + 1, 3, none⟩ (.int .i64 0)).setCell ⟨w.heap.size + 1, 4, none⟩ (.slice none 0 0)).setCell ⟨w.heap.size + 1 + 1, 0, none⟩ (.int .i64 0)).setCell ⟨w.heap.size + 1 + 1, 1, none⟩ (.int .u8 0)).setCell ⟨w.heap.size + 1 + 1, 2, none⟩ (.slice none 0 0)).setCell ⟨w.heap.size + 1 + 1, 3, none⟩ (.int .i64 0)).setCell ⟨w.heap.size + 1 + 1, 4, none⟩ (.slice none 0 0)).cell? ⟨w.heap.size + 1, 2, none⟩ = some (.slice none 0 0) := Q1.cell (i := 2) (by omega)
  have v3 : ((((((((((w1.setCell ⟨w.heap.size + 1, 0, none⟩ (.int .i64 0)).setCell ⟨w.heap.size + 1, 1, none⟩ (.int .u8 0)).setCell ⟨w.heap.size + 1, 2, none⟩ (.slice none 0 0)).setCell ⟨w.heap.size + 1, 3, none⟩ (.int .i64 0)).setCell ⟨w.heap.size + 1, 4, none⟩ (.slice none 0 0)).setCell ⟨w.heap.size + 1 + 1, 0, none⟩ (.int .i64 0)).setCell ⟨w.heap.size + 1 + 1, 1, none⟩ (.int .u8 0)).setCell ⟨w.heap.size + 1 + 1, 2, none⟩ (.slice none 0 0)).setCell ⟨w.heap.size + 1 + 1, 3, none⟩ (.int .i64 0)).setCell ⟨w.heap.size + 1 + 1, 4, none⟩ (.slice none 0 0)).cell? ⟨w.heap.size + 1, 3, none⟩ = some (.int .i64 0) := Q1.cell (i := 3) (by omega)
  have v4 : ((((((((((w1.setCell ⟨w.heap.size + 1, 0, none⟩ (.int .i64 0)).setCell ⟨w.heap.size + 1, 1, none⟩ (.int .u8 0)).setCell ⟨w.heap.size + 1, 2, none⟩ (.slice none 0 0)).setCell ⟨w.heap.size + 1, 3, none⟩ (.int .i64 0)).setCell ⟨w.heap.size + 1, 4, none⟩ (.slice none 0 0)).setCell ⟨w.heap.size + 1 + 1, 0, none⟩ (.int .i64 0)).setCell ⟨w.heap.size + 1 + 1, 1, none⟩ (.int .u8 0)).setCell ⟨w.heap.size + 1 + 1, 2, none⟩ (.slice none 0 0)).setCell ⟨w.heap.size + 1 + 1, 3, none⟩ (.int .i64 0)).setCell ⟨w.heap.size + 1 + 1, 4, none⟩ (.slice none 0 0)).cell? ⟨w.heap.size + 1, 4, none⟩ = some (.slice none 0 0) := Q1.cell (i := 4) (by omega)
  have u0 : ((((((((((w1.setCell ⟨w.heap.size + 1, 0, none⟩ (.int .i64 0)).setCell ⟨w.heap.size + 1, 1, none⟩ (.int .u8 0)).setCell ⟨w.heap.size + 1, 2, none⟩ (.slice none 0 0)).setCell ⟨w.heap.size + 1, 3, none⟩ (.int .i64 0)).setCell ⟨w.heap.size + 1, 4, none⟩ (.slice none 0 0)).setCell ⟨w.heap.size + 1 + 1, 0, none⟩ (.int .i64 0)).setCell ⟨w.heap.size + 1 + 1, 1, none⟩ (.int .u8 0)).setCell ⟨w.heap.size + 1 + 1, 2, none⟩ (.slice none 0 0)).setCell ⟨w.heap.size + 1 + 1, 3, none⟩ (.int .i64 0)).setCell ⟨w.heap.size + 1 + 1, 4, none⟩ (.slice none 0 0)).cell? ⟨w.heap.size + 1 + 1, 0, none⟩ = some (.int .i64 0) := Q2.cell (i := 0) (by omega)
  have u1 : ((((((((((w1.setCell ⟨w.heap.size + 1, 0, none⟩ (.int .i64 0)).setCell ⟨w.heap.size + 1, 1, none⟩ (.int .u8 0)).setCell ⟨w.heap.size + 1, 2, none⟩ (.slice none 0 0)).setCell ⟨w.heap.size + 1, 3, none⟩ (.int .i64 0)).setCell ⟨w.heap.size + 1, 4, none⟩ (.slice none 0 0)).setCell ⟨w.heap.size + 1 + 1, 0, none⟩ (.int .i64 0)).setCell ⟨w.heap.size + 1 + 1, 1, none⟩ (.int .u8 0)).setCell ⟨w.heap.size + 1 + 1, 2, none⟩ (.slice none 0 0)).setCell ⟨w.heap.size + 1 + 1, 3, none⟩ (.int .i64 0)).setCell ⟨w.heap.size + 1 + 1, 4, none⟩ (.slice none 0 0)).cell? ⟨w.heap.size + 1 + 1, 1, none⟩ = some (.int .u8 0) := Q2.cell (i := 1) (by omega)
  have u2 : ((((((((((w1.setCell ⟨w.heap.size + 1, 0, none⟩ (.int .i64 0)).setCell ⟨w.heap.size + 1, 1, none⟩ (.int .u8 0)).setCell ⟨w.heap.size + 1, 2, none⟩ (.slice none 0 0)).setCell ⟨w.heap.size + 1, 3, none⟩ (.int .i64 0)).setCell ⟨w.heap.size + 1, 4, none⟩ (.slice none 0 0)).setCell ⟨w.heap.size + 1 + 1, 0, none⟩ (.int .i64 0)).setCell ⟨w.heap.size + 1 + 1, 1, none⟩ (.int .u8 0)).setCell ⟨w.heap.size + 1 + 1, 2, none⟩ (.slice none 0 0)).setCell ⟨w.heap.size + 1 + 1, 3, none⟩ (.int .i64 0)).setCell ⟨w.heap.size + 1 + 1, 4, none⟩ (.slice none 0 0)).cell? ⟨w.heap.size + 1 + 1, 2, none⟩ = some (.slice none 0 0) := Q2.cell (i := 2) (by omega)
  have u3 : ((((((((((w1.setCell ⟨w.heap.size + 1, 0, none⟩ (.int .i64 0)).setCell ⟨w.heap.size + 1, 1, none⟩ (.int .u8 0)).setCell ⟨w.heap.size + 1, 2, none⟩ (.slice none 0 0)).setCell ⟨w.heap.size + 1, 3, none⟩ (.int .i64 0)).setCell ⟨w.heap.size + 1, 4, none⟩ (.slice none 0 0)).setCell ⟨w.heap.size + 1 + 1, 0, none⟩ (.int .i64 0)).setCell ⟨w.heap.size + 1 + 1, 1, none⟩ (.int .u8 0)).setCell ⟨w.heap.size + 1 + 1, 2, none⟩ (.slice none 0 0)).setCell ⟨w.heap.size + 1 + 1, 3, none⟩ (.int .i64 0)).setCell ⟨w.heap.size + 1 + 1, 4, none⟩ (.slice none 0 0)).cell? ⟨w.heap.size + 1 + 1, 3, none⟩ = some (.int .i64 0) := Q2.cell (i := 3) (by omega)
  have u4 : ((((((((((w1.setCell ⟨w.heap.size + 1, 0, none⟩ (.int .i64 0)).setCell ⟨w.heap.size + 1, 1, none⟩ (.int .u8 0)).setCell ⟨w.heap.size + 1, 2, none⟩ (.slice none 0 0)).setCell ⟨w.heap.size + 1, 3, none⟩ (.int .i64 0)).setCell ⟨w.heap.size + 1, 4, none⟩ (.slice none 0 0)).setCell ⟨w.heap.size + 1 + 1, 0, none⟩ (.int .i64 0)).setCell ⟨w.heap.size + 1 + 1, 1, none⟩ (.int .u8 0)).setCell ⟨w.heap.size + 1 + 1, 2, none⟩ (.slice none 0 0)).setCell ⟨w.heap.size + 1 + 1, 3, none⟩ (.int .i64 0)).setCell ⟨w.heap.size + 1 + 1, 4, none⟩ (.slice none 0 0)).cell? ⟨w.heap.size + 1 + 1, 4, none⟩ = some (.slice none 0 0) := Q2.cell (i := 4) (by omega)
  clear Q1 Q2
  have K4 := st5_kept (st5_kept K1.out (g := w.heap.size + 1) (by omega) (.int .i64 0) (.int .u8 0) (.slice none 0 0) (.int .i64 0) (.slice none 0 0)) (g := w.heap.size + 1 + 1) (by omega) (.int .i64 0) (.int .u8 0) (.slice none 0 0) (.int .i64 0) (.slice none 0 0)
  dsimp only [st5] at K4
  generalize ((((((((((w1.setCell ⟨w.heap.size + 1, 0, none⟩ (.int .i64 0)).setCell ⟨w.heap.size + 1, 1, none⟩ (.int .u8 0)).setCell ⟨w.heap.size + 1, 2, none⟩ (.slice none 0 0)).setCell ⟨w.heap.size + 1, 3, none⟩ (.int .i64 0)).setCell ⟨w.heap.size + 1, 4, none⟩ (.slice none 0 0)).setCell ⟨w.heap.size + 1 + 1, 0, none⟩ (.int .i64 0)).setCell ⟨w.heap.size + 1 + 1, 1, none⟩ (.int .u8 0)).setCell ⟨w.heap.size + 1 + 1, 2, none⟩ (.slice none 0 0)).setCell ⟨w.heap.size + 1 + 1, 3, none⟩ (.int .i64 0)).setCell ⟨w.heap.size + 1 + 1, 4, none⟩ (.slice none 0 0)) = w4 at *
  refine bodyPost_ret (v := .tuple #[slV 0 0 none 0 0 0 none 0 0, slV 0 0 none 0 0 0 none 0 0, .int .i64 E]) (by simp [results, Try.results21, go_sem, v0, v1, v2, v3, v4, u0, u1, u2, u3, u4]) rfl ⟨rfl, K4⟩

end Go.Proofs.Ytlabjamkaebnjaa
