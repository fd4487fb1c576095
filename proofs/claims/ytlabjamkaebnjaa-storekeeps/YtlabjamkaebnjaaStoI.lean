/-
  THE CONTRACT of store.Slot (made by a program).
-/
import Derived.Test.YtlabjamkaebnjaaStoG
namespace Go.Proofs.Ytlabjamkaebnjaa
open Go.RowKit Go.Lib Go.Deep
set_option linter.unusedVariables false
set_option linter.unusedSimpArgs false

/-- What Slot answers. -/
def SlqP (w : World) (L : List Nat) (i : Int) (e : Ending) (w' : World) : Prop := ∃ pa n c, e = .returned (.tuple #[kpV ((slK19 L i).gen : Int) (slK19 L i).mode pa n c, .int .i64 (slE19 L i)]) ∧ PlF w' w.heap.size pa n c (slK19 L i).plans ∧ Kept w w' none
theorem slq_no {w w' : World} {L : List Nat} {i E : Int} (hE : slE19 L i = E) (h0 : E ≠ 0) (hk : Kept w w' none) : SlqP w L i (.returned (.tuple #[kpV 0 0 none 0 0, .int .i64 E])) w' := by
  have e : slK19 L i = k00 := by unfold slK19; rw [hE, if_neg h0]
  exact ⟨none, 0, 0, by rw [e, hE]; rfl, by rw [e]; exact PlF.nil _ _, hk⟩
set_option maxRecDepth 100000 in
set_option maxHeartbeats 2000000 in
theorem slot_bad {a : Option Addr} {n c : Nat} {i : Int} {w : World} (hn : n ≤ 9223372036854775807) (h : askE n ≠ 0) : Calls Try.prog 13 #[dvV a n c, .int .i64 i] w fun e w' => e = .returned (.tuple #[kpV 0 0 none 0 0, .int .i64 (askE n)]) ∧ Kept w w' none := by
  have HS := Hid.mk' (fun w' => bslot_any a n c w' hn)
  have hmE : manE n = 0 := by unfold manE; rw [if_neg h]
  rw [hmE] at HS
  obtain ⟨E, hE⟩ : ∃ E, askE n = E := ⟨_, rfl⟩
  rw [hE] at HS h ⊢
  clear hE hmE
  obtain ⟨WA, hWA⟩ : ∃ WA, (w.alloc (.cells (dvC a n c) 24)).alloc (.cells #[.int .i64 0, .int .u8 0, .slice none 0 0] 35) = WA := ⟨_, rfl⟩
  have hkA0 : Kept w WA none := by rw [← hWA]; exact (Kept.alloc _ _ _ _ _).tr (Kept.alloc _ _ _ _ _)
  have hzA0 : WA.heap.size = w.heap.size + 2 := by rw [← hWA]; simp
  have RA : WA.rowIs (w.heap.size + 1) 35 3 (f3 (.int .i64 0) (.int .u8 0) (.slice none 0 0)) := by
    have h := row3 (w.alloc (.cells #[.slice a n c] 24)) (.int .i64 0) (.int .u8 0) (.slice none 0 0) 35
    rw [World.size_alloc] at h
    rw [← hWA]
    exact h
  have hd0 : WA.cell? ⟨w.heap.size, 0, none⟩ = some (.slice a n c) := by rw [← hWA]; exact (cell_kpt (Kept.alloc _ _ _ _ _) (by simp)).trans (World.cell?_alloc_mark ..)
  have HDA := Hid.mk' (And.intro hd0 (show w.heap.size < WA.heap.size by omega))
  clear hd0
  have HRA := Hid.mk' RA
  have HKA := Hid.mk' hkA0
  have HZA := Hid.mk' hzA0
  have HWA := Hid.mk' hWA
  clear RA hkA0 hzA0 hWA
  go_enter Try.func13, Try.ntmps13
  go_wp2_with (go_at_call 33; rw [HWA.out]; refine (HS.out _).mono ?_; rintro e w2 ⟨rfl, hk2⟩; have K2 := Hid.mk' (HKA.out.tr hk2); have dd := (cell_kpt hk2 HDA.out.2).trans HDA.out.1; have RB := Hid.mk' (rowK HRA.out hk2); have r0 : w2.cell? ⟨w.heap.size + 1, 0, none⟩ = some (.int .i64 0) := RB.out.cell (i := 0) (by omega); have x0 : w2.frozen? ⟨w.heap.size + 1, 0, none⟩ = false := RB.out.frozen 0; have r1 : w2.cell? ⟨w.heap.size + 1, 1, none⟩ = some (.int .u8 0) := RB.out.cell (i := 1) (by omega); have x1 : w2.frozen? ⟨w.heap.size + 1, 1, none⟩ = false := RB.out.frozen 1; have r2 : w2.cell? ⟨w.heap.size + 1, 2, none⟩ = some (.slice none 0 0) := RB.out.cell (i := 2) (by omega); have x2 : w2.frozen? ⟨w.heap.size + 1, 2, none⟩ = false := RB.out.frozen 2; clear hk2)
  have Q := row3_set RB.out (.int .i64 0) (.int .u8 0) (.slice none 0 0)
  have v0 : (((w2.setCell ⟨w.heap.size + 1, 0, none⟩ (.int .i64 0)).setCell ⟨w.heap.size + 1, 1, none⟩ (.int .u8 0)).setCell ⟨w.heap.size + 1, 2, none⟩ (.slice none 0 0)).cell? ⟨w.heap.size + 1, 0, none⟩ = some (.int .i64 0) := Q.cell (i := 0) (by omega)
  have v1 : (((w2.setCell ⟨w.heap.size + 1, 0, none⟩ (.int .i64 0)).setCell ⟨w.heap.size + 1, 1, none⟩ (.int .u8 0)).setCell ⟨w.heap.size + 1, 2, none⟩ (.slice none 0 0)).cell? ⟨w.heap.size + 1, 1, none⟩ = some (.int .u8 0) := Q.cell (i := 1) (by omega)
  have v2 : (((w2.setCell ⟨w.heap.size + 1, 0, none⟩ (.int .i64 0)).setCell ⟨w.heap.size + 1, 1, none⟩ (.int .u8 0)).setCell ⟨w.heap.size + 1, 2, none⟩ (.slice none 0 0)).cell? ⟨w.heap.size + 1, 2, none⟩ = some (.slice none 0 0) := Q.cell (i := 2) (by omega)
  have KF : Kept w (((w2.setCell ⟨w.heap.size + 1, 0, none⟩ (.int .i64 0)).setCell ⟨w.heap.size + 1, 1, none⟩ (.int .u8 0)).setCell ⟨w.heap.size + 1, 2, none⟩ (.slice none 0 0)) none := (((K2.out).setNew (p := ⟨w.heap.size + 1, 0, none⟩) (show w.heap.size ≤ w.heap.size + 1 by omega) _).setNew (p := ⟨w.heap.size + 1, 1, none⟩) (show w.heap.size ≤ w.heap.size + 1 by omega) _).setNew (p := ⟨w.heap.size + 1, 2, none⟩) (show w.heap.size ≤ w.heap.size + 1 by omega) _
  clear Q
  generalize (((w2.setCell ⟨w.heap.size + 1, 0, none⟩ (.int .i64 0)).setCell ⟨w.heap.size + 1, 1, none⟩ (.int .u8 0)).setCell ⟨w.heap.size + 1, 2, none⟩ (.slice none 0 0)) = wF at *
  refine bodyPost_ret (v := .tuple #[.agg #[(.int .i64 0), (.int .u8 0), (.slice none 0 0)], .int .i64 E]) (by simp [results, Try.results13, go_sem, v0, v1, v2]) rfl ⟨rfl, KF⟩
set_option maxRecDepth 100000 in
set_option maxHeartbeats 2000000 in
theorem slot_arg1 {a : Option Addr} {n c : Nat} {i : Int} {w : World} (hn : n ≤ 9223372036854775807) (h : askE n = 0) (h0 : i < 0) : Calls Try.prog 13 #[dvV a n c, .int .i64 i] w fun e w' => e = .returned (.tuple #[kpV 0 0 none 0 0, .int .i64 2]) ∧ Kept w w' none := by
  have HS := Hid.mk' (fun w' => bslot_any a n c w' hn)
  have hmE : manE n = (manK n : Int) := by unfold manE; rw [if_pos h]
  rw [hmE, h] at HS
  obtain ⟨many, hmy⟩ : ∃ many, manK n = many := ⟨_, rfl⟩
  rw [hmy] at HS
  clear hmE hmy h
  have h1 : ¬ i = 0 := by omega
  have h2 : ¬ i = 1 := by omega
  have hb : (i != 0 && i != 1) = true := by simp [h1, h2]
  obtain ⟨WA, hWA⟩ : ∃ WA, (w.alloc (.cells (dvC a n c) 24)).alloc (.cells #[.int .i64 0, .int .u8 0, .slice none 0 0] 35) = WA := ⟨_, rfl⟩
  have hkA0 : Kept w WA none := by rw [← hWA]; exact (Kept.alloc _ _ _ _ _).tr (Kept.alloc _ _ _ _ _)
  have hzA0 : WA.heap.size = w.heap.size + 2 := by rw [← hWA]; simp
  have RA : WA.rowIs (w.heap.size + 1) 35 3 (f3 (.int .i64 0) (.int .u8 0) (.slice none 0 0)) := by
    have h := row3 (w.alloc (.cells #[.slice a n c] 24)) (.int .i64 0) (.int .u8 0) (.slice none 0 0) 35
    rw [World.size_alloc] at h
    rw [← hWA]
    exact h
  have hd0 : WA.cell? ⟨w.heap.size, 0, none⟩ = some (.slice a n c) := by rw [← hWA]; exact (cell_kpt (Kept.alloc _ _ _ _ _) (by simp)).trans (World.cell?_alloc_mark ..)
  have HDA := Hid.mk' (And.intro hd0 (show w.heap.size < WA.heap.size by omega))
  clear hd0
  have HRA := Hid.mk' RA
  have HKA := Hid.mk' hkA0
  have HZA := Hid.mk' hzA0
  have HWA := Hid.mk' hWA
  clear RA hkA0 hzA0 hWA
  go_enter Try.func13, Try.ntmps13
  go_wp2_with (go_at_call 33; rw [HWA.out]; refine (HS.out _).mono ?_; rintro e w2 ⟨rfl, hk2⟩; have K2 := Hid.mk' (HKA.out.tr hk2); have dd := (cell_kpt hk2 HDA.out.2).trans HDA.out.1; have RB := Hid.mk' (rowK HRA.out hk2); have r0 : w2.cell? ⟨w.heap.size + 1, 0, none⟩ = some (.int .i64 0) := RB.out.cell (i := 0) (by omega); have x0 : w2.frozen? ⟨w.heap.size + 1, 0, none⟩ = false := RB.out.frozen 0; have r1 : w2.cell? ⟨w.heap.size + 1, 1, none⟩ = some (.int .u8 0) := RB.out.cell (i := 1) (by omega); have x1 : w2.frozen? ⟨w.heap.size + 1, 1, none⟩ = false := RB.out.frozen 1; have r2 : w2.cell? ⟨w.heap.size + 1, 2, none⟩ = some (.slice none 0 0) := RB.out.cell (i := 2) (by omega); have x2 : w2.frozen? ⟨w.heap.size + 1, 2, none⟩ = false := RB.out.frozen 2; clear hk2)
  have Q := row3_set RB.out (.int .i64 0) (.int .u8 0) (.slice none 0 0)
  have v0 : (((w2.setCell ⟨w.heap.size + 1, 0, none⟩ (.int .i64 0)).setCell ⟨w.heap.size + 1, 1, none⟩ (.int .u8 0)).setCell ⟨w.heap.size + 1, 2, none⟩ (.slice none 0 0)).cell? ⟨w.heap.size + 1, 0, none⟩ = some (.int .i64 0) := Q.cell (i := 0) (by omega)
  have v1 : (((w2.setCell ⟨w.heap.size + 1, 0, none⟩ (.int .i64 0)).setCell ⟨w.heap.size + 1, 1, none⟩ (.int .u8 0)).setCell ⟨w.heap.size + 1, 2, none⟩ (.slice none 0 0)).cell? ⟨w.heap.size + 1, 1, none⟩ = some (.int .u8 0) := Q.cell (i := 1) (by omega)
  have v2 : (((w2.setCell ⟨w.heap.size + 1, 0, none⟩ (.int .i64 0)).setCell ⟨w.heap.size + 1, 1, none⟩ (.int .u8 0)).setCell ⟨w.heap.size + 1, 2, none⟩ (.slice none 0 0)).cell? ⟨w.heap.size + 1, 2, none⟩ = some (.slice none 0 0) := Q.cell (i := 2) (by omega)
  have KF : Kept w (((w2.setCell ⟨w.heap.size + 1, 0, none⟩ (.int .i64 0)).setCell ⟨w.heap.size + 1, 1, none⟩ (.int .u8 0)).setCell ⟨w.heap.size + 1, 2, none⟩ (.slice none 0 0)) none := (((K2.out).setNew (p := ⟨w.heap.size + 1, 0, none⟩) (show w.heap.size ≤ w.heap.size + 1 by omega) _).setNew (p := ⟨w.heap.size + 1, 1, none⟩) (show w.heap.size ≤ w.heap.size + 1 by omega) _).setNew (p := ⟨w.heap.size + 1, 2, none⟩) (show w.heap.size ≤ w.heap.size + 1 by omega) _
  clear Q
  generalize (((w2.setCell ⟨w.heap.size + 1, 0, none⟩ (.int .i64 0)).setCell ⟨w.heap.size + 1, 1, none⟩ (.int .u8 0)).setCell ⟨w.heap.size + 1, 2, none⟩ (.slice none 0 0)) = wF at *
  refine bodyPost_ret (v := .tuple #[.agg #[(.int .i64 0), (.int .u8 0), (.slice none 0 0)], .int .i64 2]) (by simp [results, Try.results13, go_sem, v0, v1, v2]) rfl ⟨rfl, KF⟩
set_option maxRecDepth 100000 in
set_option maxHeartbeats 2000000 in
theorem slot_arg2 {a : Option Addr} {n c : Nat} {i : Int} {w : World} (hn : n ≤ 9223372036854775807) (h : askE n = 0) (h0 : 1 < i) : Calls Try.prog 13 #[dvV a n c, .int .i64 i] w fun e w' => e = .returned (.tuple #[kpV 0 0 none 0 0, .int .i64 2]) ∧ Kept w w' none := by
  have HS := Hid.mk' (fun w' => bslot_any a n c w' hn)
  have hmE : manE n = (manK n : Int) := by unfold manE; rw [if_pos h]
  rw [hmE, h] at HS
  obtain ⟨many, hmy⟩ : ∃ many, manK n = many := ⟨_, rfl⟩
  rw [hmy] at HS
  clear hmE hmy h
  have h1 : ¬ i = 0 := by omega
  have h2 : ¬ i = 1 := by omega
  have hb : (i != 0 && i != 1) = true := by simp [h1, h2]
  obtain ⟨WA, hWA⟩ : ∃ WA, (w.alloc (.cells (dvC a n c) 24)).alloc (.cells #[.int .i64 0, .int .u8 0, .slice none 0 0] 35) = WA := ⟨_, rfl⟩
  have hkA0 : Kept w WA none := by rw [← hWA]; exact (Kept.alloc _ _ _ _ _).tr (Kept.alloc _ _ _ _ _)
  have hzA0 : WA.heap.size = w.heap.size + 2 := by rw [← hWA]; simp
  have RA : WA.rowIs (w.heap.size + 1) 35 3 (f3 (.int .i64 0) (.int .u8 0) (.slice none 0 0)) := by
    have h := row3 (w.alloc (.cells #[.slice a n c] 24)) (.int .i64 0) (.int .u8 0) (.slice none 0 0) 35
    rw [World.size_alloc] at h
    rw [← hWA]
    exact h
  have hd0 : WA.cell? ⟨w.heap.size, 0, none⟩ = some (.slice a n c) := by rw [← hWA]; exact (cell_kpt (Kept.alloc _ _ _ _ _) (by simp)).trans (World.cell?_alloc_mark ..)
  have HDA := Hid.mk' (And.intro hd0 (show w.heap.size < WA.heap.size by omega))
  clear hd0
  have HRA := Hid.mk' RA
  have HKA := Hid.mk' hkA0
  have HZA := Hid.mk' hzA0
  have HWA := Hid.mk' hWA
  clear RA hkA0 hzA0 hWA
  go_enter Try.func13, Try.ntmps13
  go_wp2_with (go_at_call 33; rw [HWA.out]; refine (HS.out _).mono ?_; rintro e w2 ⟨rfl, hk2⟩; have K2 := Hid.mk' (HKA.out.tr hk2); have dd := (cell_kpt hk2 HDA.out.2).trans HDA.out.1; have RB := Hid.mk' (rowK HRA.out hk2); have r0 : w2.cell? ⟨w.heap.size + 1, 0, none⟩ = some (.int .i64 0) := RB.out.cell (i := 0) (by omega); have x0 : w2.frozen? ⟨w.heap.size + 1, 0, none⟩ = false := RB.out.frozen 0; have r1 : w2.cell? ⟨w.heap.size + 1, 1, none⟩ = some (.int .u8 0) := RB.out.cell (i := 1) (by omega); have x1 : w2.frozen? ⟨w.heap.size + 1, 1, none⟩ = false := RB.out.frozen 1; have r2 : w2.cell? ⟨w.heap.size + 1, 2, none⟩ = some (.slice none 0 0) := RB.out.cell (i := 2) (by omega); have x2 : w2.frozen? ⟨w.heap.size + 1, 2, none⟩ = false := RB.out.frozen 2; clear hk2)
  have Q := row3_set RB.out (.int .i64 0) (.int .u8 0) (.slice none 0 0)
  have v0 : (((w2.setCell ⟨w.heap.size + 1, 0, none⟩ (.int .i64 0)).setCell ⟨w.heap.size + 1, 1, none⟩ (.int .u8 0)).setCell ⟨w.heap.size + 1, 2, none⟩ (.slice none 0 0)).cell? ⟨w.heap.size + 1, 0, none⟩ = some (.int .i64 0) := Q.cell (i := 0) (by omega)
  have v1 : (((w2.setCell ⟨w.heap.size + 1, 0, none⟩ (.int .i64 0)).setCell ⟨w.heap.size + 1, 1, none⟩ (.int .u8 0)).setCell ⟨w.heap.size + 1, 2, none⟩ (.slice none 0 0)).cell? ⟨w.heap.size + 1, 1, none⟩ = some (.int .u8 0) := Q.cell (i := 1) (by omega)
  have v2 : (((w2.setCell ⟨w.heap.size + 1, 0, none⟩ (.int .i64 0)).setCell ⟨w.heap.size + 1, 1, none⟩ (.int .u8 0)).setCell ⟨w.heap.size + 1, 2, none⟩ (.slice none 0 0)).cell? ⟨w.heap.size + 1, 2, none⟩ = some (.slice none 0 0) := Q.cell (i := 2) (by omega)
  have KF : Kept w (((w2.setCell ⟨w.heap.size + 1, 0, none⟩ (.int .i64 0)).setCell ⟨w.heap.size + 1, 1, none⟩ (.int .u8 0)).setCell ⟨w.heap.size + 1, 2, none⟩ (.slice none 0 0)) none := (((K2.out).setNew (p := ⟨w.heap.size + 1, 0, none⟩) (show w.heap.size ≤ w.heap.size + 1 by omega) _).setNew (p := ⟨w.heap.size + 1, 1, none⟩) (show w.heap.size ≤ w.heap.size + 1 by omega) _).setNew (p := ⟨w.heap.size + 1, 2, none⟩) (show w.heap.size ≤ w.heap.size + 1 by omega) _
  clear Q
  generalize (((w2.setCell ⟨w.heap.size + 1, 0, none⟩ (.int .i64 0)).setCell ⟨w.heap.size + 1, 1, none⟩ (.int .u8 0)).setCell ⟨w.heap.size + 1, 2, none⟩ (.slice none 0 0)) = wF at *
  refine bodyPost_ret (v := .tuple #[.agg #[(.int .i64 0), (.int .u8 0), (.slice none 0 0)], .int .i64 2]) (by simp [results, Try.results13, go_sem, v0, v1, v2]) rfl ⟨rfl, KF⟩
set_option maxRecDepth 100000 in
set_option maxHeartbeats 2000000 in
theorem slot_ok0 {a : Option Addr} {n c : Nat} {L : List Nat} {w : World} (hC : Come w a n c L) (h : askE n = 0) : Calls Try.prog 13 #[dvV a n c, .int .i64 0] w (SlqP w L 0) := by
  have hs := hC.by_.size
  have HS := Hid.mk' (fun w' => bslot_any a n c w' hC.by_.max)
  have hmE : manE n = (manK n : Int) := by unfold manE; rw [if_pos h]
  rw [hmE, h] at HS
  have HC := Hid.mk' (fun w' (hk : Kept w w' none) => slotOf0_any (hC.kpt hk) h)
  unfold SloP at HC
  have hl : (sltB L 0).length = manK n := by rw [sl_len, hs]
  rw [hl] at HC
  have hE0 : slE19 L 0 = if kepB (sltB L 0) = true then 0 else 8 := by
    unfold slE19
    rw [hs, if_pos h, if_pos (by decide)]
    rfl
  have hK0 : slE19 L 0 = 0 → slK19 L 0 = kepK (sltB L 0) := fun hq => by unfold slK19; rw [if_pos hq]; rfl
  have hkg := kep_gen (B := sltB L 0)
  obtain ⟨many, hmy⟩ : ∃ many, manK n = many := ⟨_, rfl⟩
  rw [hmy] at HS HC
  obtain ⟨g, hg⟩ : ∃ g : Int, ((kepK (sltB L 0)).gen : Int) = g := ⟨_, rfl⟩
  obtain ⟨md, hmd⟩ : ∃ md, (kepK (sltB L 0)).mode = md := ⟨_, rfl⟩
  rw [hg, hmd] at HC
  have hkg2 : kepB (sltB L 0) = decide (0 < g) := by rw [hkg, ← hg]; simp
  rw [hkg2] at hE0
  have HGM := Hid.mk' (And.intro hg hmd)
  have HE0 := Hid.mk' hE0
  have HK0 := Hid.mk' hK0
  clear hC hs hmE hl hE0 hK0 hkg hkg2 hmy hg hmd h
  obtain ⟨WA, hWA⟩ : ∃ WA, (w.alloc (.cells (dvC a n c) 24)).alloc (.cells #[.int .i64 0, .int .u8 0, .slice none 0 0] 35) = WA := ⟨_, rfl⟩
  have hkA0 : Kept w WA none := by rw [← hWA]; exact (Kept.alloc _ _ _ _ _).tr (Kept.alloc _ _ _ _ _)
  have hzA0 : WA.heap.size = w.heap.size + 2 := by rw [← hWA]; simp
  have RA : WA.rowIs (w.heap.size + 1) 35 3 (f3 (.int .i64 0) (.int .u8 0) (.slice none 0 0)) := by
    have h := row3 (w.alloc (.cells #[.slice a n c] 24)) (.int .i64 0) (.int .u8 0) (.slice none 0 0) 35
    rw [World.size_alloc] at h
    rw [← hWA]
    exact h
  have hd0 : WA.cell? ⟨w.heap.size, 0, none⟩ = some (.slice a n c) := by rw [← hWA]; exact (cell_kpt (Kept.alloc _ _ _ _ _) (by simp)).trans (World.cell?_alloc_mark ..)
  have HDA := Hid.mk' (And.intro hd0 (show w.heap.size < WA.heap.size by omega))
  clear hd0
  have HRA := Hid.mk' RA
  have HKA := Hid.mk' hkA0
  have HZA := Hid.mk' hzA0
  have HWA := Hid.mk' hWA
  clear RA hkA0 hzA0 hWA
  by_cases hpos : 0 < g
  · have HGD : Hid (decide (0 < g) = true) := Hid.mk' (decide_eq_true hpos)
    have HE : Hid (slE19 L 0 = 0) := Hid.mk' (by rw [HE0.out, HGD.out, if_pos rfl])
    clear hpos
    go_enter Try.func13, Try.ntmps13
    go_wp2_with (first
      | (have hgo := TR; clear hgo; go_at_call 22; refine (holds_any _ _ _ _ _ _ _ _ _ _).mono ?_; rw [HGD.out]; rintro e w4 ⟨rfl, hk4⟩; have K4 := Hid.mk' ((K3.out.tr KV.out).tr hk4); have TR4 := Hid.mk' (rowK TR.out hk4); have RB4 := Hid.mk' (rowK RC.out hk4); have P4 := Hid.mk' (P3.out.kept (KV.out.tr hk4)); clear TR; have tt0 : w4.cell? ⟨w3.heap.size, 0, none⟩ = some (.int .i64 g) := TR4.out.cell (i := 0) (by omega); have tt1 : w4.cell? ⟨w3.heap.size, 1, none⟩ = some (.int .u8 (md : Int)) := TR4.out.cell (i := 1) (by omega); have tt2 : w4.cell? ⟨w3.heap.size, 2, none⟩ = some (.slice pa pn pc) := TR4.out.cell (i := 2) (by omega); have tt3 : w4.cell? ⟨w3.heap.size, 3, none⟩ = some (.int .i64 0) := TR4.out.cell (i := 3) (by omega); have tt4 : w4.cell? ⟨w3.heap.size, 4, none⟩ = some (.slice ba many bc) := TR4.out.cell (i := 4) (by omega); have rr0 : w4.cell? ⟨w.heap.size + 1, 0, none⟩ = some (.int .i64 0) := RB4.out.cell (i := 0) (by omega); have xx0 : w4.frozen? ⟨w.heap.size + 1, 0, none⟩ = false := RB4.out.frozen 0; have rr1 : w4.cell? ⟨w.heap.size + 1, 1, none⟩ = some (.int .u8 0) := RB4.out.cell (i := 1) (by omega); have xx1 : w4.frozen? ⟨w.heap.size + 1, 1, none⟩ = false := RB4.out.frozen 1; have rr2 : w4.cell? ⟨w.heap.size + 1, 2, none⟩ = some (.slice none 0 0) := RB4.out.cell (i := 2) (by omega); have xx2 : w4.frozen? ⟨w.heap.size + 1, 2, none⟩ = false := RB4.out.frozen 2; clear hk4)
      | (have hgo := RB; clear hgo; go_at_call 34; refine (HC.out _ K2.out).mono ?_; rintro e w3 ⟨pa, pn, pc, ba, bc, rfl, hp3, hb3, hk3⟩; have P3 := Hid.mk' hp3; have hz2 := K2.out.size; have hz3 := hk3.size; have n1 : ¬ w.heap.size + 1 = w3.heap.size := (by have h7 := RB.out.lt; omega); have n2 : ¬ w3.heap.size = w.heap.size + 1 := (by have h7 := RB.out.lt; omega); have K3 := Hid.mk' (K2.out.tr hk3); have KV : Hid (Kept w3 (w3.alloc (.cells #[(.int .i64 g), (.int .u8 (md : Int)), (.slice pa pn pc), (.int .i64 0), (.slice ba many bc)] 66)) none) := Hid.mk' (Kept.alloc _ _ _ _ _); have TR := Hid.mk' (row5 w3 (.int .i64 g) (.int .u8 (md : Int)) (.slice pa pn pc) (.int .i64 0) (.slice ba many bc) 66); have RC := Hid.mk' (rowK (rowK RB.out hk3) KV.out); have LT := Hid.mk' RB.out.lt; have t0 : (w3.alloc (.cells #[(.int .i64 g), (.int .u8 (md : Int)), (.slice pa pn pc), (.int .i64 0), (.slice ba many bc)] 66)).cell? ⟨w3.heap.size, 0, none⟩ = some (.int .i64 g) := TR.out.cell (i := 0) (by omega); have t1 : (w3.alloc (.cells #[(.int .i64 g), (.int .u8 (md : Int)), (.slice pa pn pc), (.int .i64 0), (.slice ba many bc)] 66)).cell? ⟨w3.heap.size, 1, none⟩ = some (.int .u8 (md : Int)) := TR.out.cell (i := 1) (by omega); have t2 : (w3.alloc (.cells #[(.int .i64 g), (.int .u8 (md : Int)), (.slice pa pn pc), (.int .i64 0), (.slice ba many bc)] 66)).cell? ⟨w3.heap.size, 2, none⟩ = some (.slice pa pn pc) := TR.out.cell (i := 2) (by omega); have t3 : (w3.alloc (.cells #[(.int .i64 g), (.int .u8 (md : Int)), (.slice pa pn pc), (.int .i64 0), (.slice ba many bc)] 66)).cell? ⟨w3.heap.size, 3, none⟩ = some (.int .i64 0) := TR.out.cell (i := 3) (by omega); have t4 : (w3.alloc (.cells #[(.int .i64 g), (.int .u8 (md : Int)), (.slice pa pn pc), (.int .i64 0), (.slice ba many bc)] 66)).cell? ⟨w3.heap.size, 4, none⟩ = some (.slice ba many bc) := TR.out.cell (i := 4) (by omega); have u0 : (w3.alloc (.cells #[(.int .i64 g), (.int .u8 (md : Int)), (.slice pa pn pc), (.int .i64 0), (.slice ba many bc)] 66)).cell? ⟨w.heap.size + 1, 0, none⟩ = some (.int .i64 0) := RC.out.cell (i := 0) (by omega); have z0 : (w3.alloc (.cells #[(.int .i64 g), (.int .u8 (md : Int)), (.slice pa pn pc), (.int .i64 0), (.slice ba many bc)] 66)).frozen? ⟨w.heap.size + 1, 0, none⟩ = false := RC.out.frozen 0; have u1 : (w3.alloc (.cells #[(.int .i64 g), (.int .u8 (md : Int)), (.slice pa pn pc), (.int .i64 0), (.slice ba many bc)] 66)).cell? ⟨w.heap.size + 1, 1, none⟩ = some (.int .u8 0) := RC.out.cell (i := 1) (by omega); have z1 : (w3.alloc (.cells #[(.int .i64 g), (.int .u8 (md : Int)), (.slice pa pn pc), (.int .i64 0), (.slice ba many bc)] 66)).frozen? ⟨w.heap.size + 1, 1, none⟩ = false := RC.out.frozen 1; have u2 : (w3.alloc (.cells #[(.int .i64 g), (.int .u8 (md : Int)), (.slice pa pn pc), (.int .i64 0), (.slice ba many bc)] 66)).cell? ⟨w.heap.size + 1, 2, none⟩ = some (.slice none 0 0) := RC.out.cell (i := 2) (by omega); have z2 : (w3.alloc (.cells #[(.int .i64 g), (.int .u8 (md : Int)), (.slice pa pn pc), (.int .i64 0), (.slice ba many bc)] 66)).frozen? ⟨w.heap.size + 1, 2, none⟩ = false := RC.out.frozen 2; clear hp3 hb3 hk3 hz2 hz3 RB)
      | (go_at_call 33; rw [HWA.out]; refine (HS.out _).mono ?_; rintro e w2 ⟨rfl, hk2⟩; have K2 := Hid.mk' (HKA.out.tr hk2); have dd := (cell_kpt hk2 HDA.out.2).trans HDA.out.1; have RB := Hid.mk' (rowK HRA.out hk2); have r0 : w2.cell? ⟨w.heap.size + 1, 0, none⟩ = some (.int .i64 0) := RB.out.cell (i := 0) (by omega); have x0 : w2.frozen? ⟨w.heap.size + 1, 0, none⟩ = false := RB.out.frozen 0; have r1 : w2.cell? ⟨w.heap.size + 1, 1, none⟩ = some (.int .u8 0) := RB.out.cell (i := 1) (by omega); have x1 : w2.frozen? ⟨w.heap.size + 1, 1, none⟩ = false := RB.out.frozen 1; have r2 : w2.cell? ⟨w.heap.size + 1, 2, none⟩ = some (.slice none 0 0) := RB.out.cell (i := 2) (by omega); have x2 : w2.frozen? ⟨w.heap.size + 1, 2, none⟩ = false := RB.out.frozen 2; clear hk2))
    have Q := row3_set RB4.out (.int .i64 g) (.int .u8 (md : Int)) (.slice pa pn pc)
    have v0 : (((w4.setCell ⟨w.heap.size + 1, 0, none⟩ (.int .i64 g)).setCell ⟨w.heap.size + 1, 1, none⟩ (.int .u8 (md : Int))).setCell ⟨w.heap.size + 1, 2, none⟩ (.slice pa pn pc)).cell? ⟨w.heap.size + 1, 0, none⟩ = some (.int .i64 g) := Q.cell (i := 0) (by omega)
    have v1 : (((w4.setCell ⟨w.heap.size + 1, 0, none⟩ (.int .i64 g)).setCell ⟨w.heap.size + 1, 1, none⟩ (.int .u8 (md : Int))).setCell ⟨w.heap.size + 1, 2, none⟩ (.slice pa pn pc)).cell? ⟨w.heap.size + 1, 1, none⟩ = some (.int .u8 (md : Int)) := Q.cell (i := 1) (by omega)
    have v2 : (((w4.setCell ⟨w.heap.size + 1, 0, none⟩ (.int .i64 g)).setCell ⟨w.heap.size + 1, 1, none⟩ (.int .u8 (md : Int))).setCell ⟨w.heap.size + 1, 2, none⟩ (.slice pa pn pc)).cell? ⟨w.heap.size + 1, 2, none⟩ = some (.slice pa pn pc) := Q.cell (i := 2) (by omega)
    have KF : Kept w (((w4.setCell ⟨w.heap.size + 1, 0, none⟩ (.int .i64 g)).setCell ⟨w.heap.size + 1, 1, none⟩ (.int .u8 (md : Int))).setCell ⟨w.heap.size + 1, 2, none⟩ (.slice pa pn pc)) none := (((K4.out).setNew (p := ⟨w.heap.size + 1, 0, none⟩) (show w.heap.size ≤ w.heap.size + 1 by omega) _).setNew (p := ⟨w.heap.size + 1, 1, none⟩) (show w.heap.size ≤ w.heap.size + 1 by omega) _).setNew (p := ⟨w.heap.size + 1, 2, none⟩) (show w.heap.size ≤ w.heap.size + 1 by omega) _
    have PF := Hid.mk' (((P4.out.set (x := w.heap.size + 1) LT.out 0 (.int .i64 g)).set (x := w.heap.size + 1) LT.out 1 (.int .u8 (md : Int))).set (x := w.heap.size + 1) LT.out 2 (.slice pa pn pc))
    clear Q
    generalize (((w4.setCell ⟨w.heap.size + 1, 0, none⟩ (.int .i64 g)).setCell ⟨w.heap.size + 1, 1, none⟩ (.int .u8 (md : Int))).setCell ⟨w.heap.size + 1, 2, none⟩ (.slice pa pn pc)) = wF at *
    refine bodyPost_ret (v := .tuple #[.agg #[(.int .i64 g), (.int .u8 (md : Int)), (.slice pa pn pc)], .int .i64 0]) (by simp [results, Try.results13, go_sem, v0, v1, v2]) rfl ⟨pa, pn, pc, ?_, ?_, KF⟩
    · rw [HK0.out HE.out, HE.out, HGM.out.1, HGM.out.2]
    · rw [HK0.out HE.out]
      exact PF.out.mono (by have := LT.out; omega)
  · have HGD : Hid (decide (0 < g) = false) := Hid.mk' (decide_eq_false hpos)
    have HE : Hid (slE19 L 0 = 8) := Hid.mk' (by rw [HE0.out, HGD.out, if_neg (by decide)])
    clear hpos
    go_enter Try.func13, Try.ntmps13
    go_wp2_with (first
      | (have hgo := TR; clear hgo; go_at_call 22; refine (holds_any _ _ _ _ _ _ _ _ _ _).mono ?_; rw [HGD.out]; rintro e w4 ⟨rfl, hk4⟩; have K4 := Hid.mk' ((K3.out.tr KV.out).tr hk4); have TR4 := Hid.mk' (rowK TR.out hk4); have RB4 := Hid.mk' (rowK RC.out hk4); have P4 := Hid.mk' (P3.out.kept (KV.out.tr hk4)); clear TR; have tt0 : w4.cell? ⟨w3.heap.size, 0, none⟩ = some (.int .i64 g) := TR4.out.cell (i := 0) (by omega); have tt1 : w4.cell? ⟨w3.heap.size, 1, none⟩ = some (.int .u8 (md : Int)) := TR4.out.cell (i := 1) (by omega); have tt2 : w4.cell? ⟨w3.heap.size, 2, none⟩ = some (.slice pa pn pc) := TR4.out.cell (i := 2) (by omega); have tt3 : w4.cell? ⟨w3.heap.size, 3, none⟩ = some (.int .i64 0) := TR4.out.cell (i := 3) (by omega); have tt4 : w4.cell? ⟨w3.heap.size, 4, none⟩ = some (.slice ba many bc) := TR4.out.cell (i := 4) (by omega); have rr0 : w4.cell? ⟨w.heap.size + 1, 0, none⟩ = some (.int .i64 0) := RB4.out.cell (i := 0) (by omega); have xx0 : w4.frozen? ⟨w.heap.size + 1, 0, none⟩ = false := RB4.out.frozen 0; have rr1 : w4.cell? ⟨w.heap.size + 1, 1, none⟩ = some (.int .u8 0) := RB4.out.cell (i := 1) (by omega); have xx1 : w4.frozen? ⟨w.heap.size + 1, 1, none⟩ = false := RB4.out.frozen 1; have rr2 : w4.cell? ⟨w.heap.size + 1, 2, none⟩ = some (.slice none 0 0) := RB4.out.cell (i := 2) (by omega); have xx2 : w4.frozen? ⟨w.heap.size + 1, 2, none⟩ = false := RB4.out.frozen 2; clear hk4)
      | (have hgo := RB; clear hgo; go_at_call 34; refine (HC.out _ K2.out).mono ?_; rintro e w3 ⟨pa, pn, pc, ba, bc, rfl, hp3, hb3, hk3⟩; have P3 := Hid.mk' hp3; have hz2 := K2.out.size; have hz3 := hk3.size; have n1 : ¬ w.heap.size + 1 = w3.heap.size := (by have h7 := RB.out.lt; omega); have n2 : ¬ w3.heap.size = w.heap.size + 1 := (by have h7 := RB.out.lt; omega); have K3 := Hid.mk' (K2.out.tr hk3); have KV : Hid (Kept w3 (w3.alloc (.cells #[(.int .i64 g), (.int .u8 (md : Int)), (.slice pa pn pc), (.int .i64 0), (.slice ba many bc)] 66)) none) := Hid.mk' (Kept.alloc _ _ _ _ _); have TR := Hid.mk' (row5 w3 (.int .i64 g) (.int .u8 (md : Int)) (.slice pa pn pc) (.int .i64 0) (.slice ba many bc) 66); have RC := Hid.mk' (rowK (rowK RB.out hk3) KV.out); have LT := Hid.mk' RB.out.lt; have t0 : (w3.alloc (.cells #[(.int .i64 g), (.int .u8 (md : Int)), (.slice pa pn pc), (.int .i64 0), (.slice ba many bc)] 66)).cell? ⟨w3.heap.size, 0, none⟩ = some (.int .i64 g) := TR.out.cell (i := 0) (by omega); have t1 : (w3.alloc (.cells #[(.int .i64 g), (.int .u8 (md : Int)), (.slice pa pn pc), (.int .i64 0), (.slice ba many bc)] 66)).cell? ⟨w3.heap.size, 1, none⟩ = some (.int .u8 (md : Int)) := TR.out.cell (i := 1) (by omega); have t2 : (w3.alloc (.cells #[(.int .i64 g), (.int .u8 (md : Int)), (.slice pa pn pc), (.int .i64 0), (.slice ba many bc)] 66)).cell? ⟨w3.heap.size, 2, none⟩ = some (.slice pa pn pc) := TR.out.cell (i := 2) (by omega); have t3 : (w3.alloc (.cells #[(.int .i64 g), (.int .u8 (md : Int)), (.slice pa pn pc), (.int .i64 0), (.slice ba many bc)] 66)).cell? ⟨w3.heap.size, 3, none⟩ = some (.int .i64 0) := TR.out.cell (i := 3) (by omega); have t4 : (w3.alloc (.cells #[(.int .i64 g), (.int .u8 (md : Int)), (.slice pa pn pc), (.int .i64 0), (.slice ba many bc)] 66)).cell? ⟨w3.heap.size, 4, none⟩ = some (.slice ba many bc) := TR.out.cell (i := 4) (by omega); have u0 : (w3.alloc (.cells #[(.int .i64 g), (.int .u8 (md : Int)), (.slice pa pn pc), (.int .i64 0), (.slice ba many bc)] 66)).cell? ⟨w.heap.size + 1, 0, none⟩ = some (.int .i64 0) := RC.out.cell (i := 0) (by omega); have z0 : (w3.alloc (.cells #[(.int .i64 g), (.int .u8 (md : Int)), (.slice pa pn pc), (.int .i64 0), (.slice ba many bc)] 66)).frozen? ⟨w.heap.size + 1, 0, none⟩ = false := RC.out.frozen 0; have u1 : (w3.alloc (.cells #[(.int .i64 g), (.int .u8 (md : Int)), (.slice pa pn pc), (.int .i64 0), (.slice ba many bc)] 66)).cell? ⟨w.heap.size + 1, 1, none⟩ = some (.int .u8 0) := RC.out.cell (i := 1) (by omega); have z1 : (w3.alloc (.cells #[(.int .i64 g), (.int .u8 (md : Int)), (.slice pa pn pc), (.int .i64 0), (.slice ba many bc)] 66)).frozen? ⟨w.heap.size + 1, 1, none⟩ = false := RC.out.frozen 1; have u2 : (w3.alloc (.cells #[(.int .i64 g), (.int .u8 (md : Int)), (.slice pa pn pc), (.int .i64 0), (.slice ba many bc)] 66)).cell? ⟨w.heap.size + 1, 2, none⟩ = some (.slice none 0 0) := RC.out.cell (i := 2) (by omega); have z2 : (w3.alloc (.cells #[(.int .i64 g), (.int .u8 (md : Int)), (.slice pa pn pc), (.int .i64 0), (.slice ba many bc)] 66)).frozen? ⟨w.heap.size + 1, 2, none⟩ = false := RC.out.frozen 2; clear hp3 hb3 hk3 hz2 hz3 RB)
      | (go_at_call 33; rw [HWA.out]; refine (HS.out _).mono ?_; rintro e w2 ⟨rfl, hk2⟩; have K2 := Hid.mk' (HKA.out.tr hk2); have dd := (cell_kpt hk2 HDA.out.2).trans HDA.out.1; have RB := Hid.mk' (rowK HRA.out hk2); have r0 : w2.cell? ⟨w.heap.size + 1, 0, none⟩ = some (.int .i64 0) := RB.out.cell (i := 0) (by omega); have x0 : w2.frozen? ⟨w.heap.size + 1, 0, none⟩ = false := RB.out.frozen 0; have r1 : w2.cell? ⟨w.heap.size + 1, 1, none⟩ = some (.int .u8 0) := RB.out.cell (i := 1) (by omega); have x1 : w2.frozen? ⟨w.heap.size + 1, 1, none⟩ = false := RB.out.frozen 1; have r2 : w2.cell? ⟨w.heap.size + 1, 2, none⟩ = some (.slice none 0 0) := RB.out.cell (i := 2) (by omega); have x2 : w2.frozen? ⟨w.heap.size + 1, 2, none⟩ = false := RB.out.frozen 2; clear hk2))
    have Q := row3_set RB4.out (.int .i64 0) (.int .u8 0) (.slice none 0 0)
    have v0 : (((w4.setCell ⟨w.heap.size + 1, 0, none⟩ (.int .i64 0)).setCell ⟨w.heap.size + 1, 1, none⟩ (.int .u8 0)).setCell ⟨w.heap.size + 1, 2, none⟩ (.slice none 0 0)).cell? ⟨w.heap.size + 1, 0, none⟩ = some (.int .i64 0) := Q.cell (i := 0) (by omega)
    have v1 : (((w4.setCell ⟨w.heap.size + 1, 0, none⟩ (.int .i64 0)).setCell ⟨w.heap.size + 1, 1, none⟩ (.int .u8 0)).setCell ⟨w.heap.size + 1, 2, none⟩ (.slice none 0 0)).cell? ⟨w.heap.size + 1, 1, none⟩ = some (.int .u8 0) := Q.cell (i := 1) (by omega)
    have v2 : (((w4.setCell ⟨w.heap.size + 1, 0, none⟩ (.int .i64 0)).setCell ⟨w.heap.size + 1, 1, none⟩ (.int .u8 0)).setCell ⟨w.heap.size + 1, 2, none⟩ (.slice none 0 0)).cell? ⟨w.heap.size + 1, 2, none⟩ = some (.slice none 0 0) := Q.cell (i := 2) (by omega)
    have KF : Kept w (((w4.setCell ⟨w.heap.size + 1, 0, none⟩ (.int .i64 0)).setCell ⟨w.heap.size + 1, 1, none⟩ (.int .u8 0)).setCell ⟨w.heap.size + 1, 2, none⟩ (.slice none 0 0)) none := (((K4.out).setNew (p := ⟨w.heap.size + 1, 0, none⟩) (show w.heap.size ≤ w.heap.size + 1 by omega) _).setNew (p := ⟨w.heap.size + 1, 1, none⟩) (show w.heap.size ≤ w.heap.size + 1 by omega) _).setNew (p := ⟨w.heap.size + 1, 2, none⟩) (show w.heap.size ≤ w.heap.size + 1 by omega) _
    clear Q
    generalize (((w4.setCell ⟨w.heap.size + 1, 0, none⟩ (.int .i64 0)).setCell ⟨w.heap.size + 1, 1, none⟩ (.int .u8 0)).setCell ⟨w.heap.size + 1, 2, none⟩ (.slice none 0 0)) = wF at *
    refine bodyPost_ret (v := .tuple #[.agg #[(.int .i64 0), (.int .u8 0), (.slice none 0 0)], .int .i64 8]) (by simp [results, Try.results13, go_sem, v0, v1, v2]) rfl (slq_no HE.out (by decide) KF)
set_option maxRecDepth 100000 in
set_option maxHeartbeats 2000000 in
theorem slot_ok1 {a : Option Addr} {n c : Nat} {L : List Nat} {w : World} (hC : Come w a n c L) (h : askE n = 0) : Calls Try.prog 13 #[dvV a n c, .int .i64 1] w (SlqP w L 1) := by
  have hs := hC.by_.size
  have HS := Hid.mk' (fun w' => bslot_any a n c w' hC.by_.max)
  have hmE : manE n = (manK n : Int) := by unfold manE; rw [if_pos h]
  rw [hmE, h] at HS
  have HC := Hid.mk' (fun w' (hk : Kept w w' none) => slotOf1_any (hC.kpt hk) h)
  unfold SloP at HC
  have hl : (sltB L 1).length = manK n := by rw [sl_len, hs]
  rw [hl] at HC
  have hE0 : slE19 L 1 = if kepB (sltB L 1) = true then 0 else 8 := by
    unfold slE19
    rw [hs, if_pos h, if_pos (by decide)]
    rfl
  have hK0 : slE19 L 1 = 0 → slK19 L 1 = kepK (sltB L 1) := fun hq => by unfold slK19; rw [if_pos hq]; rfl
  have hkg := kep_gen (B := sltB L 1)
  obtain ⟨many, hmy⟩ : ∃ many, manK n = many := ⟨_, rfl⟩
  rw [hmy] at HS HC
  obtain ⟨g, hg⟩ : ∃ g : Int, ((kepK (sltB L 1)).gen : Int) = g := ⟨_, rfl⟩
  obtain ⟨md, hmd⟩ : ∃ md, (kepK (sltB L 1)).mode = md := ⟨_, rfl⟩
  rw [hg, hmd] at HC
  have hkg2 : kepB (sltB L 1) = decide (0 < g) := by rw [hkg, ← hg]; simp
  rw [hkg2] at hE0
  have HGM := Hid.mk' (And.intro hg hmd)
  have HE0 := Hid.mk' hE0
  have HK0 := Hid.mk' hK0
  clear hC hs hmE hl hE0 hK0 hkg hkg2 hmy hg hmd h
  obtain ⟨WA, hWA⟩ : ∃ WA, (w.alloc (.cells (dvC a n c) 24)).alloc (.cells #[.int .i64 0, .int .u8 0, .slice none 0 0] 35) = WA := ⟨_, rfl⟩
  have hkA0 : Kept w WA none := by rw [← hWA]; exact (Kept.alloc _ _ _ _ _).tr (Kept.alloc _ _ _ _ _)
  have hzA0 : WA.heap.size = w.heap.size + 2 := by rw [← hWA]; simp
  have RA : WA.rowIs (w.heap.size + 1) 35 3 (f3 (.int .i64 0) (.int .u8 0) (.slice none 0 0)) := by
    have h := row3 (w.alloc (.cells #[.slice a n c] 24)) (.int .i64 0) (.int .u8 0) (.slice none 0 0) 35
    rw [World.size_alloc] at h
    rw [← hWA]
    exact h
  have hd0 : WA.cell? ⟨w.heap.size, 0, none⟩ = some (.slice a n c) := by rw [← hWA]; exact (cell_kpt (Kept.alloc _ _ _ _ _) (by simp)).trans (World.cell?_alloc_mark ..)
  have HDA := Hid.mk' (And.intro hd0 (show w.heap.size < WA.heap.size by omega))
  clear hd0
  have HRA := Hid.mk' RA
  have HKA := Hid.mk' hkA0
  have HZA := Hid.mk' hzA0
  have HWA := Hid.mk' hWA
  clear RA hkA0 hzA0 hWA
  by_cases hpos : 0 < g
  · have HGD : Hid (decide (0 < g) = true) := Hid.mk' (decide_eq_true hpos)
    have HE : Hid (slE19 L 1 = 0) := Hid.mk' (by rw [HE0.out, HGD.out, if_pos rfl])
    clear hpos
    go_enter Try.func13, Try.ntmps13
    go_wp2_with (first
      | (have hgo := TR; clear hgo; go_at_call 22; refine (holds_any _ _ _ _ _ _ _ _ _ _).mono ?_; rw [HGD.out]; rintro e w4 ⟨rfl, hk4⟩; have K4 := Hid.mk' ((K3.out.tr KV.out).tr hk4); have TR4 := Hid.mk' (rowK TR.out hk4); have RB4 := Hid.mk' (rowK RC.out hk4); have P4 := Hid.mk' (P3.out.kept (KV.out.tr hk4)); clear TR; have tt0 : w4.cell? ⟨w3.heap.size, 0, none⟩ = some (.int .i64 g) := TR4.out.cell (i := 0) (by omega); have tt1 : w4.cell? ⟨w3.heap.size, 1, none⟩ = some (.int .u8 (md : Int)) := TR4.out.cell (i := 1) (by omega); have tt2 : w4.cell? ⟨w3.heap.size, 2, none⟩ = some (.slice pa pn pc) := TR4.out.cell (i := 2) (by omega); have tt3 : w4.cell? ⟨w3.heap.size, 3, none⟩ = some (.int .i64 (many : Int)) := TR4.out.cell (i := 3) (by omega); have tt4 : w4.cell? ⟨w3.heap.size, 4, none⟩ = some (.slice ba many bc) := TR4.out.cell (i := 4) (by omega); have rr0 : w4.cell? ⟨w.heap.size + 1, 0, none⟩ = some (.int .i64 0) := RB4.out.cell (i := 0) (by omega); have xx0 : w4.frozen? ⟨w.heap.size + 1, 0, none⟩ = false := RB4.out.frozen 0; have rr1 : w4.cell? ⟨w.heap.size + 1, 1, none⟩ = some (.int .u8 0) := RB4.out.cell (i := 1) (by omega); have xx1 : w4.frozen? ⟨w.heap.size + 1, 1, none⟩ = false := RB4.out.frozen 1; have rr2 : w4.cell? ⟨w.heap.size + 1, 2, none⟩ = some (.slice none 0 0) := RB4.out.cell (i := 2) (by omega); have xx2 : w4.frozen? ⟨w.heap.size + 1, 2, none⟩ = false := RB4.out.frozen 2; clear hk4)
      | (have hgo := RB; clear hgo; go_at_call 34; refine (HC.out _ K2.out).mono ?_; rintro e w3 ⟨pa, pn, pc, ba, bc, rfl, hp3, hb3, hk3⟩; have P3 := Hid.mk' hp3; have hz2 := K2.out.size; have hz3 := hk3.size; have n1 : ¬ w.heap.size + 1 = w3.heap.size := (by have h7 := RB.out.lt; omega); have n2 : ¬ w3.heap.size = w.heap.size + 1 := (by have h7 := RB.out.lt; omega); have K3 := Hid.mk' (K2.out.tr hk3); have KV : Hid (Kept w3 (w3.alloc (.cells #[(.int .i64 g), (.int .u8 (md : Int)), (.slice pa pn pc), (.int .i64 (many : Int)), (.slice ba many bc)] 66)) none) := Hid.mk' (Kept.alloc _ _ _ _ _); have TR := Hid.mk' (row5 w3 (.int .i64 g) (.int .u8 (md : Int)) (.slice pa pn pc) (.int .i64 (many : Int)) (.slice ba many bc) 66); have RC := Hid.mk' (rowK (rowK RB.out hk3) KV.out); have LT := Hid.mk' RB.out.lt; have t0 : (w3.alloc (.cells #[(.int .i64 g), (.int .u8 (md : Int)), (.slice pa pn pc), (.int .i64 (many : Int)), (.slice ba many bc)] 66)).cell? ⟨w3.heap.size, 0, none⟩ = some (.int .i64 g) := TR.out.cell (i := 0) (by omega); have t1 : (w3.alloc (.cells #[(.int .i64 g), (.int .u8 (md : Int)), (.slice pa pn pc), (.int .i64 (many : Int)), (.slice ba many bc)] 66)).cell? ⟨w3.heap.size, 1, none⟩ = some (.int .u8 (md : Int)) := TR.out.cell (i := 1) (by omega); have t2 : (w3.alloc (.cells #[(.int .i64 g), (.int .u8 (md : Int)), (.slice pa pn pc), (.int .i64 (many : Int)), (.slice ba many bc)] 66)).cell? ⟨w3.heap.size, 2, none⟩ = some (.slice pa pn pc) := TR.out.cell (i := 2) (by omega); have t3 : (w3.alloc (.cells #[(.int .i64 g), (.int .u8 (md : Int)), (.slice pa pn pc), (.int .i64 (many : Int)), (.slice ba many bc)] 66)).cell? ⟨w3.heap.size, 3, none⟩ = some (.int .i64 (many : Int)) := TR.out.cell (i := 3) (by omega); have t4 : (w3.alloc (.cells #[(.int .i64 g), (.int .u8 (md : Int)), (.slice pa pn pc), (.int .i64 (many : Int)), (.slice ba many bc)] 66)).cell? ⟨w3.heap.size, 4, none⟩ = some (.slice ba many bc) := TR.out.cell (i := 4) (by omega); have u0 : (w3.alloc (.cells #[(.int .i64 g), (.int .u8 (md : Int)), (.slice pa pn pc), (.int .i64 (many : Int)), (.slice ba many bc)] 66)).cell? ⟨w.heap.size + 1, 0, none⟩ = some (.int .i64 0) := RC.out.cell (i := 0) (by omega); have z0 : (w3.alloc (.cells #[(.int .i64 g), (.int .u8 (md : Int)), (.slice pa pn pc), (.int .i64 (many : Int)), (.slice ba many bc)] 66)).frozen? ⟨w.heap.size + 1, 0, none⟩ = false := RC.out.frozen 0; have u1 : (w3.alloc (.cells #[(.int .i64 g), (.int .u8 (md : Int)), (.slice pa pn pc), (.int .i64 (many : Int)), (.slice ba many bc)] 66)).cell? ⟨w.heap.size + 1, 1, none⟩ = some (.int .u8 0) := RC.out.cell (i := 1) (by omega); have z1 : (w3.alloc (.cells #[(.int .i64 g), (.int .u8 (md : Int)), (.slice pa pn pc), (.int .i64 (many : Int)), (.slice ba many bc)] 66)).frozen? ⟨w.heap.size + 1, 1, none⟩ = false := RC.out.frozen 1; have u2 : (w3.alloc (.cells #[(.int .i64 g), (.int .u8 (md : Int)), (.slice pa pn pc), (.int .i64 (many : Int)), (.slice ba many bc)] 66)).cell? ⟨w.heap.size + 1, 2, none⟩ = some (.slice none 0 0) := RC.out.cell (i := 2) (by omega); have z2 : (w3.alloc (.cells #[(.int .i64 g), (.int .u8 (md : Int)), (.slice pa pn pc), (.int .i64 (many : Int)), (.slice ba many bc)] 66)).frozen? ⟨w.heap.size + 1, 2, none⟩ = false := RC.out.frozen 2; clear hp3 hb3 hk3 hz2 hz3 RB)
      | (go_at_call 33; rw [HWA.out]; refine (HS.out _).mono ?_; rintro e w2 ⟨rfl, hk2⟩; have K2 := Hid.mk' (HKA.out.tr hk2); have dd := (cell_kpt hk2 HDA.out.2).trans HDA.out.1; have RB := Hid.mk' (rowK HRA.out hk2); have r0 : w2.cell? ⟨w.heap.size + 1, 0, none⟩ = some (.int .i64 0) := RB.out.cell (i := 0) (by omega); have x0 : w2.frozen? ⟨w.heap.size + 1, 0, none⟩ = false := RB.out.frozen 0; have r1 : w2.cell? ⟨w.heap.size + 1, 1, none⟩ = some (.int .u8 0) := RB.out.cell (i := 1) (by omega); have x1 : w2.frozen? ⟨w.heap.size + 1, 1, none⟩ = false := RB.out.frozen 1; have r2 : w2.cell? ⟨w.heap.size + 1, 2, none⟩ = some (.slice none 0 0) := RB.out.cell (i := 2) (by omega); have x2 : w2.frozen? ⟨w.heap.size + 1, 2, none⟩ = false := RB.out.frozen 2; clear hk2))
    have Q := row3_set RB4.out (.int .i64 g) (.int .u8 (md : Int)) (.slice pa pn pc)
    have v0 : (((w4.setCell ⟨w.heap.size + 1, 0, none⟩ (.int .i64 g)).setCell ⟨w.heap.size + 1, 1, none⟩ (.int .u8 (md : Int))).setCell ⟨w.heap.size + 1, 2, none⟩ (.slice pa pn pc)).cell? ⟨w.heap.size + 1, 0, none⟩ = some (.int .i64 g) := Q.cell (i := 0) (by omega)
    have v1 : (((w4.setCell ⟨w.heap.size + 1, 0, none⟩ (.int .i64 g)).setCell ⟨w.heap.size + 1, 1, none⟩ (.int .u8 (md : Int))).setCell ⟨w.heap.size + 1, 2, none⟩ (.slice pa pn pc)).cell? ⟨w.heap.size + 1, 1, none⟩ = some (.int .u8 (md : Int)) := Q.cell (i := 1) (by omega)
    have v2 : (((w4.setCell ⟨w.heap.size + 1, 0, none⟩ (.int .i64 g)).setCell ⟨w.heap.size + 1, 1, none⟩ (.int .u8 (md : Int))).setCell ⟨w.heap.size + 1, 2, none⟩ (.slice pa pn pc)).cell? ⟨w.heap.size + 1, 2, none⟩ = some (.slice pa pn pc) := Q.cell (i := 2) (by omega)
    have KF : Kept w (((w4.setCell ⟨w.heap.size + 1, 0, none⟩ (.int .i64 g)).setCell ⟨w.heap.size + 1, 1, none⟩ (.int .u8 (md : Int))).setCell ⟨w.heap.size + 1, 2, none⟩ (.slice pa pn pc)) none := (((K4.out).setNew (p := ⟨w.heap.size + 1, 0, none⟩) (show w.heap.size ≤ w.heap.size + 1 by omega) _).setNew (p := ⟨w.heap.size + 1, 1, none⟩) (show w.heap.size ≤ w.heap.size + 1 by omega) _).setNew (p := ⟨w.heap.size + 1, 2, none⟩) (show w.heap.size ≤ w.heap.size + 1 by omega) _
    have PF := Hid.mk' (((P4.out.set (x := w.heap.size + 1) LT.out 0 (.int .i64 g)).set (x := w.heap.size + 1) LT.out 1 (.int .u8 (md : Int))).set (x := w.heap.size + 1) LT.out 2 (.slice pa pn pc))
    clear Q
    generalize (((w4.setCell ⟨w.heap.size + 1, 0, none⟩ (.int .i64 g)).setCell ⟨w.heap.size + 1, 1, none⟩ (.int .u8 (md : Int))).setCell ⟨w.heap.size + 1, 2, none⟩ (.slice pa pn pc)) = wF at *
    refine bodyPost_ret (v := .tuple #[.agg #[(.int .i64 g), (.int .u8 (md : Int)), (.slice pa pn pc)], .int .i64 0]) (by simp [results, Try.results13, go_sem, v0, v1, v2]) rfl ⟨pa, pn, pc, ?_, ?_, KF⟩
    · rw [HK0.out HE.out, HE.out, HGM.out.1, HGM.out.2]
    · rw [HK0.out HE.out]
      exact PF.out.mono (by have := LT.out; omega)
  · have HGD : Hid (decide (0 < g) = false) := Hid.mk' (decide_eq_false hpos)
    have HE : Hid (slE19 L 1 = 8) := Hid.mk' (by rw [HE0.out, HGD.out, if_neg (by decide)])
    clear hpos
    go_enter Try.func13, Try.ntmps13
    go_wp2_with (first
      | (have hgo := TR; clear hgo; go_at_call 22; refine (holds_any _ _ _ _ _ _ _ _ _ _).mono ?_; rw [HGD.out]; rintro e w4 ⟨rfl, hk4⟩; have K4 := Hid.mk' ((K3.out.tr KV.out).tr hk4); have TR4 := Hid.mk' (rowK TR.out hk4); have RB4 := Hid.mk' (rowK RC.out hk4); have P4 := Hid.mk' (P3.out.kept (KV.out.tr hk4)); clear TR; have tt0 : w4.cell? ⟨w3.heap.size, 0, none⟩ = some (.int .i64 g) := TR4.out.cell (i := 0) (by omega); have tt1 : w4.cell? ⟨w3.heap.size, 1, none⟩ = some (.int .u8 (md : Int)) := TR4.out.cell (i := 1) (by omega); have tt2 : w4.cell? ⟨w3.heap.size, 2, none⟩ = some (.slice pa pn pc) := TR4.out.cell (i := 2) (by omega); have tt3 : w4.cell? ⟨w3.heap.size, 3, none⟩ = some (.int .i64 (many : Int)) := TR4.out.cell (i := 3) (by omega); have tt4 : w4.cell? ⟨w3.heap.size, 4, none⟩ = some (.slice ba many bc) := TR4.out.cell (i := 4) (by omega); have rr0 : w4.cell? ⟨w.heap.size + 1, 0, none⟩ = some (.int .i64 0) := RB4.out.cell (i := 0) (by omega); have xx0 : w4.frozen? ⟨w.heap.size + 1, 0, none⟩ = false := RB4.out.frozen 0; have rr1 : w4.cell? ⟨w.heap.size + 1, 1, none⟩ = some (.int .u8 0) := RB4.out.cell (i := 1) (by omega); have xx1 : w4.frozen? ⟨w.heap.size + 1, 1, none⟩ = false := RB4.out.frozen 1; have rr2 : w4.cell? ⟨w.heap.size + 1, 2, none⟩ = some (.slice none 0 0) := RB4.out.cell (i := 2) (by omega); have xx2 : w4.frozen? ⟨w.heap.size + 1, 2, none⟩ = false := RB4.out.frozen 2; clear hk4)
      | (have hgo := RB; clear hgo; go_at_call 34; refine (HC.out _ K2.out).mono ?_; rintro e w3 ⟨pa, pn, pc, ba, bc, rfl, hp3, hb3, hk3⟩; have P3 := Hid.mk' hp3; have hz2 := K2.out.size; have hz3 := hk3.size; have n1 : ¬ w.heap.size + 1 = w3.heap.size := (by have h7 := RB.out.lt; omega); have n2 : ¬ w3.heap.size = w.heap.size + 1 := (by have h7 := RB.out.lt; omega); have K3 := Hid.mk' (K2.out.tr hk3); have KV : Hid (Kept w3 (w3.alloc (.cells #[(.int .i64 g), (.int .u8 (md : Int)), (.slice pa pn pc), (.int .i64 (many : Int)), (.slice ba many bc)] 66)) none) := Hid.mk' (Kept.alloc _ _ _ _ _); have TR := Hid.mk' (row5 w3 (.int .i64 g) (.int .u8 (md : Int)) (.slice pa pn pc) (.int .i64 (many : Int)) (.slice ba many bc) 66); have RC := Hid.mk' (rowK (rowK RB.out hk3) KV.out); have LT := Hid.mk' RB.out.lt; have t0 : (w3.alloc (.cells #[(.int .i64 g), (.int .u8 (md : Int)), (.slice pa pn pc), (.int .i64 (many : Int)), (.slice ba many bc)] 66)).cell? ⟨w3.heap.size, 0, none⟩ = some (.int .i64 g) := TR.out.cell (i := 0) (by omega); have t1 : (w3.alloc (.cells #[(.int .i64 g), (.int .u8 (md : Int)), (.slice pa pn pc), (.int .i64 (many : Int)), (.slice ba many bc)] 66)).cell? ⟨w3.heap.size, 1, none⟩ = some (.int .u8 (md : Int)) := TR.out.cell (i := 1) (by omega); have t2 : (w3.alloc (.cells #[(.int .i64 g), (.int .u8 (md : Int)), (.slice pa pn pc), (.int .i64 (many : Int)), (.slice ba many bc)] 66)).cell? ⟨w3.heap.size, 2, none⟩ = some (.slice pa pn pc) := TR.out.cell (i := 2) (by omega); have t3 : (w3.alloc (.cells #[(.int .i64 g), (.int .u8 (md : Int)), (.slice pa pn pc), (.int .i64 (many : Int)), (.slice ba many bc)] 66)).cell? ⟨w3.heap.size, 3, none⟩ = some (.int .i64 (many : Int)) := TR.out.cell (i := 3) (by omega); have t4 : (w3.alloc (.cells #[(.int .i64 g), (.int .u8 (md : Int)), (.slice pa pn pc), (.int .i64 (many : Int)), (.slice ba many bc)] 66)).cell? ⟨w3.heap.size, 4, none⟩ = some (.slice ba many bc) := TR.out.cell (i := 4) (by omega); have u0 : (w3.alloc (.cells #[(.int .i64 g), (.int .u8 (md : Int)), (.slice pa pn pc), (.int .i64 (many : Int)), (.slice ba many bc)] 66)).cell? ⟨w.heap.size + 1, 0, none⟩ = some (.int .i64 0) := RC.out.cell (i := 0) (by omega); have z0 : (w3.alloc (.cells #[(.int .i64 g), (.int .u8 (md : Int)), (.slice pa pn pc), (.int .i64 (many : Int)), (.slice ba many bc)] 66)).frozen? ⟨w.heap.size + 1, 0, none⟩ = false := RC.out.frozen 0; have u1 : (w3.alloc (.cells #[(.int .i64 g), (.int .u8 (md : Int)), (.slice pa pn pc), (.int .i64 (many : Int)), (.slice ba many bc)] 66)).cell? ⟨w.heap.size + 1, 1, none⟩ = some (.int .u8 0) := RC.out.cell (i := 1) (by omega); have z1 : (w3.alloc (.cells #[(.int .i64 g), (.int .u8 (md : Int)), (.slice pa pn pc), (.int .i64 (many : Int)), (.slice ba many bc)] 66)).frozen? ⟨w.heap.size + 1, 1, none⟩ = false := RC.out.frozen 1; have u2 : (w3.alloc (.cells #[(.int .i64 g), (.int .u8 (md : Int)), (.slice pa pn pc), (.int .i64 (many : Int)), (.slice ba many bc)] 66)).cell? ⟨w.heap.size + 1, 2, none⟩ = some (.slice none 0 0) := RC.out.cell (i := 2) (by omega); have z2 : (w3.alloc (.cells #[(.int .i64 g), (.int .u8 (md : Int)), (.slice pa pn pc), (.int .i64 (many : Int)), (.slice ba many bc)] 66)).frozen? ⟨w.heap.size + 1, 2, none⟩ = false := RC.out.frozen 2; clear hp3 hb3 hk3 hz2 hz3 RB)
      | (go_at_call 33; rw [HWA.out]; refine (HS.out _).mono ?_; rintro e w2 ⟨rfl, hk2⟩; have K2 := Hid.mk' (HKA.out.tr hk2); have dd := (cell_kpt hk2 HDA.out.2).trans HDA.out.1; have RB := Hid.mk' (rowK HRA.out hk2); have r0 : w2.cell? ⟨w.heap.size + 1, 0, none⟩ = some (.int .i64 0) := RB.out.cell (i := 0) (by omega); have x0 : w2.frozen? ⟨w.heap.size + 1, 0, none⟩ = false := RB.out.frozen 0; have r1 : w2.cell? ⟨w.heap.size + 1, 1, none⟩ = some (.int .u8 0) := RB.out.cell (i := 1) (by omega); have x1 : w2.frozen? ⟨w.heap.size + 1, 1, none⟩ = false := RB.out.frozen 1; have r2 : w2.cell? ⟨w.heap.size + 1, 2, none⟩ = some (.slice none 0 0) := RB.out.cell (i := 2) (by omega); have x2 : w2.frozen? ⟨w.heap.size + 1, 2, none⟩ = false := RB.out.frozen 2; clear hk2))
    have Q := row3_set RB4.out (.int .i64 0) (.int .u8 0) (.slice none 0 0)
    have v0 : (((w4.setCell ⟨w.heap.size + 1, 0, none⟩ (.int .i64 0)).setCell ⟨w.heap.size + 1, 1, none⟩ (.int .u8 0)).setCell ⟨w.heap.size + 1, 2, none⟩ (.slice none 0 0)).cell? ⟨w.heap.size + 1, 0, none⟩ = some (.int .i64 0) := Q.cell (i := 0) (by omega)
    have v1 : (((w4.setCell ⟨w.heap.size + 1, 0, none⟩ (.int .i64 0)).setCell ⟨w.heap.size + 1, 1, none⟩ (.int .u8 0)).setCell ⟨w.heap.size + 1, 2, none⟩ (.slice none 0 0)).cell? ⟨w.heap.size + 1, 1, none⟩ = some (.int .u8 0) := Q.cell (i := 1) (by omega)
    have v2 : (((w4.setCell ⟨w.heap.size + 1, 0, none⟩ (.int .i64 0)).setCell ⟨w.heap.size + 1, 1, none⟩ (.int .u8 0)).setCell ⟨w.heap.size + 1, 2, none⟩ (.slice none 0 0)).cell? ⟨w.heap.size + 1, 2, none⟩ = some (.slice none 0 0) := Q.cell (i := 2) (by omega)
    have KF : Kept w (((w4.setCell ⟨w.heap.size + 1, 0, none⟩ (.int .i64 0)).setCell ⟨w.heap.size + 1, 1, none⟩ (.int .u8 0)).setCell ⟨w.heap.size + 1, 2, none⟩ (.slice none 0 0)) none := (((K4.out).setNew (p := ⟨w.heap.size + 1, 0, none⟩) (show w.heap.size ≤ w.heap.size + 1 by omega) _).setNew (p := ⟨w.heap.size + 1, 1, none⟩) (show w.heap.size ≤ w.heap.size + 1 by omega) _).setNew (p := ⟨w.heap.size + 1, 2, none⟩) (show w.heap.size ≤ w.heap.size + 1 by omega) _
    clear Q
    generalize (((w4.setCell ⟨w.heap.size + 1, 0, none⟩ (.int .i64 0)).setCell ⟨w.heap.size + 1, 1, none⟩ (.int .u8 0)).setCell ⟨w.heap.size + 1, 2, none⟩ (.slice none 0 0)) = wF at *
    refine bodyPost_ret (v := .tuple #[.agg #[(.int .i64 0), (.int .u8 0), (.slice none 0 0)], .int .i64 8]) (by simp [results, Try.results13, go_sem, v0, v1, v2]) rfl (slq_no HE.out (by decide) KF)
theorem sslot_any {a : Option Addr} {n c : Nat} {L : List Nat} {i : Int} {w : World} (hC : Come w a n c L) : Calls Try.prog 13 #[dvV a n c, .int .i64 i] w (SlqP w L i) := by
  have fin_ : ∀ {E : Int}, slE19 L i = E → E ≠ 0 → ∀ e w', (e = .returned (.tuple #[kpV 0 0 none 0 0, .int .i64 E]) ∧ Kept w w' none) → SlqP w L i e w' := by
    rintro E hE h0 e w' ⟨rfl, hk⟩
    exact slq_no hE h0 hk
  have hs := hC.by_.size
  by_cases h : askE n = 0
  · by_cases h0 : i = 0
    · subst h0; exact slot_ok0 hC h
    by_cases h1 : i = 1
    · subst h1; exact slot_ok1 hC h
    have hE : slE19 L i = 2 := by unfold slE19; rw [hs, if_pos h, if_neg (fun q => by rcases q with q | q; exact h0 q; exact h1 q)]
    by_cases h2 : i < 0
    · exact (slot_arg1 hC.by_.max h h2).mono (fin_ hE (by decide))
    · exact (slot_arg2 hC.by_.max h (by omega)).mono (fin_ hE (by decide))
  · exact (slot_bad hC.by_.max h).mono (fin_ (by unfold slE19; rw [hs, if_neg h]) h)

end Go.Proofs.Ytlabjamkaebnjaa
