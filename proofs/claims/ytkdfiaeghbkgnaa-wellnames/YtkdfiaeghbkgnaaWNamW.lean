/-
  WellNames' walk: the error has its number, and the chapter's examples are so (made by a program).
-/
import Derived.Test.YtkdfiaeghbkgnaaWelB
namespace Go.Proofs.Ytkdfiaeghbkgnaa
open Go.RowKit Go.Lib Go.Deep
set_option linter.unusedVariables false
set_option linter.unusedSimpArgs false

theorem nam0 (w : World) : Calls Try.prog 7 #[.agg #[.int .u64 5], .int .i64 2] w fun e w' => e = .returned (.tuple #[.int .i64 32768, .int .i64 0]) ∧ Kept w w' none := by
  have h := wshare_any 5 2 w (by decide)
  rw [show shQ 5 2 = 32768 by decide, show shF 2 = 0 by decide] at h
  exact h
theorem nam1 (w : World) : Calls Try.prog 7 #[.agg #[.int .u64 5], .int .i64 64] w fun e w' => e = .returned (.tuple #[.int .i64 2048, .int .i64 0]) ∧ Kept w w' none := by
  have h := wshare_any 5 64 w (by decide)
  rw [show shQ 5 64 = 2048 by decide, show shF 64 = 0 by decide] at h
  exact h
theorem nam2 (w : World) : Calls Try.prog 8 #[.agg #[.int .u64 5], .int .i64 4, .int .i64 32768] w fun e w' => e = .returned (.tuple #[.bool false, .int .i64 0]) ∧ Kept w w' none := by
  have h := wpoor_any 5 4 32768 w (by decide)
  rw [show poQ 5 4 32768 = false by decide, show poF 4 32768 = 0 by decide] at h
  exact h
theorem nam3 (w : World) : Calls Try.prog 8 #[.agg #[.int .u64 5], .int .i64 4, .int .i64 32769] w fun e w' => e = .returned (.tuple #[.bool true, .int .i64 0]) ∧ Kept w w' none := by
  have h := wpoor_any 5 4 32769 w (by decide)
  rw [show poQ 5 4 32769 = true by decide, show poF 4 32769 = 0 by decide] at h
  exact h
theorem nam4 (w : World) : Calls Try.prog 7 #[.agg #[.int .u64 5], .int .i64 0] w fun e w' => e = .returned (.tuple #[.int .i64 0, .int .i64 2]) ∧ Kept w w' none := by
  have h := wshare_any 5 0 w (by decide)
  rw [show shQ 5 0 = 0 by decide, show shF 0 = 2 by decide] at h
  exact h
theorem nam5 (w : World) : Calls Try.prog 8 #[.agg #[.int .u64 5], .int .i64 4, .int .i64 (-1)] w fun e w' => e = .returned (.tuple #[.bool false, .int .i64 2]) ∧ Kept w w' none := by
  have h := wpoor_any 5 4 (-1) w (by decide)
  rw [show poQ 5 4 (-1) = false by decide, show poF 4 (-1) = 2 by decide] at h
  exact h
theorem nam6 (w : World) : Calls Try.prog 8 #[.agg #[.int .u64 5], .int .i64 65, .int .i64 0] w fun e w' => e = .returned (.tuple #[.bool false, .int .i64 2]) ∧ Kept w w' none := by
  have h := wpoor_any 5 65 0 w (by decide)
  rw [show poQ 5 65 0 = false by decide, show poF 65 0 = 2 by decide] at h
  exact h
theorem nam7 (w : World) : Calls Try.prog 8 #[.agg #[.int .u64 5], .int .i64 4, .int .i64 65537] w fun e w' => e = .returned (.tuple #[.bool false, .int .i64 2]) ∧ Kept w w' none := by
  have h := wpoor_any 5 4 65537 w (by decide)
  rw [show poQ 5 4 65537 = false by decide, show poF 4 65537 = 2 by decide] at h
  exact h
set_option maxRecDepth 100000 in
set_option maxHeartbeats 4000000 in
theorem wnames_any (w : World) : Calls Try.prog 3 #[] w fun e w' => e = .returned (.bool true) ∧ Kept w w' none := by
  have HA := Hid.mk' alive_any
  have N0 := Hid.mk' nam0
  have N1 := Hid.mk' nam1
  have N2 := Hid.mk' nam2
  have N3 := Hid.mk' nam3
  have N4 := Hid.mk' nam4
  have N5 := Hid.mk' nam5
  have N6 := Hid.mk' nam6
  have N7 := Hid.mk' nam7
  have G : Wb (w.alloc (.cells #[.int .u64 5] 24)) w.heap.size 5 := wb_alloc w 5
  have HK := Hid.mk' (Kept.alloc w #[.int .u64 5] 24 (0, 0) none)
  go_enter Try.func3, Try.ntmps3
  go_wp2_with (first
    | (go_at_call 8; have hgo := M7; clear hgo; have M8 := Hid.mk' True.intro; refine (N7.out _).mono ?_; rintro e w8 ⟨rfl, hk8⟩; replace G := G.kept hk8; replace HK := Hid.mk' (HK.out.tr hk8); have g8 : w8.cell? ⟨w.heap.size, 0, none⟩ = some (.int .u64 5) := G.c0; clear hk8 M7)
    | (go_at_call 8; have hgo := M6; clear hgo; have M7 := Hid.mk' True.intro; refine (N6.out _).mono ?_; rintro e w7 ⟨rfl, hk7⟩; replace G := G.kept hk7; replace HK := Hid.mk' (HK.out.tr hk7); have g7 : w7.cell? ⟨w.heap.size, 0, none⟩ = some (.int .u64 5) := G.c0; clear hk7 M6)
    | (go_at_call 8; have hgo := M5; clear hgo; have M6 := Hid.mk' True.intro; refine (N5.out _).mono ?_; rintro e w6 ⟨rfl, hk6⟩; replace G := G.kept hk6; replace HK := Hid.mk' (HK.out.tr hk6); have g6 : w6.cell? ⟨w.heap.size, 0, none⟩ = some (.int .u64 5) := G.c0; clear hk6 M5)
    | (go_at_call 7; have hgo := M4; clear hgo; have M5 := Hid.mk' True.intro; refine (N4.out _).mono ?_; rintro e w5 ⟨rfl, hk5⟩; replace G := G.kept hk5; replace HK := Hid.mk' (HK.out.tr hk5); have g5 : w5.cell? ⟨w.heap.size, 0, none⟩ = some (.int .u64 5) := G.c0; clear hk5 M4)
    | (go_at_call 8; have hgo := M3; clear hgo; have M4 := Hid.mk' True.intro; refine (N3.out _).mono ?_; rintro e w4 ⟨rfl, hk4⟩; replace G := G.kept hk4; replace HK := Hid.mk' (HK.out.tr hk4); have g4 : w4.cell? ⟨w.heap.size, 0, none⟩ = some (.int .u64 5) := G.c0; clear hk4 M3)
    | (go_at_call 8; have hgo := M2; clear hgo; have M3 := Hid.mk' True.intro; refine (N2.out _).mono ?_; rintro e w3 ⟨rfl, hk3⟩; replace G := G.kept hk3; replace HK := Hid.mk' (HK.out.tr hk3); have g3 : w3.cell? ⟨w.heap.size, 0, none⟩ = some (.int .u64 5) := G.c0; clear hk3 M2)
    | (go_at_call 7; have hgo := M1; clear hgo; have M2 := Hid.mk' True.intro; refine (N1.out _).mono ?_; rintro e w2 ⟨rfl, hk2⟩; replace G := G.kept hk2; replace HK := Hid.mk' (HK.out.tr hk2); have g2 : w2.cell? ⟨w.heap.size, 0, none⟩ = some (.int .u64 5) := G.c0; clear hk2 M1)
    | (go_at_call 7; have M1 := Hid.mk' True.intro; refine (N0.out _).mono ?_; rintro e w1 ⟨rfl, hk1⟩; replace G := G.kept hk1; replace HK := Hid.mk' (HK.out.tr hk1); have g1 : w1.cell? ⟨w.heap.size, 0, none⟩ = some (.int .u64 5) := G.c0; clear hk1)
    | (go_at_call 9; have hgo := M8; clear hgo; have M9 := Hid.mk' True.intro; refine (HA.out _).mono ?_; rintro e w9 ⟨rfl, hk9⟩; replace G := G.kept hk9; replace HK := Hid.mk' (HK.out.tr hk9); have g9 : w9.cell? ⟨w.heap.size, 0, none⟩ = some (.int .u64 5) := G.c0; clear hk9 M8))
  go_ret
  exact ⟨by simp, HK.out⟩

end Go.Proofs.Ytkdfiaeghbkgnaa
