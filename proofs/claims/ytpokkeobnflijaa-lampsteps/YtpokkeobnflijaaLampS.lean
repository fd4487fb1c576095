/-
  LampSteps' walk: the program's calls and the document's answer alike.
-/
import Derived.Test.YtpokkeobnflijaaLampR
import Derived.Test.YtpokkeobnflijaaLampK
import Derived.Deep.RegionHeld
namespace Go.Proofs.Ytpokkeobnflijaa
open Go.RowKit Go.Lib Go.Deep
set_option linter.unusedVariables false
set_option linter.unusedSimpArgs false

set_option maxHeartbeats 4000000 in
theorem steps_any (k m y a s e b : Int) (w : World) : Calls Try.prog 4 #[grpV k m y, seenV a s e, .int .u8 b] w fun e' w' => e' = .returned (.bool true) ∧ Kept w w' none := by
  obtain ⟨W0, hW0⟩ : ∃ W0, W0 = ((w.alloc (.cells #[.int .u8 k, .int .i64 m, .int .i64 y] 23)).alloc (.cells #[.int .u8 a, .int .i64 s, .int .i64 e] 26)) := ⟨_, rfl⟩
  have hK0 : Kept w W0 none := by rw [hW0]; exact (Kept.alloc _ _ _ _ _).tr (Kept.alloc _ _ _ _ _)
  have hB : Box W0 w.heap.size (.int .u8 k) (.int .i64 m) (.int .i64 y) := by rw [hW0]; exact (box_alloc w (.int .u8 k) (.int .i64 m) (.int .i64 y) 23).kept (Kept.alloc _ _ _ _ _)
  have hS : Box W0 (w.heap.size + 1) (.int .u8 a) (.int .i64 s) (.int .i64 e) := by
    have h := box_alloc (w.alloc (.cells #[.int .u8 k, .int .i64 m, .int .i64 y] 23)) (.int .u8 a) (.int .i64 s) (.int .i64 e) 26
    have hsz : (w.alloc (.cells #[.int .u8 k, .int .i64 m, .int .i64 y] 23)).heap.size = w.heap.size + 1 := by simp
    rw [hsz] at h; rw [hW0]; exact h
  have HW : Hid (W0 = ((w.alloc (.cells #[.int .u8 k, .int .i64 m, .int .i64 y] 23)).alloc (.cells #[.int .u8 a, .int .i64 s, .int .i64 e] 26))) := hW0
  clear hW0
  have x0 : ∀ w', Kept W0 w' none → w'.cell? ⟨w.heap.size, 0, none⟩ = some (.int .u8 k) := fun w' q => (hB.kept q).c0
  have x1 : ∀ w', Kept W0 w' none → w'.cell? ⟨w.heap.size, 1, none⟩ = some (.int .i64 m) := fun w' q => (hB.kept q).c1
  have x2 : ∀ w', Kept W0 w' none → w'.cell? ⟨w.heap.size, 2, none⟩ = some (.int .i64 y) := fun w' q => (hB.kept q).c2
  have x3 : ∀ w', Kept W0 w' none → w'.cell? ⟨w.heap.size + 1, 0, none⟩ = some (.int .u8 a) := fun w' q => (hS.kept q).c0
  have x4 : ∀ w', Kept W0 w' none → w'.cell? ⟨w.heap.size + 1, 1, none⟩ = some (.int .i64 s) := fun w' q => (hS.kept q).c1
  have x5 : ∀ w', Kept W0 w' none → w'.cell? ⟨w.heap.size + 1, 2, none⟩ = some (.int .i64 e) := fun w' q => (hS.kept q).c2
  clear hB hS
  go_enter Try.func4, Try.ntmps4
  go_wp2_with fail
  rw [← HW.out]
  go_region_held (fun w' => Kept W0 w' none)
    ((first | exact Kept.refl _ _ | exact Kept.drew _ _ | assumption | exact Kept.tr (by assumption) (Kept.drew _ _)))
    (first
      | (go_at_call 15; refine (rfollows_any _ _ _).mono ?_; rintro e8 w' ⟨rfl, rfl⟩)
      | (go_at_call 14; refine (follows_any _ _ _).mono ?_; rintro e7 w7 ⟨rfl, hk7⟩; have hK7 : Kept W0 w7 none := Kept.tr (by assumption) hk7)
      | (go_at_call 13; refine (rwant_any _ _ _ _ _ _ _ _).mono ?_; rintro e6 w6 ⟨rfl, hk6⟩; have hK6 : Kept W0 w6 none := Kept.tr (by assumption) hk6)
      | (go_at_call 7; refine (want_any _ _ _ _ _ _ _ _).mono ?_; rintro e5 w5 ⟨rfl, hk5⟩; have hK5 : Kept W0 w5 none := Kept.tr (by assumption) hk5)
      | (go_at_call 12; refine (rmay_any _ _ _ _ _ _ _ _).mono ?_; rintro e4 w4 ⟨rfl, hk4⟩; have hK4 : Kept W0 w4 none := Kept.tr (by assumption) hk4)
      | (go_at_call 8; refine (may_any _ _ _ _ _ _ _ _).mono ?_; rintro e3 w3 ⟨rfl, hk3⟩; have hK3 : Kept W0 w3 none := Kept.tr (by assumption) hk3)
      | (go_at_call 11; refine (rnext_any _ _ _ _ _).mono ?_; rintro e2 w2 ⟨rfl, hk2⟩; have hK2 : Kept W0 w2 none := Kept.tr (by assumption) hk2)
      | (go_at_call 9; refine (next_any _ _ _ _ _ _ _ _).mono ?_; rintro e1 w1 ⟨rfl, hk1⟩; have hK1 : Kept W0 w1 none := Kept.tr (by assumption) hk1))
  all_goals go_wp2
  all_goals
    go_ret
    refine ⟨rfl, hK0.tr ?_⟩
    first | assumption | exact Kept.tr (by assumption) (Kept.drew _ _)

end Go.Proofs.Ytpokkeobnflijaa
