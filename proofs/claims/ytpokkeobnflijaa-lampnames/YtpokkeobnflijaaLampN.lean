/-
  LampNames' walk: the chapter's examples.
-/
import Derived.Test.YtpokkeobnflijaaLampA
namespace Go.Proofs.Ytpokkeobnflijaa
open Go.RowKit Go.Lib Go.Deep
set_option linter.unusedVariables false
set_option linter.unusedSimpArgs false

set_option maxHeartbeats 4000000 in
theorem names_any (w : World) : Calls Try.prog 3 #[] w fun e' w' => e' = .returned (.bool true) ∧ Kept w w' none := by
  have v1 : wantV 3 2 3 1 2 = 3 := by decide
  have v2 : wantV 3 2 3 2 2 = 1 := by decide
  have v3 : mayV 3 2 2 9 1 = 2 := by decide
  have v4 : mayV 3 2 2 2 3 = 5 := by decide
  have v5 : mayV 3 2 3 2 3 = 6 := by decide
  have v6 : sinceV 2 1048576 2 = 1048576 := by decide
  have v7 : endedV 0 2 = 0 := by decide
  have v8 : sinceV 3 2 1 = 1 := by decide
  have v9 : endedV 2 1 = 3 := by decide
  go_enter Try.func3, Try.ntmps3
  go_wp2_with (first
    | (go_at_call 10; refine (alive_any _).mono ?_; rintro e8 w8 ⟨rfl, hk8⟩; have hK8 : Kept w w8 none := (hK7.tr (Kept.alloc _ _ _ _ _)).tr hk8; have hS8 := (hS7.kept (Kept.alloc _ _ _ _ _)).kept hk8; have hT8 := (box_alloc w7 _ _ _ 26).kept hk8; have y0 := hS8.c0; have y1 := hS8.c1; have y2 := hS8.c2; have z0 := hT8.c0; have z1 := hT8.c1; have z2 := hT8.c2)
    | (go_at_call 9; refine (next_any _ _ _ _ _ _ _ _).mono ?_; rintro e7 w7 ⟨rfl, hk7⟩; have hK7 : Kept w w7 none := (hK6.tr (Kept.alloc _ _ _ _ _)).tr hk7; have hB7 := (hB6.kept (Kept.alloc _ _ _ _ _)).kept hk7; have hS7 := (box_alloc w6 _ _ _ 26).kept hk7; have y0 := hS7.c0; have y1 := hS7.c1; have y2 := hS7.c2; have x0 := hB7.c0; have x1 := hB7.c1; have x2 := hB7.c2; have l0 := hB7.lt; have l1 := hS7.lt)
    | (go_at_call 9; refine (next_any _ _ _ _ _ _ _ w5).mono ?_; rintro e6 w6 ⟨rfl, hk6⟩; have hK6 : Kept w w6 none := hK5.tr hk6; have hB6 := hB5.kept hk6; have x0 := hB6.c0; have x1 := hB6.c1; have x2 := hB6.c2; have l0 := hB6.lt)
    | (go_at_call 8; refine (may_any _ _ _ _ _ _ _ w4).mono ?_; rintro e5 w5 ⟨rfl, hk5⟩; have hK5 : Kept w w5 none := hK4.tr hk5; have hB5 := hB4.kept hk5; have x0 := hB5.c0; have x1 := hB5.c1; have x2 := hB5.c2; have l0 := hB5.lt)
    | (go_at_call 8; refine (may_any _ _ _ _ _ _ _ w3).mono ?_; rintro e4 w4 ⟨rfl, hk4⟩; have hK4 : Kept w w4 none := hK3.tr hk4; have hB4 := hB3.kept hk4; have x0 := hB4.c0; have x1 := hB4.c1; have x2 := hB4.c2; have l0 := hB4.lt)
    | (go_at_call 8; refine (may_any _ _ _ _ _ _ _ w2).mono ?_; rintro e3 w3 ⟨rfl, hk3⟩; have hK3 : Kept w w3 none := hK2.tr hk3; have hB3 := hB2.kept hk3; have x0 := hB3.c0; have x1 := hB3.c1; have x2 := hB3.c2; have l0 := hB3.lt)
    | (go_at_call 7; refine (want_any _ _ _ _ _ _ _ w1).mono ?_; rintro e2 w2 ⟨rfl, hk2⟩; have hK2 : Kept w w2 none := hK1.tr hk2; have hB2 := hB1.kept hk2; have x0 := hB2.c0; have x1 := hB2.c1; have x2 := hB2.c2; have l0 := hB2.lt)
    | (go_at_call 7; refine (want_any _ _ _ _ _ _ _ _).mono ?_; rintro e1 w1 ⟨rfl, hk1⟩; have hK1 : Kept w w1 none := (Kept.alloc _ _ _ _ _).tr hk1; have hB1 := (box_alloc w (.int .u8 1) (.int .i64 3) (.int .i64 2) 23).kept hk1; have x0 := hB1.c0; have x1 := hB1.c1; have x2 := hB1.c2))
  all_goals
    go_ret
    exact ⟨rfl, hK8⟩

end Go.Proofs.Ytpokkeobnflijaa
