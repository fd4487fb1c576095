/-
  LampNames' and LampWants' walks; alive.
-/
import Derived.Test.YtpokkeobnflijaaLampC
namespace Go.Proofs.Ytpokkeobnflijaa
open Go.RowKit Go.Lib Go.Deep
set_option linter.unusedVariables false
set_option linter.unusedSimpArgs false

theorem alive_any (w : World) : Calls Try.prog 10 #[] w fun e w' => e = .returned (.bool true) ∧ Kept w w' none := by
  have e1 : wantV 3 2 2 2 1 = 2 := by decide
  have e2 : wantV 3 2 2 3 1 = 3 := by decide
  go_enter Try.func10, Try.ntmps10
  go_wp2_with (first
    | (go_at_call 7; refine (want_any _ _ _ _ _ _ _ w1).mono ?_; rintro e w2 ⟨rfl, hk2⟩)
    | (go_at_call 7; refine (want_any _ _ _ _ _ _ _ _).mono ?_; rintro e w1 ⟨rfl, hk1⟩; obtain ⟨c0, c1, c2, _, _, _, hl⟩ := (box_alloc w _ _ _ _).kept hk1))
  go_ret
  exact ⟨rfl, ((Kept.alloc _ _ _ _ _).tr hk1).tr hk2⟩
theorem want_may (m y a s q : Int) (ha : 1 ≤ a ∧ a ≤ 3) : mayV m y a s (wantV m y a s q) = 0 := by
  unfold mayV wantV
  repeat' split
  all_goals first | rfl | omega
theorem may_want (m y a s q : Int) (ha : 1 ≤ a ∧ a ≤ 3) (h : mayV m y a s q = 0) : wantV m y a s q = q := by
  unfold mayV at h; unfold wantV
  repeat' split at h
  all_goals (repeat' split)
  all_goals first | omega | (exfalso; omega)
theorem wants_any (k m y a s e q : Int) (w : World) (ha : 0 ≤ a ∧ a < 256) : Calls Try.prog 5 #[grpV k m y, seenV a s e, .int .u8 q] w fun e' w' => e' = .returned (.bool true) ∧ Kept w w' none := by
  have hK0 : Kept w ((w.alloc (.cells #[.int .u8 k, .int .i64 m, .int .i64 y] 23)).alloc (.cells #[.int .u8 a, .int .i64 s, .int .i64 e] 26)) none := (Kept.alloc _ _ _ _ _).tr (Kept.alloc _ _ _ _ _)
  by_cases h : 1 ≤ a ∧ a ≤ 3
  · obtain ⟨l1, l2⟩ := h
    have hm := want_may m y a s q ⟨l1, l2⟩
    have hw := may_want m y a s q ⟨l1, l2⟩
    obtain ⟨v, hv⟩ : ∃ v, v = wantV m y a s q := ⟨_, rfl⟩
    obtain ⟨f, hf⟩ : ∃ f, f = mayV m y a s q := ⟨_, rfl⟩
    rw [← hv] at hm hw
    rw [← hf] at hw
    have HM : Hid (mayV m y a s v = 0) := hm
    clear hm
    have HV : Hid (v = wantV m y a s q) := hv
    have HF : Hid (f = mayV m y a s q) := hf
    clear hv hf
    by_cases hf0 : f = 0
    all_goals
      have HQ : Hid (f = 0 → v = q) := hw
      clear hw
      go_enter Try.func5, Try.ntmps5
      go_wp2_with (first
        | (go_at_call 8; refine (may_any _ _ _ _ _ _ _ w3).mono ?_; rw [← HF.out]; rintro e4 w4 ⟨rfl, hk4⟩)
        | (go_at_call 8; refine (may_any _ _ _ _ _ _ _ w2).mono ?_; rw [HM.out]; rintro e3 w3 ⟨rfl, hk3⟩; have x0 := (hB.kept (hk2.tr hk3)).c0; have x1 := (hB.kept (hk2.tr hk3)).c1; have x2 := (hB.kept (hk2.tr hk3)).c2; have z0 := (hS.kept (hk2.tr hk3)).c0; have z1 := (hS.kept (hk2.tr hk3)).c1; have z2 := (hS.kept (hk2.tr hk3)).c2)
        | (go_at_call 7; refine (want_any _ _ _ _ _ _ _ w1).mono ?_; rw [← HV.out]; rintro e2 w2 ⟨rfl, hk2⟩; have x0 := (hB.kept hk2).c0; have x1 := (hB.kept hk2).c1; have x2 := (hB.kept hk2).c2; have z0 := (hS.kept hk2).c0; have z1 := (hS.kept hk2).c1; have z2 := (hS.kept hk2).c2)
        | (go_at_call 10; refine (alive_any _).mono ?_; rintro e1 w1 ⟨rfl, hk1⟩; have hB := ((box_alloc w (.int .u8 k) (.int .i64 m) (.int .i64 y) 23).kept (Kept.alloc _ _ _ _ _)).kept hk1; have hS := (box_alloc (w.alloc (.cells #[.int .u8 k, .int .i64 m, .int .i64 y] 23)) (.int .u8 a) (.int .i64 s) (.int .i64 e) 26).kept hk1; have hsz : (w.alloc (.cells #[.int .u8 k, .int .i64 m, .int .i64 y] 23)).heap.size = w.heap.size + 1 := by {simp}; rw [hsz] at hS; have x0 := hB.c0; have x1 := hB.c1; have x2 := hB.c2; have z0 := hS.c0; have z1 := hS.c1; have z2 := hS.c2))
      all_goals first
        | (have hvq : f = 0 → v = q := HQ.out; go_ret; refine ⟨ret_bool ?_, ((hK0.tr hk1).tr (hk2.tr hk3)).tr hk4⟩; simp_all; done)
        | (exfalso; simp_all; done)
        | (exfalso; simp_all; omega)
  · by_cases h0 : a < 1
    all_goals
      go_enter Try.func5, Try.ntmps5
      go_wp2_with (first
        | (go_at_call 10; refine (alive_any _).mono ?_; rintro e1 w1 ⟨rfl, hk1⟩; have hB := ((box_alloc w (.int .u8 k) (.int .i64 m) (.int .i64 y) 23).kept (Kept.alloc _ _ _ _ _)).kept hk1; have hS := (box_alloc (w.alloc (.cells #[.int .u8 k, .int .i64 m, .int .i64 y] 23)) (.int .u8 a) (.int .i64 s) (.int .i64 e) 26).kept hk1; have hsz : (w.alloc (.cells #[.int .u8 k, .int .i64 m, .int .i64 y] 23)).heap.size = w.heap.size + 1 := by {simp}; rw [hsz] at hS; have z0 := hS.c0; have z1 := hS.c1; have z2 := hS.c2))
      go_ret
      exact ⟨rfl, hK0.tr hk1⟩

end Go.Proofs.Ytpokkeobnflijaa
