/-
  THE CONTRACT of seen, whatever is done to older blocks (made by a program).
-/
import Derived.Test.YtjfajdmifjbblaaDoorBox14
namespace Go.Proofs.YtjfajdmifjbblaaDoor
open Go.RowKit Go.Lib Go.Deep
set_option linter.unusedVariables false
set_option linter.unusedSimpArgs false

set_option maxRecDepth 100000 in
set_option maxHeartbeats 1000000 in
theorem seen14_st {w : World} : Calls Tryd.prog 8 #[] w fun e w' => ∃ X, e = .returned (siteV X S14) ∧ (∀ w'', LtrZ w.heap.size w' w'' → Sat w'' X S14) ∧ Kept w w' none := by
  go_enter Tryd.func8, Tryd.ntmps8
  have hW : ∃ W, W = (((((((((w.alloc (.cells #[.int .i64 0, .slice (some ⟨w.heap.size + 1 + 1, 0, none⟩) 2 2, .slice (some ⟨w.heap.size + 1 + 1 + 1, 0, none⟩) 2 2, .slice (some ⟨w.heap.size + 1 + 1 + 1 + 1 + 1 + 1, 0, none⟩) 2 2, .slice (some ⟨w.heap.size + 1 + 1 + 1 + 1 + 1 + 1 + 1, 0, none⟩) 2 2, .slice (some ⟨w.heap.size + 1 + 1 + 1 + 1 + 1 + 1 + 1 + 1, 0, none⟩) 1 1, .int .i64 3, .int .i64 2, .int .i64 4, .int .i64 8, .int .i64 20, .slice none 0 0] 29)).alloc (.cells #[.int .u8 1, .int .i64 2, .int .i64 1] 60)).alloc (.cells #[.int .u8 1, .int .i64 2, .int .i64 1, .int .u8 1, .int .i64 2, .int .i64 1] 60)).alloc (.cells #[.int .u32 2, .int .u32 1] 32)).alloc (.cells #[.int .i64 0, .int .i64 2] 3)).alloc (.cells #[.int .i64 2, .int .i64 0] 3)).alloc (.cells #[.slice (some ⟨w.heap.size + 1 + 1 + 1 + 1, 0, none⟩) 2 2, .slice (some ⟨w.heap.size + 1 + 1 + 1 + 1 + 1, 0, none⟩) 2 2] 61)).alloc (.cells #[.int .u32 1, .int .i64 2, .int .i64 5, .int .i64 1, .bool false, .int .u32 2, .int .i64 2, .int .i64 5, .int .i64 1, .bool true] 51)).alloc (.cells #[.int .i64 0, .int .i64 3, .int .i64 9, .int .i64 2] 53)) := ⟨_, rfl⟩
  obtain ⟨W, hW⟩ := hW
  have hk : Kept w W none := by
    rw [hW]
    exact (((((((((Kept.alloc w _ _ (0, 0) _)).tr (Kept.alloc _ _ _ (0, 0) _)).tr (Kept.alloc _ _ _ (0, 0) _)).tr (Kept.alloc _ _ _ (0, 0) _)).tr (Kept.alloc _ _ _ (0, 0) _)).tr (Kept.alloc _ _ _ (0, 0) _)).tr (Kept.alloc _ _ _ (0, 0) _)).tr (Kept.alloc _ _ _ (0, 0) _)).tr (Kept.alloc _ _ _ (0, 0) _)
  have hs : W.heap.size = w.heap.size + 9 := by rw [hW]; simp
  have c0x0 : W.cell? ⟨w.heap.size, 0, none⟩ = some (.int .i64 0) := by rw [hW]; go_simp
  have c0x1 : W.cell? ⟨w.heap.size, 1, none⟩ = some (.slice (some ⟨w.heap.size + 1 + 1, 0, none⟩) 2 2) := by rw [hW]; go_simp
  have c0x2 : W.cell? ⟨w.heap.size, 2, none⟩ = some (.slice (some ⟨w.heap.size + 1 + 1 + 1, 0, none⟩) 2 2) := by rw [hW]; go_simp
  have c0x3 : W.cell? ⟨w.heap.size, 3, none⟩ = some (.slice (some ⟨w.heap.size + 1 + 1 + 1 + 1 + 1 + 1, 0, none⟩) 2 2) := by rw [hW]; go_simp
  have c0x4 : W.cell? ⟨w.heap.size, 4, none⟩ = some (.slice (some ⟨w.heap.size + 1 + 1 + 1 + 1 + 1 + 1 + 1, 0, none⟩) 2 2) := by rw [hW]; go_simp
  have c0x5 : W.cell? ⟨w.heap.size, 5, none⟩ = some (.slice (some ⟨w.heap.size + 1 + 1 + 1 + 1 + 1 + 1 + 1 + 1, 0, none⟩) 1 1) := by rw [hW]; go_simp
  have c0x6 : W.cell? ⟨w.heap.size, 6, none⟩ = some (.int .i64 3) := by rw [hW]; go_simp
  have c0x7 : W.cell? ⟨w.heap.size, 7, none⟩ = some (.int .i64 2) := by rw [hW]; go_simp
  have c0x8 : W.cell? ⟨w.heap.size, 8, none⟩ = some (.int .i64 4) := by rw [hW]; go_simp
  have c0x9 : W.cell? ⟨w.heap.size, 9, none⟩ = some (.int .i64 8) := by rw [hW]; go_simp
  have c0x10 : W.cell? ⟨w.heap.size, 10, none⟩ = some (.int .i64 20) := by rw [hW]; go_simp
  have c0x11 : W.cell? ⟨w.heap.size, 11, none⟩ = some (.slice none 0 0) := by rw [hW]; go_simp
  have c1x0 : W.cell? ⟨w.heap.size + 1, 0, none⟩ = some (.int .u8 1) := by rw [hW]; go_simp
  have c1x1 : W.cell? ⟨w.heap.size + 1, 1, none⟩ = some (.int .i64 2) := by rw [hW]; go_simp
  have c1x2 : W.cell? ⟨w.heap.size + 1, 2, none⟩ = some (.int .i64 1) := by rw [hW]; go_simp
  have c2x0 : W.cell? ⟨w.heap.size + 1 + 1, 0, none⟩ = some (.int .u8 1) := by rw [hW]; go_simp
  have c2x1 : W.cell? ⟨w.heap.size + 1 + 1, 1, none⟩ = some (.int .i64 2) := by rw [hW]; go_simp
  have c2x2 : W.cell? ⟨w.heap.size + 1 + 1, 2, none⟩ = some (.int .i64 1) := by rw [hW]; go_simp
  have c2x3 : W.cell? ⟨w.heap.size + 1 + 1, 3, none⟩ = some (.int .u8 1) := by rw [hW]; go_simp
  have c2x4 : W.cell? ⟨w.heap.size + 1 + 1, 4, none⟩ = some (.int .i64 2) := by rw [hW]; go_simp
  have c2x5 : W.cell? ⟨w.heap.size + 1 + 1, 5, none⟩ = some (.int .i64 1) := by rw [hW]; go_simp
  have c3x0 : W.cell? ⟨w.heap.size + 1 + 1 + 1, 0, none⟩ = some (.int .u32 2) := by rw [hW]; go_simp
  have c3x1 : W.cell? ⟨w.heap.size + 1 + 1 + 1, 1, none⟩ = some (.int .u32 1) := by rw [hW]; go_simp
  have c4x0 : W.cell? ⟨w.heap.size + 1 + 1 + 1 + 1, 0, none⟩ = some (.int .i64 0) := by rw [hW]; go_simp
  have c4x1 : W.cell? ⟨w.heap.size + 1 + 1 + 1 + 1, 1, none⟩ = some (.int .i64 2) := by rw [hW]; go_simp
  have c5x0 : W.cell? ⟨w.heap.size + 1 + 1 + 1 + 1 + 1, 0, none⟩ = some (.int .i64 2) := by rw [hW]; go_simp
  have c5x1 : W.cell? ⟨w.heap.size + 1 + 1 + 1 + 1 + 1, 1, none⟩ = some (.int .i64 0) := by rw [hW]; go_simp
  have c6x0 : W.cell? ⟨w.heap.size + 1 + 1 + 1 + 1 + 1 + 1, 0, none⟩ = some (.slice (some ⟨w.heap.size + 1 + 1 + 1 + 1, 0, none⟩) 2 2) := by rw [hW]; go_simp
  have c6x1 : W.cell? ⟨w.heap.size + 1 + 1 + 1 + 1 + 1 + 1, 1, none⟩ = some (.slice (some ⟨w.heap.size + 1 + 1 + 1 + 1 + 1, 0, none⟩) 2 2) := by rw [hW]; go_simp
  have c7x0 : W.cell? ⟨w.heap.size + 1 + 1 + 1 + 1 + 1 + 1 + 1, 0, none⟩ = some (.int .u32 1) := by rw [hW]; go_simp
  have c7x1 : W.cell? ⟨w.heap.size + 1 + 1 + 1 + 1 + 1 + 1 + 1, 1, none⟩ = some (.int .i64 2) := by rw [hW]; go_simp
  have c7x2 : W.cell? ⟨w.heap.size + 1 + 1 + 1 + 1 + 1 + 1 + 1, 2, none⟩ = some (.int .i64 5) := by rw [hW]; go_simp
  have c7x3 : W.cell? ⟨w.heap.size + 1 + 1 + 1 + 1 + 1 + 1 + 1, 3, none⟩ = some (.int .i64 1) := by rw [hW]; go_simp
  have c7x4 : W.cell? ⟨w.heap.size + 1 + 1 + 1 + 1 + 1 + 1 + 1, 4, none⟩ = some (.bool false) := by rw [hW]; go_simp
  have c7x5 : W.cell? ⟨w.heap.size + 1 + 1 + 1 + 1 + 1 + 1 + 1, 5, none⟩ = some (.int .u32 2) := by rw [hW]; go_simp
  have c7x6 : W.cell? ⟨w.heap.size + 1 + 1 + 1 + 1 + 1 + 1 + 1, 6, none⟩ = some (.int .i64 2) := by rw [hW]; go_simp
  have c7x7 : W.cell? ⟨w.heap.size + 1 + 1 + 1 + 1 + 1 + 1 + 1, 7, none⟩ = some (.int .i64 5) := by rw [hW]; go_simp
  have c7x8 : W.cell? ⟨w.heap.size + 1 + 1 + 1 + 1 + 1 + 1 + 1, 8, none⟩ = some (.int .i64 1) := by rw [hW]; go_simp
  have c7x9 : W.cell? ⟨w.heap.size + 1 + 1 + 1 + 1 + 1 + 1 + 1, 9, none⟩ = some (.bool true) := by rw [hW]; go_simp
  have c8x0 : W.cell? ⟨w.heap.size + 1 + 1 + 1 + 1 + 1 + 1 + 1 + 1, 0, none⟩ = some (.int .i64 0) := by rw [hW]; go_simp
  have c8x1 : W.cell? ⟨w.heap.size + 1 + 1 + 1 + 1 + 1 + 1 + 1 + 1, 1, none⟩ = some (.int .i64 3) := by rw [hW]; go_simp
  have c8x2 : W.cell? ⟨w.heap.size + 1 + 1 + 1 + 1 + 1 + 1 + 1 + 1, 2, none⟩ = some (.int .i64 9) := by rw [hW]; go_simp
  have c8x3 : W.cell? ⟨w.heap.size + 1 + 1 + 1 + 1 + 1 + 1 + 1 + 1, 3, none⟩ = some (.int .i64 2) := by rw [hW]; go_simp
  go_wp2
  rw [← hW]
  clear hW
  refine bodyPost_ret (v := .agg #[.int .i64 0, .slice (some ⟨w.heap.size + 1 + 1, 0, none⟩) 2 2, .slice (some ⟨w.heap.size + 1 + 1 + 1, 0, none⟩) 2 2, .slice (some ⟨w.heap.size + 1 + 1 + 1 + 1 + 1 + 1, 0, none⟩) 2 2, .slice (some ⟨w.heap.size + 1 + 1 + 1 + 1 + 1 + 1 + 1, 0, none⟩) 2 2, .slice (some ⟨w.heap.size + 1 + 1 + 1 + 1 + 1 + 1 + 1 + 1, 0, none⟩) 1 1, .int .i64 3, .int .i64 2, .int .i64 4, .int .i64 8, .int .i64 20, .slice none 0 0]) (by simp [results, Tryd.results8, go_sem, c0x0, c0x1, c0x2, c0x3, c0x4, c0x5, c0x6, c0x7, c0x8, c0x9, c0x10, c0x11]) rfl ?_
  refine ⟨⟨some ⟨w.heap.size + 1 + 1, 0, none⟩, 2, some ⟨w.heap.size + 1 + 1 + 1, 0, none⟩, 2, some ⟨w.heap.size + 1 + 1 + 1 + 1 + 1 + 1, 0, none⟩, 2, some ⟨w.heap.size + 1 + 1 + 1 + 1 + 1 + 1 + 1, 0, none⟩, 2, some ⟨w.heap.size + 1 + 1 + 1 + 1 + 1 + 1 + 1 + 1, 0, none⟩, 1, none, 0⟩, rfl, ?_, hk⟩
  intro w2 hq
  have hs2 : w.heap.size + 9 ≤ w2.heap.size := by have := hq.size; omega
  replace c0x0 := hq.cell c0x0 (by omega)
  replace c0x1 := hq.cell c0x1 (by omega)
  replace c0x2 := hq.cell c0x2 (by omega)
  replace c0x3 := hq.cell c0x3 (by omega)
  replace c0x4 := hq.cell c0x4 (by omega)
  replace c0x5 := hq.cell c0x5 (by omega)
  replace c0x6 := hq.cell c0x6 (by omega)
  replace c0x7 := hq.cell c0x7 (by omega)
  replace c0x8 := hq.cell c0x8 (by omega)
  replace c0x9 := hq.cell c0x9 (by omega)
  replace c0x10 := hq.cell c0x10 (by omega)
  replace c0x11 := hq.cell c0x11 (by omega)
  replace c1x0 := hq.cell c1x0 (by omega)
  replace c1x1 := hq.cell c1x1 (by omega)
  replace c1x2 := hq.cell c1x2 (by omega)
  replace c2x0 := hq.cell c2x0 (by omega)
  replace c2x1 := hq.cell c2x1 (by omega)
  replace c2x2 := hq.cell c2x2 (by omega)
  replace c2x3 := hq.cell c2x3 (by omega)
  replace c2x4 := hq.cell c2x4 (by omega)
  replace c2x5 := hq.cell c2x5 (by omega)
  replace c3x0 := hq.cell c3x0 (by omega)
  replace c3x1 := hq.cell c3x1 (by omega)
  replace c4x0 := hq.cell c4x0 (by omega)
  replace c4x1 := hq.cell c4x1 (by omega)
  replace c5x0 := hq.cell c5x0 (by omega)
  replace c5x1 := hq.cell c5x1 (by omega)
  replace c6x0 := hq.cell c6x0 (by omega)
  replace c6x1 := hq.cell c6x1 (by omega)
  replace c7x0 := hq.cell c7x0 (by omega)
  replace c7x1 := hq.cell c7x1 (by omega)
  replace c7x2 := hq.cell c7x2 (by omega)
  replace c7x3 := hq.cell c7x3 (by omega)
  replace c7x4 := hq.cell c7x4 (by omega)
  replace c7x5 := hq.cell c7x5 (by omega)
  replace c7x6 := hq.cell c7x6 (by omega)
  replace c7x7 := hq.cell c7x7 (by omega)
  replace c7x8 := hq.cell c7x8 (by omega)
  replace c7x9 := hq.cell c7x9 (by omega)
  replace c8x0 := hq.cell c8x0 (by omega)
  replace c8x1 := hq.cell c8x1 (by omega)
  replace c8x2 := hq.cell c8x2 (by omega)
  replace c8x3 := hq.cell c8x3 (by omega)
  clear hs
  have hs := hs2
  have hi : ∀ x : Int, -1000 ≤ x → x ≤ 1000 → i64B x := fun x h1 h2 => by unfold i64B; omega
  constructor
  · exact lie_of (by omega) (two_cases (fun j hj => by
      have : j = 0 ∨ j = 1 ∨ j = 2 := by omega
      rcases this with rfl | rfl | rfl
      · exact c2x0
      · exact c2x1
      · exact c2x2) (fun j hj => by
      have : j = 0 ∨ j = 1 ∨ j = 2 := by omega
      rcases this with rfl | rfl | rfl
      · exact c2x3
      · exact c2x4
      · exact c2x5))
  · exact lie_of (by omega) (two_cases (fun j hj => by
      have : j = 0 := by omega
      subst this; exact c3x0) (fun j hj => by
      have : j = 0 := by omega
      subst this; exact c3x1))
  · refine ⟨⟨fun i => if i = 0 then (some ⟨w.heap.size + 1 + 1 + 1 + 1, 0, none⟩, 2) else (some ⟨w.heap.size + 1 + 1 + 1 + 1 + 1, 0, none⟩, 2), ?_, ?_⟩, rfl, cap_some (show 2 ≤ 1000 by omega)⟩
    · exact lie_of (by omega) (two_cases (fun j hj => by
        have : j = 0 := by omega
        subst this; exact c6x0) (fun j hj => by
        have : j = 0 := by omega
        subst this; exact c6x1))
    · refine two_cases ⟨lie_of (by omega) (two_cases (fun j hj => by
        have : j = 0 := by omega
        subst this; exact c4x0) (fun j hj => by
        have : j = 0 := by omega
        subst this; exact c4x1)), rfl, cap_some (show 2 ≤ 1000 by omega), ?_⟩ ⟨lie_of (by omega) (two_cases (fun j hj => by
        have : j = 0 := by omega
        subst this; exact c5x0) (fun j hj => by
        have : j = 0 := by omega
        subst this; exact c5x1)), rfl, cap_some (show 2 ≤ 1000 by omega), ?_⟩
      · intro x hx
        have : x = 0 ∨ x = 2 := by simpa [S14] using hx
        omega
      · intro x hx
        have : x = 2 ∨ x = 0 := by simpa [S14] using hx
        omega
  · exact lie_of (by omega) (two_cases (fun j hj => by
      have : j = 0 ∨ j = 1 ∨ j = 2 ∨ j = 3 ∨ j = 4 := by omega
      rcases this with rfl | rfl | rfl | rfl | rfl
      · exact c7x0
      · exact c7x1
      · exact c7x2
      · exact c7x3
      · exact c7x4) (fun j hj => by
      have : j = 0 ∨ j = 1 ∨ j = 2 ∨ j = 3 ∨ j = 4 := by omega
      rcases this with rfl | rfl | rfl | rfl | rfl
      · exact c7x5
      · exact c7x6
      · exact c7x7
      · exact c7x8
      · exact c7x9))
  · exact lie_of (by omega) (fun i hi j hj => by
      obtain rfl : i = 0 := by have h1 : i < 1 := hi; omega
      have : j = 0 ∨ j = 1 ∨ j = 2 ∨ j = 3 := by omega
      rcases this with rfl | rfl | rfl | rfl
      · exact c8x0
      · exact c8x1
      · exact c8x2
      · exact c8x3)
  · exact ⟨⟨fun _ => (none, 0), ⟨fun hp => absurd hp (by decide)⟩, fun i hi => absurd hi (Nat.not_lt_zero i)⟩, rfl, ⟨fun _ => ⟨rfl, rfl⟩, Nat.le_refl _, Nat.zero_le _⟩, fun p hp => by cases hp⟩
  · exact cap_some (show 2 ≤ 1000 by omega)
  · exact cap_some (show 2 ≤ 1000 by omega)
  · exact cap_some (show 2 ≤ 1000 by omega)
  · exact cap_some (show 1 ≤ 1000 by omega)
  · intro g hg
    have : g = ⟨1, 2, 1⟩ := by simpa [S14] using hg
    subst this
    exact ⟨by decide, hi _ (by decide) (by decide), hi _ (by decide) (by decide)⟩
  · intro x hx
    have : x = 2 ∨ x = 1 := by simpa [S14] using hx
    omega
  · intro p hp
    have : p = ⟨1, 2, 5, 1, false⟩ ∨ p = ⟨2, 2, 5, 1, true⟩ := by simpa [S14] using hp
    rcases this with rfl | rfl
    · exact ⟨by decide, hi _ (by decide) (by decide), hi _ (by decide) (by decide), hi _ (by decide) (by decide)⟩
    · exact ⟨by decide, hi _ (by decide) (by decide), hi _ (by decide) (by decide), hi _ (by decide) (by decide)⟩
  · intro e he
    have : e = ⟨0, 3, 9, 2⟩ := by simpa [S14] using he
    subst this
    exact ⟨hi _ (by decide) (by decide), hi _ (by decide) (by decide), hi _ (by decide) (by decide), hi _ (by decide) (by decide)⟩
  · exact ⟨hi _ (by decide) (by decide), hi _ (by decide) (by decide), hi _ (by decide) (by decide), hi _ (by decide) (by decide), hi _ (by decide) (by decide), hi _ (by decide) (by decide)⟩

end Go.Proofs.YtjfajdmifjbblaaDoor
