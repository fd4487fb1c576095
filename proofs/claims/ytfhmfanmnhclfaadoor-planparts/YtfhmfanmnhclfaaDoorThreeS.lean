/-
  Texts joined: some of those that the proofs of this seat stand on.
-/
import Derived.Test.YtfhmfanmnhclfaaDoorSafeFJ
/-
  THE CONTRACT of three, of the statements (made by a program).
-/
namespace Go.Proofs.YtfhmfanmnhclfaaDoor
open Go.RowKit Go.Lib Go.Deep
set_option linter.unusedVariables false
set_option linter.unusedSimpArgs false

/-- The chapter's site. -/
def S15 : St := ⟨1, [⟨1, 2, 1⟩, ⟨1, 2, 1⟩, ⟨2, 3, 2⟩], [6, 1, 1], [[0, 2, 3], [2, 0, 0], [4, 0, 0]], [⟨1, 2, 9, 1, false⟩, ⟨6, 3, 9, 1, false⟩], [], 9, 2, 3, 30, 60, []⟩
theorem s15_may : siteB S15 = true := by decide +kernel
theorem cap8 {a : Addr} {n : Nat} (h : n ≤ 1000) : Cap (some a) n n := ⟨fun e => (nomatch e), Nat.le_refl _, by omega⟩
theorem lie_of8 {w : World} {g n K : Nat} {F : Nat → Nat → Value} (hb : g < w.heap.size) (h : ∀ i, i < n → ∀ j, j < K → w.cell? ⟨g, i * K + j, none⟩ = some (F i j)) : Lie w (some ⟨g, 0, none⟩) n K F :=
  ⟨fun _ => ⟨g, 0, rfl, hb, fun i hi j hj => by rw [Nat.zero_add]; exact h i hi j hj⟩⟩
theorem two_cases {P : Nat → Prop} (h0 : P 0) (h1 : P 1) : ∀ i, i < 2 → P i := fun i hi => by
  have : i = 0 ∨ i = 1 := by omega
  rcases this with rfl | rfl
  · exact h0
  · exact h1
theorem three_cases {P : Nat → Prop} (h0 : P 0) (h1 : P 1) (h2 : P 2) : ∀ i, i < 3 → P i := fun i hi => by
  have : i = 0 ∨ i = 1 ∨ i = 2 := by omega
  rcases this with rfl | rfl | rfl
  · exact h0
  · exact h1
  · exact h2
set_option maxRecDepth 100000 in
set_option maxHeartbeats 1000000 in
theorem three_any {w : World} : Calls Tryd.prog 9 #[] w fun e w' => ∃ X, e = .returned (siteV X S15) ∧ Sat w' X S15 ∧ Kept w w' none := by
  go_enter Tryd.func9, Tryd.ntmps9
  have hW : ∃ W, W = ((((((((((w.alloc (.cells #[.int .i64 1, .slice (some ⟨w.heap.size + 1 + 1 + 1, 0, none⟩) 3 3, .slice (some ⟨w.heap.size + 1 + 1 + 1 + 1, 0, none⟩) 3 3, .slice (some ⟨w.heap.size + 1 + 1 + 1 + 1 + 1 + 1 + 1 + 1, 0, none⟩) 3 3, .slice (some ⟨w.heap.size + 1 + 1 + 1 + 1 + 1 + 1 + 1 + 1 + 1, 0, none⟩) 2 2, .slice none 0 0, .int .i64 9, .int .i64 2, .int .i64 3, .int .i64 30, .int .i64 60, .slice none 0 0] 35)).alloc (.cells #[.int .u8 1, .int .i64 2, .int .i64 1] 77)).alloc (.cells #[.int .u8 2, .int .i64 3, .int .i64 2] 77)).alloc (.cells #[.int .u8 1, .int .i64 2, .int .i64 1, .int .u8 1, .int .i64 2, .int .i64 1, .int .u8 2, .int .i64 3, .int .i64 2] 77)).alloc (.cells #[.int .u32 6, .int .u32 1, .int .u32 1] 78)).alloc (.cells #[.int .i64 0, .int .i64 2, .int .i64 3] 3)).alloc (.cells #[.int .i64 2, .int .i64 0, .int .i64 0] 3)).alloc (.cells #[.int .i64 4, .int .i64 0, .int .i64 0] 3)).alloc (.cells #[.slice (some ⟨w.heap.size + 1 + 1 + 1 + 1 + 1, 0, none⟩) 3 3, .slice (some ⟨w.heap.size + 1 + 1 + 1 + 1 + 1 + 1, 0, none⟩) 3 3, .slice (some ⟨w.heap.size + 1 + 1 + 1 + 1 + 1 + 1 + 1, 0, none⟩) 3 3] 22)).alloc (.cells #[.int .u32 1, .int .i64 2, .int .i64 9, .int .i64 1, .bool false, .int .u32 6, .int .i64 3, .int .i64 9, .int .i64 1, .bool false] 80)) := ⟨_, rfl⟩
  obtain ⟨W, hW⟩ := hW
  have hk : Kept w W none := by
    rw [hW]
    exact ((((((((((Kept.alloc w _ _ (0, 0) _).tr (Kept.alloc _ _ _ (0, 0) _)).tr (Kept.alloc _ _ _ (0, 0) _)).tr (Kept.alloc _ _ _ (0, 0) _)).tr (Kept.alloc _ _ _ (0, 0) _)).tr (Kept.alloc _ _ _ (0, 0) _)).tr (Kept.alloc _ _ _ (0, 0) _)).tr (Kept.alloc _ _ _ (0, 0) _)).tr (Kept.alloc _ _ _ (0, 0) _)).tr (Kept.alloc _ _ _ (0, 0) _))
  have hs : W.heap.size = w.heap.size + 10 := by rw [hW]; simp
  have c0x0 : W.cell? ⟨w.heap.size, 0, none⟩ = some (.int .i64 1) := by rw [hW]; go_simp
  have c0x1 : W.cell? ⟨w.heap.size, 1, none⟩ = some (.slice (some ⟨w.heap.size + 1 + 1 + 1, 0, none⟩) 3 3) := by rw [hW]; go_simp
  have c0x2 : W.cell? ⟨w.heap.size, 2, none⟩ = some (.slice (some ⟨w.heap.size + 1 + 1 + 1 + 1, 0, none⟩) 3 3) := by rw [hW]; go_simp
  have c0x3 : W.cell? ⟨w.heap.size, 3, none⟩ = some (.slice (some ⟨w.heap.size + 1 + 1 + 1 + 1 + 1 + 1 + 1 + 1, 0, none⟩) 3 3) := by rw [hW]; go_simp
  have c0x4 : W.cell? ⟨w.heap.size, 4, none⟩ = some (.slice (some ⟨w.heap.size + 1 + 1 + 1 + 1 + 1 + 1 + 1 + 1 + 1, 0, none⟩) 2 2) := by rw [hW]; go_simp
  have c0x5 : W.cell? ⟨w.heap.size, 5, none⟩ = some (.slice none 0 0) := by rw [hW]; go_simp
  have c0x6 : W.cell? ⟨w.heap.size, 6, none⟩ = some (.int .i64 9) := by rw [hW]; go_simp
  have c0x7 : W.cell? ⟨w.heap.size, 7, none⟩ = some (.int .i64 2) := by rw [hW]; go_simp
  have c0x8 : W.cell? ⟨w.heap.size, 8, none⟩ = some (.int .i64 3) := by rw [hW]; go_simp
  have c0x9 : W.cell? ⟨w.heap.size, 9, none⟩ = some (.int .i64 30) := by rw [hW]; go_simp
  have c0x10 : W.cell? ⟨w.heap.size, 10, none⟩ = some (.int .i64 60) := by rw [hW]; go_simp
  have c0x11 : W.cell? ⟨w.heap.size, 11, none⟩ = some (.slice none 0 0) := by rw [hW]; go_simp
  have c3x0 : W.cell? ⟨w.heap.size + 1 + 1 + 1, 0, none⟩ = some (.int .u8 1) := by rw [hW]; go_simp
  have c3x1 : W.cell? ⟨w.heap.size + 1 + 1 + 1, 1, none⟩ = some (.int .i64 2) := by rw [hW]; go_simp
  have c3x2 : W.cell? ⟨w.heap.size + 1 + 1 + 1, 2, none⟩ = some (.int .i64 1) := by rw [hW]; go_simp
  have c3x3 : W.cell? ⟨w.heap.size + 1 + 1 + 1, 3, none⟩ = some (.int .u8 1) := by rw [hW]; go_simp
  have c3x4 : W.cell? ⟨w.heap.size + 1 + 1 + 1, 4, none⟩ = some (.int .i64 2) := by rw [hW]; go_simp
  have c3x5 : W.cell? ⟨w.heap.size + 1 + 1 + 1, 5, none⟩ = some (.int .i64 1) := by rw [hW]; go_simp
  have c3x6 : W.cell? ⟨w.heap.size + 1 + 1 + 1, 6, none⟩ = some (.int .u8 2) := by rw [hW]; go_simp
  have c3x7 : W.cell? ⟨w.heap.size + 1 + 1 + 1, 7, none⟩ = some (.int .i64 3) := by rw [hW]; go_simp
  have c3x8 : W.cell? ⟨w.heap.size + 1 + 1 + 1, 8, none⟩ = some (.int .i64 2) := by rw [hW]; go_simp
  have c4x0 : W.cell? ⟨w.heap.size + 1 + 1 + 1 + 1, 0, none⟩ = some (.int .u32 6) := by rw [hW]; go_simp
  have c4x1 : W.cell? ⟨w.heap.size + 1 + 1 + 1 + 1, 1, none⟩ = some (.int .u32 1) := by rw [hW]; go_simp
  have c4x2 : W.cell? ⟨w.heap.size + 1 + 1 + 1 + 1, 2, none⟩ = some (.int .u32 1) := by rw [hW]; go_simp
  have c5x0 : W.cell? ⟨w.heap.size + 1 + 1 + 1 + 1 + 1, 0, none⟩ = some (.int .i64 0) := by rw [hW]; go_simp
  have c5x1 : W.cell? ⟨w.heap.size + 1 + 1 + 1 + 1 + 1, 1, none⟩ = some (.int .i64 2) := by rw [hW]; go_simp
  have c5x2 : W.cell? ⟨w.heap.size + 1 + 1 + 1 + 1 + 1, 2, none⟩ = some (.int .i64 3) := by rw [hW]; go_simp
  have c6x0 : W.cell? ⟨w.heap.size + 1 + 1 + 1 + 1 + 1 + 1, 0, none⟩ = some (.int .i64 2) := by rw [hW]; go_simp
  have c6x1 : W.cell? ⟨w.heap.size + 1 + 1 + 1 + 1 + 1 + 1, 1, none⟩ = some (.int .i64 0) := by rw [hW]; go_simp
  have c6x2 : W.cell? ⟨w.heap.size + 1 + 1 + 1 + 1 + 1 + 1, 2, none⟩ = some (.int .i64 0) := by rw [hW]; go_simp
  have c7x0 : W.cell? ⟨w.heap.size + 1 + 1 + 1 + 1 + 1 + 1 + 1, 0, none⟩ = some (.int .i64 4) := by rw [hW]; go_simp
  have c7x1 : W.cell? ⟨w.heap.size + 1 + 1 + 1 + 1 + 1 + 1 + 1, 1, none⟩ = some (.int .i64 0) := by rw [hW]; go_simp
  have c7x2 : W.cell? ⟨w.heap.size + 1 + 1 + 1 + 1 + 1 + 1 + 1, 2, none⟩ = some (.int .i64 0) := by rw [hW]; go_simp
  have c8x0 : W.cell? ⟨w.heap.size + 1 + 1 + 1 + 1 + 1 + 1 + 1 + 1, 0, none⟩ = some (.slice (some ⟨w.heap.size + 1 + 1 + 1 + 1 + 1, 0, none⟩) 3 3) := by rw [hW]; go_simp
  have c8x1 : W.cell? ⟨w.heap.size + 1 + 1 + 1 + 1 + 1 + 1 + 1 + 1, 1, none⟩ = some (.slice (some ⟨w.heap.size + 1 + 1 + 1 + 1 + 1 + 1, 0, none⟩) 3 3) := by rw [hW]; go_simp
  have c8x2 : W.cell? ⟨w.heap.size + 1 + 1 + 1 + 1 + 1 + 1 + 1 + 1, 2, none⟩ = some (.slice (some ⟨w.heap.size + 1 + 1 + 1 + 1 + 1 + 1 + 1, 0, none⟩) 3 3) := by rw [hW]; go_simp
  have c9x0 : W.cell? ⟨w.heap.size + 1 + 1 + 1 + 1 + 1 + 1 + 1 + 1 + 1, 0, none⟩ = some (.int .u32 1) := by rw [hW]; go_simp
  have c9x1 : W.cell? ⟨w.heap.size + 1 + 1 + 1 + 1 + 1 + 1 + 1 + 1 + 1, 1, none⟩ = some (.int .i64 2) := by rw [hW]; go_simp
  have c9x2 : W.cell? ⟨w.heap.size + 1 + 1 + 1 + 1 + 1 + 1 + 1 + 1 + 1, 2, none⟩ = some (.int .i64 9) := by rw [hW]; go_simp
  have c9x3 : W.cell? ⟨w.heap.size + 1 + 1 + 1 + 1 + 1 + 1 + 1 + 1 + 1, 3, none⟩ = some (.int .i64 1) := by rw [hW]; go_simp
  have c9x4 : W.cell? ⟨w.heap.size + 1 + 1 + 1 + 1 + 1 + 1 + 1 + 1 + 1, 4, none⟩ = some (.bool false) := by rw [hW]; go_simp
  have c9x5 : W.cell? ⟨w.heap.size + 1 + 1 + 1 + 1 + 1 + 1 + 1 + 1 + 1, 5, none⟩ = some (.int .u32 6) := by rw [hW]; go_simp
  have c9x6 : W.cell? ⟨w.heap.size + 1 + 1 + 1 + 1 + 1 + 1 + 1 + 1 + 1, 6, none⟩ = some (.int .i64 3) := by rw [hW]; go_simp
  have c9x7 : W.cell? ⟨w.heap.size + 1 + 1 + 1 + 1 + 1 + 1 + 1 + 1 + 1, 7, none⟩ = some (.int .i64 9) := by rw [hW]; go_simp
  have c9x8 : W.cell? ⟨w.heap.size + 1 + 1 + 1 + 1 + 1 + 1 + 1 + 1 + 1, 8, none⟩ = some (.int .i64 1) := by rw [hW]; go_simp
  have c9x9 : W.cell? ⟨w.heap.size + 1 + 1 + 1 + 1 + 1 + 1 + 1 + 1 + 1, 9, none⟩ = some (.bool false) := by rw [hW]; go_simp
  go_wp2
  rw [← hW]
  clear hW
  refine bodyPost_ret (v := .agg #[.int .i64 1, .slice (some ⟨w.heap.size + 1 + 1 + 1, 0, none⟩) 3 3, .slice (some ⟨w.heap.size + 1 + 1 + 1 + 1, 0, none⟩) 3 3, .slice (some ⟨w.heap.size + 1 + 1 + 1 + 1 + 1 + 1 + 1 + 1, 0, none⟩) 3 3, .slice (some ⟨w.heap.size + 1 + 1 + 1 + 1 + 1 + 1 + 1 + 1 + 1, 0, none⟩) 2 2, .slice none 0 0, .int .i64 9, .int .i64 2, .int .i64 3, .int .i64 30, .int .i64 60, .slice none 0 0]) (by simp [results, Tryd.results9, go_sem, c0x0, c0x1, c0x2, c0x3, c0x4, c0x5, c0x6, c0x7, c0x8, c0x9, c0x10, c0x11]) rfl ?_
  refine ⟨⟨some ⟨w.heap.size + 1 + 1 + 1, 0, none⟩, 3, some ⟨w.heap.size + 1 + 1 + 1 + 1, 0, none⟩, 3, some ⟨w.heap.size + 1 + 1 + 1 + 1 + 1 + 1 + 1 + 1, 0, none⟩, 3, some ⟨w.heap.size + 1 + 1 + 1 + 1 + 1 + 1 + 1 + 1 + 1, 0, none⟩, 2, none, 0, none, 0⟩, rfl, ?_, hk⟩
  have hi : ∀ x : Int, -1000 ≤ x → x ≤ 1000 → i64B x := fun x h1 h2 => by unfold i64B; omega
  constructor
  · exact lie_of8 (by omega) (three_cases (fun j hj => by
      have : j = 0 ∨ j = 1 ∨ j = 2 := by omega
      rcases this with rfl | rfl | rfl
      · exact c3x0
      · exact c3x1
      · exact c3x2) (fun j hj => by
      have : j = 0 ∨ j = 1 ∨ j = 2 := by omega
      rcases this with rfl | rfl | rfl
      · exact c3x3
      · exact c3x4
      · exact c3x5) (fun j hj => by
      have : j = 0 ∨ j = 1 ∨ j = 2 := by omega
      rcases this with rfl | rfl | rfl
      · exact c3x6
      · exact c3x7
      · exact c3x8))
  · exact lie_of8 (by omega) (three_cases (fun j hj => by
      have : j = 0 := by omega
      subst this; exact c4x0) (fun j hj => by
      have : j = 0 := by omega
      subst this; exact c4x1) (fun j hj => by
      have : j = 0 := by omega
      subst this; exact c4x2))
  · refine ⟨⟨fun i => if i = 0 then (some ⟨w.heap.size + 1 + 1 + 1 + 1 + 1, 0, none⟩, 3) else if i = 1 then (some ⟨w.heap.size + 1 + 1 + 1 + 1 + 1 + 1, 0, none⟩, 3) else (some ⟨w.heap.size + 1 + 1 + 1 + 1 + 1 + 1 + 1, 0, none⟩, 3), ?_, ?_⟩, rfl, cap8 (show 3 ≤ 1000 by omega)⟩
    · exact lie_of8 (by omega) (three_cases (fun j hj => by
      have : j = 0 := by omega
      subst this; exact c8x0) (fun j hj => by
      have : j = 0 := by omega
      subst this; exact c8x1) (fun j hj => by
      have : j = 0 := by omega
      subst this; exact c8x2))
    · refine three_cases ⟨lie_of8 (by omega) (three_cases (fun j hj => by
      have : j = 0 := by omega
      subst this; exact c5x0) (fun j hj => by
      have : j = 0 := by omega
      subst this; exact c5x1) (fun j hj => by
      have : j = 0 := by omega
      subst this; exact c5x2)), rfl, cap8 (show 3 ≤ 1000 by omega), ?_⟩ ⟨lie_of8 (by omega) (three_cases (fun j hj => by
      have : j = 0 := by omega
      subst this; exact c6x0) (fun j hj => by
      have : j = 0 := by omega
      subst this; exact c6x1) (fun j hj => by
      have : j = 0 := by omega
      subst this; exact c6x2)), rfl, cap8 (show 3 ≤ 1000 by omega), ?_⟩ ⟨lie_of8 (by omega) (three_cases (fun j hj => by
      have : j = 0 := by omega
      subst this; exact c7x0) (fun j hj => by
      have : j = 0 := by omega
      subst this; exact c7x1) (fun j hj => by
      have : j = 0 := by omega
      subst this; exact c7x2)), rfl, cap8 (show 3 ≤ 1000 by omega), ?_⟩
      · intro x hx
        have : x = 0 ∨ x = 2 ∨ x = 3 := by simpa [S15] using hx
        omega
      · intro x hx
        have : x = 2 ∨ x = 0 := by simpa [S15] using hx
        omega
      · intro x hx
        have : x = 4 ∨ x = 0 := by simpa [S15] using hx
        omega
  · exact lie_of8 (by omega) (two_cases (fun j hj => by
      have : j = 0 ∨ j = 1 ∨ j = 2 ∨ j = 3 ∨ j = 4 := by omega
      rcases this with rfl | rfl | rfl | rfl | rfl
      · exact c9x0
      · exact c9x1
      · exact c9x2
      · exact c9x3
      · exact c9x4) (fun j hj => by
      have : j = 0 ∨ j = 1 ∨ j = 2 ∨ j = 3 ∨ j = 4 := by omega
      rcases this with rfl | rfl | rfl | rfl | rfl
      · exact c9x5
      · exact c9x6
      · exact c9x7
      · exact c9x8
      · exact c9x9))
  · exact ⟨fun hp => absurd hp (by decide)⟩
  · exact ⟨⟨fun _ => (none, 0), ⟨fun hp => absurd hp (by decide)⟩, fun i hi => absurd hi (Nat.not_lt_zero i)⟩, rfl, ⟨fun _ => ⟨rfl, rfl⟩, Nat.le_refl _, Nat.zero_le _⟩, fun p hp => by cases hp⟩
  · exact cap8 (show 3 ≤ 1000 by omega)
  · exact cap8 (show 3 ≤ 1000 by omega)
  · exact cap8 (show 2 ≤ 1000 by omega)
  · exact ⟨fun _ => ⟨rfl, rfl⟩, Nat.le_refl _, Nat.zero_le _⟩
  · intro g hg
    have : g = ⟨1, 2, 1⟩ ∨ g = ⟨2, 3, 2⟩ := by simpa [S15] using hg
    rcases this with rfl | rfl
    · exact ⟨by decide, hi _ (by decide) (by decide), hi _ (by decide) (by decide)⟩
    · exact ⟨by decide, hi _ (by decide) (by decide), hi _ (by decide) (by decide)⟩
  · intro x hx
    have : x = 6 ∨ x = 1 := by simpa [S15] using hx
    omega
  · intro p hp
    have : p = ⟨1, 2, 9, 1, false⟩ ∨ p = ⟨6, 3, 9, 1, false⟩ := by simpa [S15] using hp
    rcases this with rfl | rfl
    · exact ⟨by decide, hi _ (by decide) (by decide), hi _ (by decide) (by decide), hi _ (by decide) (by decide)⟩
    · exact ⟨by decide, hi _ (by decide) (by decide), hi _ (by decide) (by decide), hi _ (by decide) (by decide)⟩
  · intro e he
    cases he
  · exact ⟨hi _ (by decide) (by decide), hi _ (by decide) (by decide), hi _ (by decide) (by decide), hi _ (by decide) (by decide), hi _ (by decide) (by decide), hi _ (by decide) (by decide)⟩

end Go.Proofs.YtfhmfanmnhclfaaDoor

