/-
  THE CONTRACT of two, cell by cell; a site whose between is another one.
-/
import Derived.Test.YtpajefkfnhibnaaDoorAlive
namespace Go.Proofs.YtpajefkfnhibnaaDoor
open Go.RowKit Go.Lib Go.Deep
set_option linter.unusedVariables false
set_option linter.unusedSimpArgs false

def S2v (v : Int) : St := ⟨0, [⟨1, 2, 1⟩, ⟨1, 2, 1⟩], [2, 1], [[0, v], [2, 0]], [⟨1, 2, 5, 1, false⟩, ⟨2, 2, 5, 1, false⟩], [], 3, 2, 4, 8, 20, []⟩
abbrev X2 (h : Nat) : Sa := ⟨some ⟨h + 1 + 1, 0, none⟩, 2, some ⟨h + 1 + 1 + 1, 0, none⟩, 2, some ⟨h + 1 + 1 + 1 + 1 + 1 + 1, 0, none⟩, 2, some ⟨h + 1 + 1 + 1 + 1 + 1 + 1 + 1, 0, none⟩, 2, none, 0, none, 0⟩
structure TwoC (W : World) (h : Nat) (v : Int) : Prop where
  size : h + 8 ≤ W.heap.size
  fz : W.frozen? ⟨h + 1 + 1 + 1 + 1, 1, none⟩ = false
  c2x0 : W.cell? ⟨h + 1 + 1, 0, none⟩ = some (.int .u8 1)
  c2x1 : W.cell? ⟨h + 1 + 1, 1, none⟩ = some (.int .i64 2)
  c2x2 : W.cell? ⟨h + 1 + 1, 2, none⟩ = some (.int .i64 1)
  c2x3 : W.cell? ⟨h + 1 + 1, 3, none⟩ = some (.int .u8 1)
  c2x4 : W.cell? ⟨h + 1 + 1, 4, none⟩ = some (.int .i64 2)
  c2x5 : W.cell? ⟨h + 1 + 1, 5, none⟩ = some (.int .i64 1)
  c3x0 : W.cell? ⟨h + 1 + 1 + 1, 0, none⟩ = some (.int .u32 2)
  c3x1 : W.cell? ⟨h + 1 + 1 + 1, 1, none⟩ = some (.int .u32 1)
  c4x0 : W.cell? ⟨h + 1 + 1 + 1 + 1, 0, none⟩ = some (.int .i64 0)
  c4x1 : W.cell? ⟨h + 1 + 1 + 1 + 1, 1, none⟩ = some (.int .i64 v)
  c5x0 : W.cell? ⟨h + 1 + 1 + 1 + 1 + 1, 0, none⟩ = some (.int .i64 2)
  c5x1 : W.cell? ⟨h + 1 + 1 + 1 + 1 + 1, 1, none⟩ = some (.int .i64 0)
  c6x0 : W.cell? ⟨h + 1 + 1 + 1 + 1 + 1 + 1, 0, none⟩ = some (.slice (some ⟨h + 1 + 1 + 1 + 1, 0, none⟩) 2 2)
  c6x1 : W.cell? ⟨h + 1 + 1 + 1 + 1 + 1 + 1, 1, none⟩ = some (.slice (some ⟨h + 1 + 1 + 1 + 1 + 1, 0, none⟩) 2 2)
  c7x0 : W.cell? ⟨h + 1 + 1 + 1 + 1 + 1 + 1 + 1, 0, none⟩ = some (.int .u32 1)
  c7x1 : W.cell? ⟨h + 1 + 1 + 1 + 1 + 1 + 1 + 1, 1, none⟩ = some (.int .i64 2)
  c7x2 : W.cell? ⟨h + 1 + 1 + 1 + 1 + 1 + 1 + 1, 2, none⟩ = some (.int .i64 5)
  c7x3 : W.cell? ⟨h + 1 + 1 + 1 + 1 + 1 + 1 + 1, 3, none⟩ = some (.int .i64 1)
  c7x4 : W.cell? ⟨h + 1 + 1 + 1 + 1 + 1 + 1 + 1, 4, none⟩ = some (.bool false)
  c7x5 : W.cell? ⟨h + 1 + 1 + 1 + 1 + 1 + 1 + 1, 5, none⟩ = some (.int .u32 2)
  c7x6 : W.cell? ⟨h + 1 + 1 + 1 + 1 + 1 + 1 + 1, 6, none⟩ = some (.int .i64 2)
  c7x7 : W.cell? ⟨h + 1 + 1 + 1 + 1 + 1 + 1 + 1, 7, none⟩ = some (.int .i64 5)
  c7x8 : W.cell? ⟨h + 1 + 1 + 1 + 1 + 1 + 1 + 1, 8, none⟩ = some (.int .i64 1)
  c7x9 : W.cell? ⟨h + 1 + 1 + 1 + 1 + 1 + 1 + 1, 9, none⟩ = some (.bool false)
theorem TwoC.kept {w w' : World} {h : Nat} {v : Int} (c : TwoC w h v) (q : Kept w w' none) : TwoC w' h v :=
  ⟨Nat.le_trans c.size q.size, (frozen_block (q.block _ (by have := c.size; omega) (by simp))).trans c.fz, cell_kept0 c.c2x0 q, cell_kept0 c.c2x1 q, cell_kept0 c.c2x2 q, cell_kept0 c.c2x3 q, cell_kept0 c.c2x4 q, cell_kept0 c.c2x5 q, cell_kept0 c.c3x0 q, cell_kept0 c.c3x1 q, cell_kept0 c.c4x0 q, cell_kept0 c.c4x1 q, cell_kept0 c.c5x0 q, cell_kept0 c.c5x1 q, cell_kept0 c.c6x0 q, cell_kept0 c.c6x1 q, cell_kept0 c.c7x0 q, cell_kept0 c.c7x1 q, cell_kept0 c.c7x2 q, cell_kept0 c.c7x3 q, cell_kept0 c.c7x4 q, cell_kept0 c.c7x5 q, cell_kept0 c.c7x6 q, cell_kept0 c.c7x7 q, cell_kept0 c.c7x8 q, cell_kept0 c.c7x9 q⟩
theorem TwoC.set {w : World} {h : Nat} {v : Int} (c : TwoC w h v) (v' : Int) : TwoC (w.setCell ⟨h + 1 + 1 + 1 + 1, 1, none⟩ (.int .i64 v')) h v' :=
  ⟨by simpa [World.setCell] using c.size, (frozen_set _ _ _ _).trans c.fz, (World.cell?_setCell_other _ _ _ _ (by simp)).trans c.c2x0, (World.cell?_setCell_other _ _ _ _ (by simp)).trans c.c2x1, (World.cell?_setCell_other _ _ _ _ (by simp)).trans c.c2x2, (World.cell?_setCell_other _ _ _ _ (by simp)).trans c.c2x3, (World.cell?_setCell_other _ _ _ _ (by simp)).trans c.c2x4, (World.cell?_setCell_other _ _ _ _ (by simp)).trans c.c2x5, (World.cell?_setCell_other _ _ _ _ (by simp)).trans c.c3x0, (World.cell?_setCell_other _ _ _ _ (by simp)).trans c.c3x1, (World.cell?_setCell_other _ _ _ _ (by simp)).trans c.c4x0, World.cell?_setCell_same' _ _ _ (by rw [c.c4x1]; rfl), (World.cell?_setCell_other _ _ _ _ (by simp)).trans c.c5x0, (World.cell?_setCell_other _ _ _ _ (by simp)).trans c.c5x1, (World.cell?_setCell_other _ _ _ _ (by simp)).trans c.c6x0, (World.cell?_setCell_other _ _ _ _ (by simp)).trans c.c6x1, (World.cell?_setCell_other _ _ _ _ (by simp)).trans c.c7x0, (World.cell?_setCell_other _ _ _ _ (by simp)).trans c.c7x1, (World.cell?_setCell_other _ _ _ _ (by simp)).trans c.c7x2, (World.cell?_setCell_other _ _ _ _ (by simp)).trans c.c7x3, (World.cell?_setCell_other _ _ _ _ (by simp)).trans c.c7x4, (World.cell?_setCell_other _ _ _ _ (by simp)).trans c.c7x5, (World.cell?_setCell_other _ _ _ _ (by simp)).trans c.c7x6, (World.cell?_setCell_other _ _ _ _ (by simp)).trans c.c7x7, (World.cell?_setCell_other _ _ _ _ (by simp)).trans c.c7x8, (World.cell?_setCell_other _ _ _ _ (by simp)).trans c.c7x9⟩
set_option maxRecDepth 100000 in
set_option maxHeartbeats 1000000 in
theorem sat_two {W : World} {h : Nat} {v : Int} (c : TwoC W h v) (hv : i64B v) : Sat W (X2 h) (S2v v) := by
  have hs := c.size
  have c2x0 := c.c2x0
  have c2x1 := c.c2x1
  have c2x2 := c.c2x2
  have c2x3 := c.c2x3
  have c2x4 := c.c2x4
  have c2x5 := c.c2x5
  have c3x0 := c.c3x0
  have c3x1 := c.c3x1
  have c4x0 := c.c4x0
  have c4x1 := c.c4x1
  have c5x0 := c.c5x0
  have c5x1 := c.c5x1
  have c6x0 := c.c6x0
  have c6x1 := c.c6x1
  have c7x0 := c.c7x0
  have c7x1 := c.c7x1
  have c7x2 := c.c7x2
  have c7x3 := c.c7x3
  have c7x4 := c.c7x4
  have c7x5 := c.c7x5
  have c7x6 := c.c7x6
  have c7x7 := c.c7x7
  have c7x8 := c.c7x8
  have c7x9 := c.c7x9
  have hi : ∀ x : Int, -1000 ≤ x → x ≤ 1000 → i64B x := fun x h1 h2 => by unfold i64B; omega
  constructor
  · exact lie_of (by omega) (two_cases (fun j hj => by
      have : j = 0 ∨ j = 1 ∨ j = 2 := by omega
      rcases this with rfl | rfl | rfl
      · exact c2x0
      · exact c2x1
      · exact c2x2) (fun j hj => by
      have : j = 0 ∨ j = 1 ∨ j = 2 := by omega
      rcases this with rfl | rfl | rfl
      · exact c2x3
      · exact c2x4
      · exact c2x5))
  · exact lie_of (by omega) (two_cases (fun j hj => by
      have : j = 0 := by omega
      subst this; exact c3x0) (fun j hj => by
      have : j = 0 := by omega
      subst this; exact c3x1))
  · refine ⟨⟨fun i => if i = 0 then (some ⟨h + 1 + 1 + 1 + 1, 0, none⟩, 2) else (some ⟨h + 1 + 1 + 1 + 1 + 1, 0, none⟩, 2), ?_, ?_⟩, rfl, cap_some (show 2 ≤ 1000 by omega)⟩
    · exact lie_of (by omega) (two_cases (fun j hj => by
        have : j = 0 := by omega
        subst this; exact c6x0) (fun j hj => by
        have : j = 0 := by omega
        subst this; exact c6x1))
    · refine two_cases ⟨lie_of (by omega) (two_cases (fun j hj => by
        have : j = 0 := by omega
        subst this; exact c4x0) (fun j hj => by
        have : j = 0 := by omega
        subst this; exact c4x1)), rfl, cap_some (show 2 ≤ 1000 by omega), ?_⟩ ⟨lie_of (by omega) (two_cases (fun j hj => by
        have : j = 0 := by omega
        subst this; exact c5x0) (fun j hj => by
        have : j = 0 := by omega
        subst this; exact c5x1)), rfl, cap_some (show 2 ≤ 1000 by omega), ?_⟩
      · intro x hx
        have : x = 0 ∨ x = v := by simpa [S2v] using hx
        unfold i64B at hv
        omega
      · intro x hx
        have : x = 2 ∨ x = 0 := by simpa [S2v] using hx
        omega
  · exact lie_of (by omega) (two_cases (fun j hj => by
      have : j = 0 ∨ j = 1 ∨ j = 2 ∨ j = 3 ∨ j = 4 := by omega
      rcases this with rfl | rfl | rfl | rfl | rfl
      · exact c7x0
      · exact c7x1
      · exact c7x2
      · exact c7x3
      · exact c7x4) (fun j hj => by
      have : j = 0 ∨ j = 1 ∨ j = 2 ∨ j = 3 ∨ j = 4 := by omega
      rcases this with rfl | rfl | rfl | rfl | rfl
      · exact c7x5
      · exact c7x6
      · exact c7x7
      · exact c7x8
      · exact c7x9))
  · exact ⟨fun hp => absurd hp (by first | decide | simp [S2v])⟩
  · exact ⟨⟨fun _ => (none, 0), ⟨fun hp => absurd hp (by first | decide | simp [S2v])⟩, fun i hi => absurd hi (Nat.not_lt_zero i)⟩, rfl, ⟨fun _ => ⟨rfl, rfl⟩, Nat.le_refl _, Nat.zero_le _⟩, fun p hp => by cases hp⟩
  · exact cap_some (show 2 ≤ 1000 by omega)
  · exact cap_some (show 2 ≤ 1000 by omega)
  · exact cap_some (show 2 ≤ 1000 by omega)
  · exact ⟨fun _ => ⟨rfl, rfl⟩, Nat.le_refl _, Nat.zero_le _⟩
  · intro g hg
    have : g = ⟨1, 2, 1⟩ := by simpa [S2v] using hg
    subst this
    exact ⟨by decide, hi _ (by first | decide | simp [S2v]) (by first | decide | simp [S2v]), hi _ (by first | decide | simp [S2v]) (by first | decide | simp [S2v])⟩
  · intro x hx
    have : x = 2 ∨ x = 1 := by simpa [S2v] using hx
    omega
  · intro p hp
    have : p = ⟨1, 2, 5, 1, false⟩ ∨ p = ⟨2, 2, 5, 1, false⟩ := by simpa [S2v] using hp
    rcases this with rfl | rfl
    · exact ⟨by decide, hi _ (by first | decide | simp [S2v]) (by first | decide | simp [S2v]), hi _ (by first | decide | simp [S2v]) (by first | decide | simp [S2v]), hi _ (by first | decide | simp [S2v]) (by first | decide | simp [S2v])⟩
    · exact ⟨by decide, hi _ (by first | decide | simp [S2v]) (by first | decide | simp [S2v]), hi _ (by first | decide | simp [S2v]) (by first | decide | simp [S2v]), hi _ (by first | decide | simp [S2v]) (by first | decide | simp [S2v])⟩
  · intro e he
    cases he
  · exact ⟨hi _ (by first | decide | simp [S2v]) (by first | decide | simp [S2v]), hi _ (by first | decide | simp [S2v]) (by first | decide | simp [S2v]), hi _ (by first | decide | simp [S2v]) (by first | decide | simp [S2v]), hi _ (by first | decide | simp [S2v]) (by first | decide | simp [S2v]), hi _ (by first | decide | simp [S2v]) (by first | decide | simp [S2v]), hi _ (by first | decide | simp [S2v]) (by first | decide | simp [S2v])⟩
set_option maxRecDepth 100000 in
set_option maxHeartbeats 1000000 in
theorem two_at {w : World} : Calls Tryd.prog 9 #[] w fun e w' => e = .returned (siteV (X2 w.heap.size) S2) ∧ TwoC w' w.heap.size 2 ∧ Kept w w' none := by
  go_enter Tryd.func9, Tryd.ntmps9
  have hW : ∃ W, W = ((((((((w.alloc (.cells #[.int .i64 0, .slice (some ⟨w.heap.size + 1 + 1, 0, none⟩) 2 2, .slice (some ⟨w.heap.size + 1 + 1 + 1, 0, none⟩) 2 2, .slice (some ⟨w.heap.size + 1 + 1 + 1 + 1 + 1 + 1, 0, none⟩) 2 2, .slice (some ⟨w.heap.size + 1 + 1 + 1 + 1 + 1 + 1 + 1, 0, none⟩) 2 2, .slice none 0 0, .int .i64 3, .int .i64 2, .int .i64 4, .int .i64 8, .int .i64 20, .slice none 0 0] 29)).alloc (.cells #[.int .u8 1, .int .i64 2, .int .i64 1] 75)).alloc (.cells #[.int .u8 1, .int .i64 2, .int .i64 1, .int .u8 1, .int .i64 2, .int .i64 1] 75)).alloc (.cells #[.int .u32 2, .int .u32 1] 32)).alloc (.cells #[.int .i64 0, .int .i64 2] 3)).alloc (.cells #[.int .i64 2, .int .i64 0] 3)).alloc (.cells #[.slice (some ⟨w.heap.size + 1 + 1 + 1 + 1, 0, none⟩) 2 2, .slice (some ⟨w.heap.size + 1 + 1 + 1 + 1 + 1, 0, none⟩) 2 2] 31)).alloc (.cells #[.int .u32 1, .int .i64 2, .int .i64 5, .int .i64 1, .bool false, .int .u32 2, .int .i64 2, .int .i64 5, .int .i64 1, .bool false] 34)) := ⟨_, rfl⟩
  obtain ⟨W, hW⟩ := hW
  have hk : Kept w W none := by
    rw [hW]
    exact ((((((((Kept.alloc w _ _ (0, 0) _)).tr (Kept.alloc _ _ _ (0, 0) _)).tr (Kept.alloc _ _ _ (0, 0) _)).tr (Kept.alloc _ _ _ (0, 0) _)).tr (Kept.alloc _ _ _ (0, 0) _)).tr (Kept.alloc _ _ _ (0, 0) _)).tr (Kept.alloc _ _ _ (0, 0) _)).tr (Kept.alloc _ _ _ (0, 0) _)
  have hs : W.heap.size = w.heap.size + 8 := by rw [hW]; simp
  have c0x0 : W.cell? ⟨w.heap.size, 0, none⟩ = some (.int .i64 0) := by rw [hW]; go_simp
  have c0x1 : W.cell? ⟨w.heap.size, 1, none⟩ = some (.slice (some ⟨w.heap.size + 1 + 1, 0, none⟩) 2 2) := by rw [hW]; go_simp
  have c0x2 : W.cell? ⟨w.heap.size, 2, none⟩ = some (.slice (some ⟨w.heap.size + 1 + 1 + 1, 0, none⟩) 2 2) := by rw [hW]; go_simp
  have c0x3 : W.cell? ⟨w.heap.size, 3, none⟩ = some (.slice (some ⟨w.heap.size + 1 + 1 + 1 + 1 + 1 + 1, 0, none⟩) 2 2) := by rw [hW]; go_simp
  have c0x4 : W.cell? ⟨w.heap.size, 4, none⟩ = some (.slice (some ⟨w.heap.size + 1 + 1 + 1 + 1 + 1 + 1 + 1, 0, none⟩) 2 2) := by rw [hW]; go_simp
  have c0x5 : W.cell? ⟨w.heap.size, 5, none⟩ = some (.slice none 0 0) := by rw [hW]; go_simp
  have c0x6 : W.cell? ⟨w.heap.size, 6, none⟩ = some (.int .i64 3) := by rw [hW]; go_simp
  have c0x7 : W.cell? ⟨w.heap.size, 7, none⟩ = some (.int .i64 2) := by rw [hW]; go_simp
  have c0x8 : W.cell? ⟨w.heap.size, 8, none⟩ = some (.int .i64 4) := by rw [hW]; go_simp
  have c0x9 : W.cell? ⟨w.heap.size, 9, none⟩ = some (.int .i64 8) := by rw [hW]; go_simp
  have c0x10 : W.cell? ⟨w.heap.size, 10, none⟩ = some (.int .i64 20) := by rw [hW]; go_simp
  have c0x11 : W.cell? ⟨w.heap.size, 11, none⟩ = some (.slice none 0 0) := by rw [hW]; go_simp
  have c1x0 : W.cell? ⟨w.heap.size + 1, 0, none⟩ = some (.int .u8 1) := by rw [hW]; go_simp
  have c1x1 : W.cell? ⟨w.heap.size + 1, 1, none⟩ = some (.int .i64 2) := by rw [hW]; go_simp
  have c1x2 : W.cell? ⟨w.heap.size + 1, 2, none⟩ = some (.int .i64 1) := by rw [hW]; go_simp
  have c2x0 : W.cell? ⟨w.heap.size + 1 + 1, 0, none⟩ = some (.int .u8 1) := by rw [hW]; go_simp
  have c2x1 : W.cell? ⟨w.heap.size + 1 + 1, 1, none⟩ = some (.int .i64 2) := by rw [hW]; go_simp
  have c2x2 : W.cell? ⟨w.heap.size + 1 + 1, 2, none⟩ = some (.int .i64 1) := by rw [hW]; go_simp
  have c2x3 : W.cell? ⟨w.heap.size + 1 + 1, 3, none⟩ = some (.int .u8 1) := by rw [hW]; go_simp
  have c2x4 : W.cell? ⟨w.heap.size + 1 + 1, 4, none⟩ = some (.int .i64 2) := by rw [hW]; go_simp
  have c2x5 : W.cell? ⟨w.heap.size + 1 + 1, 5, none⟩ = some (.int .i64 1) := by rw [hW]; go_simp
  have c3x0 : W.cell? ⟨w.heap.size + 1 + 1 + 1, 0, none⟩ = some (.int .u32 2) := by rw [hW]; go_simp
  have c3x1 : W.cell? ⟨w.heap.size + 1 + 1 + 1, 1, none⟩ = some (.int .u32 1) := by rw [hW]; go_simp
  have c4x0 : W.cell? ⟨w.heap.size + 1 + 1 + 1 + 1, 0, none⟩ = some (.int .i64 0) := by rw [hW]; go_simp
  have c4x1 : W.cell? ⟨w.heap.size + 1 + 1 + 1 + 1, 1, none⟩ = some (.int .i64 2) := by rw [hW]; go_simp
  have c5x0 : W.cell? ⟨w.heap.size + 1 + 1 + 1 + 1 + 1, 0, none⟩ = some (.int .i64 2) := by rw [hW]; go_simp
  have c5x1 : W.cell? ⟨w.heap.size + 1 + 1 + 1 + 1 + 1, 1, none⟩ = some (.int .i64 0) := by rw [hW]; go_simp
  have c6x0 : W.cell? ⟨w.heap.size + 1 + 1 + 1 + 1 + 1 + 1, 0, none⟩ = some (.slice (some ⟨w.heap.size + 1 + 1 + 1 + 1, 0, none⟩) 2 2) := by rw [hW]; go_simp
  have c6x1 : W.cell? ⟨w.heap.size + 1 + 1 + 1 + 1 + 1 + 1, 1, none⟩ = some (.slice (some ⟨w.heap.size + 1 + 1 + 1 + 1 + 1, 0, none⟩) 2 2) := by rw [hW]; go_simp
  have c7x0 : W.cell? ⟨w.heap.size + 1 + 1 + 1 + 1 + 1 + 1 + 1, 0, none⟩ = some (.int .u32 1) := by rw [hW]; go_simp
  have c7x1 : W.cell? ⟨w.heap.size + 1 + 1 + 1 + 1 + 1 + 1 + 1, 1, none⟩ = some (.int .i64 2) := by rw [hW]; go_simp
  have c7x2 : W.cell? ⟨w.heap.size + 1 + 1 + 1 + 1 + 1 + 1 + 1, 2, none⟩ = some (.int .i64 5) := by rw [hW]; go_simp
  have c7x3 : W.cell? ⟨w.heap.size + 1 + 1 + 1 + 1 + 1 + 1 + 1, 3, none⟩ = some (.int .i64 1) := by rw [hW]; go_simp
  have c7x4 : W.cell? ⟨w.heap.size + 1 + 1 + 1 + 1 + 1 + 1 + 1, 4, none⟩ = some (.bool false) := by rw [hW]; go_simp
  have c7x5 : W.cell? ⟨w.heap.size + 1 + 1 + 1 + 1 + 1 + 1 + 1, 5, none⟩ = some (.int .u32 2) := by rw [hW]; go_simp
  have c7x6 : W.cell? ⟨w.heap.size + 1 + 1 + 1 + 1 + 1 + 1 + 1, 6, none⟩ = some (.int .i64 2) := by rw [hW]; go_simp
  have c7x7 : W.cell? ⟨w.heap.size + 1 + 1 + 1 + 1 + 1 + 1 + 1, 7, none⟩ = some (.int .i64 5) := by rw [hW]; go_simp
  have c7x8 : W.cell? ⟨w.heap.size + 1 + 1 + 1 + 1 + 1 + 1 + 1, 8, none⟩ = some (.int .i64 1) := by rw [hW]; go_simp
  have c7x9 : W.cell? ⟨w.heap.size + 1 + 1 + 1 + 1 + 1 + 1 + 1, 9, none⟩ = some (.bool false) := by rw [hW]; go_simp
  have fz4 : W.frozen? ⟨w.heap.size + 1 + 1 + 1 + 1, 1, none⟩ = false := by rw [hW]; go_simp
  go_wp2
  rw [← hW]
  clear hW
  refine bodyPost_ret (v := .agg #[.int .i64 0, .slice (some ⟨w.heap.size + 1 + 1, 0, none⟩) 2 2, .slice (some ⟨w.heap.size + 1 + 1 + 1, 0, none⟩) 2 2, .slice (some ⟨w.heap.size + 1 + 1 + 1 + 1 + 1 + 1, 0, none⟩) 2 2, .slice (some ⟨w.heap.size + 1 + 1 + 1 + 1 + 1 + 1 + 1, 0, none⟩) 2 2, .slice none 0 0, .int .i64 3, .int .i64 2, .int .i64 4, .int .i64 8, .int .i64 20, .slice none 0 0]) (by simp [results, Tryd.results9, go_sem, c0x0, c0x1, c0x2, c0x3, c0x4, c0x5, c0x6, c0x7, c0x8, c0x9, c0x10, c0x11]) rfl ?_
  exact ⟨rfl, ⟨by omega, fz4, c2x0, c2x1, c2x2, c2x3, c2x4, c2x5, c3x0, c3x1, c4x0, c4x1, c5x0, c5x1, c6x0, c6x1, c7x0, c7x1, c7x2, c7x3, c7x4, c7x5, c7x6, c7x7, c7x8, c7x9⟩, hk⟩

end Go.Proofs.YtpajefkfnhibnaaDoor
