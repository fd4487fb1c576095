/-
  THE CONTRACTS of two and alive, of the statements (made by a program).
-/
import Derived.Test.YtlpphapbehajnaaDoorBackC
namespace Go.Proofs.YtlpphapbehajnaaDoor
open Go.RowKit Go.Lib Go.Deep
set_option linter.unusedVariables false
set_option linter.unusedSimpArgs false

theorem cap_some {a : Addr} {n : Nat} (h : n ≤ 1000) : Cap (some a) n n := ⟨fun e => (nomatch e), Nat.le_refl _, by omega⟩
/-- The chapter's site. -/
def S2 : St := ⟨0, [⟨1, 2, 1⟩, ⟨1, 2, 1⟩], [2, 1], [[0, 2], [2, 0]], [⟨1, 2, 5, 1, false⟩, ⟨2, 2, 5, 1, false⟩], [], 3, 2, 4, 8, 20, []⟩
theorem s2_may : siteB S2 = true := by decide +kernel
theorem lie_of {w : World} {g n K : Nat} {F : Nat → Nat → Value} (hb : g < w.heap.size) (h : ∀ i, i < n → ∀ j, j < K → w.cell? ⟨g, i * K + j, none⟩ = some (F i j)) : Lie w (some ⟨g, 0, none⟩) n K F :=
  ⟨fun _ => ⟨g, 0, rfl, hb, fun i hi j hj => by rw [Nat.zero_add]; exact h i hi j hj⟩⟩
theorem two_cases {P : Nat → Prop} (h0 : P 0) (h1 : P 1) : ∀ i, i < 2 → P i := fun i hi => by
  have : i = 0 ∨ i = 1 := by omega
  rcases this with rfl | rfl
  · exact h0
  · exact h1
set_option maxRecDepth 100000 in
set_option maxHeartbeats 1000000 in
theorem two_any {w : World} : Calls Tryd.prog 7 #[] w fun e w' => ∃ X, e = .returned (siteV X S2) ∧ Sat w' X S2 ∧ Kept w w' none := by
  go_enter Tryd.func7, Tryd.ntmps7
  have hW : ∃ W, W = ((((((((w.alloc (.cells #[.int .i64 0, .slice (some ⟨w.heap.size + 1 + 1, 0, none⟩) 2 2, .slice (some ⟨w.heap.size + 1 + 1 + 1, 0, none⟩) 2 2, .slice (some ⟨w.heap.size + 1 + 1 + 1 + 1 + 1 + 1, 0, none⟩) 2 2, .slice (some ⟨w.heap.size + 1 + 1 + 1 + 1 + 1 + 1 + 1, 0, none⟩) 2 2, .slice none 0 0, .int .i64 3, .int .i64 2, .int .i64 4, .int .i64 8, .int .i64 20, .slice none 0 0] 29)).alloc (.cells #[.int .u8 1, .int .i64 2, .int .i64 1] 51)).alloc (.cells #[.int .u8 1, .int .i64 2, .int .i64 1, .int .u8 1, .int .i64 2, .int .i64 1] 51)).alloc (.cells #[.int .u32 2, .int .u32 1] 52)).alloc (.cells #[.int .i64 0, .int .i64 2] 3)).alloc (.cells #[.int .i64 2, .int .i64 0] 3)).alloc (.cells #[.slice (some ⟨w.heap.size + 1 + 1 + 1 + 1, 0, none⟩) 2 2, .slice (some ⟨w.heap.size + 1 + 1 + 1 + 1 + 1, 0, none⟩) 2 2] 53)).alloc (.cells #[.int .u32 1, .int .i64 2, .int .i64 5, .int .i64 1, .bool false, .int .u32 2, .int .i64 2, .int .i64 5, .int .i64 1, .bool false] 55)) := ⟨_, rfl⟩
  obtain ⟨W, hW⟩ := hW
  have hk : Kept w W none := by
    rw [hW]
    exact ((((((((Kept.alloc w _ _ (0, 0) _)).tr (Kept.alloc _ _ _ (0, 0) _)).tr (Kept.alloc _ _ _ (0, 0) _)).tr (Kept.alloc _ _ _ (0, 0) _)).tr (Kept.alloc _ _ _ (0, 0) _)).tr (Kept.alloc _ _ _ (0, 0) _)).tr (Kept.alloc _ _ _ (0, 0) _)).tr (Kept.alloc _ _ _ (0, 0) _)
  have hs : W.heap.size = w.heap.size + 8 := by rw [hW]; simp
  have c0x0 : W.cell? ⟨w.heap.size, 0, none⟩ = some (.int .i64 0) := by rw [hW]; go_simp
  have c0x1 : W.cell? ⟨w.heap.size, 1, none⟩ = some (.slice (some ⟨w.heap.size + 1 + 1, 0, none⟩) 2 2) := by rw [hW]; go_simp
  have c0x2 : W.cell? ⟨w.heap.size, 2, none⟩ = some (.slice (some ⟨w.heap.size + 1 + 1 + 1, 0, none⟩) 2 2) := by rw [hW]; go_simp
  have c0x3 : W.cell? ⟨w.heap.size, 3, none⟩ = some (.slice (some ⟨w.heap.size + 1 + 1 + 1 + 1 + 1 + 1, 0, none⟩) 2 2) := by rw [hW]; go_simp
  have c0x4 : W.cell? ⟨w.heap.size, 4, none⟩ = some (.slice (some ⟨w.heap.size + 1 + 1 + 1 + 1 + 1 + 1 + 1, 0, none⟩) 2 2) := by rw [hW]; go_simp
  have c0x5 : W.cell? ⟨w.heap.size, 5, none⟩ = some (.slice none 0 0) := by rw [hW]; go_simp
  have c0x6 : W.cell? ⟨w.heap.size, 6, none⟩ = some (.int .i64 3) := by rw [hW]; go_simp
  have c0x7 : W.cell? ⟨w.heap.size, 7, none⟩ = some (.int .i64 2) := by rw [hW]; go_simp
  have c0x8 : W.cell? ⟨w.heap.size, 8, none⟩ = some (.int .i64 4) := by rw [hW]; go_simp
  have c0x9 : W.cell? ⟨w.heap.size, 9, none⟩ = some (.int .i64 8) := by rw [hW]; go_simp
  have c0x10 : W.cell? ⟨w.heap.size, 10, none⟩ = some (.int .i64 20) := by rw [hW]; go_simp
  have c0x11 : W.cell? ⟨w.heap.size, 11, none⟩ = some (.slice none 0 0) := by rw [hW]; go_simp
  have c1x0 : W.cell? ⟨w.heap.size + 1, 0, none⟩ = some (.int .u8 1) := by rw [hW]; go_simp
  have c1x1 : W.cell? ⟨w.heap.size + 1, 1, none⟩ = some (.int .i64 2) := by rw [hW]; go_simp
  have c1x2 : W.cell? ⟨w.heap.size + 1, 2, none⟩ = some (.int .i64 1) := by rw [hW]; go_simp
  have c2x0 : W.cell? ⟨w.heap.size + 1 + 1, 0, none⟩ = some (.int .u8 1) := by rw [hW]; go_simp
  have c2x1 : W.cell? ⟨w.heap.size + 1 + 1, 1, none⟩ = some (.int .i64 2) := by rw [hW]; go_simp
  have c2x2 : W.cell? ⟨w.heap.size + 1 + 1, 2, none⟩ = some (.int .i64 1) := by rw [hW]; go_simp
  have c2x3 : W.cell? ⟨w.heap.size + 1 + 1, 3, none⟩ = some (.int .u8 1) := by rw [hW]; go_simp
  have c2x4 : W.cell? ⟨w.heap.size + 1 + 1, 4, none⟩ = some (.int .i64 2) := by rw [hW]; go_simp
  have c2x5 : W.cell? ⟨w.heap.size + 1 + 1, 5, none⟩ = some (.int .i64 1) := by rw [hW]; go_simp
  have c3x0 : W.cell? ⟨w.heap.size + 1 + 1 + 1, 0, none⟩ = some (.int .u32 2) := by rw [hW]; go_simp
  have c3x1 : W.cell? ⟨w.heap.size + 1 + 1 + 1, 1, none⟩ = some (.int .u32 1) := by rw [hW]; go_simp
  have c4x0 : W.cell? ⟨w.heap.size + 1 + 1 + 1 + 1, 0, none⟩ = some (.int .i64 0) := by rw [hW]; go_simp
  have c4x1 : W.cell? ⟨w.heap.size + 1 + 1 + 1 + 1, 1, none⟩ = some (.int .i64 2) := by rw [hW]; go_simp
  have c5x0 : W.cell? ⟨w.heap.size + 1 + 1 + 1 + 1 + 1, 0, none⟩ = some (.int .i64 2) := by rw [hW]; go_simp
  have c5x1 : W.cell? ⟨w.heap.size + 1 + 1 + 1 + 1 + 1, 1, none⟩ = some (.int .i64 0) := by rw [hW]; go_simp
  have c6x0 : W.cell? ⟨w.heap.size + 1 + 1 + 1 + 1 + 1 + 1, 0, none⟩ = some (.slice (some ⟨w.heap.size + 1 + 1 + 1 + 1, 0, none⟩) 2 2) := by rw [hW]; go_simp
  have c6x1 : W.cell? ⟨w.heap.size + 1 + 1 + 1 + 1 + 1 + 1, 1, none⟩ = some (.slice (some ⟨w.heap.size + 1 + 1 + 1 + 1 + 1, 0, none⟩) 2 2) := by rw [hW]; go_simp
  have c7x0 : W.cell? ⟨w.heap.size + 1 + 1 + 1 + 1 + 1 + 1 + 1, 0, none⟩ = some (.int .u32 1) := by rw [hW]; go_simp
  have c7x1 : W.cell? ⟨w.heap.size + 1 + 1 + 1 + 1 + 1 + 1 + 1, 1, none⟩ = some (.int .i64 2) := by rw [hW]; go_simp
  have c7x2 : W.cell? ⟨w.heap.size + 1 + 1 + 1 + 1 + 1 + 1 + 1, 2, none⟩ = some (.int .i64 5) := by rw [hW]; go_simp
  have c7x3 : W.cell? ⟨w.heap.size + 1 + 1 + 1 + 1 + 1 + 1 + 1, 3, none⟩ = some (.int .i64 1) := by rw [hW]; go_simp
  have c7x4 : W.cell? ⟨w.heap.size + 1 + 1 + 1 + 1 + 1 + 1 + 1, 4, none⟩ = some (.bool false) := by rw [hW]; go_simp
  have c7x5 : W.cell? ⟨w.heap.size + 1 + 1 + 1 + 1 + 1 + 1 + 1, 5, none⟩ = some (.int .u32 2) := by rw [hW]; go_simp
  have c7x6 : W.cell? ⟨w.heap.size + 1 + 1 + 1 + 1 + 1 + 1 + 1, 6, none⟩ = some (.int .i64 2) := by rw [hW]; go_simp
  have c7x7 : W.cell? ⟨w.heap.size + 1 + 1 + 1 + 1 + 1 + 1 + 1, 7, none⟩ = some (.int .i64 5) := by rw [hW]; go_simp
  have c7x8 : W.cell? ⟨w.heap.size + 1 + 1 + 1 + 1 + 1 + 1 + 1, 8, none⟩ = some (.int .i64 1) := by rw [hW]; go_simp
  have c7x9 : W.cell? ⟨w.heap.size + 1 + 1 + 1 + 1 + 1 + 1 + 1, 9, none⟩ = some (.bool false) := by rw [hW]; go_simp
  go_wp2
  rw [← hW]
  clear hW
  refine bodyPost_ret (v := .agg #[.int .i64 0, .slice (some ⟨w.heap.size + 1 + 1, 0, none⟩) 2 2, .slice (some ⟨w.heap.size + 1 + 1 + 1, 0, none⟩) 2 2, .slice (some ⟨w.heap.size + 1 + 1 + 1 + 1 + 1 + 1, 0, none⟩) 2 2, .slice (some ⟨w.heap.size + 1 + 1 + 1 + 1 + 1 + 1 + 1, 0, none⟩) 2 2, .slice none 0 0, .int .i64 3, .int .i64 2, .int .i64 4, .int .i64 8, .int .i64 20, .slice none 0 0]) (by simp [results, Tryd.results7, go_sem, c0x0, c0x1, c0x2, c0x3, c0x4, c0x5, c0x6, c0x7, c0x8, c0x9, c0x10, c0x11]) rfl ?_
  refine ⟨⟨some ⟨w.heap.size + 1 + 1, 0, none⟩, 2, some ⟨w.heap.size + 1 + 1 + 1, 0, none⟩, 2, some ⟨w.heap.size + 1 + 1 + 1 + 1 + 1 + 1, 0, none⟩, 2, some ⟨w.heap.size + 1 + 1 + 1 + 1 + 1 + 1 + 1, 0, none⟩, 2, none, 0, none, 0⟩, rfl, ?_, hk⟩
  have hi : ∀ x : Int, -1000 ≤ x → x ≤ 1000 → i64B x := fun x h1 h2 => by unfold i64B; omega
  constructor
  · exact lie_of (by omega) (two_cases (fun j hj => by
      have : j = 0 ∨ j = 1 ∨ j = 2 := by omega
      rcases this with rfl | rfl | rfl
      · exact c2x0
      · exact c2x1
      · exact c2x2) (fun j hj => by
      have : j = 0 ∨ j = 1 ∨ j = 2 := by omega
      rcases this with rfl | rfl | rfl
      · exact c2x3
      · exact c2x4
      · exact c2x5))
  · exact lie_of (by omega) (two_cases (fun j hj => by
      have : j = 0 := by omega
      subst this; exact c3x0) (fun j hj => by
      have : j = 0 := by omega
      subst this; exact c3x1))
  · refine ⟨⟨fun i => if i = 0 then (some ⟨w.heap.size + 1 + 1 + 1 + 1, 0, none⟩, 2) else (some ⟨w.heap.size + 1 + 1 + 1 + 1 + 1, 0, none⟩, 2), ?_, ?_⟩, rfl, cap_some (show 2 ≤ 1000 by omega)⟩
    · exact lie_of (by omega) (two_cases (fun j hj => by
        have : j = 0 := by omega
        subst this; exact c6x0) (fun j hj => by
        have : j = 0 := by omega
        subst this; exact c6x1))
    · refine two_cases ⟨lie_of (by omega) (two_cases (fun j hj => by
        have : j = 0 := by omega
        subst this; exact c4x0) (fun j hj => by
        have : j = 0 := by omega
        subst this; exact c4x1)), rfl, cap_some (show 2 ≤ 1000 by omega), ?_⟩ ⟨lie_of (by omega) (two_cases (fun j hj => by
        have : j = 0 := by omega
        subst this; exact c5x0) (fun j hj => by
        have : j = 0 := by omega
        subst this; exact c5x1)), rfl, cap_some (show 2 ≤ 1000 by omega), ?_⟩
      · intro x hx
        have : x = 0 ∨ x = 2 := by simpa [S2] using hx
        omega
      · intro x hx
        have : x = 2 ∨ x = 0 := by simpa [S2] using hx
        omega
  · exact lie_of (by omega) (two_cases (fun j hj => by
      have : j = 0 ∨ j = 1 ∨ j = 2 ∨ j = 3 ∨ j = 4 := by omega
      rcases this with rfl | rfl | rfl | rfl | rfl
      · exact c7x0
      · exact c7x1
      · exact c7x2
      · exact c7x3
      · exact c7x4) (fun j hj => by
      have : j = 0 ∨ j = 1 ∨ j = 2 ∨ j = 3 ∨ j = 4 := by omega
      rcases this with rfl | rfl | rfl | rfl | rfl
      · exact c7x5
      · exact c7x6
      · exact c7x7
      · exact c7x8
      · exact c7x9))
  · exact ⟨fun hp => absurd hp (by decide)⟩
  · exact ⟨⟨fun _ => (none, 0), ⟨fun hp => absurd hp (by decide)⟩, fun i hi => absurd hi (Nat.not_lt_zero i)⟩, rfl, ⟨fun _ => ⟨rfl, rfl⟩, Nat.le_refl _, Nat.zero_le _⟩, fun p hp => by cases hp⟩
  · exact cap_some (show 2 ≤ 1000 by omega)
  · exact cap_some (show 2 ≤ 1000 by omega)
  · exact cap_some (show 2 ≤ 1000 by omega)
  · exact ⟨fun _ => ⟨rfl, rfl⟩, Nat.le_refl _, Nat.zero_le _⟩
  · intro g hg
    have : g = ⟨1, 2, 1⟩ := by simpa [S2] using hg
    subst this
    exact ⟨by decide, hi _ (by decide) (by decide), hi _ (by decide) (by decide)⟩
  · intro x hx
    have : x = 2 ∨ x = 1 := by simpa [S2] using hx
    omega
  · intro p hp
    have : p = ⟨1, 2, 5, 1, false⟩ ∨ p = ⟨2, 2, 5, 1, false⟩ := by simpa [S2] using hp
    rcases this with rfl | rfl
    · exact ⟨by decide, hi _ (by decide) (by decide), hi _ (by decide) (by decide), hi _ (by decide) (by decide)⟩
    · exact ⟨by decide, hi _ (by decide) (by decide), hi _ (by decide) (by decide), hi _ (by decide) (by decide)⟩
  · intro e he
    cases he
  · exact ⟨hi _ (by decide) (by decide), hi _ (by decide) (by decide), hi _ (by decide) (by decide), hi _ (by decide) (by decide), hi _ (by decide) (by decide), hi _ (by decide) (by decide)⟩
theorem by_pair10 (w : World) (X Y : Int) (x y H : Nat) (hX : X = (x : Int)) (hY : Y = (y : Int)) (hH : w.heap.size = H) (hx : x < 256) (hy : y < 256) : By (w.alloc (.cells #[.int .u8 X, .int .u8 Y] 5)) (some ⟨H, 0, none⟩) 2 [x, y] := by
  subst hX hY hH
  refine ⟨rfl, by omega, ?_, fun _ => ⟨_, _, rfl, by simp, ?_⟩⟩
  · intro z hz
    have : z = x ∨ z = y := by simpa using hz
    omega
  · intro i hi
    have : i = 0 ∨ i = 1 := by omega
    rcases this with rfl | rfl <;> simp [World.cell?_alloc_mark]

theorem next_two1 {w : World} {X : Sa} (h : Sat w X S2) (hT : Tabb w) {a b : Option Addr} {c d : Nat} (hA : By w a 2 [1, 2]) (hB : By w b 2 [2, 2]) : Calls Tryd.prog 9 #[siteV X S2, .int .i64 1, .slice a 2 c, .slice b 2 d] w fun e w' => e = .returned (.tuple #[.int .i64 2, .int .i64 0]) ∧ Kept w w' none := by
  have hx := next_any (c := c) (d := d) h hT hA hB 1
  rw [show nextV S2 1 [1, 2] [2, 2] = 2 by decide +kernel, show nextE S2 1 [1, 2] [2, 2] = 0 by decide +kernel] at hx
  exact hx
theorem lat_two2 {w : World} {X : Sa} (h : Sat w X S2) (hT : Tabb w) : Calls Tryd.prog 10 #[siteV X S2, .int .i64 2] w fun e w' => e = .returned (.tuple #[.bool true, .int .i64 0]) ∧ Kept w w' none := by
  have hx := lat_any h hT 2
  rw [show latV S2 2 = true by decide +kernel, show countE S2 2 = 0 by decide +kernel] at hx
  exact hx
set_option maxRecDepth 100000 in
set_option maxHeartbeats 2000000 in
theorem balive_any {w : World} (hT : Tabb w) : Calls Tryd.prog 11 #[] w fun e w' => e = .returned (.bool true) ∧ Kept w w' none := by
  have HT := Hid.mk' hT
  clear hT
  go_enter Tryd.func11, Tryd.ntmps11
  go_wp2_with (first
    | (go_at_call 10; refine (lat_two2 SB.out (HT.out.kept hK4)).mono ?_; rintro e w5 ⟨rfl, hk5⟩)
    | (have hgo := hK3; clear hgo; go_at_call 7; refine two_any.mono ?_; rintro e w4 ⟨X4, rfl, hsat4, hk4⟩; have SB := Hid.mk' hsat4; have hK4 : Kept w w4 none := hK3.tr hk4; clear hsat4 hk4 hK3)
    | (go_at_call 9; refine (next_two1 (SA.out.kept ((Kept.alloc _ _ _ (0, 0) _).tr (Kept.alloc _ _ _ (0, 0) _))) (HT.out.kept ((K1.out.tr (Kept.alloc _ _ _ (0, 0) _)).tr (Kept.alloc _ _ _ (0, 0) _))) ((by_pair10 _ 1 2 1 2 _ rfl rfl rfl (by omega) (by omega)).kept (Kept.alloc _ _ _ (0, 0) _)) (by_pair10 _ 2 2 2 2 _ rfl rfl (World.size_alloc _ _) (by omega) (by omega))).mono ?_; rintro e w3 ⟨rfl, hk3⟩; have hK3 : Kept w w3 none := (((K1.out.tr (Kept.alloc _ _ _ (0, 0) _)).tr (Kept.alloc _ _ _ (0, 0) _))).tr hk3; clear hk3)
    | (go_at_call 7; refine two_any.mono ?_; rintro e w1 ⟨X1, rfl, hsat, hk1⟩; have SA := Hid.mk' hsat; have K1 := Hid.mk' hk1; clear hsat hk1))
  go_ret
  exact ⟨rfl, hK4.tr hk5⟩

end Go.Proofs.YtlpphapbehajnaaDoor
