/-
  Texts joined: some of those that the proofs of this seat stand on.
-/
import Derived.Test.YtfhmfanmnhclfaaDoorPlnBJ
import Derived.Test.YtfhmfanmnhclfaaDoorThreeS
/-
  THE CONTRACT of alive, of the statements (made by a program).
-/
namespace Go.Proofs.YtfhmfanmnhclfaaDoor
open Go.RowKit Go.Lib Go.Deep
set_option linter.unusedVariables false
set_option linter.unusedSimpArgs false


/-- Clamp of the chapter's site, at known numbers. -/
theorem clamp15 {w : World} {X : Sa} (h : Sat w X S15) (hT : Tabb w) {P : Pl} {a : Option Addr} {c : Nat} (hI : Ints w a P.splits.length c P.splits) (hO : i64B P.offset) (C O x y : Int) (h1 : cycC S15 P = C) (h2 : offC S15 P = O) (h3 : splC S15 P 0 = x) (h4 : splC S15 P 1 = y) (hr : i64B x ∧ i64B y) : Calls Tryd.prog 8 #[siteV X S15, planV P a c] w fun e w' => ∃ g cp, e = .returned (.tuple #[.agg #[.int .i64 C, .int .i64 O, .slice (some ⟨g, 0, none⟩) 2 cp], .int .i64 0]) ∧ w.heap.size ≤ g ∧ Ints w' (some ⟨g, 0, none⟩) 2 cp [x, y] ∧ Kept w w' none := by
  refine (pclamp_yes h hT hI hO s15_may).mono ?_
  rintro e w' ⟨g, cp, rfl, hg, hR, hk⟩
  rw [h1, h2]
  refine ⟨g, cp, rfl, hg, RowI.ints (n := 2) hR rfl (fun i hi => ?_) (fun i hi => ?_), hk⟩
  · have : i = 0 ∨ i = 1 := by omega
    rcases this with rfl | rfl
    · exact h3.symm
    · exact h4.symm
  · have : i = 0 ∨ i = 1 := by omega
    rcases this with rfl | rfl
    · rw [h3]; exact hr.1
    · rw [h4]; exact hr.2
theorem ints_nil (w : World) : Ints w none 0 0 [] := ⟨⟨fun h => absurd h (by omega)⟩, rfl, ⟨fun _ => ⟨rfl, rfl⟩, Nat.le_refl _, by omega⟩, fun x hx => by cases hx⟩
def P5 : Pl := ⟨5, 0, []⟩
theorem p5a : cycC S15 P5 = 30 := by decide +kernel
theorem p5b : offC S15 P5 = 0 := by decide +kernel
theorem p5c : splC S15 P5 0 = 23 := by decide +kernel
theorem p5d : splC S15 P5 1 = 7 := by decide +kernel
theorem clampA {w : World} {X : Sa} (h : Sat w X S15) (hT : Tabb w) : Calls Tryd.prog 8 #[siteV X S15, .agg #[.int .i64 5, .int .i64 0, .slice none 0 0]] w fun e w' => ∃ g cp, e = .returned (.tuple #[.agg #[.int .i64 30, .int .i64 0, .slice (some ⟨g, 0, none⟩) 2 cp], .int .i64 0]) ∧ w.heap.size ≤ g ∧ Ints w' (some ⟨g, 0, none⟩) 2 cp [23, 7] ∧ Kept w w' none := clamp15 h hT (P := P5) (ints_nil _) (by show i64B 0; unfold i64B; omega) 30 0 23 7 p5a p5b p5c p5d (by unfold i64B; omega)
set_option maxRecDepth 100000 in
set_option maxHeartbeats 2000000 in
theorem palive_any {w : World} (hT : Tabb w) : Calls Tryd.prog 13 #[] w fun e w' => e = .returned (.bool true) ∧ Kept w w' none := by
  have HT := Hid.mk' hT
  clear hT
  go_enter Tryd.func13, Tryd.ntmps13
  go_wp2_with (first
    | (have hgo := HI9; clear hgo; go_at_call 10; refine (pis_yes 30 0 23 7 HI9.out).mono ?_; rintro e w4 ⟨rfl, hk4⟩; have hK4 : Kept w w4 none := hK3.tr hk4)
    | (have hgo := SA1; clear hgo; go_at_call 8; refine (clampA SA1.out (HT.out.kept hk1)).mono ?_; rintro e w2 ⟨g, cp, rfl, hg, hi2, hk2⟩; have k3 : Kept w2 (w2.alloc (.cells #[.int .i64 30, .int .i64 0, .slice (some ⟨g, 0, none⟩) 2 cp] 24)) none := Kept.alloc _ _ _ _ _; have b3 := box_alloc w2 (.int .i64 30) (.int .i64 0) (.slice (some ⟨g, 0, none⟩) 2 cp) 24; obtain ⟨w3, hw3⟩ : ∃ w3, w2.alloc (.cells #[.int .i64 30, .int .i64 0, .slice (some ⟨g, 0, none⟩) 2 cp] 24) = w3 := ⟨_, rfl⟩; rw [hw3] at k3 b3; have HI9 := Hid.mk' (hi2.kept k3); have hK3 : Kept w w3 none := (hk1.tr hk2).tr k3; have x0 := b3.c0; have x1 := b3.c1; have x2 := b3.c2; clear hi2 b3 k3)
    | rw [hw3]
    | (go_at_call 9; refine three_any.mono ?_; rintro e w1 ⟨X1, rfl, hsat, hk1⟩; have SA1 := Hid.mk' hsat; clear hsat))
  go_ret
  exact ⟨by simp, hK4⟩

end Go.Proofs.YtfhmfanmnhclfaaDoor

