/-
  Texts joined: some of those that the proofs of this seat stand on.
-/
import Derived.Test.YtfhmfanmnhclfaaDoorPlaA
import Derived.Test.YtfhmfanmnhclfaaDoorPlnIJ
import Derived.Deep.RegionHeld
/-
  THE WALK of PlanNames (made by a program).
-/
namespace Go.Proofs.YtfhmfanmnhclfaaDoor
open Go.RowKit Go.Lib Go.Deep
set_option linter.unusedVariables false
set_option linter.unusedSimpArgs false

def S00 : St := ⟨0, [], [], [], [], [], 0, 0, 0, 0, 0, []⟩
def X00 : Sa := ⟨none, 0, none, 0, none, 0, none, 0, none, 0, none, 0⟩
theorem cap00 : Cap none 0 0 := ⟨fun _ => ⟨rfl, rfl⟩, Nat.le_refl _, Nat.zero_le _⟩
theorem sat00 (w : World) : Sat w X00 S00 := by
  have hi : i64B 0 := by unfold i64B; omega
  refine ⟨⟨fun h => absurd h (by decide)⟩, ⟨fun h => absurd h (by decide)⟩, ⟨⟨fun _ => (none, 0), ⟨fun h => absurd h (by decide)⟩, fun i h => absurd h (Nat.not_lt_zero i)⟩, rfl, cap00⟩, ⟨fun h => absurd h (by decide)⟩, ⟨fun h => absurd h (by decide)⟩, ⟨⟨fun _ => (none, 0), ⟨fun h => absurd h (by decide)⟩, fun i h => absurd h (Nat.not_lt_zero i)⟩, rfl, cap00, fun p h => (nomatch h)⟩, cap00, cap00, cap00, cap00, fun g h => (nomatch h), fun g h => (nomatch h), fun g h => (nomatch h), fun g h => (nomatch h), hi, hi, hi, hi, hi, hi⟩
theorem s00_no : siteB S00 = false := by decide +kernel

theorem ints_lit2 (w : World) (x y : Int) (hr : i64B x ∧ i64B y) : Ints (w.alloc (.cells #[.int .i64 x, .int .i64 y] 3)) (some ⟨w.heap.size, 0, none⟩) 2 2 [x, y] := by
  refine ⟨⟨fun _ => ⟨w.heap.size, 0, rfl, by simp, fun i hi j hj => ?_⟩⟩, rfl, ⟨fun e => (nomatch e), Nat.le_refl _, by omega⟩, fun z hz => ?_⟩
  · obtain rfl : j = 0 := by omega
    have : i = 0 ∨ i = 1 := by omega
    rcases this with rfl | rfl <;> exact alloc_one rfl
  · have : z = x ∨ z = y := by simpa using hz
    rcases this with rfl | rfl
    · exact hr.1
    · exact hr.2
theorem ints_lit3 (w : World) (x y z : Int) (hr : i64B x ∧ i64B y ∧ i64B z) : Ints (w.alloc (.cells #[.int .i64 x, .int .i64 y, .int .i64 z] 3)) (some ⟨w.heap.size, 0, none⟩) 3 3 [x, y, z] := by
  refine ⟨⟨fun _ => ⟨w.heap.size, 0, rfl, by simp, fun i hi j hj => ?_⟩⟩, rfl, ⟨fun e => (nomatch e), Nat.le_refl _, by omega⟩, fun v hv => ?_⟩
  · obtain rfl : j = 0 := by omega
    have : i = 0 ∨ i = 1 ∨ i = 2 := by omega
    rcases this with rfl | rfl | rfl <;> exact alloc_one rfl
  · have : v = x ∨ v = y ∨ v = z := by simpa using hv
    rcases this with rfl | rfl | rfl
    · exact hr.1
    · exact hr.2.1
    · exact hr.2.2
def PB1 : Pl := ⟨40, -1, [20, 20]⟩
def PC1 : Pl := ⟨30, 0, [6, 9, 9]⟩
def P40 : Pl := ⟨40, 3, [20, 20]⟩
theorem pb1 : cycC S15 PB1 = 40 ∧ offC S15 PB1 = 39 ∧ splC S15 PB1 0 = 20 ∧ splC S15 PB1 1 = 20 := by decide +kernel
theorem pc1 : cycC S15 PC1 = 30 ∧ offC S15 PC1 = 0 ∧ splC S15 PC1 0 = 11 ∧ splC S15 PC1 1 = 19 := by decide +kernel
theorem p40_may : planB S15 P40 = true := by decide +kernel
theorem p40_wt : ∀ k, k < 5 → wtN S15 P40 (([3, 19, 20, 23, 2] : List Nat).getD k 0) = ([0, 0, 1, 1, 0] : List Nat).getD k 0 := by decide +kernel
theorem p40_pt : ∀ k, k < 4 → partV P40 (([2, 3, 22, 23] : List Nat).getD k 0) = (([1, 0, 0, 1] : List Nat).getD k 0, ([19, 0, 19, 0] : List Nat).getD k 0) := by decide +kernel
theorem tk_le : ∀ k, k < 4 → ([2, 3, 22, 23] : List Nat).getD k 0 ≤ 1000 := by decide +kernel
theorem wn_le : ∀ k, k < 5 → ([3, 19, 20, 23, 2] : List Nat).getD k 0 ≤ 1000 := by decide +kernel
theorem at_nil : atE S15 ⟨0, 0, []⟩ 0 = 170 := by decide +kernel
theorem at_low : atE S15 P40 (-1) = 2 := by decide +kernel
theorem clampB {w : World} {X : Sa} (h : Sat w X S15) (hT : Tabb w) {a : Option Addr} {c : Nat} (hI : Ints w a 2 c [20, 20]) : Calls Tryd.prog 8 #[siteV X S15, .agg #[.int .i64 40, .int .i64 (-1), .slice a 2 c]] w fun e w' => ∃ g cp, e = .returned (.tuple #[.agg #[.int .i64 40, .int .i64 39, .slice (some ⟨g, 0, none⟩) 2 cp], .int .i64 0]) ∧ w.heap.size ≤ g ∧ Ints w' (some ⟨g, 0, none⟩) 2 cp [20, 20] ∧ Kept w w' none := clamp15 h hT (P := PB1) hI (by show i64B (-1); unfold i64B; omega) 40 39 20 20 pb1.1 pb1.2.1 pb1.2.2.1 pb1.2.2.2 (by unfold i64B; omega)
theorem clampC {w : World} {X : Sa} (h : Sat w X S15) (hT : Tabb w) {a : Option Addr} {c : Nat} (hI : Ints w a 3 c [6, 9, 9]) : Calls Tryd.prog 8 #[siteV X S15, .agg #[.int .i64 30, .int .i64 0, .slice a 3 c]] w fun e w' => ∃ g cp, e = .returned (.tuple #[.agg #[.int .i64 30, .int .i64 0, .slice (some ⟨g, 0, none⟩) 2 cp], .int .i64 0]) ∧ w.heap.size ≤ g ∧ Ints w' (some ⟨g, 0, none⟩) 2 cp [11, 19] ∧ Kept w w' none := clamp15 h hT (P := PC1) hI (by show i64B 0; unfold i64B; omega) 30 0 11 19 pc1.1 pc1.2.1 pc1.2.2.1 pc1.2.2.2 (by unfold i64B; omega)
theorem at15 {w : World} {X : Sa} (h : Sat w X S15) (hT : Tabb w) {a : Option Addr} {c : Nat} (hI : Ints w a 2 c [20, 20]) (t i x : Nat) (ht : t ≤ 1000) (e : partV P40 t = (i, x)) : Calls Tryd.prog 11 #[siteV X S15, .agg #[.int .i64 40, .int .i64 3, .slice a 2 c], .int .i64 (t : Int)] w fun e w' => e = .returned (.tuple #[.int .i64 (i : Int), .int .i64 (x : Int), .int .i64 0]) ∧ Kept w w' none := by
  have hx := pat_go (P := P40) h hT hI t s15_may p40_may (by omega)
  rw [e] at hx
  exact hx
theorem wan15 {w : World} {X : Sa} (h : Sat w X S15) (hT : Tabb w) {a : Option Addr} {c : Nat} (hI : Ints w a 2 c [20, 20]) (t i : Nat) (ht : t ≤ 1000) (e : wtN S15 P40 t = i) : Calls Tryd.prog 12 #[siteV X S15, .agg #[.int .i64 40, .int .i64 3, .slice a 2 c], .int .i64 (t : Int)] w fun e w' => e = .returned (.tuple #[.int .i64 (i : Int), .int .i64 0]) ∧ Kept w w' none := by
  have hx := pwan_go (P := P40) h hT hI t s15_may p40_may (by omega)
  rw [e] at hx
  exact hx
theorem wan_low {w : World} {X : Sa} (h : Sat w X S15) (hT : Tabb w) {a : Option Addr} {c : Nat} (hI : Ints w a 2 c [20, 20]) : Calls Tryd.prog 12 #[siteV X S15, .agg #[.int .i64 40, .int .i64 3, .slice a 2 c], .int .i64 (-1)] w fun e w' => e = .returned (.tuple #[.int .i64 0, .int .i64 2]) ∧ Kept w w' none := pwan_no (P := P40) h hT hI (-1) 2 at_low (by decide)
theorem at_emp {w : World} {X : Sa} (h : Sat w X S15) (hT : Tabb w) : Calls Tryd.prog 11 #[siteV X S15, .agg #[.int .i64 0, .int .i64 0, .slice none 0 0], .int .i64 0] w fun e w' => e = .returned (.tuple #[.int .i64 0, .int .i64 0, .int .i64 170]) ∧ Kept w w' none := by
  have hx := pat_any (P := ⟨0, 0, []⟩) h hT (ints_nil w) 0
  have e0 := at_nil
  unfold atPh atIn at hx
  rw [e0, if_neg (by decide), if_neg (by decide)] at hx
  exact hx
set_option maxRecDepth 100000 in
set_option maxHeartbeats 8000000 in
theorem pnames_any {w : World} (hT : Tabb w) : Calls Tryd.prog 3 #[] w fun e w' => e = .returned (.bool true) ∧ Below w.heap.size w w' := by
  have HT := Hid.mk' hT
  have hK0 := Kept.refl w none
  clear hT
  go_enter Tryd.func3, Tryd.ntmps3
  go_wp2_with (first | (have hgo := hK5; clear hgo; go_at_call 10; refine (pis_yes 30 0 11 19 (HI2.out.kept hK5)).mono ?_; rintro e w6 ⟨rfl, hk6⟩; have hK6 : Kept w w6 none := (hKb.tr hK5).tr hk6) | (have hgo := hKab; clear hgo; go_at_call 10; refine (pis_yes 40 39 20 20 (HI1.out.kept hKab)).mono ?_; rintro e w5 ⟨rfl, hk5⟩; have hK5 : Kept wb w5 none := hk5) | rw [hwb] | (have hgo := SA2; clear hgo; go_at_call 8; have ka : Kept w3 (w3.alloc (.cells #[.int .i64 6, .int .i64 9, .int .i64 9] 3)) none := Kept.alloc _ _ _ _ _; refine (clampC (SA2.out.kept ka) (HT.out.kept (hK3.tr ka)) (ints_lit3 w3 6 9 9 (by unfold i64B; omega))).mono ?_; rintro e w4 ⟨g2, cp2, rfl, _, hi2, hk2⟩; have kv : Kept w4 (w4.alloc (.cells #[.int .i64 30, .int .i64 0, .slice (some ⟨g2, 0, none⟩) 2 cp2] 24)) none := Kept.alloc _ _ _ _ _; have bv := box_alloc w4 (.int .i64 30) (.int .i64 0) (.slice (some ⟨g2, 0, none⟩) 2 cp2) 24; obtain ⟨wb, hwb⟩ : ∃ wb, w4.alloc (.cells #[.int .i64 30, .int .i64 0, .slice (some ⟨g2, 0, none⟩) 2 cp2] 24) = wb := ⟨_, rfl⟩; rw [hwb] at kv bv; have hKb : Kept w wb none := ((hK3.tr ka).tr hk2).tr kv; have HI2 := Hid.mk' (hi2.kept kv); have HB2 := Hid.mk' bv; have v0_ : ∀ w', Kept wb w' none → w'.cell? ⟨w4.heap.size, 0, none⟩ = some (.int .i64 30) := fun w' q => (HB2.out.kept q).c0; have v1_ : ∀ w', Kept wb w' none → w'.cell? ⟨w4.heap.size, 1, none⟩ = some (.int .i64 0) := fun w' q => (HB2.out.kept q).c1; have v2_ : ∀ w', Kept wb w' none → w'.cell? ⟨w4.heap.size, 2, none⟩ = some (.slice (some ⟨g2, 0, none⟩) 2 cp2) := fun w' q => (HB2.out.kept q).c2; have vk := Kept.refl wb none; clear hi2 bv kv; have hKab : Kept wa wb none := by rw [← hwb]; exact ((hKa3.tr (Kept.alloc _ _ _ _ _)).tr hk2).tr (Kept.alloc _ _ _ _ _)) | (have hgo := hKa; clear hgo; go_at_call 9; refine three_any.mono ?_; rintro e w3 ⟨X2, rfl, hsat, hj2⟩; have SA2 := Hid.mk' hsat; have hK3 : Kept w w3 none := hKa.tr hj2; clear hsat; have hKa3 : Kept wa w3 none := hj2) | rw [hwa] | (have hgo := SA1; clear hgo; go_at_call 8; have ka : Kept w1 (w1.alloc (.cells #[.int .i64 20, .int .i64 20] 3)) none := Kept.alloc _ _ _ _ _; refine (clampB (SA1.out.kept ka) (HT.out.kept (hK1.tr ka)) (ints_lit2 w1 20 20 (by unfold i64B; omega))).mono ?_; rintro e w2 ⟨g1, cp1, rfl, _, hi1, hk1⟩; have ku : Kept w2 (w2.alloc (.cells #[.int .i64 40, .int .i64 39, .slice (some ⟨g1, 0, none⟩) 2 cp1] 24)) none := Kept.alloc _ _ _ _ _; have bu := box_alloc w2 (.int .i64 40) (.int .i64 39) (.slice (some ⟨g1, 0, none⟩) 2 cp1) 24; obtain ⟨wa, hwa⟩ : ∃ wb, w2.alloc (.cells #[.int .i64 40, .int .i64 39, .slice (some ⟨g1, 0, none⟩) 2 cp1] 24) = wb := ⟨_, rfl⟩; rw [hwa] at ku bu; have hKa : Kept w wa none := ((hK1.tr ka).tr hk1).tr ku; have HI1 := Hid.mk' (hi1.kept ku); have HB1 := Hid.mk' bu; have u0_ : ∀ w', Kept wa w' none → w'.cell? ⟨w2.heap.size, 0, none⟩ = some (.int .i64 40) := fun w' q => (HB1.out.kept q).c0; have u1_ : ∀ w', Kept wa w' none → w'.cell? ⟨w2.heap.size, 1, none⟩ = some (.int .i64 39) := fun w' q => (HB1.out.kept q).c1; have u2_ : ∀ w', Kept wa w' none → w'.cell? ⟨w2.heap.size, 2, none⟩ = some (.slice (some ⟨g1, 0, none⟩) 2 cp1) := fun w' q => (HB1.out.kept q).c2; have uk := Kept.refl wa none; clear hi1 bu ku) | (have hgo := hK0; clear hgo; go_at_call 9; refine three_any.mono ?_; rintro e w1 ⟨X1, rfl, hsat, hj1⟩; have SA1 := Hid.mk' hsat; have hK1 : Kept w w1 none := hK0.tr hj1; clear hsat))
  have hl2 := ints_lit2 w6 20 20 (by unfold i64B; omega)
  have kp : Kept (w6.alloc (.cells #[.int .i64 20, .int .i64 20] 3)) (((((w6.alloc (.cells #[.int .i64 20, .int .i64 20] 3)).alloc (.cells #[.int .i64 40, .int .i64 3, .slice (some ⟨w6.heap.size, 0, none⟩) 2 2] 24)).alloc (.cells #[.int .i64 2, .int .i64 3, .int .i64 22, .int .i64 23] 38)).alloc (.cells #[.int .i64 1, .int .i64 0, .int .i64 0, .int .i64 1] 38)).alloc (.cells #[.int .i64 19, .int .i64 0, .int .i64 19, .int .i64 0] 38)) none := (((Kept.alloc _ _ _ _ _).tr (Kept.alloc _ _ _ _ _)).tr (Kept.alloc _ _ _ _ _)).tr (Kept.alloc _ _ _ _ _)
  have bp := (box_alloc (w6.alloc (.cells #[.int .i64 20, .int .i64 20] 3)) (.int .i64 40) (.int .i64 3) (.slice (some ⟨w6.heap.size, 0, none⟩) 2 2) 24).kept (show Kept ((w6.alloc (.cells #[.int .i64 20, .int .i64 20] 3)).alloc (.cells #[.int .i64 40, .int .i64 3, .slice (some ⟨w6.heap.size, 0, none⟩) 2 2] 24)) (((((w6.alloc (.cells #[.int .i64 20, .int .i64 20] 3)).alloc (.cells #[.int .i64 40, .int .i64 3, .slice (some ⟨w6.heap.size, 0, none⟩) 2 2] 24)).alloc (.cells #[.int .i64 2, .int .i64 3, .int .i64 22, .int .i64 23] 38)).alloc (.cells #[.int .i64 1, .int .i64 0, .int .i64 0, .int .i64 1] 38)).alloc (.cells #[.int .i64 19, .int .i64 0, .int .i64 19, .int .i64 0] 38)) none from ((Kept.alloc _ _ _ _ _).tr (Kept.alloc _ _ _ _ _)).tr (Kept.alloc _ _ _ _ _))
  rw [World.size_alloc] at bp
  have hl2 := hl2.kept kp
  have hz : (((((w6.alloc (.cells #[.int .i64 20, .int .i64 20] 3)).alloc (.cells #[.int .i64 40, .int .i64 3, .slice (some ⟨w6.heap.size, 0, none⟩) 2 2] 24)).alloc (.cells #[.int .i64 2, .int .i64 3, .int .i64 22, .int .i64 23] 38)).alloc (.cells #[.int .i64 1, .int .i64 0, .int .i64 0, .int .i64 1] 38)).alloc (.cells #[.int .i64 19, .int .i64 0, .int .i64 19, .int .i64 0] 38)).heap.size = w6.heap.size + 5 := by simp
  have rt : ∀ k, k < 4 → (((((w6.alloc (.cells #[.int .i64 20, .int .i64 20] 3)).alloc (.cells #[.int .i64 40, .int .i64 3, .slice (some ⟨w6.heap.size, 0, none⟩) 2 2] 24)).alloc (.cells #[.int .i64 2, .int .i64 3, .int .i64 22, .int .i64 23] 38)).alloc (.cells #[.int .i64 1, .int .i64 0, .int .i64 0, .int .i64 1] 38)).alloc (.cells #[.int .i64 19, .int .i64 0, .int .i64 19, .int .i64 0] 38)).cell? ⟨w6.heap.size + 1 + 1, k, none⟩ = some (.int .i64 ((([2, 3, 22, 23] : List Nat).getD k 0 : Nat) : Int)) := by
    have hs : ((w6.alloc (.cells #[.int .i64 20, .int .i64 20] 3)).alloc (.cells #[.int .i64 40, .int .i64 3, .slice (some ⟨w6.heap.size, 0, none⟩) 2 2] 24)).heap.size = w6.heap.size + 1 + 1 := by simp
    rw [← hs]
    intro k hk
    have hc : k = 0 ∨ k = 1 ∨ k = 2 ∨ k = 3 := by omega
    rcases hc with rfl | rfl | rfl | rfl <;> exact cell_kept0 (alloc_one (w := ((w6.alloc (.cells #[.int .i64 20, .int .i64 20] 3)).alloc (.cells #[.int .i64 40, .int .i64 3, .slice (some ⟨w6.heap.size, 0, none⟩) 2 2] 24))) (cs := #[.int .i64 2, .int .i64 3, .int .i64 22, .int .i64 23]) (t := 38) rfl) (show Kept (((w6.alloc (.cells #[.int .i64 20, .int .i64 20] 3)).alloc (.cells #[.int .i64 40, .int .i64 3, .slice (some ⟨w6.heap.size, 0, none⟩) 2 2] 24)).alloc (.cells #[.int .i64 2, .int .i64 3, .int .i64 22, .int .i64 23] 38)) (((((w6.alloc (.cells #[.int .i64 20, .int .i64 20] 3)).alloc (.cells #[.int .i64 40, .int .i64 3, .slice (some ⟨w6.heap.size, 0, none⟩) 2 2] 24)).alloc (.cells #[.int .i64 2, .int .i64 3, .int .i64 22, .int .i64 23] 38)).alloc (.cells #[.int .i64 1, .int .i64 0, .int .i64 0, .int .i64 1] 38)).alloc (.cells #[.int .i64 19, .int .i64 0, .int .i64 19, .int .i64 0] 38)) none from (Kept.alloc _ _ _ _ _).tr (Kept.alloc _ _ _ _ _))
  have rp : ∀ k, k < 4 → (((((w6.alloc (.cells #[.int .i64 20, .int .i64 20] 3)).alloc (.cells #[.int .i64 40, .int .i64 3, .slice (some ⟨w6.heap.size, 0, none⟩) 2 2] 24)).alloc (.cells #[.int .i64 2, .int .i64 3, .int .i64 22, .int .i64 23] 38)).alloc (.cells #[.int .i64 1, .int .i64 0, .int .i64 0, .int .i64 1] 38)).alloc (.cells #[.int .i64 19, .int .i64 0, .int .i64 19, .int .i64 0] 38)).cell? ⟨w6.heap.size + 1 + 1 + 1, k, none⟩ = some (.int .i64 ((([1, 0, 0, 1] : List Nat).getD k 0 : Nat) : Int)) := by
    have hs : (((w6.alloc (.cells #[.int .i64 20, .int .i64 20] 3)).alloc (.cells #[.int .i64 40, .int .i64 3, .slice (some ⟨w6.heap.size, 0, none⟩) 2 2] 24)).alloc (.cells #[.int .i64 2, .int .i64 3, .int .i64 22, .int .i64 23] 38)).heap.size = w6.heap.size + 1 + 1 + 1 := by simp
    rw [← hs]
    intro k hk
    have hc : k = 0 ∨ k = 1 ∨ k = 2 ∨ k = 3 := by omega
    rcases hc with rfl | rfl | rfl | rfl <;> exact cell_kept0 (alloc_one (w := (((w6.alloc (.cells #[.int .i64 20, .int .i64 20] 3)).alloc (.cells #[.int .i64 40, .int .i64 3, .slice (some ⟨w6.heap.size, 0, none⟩) 2 2] 24)).alloc (.cells #[.int .i64 2, .int .i64 3, .int .i64 22, .int .i64 23] 38))) (cs := #[.int .i64 1, .int .i64 0, .int .i64 0, .int .i64 1]) (t := 38) rfl) (show Kept ((((w6.alloc (.cells #[.int .i64 20, .int .i64 20] 3)).alloc (.cells #[.int .i64 40, .int .i64 3, .slice (some ⟨w6.heap.size, 0, none⟩) 2 2] 24)).alloc (.cells #[.int .i64 2, .int .i64 3, .int .i64 22, .int .i64 23] 38)).alloc (.cells #[.int .i64 1, .int .i64 0, .int .i64 0, .int .i64 1] 38)) (((((w6.alloc (.cells #[.int .i64 20, .int .i64 20] 3)).alloc (.cells #[.int .i64 40, .int .i64 3, .slice (some ⟨w6.heap.size, 0, none⟩) 2 2] 24)).alloc (.cells #[.int .i64 2, .int .i64 3, .int .i64 22, .int .i64 23] 38)).alloc (.cells #[.int .i64 1, .int .i64 0, .int .i64 0, .int .i64 1] 38)).alloc (.cells #[.int .i64 19, .int .i64 0, .int .i64 19, .int .i64 0] 38)) none from Kept.alloc _ _ _ _ _)
  have rf : ∀ k, k < 4 → (((((w6.alloc (.cells #[.int .i64 20, .int .i64 20] 3)).alloc (.cells #[.int .i64 40, .int .i64 3, .slice (some ⟨w6.heap.size, 0, none⟩) 2 2] 24)).alloc (.cells #[.int .i64 2, .int .i64 3, .int .i64 22, .int .i64 23] 38)).alloc (.cells #[.int .i64 1, .int .i64 0, .int .i64 0, .int .i64 1] 38)).alloc (.cells #[.int .i64 19, .int .i64 0, .int .i64 19, .int .i64 0] 38)).cell? ⟨w6.heap.size + 1 + 1 + 1 + 1, k, none⟩ = some (.int .i64 ((([19, 0, 19, 0] : List Nat).getD k 0 : Nat) : Int)) := by
    have hs : ((((w6.alloc (.cells #[.int .i64 20, .int .i64 20] 3)).alloc (.cells #[.int .i64 40, .int .i64 3, .slice (some ⟨w6.heap.size, 0, none⟩) 2 2] 24)).alloc (.cells #[.int .i64 2, .int .i64 3, .int .i64 22, .int .i64 23] 38)).alloc (.cells #[.int .i64 1, .int .i64 0, .int .i64 0, .int .i64 1] 38)).heap.size = w6.heap.size + 1 + 1 + 1 + 1 := by simp
    rw [← hs]
    intro k hk
    have hc : k = 0 ∨ k = 1 ∨ k = 2 ∨ k = 3 := by omega
    rcases hc with rfl | rfl | rfl | rfl <;> exact cell_kept0 (alloc_one (w := ((((w6.alloc (.cells #[.int .i64 20, .int .i64 20] 3)).alloc (.cells #[.int .i64 40, .int .i64 3, .slice (some ⟨w6.heap.size, 0, none⟩) 2 2] 24)).alloc (.cells #[.int .i64 2, .int .i64 3, .int .i64 22, .int .i64 23] 38)).alloc (.cells #[.int .i64 1, .int .i64 0, .int .i64 0, .int .i64 1] 38))) (cs := #[.int .i64 19, .int .i64 0, .int .i64 19, .int .i64 0]) (t := 38) rfl) (Kept.refl _ none)
  have hK7 : Kept w (((((w6.alloc (.cells #[.int .i64 20, .int .i64 20] 3)).alloc (.cells #[.int .i64 40, .int .i64 3, .slice (some ⟨w6.heap.size, 0, none⟩) 2 2] 24)).alloc (.cells #[.int .i64 2, .int .i64 3, .int .i64 22, .int .i64 23] 38)).alloc (.cells #[.int .i64 1, .int .i64 0, .int .i64 0, .int .i64 1] 38)).alloc (.cells #[.int .i64 19, .int .i64 0, .int .i64 19, .int .i64 0] 38)) none := (hK6.tr (Kept.alloc _ _ _ _ _)).tr kp
  obtain ⟨W4, hW4⟩ : ∃ W4, (((((w6.alloc (.cells #[.int .i64 20, .int .i64 20] 3)).alloc (.cells #[.int .i64 40, .int .i64 3, .slice (some ⟨w6.heap.size, 0, none⟩) 2 2] 24)).alloc (.cells #[.int .i64 2, .int .i64 3, .int .i64 22, .int .i64 23] 38)).alloc (.cells #[.int .i64 1, .int .i64 0, .int .i64 0, .int .i64 1] 38)).alloc (.cells #[.int .i64 19, .int .i64 0, .int .i64 19, .int .i64 0] 38)) = W4 := ⟨_, rfl⟩
  rw [hW4] at hl2 bp hz rt rp rf hK7 ⊢
  have HT4 := Hid.mk' (HT.out.kept hK7)
  have HK7 := Hid.mk' hK7
  have HBP := Hid.mk' bp
  have HL2 := Hid.mk' hl2
  have HRT := Hid.mk' rt
  have HRP := Hid.mk' rp
  have HRF := Hid.mk' rf
  clear hW4 hl2 bp rt rp rf hK7 kp hK6 hk6 hK5 hk5 hK0 hK1 hj1 hKa hK3 hj2 hKa3 hKb hKab u0_ u1_ u2_ uk v0_ v1_ v2_ vk SA1 SA2 HI1 HI2 HB1 HB2 hk1 hk2 hwa hwb
  go_loopw [5, 10, 11, 12, 13] (fun o i _ _ _ wr => ∃ k : Nat, k ≤ 4 ∧ i = .int .i64 k ∧ o = .bool true ∧ Kept W4 wr none) (fun _ i _ _ _ _ => 4 - (intOf i).toNat)
  case atStart => exact ⟨0, by omega, rfl, rfl, Kept.refl _ _⟩
  case round =>
    obtain ⟨k, hk, rfl, rfl, hkw⟩ := hrel
    have HKW := Hid.mk' hkw
    by_cases hlt : k < 4
    · have hH := Kept.refl wr none
      have p0_ : ∀ w', Kept wr w' none → w'.cell? ⟨w6.heap.size + 1, 0, none⟩ = some (.int .i64 40) := fun w' q => (HBP.out.kept (HKW.out.tr q)).c0
      have p1_ : ∀ w', Kept wr w' none → w'.cell? ⟨w6.heap.size + 1, 1, none⟩ = some (.int .i64 3) := fun w' q => (HBP.out.kept (HKW.out.tr q)).c1
      have p2_ : ∀ w', Kept wr w' none → w'.cell? ⟨w6.heap.size + 1, 2, none⟩ = some (.slice (some ⟨w6.heap.size, 0, none⟩) 2 2) := fun w' q => (HBP.out.kept (HKW.out.tr q)).c2
      have ct := HRT.out k hlt
      have cp_ := HRP.out k hlt
      have cf := HRF.out k hlt
      have htl := tk_le k hlt
      have HPT := Hid.mk' (p40_pt k hlt)
      generalize ([2, 3, 22, 23] : List Nat).getD k 0 = tt at *
      generalize ([1, 0, 0, 1] : List Nat).getD k 0 = pp at *
      generalize ([19, 0, 19, 0] : List Nat).getD k 0 = ff at *
      have t_ : ∀ w', Kept wr w' none → w'.cell? ⟨w6.heap.size + 1 + 1, k, none⟩ = some (.int .i64 (tt : Int)) := fun w' q => cell_kept0 ct (HKW.out.tr q)
      have q_ : ∀ w', Kept wr w' none → w'.cell? ⟨w6.heap.size + 1 + 1 + 1, k, none⟩ = some (.int .i64 (pp : Int)) := fun w' q => cell_kept0 cp_ (HKW.out.tr q)
      have f_ : ∀ w', Kept wr w' none → w'.cell? ⟨w6.heap.size + 1 + 1 + 1 + 1, k, none⟩ = some (.int .i64 (ff : Int)) := fun w' q => cell_kept0 cf (HKW.out.tr q)
      have HAT : Hid (∀ w' X, Kept wr w' none → Sat w' X S15 → Calls Tryd.prog 11 #[siteV X S15, .agg #[.int .i64 40, .int .i64 3, .slice (some ⟨w6.heap.size, 0, none⟩) 2 2], .int .i64 (tt : Int)] w' fun e w2 => e = .returned (.tuple #[.int .i64 (pp : Int), .int .i64 (ff : Int), .int .i64 0]) ∧ Kept w' w2 none) := fun w' X q hs => at15 hs ((HT4.out.kept HKW.out).kept q) ((HL2.out.kept HKW.out).kept q) tt pp ff htl HPT.out
      clear ct cp_ cf hkw
      go_wp2
      go_region_held (fun w' => Kept wr w' none)
        ((first | exact hH | exact Kept.tr hH (Kept.drew _ _) | assumption | exact Kept.tr (by assumption) (Kept.drew _ _)))
        ((first
          | (go_at_call 11; refine (HAT.out _ _ hKa SA.out).mono ?_; rintro e wO ⟨rfl, hkO⟩; have hKo : Kept wr wO none := Kept.tr hKa hkO)
          | (go_at_call 9; refine three_any.mono ?_; rintro e wT ⟨XT, rfl, hsat, hkT⟩; have SA := Hid.mk' hsat; have hKa : Kept wr wT none := Kept.tr (by assumption) hkT; clear hsat)))
      all_goals
        go_wp2
        go_roundw
        case rel => exact ⟨k + 1, by omega, by go_num, by simp, HKW.out.tr hKo⟩
        case measure => simp [intOf]; omega
    · obtain ⟨wz, hwz⟩ : ∃ wz, wz = wr := ⟨_, rfl⟩
      subst hwz
      go_wp2
      have hs1 : (wz.alloc (.cells #[.int .i64 3, .int .i64 19, .int .i64 20, .int .i64 23, .int .i64 2] 41)).heap.size = wz.heap.size + 1 := by simp
      have rw_ : ∀ k, k < 5 → ((wz.alloc (.cells #[.int .i64 3, .int .i64 19, .int .i64 20, .int .i64 23, .int .i64 2] 41)).alloc (.cells #[.int .i64 0, .int .i64 0, .int .i64 1, .int .i64 1, .int .i64 0] 41)).cell? ⟨wz.heap.size, k, none⟩ = some (.int .i64 ((([3, 19, 20, 23, 2] : List Nat).getD k 0 : Nat) : Int)) := by
        intro k hk
        have hc : k = 0 ∨ k = 1 ∨ k = 2 ∨ k = 3 ∨ k = 4 := by omega
        rcases hc with rfl | rfl | rfl | rfl | rfl <;> exact cell_kept0 (alloc_one (w := wz) (cs := #[.int .i64 3, .int .i64 19, .int .i64 20, .int .i64 23, .int .i64 2]) (t := 41) rfl) (show Kept (wz.alloc (.cells #[.int .i64 3, .int .i64 19, .int .i64 20, .int .i64 23, .int .i64 2] 41)) ((wz.alloc (.cells #[.int .i64 3, .int .i64 19, .int .i64 20, .int .i64 23, .int .i64 2] 41)).alloc (.cells #[.int .i64 0, .int .i64 0, .int .i64 1, .int .i64 1, .int .i64 0] 41)) none from Kept.alloc _ _ _ _ _)
      have rv_ : ∀ k, k < 5 → ((wz.alloc (.cells #[.int .i64 3, .int .i64 19, .int .i64 20, .int .i64 23, .int .i64 2] 41)).alloc (.cells #[.int .i64 0, .int .i64 0, .int .i64 1, .int .i64 1, .int .i64 0] 41)).cell? ⟨wz.heap.size + 1, k, none⟩ = some (.int .i64 ((([0, 0, 1, 1, 0] : List Nat).getD k 0 : Nat) : Int)) := by
        rw [← hs1]
        intro k hk
        have hc : k = 0 ∨ k = 1 ∨ k = 2 ∨ k = 3 ∨ k = 4 := by omega
        rcases hc with rfl | rfl | rfl | rfl | rfl <;> exact cell_kept0 (alloc_one (w := (wz.alloc (.cells #[.int .i64 3, .int .i64 19, .int .i64 20, .int .i64 23, .int .i64 2] 41))) (cs := #[.int .i64 0, .int .i64 0, .int .i64 1, .int .i64 1, .int .i64 0]) (t := 41) rfl) (Kept.refl _ none)
      have hKd0 : Kept W4 ((wz.alloc (.cells #[.int .i64 3, .int .i64 19, .int .i64 20, .int .i64 23, .int .i64 2] 41)).alloc (.cells #[.int .i64 0, .int .i64 0, .int .i64 1, .int .i64 1, .int .i64 0] 41)) none := hkw.tr ((Kept.alloc _ _ _ _ _).tr (Kept.alloc _ _ _ _ _))
      obtain ⟨W5, hW5⟩ : ∃ W5, ((wz.alloc (.cells #[.int .i64 3, .int .i64 19, .int .i64 20, .int .i64 23, .int .i64 2] 41)).alloc (.cells #[.int .i64 0, .int .i64 0, .int .i64 1, .int .i64 1, .int .i64 0] 41)) = W5 := ⟨_, rfl⟩
      rw [hW5] at rw_ rv_ hKd0 ⊢
      have HRW := Hid.mk' rw_
      have HRV := Hid.mk' rv_
      have HKD := Hid.mk' hKd0
      clear hW5 rw_ rv_ hKd0 hkw hs1
      go_loopw [5, 16, 17, 18] (fun o i _ _ wr => ∃ k : Nat, k ≤ 5 ∧ i = .int .i64 k ∧ o = .bool true ∧ Kept W5 wr none) (fun _ i _ _ _ => 5 - (intOf i).toNat)
      case atStart => exact ⟨0, by omega, rfl, rfl, Kept.refl _ _⟩
      case round =>
        obtain ⟨k2, hk2, rfl, rfl, hkw⟩ := hrel
        have HKW2 := Hid.mk' hkw
        have HKWW := Hid.mk' (HKD.out.tr hkw)
        have hH := Kept.refl wr none
        have p0_ : ∀ w', Kept wr w' none → w'.cell? ⟨w6.heap.size + 1, 0, none⟩ = some (.int .i64 40) := fun w' q => (HBP.out.kept (HKWW.out.tr q)).c0
        have p1_ : ∀ w', Kept wr w' none → w'.cell? ⟨w6.heap.size + 1, 1, none⟩ = some (.int .i64 3) := fun w' q => (HBP.out.kept (HKWW.out.tr q)).c1
        have p2_ : ∀ w', Kept wr w' none → w'.cell? ⟨w6.heap.size + 1, 2, none⟩ = some (.slice (some ⟨w6.heap.size, 0, none⟩) 2 2) := fun w' q => (HBP.out.kept (HKWW.out.tr q)).c2
        by_cases hlt2 : k2 < 5
        · have ct := HRW.out k2 hlt2
          have cv := HRV.out k2 hlt2
          have htl := wn_le k2 hlt2
          have HPT := Hid.mk' (p40_wt k2 hlt2)
          generalize ([3, 19, 20, 23, 2] : List Nat).getD k2 0 = tt at *
          generalize ([0, 0, 1, 1, 0] : List Nat).getD k2 0 = vv at *
          have t_ : ∀ w', Kept wr w' none → w'.cell? ⟨wz.heap.size, k2, none⟩ = some (.int .i64 (tt : Int)) := fun w' q => cell_kept0 ct (HKW2.out.tr q)
          have q_ : ∀ w', Kept wr w' none → w'.cell? ⟨wz.heap.size + 1, k2, none⟩ = some (.int .i64 (vv : Int)) := fun w' q => cell_kept0 cv (HKW2.out.tr q)
          have HWA : Hid (∀ w' X, Kept wr w' none → Sat w' X S15 → Calls Tryd.prog 12 #[siteV X S15, .agg #[.int .i64 40, .int .i64 3, .slice (some ⟨w6.heap.size, 0, none⟩) 2 2], .int .i64 (tt : Int)] w' fun e w2 => e = .returned (.tuple #[.int .i64 (vv : Int), .int .i64 0]) ∧ Kept w' w2 none) := fun w' X q hs => wan15 hs ((HT4.out.kept HKWW.out).kept q) ((HL2.out.kept HKWW.out).kept q) tt vv htl HPT.out
          clear ct cv hkw
          go_wp2
          go_region_held (fun w' => Kept wr w' none)
            ((first | exact hH | exact Kept.tr hH (Kept.drew _ _) | assumption | exact Kept.tr (by assumption) (Kept.drew _ _)))
            ((first
              | (go_at_call 12; refine (HWA.out _ _ hKa SA.out).mono ?_; rintro e wO ⟨rfl, hkO⟩; have hKo : Kept wr wO none := Kept.tr hKa hkO)
              | (go_at_call 9; refine three_any.mono ?_; rintro e wT ⟨XT, rfl, hsat, hkT⟩; have SA := Hid.mk' hsat; have hKa : Kept wr wT none := Kept.tr (by assumption) hkT; clear hsat)))
          all_goals
            go_wp2
            go_roundw
            case rel => exact ⟨k2 + 1, by omega, by go_num, by simp, HKW2.out.tr hKo⟩
            case measure => simp [intOf]; omega
        · have hKd := HKWW.out
          have HT9' := Hid.mk' (HT4.out.kept HKWW.out)
          clear hkw
          go_wp2_with (first | (have hgo := SA3; clear hgo; go_at_call 11; refine (at_emp SA3.out (HT4.out.kept hK8)).mono ?_; rintro e w9 ⟨rfl, hk9⟩; have hK9 : Kept W4 w9 none := hK8.tr hk9) | (have hgo := hKd; clear hgo; go_at_call 9; refine three_any.mono ?_; rintro e w8 ⟨X3, rfl, hsat, hj3⟩; have SA3 := Hid.mk' hsat; have hK8 : Kept W4 w8 none := hKd.tr hj3; clear hsat))
          obtain ⟨wr9, hwr9⟩ : ∃ x, x = wr := ⟨_, rfl⟩
          clear p0_ p1_ p2_ hH
          have hH := Kept.refl w9 none
          have HT9 := Hid.mk' (HT4.out.kept hK9)
          have HL9 := Hid.mk' (HL2.out.kept hK9)
          have HKF := Hid.mk' (HK7.out.tr hK9)
          have p0_ : ∀ w', Kept w9 w' none → w'.cell? ⟨w6.heap.size + 1, 0, none⟩ = some (.int .i64 40) := fun w' q => (HBP.out.kept (hK9.tr q)).c0
          have p1_ : ∀ w', Kept w9 w' none → w'.cell? ⟨w6.heap.size + 1, 1, none⟩ = some (.int .i64 3) := fun w' q => (HBP.out.kept (hK9.tr q)).c1
          have p2_ : ∀ w', Kept w9 w' none → w'.cell? ⟨w6.heap.size + 1, 2, none⟩ = some (.slice (some ⟨w6.heap.size, 0, none⟩) 2 2) := fun w' q => (HBP.out.kept (hK9.tr q)).c2
          have HWL : Hid (∀ w' X, Kept w9 w' none → Sat w' X S15 → Calls Tryd.prog 12 #[siteV X S15, .agg #[.int .i64 40, .int .i64 3, .slice (some ⟨w6.heap.size, 0, none⟩) 2 2], .int .i64 (-1)] w' fun e w2 => e = .returned (.tuple #[.int .i64 0, .int .i64 2]) ∧ Kept w' w2 none) := fun w' X q hs => wan_low hs (HT9.out.kept q) (HL9.out.kept q)
          clear hKd hK8 hk9 hj3 SA3 hwr9
          go_region_held (fun w' => Kept w9 w' none)
            ((first | exact hH | exact Kept.tr hH (Kept.drew _ _) | assumption | exact Kept.tr (by assumption) (Kept.drew _ _)))
            ((first
              | (go_at_call 12; refine (HWL.out _ _ hKa SA.out).mono ?_; rintro e wO ⟨rfl, hkO⟩; have hKo : Kept w9 wO none := Kept.tr hKa hkO)
              | (go_at_call 9; refine three_any.mono ?_; rintro e wT ⟨XT, rfl, hsat, hkT⟩; have SA := Hid.mk' hsat; have hKa : Kept w9 wT none := Kept.tr (by assumption) hkT; clear hsat)))
          all_goals
            go_wp2_with (first | (have hgo := hKz; clear hgo; go_at_call 13; have kal : Kept wz9 (wz9.alloc (.cells #[.int .i64 0, .int .i64 0, .slice none 0 0] 24)) none := Kept.alloc _ _ _ _ _; refine (palive_any (HT9.out.kept (hKz.tr kal))).mono ?_; rintro e wv ⟨rfl, hkv⟩; have hKv : Kept w9 wv none := (hKz.tr kal).tr hkv) | (have hgo := hKo; clear hgo; go_at_call 8; refine (pclamp_no (X := X00) (S := S00) (P := P40) (sat00 _) (HT9.out.kept hKo) (HL9.out.kept hKo) s00_no).mono ?_; rintro e wz9 ⟨rfl, hkz⟩; have hKz : Kept w9 wz9 none := hKo.tr hkz))
            go_ret
            exact ⟨by simp, (HKF.out.tr hKv).below⟩

end Go.Proofs.YtfhmfanmnhclfaaDoor

