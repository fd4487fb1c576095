/-
  Texts joined: some of those that the proofs of this seat stand on.
-/
import Derived.Test.YtpnmlgillphodaaDoorRefC8
import Derived.Laws.StructEq
import Derived.Laws.AppendOwnNone
import Derived.Test.YtpnmlgillphodaaDoorSafeJ
import Derived.Test.YtpnmlgillphodaaDoorSafeFJ
import Derived.Test.YtpnmlgillphodaaDoorRefG
/-
  THE DOCUMENT'S Greatest, First, Same of layer 8 (made by a program).
-/
namespace Go.Proofs.YtpnmlgillphodaaDoor
open Go.RowKit Go.Lib Go.Deep
set_option linter.unusedVariables false
set_option linter.unusedSimpArgs false

set_option maxRecDepth 100000 in
set_option maxHeartbeats 4000000 in
theorem rgst_no {X : Sa} {S : St} {w : World} (h : Sat w X S) (hs : siteB S = false) : Calls Tryd.prog 17 #[siteV X S] w fun e w' => e = .returned (.tuple #[.int .i64 0, .int .i64 50]) ∧ Kept w w' none := by
  have HCE := Hid.mk' (checkE_no hs)
  have k1 : Kept w (w.alloc (.cells #[.int .i64 S.id, .slice X.g S.groups.length X.gc, .slice X.a S.apart.length X.ac, .slice X.b S.between.length X.bc, .slice X.p S.phases.length X.pc, .slice X.e S.eyes.length X.ec, .int .i64 S.watch, .int .i64 S.feed, .int .i64 S.heal, .int .i64 S.low, .int .i64 S.high, .slice X.l S.plans.length X.lc] 33)) none := Kept.alloc _ _ _ _ _
  have hsb := sbox_alloc h 33
  have hsz : (w.alloc (.cells #[.int .i64 S.id, .slice X.g S.groups.length X.gc, .slice X.a S.apart.length X.ac, .slice X.b S.between.length X.bc, .slice X.p S.phases.length X.pc, .slice X.e S.eyes.length X.ec, .int .i64 S.watch, .int .i64 S.feed, .int .i64 S.heal, .int .i64 S.low, .int .i64 S.high, .slice X.l S.plans.length X.lc] 33)).heap.size = w.heap.size + 1 := by simp
  obtain ⟨W1, hW1⟩ : ∃ W1, w.alloc (.cells #[.int .i64 S.id, .slice X.g S.groups.length X.gc, .slice X.a S.apart.length X.ac, .slice X.b S.between.length X.bc, .slice X.p S.phases.length X.pc, .slice X.e S.eyes.length X.ec, .int .i64 S.watch, .int .i64 S.feed, .int .i64 S.heal, .int .i64 S.low, .int .i64 S.high, .slice X.l S.plans.length X.lc] 33) = W1 := ⟨_, rfl⟩
  rw [hW1] at k1 hsb hsz
  have HSB := Hid.mk' hsb
  have HK := Hid.mk' k1
  have hK0 := Kept.refl W1 none
  have s0_ : ∀ w', Kept W1 w' none → w'.cell? ⟨w.heap.size, 0, none⟩ = some (.int .i64 S.id) := fun w' q => (HSB.out.kept q).c0
  have s1_ : ∀ w', Kept W1 w' none → w'.cell? ⟨w.heap.size, 1, none⟩ = some (.slice X.g S.groups.length X.gc) := fun w' q => (HSB.out.kept q).c1
  have s2_ : ∀ w', Kept W1 w' none → w'.cell? ⟨w.heap.size, 2, none⟩ = some (.slice X.a S.apart.length X.ac) := fun w' q => (HSB.out.kept q).c2
  have s3_ : ∀ w', Kept W1 w' none → w'.cell? ⟨w.heap.size, 3, none⟩ = some (.slice X.b S.between.length X.bc) := fun w' q => (HSB.out.kept q).c3
  have s4_ : ∀ w', Kept W1 w' none → w'.cell? ⟨w.heap.size, 4, none⟩ = some (.slice X.p S.phases.length X.pc) := fun w' q => (HSB.out.kept q).c4
  have s5_ : ∀ w', Kept W1 w' none → w'.cell? ⟨w.heap.size, 5, none⟩ = some (.slice X.e S.eyes.length X.ec) := fun w' q => (HSB.out.kept q).c5
  have s6_ : ∀ w', Kept W1 w' none → w'.cell? ⟨w.heap.size, 6, none⟩ = some (.int .i64 S.watch) := fun w' q => (HSB.out.kept q).c6
  have s7_ : ∀ w', Kept W1 w' none → w'.cell? ⟨w.heap.size, 7, none⟩ = some (.int .i64 S.feed) := fun w' q => (HSB.out.kept q).c7
  have s8_ : ∀ w', Kept W1 w' none → w'.cell? ⟨w.heap.size, 8, none⟩ = some (.int .i64 S.heal) := fun w' q => (HSB.out.kept q).c8
  have s9_ : ∀ w', Kept W1 w' none → w'.cell? ⟨w.heap.size, 9, none⟩ = some (.int .i64 S.low) := fun w' q => (HSB.out.kept q).c9
  have s10_ : ∀ w', Kept W1 w' none → w'.cell? ⟨w.heap.size, 10, none⟩ = some (.int .i64 S.high) := fun w' q => (HSB.out.kept q).c10
  have s11_ : ∀ w', Kept W1 w' none → w'.cell? ⟨w.heap.size, 11, none⟩ = some (.slice X.l S.plans.length X.lc) := fun w' q => (HSB.out.kept q).c11
  clear h k1 hsb hsz
  go_enter Tryd.func17, Tryd.ntmps17
  go_wp2_with (first | rw [hW1] | (go_at_call 27; have hn := rcheck_any (HSB.out.sat.kept hK0); rw [HCE.out] at hn; refine hn.mono ?_; rintro e wK ⟨rfl, hkK⟩))
  exact bodyPost_ret (v := .tuple #[.int .i64 0, .int .i64 50]) (by simp [results, Tryd.results17, go_sem]) rfl ⟨rfl, HK.out.tr hkK⟩
set_option maxRecDepth 100000 in
set_option maxHeartbeats 4000000 in
theorem rgst_yes {X : Sa} {S : St} {w : World} (h : Sat w X S) (hs : siteB S = true) : Calls Tryd.prog 17 #[siteV X S] w fun e w' => e = .returned (.tuple #[.int .i64 (worstM S), .int .i64 0]) ∧ Kept w w' none := by
  have HCE := Hid.mk' (checkE_yes hs)
  have k1 : Kept w (w.alloc (.cells #[.int .i64 S.id, .slice X.g S.groups.length X.gc, .slice X.a S.apart.length X.ac, .slice X.b S.between.length X.bc, .slice X.p S.phases.length X.pc, .slice X.e S.eyes.length X.ec, .int .i64 S.watch, .int .i64 S.feed, .int .i64 S.heal, .int .i64 S.low, .int .i64 S.high, .slice X.l S.plans.length X.lc] 33)) none := Kept.alloc _ _ _ _ _
  have hsb := sbox_alloc h 33
  have hsz : (w.alloc (.cells #[.int .i64 S.id, .slice X.g S.groups.length X.gc, .slice X.a S.apart.length X.ac, .slice X.b S.between.length X.bc, .slice X.p S.phases.length X.pc, .slice X.e S.eyes.length X.ec, .int .i64 S.watch, .int .i64 S.feed, .int .i64 S.heal, .int .i64 S.low, .int .i64 S.high, .slice X.l S.plans.length X.lc] 33)).heap.size = w.heap.size + 1 := by simp
  obtain ⟨W1, hW1⟩ : ∃ W1, w.alloc (.cells #[.int .i64 S.id, .slice X.g S.groups.length X.gc, .slice X.a S.apart.length X.ac, .slice X.b S.between.length X.bc, .slice X.p S.phases.length X.pc, .slice X.e S.eyes.length X.ec, .int .i64 S.watch, .int .i64 S.feed, .int .i64 S.heal, .int .i64 S.low, .int .i64 S.high, .slice X.l S.plans.length X.lc] 33) = W1 := ⟨_, rfl⟩
  rw [hW1] at k1 hsb hsz
  have HSB := Hid.mk' hsb
  have HK := Hid.mk' k1
  have hK0 := Kept.refl W1 none
  have s0_ : ∀ w', Kept W1 w' none → w'.cell? ⟨w.heap.size, 0, none⟩ = some (.int .i64 S.id) := fun w' q => (HSB.out.kept q).c0
  have s1_ : ∀ w', Kept W1 w' none → w'.cell? ⟨w.heap.size, 1, none⟩ = some (.slice X.g S.groups.length X.gc) := fun w' q => (HSB.out.kept q).c1
  have s2_ : ∀ w', Kept W1 w' none → w'.cell? ⟨w.heap.size, 2, none⟩ = some (.slice X.a S.apart.length X.ac) := fun w' q => (HSB.out.kept q).c2
  have s3_ : ∀ w', Kept W1 w' none → w'.cell? ⟨w.heap.size, 3, none⟩ = some (.slice X.b S.between.length X.bc) := fun w' q => (HSB.out.kept q).c3
  have s4_ : ∀ w', Kept W1 w' none → w'.cell? ⟨w.heap.size, 4, none⟩ = some (.slice X.p S.phases.length X.pc) := fun w' q => (HSB.out.kept q).c4
  have s5_ : ∀ w', Kept W1 w' none → w'.cell? ⟨w.heap.size, 5, none⟩ = some (.slice X.e S.eyes.length X.ec) := fun w' q => (HSB.out.kept q).c5
  have s6_ : ∀ w', Kept W1 w' none → w'.cell? ⟨w.heap.size, 6, none⟩ = some (.int .i64 S.watch) := fun w' q => (HSB.out.kept q).c6
  have s7_ : ∀ w', Kept W1 w' none → w'.cell? ⟨w.heap.size, 7, none⟩ = some (.int .i64 S.feed) := fun w' q => (HSB.out.kept q).c7
  have s8_ : ∀ w', Kept W1 w' none → w'.cell? ⟨w.heap.size, 8, none⟩ = some (.int .i64 S.heal) := fun w' q => (HSB.out.kept q).c8
  have s9_ : ∀ w', Kept W1 w' none → w'.cell? ⟨w.heap.size, 9, none⟩ = some (.int .i64 S.low) := fun w' q => (HSB.out.kept q).c9
  have s10_ : ∀ w', Kept W1 w' none → w'.cell? ⟨w.heap.size, 10, none⟩ = some (.int .i64 S.high) := fun w' q => (HSB.out.kept q).c10
  have s11_ : ∀ w', Kept W1 w' none → w'.cell? ⟨w.heap.size, 11, none⟩ = some (.slice X.l S.plans.length X.lc) := fun w' q => (HSB.out.kept q).c11
  clear h k1 hsb hsz
  go_enter Tryd.func17, Tryd.ntmps17
  go_wp2_with (first | rw [hW1] | (go_at_call 27; have hn := rcheck_any (HSB.out.sat.kept hK0); rw [HCE.out] at hn; refine hn.mono ?_; rintro e wK ⟨rfl, hkK⟩) | (go_at_call 29; refine (rgr8_any (HSB.out.sat.kept hkK) hs).mono ?_; rintro e wG ⟨rfl, hkG⟩))
  exact bodyPost_ret (v := .tuple #[.int .i64 (worstM S), .int .i64 0]) (by simp [results, Tryd.results17, go_sem]) rfl ⟨rfl, (HK.out.tr hkK).tr hkG⟩
set_option maxRecDepth 100000 in
set_option maxHeartbeats 4000000 in
theorem rfst_no {X : Sa} {S : St} {w : World} (h : Sat w X S) (hs : siteB S = false) : Calls Tryd.prog 16 #[siteV X S] w fun e w' => e = .returned (.tuple #[safe0, .int .i64 50]) ∧ Kept w w' none := by
  have HCE := Hid.mk' (checkE_no hs)
  have k1 : Kept w (w.alloc (.cells #[.int .i64 S.id, .slice X.g S.groups.length X.gc, .slice X.a S.apart.length X.ac, .slice X.b S.between.length X.bc, .slice X.p S.phases.length X.pc, .slice X.e S.eyes.length X.ec, .int .i64 S.watch, .int .i64 S.feed, .int .i64 S.heal, .int .i64 S.low, .int .i64 S.high, .slice X.l S.plans.length X.lc] 33)) none := Kept.alloc _ _ _ _ _
  have hsb := sbox_alloc h 33
  have hsz : (w.alloc (.cells #[.int .i64 S.id, .slice X.g S.groups.length X.gc, .slice X.a S.apart.length X.ac, .slice X.b S.between.length X.bc, .slice X.p S.phases.length X.pc, .slice X.e S.eyes.length X.ec, .int .i64 S.watch, .int .i64 S.feed, .int .i64 S.heal, .int .i64 S.low, .int .i64 S.high, .slice X.l S.plans.length X.lc] 33)).heap.size = w.heap.size + 1 := by simp
  obtain ⟨W1, hW1⟩ : ∃ W1, w.alloc (.cells #[.int .i64 S.id, .slice X.g S.groups.length X.gc, .slice X.a S.apart.length X.ac, .slice X.b S.between.length X.bc, .slice X.p S.phases.length X.pc, .slice X.e S.eyes.length X.ec, .int .i64 S.watch, .int .i64 S.feed, .int .i64 S.heal, .int .i64 S.low, .int .i64 S.high, .slice X.l S.plans.length X.lc] 33) = W1 := ⟨_, rfl⟩
  rw [hW1] at k1 hsb hsz
  have k2 : Kept W1 (W1.alloc (.cells #[.slice none 0 0, .int .i64 0, .bool false] 41)) none := Kept.alloc _ _ _ _ _
  have bR := box_alloc W1 (.slice none 0 0) (.int .i64 0) (.bool false) 41
  obtain ⟨W2, hW2⟩ : ∃ W2, W1.alloc (.cells #[.slice none 0 0, .int .i64 0, .bool false] 41) = W2 := ⟨_, rfl⟩
  rw [hW2] at k2 bR
  rw [hsz] at bR
  have HSB := Hid.mk' (hsb.kept k2)
  have HBR := Hid.mk' bR
  have HK := Hid.mk' (k1.tr k2)
  have HSZ := Hid.mk' hsz
  have hK0 := Kept.refl W2 none
  have s0_ : ∀ w', Kept W2 w' none → w'.cell? ⟨w.heap.size, 0, none⟩ = some (.int .i64 S.id) := fun w' q => (HSB.out.kept q).c0
  have s1_ : ∀ w', Kept W2 w' none → w'.cell? ⟨w.heap.size, 1, none⟩ = some (.slice X.g S.groups.length X.gc) := fun w' q => (HSB.out.kept q).c1
  have s2_ : ∀ w', Kept W2 w' none → w'.cell? ⟨w.heap.size, 2, none⟩ = some (.slice X.a S.apart.length X.ac) := fun w' q => (HSB.out.kept q).c2
  have s3_ : ∀ w', Kept W2 w' none → w'.cell? ⟨w.heap.size, 3, none⟩ = some (.slice X.b S.between.length X.bc) := fun w' q => (HSB.out.kept q).c3
  have s4_ : ∀ w', Kept W2 w' none → w'.cell? ⟨w.heap.size, 4, none⟩ = some (.slice X.p S.phases.length X.pc) := fun w' q => (HSB.out.kept q).c4
  have s5_ : ∀ w', Kept W2 w' none → w'.cell? ⟨w.heap.size, 5, none⟩ = some (.slice X.e S.eyes.length X.ec) := fun w' q => (HSB.out.kept q).c5
  have s6_ : ∀ w', Kept W2 w' none → w'.cell? ⟨w.heap.size, 6, none⟩ = some (.int .i64 S.watch) := fun w' q => (HSB.out.kept q).c6
  have s7_ : ∀ w', Kept W2 w' none → w'.cell? ⟨w.heap.size, 7, none⟩ = some (.int .i64 S.feed) := fun w' q => (HSB.out.kept q).c7
  have s8_ : ∀ w', Kept W2 w' none → w'.cell? ⟨w.heap.size, 8, none⟩ = some (.int .i64 S.heal) := fun w' q => (HSB.out.kept q).c8
  have s9_ : ∀ w', Kept W2 w' none → w'.cell? ⟨w.heap.size, 9, none⟩ = some (.int .i64 S.low) := fun w' q => (HSB.out.kept q).c9
  have s10_ : ∀ w', Kept W2 w' none → w'.cell? ⟨w.heap.size, 10, none⟩ = some (.int .i64 S.high) := fun w' q => (HSB.out.kept q).c10
  have s11_ : ∀ w', Kept W2 w' none → w'.cell? ⟨w.heap.size, 11, none⟩ = some (.slice X.l S.plans.length X.lc) := fun w' q => (HSB.out.kept q).c11
  clear h k1 k2 hsb bR
  go_enter Tryd.func16, Tryd.ntmps16
  go_wp2_with (first | rw [hW1] | rw [hW2] | (go_at_call 27; have hn := rcheck_any (HSB.out.sat.kept hK0); rw [HCE.out] at hn; refine hn.mono ?_; rintro e wK ⟨rfl, hkK⟩; have bxK := HBR.out.kept hkK; have d0 := bxK.c0; have d1 := bxK.c1; have d2 := bxK.c2; have e0 := bxK.f0; have e1 := bxK.f1; have e2 := bxK.f2))
  have bx7 := ((bxK.set0 (.slice none 0 0)).set1 (.int .i64 0)).set2 (.bool false)
  have p0 := bx7.c0
  have p1 := bx7.c1
  have p2 := bx7.c2
  refine bodyPost_ret (v := .tuple #[safe0, .int .i64 50]) (by simp [results, Tryd.results16, go_sem, p0, p1, p2]) rfl ⟨rfl, ?_⟩
  have hb : Kept w _ none := HK.out.tr hkK
  exact ((hb.setNew (by show w.heap.size ≤ w.heap.size + 1; omega) _).setNew (by show w.heap.size ≤ w.heap.size + 1; omega) _).setNew (by show w.heap.size ≤ w.heap.size + 1; omega) _
set_option maxRecDepth 100000 in
set_option maxHeartbeats 4000000 in
theorem rfst_yes {X : Sa} {S : St} {w : World} (h : Sat w X S) (hs : siteB S = true) : Calls Tryd.prog 16 #[siteV X S] w fun e w' => ∃ a c, e = .returned (.tuple #[.agg #[.slice a S.groups.length c, .int .i64 (worstM S), .bool false], .int .i64 0]) ∧ SafeAt w' a c (firstV S) ∧ (∀ b, a = some b → w.heap.size ≤ b.block) ∧ Kept w w' none := by
  have HCE := Hid.mk' (checkE_yes hs)
  have k1 : Kept w (w.alloc (.cells #[.int .i64 S.id, .slice X.g S.groups.length X.gc, .slice X.a S.apart.length X.ac, .slice X.b S.between.length X.bc, .slice X.p S.phases.length X.pc, .slice X.e S.eyes.length X.ec, .int .i64 S.watch, .int .i64 S.feed, .int .i64 S.heal, .int .i64 S.low, .int .i64 S.high, .slice X.l S.plans.length X.lc] 33)) none := Kept.alloc _ _ _ _ _
  have hsb := sbox_alloc h 33
  have hsz : (w.alloc (.cells #[.int .i64 S.id, .slice X.g S.groups.length X.gc, .slice X.a S.apart.length X.ac, .slice X.b S.between.length X.bc, .slice X.p S.phases.length X.pc, .slice X.e S.eyes.length X.ec, .int .i64 S.watch, .int .i64 S.feed, .int .i64 S.heal, .int .i64 S.low, .int .i64 S.high, .slice X.l S.plans.length X.lc] 33)).heap.size = w.heap.size + 1 := by simp
  obtain ⟨W1, hW1⟩ : ∃ W1, w.alloc (.cells #[.int .i64 S.id, .slice X.g S.groups.length X.gc, .slice X.a S.apart.length X.ac, .slice X.b S.between.length X.bc, .slice X.p S.phases.length X.pc, .slice X.e S.eyes.length X.ec, .int .i64 S.watch, .int .i64 S.feed, .int .i64 S.heal, .int .i64 S.low, .int .i64 S.high, .slice X.l S.plans.length X.lc] 33) = W1 := ⟨_, rfl⟩
  rw [hW1] at k1 hsb hsz
  have hz2 : (W1.alloc (.cells #[.slice none 0 0, .int .i64 0, .bool false] 41)).heap.size = w.heap.size + 1 + 1 := by simp [hsz]
  have k2 : Kept W1 (W1.alloc (.cells #[.slice none 0 0, .int .i64 0, .bool false] 41)) none := Kept.alloc _ _ _ _ _
  have bR := box_alloc W1 (.slice none 0 0) (.int .i64 0) (.bool false) 41
  obtain ⟨W2, hW2⟩ : ∃ W2, W1.alloc (.cells #[.slice none 0 0, .int .i64 0, .bool false] 41) = W2 := ⟨_, rfl⟩
  rw [hW2] at k2 bR hz2
  rw [hsz] at bR
  have HSB := Hid.mk' (hsb.kept k2)
  have HBR := Hid.mk' bR
  have HK := Hid.mk' (k1.tr k2)
  have HZ2 := Hid.mk' hz2
  have HSZ := Hid.mk' hsz
  have hK0 := Kept.refl W2 none
  have s0_ : ∀ w', Kept W2 w' none → w'.cell? ⟨w.heap.size, 0, none⟩ = some (.int .i64 S.id) := fun w' q => (HSB.out.kept q).c0
  have s1_ : ∀ w', Kept W2 w' none → w'.cell? ⟨w.heap.size, 1, none⟩ = some (.slice X.g S.groups.length X.gc) := fun w' q => (HSB.out.kept q).c1
  have s2_ : ∀ w', Kept W2 w' none → w'.cell? ⟨w.heap.size, 2, none⟩ = some (.slice X.a S.apart.length X.ac) := fun w' q => (HSB.out.kept q).c2
  have s3_ : ∀ w', Kept W2 w' none → w'.cell? ⟨w.heap.size, 3, none⟩ = some (.slice X.b S.between.length X.bc) := fun w' q => (HSB.out.kept q).c3
  have s4_ : ∀ w', Kept W2 w' none → w'.cell? ⟨w.heap.size, 4, none⟩ = some (.slice X.p S.phases.length X.pc) := fun w' q => (HSB.out.kept q).c4
  have s5_ : ∀ w', Kept W2 w' none → w'.cell? ⟨w.heap.size, 5, none⟩ = some (.slice X.e S.eyes.length X.ec) := fun w' q => (HSB.out.kept q).c5
  have s6_ : ∀ w', Kept W2 w' none → w'.cell? ⟨w.heap.size, 6, none⟩ = some (.int .i64 S.watch) := fun w' q => (HSB.out.kept q).c6
  have s7_ : ∀ w', Kept W2 w' none → w'.cell? ⟨w.heap.size, 7, none⟩ = some (.int .i64 S.feed) := fun w' q => (HSB.out.kept q).c7
  have s8_ : ∀ w', Kept W2 w' none → w'.cell? ⟨w.heap.size, 8, none⟩ = some (.int .i64 S.heal) := fun w' q => (HSB.out.kept q).c8
  have s9_ : ∀ w', Kept W2 w' none → w'.cell? ⟨w.heap.size, 9, none⟩ = some (.int .i64 S.low) := fun w' q => (HSB.out.kept q).c9
  have s10_ : ∀ w', Kept W2 w' none → w'.cell? ⟨w.heap.size, 10, none⟩ = some (.int .i64 S.high) := fun w' q => (HSB.out.kept q).c10
  have s11_ : ∀ w', Kept W2 w' none → w'.cell? ⟨w.heap.size, 11, none⟩ = some (.slice X.l S.plans.length X.lc) := fun w' q => (HSB.out.kept q).c11
  clear h hz2 k1 k2 hsb bR
  go_enter Tryd.func16, Tryd.ntmps16
  go_wp2_with (first | rw [hW1] | rw [hW2] | (go_at_call 27; have hn := rcheck_any (HSB.out.sat.kept hK0); rw [HCE.out] at hn; refine hn.mono ?_; rintro e wK ⟨rfl, hkK⟩) | (go_at_call 28; refine (rstart_own (HSB.out.sat.kept hkK) hs).mono ?_; rintro e wG ⟨a5, c5, rfl, hsf5, hown5, hkG⟩; have bxK := HBR.out.kept (hkK.tr hkG); have d0 := bxK.c0; have d1 := bxK.c1; have d2 := bxK.c2; have e0 := bxK.f0; have e1 := bxK.f1; have e2 := bxK.f2))
  have bx7 := ((bxK.set0 (.slice a5 S.groups.length c5)).set1 (.int .i64 (worstM S))).set2 (.bool false)
  have p0 := bx7.c0
  have p1 := bx7.c1
  have p2 := bx7.c2
  have hne : ∀ b, a5 = some b → w.heap.size + 1 + 1 ≤ b.block := fun b e => by
    have h1 := hown5 b e
    have h2 := hkK.size
    rw [HZ2.out] at h2
    omega
  have hn2 : ∀ b, a5 = some b → b.block ≠ w.heap.size + 1 := fun b e => by have := hne b e; omega
  refine bodyPost_ret (v := .tuple #[.agg #[.slice a5 S.groups.length c5, .int .i64 (worstM S), .bool false], .int .i64 0]) (by simp [results, Tryd.results16, go_sem, p0, p1, p2]) rfl ⟨a5, c5, rfl, ((hsf5.set _ hn2 _ _).set _ hn2 _ _).set _ hn2 _ _, (fun b e => by have := hne b e; omega), ?_⟩
  have hb : Kept w _ none := (HK.out.tr hkK).tr hkG
  exact ((hb.setNew (by show w.heap.size ≤ w.heap.size + 1; omega) _).setNew (by show w.heap.size ≤ w.heap.size + 1; omega) _).setNew (by show w.heap.size ≤ w.heap.size + 1; omega) _
set_option maxRecDepth 100000 in
set_option maxHeartbeats 4000000 in
theorem rsame8_yes {w : World} {a1 a2 : Option Addr} {c1 c2 n : Nat} {F1 F2 : Sf} (h1 : SafeAt w a1 c1 F1) (h2 : SafeAt w a2 c2 F2) (e : F1 = F2) (hn : F1.groups.length = n) : Calls Tryd.prog 20 #[.agg #[.slice a1 n c1, .int .i64 F1.start, .bool F1.flashed], .agg #[.slice a2 n c2, .int .i64 F2.start, .bool F2.flashed]] w fun e w' => e = .returned (.bool true) ∧ Kept w w' none := by
  subst e
  subst hn
  have hc1r := h1.cap.room
  have hc1m := h1.cap.max
  have hc2r := h2.cap.room
  have hc2m := h2.cap.max
  have k1 : Kept w (w.alloc (.cells #[.slice a1 F1.groups.length c1, .int .i64 F1.start, .bool F1.flashed] 41)) none := Kept.alloc _ _ _ _ _
  have b1 := box_alloc w (.slice a1 F1.groups.length c1) (.int .i64 F1.start) (.bool F1.flashed) 41
  have hsz : (w.alloc (.cells #[.slice a1 F1.groups.length c1, .int .i64 F1.start, .bool F1.flashed] 41)).heap.size = w.heap.size + 1 := by simp
  obtain ⟨W1, hW1⟩ : ∃ W1, w.alloc (.cells #[.slice a1 F1.groups.length c1, .int .i64 F1.start, .bool F1.flashed] 41) = W1 := ⟨_, rfl⟩
  rw [hW1] at k1 b1 hsz
  have k2 : Kept W1 (W1.alloc (.cells #[.slice a2 F1.groups.length c2, .int .i64 F1.start, .bool F1.flashed] 41)) none := Kept.alloc _ _ _ _ _
  have b2 := box_alloc W1 (.slice a2 F1.groups.length c2) (.int .i64 F1.start) (.bool F1.flashed) 41
  obtain ⟨W2, hW2⟩ : ∃ W2, W1.alloc (.cells #[.slice a2 F1.groups.length c2, .int .i64 F1.start, .bool F1.flashed] 41) = W2 := ⟨_, rfl⟩
  rw [hW2] at k2 b2
  rw [hsz] at b2
  have b1' := b1.kept k2
  have x0 := b1'.c0
  have x1 := b1'.c1
  have x2 := b1'.c2
  have y0 := b2.c0
  have y1 := b2.c1
  have y2 := b2.c2
  have H1 := Hid.mk' (h1.kept (k1.tr k2))
  have H2 := Hid.mk' (h2.kept (k1.tr k2))
  have HK := Hid.mk' (k1.tr k2)
  clear h1 h2 k1 k2 b1 b1' b2
  generalize hst : F1.start = st at *
  generalize hfl : F1.flashed = fl at *
  clear hst hfl
  go_enter Tryd.func20, Tryd.ntmps20
  go_wp2_with (first | rw [hW1] | rw [hsz] | rw [hW2])
  go_loopw [5] (fun i wr => ∃ k : Nat, k ≤ F1.groups.length ∧ i = .int .i64 k ∧ Kept W2 wr none) (fun i _ => F1.groups.length - (intOf i).toNat)
  case atStart => exact ⟨0, by omega, rfl, Kept.refl _ _⟩
  case round =>
    obtain ⟨k, hk, rfl, hkw⟩ := hrel
    have x0r := cell_kept0 x0 hkw
    have y0r := cell_kept0 y0 hkw
    by_cases hlt : k < F1.groups.length
    · obtain ⟨b1, o1, rfl, _, g0, g1, g2⟩ := (H1.out.kept hkw).at_ hlt
      obtain ⟨b2, o2, rfl, _, t0, t1, t2⟩ := (H2.out.kept hkw).at_ hlt
      clear x0 y0 x1 y1 x2 y2
      generalize F1.g k = N at *
      go_wp2
      go_quiet (fail)
      go_wp2
      go_roundw
      case rel => exact ⟨k + 1, by omega, by go_num, hkw.tr (Kept.drewN _ _ _)⟩
      case measure => simp [intOf]; omega
    · have e : k = F1.groups.length := by omega
      clear x0 y0 x1 y1 x2 y2
      subst e
      go_wp2
      go_ret
      exact ⟨rfl, HK.out.tr hkw⟩

end Go.Proofs.YtpnmlgillphodaaDoor

/-
  THE DOCUMENT'S Shown, May of layer 8 (made by a program).
-/
namespace Go.Proofs.YtpnmlgillphodaaDoor
open Go.RowKit Go.Lib Go.Deep
set_option linter.unusedVariables false
set_option linter.unusedSimpArgs false

/-- Bytes of one's own. -/
abbrev BtS (w : World) (base : Nat) (v : Value) (l : List Nat) : Prop := Ow8 5 1 (fun (x : Nat) (_ : Nat) => Value.int .u8 (x : Int)) 0 w base v l
theorem BtS.grow {w : World} {base : Nat} {v : Value} {l : List Nat} (h : BtS w base v l) (x : Nat) (hn : l.length ≤ 900) (hb : base ≤ w.heap.size) :
    ∃ a' c' w', (Builtin.append_ #[35, 35] 35 #[v, .slice (some ⟨w.heap.size, 0, none⟩) 1 1]).run Tryd.prog (w.alloc (.cells #[.int .u8 (x : Int)] 5)) = .ok (.slice a' (l.length + 1) c') w' ∧ BtS w' base (.slice a' (l.length + 1) c') (l ++ [x]) ∧ Kept w w' v.ownBlock := by
  obtain ⟨i, hi, hz, hs, hby⟩ := info_parts Tryd.infoByte
  exact Ow8.grow h x (cs := #[.int .u8 (x : Int)]) (fun j hj => by
    have : j = 0 := by omega
    subst this
    rfl) Tryd.underlying35 hi hz hs hby rfl (by omega) (by omega) (fun j => rfl) hn hb
theorem BtS.by {w : World} {base : Nat} {a : Option Addr} {n c : Nat} {l : List Nat} (h : BtS w base (.slice a n c) l) (hl : l.length ≤ 1000) (h8 : ∀ x ∈ l, x < 256) : By w a n l := by
  obtain ⟨a', c', e, h1, h2, _⟩ := Ow8.lie h (by omega)
  injection e with e1 e2 e3
  subst e1 e2 e3
  exact ⟨rfl, by omega, h8, fun hp => h1.one hp⟩
set_option maxRecDepth 100000 in
set_option maxHeartbeats 4000000 in
theorem rshown_any {w : World} {a : Option Addr} {c : Nat} {F : Sf} (hF : SafeAt w a c F) (hl : F.groups.length ≤ 900) : Calls Tryd.prog 53 #[.agg #[.slice a F.groups.length c, .int .i64 F.start, .bool F.flashed]] w fun e w' => ∃ a' c', e = .returned (.slice a' F.groups.length c') ∧ By w' a' F.groups.length (shown F) ∧ Kept w w' none := by
  have hcr := hF.cap.room
  have hcm := hF.cap.max
  have k1 : Kept w (w.alloc (.cells #[.slice a F.groups.length c, .int .i64 F.start, .bool F.flashed] 41)) none := Kept.alloc _ _ _ _ _
  have b1 := box_alloc w (.slice a F.groups.length c) (.int .i64 F.start) (.bool F.flashed) 41
  have hsz : (w.alloc (.cells #[.slice a F.groups.length c, .int .i64 F.start, .bool F.flashed] 41)).heap.size = w.heap.size + 1 := by simp
  obtain ⟨W1, hW1⟩ : ∃ W1, w.alloc (.cells #[.slice a F.groups.length c, .int .i64 F.start, .bool F.flashed] 41) = W1 := ⟨_, rfl⟩
  rw [hW1] at k1 b1 hsz
  have x0_ : ∀ w', Kept W1 w' none → w'.cell? ⟨w.heap.size, 0, none⟩ = some (.slice a F.groups.length c) := fun w' q => cell_kept0 b1.c0 q
  have H1 := Hid.mk' (hF.kept k1)
  have HR := Hid.mk' hF.rng
  have HK := Hid.mk' k1
  have HSZ := Hid.mk' hsz
  clear hF k1 b1 hsz
  go_enter Tryd.func53, Tryd.ntmps53
  go_wp2_with (first | rw [hW1])
  go_loopw [3, 4] (fun v i wr => ∃ k : Nat, k ≤ F.groups.length ∧ i = .int .i64 k ∧ Kept W1 wr none ∧ ∃ a' c', v = .slice a' k c' ∧ BtS wr (w.heap.size + 1) (.slice a' k c') ((shown F).take k) ∧ w.heap.size + 1 ≤ wr.heap.size) (fun _ i _ => F.groups.length - (intOf i).toNat)
  case atStart => exact ⟨0, by omega, rfl, Kept.refl _ _, none, 0, rfl, Ow8.nil .., by rw [HSZ.out]; exact Nat.le_refl _⟩
  case round =>
    obtain ⟨k, hk, rfl, hkw, a5, c5, rfl, hbt, hszw⟩ := hrel
    have x0 := x0_ _ hkw
    by_cases hlt : k < F.groups.length
    · obtain ⟨bf, off, rfl, _, g0, _, _⟩ := (H1.out.kept hkw).at_ hlt
      have htl : ((shown F).take k).length = k := by rw [List.length_take, shown_len]; omega
      obtain ⟨a6, c6, w6, hr6, hL6, hk6⟩ := BtS.grow hbt (F.g k).asp (by omega) hszw
      rw [htl] at hr6 hL6
      have htk : (shown F).take (k + 1) = (shown F).take k ++ [(F.g k).asp] := by
        rw [← shown_lg hlt]
        have h2 : k < (shown F).length := by rw [shown_len]; exact hlt
        rw [List.take_succ_eq_append_getElem h2]
        simp [lg, h2]
      have hown := Ow8.lt hbt
      have HR6 := Hid.mk' hr6
      have HL6 := Hid.mk' hL6
      have HTK := Hid.mk' htk
      have HK6 : Hid (Kept W1 w6 none) := hkw.newRow hk6 (fun i e => by have := (hown i e).1; rw [HSZ.out]; omega)
      have hs6 := hk6.size
      have hs7 : w.heap.size + 1 ≤ w6.heap.size := by omega
      clear hr6 hL6 htk hown hk6 hs6 hbt htl
      generalize (F.g k).asp = y at *
      go_wp2_with (at_builtin; refine wpList_app8 (by rfl) _ _ _ (by rfl) (by rfl) (by rfl) HR6.out ?_)
      go_roundw
      case rel => exact ⟨k + 1, by omega, by go_num, HK6.out, a6, c6, rfl, by rw [HTK.out]; exact HL6.out, hs7⟩
      case measure => simp [intOf]; omega
    · have e : k = F.groups.length := by omega
      have htk : (shown F).take k = shown F := List.take_of_length_le (by rw [shown_len]; omega)
      rw [htk] at hbt
      have hby := BtS.by hbt (by rw [shown_len]; omega) (fun x hx => by
        unfold shown at hx
        obtain ⟨s, hs, rfl⟩ := List.mem_map.1 hx
        exact (HR.out s hs).1)
      have HBY := Hid.mk' hby
      clear hbt hby htk
      subst e
      go_wp2
      go_ret
      exact ⟨a5, c5, rfl, HBY.out, HK.out.tr hkw⟩
set_option maxRecDepth 100000 in
set_option maxHeartbeats 1000000 in
theorem rmay8_len {w : World} {X : Sa} {S : St} {a : Option Addr} {c : Nat} {F : Sf} (h : Sat w X S) (hF : SafeAt w a c F) (hl : F.groups.length ≤ 900) (hb : F.groups.length ≠ S.groups.length) : Calls Tryd.prog 32 #[siteV X S, .agg #[.slice a F.groups.length c, .int .i64 F.start, .bool F.flashed]] w fun e w' => e = .returned (.bool false) ∧ Kept w w' none := by
  have hbb : ((F.groups.length : Int) != (S.groups.length : Int)) = true := by simp; omega
  have k1 : Kept w (w.alloc (.cells #[.int .i64 S.id, .slice X.g S.groups.length X.gc, .slice X.a S.apart.length X.ac, .slice X.b S.between.length X.bc, .slice X.p S.phases.length X.pc, .slice X.e S.eyes.length X.ec, .int .i64 S.watch, .int .i64 S.feed, .int .i64 S.heal, .int .i64 S.low, .int .i64 S.high, .slice X.l S.plans.length X.lc] 33)) none := Kept.alloc _ _ _ _ _
  have hsb := sbox_alloc h 33
  have hsz : (w.alloc (.cells #[.int .i64 S.id, .slice X.g S.groups.length X.gc, .slice X.a S.apart.length X.ac, .slice X.b S.between.length X.bc, .slice X.p S.phases.length X.pc, .slice X.e S.eyes.length X.ec, .int .i64 S.watch, .int .i64 S.feed, .int .i64 S.heal, .int .i64 S.low, .int .i64 S.high, .slice X.l S.plans.length X.lc] 33)).heap.size = w.heap.size + 1 := by simp
  obtain ⟨W1, hW1⟩ : ∃ W1, w.alloc (.cells #[.int .i64 S.id, .slice X.g S.groups.length X.gc, .slice X.a S.apart.length X.ac, .slice X.b S.between.length X.bc, .slice X.p S.phases.length X.pc, .slice X.e S.eyes.length X.ec, .int .i64 S.watch, .int .i64 S.feed, .int .i64 S.heal, .int .i64 S.low, .int .i64 S.high, .slice X.l S.plans.length X.lc] 33) = W1 := ⟨_, rfl⟩
  rw [hW1] at k1 hsb hsz
  have k2 : Kept W1 (W1.alloc (.cells #[.slice a F.groups.length c, .int .i64 F.start, .bool F.flashed] 41)) none := Kept.alloc _ _ _ _ _
  have bR := box_alloc W1 (.slice a F.groups.length c) (.int .i64 F.start) (.bool F.flashed) 41
  obtain ⟨W2, hW2⟩ : ∃ W2, W1.alloc (.cells #[.slice a F.groups.length c, .int .i64 F.start, .bool F.flashed] 41) = W2 := ⟨_, rfl⟩
  rw [hW2] at k2 bR
  rw [hsz] at bR
  have HSB := Hid.mk' (hsb.kept k2)
  have HBR := Hid.mk' bR
  have HK := Hid.mk' (k1.tr k2)
  have HF := Hid.mk' (hF.kept (k1.tr k2))
  have x0 := bR.c0
  have x1 := bR.c1
  have x2 := bR.c2
  have hK0 := Kept.refl W2 none
  have s0_ : ∀ w', Kept W2 w' none → w'.cell? ⟨w.heap.size, 0, none⟩ = some (.int .i64 S.id) := fun w' q => (HSB.out.kept q).c0
  have s1_ : ∀ w', Kept W2 w' none → w'.cell? ⟨w.heap.size, 1, none⟩ = some (.slice X.g S.groups.length X.gc) := fun w' q => (HSB.out.kept q).c1
  have s2_ : ∀ w', Kept W2 w' none → w'.cell? ⟨w.heap.size, 2, none⟩ = some (.slice X.a S.apart.length X.ac) := fun w' q => (HSB.out.kept q).c2
  have s3_ : ∀ w', Kept W2 w' none → w'.cell? ⟨w.heap.size, 3, none⟩ = some (.slice X.b S.between.length X.bc) := fun w' q => (HSB.out.kept q).c3
  have s4_ : ∀ w', Kept W2 w' none → w'.cell? ⟨w.heap.size, 4, none⟩ = some (.slice X.p S.phases.length X.pc) := fun w' q => (HSB.out.kept q).c4
  have s5_ : ∀ w', Kept W2 w' none → w'.cell? ⟨w.heap.size, 5, none⟩ = some (.slice X.e S.eyes.length X.ec) := fun w' q => (HSB.out.kept q).c5
  have s6_ : ∀ w', Kept W2 w' none → w'.cell? ⟨w.heap.size, 6, none⟩ = some (.int .i64 S.watch) := fun w' q => (HSB.out.kept q).c6
  have s7_ : ∀ w', Kept W2 w' none → w'.cell? ⟨w.heap.size, 7, none⟩ = some (.int .i64 S.feed) := fun w' q => (HSB.out.kept q).c7
  have s8_ : ∀ w', Kept W2 w' none → w'.cell? ⟨w.heap.size, 8, none⟩ = some (.int .i64 S.heal) := fun w' q => (HSB.out.kept q).c8
  have s9_ : ∀ w', Kept W2 w' none → w'.cell? ⟨w.heap.size, 9, none⟩ = some (.int .i64 S.low) := fun w' q => (HSB.out.kept q).c9
  have s10_ : ∀ w', Kept W2 w' none → w'.cell? ⟨w.heap.size, 10, none⟩ = some (.int .i64 S.high) := fun w' q => (HSB.out.kept q).c10
  have s11_ : ∀ w', Kept W2 w' none → w'.cell? ⟨w.heap.size, 11, none⟩ = some (.slice X.l S.plans.length X.lc) := fun w' q => (HSB.out.kept q).c11
  clear h k1 k2 hsb bR hF
  go_enter Tryd.func32, Tryd.ntmps32
  go_wp2_with (first | rw [hW1] | rw [hW2] | (go_at_call 53; refine (rshown_any HF.out hl).mono ?_; rintro e wS ⟨a5, c5, rfl, hb5, hkS⟩; have bxS := HBR.out.kept hkS; have d0 := bxS.c0; have d1 := bxS.c1; have d2 := bxS.c2; have HB5 := Hid.mk' hb5; clear bxS hb5 x0 x1 x2))
  go_ret
  exact ⟨rfl, HK.out.tr hkS⟩
set_option maxRecDepth 100000 in
set_option maxHeartbeats 1000000 in
theorem rmay8_lo {w : World} {X : Sa} {S : St} {a : Option Addr} {c : Nat} {F : Sf} (h : Sat w X S) (hF : SafeAt w a c F) (hl : F.groups.length ≤ 900) (hb : F.groups.length = S.groups.length) (h0 : F.start < 0) : Calls Tryd.prog 32 #[siteV X S, .agg #[.slice a F.groups.length c, .int .i64 F.start, .bool F.flashed]] w fun e w' => e = .returned (.bool false) ∧ Kept w w' none := by
  have hbb : ((F.groups.length : Int) != (S.groups.length : Int)) = false := by simp; omega
  have h0b : decide (F.start < 0) = true := by simp; omega
  clear hb h0
  have k1 : Kept w (w.alloc (.cells #[.int .i64 S.id, .slice X.g S.groups.length X.gc, .slice X.a S.apart.length X.ac, .slice X.b S.between.length X.bc, .slice X.p S.phases.length X.pc, .slice X.e S.eyes.length X.ec, .int .i64 S.watch, .int .i64 S.feed, .int .i64 S.heal, .int .i64 S.low, .int .i64 S.high, .slice X.l S.plans.length X.lc] 33)) none := Kept.alloc _ _ _ _ _
  have hsb := sbox_alloc h 33
  have hsz : (w.alloc (.cells #[.int .i64 S.id, .slice X.g S.groups.length X.gc, .slice X.a S.apart.length X.ac, .slice X.b S.between.length X.bc, .slice X.p S.phases.length X.pc, .slice X.e S.eyes.length X.ec, .int .i64 S.watch, .int .i64 S.feed, .int .i64 S.heal, .int .i64 S.low, .int .i64 S.high, .slice X.l S.plans.length X.lc] 33)).heap.size = w.heap.size + 1 := by simp
  obtain ⟨W1, hW1⟩ : ∃ W1, w.alloc (.cells #[.int .i64 S.id, .slice X.g S.groups.length X.gc, .slice X.a S.apart.length X.ac, .slice X.b S.between.length X.bc, .slice X.p S.phases.length X.pc, .slice X.e S.eyes.length X.ec, .int .i64 S.watch, .int .i64 S.feed, .int .i64 S.heal, .int .i64 S.low, .int .i64 S.high, .slice X.l S.plans.length X.lc] 33) = W1 := ⟨_, rfl⟩
  rw [hW1] at k1 hsb hsz
  have k2 : Kept W1 (W1.alloc (.cells #[.slice a F.groups.length c, .int .i64 F.start, .bool F.flashed] 41)) none := Kept.alloc _ _ _ _ _
  have bR := box_alloc W1 (.slice a F.groups.length c) (.int .i64 F.start) (.bool F.flashed) 41
  obtain ⟨W2, hW2⟩ : ∃ W2, W1.alloc (.cells #[.slice a F.groups.length c, .int .i64 F.start, .bool F.flashed] 41) = W2 := ⟨_, rfl⟩
  rw [hW2] at k2 bR
  rw [hsz] at bR
  have HSB := Hid.mk' (hsb.kept k2)
  have HBR := Hid.mk' bR
  have HK := Hid.mk' (k1.tr k2)
  have HF := Hid.mk' (hF.kept (k1.tr k2))
  have x0 := bR.c0
  have x1 := bR.c1
  have x2 := bR.c2
  have hK0 := Kept.refl W2 none
  have s0_ : ∀ w', Kept W2 w' none → w'.cell? ⟨w.heap.size, 0, none⟩ = some (.int .i64 S.id) := fun w' q => (HSB.out.kept q).c0
  have s1_ : ∀ w', Kept W2 w' none → w'.cell? ⟨w.heap.size, 1, none⟩ = some (.slice X.g S.groups.length X.gc) := fun w' q => (HSB.out.kept q).c1
  have s2_ : ∀ w', Kept W2 w' none → w'.cell? ⟨w.heap.size, 2, none⟩ = some (.slice X.a S.apart.length X.ac) := fun w' q => (HSB.out.kept q).c2
  have s3_ : ∀ w', Kept W2 w' none → w'.cell? ⟨w.heap.size, 3, none⟩ = some (.slice X.b S.between.length X.bc) := fun w' q => (HSB.out.kept q).c3
  have s4_ : ∀ w', Kept W2 w' none → w'.cell? ⟨w.heap.size, 4, none⟩ = some (.slice X.p S.phases.length X.pc) := fun w' q => (HSB.out.kept q).c4
  have s5_ : ∀ w', Kept W2 w' none → w'.cell? ⟨w.heap.size, 5, none⟩ = some (.slice X.e S.eyes.length X.ec) := fun w' q => (HSB.out.kept q).c5
  have s6_ : ∀ w', Kept W2 w' none → w'.cell? ⟨w.heap.size, 6, none⟩ = some (.int .i64 S.watch) := fun w' q => (HSB.out.kept q).c6
  have s7_ : ∀ w', Kept W2 w' none → w'.cell? ⟨w.heap.size, 7, none⟩ = some (.int .i64 S.feed) := fun w' q => (HSB.out.kept q).c7
  have s8_ : ∀ w', Kept W2 w' none → w'.cell? ⟨w.heap.size, 8, none⟩ = some (.int .i64 S.heal) := fun w' q => (HSB.out.kept q).c8
  have s9_ : ∀ w', Kept W2 w' none → w'.cell? ⟨w.heap.size, 9, none⟩ = some (.int .i64 S.low) := fun w' q => (HSB.out.kept q).c9
  have s10_ : ∀ w', Kept W2 w' none → w'.cell? ⟨w.heap.size, 10, none⟩ = some (.int .i64 S.high) := fun w' q => (HSB.out.kept q).c10
  have s11_ : ∀ w', Kept W2 w' none → w'.cell? ⟨w.heap.size, 11, none⟩ = some (.slice X.l S.plans.length X.lc) := fun w' q => (HSB.out.kept q).c11
  clear h k1 k2 hsb bR hF
  go_enter Tryd.func32, Tryd.ntmps32
  go_wp2_with (first | rw [hW1] | rw [hW2] | (go_at_call 53; refine (rshown_any HF.out hl).mono ?_; rintro e wS ⟨a5, c5, rfl, hb5, hkS⟩; have bxS := HBR.out.kept hkS; have d0 := bxS.c0; have d1 := bxS.c1; have d2 := bxS.c2; have HB5 := Hid.mk' hb5; clear bxS hb5 x0 x1 x2))
  go_ret
  exact ⟨rfl, HK.out.tr hkS⟩
set_option maxRecDepth 100000 in
set_option maxHeartbeats 1000000 in
theorem rmay8_hi {w : World} {X : Sa} {S : St} {a : Option Addr} {c : Nat} {F : Sf} (h : Sat w X S) (hF : SafeAt w a c F) (hl : F.groups.length ≤ 900) (hb : F.groups.length = S.groups.length) (h0 : 1048576 < F.start) : Calls Tryd.prog 32 #[siteV X S, .agg #[.slice a F.groups.length c, .int .i64 F.start, .bool F.flashed]] w fun e w' => e = .returned (.bool false) ∧ Kept w w' none := by
  have hbb : ((F.groups.length : Int) != (S.groups.length : Int)) = false := by simp; omega
  have h0b : decide (F.start < 0) = false := by simp; omega
  have h1b : decide (1048576 < F.start) = true := by simp; omega
  clear hb h0
  have k1 : Kept w (w.alloc (.cells #[.int .i64 S.id, .slice X.g S.groups.length X.gc, .slice X.a S.apart.length X.ac, .slice X.b S.between.length X.bc, .slice X.p S.phases.length X.pc, .slice X.e S.eyes.length X.ec, .int .i64 S.watch, .int .i64 S.feed, .int .i64 S.heal, .int .i64 S.low, .int .i64 S.high, .slice X.l S.plans.length X.lc] 33)) none := Kept.alloc _ _ _ _ _
  have hsb := sbox_alloc h 33
  have hsz : (w.alloc (.cells #[.int .i64 S.id, .slice X.g S.groups.length X.gc, .slice X.a S.apart.length X.ac, .slice X.b S.between.length X.bc, .slice X.p S.phases.length X.pc, .slice X.e S.eyes.length X.ec, .int .i64 S.watch, .int .i64 S.feed, .int .i64 S.heal, .int .i64 S.low, .int .i64 S.high, .slice X.l S.plans.length X.lc] 33)).heap.size = w.heap.size + 1 := by simp
  obtain ⟨W1, hW1⟩ : ∃ W1, w.alloc (.cells #[.int .i64 S.id, .slice X.g S.groups.length X.gc, .slice X.a S.apart.length X.ac, .slice X.b S.between.length X.bc, .slice X.p S.phases.length X.pc, .slice X.e S.eyes.length X.ec, .int .i64 S.watch, .int .i64 S.feed, .int .i64 S.heal, .int .i64 S.low, .int .i64 S.high, .slice X.l S.plans.length X.lc] 33) = W1 := ⟨_, rfl⟩
  rw [hW1] at k1 hsb hsz
  have k2 : Kept W1 (W1.alloc (.cells #[.slice a F.groups.length c, .int .i64 F.start, .bool F.flashed] 41)) none := Kept.alloc _ _ _ _ _
  have bR := box_alloc W1 (.slice a F.groups.length c) (.int .i64 F.start) (.bool F.flashed) 41
  obtain ⟨W2, hW2⟩ : ∃ W2, W1.alloc (.cells #[.slice a F.groups.length c, .int .i64 F.start, .bool F.flashed] 41) = W2 := ⟨_, rfl⟩
  rw [hW2] at k2 bR
  rw [hsz] at bR
  have HSB := Hid.mk' (hsb.kept k2)
  have HBR := Hid.mk' bR
  have HK := Hid.mk' (k1.tr k2)
  have HF := Hid.mk' (hF.kept (k1.tr k2))
  have x0 := bR.c0
  have x1 := bR.c1
  have x2 := bR.c2
  have hK0 := Kept.refl W2 none
  have s0_ : ∀ w', Kept W2 w' none → w'.cell? ⟨w.heap.size, 0, none⟩ = some (.int .i64 S.id) := fun w' q => (HSB.out.kept q).c0
  have s1_ : ∀ w', Kept W2 w' none → w'.cell? ⟨w.heap.size, 1, none⟩ = some (.slice X.g S.groups.length X.gc) := fun w' q => (HSB.out.kept q).c1
  have s2_ : ∀ w', Kept W2 w' none → w'.cell? ⟨w.heap.size, 2, none⟩ = some (.slice X.a S.apart.length X.ac) := fun w' q => (HSB.out.kept q).c2
  have s3_ : ∀ w', Kept W2 w' none → w'.cell? ⟨w.heap.size, 3, none⟩ = some (.slice X.b S.between.length X.bc) := fun w' q => (HSB.out.kept q).c3
  have s4_ : ∀ w', Kept W2 w' none → w'.cell? ⟨w.heap.size, 4, none⟩ = some (.slice X.p S.phases.length X.pc) := fun w' q => (HSB.out.kept q).c4
  have s5_ : ∀ w', Kept W2 w' none → w'.cell? ⟨w.heap.size, 5, none⟩ = some (.slice X.e S.eyes.length X.ec) := fun w' q => (HSB.out.kept q).c5
  have s6_ : ∀ w', Kept W2 w' none → w'.cell? ⟨w.heap.size, 6, none⟩ = some (.int .i64 S.watch) := fun w' q => (HSB.out.kept q).c6
  have s7_ : ∀ w', Kept W2 w' none → w'.cell? ⟨w.heap.size, 7, none⟩ = some (.int .i64 S.feed) := fun w' q => (HSB.out.kept q).c7
  have s8_ : ∀ w', Kept W2 w' none → w'.cell? ⟨w.heap.size, 8, none⟩ = some (.int .i64 S.heal) := fun w' q => (HSB.out.kept q).c8
  have s9_ : ∀ w', Kept W2 w' none → w'.cell? ⟨w.heap.size, 9, none⟩ = some (.int .i64 S.low) := fun w' q => (HSB.out.kept q).c9
  have s10_ : ∀ w', Kept W2 w' none → w'.cell? ⟨w.heap.size, 10, none⟩ = some (.int .i64 S.high) := fun w' q => (HSB.out.kept q).c10
  have s11_ : ∀ w', Kept W2 w' none → w'.cell? ⟨w.heap.size, 11, none⟩ = some (.slice X.l S.plans.length X.lc) := fun w' q => (HSB.out.kept q).c11
  clear h k1 k2 hsb bR hF
  go_enter Tryd.func32, Tryd.ntmps32
  go_wp2_with (first | rw [hW1] | rw [hW2] | (go_at_call 53; refine (rshown_any HF.out hl).mono ?_; rintro e wS ⟨a5, c5, rfl, hb5, hkS⟩; have bxS := HBR.out.kept hkS; have d0 := bxS.c0; have d1 := bxS.c1; have d2 := bxS.c2; have HB5 := Hid.mk' hb5; clear bxS hb5 x0 x1 x2))
  go_ret
  exact ⟨rfl, HK.out.tr hkS⟩
set_option maxRecDepth 100000 in
set_option maxHeartbeats 1000000 in
theorem rmay8_yes {w : World} {X : Sa} {S : St} {a : Option Addr} {c : Nat} {F : Sf} (h : Sat w X S) (hF : SafeAt w a c F) (hl : F.groups.length ≤ 900) (hO : Okay S) (hb : F.groups.length = S.groups.length) (h0 : 0 ≤ F.start) (h1 : F.start ≤ 1048576) : Calls Tryd.prog 32 #[siteV X S, .agg #[.slice a F.groups.length c, .int .i64 F.start, .bool F.flashed]] w fun e w' => e = .returned (.bool (!mtB S (shown F) || allIs (shown F) 4)) ∧ Kept w w' none := by
  have h0b : decide (F.start < 0) = false := by simp; omega
  have hbb : ((F.groups.length : Int) != (S.groups.length : Int)) = false := by simp; omega
  have h1b : decide (1048576 < F.start) = false := by simp; omega
  have HO := Hid.mk' hO
  have HBE := Hid.mk' hb
  clear hb h0 h1 hO
  have hsl := shown_len F
  have k1 : Kept w (w.alloc (.cells #[.int .i64 S.id, .slice X.g S.groups.length X.gc, .slice X.a S.apart.length X.ac, .slice X.b S.between.length X.bc, .slice X.p S.phases.length X.pc, .slice X.e S.eyes.length X.ec, .int .i64 S.watch, .int .i64 S.feed, .int .i64 S.heal, .int .i64 S.low, .int .i64 S.high, .slice X.l S.plans.length X.lc] 33)) none := Kept.alloc _ _ _ _ _
  have hsb := sbox_alloc h 33
  have hsz : (w.alloc (.cells #[.int .i64 S.id, .slice X.g S.groups.length X.gc, .slice X.a S.apart.length X.ac, .slice X.b S.between.length X.bc, .slice X.p S.phases.length X.pc, .slice X.e S.eyes.length X.ec, .int .i64 S.watch, .int .i64 S.feed, .int .i64 S.heal, .int .i64 S.low, .int .i64 S.high, .slice X.l S.plans.length X.lc] 33)).heap.size = w.heap.size + 1 := by simp
  obtain ⟨W1, hW1⟩ : ∃ W1, w.alloc (.cells #[.int .i64 S.id, .slice X.g S.groups.length X.gc, .slice X.a S.apart.length X.ac, .slice X.b S.between.length X.bc, .slice X.p S.phases.length X.pc, .slice X.e S.eyes.length X.ec, .int .i64 S.watch, .int .i64 S.feed, .int .i64 S.heal, .int .i64 S.low, .int .i64 S.high, .slice X.l S.plans.length X.lc] 33) = W1 := ⟨_, rfl⟩
  rw [hW1] at k1 hsb hsz
  have k2 : Kept W1 (W1.alloc (.cells #[.slice a F.groups.length c, .int .i64 F.start, .bool F.flashed] 41)) none := Kept.alloc _ _ _ _ _
  have bR := box_alloc W1 (.slice a F.groups.length c) (.int .i64 F.start) (.bool F.flashed) 41
  obtain ⟨W2, hW2⟩ : ∃ W2, W1.alloc (.cells #[.slice a F.groups.length c, .int .i64 F.start, .bool F.flashed] 41) = W2 := ⟨_, rfl⟩
  rw [hW2] at k2 bR
  rw [hsz] at bR
  have HSB := Hid.mk' (hsb.kept k2)
  have HBR := Hid.mk' bR
  have HK := Hid.mk' (k1.tr k2)
  have HF := Hid.mk' (hF.kept (k1.tr k2))
  have x0 := bR.c0
  have x1 := bR.c1
  have x2 := bR.c2
  have hK0 := Kept.refl W2 none
  have s0_ : ∀ w', Kept W2 w' none → w'.cell? ⟨w.heap.size, 0, none⟩ = some (.int .i64 S.id) := fun w' q => (HSB.out.kept q).c0
  have s1_ : ∀ w', Kept W2 w' none → w'.cell? ⟨w.heap.size, 1, none⟩ = some (.slice X.g S.groups.length X.gc) := fun w' q => (HSB.out.kept q).c1
  have s2_ : ∀ w', Kept W2 w' none → w'.cell? ⟨w.heap.size, 2, none⟩ = some (.slice X.a S.apart.length X.ac) := fun w' q => (HSB.out.kept q).c2
  have s3_ : ∀ w', Kept W2 w' none → w'.cell? ⟨w.heap.size, 3, none⟩ = some (.slice X.b S.between.length X.bc) := fun w' q => (HSB.out.kept q).c3
  have s4_ : ∀ w', Kept W2 w' none → w'.cell? ⟨w.heap.size, 4, none⟩ = some (.slice X.p S.phases.length X.pc) := fun w' q => (HSB.out.kept q).c4
  have s5_ : ∀ w', Kept W2 w' none → w'.cell? ⟨w.heap.size, 5, none⟩ = some (.slice X.e S.eyes.length X.ec) := fun w' q => (HSB.out.kept q).c5
  have s6_ : ∀ w', Kept W2 w' none → w'.cell? ⟨w.heap.size, 6, none⟩ = some (.int .i64 S.watch) := fun w' q => (HSB.out.kept q).c6
  have s7_ : ∀ w', Kept W2 w' none → w'.cell? ⟨w.heap.size, 7, none⟩ = some (.int .i64 S.feed) := fun w' q => (HSB.out.kept q).c7
  have s8_ : ∀ w', Kept W2 w' none → w'.cell? ⟨w.heap.size, 8, none⟩ = some (.int .i64 S.heal) := fun w' q => (HSB.out.kept q).c8
  have s9_ : ∀ w', Kept W2 w' none → w'.cell? ⟨w.heap.size, 9, none⟩ = some (.int .i64 S.low) := fun w' q => (HSB.out.kept q).c9
  have s10_ : ∀ w', Kept W2 w' none → w'.cell? ⟨w.heap.size, 10, none⟩ = some (.int .i64 S.high) := fun w' q => (HSB.out.kept q).c10
  have s11_ : ∀ w', Kept W2 w' none → w'.cell? ⟨w.heap.size, 11, none⟩ = some (.slice X.l S.plans.length X.lc) := fun w' q => (HSB.out.kept q).c11
  clear h k1 k2 hsb bR hF
  go_enter Tryd.func32, Tryd.ntmps32
  cases h4 : allIs (shown F) 4 with
  | true =>
    have HC : Hid (cntN (shown F) 4 = F.groups.length) := (cnt_all.2 h4).trans hsl
    clear hsl h4
    go_wp2_with (first | rw [hW1] | rw [hW2] | (go_at_call 53; refine (rshown_any HF.out hl).mono ?_; rintro e wS ⟨a5, c5, rfl, hb5, hkS⟩; have bxS := HBR.out.kept hkS; have d0 := bxS.c0; have d1 := bxS.c1; have d2 := bxS.c2; have HB5 := Hid.mk' hb5; clear bxS hb5 x0 x1 x2) | (go_at_call 54; refine (rflash_any HB5.out).mono ?_; rintro e wq ⟨rfl, hwq⟩; have hwq := hwq.symm; subst hwq; rw [HC.out]))
    go_ret
    exact ⟨by simp, HK.out.tr hkS⟩
  | false =>
    have hc2 : cntN (shown F) 4 ≠ F.groups.length := fun e => by
      rw [← hsl] at e
      rw [cnt_all.1 e] at h4
      cases h4
    have hc3 : (((cntN (shown F) 4 : Nat) : Int) == (F.groups.length : Int)) = false := by simp; omega
    clear hsl h4 hc2
    generalize hcn : cntN (shown F) 4 = cn at *
    have HCN := Hid.mk' hcn
    clear hcn
    go_wp2_with (first | rw [hW1] | rw [hW2] | (go_at_call 53; refine (rshown_any HF.out hl).mono ?_; rintro e wS ⟨a5, c5, rfl, hb5, hkS⟩; have bxS := HBR.out.kept hkS; have d0 := bxS.c0; have d1 := bxS.c1; have d2 := bxS.c2; have HB5 := Hid.mk' hb5; clear bxS hb5 x0 x1 x2) | (go_at_call 54; refine (rflash_any HB5.out).mono ?_; rintro e wq ⟨rfl, hwq⟩; have hwq := hwq.symm; subst hwq; rw [HCN.out]) | (go_at_call 55; refine (rmeet8_any (HSB.out.sat.kept hkS) HO.out HB5.out HBE.out).mono ?_; rintro e wM ⟨rfl, hkM⟩))
    go_ret
    exact ⟨by simp, (HK.out.tr hkS).tr hkM⟩
theorem rmay8_any {w : World} {X : Sa} {S : St} {a : Option Addr} {c : Nat} {F : Sf} (h : Sat w X S) (hF : SafeAt w a c F) (hl : F.groups.length ≤ 900) (hO : Okay S) : Calls Tryd.prog 32 #[siteV X S, .agg #[.slice a F.groups.length c, .int .i64 F.start, .bool F.flashed]] w fun e w' => e = .returned (.bool (mayS S F)) ∧ Kept w w' none := by
  unfold mayS
  by_cases h1 : F.groups.length = S.groups.length
  · by_cases h2 : inB F.start 0 1048576 = true
    · rw [h2, decide_eq_true h1, Bool.true_and, Bool.true_and]
      have := inB_iff.1 h2
      exact rmay8_yes h hF hl hO h1 this.1 this.2
    · have h2 : inB F.start 0 1048576 = false := by simpa using h2
      rw [h2, Bool.false_and, Bool.and_false]
      rcases inB_no.1 h2 with h3 | h3
      · exact rmay8_lo h hF hl h1 h3
      · exact rmay8_hi h hF hl h1 h3
  · rw [decide_eq_false h1, Bool.false_and]
    exact rmay8_len h hF hl h1

end Go.Proofs.YtpnmlgillphodaaDoor

/-
  THE DOCUMENT'S Twin of layer 8 (made by a program).
-/
namespace Go.Proofs.YtpnmlgillphodaaDoor
open Go.RowKit Go.Lib Go.Deep
set_option linter.unusedVariables false
set_option linter.unusedSimpArgs false

theorem SnS.whole {w : World} {base : Nat} {a : Option Addr} {c : Nat} {F : Sf} (hF : SafeAt w a c F) (hl : F.groups.length ≤ 900) (hb : base ≤ w.heap.size) :
    ∃ a' c' w', (Builtin.append_ #[39, 39] 39 #[.slice none 0 0, .slice a F.groups.length c]).run Tryd.prog w = .ok (.slice a' F.groups.length c') w' ∧ SnS w' base (.slice a' F.groups.length c') F.groups ∧ Kept w w' none := by
  obtain ⟨i, hi, hz, hs, hby⟩ := info_parts Tryd.infoSeen
  cases a with
  | none =>
    obtain ⟨h0, rfl⟩ := hF.cap.nil rfl
    have hrun := run_append_owned_none (P := Tryd.prog) (w := w) base 39 39 57 i 3 Tryd.underlying39 hi (.slice none 0 0) 0 _ (World.ownsRow_nil _ _ _ _)
    refine ⟨none, 0, w, ?_, ?_, Kept.refl _ _⟩
    · rw [h0]; exact hrun
    · have hg : F.groups = [] := List.length_eq_zero_iff.1 h0
      rw [hg]
      exact Ow8.nil ..
  | some ad =>
    have hnews : ∀ j u, (cellsL F.groups.length 3 (fun i j => snV (F.g i) j))[j]? = some u → w.cell? (ad.add j) = some u := by
      by_cases hp : 0 < F.groups.length
      · obtain ⟨b, off, e, _, hcell⟩ := hF.lie.at_ hp
        injection e with e
        subst e
        exact cellsL_news (by omega) hcell
      · intro j u hu
        rw [show F.groups.length = 0 by omega] at hu
        simp [cellsL] at hu
    have hbytes : (0 + F.groups.length) * 24 ≤ 140737488355328 := by omega
    obtain ⟨v', w', hr, g1, g2, _, g3⟩ := run_append_own_at (P := Tryd.prog) w base 39 39 57 i _ 3 24 Tryd.underlying39 hi hz hs hby rfl (by omega) (.slice none 0 0) 0 _ (World.ownsRow_nil _ _ _ _) ad F.groups.length c _ (by rw [cellsL_len]) hnews (cellsL_one (fun i j => by unfold snV; split <;> rfl)) (by unfold maxLen; omega) hbytes hb
    rw [Nat.zero_add, List.nil_append] at g1
    obtain ⟨a', c', rfl, _⟩ := lie_own (by omega) g1
    exact ⟨a', c', w', hr, g1, g2⟩
set_option maxRecDepth 100000 in
set_option maxHeartbeats 1000000 in
theorem rtwin_any {w : World} {a : Option Addr} {c : Nat} {F : Sf} (hF : SafeAt w a c F) (hl : F.groups.length ≤ 900) : Calls Tryd.prog 15 #[.agg #[.slice a F.groups.length c, .int .i64 F.start, .bool F.flashed]] w fun e w' => ∃ a' c', e = .returned (.agg #[.slice a' F.groups.length c', .int .i64 F.start, .bool F.flashed]) ∧ SafeAt w' a' c' F ∧ (∀ b, a' = some b → w.heap.size ≤ b.block) ∧ Kept w w' none := by
  have k1 : Kept w (w.alloc (.cells #[.slice a F.groups.length c, .int .i64 F.start, .bool F.flashed] 41)) none := Kept.alloc _ _ _ _ _
  have b1 := box_alloc w (.slice a F.groups.length c) (.int .i64 F.start) (.bool F.flashed) 41
  have hz1 : (w.alloc (.cells #[.slice a F.groups.length c, .int .i64 F.start, .bool F.flashed] 41)).heap.size = w.heap.size + 1 := by simp
  obtain ⟨W1, hW1⟩ : ∃ W1, w.alloc (.cells #[.slice a F.groups.length c, .int .i64 F.start, .bool F.flashed] 41) = W1 := ⟨_, rfl⟩
  rw [hW1] at k1 b1 hz1
  have k2 : Kept W1 (W1.alloc (.cells #[.slice none 0 0, .int .i64 0, .bool false] 41)) none := Kept.alloc _ _ _ _ _
  have b2 := box_alloc W1 (.slice none 0 0) (.int .i64 0) (.bool false) 41
  have hz2 : (W1.alloc (.cells #[.slice none 0 0, .int .i64 0, .bool false] 41)).heap.size = w.heap.size + 1 + 1 := by simp [hz1]
  obtain ⟨W2, hW2⟩ : ∃ W2, W1.alloc (.cells #[.slice none 0 0, .int .i64 0, .bool false] 41) = W2 := ⟨_, rfl⟩
  rw [hW2] at k2 b2 hz2
  have k3 : Kept W2 (W2.alloc (.cells #[.slice a F.groups.length c, .int .i64 F.start, .bool F.flashed] 41)) none := Kept.alloc _ _ _ _ _
  have b3 := box_alloc W2 (.slice a F.groups.length c) (.int .i64 F.start) (.bool F.flashed) 41
  have hz3 : (W2.alloc (.cells #[.slice a F.groups.length c, .int .i64 F.start, .bool F.flashed] 41)).heap.size = w.heap.size + 1 + 1 + 1 := by simp [hz2]
  obtain ⟨W3, hW3⟩ : ∃ W3, W2.alloc (.cells #[.slice a F.groups.length c, .int .i64 F.start, .bool F.flashed] 41) = W3 := ⟨_, rfl⟩
  rw [hW3] at k3 b3 hz3
  rw [hz1] at b2
  rw [hz2] at b3
  have k4 : Kept W2 (W3.setCell ⟨w.heap.size + 1 + 1, 0, none⟩ (.slice none 0 0)) none := k3.setNew (by rw [hz2]; exact Nat.le_refl _) _
  have b4 := b3.set0 (.slice none 0 0)
  have hz4 : (W3.setCell ⟨w.heap.size + 1 + 1, 0, none⟩ (.slice none 0 0)).heap.size = w.heap.size + 1 + 1 + 1 := by simp [World.setCell, hz3]
  obtain ⟨W4, hW4⟩ : ∃ W4, W3.setCell ⟨w.heap.size + 1 + 1, 0, none⟩ (.slice none 0 0) = W4 := ⟨_, rfl⟩
  rw [hW4] at k4 b4 hz4
  obtain ⟨a5, c5, w5, hr5, hs5, k5⟩ := SnS.whole (base := w.heap.size + 1 + 1 + 1) ((hF.kept (k1.tr k2)).kept k4) hl (by rw [hz4]; exact Nat.le_refl _)
  have b1' := ((b1.kept k2).kept k4)
  have b2' := (b2.kept k4).kept k5
  have b5 := (b4.kept k5).set0 (.slice a5 F.groups.length c5)
  have HR5 := Hid.mk' hr5
  have B1 := Hid.mk' b1
  have HS5 := Hid.mk' hs5
  have HK : Hid (Kept w w5 none) := ((k1.tr k2).tr k4).tr k5
  have HRN := Hid.mk' hF.rng
  have hA0 := (b1.kept k2).c0
  have hA1 := (b1.kept k2).c1
  have hA2 := (b1.kept k2).c2
  have x0 := b1.c0
  have x1 := b1.c1
  have x2 := b1.c2
  have y0 := b3.f0
  have y1 := b3.c0
  have u1 := (b4.kept k5).c0
  have z0 := b4.c0
  have v0 := b1'.c0
  have u0 := (b4.kept k5).f0
  have q0 := b5.c0
  have q1 := b5.c1
  have q2 := b5.c2
  have B2 := Hid.mk' b2'
  have r2 := (b2'.other (p := ⟨w.heap.size + 1 + 1, 0, none⟩) (by show w.heap.size + 1 + 1 ≠ w.heap.size + 1; omega) (.slice a5 F.groups.length c5))
  have HR2 := Hid.mk' r2
  have t0 := r2.c0
  have t1 := r2.c1
  have t2 := r2.c2
  have f0 := r2.f0
  have f1 := r2.f1
  have f2 := r2.f2
  clear hF b1 b1' b2 b2' b3 b4 b5 k1 k2 k3 k4 k5 hr5 hs5 r2
  generalize hst : F.start = st at *
  generalize hfl : F.flashed = fl at *
  go_enter Tryd.func15, Tryd.ntmps15
  go_wp2_with (first | rw [hW1] | rw [hz1] | rw [hW2] | rw [hz2] | rw [hW3] | rw [hW4] | (at_builtin; refine wpList_app8 (by rfl) _ _ _ (by rfl) (by rfl) (by rfl) HR5.out ?_))
  have bx7 := ((HR2.out.set0 (.slice a5 F.groups.length c5)).set1 (.int .i64 st)).set2 (.bool fl)
  have p0 := bx7.c0
  have p1 := bx7.c1
  have p2 := bx7.c2
  have hsafe := SnS.safe (F := F) (SnS.setOther (SnS.setOther (SnS.setOther (SnS.setOther HS5.out (b := w.heap.size + 1 + 1) (i := 0) (by omega) (.slice a5 F.groups.length c5)) (b := w.heap.size + 1) (i := 0) (by omega) (.slice a5 F.groups.length c5)) (b := w.heap.size + 1) (i := 1) (by omega) (.int .i64 st)) (b := w.heap.size + 1) (i := 2) (by omega) (.bool fl)) rfl HRN.out
  refine bodyPost_ret (v := .agg #[.slice a5 F.groups.length c5, .int .i64 st, .bool fl]) (by simp [results, Tryd.results15, go_sem, p0, p1, p2]) rfl ⟨a5, c5, rfl, hsafe.2, (fun b e => by have := SnS.own HS5.out b e; omega), ?_⟩
  exact (((HK.out.setNew (by show w.heap.size ≤ w.heap.size + 1 + 1; omega) _).setNew (by show w.heap.size ≤ w.heap.size + 1; omega) _).setNew (by show w.heap.size ≤ w.heap.size + 1; omega) _).setNew (by show w.heap.size ≤ w.heap.size + 1; omega) _

end Go.Proofs.YtpnmlgillphodaaDoor

/-
  THE DOCUMENT'S Next of layer 8 (made by a program).
-/
namespace Go.Proofs.YtpnmlgillphodaaDoor
open Go.RowKit Go.Lib Go.Deep
set_option linter.unusedVariables false
set_option linter.unusedSimpArgs false

theorem mayS_out {S : St} {F : Sf} (h : mayS S F = true) : F.groups.length = S.groups.length ∧ 0 ≤ F.start ∧ F.start ≤ 1048576 := by
  unfold mayS at h
  simp only [Bool.and_eq_true, decide_eq_true_eq] at h
  have := inB_iff.1 h.2.1
  exact ⟨h.1, this.1, this.2⟩
set_option maxRecDepth 100000 in
set_option maxHeartbeats 1000000 in
theorem rnxt_no {X : Sa} {S : St} {w : World} {a : Option Addr} {c : Nat} {F : Sf} {al : Option Addr} {n cl : Nat} {L : List Nat} (h : Sat w X S) (hF : SafeAt w a c F) (hB : By w al n L) (hl : F.groups.length ≤ 900) (hs : siteB S = false) : Calls Tryd.prog 19 #[siteV X S, .agg #[.slice a F.groups.length c, .int .i64 F.start, .bool F.flashed], .slice al n cl] w fun e w' => e = .returned (.tuple #[safe0, .int .u8 0, .int .i64 50]) ∧ Kept w w' none := by
  have HCE := Hid.mk' (checkE_no hs)
  have k1 : Kept w (w.alloc (.cells #[.int .i64 S.id, .slice X.g S.groups.length X.gc, .slice X.a S.apart.length X.ac, .slice X.b S.between.length X.bc, .slice X.p S.phases.length X.pc, .slice X.e S.eyes.length X.ec, .int .i64 S.watch, .int .i64 S.feed, .int .i64 S.heal, .int .i64 S.low, .int .i64 S.high, .slice X.l S.plans.length X.lc] 33)) none := Kept.alloc _ _ _ _ _
  have hsb := sbox_alloc h 33
  have hz1 : (w.alloc (.cells #[.int .i64 S.id, .slice X.g S.groups.length X.gc, .slice X.a S.apart.length X.ac, .slice X.b S.between.length X.bc, .slice X.p S.phases.length X.pc, .slice X.e S.eyes.length X.ec, .int .i64 S.watch, .int .i64 S.feed, .int .i64 S.heal, .int .i64 S.low, .int .i64 S.high, .slice X.l S.plans.length X.lc] 33)).heap.size = w.heap.size + 1 := by simp
  obtain ⟨W1, hW1⟩ : ∃ W1, w.alloc (.cells #[.int .i64 S.id, .slice X.g S.groups.length X.gc, .slice X.a S.apart.length X.ac, .slice X.b S.between.length X.bc, .slice X.p S.phases.length X.pc, .slice X.e S.eyes.length X.ec, .int .i64 S.watch, .int .i64 S.feed, .int .i64 S.heal, .int .i64 S.low, .int .i64 S.high, .slice X.l S.plans.length X.lc] 33) = W1 := ⟨_, rfl⟩
  rw [hW1] at k1 hsb hz1
  have k2 : Kept W1 (W1.alloc (.cells #[.slice a F.groups.length c, .int .i64 F.start, .bool F.flashed] 41)) none := Kept.alloc _ _ _ _ _
  have b2 := box_alloc W1 (.slice a F.groups.length c) (.int .i64 F.start) (.bool F.flashed) 41
  have hz2 : (W1.alloc (.cells #[.slice a F.groups.length c, .int .i64 F.start, .bool F.flashed] 41)).heap.size = w.heap.size + 1 + 1 := by simp [hz1]
  obtain ⟨W2, hW2⟩ : ∃ W2, W1.alloc (.cells #[.slice a F.groups.length c, .int .i64 F.start, .bool F.flashed] 41) = W2 := ⟨_, rfl⟩
  rw [hW2] at k2 b2 hz2
  have k3 : Kept W2 (W2.alloc (.cells #[.slice none 0 0, .int .i64 0, .bool false] 41)) none := Kept.alloc _ _ _ _ _
  have b3 := box_alloc W2 (.slice none 0 0) (.int .i64 0) (.bool false) 41
  have hz3 : (W2.alloc (.cells #[.slice none 0 0, .int .i64 0, .bool false] 41)).heap.size = w.heap.size + 1 + 1 + 1 := by simp [hz2]
  obtain ⟨W3, hW3⟩ : ∃ W3, W2.alloc (.cells #[.slice none 0 0, .int .i64 0, .bool false] 41) = W3 := ⟨_, rfl⟩
  rw [hW3] at k3 b3 hz3
  rw [hz1] at b2
  rw [hz2] at b3
  have HSB := Hid.mk' (hsb.kept (k2.tr k3))
  have HBS := Hid.mk' (b2.kept k3)
  have HBR := Hid.mk' b3
  have HK := Hid.mk' ((k1.tr k2).tr k3)
  have HF := Hid.mk' (hF.kept ((k1.tr k2).tr k3))
  have HB := Hid.mk' (hB.kept ((k1.tr k2).tr k3))
  have HZ3 := Hid.mk' hz3
  have hK0 := Kept.refl W3 none
  have s0_ : ∀ w', Kept W3 w' none → w'.cell? ⟨w.heap.size, 0, none⟩ = some (.int .i64 S.id) := fun w' q => (HSB.out.kept q).c0
  have s1_ : ∀ w', Kept W3 w' none → w'.cell? ⟨w.heap.size, 1, none⟩ = some (.slice X.g S.groups.length X.gc) := fun w' q => (HSB.out.kept q).c1
  have s2_ : ∀ w', Kept W3 w' none → w'.cell? ⟨w.heap.size, 2, none⟩ = some (.slice X.a S.apart.length X.ac) := fun w' q => (HSB.out.kept q).c2
  have s3_ : ∀ w', Kept W3 w' none → w'.cell? ⟨w.heap.size, 3, none⟩ = some (.slice X.b S.between.length X.bc) := fun w' q => (HSB.out.kept q).c3
  have s4_ : ∀ w', Kept W3 w' none → w'.cell? ⟨w.heap.size, 4, none⟩ = some (.slice X.p S.phases.length X.pc) := fun w' q => (HSB.out.kept q).c4
  have s5_ : ∀ w', Kept W3 w' none → w'.cell? ⟨w.heap.size, 5, none⟩ = some (.slice X.e S.eyes.length X.ec) := fun w' q => (HSB.out.kept q).c5
  have s6_ : ∀ w', Kept W3 w' none → w'.cell? ⟨w.heap.size, 6, none⟩ = some (.int .i64 S.watch) := fun w' q => (HSB.out.kept q).c6
  have s7_ : ∀ w', Kept W3 w' none → w'.cell? ⟨w.heap.size, 7, none⟩ = some (.int .i64 S.feed) := fun w' q => (HSB.out.kept q).c7
  have s8_ : ∀ w', Kept W3 w' none → w'.cell? ⟨w.heap.size, 8, none⟩ = some (.int .i64 S.heal) := fun w' q => (HSB.out.kept q).c8
  have s9_ : ∀ w', Kept W3 w' none → w'.cell? ⟨w.heap.size, 9, none⟩ = some (.int .i64 S.low) := fun w' q => (HSB.out.kept q).c9
  have s10_ : ∀ w', Kept W3 w' none → w'.cell? ⟨w.heap.size, 10, none⟩ = some (.int .i64 S.high) := fun w' q => (HSB.out.kept q).c10
  have s11_ : ∀ w', Kept W3 w' none → w'.cell? ⟨w.heap.size, 11, none⟩ = some (.slice X.l S.plans.length X.lc) := fun w' q => (HSB.out.kept q).c11
  have x0_ : ∀ w', Kept W3 w' none → w'.cell? ⟨w.heap.size + 1, 0, none⟩ = some (.slice a F.groups.length c) := fun w' q => (HBS.out.kept q).c0
  have x1_ : ∀ w', Kept W3 w' none → w'.cell? ⟨w.heap.size + 1, 1, none⟩ = some (.int .i64 F.start) := fun w' q => (HBS.out.kept q).c1
  have x2_ : ∀ w', Kept W3 w' none → w'.cell? ⟨w.heap.size + 1, 2, none⟩ = some (.bool F.flashed) := fun w' q => (HBS.out.kept q).c2
  clear h k1 k2 k3 hsb b2 b3 hF hB hz3
  go_enter Tryd.func19, Tryd.ntmps19
  go_wp2_with (first | rw [hW1] | rw [hz1] | rw [hW2] | rw [hz2] | rw [hW3] | (go_at_call 27; have hn := rcheck_any (HSB.out.sat.kept hK0); rw [HCE.out] at hn; refine hn.mono ?_; rintro e wK ⟨rfl, hkK⟩; have hK1 : Kept W3 wK none := hkK; have bxK := HBR.out.kept hkK; have d0 := bxK.c0; have d1 := bxK.c1; have d2 := bxK.c2; have e0 := bxK.f0; have e1 := bxK.f1; have e2 := bxK.f2))
  have bx7 := ((bxK.set0 (.slice none 0 0)).set1 (.int .i64 0)).set2 (.bool false)
  have p0 := bx7.c0
  have p1 := bx7.c1
  have p2 := bx7.c2
  refine bodyPost_ret (v := .tuple #[safe0, .int .u8 0, .int .i64 50]) (by simp [results, Tryd.results19, go_sem, p0, p1, p2]) rfl ⟨rfl, ?_⟩
  have hb : Kept w _ none := HK.out.tr hK1
  exact ((hb.setNew (by show w.heap.size ≤ w.heap.size + 1 + 1; omega) _).setNew (by show w.heap.size ≤ w.heap.size + 1 + 1; omega) _).setNew (by show w.heap.size ≤ w.heap.size + 1 + 1; omega) _
set_option maxRecDepth 100000 in
set_option maxHeartbeats 1000000 in
theorem rnxt_bad {X : Sa} {S : St} {w : World} {a : Option Addr} {c : Nat} {F : Sf} {al : Option Addr} {n cl : Nat} {L : List Nat} (h : Sat w X S) (hF : SafeAt w a c F) (hB : By w al n L) (hl : F.groups.length ≤ 900) (hs : siteB S = true) (hm : mayS S F = false) : Calls Tryd.prog 19 #[siteV X S, .agg #[.slice a F.groups.length c, .int .i64 F.start, .bool F.flashed], .slice al n cl] w fun e w' => e = .returned (.tuple #[safe0, .int .u8 0, .int .i64 8]) ∧ Kept w w' none := by
  have HSH := Hid.mk' (span_may hs).base.sh
  have HM := Hid.mk' hm
  clear hm
  have HCE := Hid.mk' (checkE_yes hs)
  have k1 : Kept w (w.alloc (.cells #[.int .i64 S.id, .slice X.g S.groups.length X.gc, .slice X.a S.apart.length X.ac, .slice X.b S.between.length X.bc, .slice X.p S.phases.length X.pc, .slice X.e S.eyes.length X.ec, .int .i64 S.watch, .int .i64 S.feed, .int .i64 S.heal, .int .i64 S.low, .int .i64 S.high, .slice X.l S.plans.length X.lc] 33)) none := Kept.alloc _ _ _ _ _
  have hsb := sbox_alloc h 33
  have hz1 : (w.alloc (.cells #[.int .i64 S.id, .slice X.g S.groups.length X.gc, .slice X.a S.apart.length X.ac, .slice X.b S.between.length X.bc, .slice X.p S.phases.length X.pc, .slice X.e S.eyes.length X.ec, .int .i64 S.watch, .int .i64 S.feed, .int .i64 S.heal, .int .i64 S.low, .int .i64 S.high, .slice X.l S.plans.length X.lc] 33)).heap.size = w.heap.size + 1 := by simp
  obtain ⟨W1, hW1⟩ : ∃ W1, w.alloc (.cells #[.int .i64 S.id, .slice X.g S.groups.length X.gc, .slice X.a S.apart.length X.ac, .slice X.b S.between.length X.bc, .slice X.p S.phases.length X.pc, .slice X.e S.eyes.length X.ec, .int .i64 S.watch, .int .i64 S.feed, .int .i64 S.heal, .int .i64 S.low, .int .i64 S.high, .slice X.l S.plans.length X.lc] 33) = W1 := ⟨_, rfl⟩
  rw [hW1] at k1 hsb hz1
  have k2 : Kept W1 (W1.alloc (.cells #[.slice a F.groups.length c, .int .i64 F.start, .bool F.flashed] 41)) none := Kept.alloc _ _ _ _ _
  have b2 := box_alloc W1 (.slice a F.groups.length c) (.int .i64 F.start) (.bool F.flashed) 41
  have hz2 : (W1.alloc (.cells #[.slice a F.groups.length c, .int .i64 F.start, .bool F.flashed] 41)).heap.size = w.heap.size + 1 + 1 := by simp [hz1]
  obtain ⟨W2, hW2⟩ : ∃ W2, W1.alloc (.cells #[.slice a F.groups.length c, .int .i64 F.start, .bool F.flashed] 41) = W2 := ⟨_, rfl⟩
  rw [hW2] at k2 b2 hz2
  have k3 : Kept W2 (W2.alloc (.cells #[.slice none 0 0, .int .i64 0, .bool false] 41)) none := Kept.alloc _ _ _ _ _
  have b3 := box_alloc W2 (.slice none 0 0) (.int .i64 0) (.bool false) 41
  have hz3 : (W2.alloc (.cells #[.slice none 0 0, .int .i64 0, .bool false] 41)).heap.size = w.heap.size + 1 + 1 + 1 := by simp [hz2]
  obtain ⟨W3, hW3⟩ : ∃ W3, W2.alloc (.cells #[.slice none 0 0, .int .i64 0, .bool false] 41) = W3 := ⟨_, rfl⟩
  rw [hW3] at k3 b3 hz3
  rw [hz1] at b2
  rw [hz2] at b3
  have HSB := Hid.mk' (hsb.kept (k2.tr k3))
  have HBS := Hid.mk' (b2.kept k3)
  have HBR := Hid.mk' b3
  have HK := Hid.mk' ((k1.tr k2).tr k3)
  have HF := Hid.mk' (hF.kept ((k1.tr k2).tr k3))
  have HB := Hid.mk' (hB.kept ((k1.tr k2).tr k3))
  have HZ3 := Hid.mk' hz3
  have hK0 := Kept.refl W3 none
  have s0_ : ∀ w', Kept W3 w' none → w'.cell? ⟨w.heap.size, 0, none⟩ = some (.int .i64 S.id) := fun w' q => (HSB.out.kept q).c0
  have s1_ : ∀ w', Kept W3 w' none → w'.cell? ⟨w.heap.size, 1, none⟩ = some (.slice X.g S.groups.length X.gc) := fun w' q => (HSB.out.kept q).c1
  have s2_ : ∀ w', Kept W3 w' none → w'.cell? ⟨w.heap.size, 2, none⟩ = some (.slice X.a S.apart.length X.ac) := fun w' q => (HSB.out.kept q).c2
  have s3_ : ∀ w', Kept W3 w' none → w'.cell? ⟨w.heap.size, 3, none⟩ = some (.slice X.b S.between.length X.bc) := fun w' q => (HSB.out.kept q).c3
  have s4_ : ∀ w', Kept W3 w' none → w'.cell? ⟨w.heap.size, 4, none⟩ = some (.slice X.p S.phases.length X.pc) := fun w' q => (HSB.out.kept q).c4
  have s5_ : ∀ w', Kept W3 w' none → w'.cell? ⟨w.heap.size, 5, none⟩ = some (.slice X.e S.eyes.length X.ec) := fun w' q => (HSB.out.kept q).c5
  have s6_ : ∀ w', Kept W3 w' none → w'.cell? ⟨w.heap.size, 6, none⟩ = some (.int .i64 S.watch) := fun w' q => (HSB.out.kept q).c6
  have s7_ : ∀ w', Kept W3 w' none → w'.cell? ⟨w.heap.size, 7, none⟩ = some (.int .i64 S.feed) := fun w' q => (HSB.out.kept q).c7
  have s8_ : ∀ w', Kept W3 w' none → w'.cell? ⟨w.heap.size, 8, none⟩ = some (.int .i64 S.heal) := fun w' q => (HSB.out.kept q).c8
  have s9_ : ∀ w', Kept W3 w' none → w'.cell? ⟨w.heap.size, 9, none⟩ = some (.int .i64 S.low) := fun w' q => (HSB.out.kept q).c9
  have s10_ : ∀ w', Kept W3 w' none → w'.cell? ⟨w.heap.size, 10, none⟩ = some (.int .i64 S.high) := fun w' q => (HSB.out.kept q).c10
  have s11_ : ∀ w', Kept W3 w' none → w'.cell? ⟨w.heap.size, 11, none⟩ = some (.slice X.l S.plans.length X.lc) := fun w' q => (HSB.out.kept q).c11
  have x0_ : ∀ w', Kept W3 w' none → w'.cell? ⟨w.heap.size + 1, 0, none⟩ = some (.slice a F.groups.length c) := fun w' q => (HBS.out.kept q).c0
  have x1_ : ∀ w', Kept W3 w' none → w'.cell? ⟨w.heap.size + 1, 1, none⟩ = some (.int .i64 F.start) := fun w' q => (HBS.out.kept q).c1
  have x2_ : ∀ w', Kept W3 w' none → w'.cell? ⟨w.heap.size + 1, 2, none⟩ = some (.bool F.flashed) := fun w' q => (HBS.out.kept q).c2
  clear h k1 k2 k3 hsb b2 b3 hF hB hz3
  go_enter Tryd.func19, Tryd.ntmps19
  go_wp2_with (first | rw [hW1] | rw [hz1] | rw [hW2] | rw [hz2] | rw [hW3] | (go_at_call 27; have hn := rcheck_any (HSB.out.sat.kept hK0); rw [HCE.out] at hn; refine hn.mono ?_; rintro e wK ⟨rfl, hkK⟩; have hK1 : Kept W3 wK none := hkK) | (go_at_call 32; have hn := rmay8_any (HSB.out.sat.kept hK1) (HF.out.kept hK1) hl HSH.out.ok; rw [HM.out] at hn; refine hn.mono ?_; rintro e wM ⟨rfl, hkM⟩; have hK2 : Kept W3 wM none := hK1.tr hkM; have bxK := HBR.out.kept (hK1.tr hkM); have d0 := bxK.c0; have d1 := bxK.c1; have d2 := bxK.c2; have e0 := bxK.f0; have e1 := bxK.f1; have e2 := bxK.f2))
  have bx7 := ((bxK.set0 (.slice none 0 0)).set1 (.int .i64 0)).set2 (.bool false)
  have p0 := bx7.c0
  have p1 := bx7.c1
  have p2 := bx7.c2
  refine bodyPost_ret (v := .tuple #[safe0, .int .u8 0, .int .i64 8]) (by simp [results, Tryd.results19, go_sem, p0, p1, p2]) rfl ⟨rfl, ?_⟩
  have hb : Kept w _ none := HK.out.tr hK2
  exact ((hb.setNew (by show w.heap.size ≤ w.heap.size + 1 + 1; omega) _).setNew (by show w.heap.size ≤ w.heap.size + 1 + 1; omega) _).setNew (by show w.heap.size ≤ w.heap.size + 1 + 1; omega) _
set_option maxRecDepth 100000 in
set_option maxHeartbeats 1000000 in
theorem rnxt_fault {X : Sa} {S : St} {w : World} {a : Option Addr} {c : Nat} {F : Sf} {al : Option Addr} {n cl : Nat} {L : List Nat} (h : Sat w X S) (hF : SafeAt w a c F) (hB : By w al n L) (hl : F.groups.length ≤ 900) (hs : siteB S = true) (hm : mayS S F = true) (hz : faultV S F L ≠ 0) : Calls Tryd.prog 19 #[siteV X S, .agg #[.slice a F.groups.length c, .int .i64 F.start, .bool F.flashed], .slice al n cl] w fun e w' => ∃ a' c', e = .returned (.tuple #[.agg #[.slice a' S.groups.length c', .int .i64 F.start, .bool F.flashed], .int .u8 (faultV S F L), .int .i64 0]) ∧ SafeAt w' a' c' F ∧ (∀ b, a' = some b → w.heap.size ≤ b.block) ∧ Kept w w' none := by
  have HSH := Hid.mk' (span_may hs).base.sh
  have HM := Hid.mk' hm
  have hfe := (mayS_out hm).1
  have HFE := Hid.mk' hfe
  rw [hfe]
  obtain ⟨z, hz0⟩ : ∃ z, faultV S F L = z := ⟨_, rfl⟩
  rw [hz0] at hz ⊢
  have HZ := Hid.mk' hz0
  have hzb : (z != 0) = true := by simpa using hz
  clear hm hfe hz0 hz
  have HCE := Hid.mk' (checkE_yes hs)
  have k1 : Kept w (w.alloc (.cells #[.int .i64 S.id, .slice X.g S.groups.length X.gc, .slice X.a S.apart.length X.ac, .slice X.b S.between.length X.bc, .slice X.p S.phases.length X.pc, .slice X.e S.eyes.length X.ec, .int .i64 S.watch, .int .i64 S.feed, .int .i64 S.heal, .int .i64 S.low, .int .i64 S.high, .slice X.l S.plans.length X.lc] 33)) none := Kept.alloc _ _ _ _ _
  have hsb := sbox_alloc h 33
  have hz1 : (w.alloc (.cells #[.int .i64 S.id, .slice X.g S.groups.length X.gc, .slice X.a S.apart.length X.ac, .slice X.b S.between.length X.bc, .slice X.p S.phases.length X.pc, .slice X.e S.eyes.length X.ec, .int .i64 S.watch, .int .i64 S.feed, .int .i64 S.heal, .int .i64 S.low, .int .i64 S.high, .slice X.l S.plans.length X.lc] 33)).heap.size = w.heap.size + 1 := by simp
  obtain ⟨W1, hW1⟩ : ∃ W1, w.alloc (.cells #[.int .i64 S.id, .slice X.g S.groups.length X.gc, .slice X.a S.apart.length X.ac, .slice X.b S.between.length X.bc, .slice X.p S.phases.length X.pc, .slice X.e S.eyes.length X.ec, .int .i64 S.watch, .int .i64 S.feed, .int .i64 S.heal, .int .i64 S.low, .int .i64 S.high, .slice X.l S.plans.length X.lc] 33) = W1 := ⟨_, rfl⟩
  rw [hW1] at k1 hsb hz1
  have k2 : Kept W1 (W1.alloc (.cells #[.slice a S.groups.length c, .int .i64 F.start, .bool F.flashed] 41)) none := Kept.alloc _ _ _ _ _
  have b2 := box_alloc W1 (.slice a S.groups.length c) (.int .i64 F.start) (.bool F.flashed) 41
  have hz2 : (W1.alloc (.cells #[.slice a S.groups.length c, .int .i64 F.start, .bool F.flashed] 41)).heap.size = w.heap.size + 1 + 1 := by simp [hz1]
  obtain ⟨W2, hW2⟩ : ∃ W2, W1.alloc (.cells #[.slice a S.groups.length c, .int .i64 F.start, .bool F.flashed] 41) = W2 := ⟨_, rfl⟩
  rw [hW2] at k2 b2 hz2
  have k3 : Kept W2 (W2.alloc (.cells #[.slice none 0 0, .int .i64 0, .bool false] 41)) none := Kept.alloc _ _ _ _ _
  have b3 := box_alloc W2 (.slice none 0 0) (.int .i64 0) (.bool false) 41
  have hz3 : (W2.alloc (.cells #[.slice none 0 0, .int .i64 0, .bool false] 41)).heap.size = w.heap.size + 1 + 1 + 1 := by simp [hz2]
  obtain ⟨W3, hW3⟩ : ∃ W3, W2.alloc (.cells #[.slice none 0 0, .int .i64 0, .bool false] 41) = W3 := ⟨_, rfl⟩
  rw [hW3] at k3 b3 hz3
  rw [hz1] at b2
  rw [hz2] at b3
  have HSB := Hid.mk' (hsb.kept (k2.tr k3))
  have HBS := Hid.mk' (b2.kept k3)
  have HBR := Hid.mk' b3
  have HK := Hid.mk' ((k1.tr k2).tr k3)
  have HF := Hid.mk' (hF.kept ((k1.tr k2).tr k3))
  have HB := Hid.mk' (hB.kept ((k1.tr k2).tr k3))
  have HZ3 := Hid.mk' hz3
  have hK0 := Kept.refl W3 none
  have s0_ : ∀ w', Kept W3 w' none → w'.cell? ⟨w.heap.size, 0, none⟩ = some (.int .i64 S.id) := fun w' q => (HSB.out.kept q).c0
  have s1_ : ∀ w', Kept W3 w' none → w'.cell? ⟨w.heap.size, 1, none⟩ = some (.slice X.g S.groups.length X.gc) := fun w' q => (HSB.out.kept q).c1
  have s2_ : ∀ w', Kept W3 w' none → w'.cell? ⟨w.heap.size, 2, none⟩ = some (.slice X.a S.apart.length X.ac) := fun w' q => (HSB.out.kept q).c2
  have s3_ : ∀ w', Kept W3 w' none → w'.cell? ⟨w.heap.size, 3, none⟩ = some (.slice X.b S.between.length X.bc) := fun w' q => (HSB.out.kept q).c3
  have s4_ : ∀ w', Kept W3 w' none → w'.cell? ⟨w.heap.size, 4, none⟩ = some (.slice X.p S.phases.length X.pc) := fun w' q => (HSB.out.kept q).c4
  have s5_ : ∀ w', Kept W3 w' none → w'.cell? ⟨w.heap.size, 5, none⟩ = some (.slice X.e S.eyes.length X.ec) := fun w' q => (HSB.out.kept q).c5
  have s6_ : ∀ w', Kept W3 w' none → w'.cell? ⟨w.heap.size, 6, none⟩ = some (.int .i64 S.watch) := fun w' q => (HSB.out.kept q).c6
  have s7_ : ∀ w', Kept W3 w' none → w'.cell? ⟨w.heap.size, 7, none⟩ = some (.int .i64 S.feed) := fun w' q => (HSB.out.kept q).c7
  have s8_ : ∀ w', Kept W3 w' none → w'.cell? ⟨w.heap.size, 8, none⟩ = some (.int .i64 S.heal) := fun w' q => (HSB.out.kept q).c8
  have s9_ : ∀ w', Kept W3 w' none → w'.cell? ⟨w.heap.size, 9, none⟩ = some (.int .i64 S.low) := fun w' q => (HSB.out.kept q).c9
  have s10_ : ∀ w', Kept W3 w' none → w'.cell? ⟨w.heap.size, 10, none⟩ = some (.int .i64 S.high) := fun w' q => (HSB.out.kept q).c10
  have s11_ : ∀ w', Kept W3 w' none → w'.cell? ⟨w.heap.size, 11, none⟩ = some (.slice X.l S.plans.length X.lc) := fun w' q => (HSB.out.kept q).c11
  have x0_ : ∀ w', Kept W3 w' none → w'.cell? ⟨w.heap.size + 1, 0, none⟩ = some (.slice a S.groups.length c) := fun w' q => (HBS.out.kept q).c0
  have x1_ : ∀ w', Kept W3 w' none → w'.cell? ⟨w.heap.size + 1, 1, none⟩ = some (.int .i64 F.start) := fun w' q => (HBS.out.kept q).c1
  have x2_ : ∀ w', Kept W3 w' none → w'.cell? ⟨w.heap.size + 1, 2, none⟩ = some (.bool F.flashed) := fun w' q => (HBS.out.kept q).c2
  clear h k1 k2 k3 hsb b2 b3 hF hB hz3
  go_enter Tryd.func19, Tryd.ntmps19
  go_wp2_with (first | rw [hW1] | rw [hz1] | rw [hW2] | rw [hz2] | rw [hW3] | (go_at_call 27; have hn := rcheck_any (HSB.out.sat.kept hK0); rw [HCE.out] at hn; refine hn.mono ?_; rintro e wK ⟨rfl, hkK⟩; have hK1 : Kept W3 wK none := hkK) | (go_at_call 32; have hn := rmay8_any (HSB.out.sat.kept hK1) (HF.out.kept hK1) hl HSH.out.ok; rw [HM.out, HFE.out] at hn; refine hn.mono ?_; rintro e wM ⟨rfl, hkM⟩; have hK2 : Kept W3 wM none := hK1.tr hkM) | (go_at_call 33; have hn := rfault_any (F := F) (cl := cl) (HSB.out.sat.kept hK2) HSH.out (HF.out.kept hK2) HFE.out (HB.out.kept hK2); rw [HZ.out] at hn; refine hn.mono ?_; rintro e wF ⟨rfl, hkF⟩; have hK3 : Kept W3 wF none := hK2.tr hkF) | (go_at_call 15; have hn := rtwin_any (HF.out.kept hK3) hl; rw [HFE.out] at hn; refine hn.mono ?_; rintro e wT ⟨a5, c5, rfl, hsf5, hown5, hkT⟩; have hK4 : Kept W3 wT none := hK3.tr hkT; have bxK := HBR.out.kept (hK3.tr hkT); have d0 := bxK.c0; have d1 := bxK.c1; have d2 := bxK.c2; have e0 := bxK.f0; have e1 := bxK.f1; have e2 := bxK.f2))
  have hne : ∀ b, a5 = some b → w.heap.size + 1 + 1 + 1 ≤ b.block := fun b e => by
    have h1 := hown5 b e
    have h2 := hK3.size
    rw [HZ3.out] at h2
    omega
  have hn2 : ∀ b, a5 = some b → b.block ≠ w.heap.size + 1 + 1 := fun b e => by have := hne b e; omega
  have bx7 := ((bxK.set0 (.slice a5 S.groups.length c5)).set1 (.int .i64 F.start)).set2 (.bool F.flashed)
  have p0 := bx7.c0
  have p1 := bx7.c1
  have p2 := bx7.c2
  refine bodyPost_ret (v := .tuple #[.agg #[.slice a5 S.groups.length c5, .int .i64 F.start, .bool F.flashed], .int .u8 z, .int .i64 0]) (by simp [results, Tryd.results19, go_sem, p0, p1, p2]) rfl ⟨a5, c5, rfl, ((hsf5.set _ hn2 _ _).set _ hn2 _ _).set _ hn2 _ _, (fun b e => by have := hne b e; omega), ?_⟩
  have hb : Kept w _ none := HK.out.tr hK4
  exact ((hb.setNew (by show w.heap.size ≤ w.heap.size + 1 + 1; omega) _).setNew (by show w.heap.size ≤ w.heap.size + 1 + 1; omega) _).setNew (by show w.heap.size ≤ w.heap.size + 1 + 1; omega) _
set_option maxRecDepth 100000 in
set_option maxHeartbeats 1000000 in
theorem rnxt_go {X : Sa} {S : St} {w : World} {a : Option Addr} {c : Nat} {F : Sf} {al : Option Addr} {n cl : Nat} {L : List Nat} (h : Sat w X S) (hF : SafeAt w a c F) (hB : By w al n L) (hl : F.groups.length ≤ 900) (hs : siteB S = true) (hm : mayS S F = true) (hz : faultV S F L = 0) : Calls Tryd.prog 19 #[siteV X S, .agg #[.slice a F.groups.length c, .int .i64 F.start, .bool F.flashed], .slice al n cl] w fun e w' => ∃ a' c', e = .returned (.tuple #[.agg #[.slice a' S.groups.length c', .int .i64 (startV S F L), .bool (allIs L 4)], .int .u8 0, .int .i64 0]) ∧ SafeAt w' a' c' (behindV S F L) ∧ (∀ b, a' = some b → w.heap.size ≤ b.block) ∧ Kept w w' none := by
  have HSH := Hid.mk' (span_may hs).base.sh
  have hng := HSH.out.ok.ng
  have HM := Hid.mk' hm
  have hfe := (mayS_out hm).1
  have hst := (mayS_out hm).2
  have HFE := Hid.mk' hfe
  have HST := Hid.mk' hst
  have hln : n = S.groups.length := by rw [← hB.size]; exact fault_len hz
  rw [hfe]
  subst hln
  have HZ := Hid.mk' hz
  clear hm hfe hz hst
  have hcr : S.groups.length ≤ c := by have := hF.cap.room; rw [HFE.out] at this; exact this
  have hcm := hF.cap.max
  have hFl : 0 < F.groups.length := by rw [HFE.out]; omega
  obtain ⟨bf, off, rfl, _, _⟩ := hF.lie.at_ hFl
  obtain ⟨bl, ol, rfl, _, _⟩ := hB.at_ (by omega)
  clear hFl
  have HCR := Hid.mk' hcr
  have HCM := Hid.mk' hcm
  clear hcr hcm
  have HCE := Hid.mk' (checkE_yes hs)
  have k1 : Kept w (w.alloc (.cells #[.int .i64 S.id, .slice X.g S.groups.length X.gc, .slice X.a S.apart.length X.ac, .slice X.b S.between.length X.bc, .slice X.p S.phases.length X.pc, .slice X.e S.eyes.length X.ec, .int .i64 S.watch, .int .i64 S.feed, .int .i64 S.heal, .int .i64 S.low, .int .i64 S.high, .slice X.l S.plans.length X.lc] 33)) none := Kept.alloc _ _ _ _ _
  have hsb := sbox_alloc h 33
  have hz1 : (w.alloc (.cells #[.int .i64 S.id, .slice X.g S.groups.length X.gc, .slice X.a S.apart.length X.ac, .slice X.b S.between.length X.bc, .slice X.p S.phases.length X.pc, .slice X.e S.eyes.length X.ec, .int .i64 S.watch, .int .i64 S.feed, .int .i64 S.heal, .int .i64 S.low, .int .i64 S.high, .slice X.l S.plans.length X.lc] 33)).heap.size = w.heap.size + 1 := by simp
  obtain ⟨W1, hW1⟩ : ∃ W1, w.alloc (.cells #[.int .i64 S.id, .slice X.g S.groups.length X.gc, .slice X.a S.apart.length X.ac, .slice X.b S.between.length X.bc, .slice X.p S.phases.length X.pc, .slice X.e S.eyes.length X.ec, .int .i64 S.watch, .int .i64 S.feed, .int .i64 S.heal, .int .i64 S.low, .int .i64 S.high, .slice X.l S.plans.length X.lc] 33) = W1 := ⟨_, rfl⟩
  rw [hW1] at k1 hsb hz1
  have k2 : Kept W1 (W1.alloc (.cells #[.slice (some ⟨bf, off, none⟩) S.groups.length c, .int .i64 F.start, .bool F.flashed] 41)) none := Kept.alloc _ _ _ _ _
  have b2 := box_alloc W1 (.slice (some ⟨bf, off, none⟩) S.groups.length c) (.int .i64 F.start) (.bool F.flashed) 41
  have hz2 : (W1.alloc (.cells #[.slice (some ⟨bf, off, none⟩) S.groups.length c, .int .i64 F.start, .bool F.flashed] 41)).heap.size = w.heap.size + 1 + 1 := by simp [hz1]
  obtain ⟨W2, hW2⟩ : ∃ W2, W1.alloc (.cells #[.slice (some ⟨bf, off, none⟩) S.groups.length c, .int .i64 F.start, .bool F.flashed] 41) = W2 := ⟨_, rfl⟩
  rw [hW2] at k2 b2 hz2
  have k3 : Kept W2 (W2.alloc (.cells #[.slice none 0 0, .int .i64 0, .bool false] 41)) none := Kept.alloc _ _ _ _ _
  have b3 := box_alloc W2 (.slice none 0 0) (.int .i64 0) (.bool false) 41
  have hz3 : (W2.alloc (.cells #[.slice none 0 0, .int .i64 0, .bool false] 41)).heap.size = w.heap.size + 1 + 1 + 1 := by simp [hz2]
  obtain ⟨W3, hW3⟩ : ∃ W3, W2.alloc (.cells #[.slice none 0 0, .int .i64 0, .bool false] 41) = W3 := ⟨_, rfl⟩
  rw [hW3] at k3 b3 hz3
  rw [hz1] at b2
  rw [hz2] at b3
  have HSB := Hid.mk' (hsb.kept (k2.tr k3))
  have HBS := Hid.mk' (b2.kept k3)
  have HBR := Hid.mk' b3
  have HK := Hid.mk' ((k1.tr k2).tr k3)
  have HF := Hid.mk' (hF.kept ((k1.tr k2).tr k3))
  have HB := Hid.mk' (hB.kept ((k1.tr k2).tr k3))
  have HZ3 := Hid.mk' hz3
  have hK0 := Kept.refl W3 none
  have s0_ : ∀ w', Kept W3 w' none → w'.cell? ⟨w.heap.size, 0, none⟩ = some (.int .i64 S.id) := fun w' q => (HSB.out.kept q).c0
  have s1_ : ∀ w', Kept W3 w' none → w'.cell? ⟨w.heap.size, 1, none⟩ = some (.slice X.g S.groups.length X.gc) := fun w' q => (HSB.out.kept q).c1
  have s2_ : ∀ w', Kept W3 w' none → w'.cell? ⟨w.heap.size, 2, none⟩ = some (.slice X.a S.apart.length X.ac) := fun w' q => (HSB.out.kept q).c2
  have s3_ : ∀ w', Kept W3 w' none → w'.cell? ⟨w.heap.size, 3, none⟩ = some (.slice X.b S.between.length X.bc) := fun w' q => (HSB.out.kept q).c3
  have s4_ : ∀ w', Kept W3 w' none → w'.cell? ⟨w.heap.size, 4, none⟩ = some (.slice X.p S.phases.length X.pc) := fun w' q => (HSB.out.kept q).c4
  have s5_ : ∀ w', Kept W3 w' none → w'.cell? ⟨w.heap.size, 5, none⟩ = some (.slice X.e S.eyes.length X.ec) := fun w' q => (HSB.out.kept q).c5
  have s6_ : ∀ w', Kept W3 w' none → w'.cell? ⟨w.heap.size, 6, none⟩ = some (.int .i64 S.watch) := fun w' q => (HSB.out.kept q).c6
  have s7_ : ∀ w', Kept W3 w' none → w'.cell? ⟨w.heap.size, 7, none⟩ = some (.int .i64 S.feed) := fun w' q => (HSB.out.kept q).c7
  have s8_ : ∀ w', Kept W3 w' none → w'.cell? ⟨w.heap.size, 8, none⟩ = some (.int .i64 S.heal) := fun w' q => (HSB.out.kept q).c8
  have s9_ : ∀ w', Kept W3 w' none → w'.cell? ⟨w.heap.size, 9, none⟩ = some (.int .i64 S.low) := fun w' q => (HSB.out.kept q).c9
  have s10_ : ∀ w', Kept W3 w' none → w'.cell? ⟨w.heap.size, 10, none⟩ = some (.int .i64 S.high) := fun w' q => (HSB.out.kept q).c10
  have s11_ : ∀ w', Kept W3 w' none → w'.cell? ⟨w.heap.size, 11, none⟩ = some (.slice X.l S.plans.length X.lc) := fun w' q => (HSB.out.kept q).c11
  have x0_ : ∀ w', Kept W3 w' none → w'.cell? ⟨w.heap.size + 1, 0, none⟩ = some (.slice (some ⟨bf, off, none⟩) S.groups.length c) := fun w' q => (HBS.out.kept q).c0
  have x1_ : ∀ w', Kept W3 w' none → w'.cell? ⟨w.heap.size + 1, 1, none⟩ = some (.int .i64 F.start) := fun w' q => (HBS.out.kept q).c1
  have x2_ : ∀ w', Kept W3 w' none → w'.cell? ⟨w.heap.size + 1, 2, none⟩ = some (.bool F.flashed) := fun w' q => (HBS.out.kept q).c2
  clear h k1 k2 k3 hsb b2 b3 hF hB hz3
  have HCF : Hid (∀ w', Kept W3 w' none → ∀ i, i < S.groups.length → ∀ j, j < 3 → w'.cell? ⟨bf, off + i * 3 + j, none⟩ = some (snV (F.g i) j)) := fun w' q i hi j hj => by
    obtain ⟨bf', off', e, _, hcf⟩ := (HF.out.kept q).lie.at_ (by rw [HFE.out]; omega)
    injection e with e
    injection e with e1 e2
    subst e1 e2
    exact hcf i (by rw [HFE.out]; exact hi) j hj
  have HCL : Hid (∀ w', Kept W3 w' none → ∀ i, i < S.groups.length → w'.cell? ⟨bl, ol + i, none⟩ = some (.int .u8 (lg L i : Int))) := fun w' q i hi => by
    obtain ⟨bl', ol', e, _, hcl⟩ := (HB.out.kept q).at_ (by omega)
    injection e with e
    injection e with e1 e2
    subst e1 e2
    exact hcl i hi
  go_enter Tryd.func19, Tryd.ntmps19
  go_wp2_with (first | rw [hW1] | rw [hz1] | rw [hW2] | rw [hz2] | rw [hW3] | (go_at_call 27; have hn := rcheck_any (HSB.out.sat.kept hK0); rw [HCE.out] at hn; refine hn.mono ?_; rintro e wK ⟨rfl, hkK⟩; have hK1 : Kept W3 wK none := hkK) | (go_at_call 32; have hn := rmay8_any (HSB.out.sat.kept hK1) (HF.out.kept hK1) hl HSH.out.ok; rw [HM.out, HFE.out] at hn; refine hn.mono ?_; rintro e wM ⟨rfl, hkM⟩; have hK2 : Kept W3 wM none := hK1.tr hkM) | (go_at_call 33; have hn := rfault_any (F := F) (cl := cl) (HSB.out.sat.kept hK2) HSH.out (HF.out.kept hK2) HFE.out (HB.out.kept hK2); rw [HZ.out] at hn; refine hn.mono ?_; rintro e wF ⟨rfl, hkF⟩; have hK3 : Kept W3 wF none := hK2.tr hkF) | (go_at_call 34; have hn := rbehind_any (G := F.groups) (st := F.start) (fl := F.flashed) (cl := cl) (HSB.out.sat.kept hK3) hs (HCF.out _ hK3) HCR.out HCM.out HST.out (HCL.out _ hK3) (HB.out.kept hK3); refine hn.mono ?_; rintro e wT ⟨a5, c5, rfl, hsf5, hown5, hkT⟩; have hK4 : Kept W3 wT none := hK3.tr hkT; have bxK := HBR.out.kept (hK3.tr hkT); have d0 := bxK.c0; have d1 := bxK.c1; have d2 := bxK.c2; have e0 := bxK.f0; have e1 := bxK.f1; have e2 := bxK.f2))
  have hne : ∀ b, a5 = some b → w.heap.size + 1 + 1 + 1 ≤ b.block := fun b e => by
    have h1 := hown5 b e
    have h2 := hK3.size
    rw [HZ3.out] at h2
    omega
  have hn2 : ∀ b, a5 = some b → b.block ≠ w.heap.size + 1 + 1 := fun b e => by have := hne b e; omega
  have bx7 := ((bxK.set0 (.slice a5 S.groups.length c5)).set1 (.int .i64 (startV S F L))).set2 (.bool (allIs L 4))
  have p0 := bx7.c0
  have p1 := bx7.c1
  have p2 := bx7.c2
  refine bodyPost_ret (v := .tuple #[.agg #[.slice a5 S.groups.length c5, .int .i64 (startV S F L), .bool (allIs L 4)], .int .u8 0, .int .i64 0]) (by simp [results, Tryd.results19, go_sem, p0, p1, p2]) rfl ⟨a5, c5, rfl, ((hsf5.set _ hn2 _ _).set _ hn2 _ _).set _ hn2 _ _, (fun b e => by have := hne b e; omega), ?_⟩
  have hb : Kept w _ none := HK.out.tr hK4
  exact ((hb.setNew (by show w.heap.size ≤ w.heap.size + 1 + 1; omega) _).setNew (by show w.heap.size ≤ w.heap.size + 1 + 1; omega) _).setNew (by show w.heap.size ≤ w.heap.size + 1 + 1; omega) _

end Go.Proofs.YtpnmlgillphodaaDoor

/-
  SafeSteps: the program's answers and the document's, side by side.
-/
namespace Go.Proofs.YtpnmlgillphodaaDoor
open Go.RowKit Go.Lib Go.Deep
set_option linter.unusedVariables false
set_option linter.unusedSimpArgs false

abbrev sf0 : Sf := ⟨[], 0, false⟩
theorem safe_nil (w : World) : SafeAt w none 0 sf0 := ⟨⟨fun hp => absurd hp (by simp)⟩, ⟨fun _ => ⟨rfl, rfl⟩, by simp, by omega⟩, by simp⟩
theorem newbox (w : World) (v0 v1 v2 : Value) (t : TypeId) : ∃ W, w.alloc (.cells #[v0, v1, v2] t) = W ∧ Kept w W none ∧ (∀ w', Kept W w' none → w'.cell? ⟨w.heap.size, 0, none⟩ = some v0) ∧ (∀ w', Kept W w' none → w'.cell? ⟨w.heap.size, 1, none⟩ = some v1) ∧ (∀ w', Kept W w' none → w'.cell? ⟨w.heap.size, 2, none⟩ = some v2) ∧ W.heap.size = w.heap.size + 1 := by
  have b := box_alloc w v0 v1 v2 t
  exact ⟨_, rfl, Kept.alloc _ _ _ _ _, fun w' q => (b.kept q).c0, fun w' q => (b.kept q).c1, fun w' q => (b.kept q).c2, by simp⟩
theorem great_both {X : Sa} {S : St} {w : World} (h : Sat w X S) (hT : Tabb w) : ∃ m x : Int, (∀ w', Kept w w' none → Calls Tryd.prog 11 #[siteV X S] w' fun e w2 => e = .returned (.tuple #[.int .i64 m, .int .i64 x]) ∧ Kept w' w2 none) ∧ (∀ w', Kept w w' none → Calls Tryd.prog 17 #[siteV X S] w' fun e w2 => e = .returned (.tuple #[.int .i64 m, .int .i64 x]) ∧ Kept w' w2 none) := by
  cases hs : siteB S with
  | false => exact ⟨_, _, fun w' q => great_no (h.kept q) (hT.kept q) hs, fun w' q => rgst_no (h.kept q) hs⟩
  | true => exact ⟨_, _, fun w' q => great_yes (h.kept q) (hT.kept q) hs, fun w' q => rgst_yes (h.kept q) hs⟩
theorem first_both {X : Sa} {S : St} {w : World} (h : Sat w X S) (hT : Tabb w) : ∃ (G : Sf) (x : Int), (∀ w', Kept w w' none → Calls Tryd.prog 12 #[siteV X S] w' fun e w2 => ∃ a c, e = .returned (.tuple #[safeV a c G, .int .i64 x]) ∧ SafeAt w2 a c G ∧ Kept w' w2 none) ∧ (∀ w', Kept w w' none → Calls Tryd.prog 16 #[siteV X S] w' fun e w2 => ∃ a c, e = .returned (.tuple #[safeV a c G, .int .i64 x]) ∧ SafeAt w2 a c G ∧ Kept w' w2 none) := by
  cases hs : siteB S with
  | false =>
    refine ⟨sf0, 50, fun w' q => (first_no (h.kept q) (hT.kept q) hs).mono ?_, fun w' q => (rfst_no (h.kept q) hs).mono ?_⟩
    · rintro e w2 ⟨rfl, k⟩
      exact ⟨none, 0, rfl, safe_nil _, k⟩
    · rintro e w2 ⟨rfl, k⟩
      exact ⟨none, 0, rfl, safe_nil _, k⟩
  | true =>
    have hng := (span_may hs).base.sh.ok.ng
    have hr : ∀ s ∈ (firstV S).groups, s.asp < 256 ∧ i64B s.since ∧ i64B s.ended := fun s hs => by
      have := (List.mem_replicate.1 hs).2
      subst this
      unfold i64B; simp
    refine ⟨firstV S, 0, fun w' q => (first_yes (h.kept q) (hT.kept q) hs).mono ?_, fun w' q => (rfst_yes (h.kept q) hs).mono ?_⟩
    · rintro e w2 ⟨b, rfl, _, h2, k⟩
      exact ⟨_, _, rfl, OwnG.safe h2 (firstV_len S) (fun i hi => firstV_g hi) (by omega) hr, k⟩
    · rintro e w2 ⟨a, c, rfl, h2, _, k⟩
      exact ⟨a, c, by rw [safeV, firstV_len]; rfl, h2, k⟩
theorem next_both {X : Sa} {S : St} {w : World} {a0 : Option Addr} {c0 : Nat} {F : Sf} {al : Option Addr} {n cl : Nat} {L : List Nat} (h : Sat w X S) (hT : Tabb w) (hF : SafeAt w a0 c0 F) (hB : By w al n L) (hl : F.groups.length ≤ 100) :
    ∃ (G : Sf) (z x : Int), (∀ w' a c, Kept w w' none → SafeAt w' a c F → Calls Tryd.prog 18 #[siteV X S, safeV a c F, .slice al n cl] w' fun e w2 => ∃ a2 c2, e = .returned (.tuple #[safeV a2 c2 G, .int .u8 z, .int .i64 x]) ∧ SafeAt w2 a2 c2 G ∧ (0 < G.groups.length → ∃ b g, a2 = some ⟨b, 0, none⟩ ∧ w'.heap.size ≤ b ∧ OwnG w2 b G.groups.length g) ∧ Kept w' w2 none)
      ∧ (∀ w' a c, Kept w w' none → SafeAt w' a c F → Calls Tryd.prog 19 #[siteV X S, safeV a c F, .slice al n cl] w' fun e w2 => ∃ a2 c2, e = .returned (.tuple #[safeV a2 c2 G, .int .u8 z, .int .i64 x]) ∧ SafeAt w2 a2 c2 G ∧ Kept w' w2 none) := by
  cases hs : siteB S with
  | false =>
    refine ⟨sf0, 0, 50, fun w' a c q hf => (next_no (h.kept q) (hT.kept q) hf (hB.kept q) hs).mono ?_, fun w' a c q hf => (rnxt_no (h.kept q) hf (hB.kept q) (by omega) hs).mono ?_⟩
    · rintro e w2 ⟨rfl, k⟩
      exact ⟨none, 0, rfl, safe_nil _, fun hp => absurd hp (by simp), k⟩
    · rintro e w2 ⟨rfl, k⟩
      exact ⟨none, 0, rfl, safe_nil _, k⟩
  | true =>
    have hng := (span_may hs).base.sh.ok.ng
    cases hm : mayS S F with
    | false =>
      refine ⟨sf0, 0, 8, fun w' a c q hf => (next_bad (h.kept q) (hT.kept q) hf (hB.kept q) hs hm).mono ?_, fun w' a c q hf => (rnxt_bad (h.kept q) hf (hB.kept q) (by omega) hs hm).mono ?_⟩
      · rintro e w2 ⟨rfl, k⟩
        exact ⟨none, 0, rfl, safe_nil _, fun hp => absurd hp (by simp), k⟩
      · rintro e w2 ⟨rfl, k⟩
        exact ⟨none, 0, rfl, safe_nil _, k⟩
    | true =>
      have hfe := (mayS_out hm).1
      by_cases hz : faultV S F L = 0
      · have hln := fault_len hz
        have hbl : (behindV S F L).groups.length = S.groups.length := (behindV_len S F L).trans hln
        refine ⟨behindV S F L, 0, 0, fun w' a c q hf => (next_go (h.kept q) (hT.kept q) hf (hB.kept q) hs hm hz).mono ?_, fun w' a c q hf => (rnxt_go (h.kept q) hf (hB.kept q) (by omega) hs hm hz).mono ?_⟩
        · rintro e w2 ⟨b, rfl, hb, h2, k⟩
          refine ⟨_, _, rfl, OwnG.safe h2 hbl (fun i hi => behindV_g (by omega)) (by omega) (fun s hs => ?_), fun _ => ⟨b, _, rfl, hb, by rw [hbl]; exact h2⟩, k⟩
          unfold behindV at hs
          simp only [List.mem_map, List.mem_range] at hs
          obtain ⟨i, hi, rfl⟩ := hs
          exact sndV_rng _ _ (hB.lt _ (lg_mem hi))
        · rintro e w2 ⟨a2, c2, rfl, h2, _, k⟩
          exact ⟨a2, c2, by rw [safeV, hbl]; rfl, h2, k⟩
      · refine ⟨F, faultV S F L, 0, fun w' a c q hf => (next_fault (h.kept q) (hT.kept q) hf (hB.kept q) hs hm hz).mono ?_, fun w' a c q hf => (rnxt_fault (h.kept q) hf (hB.kept q) (by omega) hs hm hz).mono ?_⟩
        · rintro e w2 ⟨b, rfl, hb, h2, k⟩
          exact ⟨_, _, rfl, OwnG.safe h2 rfl (fun i hi => rfl) (by omega) hF.rng, fun _ => ⟨b, _, rfl, hb, h2⟩, k⟩
        · rintro e w2 ⟨a2, c2, rfl, h2, _, k⟩
          exact ⟨a2, c2, by rw [safeV, hfe], h2, k⟩

end Go.Proofs.YtpnmlgillphodaaDoor

/-
  THE WALK of SafeSteps (made by a program).
-/
namespace Go.Proofs.YtpnmlgillphodaaDoor
open Go.RowKit Go.Lib Go.Deep
set_option linter.unusedVariables false
set_option linter.unusedSimpArgs false

set_option maxRecDepth 100000 in
set_option maxHeartbeats 1000000 in
theorem step_long {X : Sa} {S : St} {w : World} {a : Option Addr} {c : Nat} {F : Sf} {al : Option Addr} {n cl : Nat} {L : List Nat} (h : Sat w X S) (hT : Tabb w) (hF : SafeAt w a c F) (hB : By w al n L) (hl : 100 < F.groups.length) : Calls Tryd.prog 4 #[siteV X S, safeV a c F, .slice al n cl] w fun e w' => e = .returned (.bool true) ∧ Below w.heap.size w w' := by
  have hlb : decide ((100 : Int) < (F.groups.length : Int)) = true := by simp; omega
  have k1 : Kept w (w.alloc (.cells #[.int .i64 S.id, .slice X.g S.groups.length X.gc, .slice X.a S.apart.length X.ac, .slice X.b S.between.length X.bc, .slice X.p S.phases.length X.pc, .slice X.e S.eyes.length X.ec, .int .i64 S.watch, .int .i64 S.feed, .int .i64 S.heal, .int .i64 S.low, .int .i64 S.high, .slice X.l S.plans.length X.lc] 33)) none := Kept.alloc _ _ _ _ _
  have hsb := sbox_alloc h 33
  have hz1 : (w.alloc (.cells #[.int .i64 S.id, .slice X.g S.groups.length X.gc, .slice X.a S.apart.length X.ac, .slice X.b S.between.length X.bc, .slice X.p S.phases.length X.pc, .slice X.e S.eyes.length X.ec, .int .i64 S.watch, .int .i64 S.feed, .int .i64 S.heal, .int .i64 S.low, .int .i64 S.high, .slice X.l S.plans.length X.lc] 33)).heap.size = w.heap.size + 1 := by simp
  obtain ⟨W1, hW1⟩ : ∃ W1, w.alloc (.cells #[.int .i64 S.id, .slice X.g S.groups.length X.gc, .slice X.a S.apart.length X.ac, .slice X.b S.between.length X.bc, .slice X.p S.phases.length X.pc, .slice X.e S.eyes.length X.ec, .int .i64 S.watch, .int .i64 S.feed, .int .i64 S.heal, .int .i64 S.low, .int .i64 S.high, .slice X.l S.plans.length X.lc] 33) = W1 := ⟨_, rfl⟩
  rw [hW1] at k1 hsb hz1
  obtain ⟨W2, hW2, k2, x0_, x1_, x2_, hz2⟩ := newbox W1 (.slice a F.groups.length c) (.int .i64 F.start) (.bool F.flashed) 41
  rw [hz1] at x0_ x1_ x2_
  have HSB := Hid.mk' (hsb.kept k2)
  have HK := Hid.mk' (k1.tr k2)
  have HF := Hid.mk' (hF.kept (k1.tr k2))
  have HS := Hid.mk' (h.kept (k1.tr k2))
  have hK0 := Kept.refl W2 none
  have s0_ : ∀ w', Kept W2 w' none → w'.cell? ⟨w.heap.size, 0, none⟩ = some (.int .i64 S.id) := fun w' q => (HSB.out.kept q).c0
  have s1_ : ∀ w', Kept W2 w' none → w'.cell? ⟨w.heap.size, 1, none⟩ = some (.slice X.g S.groups.length X.gc) := fun w' q => (HSB.out.kept q).c1
  have s2_ : ∀ w', Kept W2 w' none → w'.cell? ⟨w.heap.size, 2, none⟩ = some (.slice X.a S.apart.length X.ac) := fun w' q => (HSB.out.kept q).c2
  have s3_ : ∀ w', Kept W2 w' none → w'.cell? ⟨w.heap.size, 3, none⟩ = some (.slice X.b S.between.length X.bc) := fun w' q => (HSB.out.kept q).c3
  have s4_ : ∀ w', Kept W2 w' none → w'.cell? ⟨w.heap.size, 4, none⟩ = some (.slice X.p S.phases.length X.pc) := fun w' q => (HSB.out.kept q).c4
  have s5_ : ∀ w', Kept W2 w' none → w'.cell? ⟨w.heap.size, 5, none⟩ = some (.slice X.e S.eyes.length X.ec) := fun w' q => (HSB.out.kept q).c5
  have s6_ : ∀ w', Kept W2 w' none → w'.cell? ⟨w.heap.size, 6, none⟩ = some (.int .i64 S.watch) := fun w' q => (HSB.out.kept q).c6
  have s7_ : ∀ w', Kept W2 w' none → w'.cell? ⟨w.heap.size, 7, none⟩ = some (.int .i64 S.feed) := fun w' q => (HSB.out.kept q).c7
  have s8_ : ∀ w', Kept W2 w' none → w'.cell? ⟨w.heap.size, 8, none⟩ = some (.int .i64 S.heal) := fun w' q => (HSB.out.kept q).c8
  have s9_ : ∀ w', Kept W2 w' none → w'.cell? ⟨w.heap.size, 9, none⟩ = some (.int .i64 S.low) := fun w' q => (HSB.out.kept q).c9
  have s10_ : ∀ w', Kept W2 w' none → w'.cell? ⟨w.heap.size, 10, none⟩ = some (.int .i64 S.high) := fun w' q => (HSB.out.kept q).c10
  have s11_ : ∀ w', Kept W2 w' none → w'.cell? ⟨w.heap.size, 11, none⟩ = some (.slice X.l S.plans.length X.lc) := fun w' q => (HSB.out.kept q).c11
  have hBm := hB.max
  have hfm := hF.cap.room
  have hfm2 := hF.cap.max
  clear h hT hF hB k1 k2 hsb hz2 hl
  go_enter Tryd.func4, Tryd.ntmps4
  go_wp2_with (first | rw [hW1] | rw [hz1] | rw [hW2])
  go_at_call 14
  refine (rgreat_any HS.out).mono ?_
  rintro e wg ⟨gr, rfl, hgr, hkg⟩
  have hKg : Kept W2 wg none := hkg
  clear hgr
  cases gr with
  | true =>
    go_wp2
    go_ret
    exact ⟨rfl, (HK.out.tr hKg).below⟩
  | false =>
  go_wp2
  go_ret
  exact ⟨rfl, (HK.out.tr hKg).below⟩
set_option maxRecDepth 100000 in
set_option maxHeartbeats 1000000 in
theorem step_wide {X : Sa} {S : St} {w : World} {a : Option Addr} {c : Nat} {F : Sf} {al : Option Addr} {n cl : Nat} {L : List Nat} (h : Sat w X S) (hT : Tabb w) (hF : SafeAt w a c F) (hB : By w al n L) (hl : F.groups.length ≤ 100) (hn : 100 < n) : Calls Tryd.prog 4 #[siteV X S, safeV a c F, .slice al n cl] w fun e w' => e = .returned (.bool true) ∧ Below w.heap.size w w' := by
  have hlb : decide ((100 : Int) < (F.groups.length : Int)) = false := by simp; omega
  have hnb : decide ((100 : Int) < (n : Int)) = true := by simp; omega
  have k1 : Kept w (w.alloc (.cells #[.int .i64 S.id, .slice X.g S.groups.length X.gc, .slice X.a S.apart.length X.ac, .slice X.b S.between.length X.bc, .slice X.p S.phases.length X.pc, .slice X.e S.eyes.length X.ec, .int .i64 S.watch, .int .i64 S.feed, .int .i64 S.heal, .int .i64 S.low, .int .i64 S.high, .slice X.l S.plans.length X.lc] 33)) none := Kept.alloc _ _ _ _ _
  have hsb := sbox_alloc h 33
  have hz1 : (w.alloc (.cells #[.int .i64 S.id, .slice X.g S.groups.length X.gc, .slice X.a S.apart.length X.ac, .slice X.b S.between.length X.bc, .slice X.p S.phases.length X.pc, .slice X.e S.eyes.length X.ec, .int .i64 S.watch, .int .i64 S.feed, .int .i64 S.heal, .int .i64 S.low, .int .i64 S.high, .slice X.l S.plans.length X.lc] 33)).heap.size = w.heap.size + 1 := by simp
  obtain ⟨W1, hW1⟩ : ∃ W1, w.alloc (.cells #[.int .i64 S.id, .slice X.g S.groups.length X.gc, .slice X.a S.apart.length X.ac, .slice X.b S.between.length X.bc, .slice X.p S.phases.length X.pc, .slice X.e S.eyes.length X.ec, .int .i64 S.watch, .int .i64 S.feed, .int .i64 S.heal, .int .i64 S.low, .int .i64 S.high, .slice X.l S.plans.length X.lc] 33) = W1 := ⟨_, rfl⟩
  rw [hW1] at k1 hsb hz1
  obtain ⟨W2, hW2, k2, x0_, x1_, x2_, hz2⟩ := newbox W1 (.slice a F.groups.length c) (.int .i64 F.start) (.bool F.flashed) 41
  rw [hz1] at x0_ x1_ x2_
  have HSB := Hid.mk' (hsb.kept k2)
  have HK := Hid.mk' (k1.tr k2)
  have HF := Hid.mk' (hF.kept (k1.tr k2))
  have HS := Hid.mk' (h.kept (k1.tr k2))
  have hK0 := Kept.refl W2 none
  have s0_ : ∀ w', Kept W2 w' none → w'.cell? ⟨w.heap.size, 0, none⟩ = some (.int .i64 S.id) := fun w' q => (HSB.out.kept q).c0
  have s1_ : ∀ w', Kept W2 w' none → w'.cell? ⟨w.heap.size, 1, none⟩ = some (.slice X.g S.groups.length X.gc) := fun w' q => (HSB.out.kept q).c1
  have s2_ : ∀ w', Kept W2 w' none → w'.cell? ⟨w.heap.size, 2, none⟩ = some (.slice X.a S.apart.length X.ac) := fun w' q => (HSB.out.kept q).c2
  have s3_ : ∀ w', Kept W2 w' none → w'.cell? ⟨w.heap.size, 3, none⟩ = some (.slice X.b S.between.length X.bc) := fun w' q => (HSB.out.kept q).c3
  have s4_ : ∀ w', Kept W2 w' none → w'.cell? ⟨w.heap.size, 4, none⟩ = some (.slice X.p S.phases.length X.pc) := fun w' q => (HSB.out.kept q).c4
  have s5_ : ∀ w', Kept W2 w' none → w'.cell? ⟨w.heap.size, 5, none⟩ = some (.slice X.e S.eyes.length X.ec) := fun w' q => (HSB.out.kept q).c5
  have s6_ : ∀ w', Kept W2 w' none → w'.cell? ⟨w.heap.size, 6, none⟩ = some (.int .i64 S.watch) := fun w' q => (HSB.out.kept q).c6
  have s7_ : ∀ w', Kept W2 w' none → w'.cell? ⟨w.heap.size, 7, none⟩ = some (.int .i64 S.feed) := fun w' q => (HSB.out.kept q).c7
  have s8_ : ∀ w', Kept W2 w' none → w'.cell? ⟨w.heap.size, 8, none⟩ = some (.int .i64 S.heal) := fun w' q => (HSB.out.kept q).c8
  have s9_ : ∀ w', Kept W2 w' none → w'.cell? ⟨w.heap.size, 9, none⟩ = some (.int .i64 S.low) := fun w' q => (HSB.out.kept q).c9
  have s10_ : ∀ w', Kept W2 w' none → w'.cell? ⟨w.heap.size, 10, none⟩ = some (.int .i64 S.high) := fun w' q => (HSB.out.kept q).c10
  have s11_ : ∀ w', Kept W2 w' none → w'.cell? ⟨w.heap.size, 11, none⟩ = some (.slice X.l S.plans.length X.lc) := fun w' q => (HSB.out.kept q).c11
  have hBm := hB.max
  have hfm := hF.cap.room
  have hfm2 := hF.cap.max
  clear h hT hF hB k1 k2 hsb hz2 hl hn
  go_enter Tryd.func4, Tryd.ntmps4
  go_wp2_with (first | rw [hW1] | rw [hz1] | rw [hW2])
  go_at_call 14
  refine (rgreat_any HS.out).mono ?_
  rintro e wg ⟨gr, rfl, hgr, hkg⟩
  have hKg : Kept W2 wg none := hkg
  clear hgr
  cases gr with
  | true =>
    go_wp2
    go_ret
    exact ⟨rfl, (HK.out.tr hKg).below⟩
  | false =>
  go_wp2
  go_ret
  exact ⟨rfl, (HK.out.tr hKg).below⟩
set_option maxRecDepth 100000 in
set_option maxHeartbeats 4000000 in
theorem step_go {X : Sa} {S : St} {w : World} {a : Option Addr} {c : Nat} {F : Sf} {al : Option Addr} {n cl : Nat} {L : List Nat} (h : Sat w X S) (hT : Tabb w) (hF : SafeAt w a c F) (hB : By w al n L) (hl : F.groups.length ≤ 100) (hn : n ≤ 100) : Calls Tryd.prog 4 #[siteV X S, safeV a c F, .slice al n cl] w fun e w' => e = .returned (.bool true) ∧ Below w.heap.size w w' := by
  have hlb : decide ((100 : Int) < (F.groups.length : Int)) = false := by simp; omega
  have hnb : decide ((100 : Int) < (n : Int)) = false := by simp; omega
  have k1 : Kept w (w.alloc (.cells #[.int .i64 S.id, .slice X.g S.groups.length X.gc, .slice X.a S.apart.length X.ac, .slice X.b S.between.length X.bc, .slice X.p S.phases.length X.pc, .slice X.e S.eyes.length X.ec, .int .i64 S.watch, .int .i64 S.feed, .int .i64 S.heal, .int .i64 S.low, .int .i64 S.high, .slice X.l S.plans.length X.lc] 33)) none := Kept.alloc _ _ _ _ _
  have hsb := sbox_alloc h 33
  have hz1 : (w.alloc (.cells #[.int .i64 S.id, .slice X.g S.groups.length X.gc, .slice X.a S.apart.length X.ac, .slice X.b S.between.length X.bc, .slice X.p S.phases.length X.pc, .slice X.e S.eyes.length X.ec, .int .i64 S.watch, .int .i64 S.feed, .int .i64 S.heal, .int .i64 S.low, .int .i64 S.high, .slice X.l S.plans.length X.lc] 33)).heap.size = w.heap.size + 1 := by simp
  obtain ⟨W1, hW1⟩ : ∃ W1, w.alloc (.cells #[.int .i64 S.id, .slice X.g S.groups.length X.gc, .slice X.a S.apart.length X.ac, .slice X.b S.between.length X.bc, .slice X.p S.phases.length X.pc, .slice X.e S.eyes.length X.ec, .int .i64 S.watch, .int .i64 S.feed, .int .i64 S.heal, .int .i64 S.low, .int .i64 S.high, .slice X.l S.plans.length X.lc] 33) = W1 := ⟨_, rfl⟩
  rw [hW1] at k1 hsb hz1
  obtain ⟨W2, hW2, k2, x0_, x1_, x2_, hz2⟩ := newbox W1 (.slice a F.groups.length c) (.int .i64 F.start) (.bool F.flashed) 41
  rw [hz1] at x0_ x1_ x2_
  have HSB := Hid.mk' (hsb.kept k2)
  have HK := Hid.mk' (k1.tr k2)
  have HF := Hid.mk' (hF.kept (k1.tr k2))
  have HS := Hid.mk' (h.kept (k1.tr k2))
  have hK0 := Kept.refl W2 none
  have s0_ : ∀ w', Kept W2 w' none → w'.cell? ⟨w.heap.size, 0, none⟩ = some (.int .i64 S.id) := fun w' q => (HSB.out.kept q).c0
  have s1_ : ∀ w', Kept W2 w' none → w'.cell? ⟨w.heap.size, 1, none⟩ = some (.slice X.g S.groups.length X.gc) := fun w' q => (HSB.out.kept q).c1
  have s2_ : ∀ w', Kept W2 w' none → w'.cell? ⟨w.heap.size, 2, none⟩ = some (.slice X.a S.apart.length X.ac) := fun w' q => (HSB.out.kept q).c2
  have s3_ : ∀ w', Kept W2 w' none → w'.cell? ⟨w.heap.size, 3, none⟩ = some (.slice X.b S.between.length X.bc) := fun w' q => (HSB.out.kept q).c3
  have s4_ : ∀ w', Kept W2 w' none → w'.cell? ⟨w.heap.size, 4, none⟩ = some (.slice X.p S.phases.length X.pc) := fun w' q => (HSB.out.kept q).c4
  have s5_ : ∀ w', Kept W2 w' none → w'.cell? ⟨w.heap.size, 5, none⟩ = some (.slice X.e S.eyes.length X.ec) := fun w' q => (HSB.out.kept q).c5
  have s6_ : ∀ w', Kept W2 w' none → w'.cell? ⟨w.heap.size, 6, none⟩ = some (.int .i64 S.watch) := fun w' q => (HSB.out.kept q).c6
  have s7_ : ∀ w', Kept W2 w' none → w'.cell? ⟨w.heap.size, 7, none⟩ = some (.int .i64 S.feed) := fun w' q => (HSB.out.kept q).c7
  have s8_ : ∀ w', Kept W2 w' none → w'.cell? ⟨w.heap.size, 8, none⟩ = some (.int .i64 S.heal) := fun w' q => (HSB.out.kept q).c8
  have s9_ : ∀ w', Kept W2 w' none → w'.cell? ⟨w.heap.size, 9, none⟩ = some (.int .i64 S.low) := fun w' q => (HSB.out.kept q).c9
  have s10_ : ∀ w', Kept W2 w' none → w'.cell? ⟨w.heap.size, 10, none⟩ = some (.int .i64 S.high) := fun w' q => (HSB.out.kept q).c10
  have s11_ : ∀ w', Kept W2 w' none → w'.cell? ⟨w.heap.size, 11, none⟩ = some (.slice X.l S.plans.length X.lc) := fun w' q => (HSB.out.kept q).c11
  have hBm := hB.max
  have hfm := hF.cap.room
  have hfm2 := hF.cap.max
  have hTk := hT.kept (k1.tr k2)
  have hBk := hB.kept (k1.tr k2)
  obtain ⟨G1, e1, hf1, hf2⟩ := first_both HS.out hTk
  obtain ⟨m, e2, hg1, hg2⟩ := great_both HS.out hTk
  obtain ⟨G2, z, e3, hn1, hn2⟩ := next_both (cl := cl) HS.out hTk HF.out hBk hl
  have HF1 := Hid.mk' hf1
  have HF2 := Hid.mk' hf2
  have HG1 := Hid.mk' hg1
  have HG2 := Hid.mk' hg2
  have HN1 := Hid.mk' hn1
  have HN2 := Hid.mk' hn2
  have HL : Hid (F.groups.length ≤ 900) := by show _ ≤ _; omega
  clear h hT hF hB k1 k2 hsb hz2 hl hn hTk hBk hf1 hf2 hg1 hg2 hn1 hn2
  go_enter Tryd.func4, Tryd.ntmps4
  go_wp2_with (first | rw [hW1] | rw [hz1] | rw [hW2])
  go_at_call 14
  refine (rgreat_any HS.out).mono ?_
  rintro e wg ⟨gr, rfl, hgr, hkg⟩
  have hKg : Kept W2 wg none := hkg
  clear hgr
  cases gr with
  | true =>
    go_wp2
    go_ret
    exact ⟨rfl, (HK.out.tr hKg).below⟩
  | false =>
  go_wp2_with (first | rw [hWA] | rw [hWB] | rw [hWC] | rw [hWD] | rw [hWE] | (go_at_call 15; refine (rtwin_any (HF.out.kept hKg) HL.out).mono ?_; rintro e wT ⟨a1, c1, rfl, hs1, hn1, hkT⟩; obtain ⟨WA, hWA, kWA, o0_, o1_, o2_, zWA⟩ := newbox wT (.slice a1 F.groups.length c1) (.int .i64 F.start) (.bool F.flashed) 41; clear zWA; have rWA := Kept.refl WA none; have g2A : Kept W2 WA none := (hKg.tr hkT).tr kWA; have HS1 := Hid.mk' (hs1.kept kWA); clear hs1 hn1) | (go_at_call 12; refine (HF1.out _ g2A).mono ?_; rintro e w1 ⟨a2, c2, rfl, hs2, hk1⟩; obtain ⟨WB, hWB, kWB, p0_, p1_, p2_, zWB⟩ := newbox w1 (.slice a2 G1.groups.length c2) (.int .i64 G1.start) (.bool G1.flashed) 41; clear zWB; have rWB := Kept.refl WB none; have g2B : Kept W2 WB none := (g2A.tr hk1).tr kWB; have gAB : Kept WA WB none := hk1.tr kWB; have HS2 := Hid.mk' (hs2.kept kWB); clear hs2) | (go_at_call 16; refine (HF2.out _ g2B).mono ?_; rintro e w2 ⟨a3, c3, rfl, hs3, hk2⟩; obtain ⟨WC, hWC, kWC, q0_, q1_, q2_, zWC⟩ := newbox w2 (.slice a3 G1.groups.length c3) (.int .i64 G1.start) (.bool G1.flashed) 41; clear zWC; have rWC := Kept.refl WC none; have g2C : Kept W2 WC none := (g2B.tr hk2).tr kWC; have gAC : Kept WA WC none := (gAB.tr hk2).tr kWC; have gBC : Kept WB WC none := hk2.tr kWC; have HS3 := Hid.mk' (hs3.kept kWC); clear hs3) | (go_at_call 11; refine (HG1.out _ g2C).mono ?_; rintro e w3 ⟨rfl, hk3⟩; have g23 : Kept W2 w3 none := g2C.tr hk3) | (go_at_call 17; refine (HG2.out _ g23).mono ?_; rintro e w4 ⟨rfl, hk4⟩; have g24 : Kept W2 w4 none := g23.tr hk4; have gC4 : Kept WC w4 none := hk3.tr hk4; have gA4 : Kept WA w4 none := gAC.tr gC4; have gB4 : Kept WB w4 none := gBC.tr gC4) | (go_at_call 18; refine (HN1.out _ _ _ g24 (HS1.out.kept gA4)).mono ?_; rintro e w5 ⟨a5, c5, rfl, hs5, hw5, hk5⟩; obtain ⟨WD, hWD, kWD, r0_, r1_, r2_, zWD⟩ := newbox w5 (.slice a5 G2.groups.length c5) (.int .i64 G2.start) (.bool G2.flashed) 41; clear zWD; have rWD := Kept.refl WD none; have g2D : Kept W2 WD none := (g24.tr hk5).tr kWD; have gCD : Kept WC WD none := (gC4.tr hk5).tr kWD; have gBD : Kept WB WD none := (gB4.tr hk5).tr kWD; have HS5 := Hid.mk' (hs5.kept kWD); have HW5 := Hid.mk' hw5; clear hs5 hw5) | (go_at_call 19; refine (HN2.out _ _ _ g2D (HF.out.kept g2D)).mono ?_; rintro e w6 ⟨a6, c6, rfl, hs6, hk6⟩; obtain ⟨WE, hWE, kWE, t0_, t1_, t2_, zWE⟩ := newbox w6 (.slice a6 G2.groups.length c6) (.int .i64 G2.start) (.bool G2.flashed) 41; clear zWE; have rWE := Kept.refl WE none; have g2E : Kept W2 WE none := (g2D.tr hk6).tr kWE; have gDE : Kept WD WE none := hk6.tr kWE; have gCE : Kept WC WE none := gCD.tr gDE; have gBE : Kept WB WE none := gBD.tr gDE; have HS6 := Hid.mk' (hs6.kept kWE); clear hs6) | (have hgo := HX7; clear hgo; go_at_call 20; refine (rsame8_yes (HS5.out.kept (gDE.tr hk7)) (HS6.out.kept hk7) rfl rfl).mono ?_; rintro e w8 ⟨rfl, hk8⟩; have gE8 : Kept WE w8 none := hk7.tr hk8; have HX8 : Hid True := trivial) | (go_at_call 20; refine (rsame8_yes (HS2.out.kept gBE) (HS3.out.kept gCE) rfl rfl).mono ?_; rintro e w7 ⟨rfl, hk7⟩; have gD7 : Kept WD w7 none := gDE.tr hk7; have gE7 : Kept WE w7 none := hk7; have HX7 : Hid True := trivial))
  have g58 : Kept w5 w8 none := (kWD.tr gDE).tr gE8
  have g48 : Kept w4 w8 none := hk5.tr g58
  have hc8 := r0_ w8 (gDE.tr gE8)
  have hr5 := HS5.out.cap.room
  have hm5 := HS5.out.cap.max
  obtain ⟨bc, hbc⟩ : ∃ bc, 0 < G2.groups.length → a5 = some ⟨bc, 0, none⟩ ∧ w4.heap.size ≤ bc ∧ bc < w5.heap.size ∧ ∃ g, OwnG w8 bc G2.groups.length g := by
    by_cases hp : 0 < G2.groups.length
    · obtain ⟨b, g, e, hb, ho⟩ := HW5.out hp
      exact ⟨b, fun _ => ⟨e, hb, ho.lt, g, row_kept ho g58 (by simp)⟩⟩
    · exact ⟨0, fun h => absurd h hp⟩
  have HBC := Hid.mk' hbc
  have HC8 := Hid.mk' hc8
  have G48 := Hid.mk' g48
  have GA4 := Hid.mk' gA4
  have G24 := Hid.mk' g24
  clear hbc hc8 g58 g48 p0_ p1_ p2_ q0_ q1_ q2_ r0_ r1_ r2_ t0_ t1_ t2_ hk1 hk2 hk3 hk4 hk5 hk6 hk7 hk8 hkT hkg kWA kWB kWC kWD kWE rWA rWB rWC rWD rWE g2A g2B gAB g2C gAC gBC g23 g24 gC4 gA4 gB4 g2D gCD gBD g2E gDE gCE gBE gD7 gE7 gE8 hKg hK0
  go_loopw [23] (fun i wr => ∃ k : Nat, k ≤ G2.groups.length ∧ i = .int .i64 k ∧ Kept w4 wr none ∧ wr.cell? ⟨w5.heap.size, 0, none⟩ = some (.slice a5 G2.groups.length c5) ∧ (0 < G2.groups.length → ∃ g, OwnG wr bc G2.groups.length g)) (fun i _ => G2.groups.length - (intOf i).toNat)
  case atStart => exact ⟨0, by omega, rfl, G48.out, HC8.out, fun hp => (HBC.out hp).2.2.2⟩
  case round =>
    obtain ⟨k, hk, rfl, hkw, hcb, hog⟩ := hrel
    by_cases hlt : k < G2.groups.length
    · obtain ⟨ea, hb4, hb5, _⟩ := HBC.out (by omega)
      subst ea
      obtain ⟨g, ho⟩ := hog (by omega)
      obtain ⟨y0, y1, y2⟩ := ho.cells hlt
      have z0 := ho.frozen (k * 3)
      have z1 := ho.frozen (k * 3 + 1)
      have z2 := ho.frozen (k * 3 + 2)
      have HO := Hid.mk' ho
      have HKW := Hid.mk' hkw
      have HCB := Hid.mk' hcb
      have HB5 := Hid.mk' hb5
      have HB4 := Hid.mk' hb4
      clear ho hog hkw hb5 hb4
      go_wp2
      go_roundw
      case rel =>
        have hne : w5.heap.size ≠ bc := by have := HB5.out; omega
        refine ⟨k + 1, by omega, by go_num, ((HKW.out.setNew (p := ⟨bc, k * 3, none⟩) HB4.out _).setNew (p := ⟨bc, k * 3 + 1, none⟩) HB4.out _).setNew (p := ⟨bc, k * 3 + 2, none⟩) HB4.out _, ?_, fun _ => ⟨_, HO.out.set ⟨77, 0, 0⟩⟩⟩
        exact (World.cell?_setCell_other _ _ _ _ (by simp [hne, Ne.symm hne])).trans ((World.cell?_setCell_other _ _ _ _ (by simp [hne, Ne.symm hne])).trans ((World.cell?_setCell_other _ _ _ _ (by simp [hne, Ne.symm hne])).trans HCB.out))
      case measure => simp [intOf]; omega
    · have e : k = G2.groups.length := by omega
      have gAw : Kept WA wr none := GA4.out.tr hkw
      have g2w : Kept W2 wr none := G24.out.tr hkw
      clear hog hkw
      subst e
      go_wp2_with (go_at_call 20; refine (rsame8_yes (HS1.out.kept gAw) (HF.out.kept g2w) rfl rfl).mono ?_; rintro e w9 ⟨rfl, hk9⟩)
      go_ret
      exact ⟨rfl, (HK.out.tr (g2w.tr hk9)).below⟩
theorem ssteps_any {X : Sa} {S : St} {w : World} {a : Option Addr} {c : Nat} {F : Sf} {al : Option Addr} {n cl : Nat} {L : List Nat} (h : Sat w X S) (hT : Tabb w) (hF : SafeAt w a c F) (hB : By w al n L) : Calls Tryd.prog 4 #[siteV X S, safeV a c F, .slice al n cl] w fun e w' => e = .returned (.bool true) ∧ Below w.heap.size w w' := by
  by_cases h1 : F.groups.length ≤ 100
  · by_cases h2 : n ≤ 100
    · exact step_go h hT hF hB h1 h2
    · exact step_wide h hT hF hB h1 (by omega)
  · exact step_long h hT hF hB (by omega)

end Go.Proofs.YtpnmlgillphodaaDoor

