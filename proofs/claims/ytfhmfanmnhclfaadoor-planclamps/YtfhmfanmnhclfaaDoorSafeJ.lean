/-
  Texts joined: some of those that the proofs of this seat stand on.
-/
import Derived.Test.YtfhmfanmnhclfaaDoorSafeHJ
/-
  THE CONTRACT of Next (made by a program).
-/
namespace Go.Proofs.YtfhmfanmnhclfaaDoor
open Go.RowKit Go.Lib Go.Deep
set_option linter.unusedVariables false
set_option linter.unusedSimpArgs false

set_option maxRecDepth 100000 in
set_option maxHeartbeats 1000000 in
theorem next_no {X : Sa} {S : St} {w : World} {a : Option Addr} {c : Nat} {F : Sf} {al : Option Addr} {n cl : Nat} {L : List Nat} (h : Sat w X S) (hT : Tabb w) (hF : SafeAt w a c F) (hB : By w al n L) (hs : siteB S = false) : Calls Tryd.prog 26 #[siteV X S, safeV a c F, .slice al n cl] w fun e w' => e = .returned (.tuple #[safe0, .int .u8 0, .int .i64 50]) ∧ Kept w w' none := by
  have k1 : Kept w (w.alloc (.cells #[.int .i64 S.id, .slice X.g S.groups.length X.gc, .slice X.a S.apart.length X.ac, .slice X.b S.between.length X.bc, .slice X.p S.phases.length X.pc, .slice X.e S.eyes.length X.ec, .int .i64 S.watch, .int .i64 S.feed, .int .i64 S.heal, .int .i64 S.low, .int .i64 S.high, .slice X.l S.plans.length X.lc] 35)) none := Kept.alloc _ _ _ _ _
  have k2 : Kept (w.alloc (.cells #[.int .i64 S.id, .slice X.g S.groups.length X.gc, .slice X.a S.apart.length X.ac, .slice X.b S.between.length X.bc, .slice X.p S.phases.length X.pc, .slice X.e S.eyes.length X.ec, .int .i64 S.watch, .int .i64 S.feed, .int .i64 S.heal, .int .i64 S.low, .int .i64 S.high, .slice X.l S.plans.length X.lc] 35)) ((w.alloc (.cells #[.int .i64 S.id, .slice X.g S.groups.length X.gc, .slice X.a S.apart.length X.ac, .slice X.b S.between.length X.bc, .slice X.p S.phases.length X.pc, .slice X.e S.eyes.length X.ec, .int .i64 S.watch, .int .i64 S.feed, .int .i64 S.heal, .int .i64 S.low, .int .i64 S.high, .slice X.l S.plans.length X.lc] 35)).alloc (.cells #[.slice a F.groups.length c, .int .i64 F.start, .bool F.flashed] 61)) none := Kept.alloc _ _ _ _ _
  have k3 : Kept ((w.alloc (.cells #[.int .i64 S.id, .slice X.g S.groups.length X.gc, .slice X.a S.apart.length X.ac, .slice X.b S.between.length X.bc, .slice X.p S.phases.length X.pc, .slice X.e S.eyes.length X.ec, .int .i64 S.watch, .int .i64 S.feed, .int .i64 S.heal, .int .i64 S.low, .int .i64 S.high, .slice X.l S.plans.length X.lc] 35)).alloc (.cells #[.slice a F.groups.length c, .int .i64 F.start, .bool F.flashed] 61)) (((w.alloc (.cells #[.int .i64 S.id, .slice X.g S.groups.length X.gc, .slice X.a S.apart.length X.ac, .slice X.b S.between.length X.bc, .slice X.p S.phases.length X.pc, .slice X.e S.eyes.length X.ec, .int .i64 S.watch, .int .i64 S.feed, .int .i64 S.heal, .int .i64 S.low, .int .i64 S.high, .slice X.l S.plans.length X.lc] 35)).alloc (.cells #[.slice a F.groups.length c, .int .i64 F.start, .bool F.flashed] 61)).alloc (.cells #[.slice none 0 0, .int .i64 0, .bool false] 61)) none := Kept.alloc _ _ _ _ _
  have hsb := (sbox_alloc h 35).kept (k2.tr k3)
  have bn := (box_alloc (w.alloc (.cells #[.int .i64 S.id, .slice X.g S.groups.length X.gc, .slice X.a S.apart.length X.ac, .slice X.b S.between.length X.bc, .slice X.p S.phases.length X.pc, .slice X.e S.eyes.length X.ec, .int .i64 S.watch, .int .i64 S.feed, .int .i64 S.heal, .int .i64 S.low, .int .i64 S.high, .slice X.l S.plans.length X.lc] 35)) (.slice a F.groups.length c) (.int .i64 F.start) (.bool F.flashed) 61).kept k3
  have br := box_alloc ((w.alloc (.cells #[.int .i64 S.id, .slice X.g S.groups.length X.gc, .slice X.a S.apart.length X.ac, .slice X.b S.between.length X.bc, .slice X.p S.phases.length X.pc, .slice X.e S.eyes.length X.ec, .int .i64 S.watch, .int .i64 S.feed, .int .i64 S.heal, .int .i64 S.low, .int .i64 S.high, .slice X.l S.plans.length X.lc] 35)).alloc (.cells #[.slice a F.groups.length c, .int .i64 F.start, .bool F.flashed] 61)) (.slice none 0 0) (.int .i64 0) (.bool false) 61
  have hsz : (((w.alloc (.cells #[.int .i64 S.id, .slice X.g S.groups.length X.gc, .slice X.a S.apart.length X.ac, .slice X.b S.between.length X.bc, .slice X.p S.phases.length X.pc, .slice X.e S.eyes.length X.ec, .int .i64 S.watch, .int .i64 S.feed, .int .i64 S.heal, .int .i64 S.low, .int .i64 S.high, .slice X.l S.plans.length X.lc] 35)).alloc (.cells #[.slice a F.groups.length c, .int .i64 F.start, .bool F.flashed] 61)).alloc (.cells #[.slice none 0 0, .int .i64 0, .bool false] 61)).heap.size = w.heap.size + 1 + 1 + 1 := by simp
  rw [World.size_alloc] at bn br
  rw [World.size_alloc] at br
  have hkA := (k1.tr k2).tr k3
  have hSA := h.kept hkA
  have hTA := hT.kept hkA
  have hFA := hF.kept hkA
  have hBA := hB.kept hkA
  obtain ⟨WA, hWA⟩ : ∃ WA, (((w.alloc (.cells #[.int .i64 S.id, .slice X.g S.groups.length X.gc, .slice X.a S.apart.length X.ac, .slice X.b S.between.length X.bc, .slice X.p S.phases.length X.pc, .slice X.e S.eyes.length X.ec, .int .i64 S.watch, .int .i64 S.feed, .int .i64 S.heal, .int .i64 S.low, .int .i64 S.high, .slice X.l S.plans.length X.lc] 35)).alloc (.cells #[.slice a F.groups.length c, .int .i64 F.start, .bool F.flashed] 61)).alloc (.cells #[.slice none 0 0, .int .i64 0, .bool false] 61)) = WA := ⟨_, rfl⟩
  rw [hWA] at hsb bn br hsz hkA hSA hTA hFA hBA
  have HSB := Hid.mk' hsb
  have HBN := Hid.mk' bn
  have HBR := Hid.mk' br
  have HSZ := Hid.mk' hsz
  have HK := Hid.mk' hkA
  have HS := Hid.mk' hSA
  have HT := Hid.mk' hTA
  have HF := Hid.mk' hFA
  have HB := Hid.mk' hBA
  have n0_ : ∀ w', Kept WA w' none → w'.cell? ⟨w.heap.size + 1, 0, none⟩ = some (.slice a F.groups.length c) := fun w' q => (HBN.out.kept q).c0
  have n1_ : ∀ w', Kept WA w' none → w'.cell? ⟨w.heap.size + 1, 1, none⟩ = some (.int .i64 F.start) := fun w' q => (HBN.out.kept q).c1
  have n2_ : ∀ w', Kept WA w' none → w'.cell? ⟨w.heap.size + 1, 2, none⟩ = some (.bool F.flashed) := fun w' q => (HBN.out.kept q).c2
  have r0_ : ∀ w', Kept WA w' none → w'.cell? ⟨w.heap.size + 1 + 1, 0, none⟩ = some (.slice none 0 0) := fun w' q => (HBR.out.kept q).c0
  have r1_ : ∀ w', Kept WA w' none → w'.cell? ⟨w.heap.size + 1 + 1, 1, none⟩ = some (.int .i64 0) := fun w' q => (HBR.out.kept q).c1
  have r2_ : ∀ w', Kept WA w' none → w'.cell? ⟨w.heap.size + 1 + 1, 2, none⟩ = some (.bool false) := fun w' q => (HBR.out.kept q).c2
  have z0_ : ∀ w', Kept WA w' none → w'.frozen? ⟨w.heap.size + 1 + 1, 0, none⟩ = false := fun w' q => (HBR.out.kept q).f0
  have z1_ : ∀ w', Kept WA w' none → w'.frozen? ⟨w.heap.size + 1 + 1, 1, none⟩ = false := fun w' q => (HBR.out.kept q).f1
  have z2_ : ∀ w', Kept WA w' none → w'.frozen? ⟨w.heap.size + 1 + 1, 2, none⟩ = false := fun w' q => (HBR.out.kept q).f2
  have s0_ := HSB.out.c0
  have s1_ := HSB.out.c1
  have s2_ := HSB.out.c2
  have s3_ := HSB.out.c3
  have s4_ := HSB.out.c4
  have s5_ := HSB.out.c5
  have s6_ := HSB.out.c6
  have s7_ := HSB.out.c7
  have s8_ := HSB.out.c8
  have s9_ := HSB.out.c9
  have s10_ := HSB.out.c10
  have s11_ := HSB.out.c11
  clear h hT hF hB k1 k2 k3 hsb bn br hsz hkA hSA hTA hFA hBA
  go_enter Tryd.func26, Tryd.ntmps26
  go_wp2_with (first | rw [hWA] | (go_at_call 43; refine (great_no HS.out HT.out hs).mono ?_; rintro e wG ⟨rfl, hkG⟩; have hKG : Kept WA wG none := hkG))
  exact bodyPost_ret (v := .tuple #[safe0, .int .u8 0, .int .i64 50]) (by simp [results, Tryd.results26, go_sem, *]) rfl ⟨rfl, by
    have hb : Kept w _ none := HK.out.tr hKG
    exact ((hb.setNew (by show w.heap.size ≤ w.heap.size + 1 + 1; omega) _).setNew (by show w.heap.size ≤ w.heap.size + 1 + 1; omega) _).setNew (by show w.heap.size ≤ w.heap.size + 1 + 1; omega) _⟩
set_option maxRecDepth 100000 in
set_option maxHeartbeats 1000000 in
theorem next_bad {X : Sa} {S : St} {w : World} {a : Option Addr} {c : Nat} {F : Sf} {al : Option Addr} {n cl : Nat} {L : List Nat} (h : Sat w X S) (hT : Tabb w) (hF : SafeAt w a c F) (hB : By w al n L) (hs : siteB S = true) (hm : mayS S F = false) : Calls Tryd.prog 26 #[siteV X S, safeV a c F, .slice al n cl] w fun e w' => e = .returned (.tuple #[safe0, .int .u8 0, .int .i64 8]) ∧ Kept w w' none := by
  have HSH := Hid.mk' (span_may hs).base.sh
  have k1 : Kept w (w.alloc (.cells #[.int .i64 S.id, .slice X.g S.groups.length X.gc, .slice X.a S.apart.length X.ac, .slice X.b S.between.length X.bc, .slice X.p S.phases.length X.pc, .slice X.e S.eyes.length X.ec, .int .i64 S.watch, .int .i64 S.feed, .int .i64 S.heal, .int .i64 S.low, .int .i64 S.high, .slice X.l S.plans.length X.lc] 35)) none := Kept.alloc _ _ _ _ _
  have k2 : Kept (w.alloc (.cells #[.int .i64 S.id, .slice X.g S.groups.length X.gc, .slice X.a S.apart.length X.ac, .slice X.b S.between.length X.bc, .slice X.p S.phases.length X.pc, .slice X.e S.eyes.length X.ec, .int .i64 S.watch, .int .i64 S.feed, .int .i64 S.heal, .int .i64 S.low, .int .i64 S.high, .slice X.l S.plans.length X.lc] 35)) ((w.alloc (.cells #[.int .i64 S.id, .slice X.g S.groups.length X.gc, .slice X.a S.apart.length X.ac, .slice X.b S.between.length X.bc, .slice X.p S.phases.length X.pc, .slice X.e S.eyes.length X.ec, .int .i64 S.watch, .int .i64 S.feed, .int .i64 S.heal, .int .i64 S.low, .int .i64 S.high, .slice X.l S.plans.length X.lc] 35)).alloc (.cells #[.slice a F.groups.length c, .int .i64 F.start, .bool F.flashed] 61)) none := Kept.alloc _ _ _ _ _
  have k3 : Kept ((w.alloc (.cells #[.int .i64 S.id, .slice X.g S.groups.length X.gc, .slice X.a S.apart.length X.ac, .slice X.b S.between.length X.bc, .slice X.p S.phases.length X.pc, .slice X.e S.eyes.length X.ec, .int .i64 S.watch, .int .i64 S.feed, .int .i64 S.heal, .int .i64 S.low, .int .i64 S.high, .slice X.l S.plans.length X.lc] 35)).alloc (.cells #[.slice a F.groups.length c, .int .i64 F.start, .bool F.flashed] 61)) (((w.alloc (.cells #[.int .i64 S.id, .slice X.g S.groups.length X.gc, .slice X.a S.apart.length X.ac, .slice X.b S.between.length X.bc, .slice X.p S.phases.length X.pc, .slice X.e S.eyes.length X.ec, .int .i64 S.watch, .int .i64 S.feed, .int .i64 S.heal, .int .i64 S.low, .int .i64 S.high, .slice X.l S.plans.length X.lc] 35)).alloc (.cells #[.slice a F.groups.length c, .int .i64 F.start, .bool F.flashed] 61)).alloc (.cells #[.slice none 0 0, .int .i64 0, .bool false] 61)) none := Kept.alloc _ _ _ _ _
  have hsb := (sbox_alloc h 35).kept (k2.tr k3)
  have bn := (box_alloc (w.alloc (.cells #[.int .i64 S.id, .slice X.g S.groups.length X.gc, .slice X.a S.apart.length X.ac, .slice X.b S.between.length X.bc, .slice X.p S.phases.length X.pc, .slice X.e S.eyes.length X.ec, .int .i64 S.watch, .int .i64 S.feed, .int .i64 S.heal, .int .i64 S.low, .int .i64 S.high, .slice X.l S.plans.length X.lc] 35)) (.slice a F.groups.length c) (.int .i64 F.start) (.bool F.flashed) 61).kept k3
  have br := box_alloc ((w.alloc (.cells #[.int .i64 S.id, .slice X.g S.groups.length X.gc, .slice X.a S.apart.length X.ac, .slice X.b S.between.length X.bc, .slice X.p S.phases.length X.pc, .slice X.e S.eyes.length X.ec, .int .i64 S.watch, .int .i64 S.feed, .int .i64 S.heal, .int .i64 S.low, .int .i64 S.high, .slice X.l S.plans.length X.lc] 35)).alloc (.cells #[.slice a F.groups.length c, .int .i64 F.start, .bool F.flashed] 61)) (.slice none 0 0) (.int .i64 0) (.bool false) 61
  have hsz : (((w.alloc (.cells #[.int .i64 S.id, .slice X.g S.groups.length X.gc, .slice X.a S.apart.length X.ac, .slice X.b S.between.length X.bc, .slice X.p S.phases.length X.pc, .slice X.e S.eyes.length X.ec, .int .i64 S.watch, .int .i64 S.feed, .int .i64 S.heal, .int .i64 S.low, .int .i64 S.high, .slice X.l S.plans.length X.lc] 35)).alloc (.cells #[.slice a F.groups.length c, .int .i64 F.start, .bool F.flashed] 61)).alloc (.cells #[.slice none 0 0, .int .i64 0, .bool false] 61)).heap.size = w.heap.size + 1 + 1 + 1 := by simp
  rw [World.size_alloc] at bn br
  rw [World.size_alloc] at br
  have hkA := (k1.tr k2).tr k3
  have hSA := h.kept hkA
  have hTA := hT.kept hkA
  have hFA := hF.kept hkA
  have hBA := hB.kept hkA
  obtain ⟨WA, hWA⟩ : ∃ WA, (((w.alloc (.cells #[.int .i64 S.id, .slice X.g S.groups.length X.gc, .slice X.a S.apart.length X.ac, .slice X.b S.between.length X.bc, .slice X.p S.phases.length X.pc, .slice X.e S.eyes.length X.ec, .int .i64 S.watch, .int .i64 S.feed, .int .i64 S.heal, .int .i64 S.low, .int .i64 S.high, .slice X.l S.plans.length X.lc] 35)).alloc (.cells #[.slice a F.groups.length c, .int .i64 F.start, .bool F.flashed] 61)).alloc (.cells #[.slice none 0 0, .int .i64 0, .bool false] 61)) = WA := ⟨_, rfl⟩
  rw [hWA] at hsb bn br hsz hkA hSA hTA hFA hBA
  have HSB := Hid.mk' hsb
  have HBN := Hid.mk' bn
  have HBR := Hid.mk' br
  have HSZ := Hid.mk' hsz
  have HK := Hid.mk' hkA
  have HS := Hid.mk' hSA
  have HT := Hid.mk' hTA
  have HF := Hid.mk' hFA
  have HB := Hid.mk' hBA
  have n0_ : ∀ w', Kept WA w' none → w'.cell? ⟨w.heap.size + 1, 0, none⟩ = some (.slice a F.groups.length c) := fun w' q => (HBN.out.kept q).c0
  have n1_ : ∀ w', Kept WA w' none → w'.cell? ⟨w.heap.size + 1, 1, none⟩ = some (.int .i64 F.start) := fun w' q => (HBN.out.kept q).c1
  have n2_ : ∀ w', Kept WA w' none → w'.cell? ⟨w.heap.size + 1, 2, none⟩ = some (.bool F.flashed) := fun w' q => (HBN.out.kept q).c2
  have r0_ : ∀ w', Kept WA w' none → w'.cell? ⟨w.heap.size + 1 + 1, 0, none⟩ = some (.slice none 0 0) := fun w' q => (HBR.out.kept q).c0
  have r1_ : ∀ w', Kept WA w' none → w'.cell? ⟨w.heap.size + 1 + 1, 1, none⟩ = some (.int .i64 0) := fun w' q => (HBR.out.kept q).c1
  have r2_ : ∀ w', Kept WA w' none → w'.cell? ⟨w.heap.size + 1 + 1, 2, none⟩ = some (.bool false) := fun w' q => (HBR.out.kept q).c2
  have z0_ : ∀ w', Kept WA w' none → w'.frozen? ⟨w.heap.size + 1 + 1, 0, none⟩ = false := fun w' q => (HBR.out.kept q).f0
  have z1_ : ∀ w', Kept WA w' none → w'.frozen? ⟨w.heap.size + 1 + 1, 1, none⟩ = false := fun w' q => (HBR.out.kept q).f1
  have z2_ : ∀ w', Kept WA w' none → w'.frozen? ⟨w.heap.size + 1 + 1, 2, none⟩ = false := fun w' q => (HBR.out.kept q).f2
  have s0_ := HSB.out.c0
  have s1_ := HSB.out.c1
  have s2_ := HSB.out.c2
  have s3_ := HSB.out.c3
  have s4_ := HSB.out.c4
  have s5_ := HSB.out.c5
  have s6_ := HSB.out.c6
  have s7_ := HSB.out.c7
  have s8_ := HSB.out.c8
  have s9_ := HSB.out.c9
  have s10_ := HSB.out.c10
  have s11_ := HSB.out.c11
  clear h hT hF hB k1 k2 k3 hsb bn br hsz hkA hSA hTA hFA hBA
  go_enter Tryd.func26, Tryd.ntmps26
  go_wp2_with (first | rw [hWA] | (go_at_call 43; refine (great_yes HS.out HT.out hs).mono ?_; rintro e wG ⟨rfl, hkG⟩; have hKG : Kept WA wG none := hkG) | (go_at_call 48; refine (maybe_any (HSB.out.kept hKG) HSH.out (HF.out.kept hKG)).mono ?_; rintro e wM ⟨rfl, hkM⟩; have hKM : Kept WA wM none := Kept.tr hKG hkM; rw [hm]))
  exact bodyPost_ret (v := .tuple #[safe0, .int .u8 0, .int .i64 8]) (by simp [results, Tryd.results26, go_sem, *]) rfl ⟨rfl, by
    have hb : Kept w _ none := HK.out.tr hKM
    exact ((hb.setNew (by show w.heap.size ≤ w.heap.size + 1 + 1; omega) _).setNew (by show w.heap.size ≤ w.heap.size + 1 + 1; omega) _).setNew (by show w.heap.size ≤ w.heap.size + 1 + 1; omega) _⟩
set_option maxRecDepth 100000 in
set_option maxHeartbeats 2000000 in
theorem next_fault {X : Sa} {S : St} {w : World} {a : Option Addr} {c : Nat} {F : Sf} {al : Option Addr} {n cl : Nat} {L : List Nat} (h : Sat w X S) (hT : Tabb w) (hF : SafeAt w a c F) (hB : By w al n L) (hs : siteB S = true) (hm : mayS S F = true) (hz : faultV S F L ≠ 0) : Calls Tryd.prog 26 #[siteV X S, safeV a c F, .slice al n cl] w fun e w' => ∃ b, e = .returned (.tuple #[safeV (some ⟨b, 0, none⟩) F.groups.length F, .int .u8 (faultV S F L), .int .i64 0]) ∧ w.heap.size ≤ b ∧ OwnG w' b F.groups.length F.g ∧ Kept w w' none := by
  have HSH := Hid.mk' (span_may hs).base.sh
  have hng := HSH.out.ok.ng
  have hm0 := hm
  unfold mayS at hm0
  simp only [Bool.and_eq_true, decide_eq_true_eq, inB_iff] at hm0
  obtain ⟨hfn, ⟨hst0, hst1⟩, _⟩ := hm0
  have HFN := Hid.mk' hfn
  have hFpos : 0 < F.groups.length := by omega
  have hFle : F.groups.length ≤ 100 := by omega
  have HRNG := Hid.mk' hF.rng
  have HWR := Hid.mk' (worst_rng hs)
  clear hfn
  have k1 : Kept w (w.alloc (.cells #[.int .i64 S.id, .slice X.g S.groups.length X.gc, .slice X.a S.apart.length X.ac, .slice X.b S.between.length X.bc, .slice X.p S.phases.length X.pc, .slice X.e S.eyes.length X.ec, .int .i64 S.watch, .int .i64 S.feed, .int .i64 S.heal, .int .i64 S.low, .int .i64 S.high, .slice X.l S.plans.length X.lc] 35)) none := Kept.alloc _ _ _ _ _
  have k2 : Kept (w.alloc (.cells #[.int .i64 S.id, .slice X.g S.groups.length X.gc, .slice X.a S.apart.length X.ac, .slice X.b S.between.length X.bc, .slice X.p S.phases.length X.pc, .slice X.e S.eyes.length X.ec, .int .i64 S.watch, .int .i64 S.feed, .int .i64 S.heal, .int .i64 S.low, .int .i64 S.high, .slice X.l S.plans.length X.lc] 35)) ((w.alloc (.cells #[.int .i64 S.id, .slice X.g S.groups.length X.gc, .slice X.a S.apart.length X.ac, .slice X.b S.between.length X.bc, .slice X.p S.phases.length X.pc, .slice X.e S.eyes.length X.ec, .int .i64 S.watch, .int .i64 S.feed, .int .i64 S.heal, .int .i64 S.low, .int .i64 S.high, .slice X.l S.plans.length X.lc] 35)).alloc (.cells #[.slice a F.groups.length c, .int .i64 F.start, .bool F.flashed] 61)) none := Kept.alloc _ _ _ _ _
  have k3 : Kept ((w.alloc (.cells #[.int .i64 S.id, .slice X.g S.groups.length X.gc, .slice X.a S.apart.length X.ac, .slice X.b S.between.length X.bc, .slice X.p S.phases.length X.pc, .slice X.e S.eyes.length X.ec, .int .i64 S.watch, .int .i64 S.feed, .int .i64 S.heal, .int .i64 S.low, .int .i64 S.high, .slice X.l S.plans.length X.lc] 35)).alloc (.cells #[.slice a F.groups.length c, .int .i64 F.start, .bool F.flashed] 61)) (((w.alloc (.cells #[.int .i64 S.id, .slice X.g S.groups.length X.gc, .slice X.a S.apart.length X.ac, .slice X.b S.between.length X.bc, .slice X.p S.phases.length X.pc, .slice X.e S.eyes.length X.ec, .int .i64 S.watch, .int .i64 S.feed, .int .i64 S.heal, .int .i64 S.low, .int .i64 S.high, .slice X.l S.plans.length X.lc] 35)).alloc (.cells #[.slice a F.groups.length c, .int .i64 F.start, .bool F.flashed] 61)).alloc (.cells #[.slice none 0 0, .int .i64 0, .bool false] 61)) none := Kept.alloc _ _ _ _ _
  have hsb := (sbox_alloc h 35).kept (k2.tr k3)
  have bn := (box_alloc (w.alloc (.cells #[.int .i64 S.id, .slice X.g S.groups.length X.gc, .slice X.a S.apart.length X.ac, .slice X.b S.between.length X.bc, .slice X.p S.phases.length X.pc, .slice X.e S.eyes.length X.ec, .int .i64 S.watch, .int .i64 S.feed, .int .i64 S.heal, .int .i64 S.low, .int .i64 S.high, .slice X.l S.plans.length X.lc] 35)) (.slice a F.groups.length c) (.int .i64 F.start) (.bool F.flashed) 61).kept k3
  have br := box_alloc ((w.alloc (.cells #[.int .i64 S.id, .slice X.g S.groups.length X.gc, .slice X.a S.apart.length X.ac, .slice X.b S.between.length X.bc, .slice X.p S.phases.length X.pc, .slice X.e S.eyes.length X.ec, .int .i64 S.watch, .int .i64 S.feed, .int .i64 S.heal, .int .i64 S.low, .int .i64 S.high, .slice X.l S.plans.length X.lc] 35)).alloc (.cells #[.slice a F.groups.length c, .int .i64 F.start, .bool F.flashed] 61)) (.slice none 0 0) (.int .i64 0) (.bool false) 61
  have hsz : (((w.alloc (.cells #[.int .i64 S.id, .slice X.g S.groups.length X.gc, .slice X.a S.apart.length X.ac, .slice X.b S.between.length X.bc, .slice X.p S.phases.length X.pc, .slice X.e S.eyes.length X.ec, .int .i64 S.watch, .int .i64 S.feed, .int .i64 S.heal, .int .i64 S.low, .int .i64 S.high, .slice X.l S.plans.length X.lc] 35)).alloc (.cells #[.slice a F.groups.length c, .int .i64 F.start, .bool F.flashed] 61)).alloc (.cells #[.slice none 0 0, .int .i64 0, .bool false] 61)).heap.size = w.heap.size + 1 + 1 + 1 := by simp
  rw [World.size_alloc] at bn br
  rw [World.size_alloc] at br
  have hkA := (k1.tr k2).tr k3
  have hSA := h.kept hkA
  have hTA := hT.kept hkA
  have hFA := hF.kept hkA
  have hBA := hB.kept hkA
  obtain ⟨WA, hWA⟩ : ∃ WA, (((w.alloc (.cells #[.int .i64 S.id, .slice X.g S.groups.length X.gc, .slice X.a S.apart.length X.ac, .slice X.b S.between.length X.bc, .slice X.p S.phases.length X.pc, .slice X.e S.eyes.length X.ec, .int .i64 S.watch, .int .i64 S.feed, .int .i64 S.heal, .int .i64 S.low, .int .i64 S.high, .slice X.l S.plans.length X.lc] 35)).alloc (.cells #[.slice a F.groups.length c, .int .i64 F.start, .bool F.flashed] 61)).alloc (.cells #[.slice none 0 0, .int .i64 0, .bool false] 61)) = WA := ⟨_, rfl⟩
  rw [hWA] at hsb bn br hsz hkA hSA hTA hFA hBA
  have HSB := Hid.mk' hsb
  have HBN := Hid.mk' bn
  have HBR := Hid.mk' br
  have HSZ := Hid.mk' hsz
  have HK := Hid.mk' hkA
  have HS := Hid.mk' hSA
  have HT := Hid.mk' hTA
  have HF := Hid.mk' hFA
  have HB := Hid.mk' hBA
  have n0_ : ∀ w', Kept WA w' none → w'.cell? ⟨w.heap.size + 1, 0, none⟩ = some (.slice a F.groups.length c) := fun w' q => (HBN.out.kept q).c0
  have n1_ : ∀ w', Kept WA w' none → w'.cell? ⟨w.heap.size + 1, 1, none⟩ = some (.int .i64 F.start) := fun w' q => (HBN.out.kept q).c1
  have n2_ : ∀ w', Kept WA w' none → w'.cell? ⟨w.heap.size + 1, 2, none⟩ = some (.bool F.flashed) := fun w' q => (HBN.out.kept q).c2
  have r0_ : ∀ w', Kept WA w' none → w'.cell? ⟨w.heap.size + 1 + 1, 0, none⟩ = some (.slice none 0 0) := fun w' q => (HBR.out.kept q).c0
  have r1_ : ∀ w', Kept WA w' none → w'.cell? ⟨w.heap.size + 1 + 1, 1, none⟩ = some (.int .i64 0) := fun w' q => (HBR.out.kept q).c1
  have r2_ : ∀ w', Kept WA w' none → w'.cell? ⟨w.heap.size + 1 + 1, 2, none⟩ = some (.bool false) := fun w' q => (HBR.out.kept q).c2
  have z0_ : ∀ w', Kept WA w' none → w'.frozen? ⟨w.heap.size + 1 + 1, 0, none⟩ = false := fun w' q => (HBR.out.kept q).f0
  have z1_ : ∀ w', Kept WA w' none → w'.frozen? ⟨w.heap.size + 1 + 1, 1, none⟩ = false := fun w' q => (HBR.out.kept q).f1
  have z2_ : ∀ w', Kept WA w' none → w'.frozen? ⟨w.heap.size + 1 + 1, 2, none⟩ = false := fun w' q => (HBR.out.kept q).f2
  have s0_ := HSB.out.c0
  have s1_ := HSB.out.c1
  have s2_ := HSB.out.c2
  have s3_ := HSB.out.c3
  have s4_ := HSB.out.c4
  have s5_ := HSB.out.c5
  have s6_ := HSB.out.c6
  have s7_ := HSB.out.c7
  have s8_ := HSB.out.c8
  have s9_ := HSB.out.c9
  have s10_ := HSB.out.c10
  have s11_ := HSB.out.c11
  clear h hT hF hB k1 k2 k3 hsb bn br hsz hkA hSA hTA hFA hBA
  go_enter Tryd.func26, Tryd.ntmps26
  go_wp2_with (first | rw [hWA] | (go_at_call 43; refine (great_yes HS.out HT.out hs).mono ?_; rintro e wG ⟨rfl, hkG⟩; have hKG : Kept WA wG none := hkG) | (go_at_call 48; refine (maybe_any (HSB.out.kept hKG) HSH.out (HF.out.kept hKG)).mono ?_; rintro e wM ⟨rfl, hkM⟩; have hKM : Kept WA wM none := Kept.tr hKG hkM; rw [hm]) | (go_at_call 49; refine (copied_any (HF.out.kept hKM) hFpos hFle).mono ?_; rintro e wC ⟨b, rfl, hbm, hog, hkC⟩; have hKC : Kept WA wC none := Kept.tr hKM hkC))
  have kN : Kept wC (wC.alloc (.cells #[.slice (some ⟨b, 0, none⟩) F.groups.length F.groups.length, .int .i64 F.start, .bool F.flashed] 61)) none := Kept.alloc _ _ _ _ _
  have bN := box_alloc wC (.slice (some ⟨b, 0, none⟩) F.groups.length F.groups.length) (.int .i64 F.start) (.bool F.flashed) 61
  obtain ⟨W5, hW5⟩ : ∃ W5, wC.alloc (.cells #[.slice (some ⟨b, 0, none⟩) F.groups.length F.groups.length, .int .i64 F.start, .bool F.flashed] 61) = W5 := ⟨_, rfl⟩
  rw [hW5] at kN bN ⊢
  have hog5 : OwnG W5 b F.groups.length F.g := row_kept hog kN (by simp)
  have HSA := Hid.mk' (hog5.safe (F := F) rfl (fun _ _ => rfl) (by omega) HRNG.out)
  have HOG := Hid.mk' hog5
  have BN := Hid.mk' bN
  have hK5 : Kept WA W5 none := hKC.tr kN
  have hM5 : Kept wM W5 none := hkC.tr kN
  have HMC := Hid.mk' hkC.size
  have hbC := hog.lt
  have m0_ : ∀ w', Kept W5 w' none → w'.cell? ⟨wC.heap.size, 0, none⟩ = some (.slice (some ⟨b, 0, none⟩) F.groups.length F.groups.length) := fun w' q => (BN.out.kept q).c0
  have m1_ : ∀ w', Kept W5 w' none → w'.cell? ⟨wC.heap.size, 1, none⟩ = some (.int .i64 F.start) := fun w' q => (BN.out.kept q).c1
  have m2_ : ∀ w', Kept W5 w' none → w'.cell? ⟨wC.heap.size, 2, none⟩ = some (.bool F.flashed) := fun w' q => (BN.out.kept q).c2
  have hR5 := Kept.refl W5 none
  have hAsz := hKM.size
  rw [HSZ.out] at hAsz
  clear hW5 kN bN hog5 hog hkC
  have hzb : (faultV S F L == 0) = false := by simpa using hz
  have hbR : b ≠ w.heap.size + 1 + 1 := by omega
  go_wp2_with (go_at_call 50; refine (fault_any (HSB.out.kept hK5) HSH.out HSA.out HFN.out (HB.out.kept hK5)).mono ?_; rintro e wF ⟨rfl, hkF⟩; have hKF : Kept WA wF none := Kept.tr hK5 hkF)
  have g0_ := m0_ wF hkF
  have g1_ := m1_ wF hkF
  have g2_ := m2_ wF hkF
  refine bodyPost_ret (v := .tuple #[.agg #[.slice (some ⟨b, 0, none⟩) F.groups.length F.groups.length, .int .i64 F.start, .bool F.flashed], .int .u8 (faultV S F L), .int .i64 0]) (by simp [results, Tryd.results26, go_sem, *]) rfl ⟨b, rfl, by omega, (((row_kept HOG.out hkF (by simp)).setOther (a := ⟨w.heap.size + 1 + 1, 0, none⟩) hbR _).setOther (a := ⟨w.heap.size + 1 + 1, 1, none⟩) hbR _).setOther (a := ⟨w.heap.size + 1 + 1, 2, none⟩) hbR _, ?_⟩
  have hb : Kept w _ none := HK.out.tr hKF
  exact ((hb.setNew (by show w.heap.size ≤ w.heap.size + 1 + 1; omega) _).setNew (by show w.heap.size ≤ w.heap.size + 1 + 1; omega) _).setNew (by show w.heap.size ≤ w.heap.size + 1 + 1; omega) _
theorem fault_len {S : St} {F : Sf} {L : List Nat} (h : faultV S F L = 0) : L.length = S.groups.length := by
  unfold faultV at h
  by_cases e : L.length = S.groups.length
  · exact e
  · rw [if_pos e] at h; cases h
set_option maxRecDepth 100000 in
set_option maxHeartbeats 2000000 in
theorem next_go {X : Sa} {S : St} {w : World} {a : Option Addr} {c : Nat} {F : Sf} {al : Option Addr} {n cl : Nat} {L : List Nat} (h : Sat w X S) (hT : Tabb w) (hF : SafeAt w a c F) (hB : By w al n L) (hs : siteB S = true) (hm : mayS S F = true) (hz : faultV S F L = 0) : Calls Tryd.prog 26 #[siteV X S, safeV a c F, .slice al n cl] w fun e w' => ∃ b, e = .returned (.tuple #[safeV (some ⟨b, 0, none⟩) S.groups.length (behindV S F L), .int .u8 0, .int .i64 0]) ∧ w.heap.size ≤ b ∧ OwnG w' b S.groups.length (fun i => sndV (F.g i) (lg L i)) ∧ Kept w w' none := by
  have hLn := fault_len hz
  have hnn := hB.size
  have HLEN : Hid ((behindV S F L).groups.length = S.groups.length) := (behindV_len S F L).trans hLn
  have HSH := Hid.mk' (span_may hs).base.sh
  have hng := HSH.out.ok.ng
  have hm0 := hm
  unfold mayS at hm0
  simp only [Bool.and_eq_true, decide_eq_true_eq, inB_iff] at hm0
  obtain ⟨hfn, ⟨hst0, hst1⟩, _⟩ := hm0
  have HFN := Hid.mk' hfn
  have hFpos : 0 < F.groups.length := by omega
  have hFle : F.groups.length ≤ 100 := by omega
  have HRNG := Hid.mk' hF.rng
  have HWR := Hid.mk' (worst_rng hs)
  clear hfn
  have k1 : Kept w (w.alloc (.cells #[.int .i64 S.id, .slice X.g S.groups.length X.gc, .slice X.a S.apart.length X.ac, .slice X.b S.between.length X.bc, .slice X.p S.phases.length X.pc, .slice X.e S.eyes.length X.ec, .int .i64 S.watch, .int .i64 S.feed, .int .i64 S.heal, .int .i64 S.low, .int .i64 S.high, .slice X.l S.plans.length X.lc] 35)) none := Kept.alloc _ _ _ _ _
  have k2 : Kept (w.alloc (.cells #[.int .i64 S.id, .slice X.g S.groups.length X.gc, .slice X.a S.apart.length X.ac, .slice X.b S.between.length X.bc, .slice X.p S.phases.length X.pc, .slice X.e S.eyes.length X.ec, .int .i64 S.watch, .int .i64 S.feed, .int .i64 S.heal, .int .i64 S.low, .int .i64 S.high, .slice X.l S.plans.length X.lc] 35)) ((w.alloc (.cells #[.int .i64 S.id, .slice X.g S.groups.length X.gc, .slice X.a S.apart.length X.ac, .slice X.b S.between.length X.bc, .slice X.p S.phases.length X.pc, .slice X.e S.eyes.length X.ec, .int .i64 S.watch, .int .i64 S.feed, .int .i64 S.heal, .int .i64 S.low, .int .i64 S.high, .slice X.l S.plans.length X.lc] 35)).alloc (.cells #[.slice a F.groups.length c, .int .i64 F.start, .bool F.flashed] 61)) none := Kept.alloc _ _ _ _ _
  have k3 : Kept ((w.alloc (.cells #[.int .i64 S.id, .slice X.g S.groups.length X.gc, .slice X.a S.apart.length X.ac, .slice X.b S.between.length X.bc, .slice X.p S.phases.length X.pc, .slice X.e S.eyes.length X.ec, .int .i64 S.watch, .int .i64 S.feed, .int .i64 S.heal, .int .i64 S.low, .int .i64 S.high, .slice X.l S.plans.length X.lc] 35)).alloc (.cells #[.slice a F.groups.length c, .int .i64 F.start, .bool F.flashed] 61)) (((w.alloc (.cells #[.int .i64 S.id, .slice X.g S.groups.length X.gc, .slice X.a S.apart.length X.ac, .slice X.b S.between.length X.bc, .slice X.p S.phases.length X.pc, .slice X.e S.eyes.length X.ec, .int .i64 S.watch, .int .i64 S.feed, .int .i64 S.heal, .int .i64 S.low, .int .i64 S.high, .slice X.l S.plans.length X.lc] 35)).alloc (.cells #[.slice a F.groups.length c, .int .i64 F.start, .bool F.flashed] 61)).alloc (.cells #[.slice none 0 0, .int .i64 0, .bool false] 61)) none := Kept.alloc _ _ _ _ _
  have hsb := (sbox_alloc h 35).kept (k2.tr k3)
  have bn := (box_alloc (w.alloc (.cells #[.int .i64 S.id, .slice X.g S.groups.length X.gc, .slice X.a S.apart.length X.ac, .slice X.b S.between.length X.bc, .slice X.p S.phases.length X.pc, .slice X.e S.eyes.length X.ec, .int .i64 S.watch, .int .i64 S.feed, .int .i64 S.heal, .int .i64 S.low, .int .i64 S.high, .slice X.l S.plans.length X.lc] 35)) (.slice a F.groups.length c) (.int .i64 F.start) (.bool F.flashed) 61).kept k3
  have br := box_alloc ((w.alloc (.cells #[.int .i64 S.id, .slice X.g S.groups.length X.gc, .slice X.a S.apart.length X.ac, .slice X.b S.between.length X.bc, .slice X.p S.phases.length X.pc, .slice X.e S.eyes.length X.ec, .int .i64 S.watch, .int .i64 S.feed, .int .i64 S.heal, .int .i64 S.low, .int .i64 S.high, .slice X.l S.plans.length X.lc] 35)).alloc (.cells #[.slice a F.groups.length c, .int .i64 F.start, .bool F.flashed] 61)) (.slice none 0 0) (.int .i64 0) (.bool false) 61
  have hsz : (((w.alloc (.cells #[.int .i64 S.id, .slice X.g S.groups.length X.gc, .slice X.a S.apart.length X.ac, .slice X.b S.between.length X.bc, .slice X.p S.phases.length X.pc, .slice X.e S.eyes.length X.ec, .int .i64 S.watch, .int .i64 S.feed, .int .i64 S.heal, .int .i64 S.low, .int .i64 S.high, .slice X.l S.plans.length X.lc] 35)).alloc (.cells #[.slice a F.groups.length c, .int .i64 F.start, .bool F.flashed] 61)).alloc (.cells #[.slice none 0 0, .int .i64 0, .bool false] 61)).heap.size = w.heap.size + 1 + 1 + 1 := by simp
  rw [World.size_alloc] at bn br
  rw [World.size_alloc] at br
  have hkA := (k1.tr k2).tr k3
  have hSA := h.kept hkA
  have hTA := hT.kept hkA
  have hFA := hF.kept hkA
  have hBA := hB.kept hkA
  obtain ⟨WA, hWA⟩ : ∃ WA, (((w.alloc (.cells #[.int .i64 S.id, .slice X.g S.groups.length X.gc, .slice X.a S.apart.length X.ac, .slice X.b S.between.length X.bc, .slice X.p S.phases.length X.pc, .slice X.e S.eyes.length X.ec, .int .i64 S.watch, .int .i64 S.feed, .int .i64 S.heal, .int .i64 S.low, .int .i64 S.high, .slice X.l S.plans.length X.lc] 35)).alloc (.cells #[.slice a F.groups.length c, .int .i64 F.start, .bool F.flashed] 61)).alloc (.cells #[.slice none 0 0, .int .i64 0, .bool false] 61)) = WA := ⟨_, rfl⟩
  rw [hWA] at hsb bn br hsz hkA hSA hTA hFA hBA
  have HSB := Hid.mk' hsb
  have HBN := Hid.mk' bn
  have HBR := Hid.mk' br
  have HSZ := Hid.mk' hsz
  have HK := Hid.mk' hkA
  have HS := Hid.mk' hSA
  have HT := Hid.mk' hTA
  have HF := Hid.mk' hFA
  have HB := Hid.mk' hBA
  have n0_ : ∀ w', Kept WA w' none → w'.cell? ⟨w.heap.size + 1, 0, none⟩ = some (.slice a F.groups.length c) := fun w' q => (HBN.out.kept q).c0
  have n1_ : ∀ w', Kept WA w' none → w'.cell? ⟨w.heap.size + 1, 1, none⟩ = some (.int .i64 F.start) := fun w' q => (HBN.out.kept q).c1
  have n2_ : ∀ w', Kept WA w' none → w'.cell? ⟨w.heap.size + 1, 2, none⟩ = some (.bool F.flashed) := fun w' q => (HBN.out.kept q).c2
  have r0_ : ∀ w', Kept WA w' none → w'.cell? ⟨w.heap.size + 1 + 1, 0, none⟩ = some (.slice none 0 0) := fun w' q => (HBR.out.kept q).c0
  have r1_ : ∀ w', Kept WA w' none → w'.cell? ⟨w.heap.size + 1 + 1, 1, none⟩ = some (.int .i64 0) := fun w' q => (HBR.out.kept q).c1
  have r2_ : ∀ w', Kept WA w' none → w'.cell? ⟨w.heap.size + 1 + 1, 2, none⟩ = some (.bool false) := fun w' q => (HBR.out.kept q).c2
  have z0_ : ∀ w', Kept WA w' none → w'.frozen? ⟨w.heap.size + 1 + 1, 0, none⟩ = false := fun w' q => (HBR.out.kept q).f0
  have z1_ : ∀ w', Kept WA w' none → w'.frozen? ⟨w.heap.size + 1 + 1, 1, none⟩ = false := fun w' q => (HBR.out.kept q).f1
  have z2_ : ∀ w', Kept WA w' none → w'.frozen? ⟨w.heap.size + 1 + 1, 2, none⟩ = false := fun w' q => (HBR.out.kept q).f2
  have s0_ := HSB.out.c0
  have s1_ := HSB.out.c1
  have s2_ := HSB.out.c2
  have s3_ := HSB.out.c3
  have s4_ := HSB.out.c4
  have s5_ := HSB.out.c5
  have s6_ := HSB.out.c6
  have s7_ := HSB.out.c7
  have s8_ := HSB.out.c8
  have s9_ := HSB.out.c9
  have s10_ := HSB.out.c10
  have s11_ := HSB.out.c11
  clear h hT hF hB k1 k2 k3 hsb bn br hsz hkA hSA hTA hFA hBA
  go_enter Tryd.func26, Tryd.ntmps26
  go_wp2_with (first | rw [hWA] | (go_at_call 43; refine (great_yes HS.out HT.out hs).mono ?_; rintro e wG ⟨rfl, hkG⟩; have hKG : Kept WA wG none := hkG) | (go_at_call 48; refine (maybe_any (HSB.out.kept hKG) HSH.out (HF.out.kept hKG)).mono ?_; rintro e wM ⟨rfl, hkM⟩; have hKM : Kept WA wM none := Kept.tr hKG hkM; rw [hm]) | (go_at_call 49; refine (copied_any (HF.out.kept hKM) hFpos hFle).mono ?_; rintro e wC ⟨b, rfl, hbm, hog, hkC⟩; have hKC : Kept WA wC none := Kept.tr hKM hkC))
  have kN : Kept wC (wC.alloc (.cells #[.slice (some ⟨b, 0, none⟩) F.groups.length F.groups.length, .int .i64 F.start, .bool F.flashed] 61)) none := Kept.alloc _ _ _ _ _
  have bN := box_alloc wC (.slice (some ⟨b, 0, none⟩) F.groups.length F.groups.length) (.int .i64 F.start) (.bool F.flashed) 61
  obtain ⟨W5, hW5⟩ : ∃ W5, wC.alloc (.cells #[.slice (some ⟨b, 0, none⟩) F.groups.length F.groups.length, .int .i64 F.start, .bool F.flashed] 61) = W5 := ⟨_, rfl⟩
  rw [hW5] at kN bN ⊢
  have hog5 : OwnG W5 b F.groups.length F.g := row_kept hog kN (by simp)
  have HSA := Hid.mk' (hog5.safe (F := F) rfl (fun _ _ => rfl) (by omega) HRNG.out)
  have HOG := Hid.mk' hog5
  have BN := Hid.mk' bN
  have hK5 : Kept WA W5 none := hKC.tr kN
  have hM5 : Kept wM W5 none := hkC.tr kN
  have HMC := Hid.mk' hkC.size
  have hbC := hog.lt
  have m0_ : ∀ w', Kept W5 w' none → w'.cell? ⟨wC.heap.size, 0, none⟩ = some (.slice (some ⟨b, 0, none⟩) F.groups.length F.groups.length) := fun w' q => (BN.out.kept q).c0
  have m1_ : ∀ w', Kept W5 w' none → w'.cell? ⟨wC.heap.size, 1, none⟩ = some (.int .i64 F.start) := fun w' q => (BN.out.kept q).c1
  have m2_ : ∀ w', Kept W5 w' none → w'.cell? ⟨wC.heap.size, 2, none⟩ = some (.bool F.flashed) := fun w' q => (BN.out.kept q).c2
  have hR5 := Kept.refl W5 none
  have hAsz := hKM.size
  rw [HSZ.out] at hAsz
  clear hW5 kN bN hog5 hog hkC
  have hnF : n = F.groups.length := by have := HFN.out; omega
  subst hnF
  have hbR : b ≠ w.heap.size + 1 + 1 := by omega
  have hcR : wC.heap.size ≠ w.heap.size + 1 + 1 := by have := HMC.out; omega
  clear hLn hnn
  go_wp2_with (first | (go_at_call 50; refine (fault_any (HSB.out.kept hK5) HSH.out HSA.out HFN.out (HB.out.kept hK5)).mono ?_; rintro e wF ⟨rfl, hkF⟩; have hKF : Kept WA wF none := Kept.tr hK5 hkF) | (go_at_call 51; refine (move_loop (HSB.out.kept hKM) HSH.out.ok (HB.out.kept hKM) HFN.out (hM5.tr hkF) HMC.out hbm (by omega) (Nat.le_refl _) (by omega) (BN.out.kept hkF) (row_kept HOG.out hkF (by simp)) _ ⟨hst0, hst1⟩ HWR.out).mono ?_; rintro e w7 ⟨⟨v, rfl⟩, hk7, hb7, hg7⟩; have hK7 : Kept WA w7 none := Kept.tr hKM hk7; have g0_ := hb7.c0; have g1_ := hb7.c1; have g2_ := hb7.c2))
  have hfn := HFN.out
  refine bodyPost_ret (v := .tuple #[.agg #[.slice (some ⟨b, 0, none⟩) F.groups.length F.groups.length, .int .i64 (nextS (worstM S) F.start F.flashed (allIs L 4)), .bool (allIs L 4)], .int .u8 0, .int .i64 0]) (by simp [results, Tryd.results26, go_sem, g0_, g1_, g2_, r0_, r1_, r2_, z0_, z1_, z2_, hK7, hcR]) rfl ⟨b, ?_, by omega, ?_, ?_⟩
  · rw [safeV, HLEN.out, hfn]
    rfl
  · rw [← hfn]
    exact (((hg7).setOther (a := ⟨w.heap.size + 1 + 1, 0, none⟩) hbR _).setOther (a := ⟨w.heap.size + 1 + 1, 1, none⟩) hbR _).setOther (a := ⟨w.heap.size + 1 + 1, 2, none⟩) hbR _
  · have hb : Kept w _ none := HK.out.tr hK7
    exact ((hb.setNew (by show w.heap.size ≤ w.heap.size + 1 + 1; omega) _).setNew (by show w.heap.size ≤ w.heap.size + 1 + 1; omega) _).setNew (by show w.heap.size ≤ w.heap.size + 1 + 1; omega) _

end Go.Proofs.YtfhmfanmnhclfaaDoor

