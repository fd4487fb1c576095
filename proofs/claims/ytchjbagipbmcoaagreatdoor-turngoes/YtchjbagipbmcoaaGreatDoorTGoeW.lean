/-
  Texts joined: some of those that the proofs of this seat stand on.
-/
import Derived.Test.YtchjbagipbmcoaaGreatDoorRefS15J
import Derived.Test.YtchjbagipbmcoaaGreatDoorRefT8J
import Derived.Test.YtchjbagipbmcoaaGreatDoorRefG
/-
  THE WALK of TurnGoes (made by a program).
-/
namespace Go.Proofs.YtchjbagipbmcoaaGreatDoor
open Go.RowKit Go.Lib Go.Deep
set_option linter.unusedVariables false
set_option linter.unusedSimpArgs false

set_option maxRecDepth 100000 in
set_option maxHeartbeats 8000000 in
theorem tgoe_long {X : Sa} {S : St} {w : World} (h : Sat w X S) (hT : Tabb w) {a : Option Addr} {c : Nat} {F : Sf} (hF : SafeAt w a c F) (p : Int) (hl : 100 < F.groups.length) : Calls Tryz.prog 3 #[siteV X S, safeV a c F, .int .i64 p] w fun e w' => e = .returned (.bool true) ∧ Below w.heap.size w w' := by
  have hlb : decide ((100 : Int) < (F.groups.length : Int)) = true := by simp; omega
  clear hl
  have k1 : Kept w (w.alloc (.cells #[.int .i64 S.id, .slice X.g S.groups.length X.gc, .slice X.a S.apart.length X.ac, .slice X.b S.between.length X.bc, .slice X.p S.phases.length X.pc, .slice X.e S.eyes.length X.ec, .int .i64 S.watch, .int .i64 S.feed, .int .i64 S.heal, .int .i64 S.low, .int .i64 S.high, .slice X.l S.plans.length X.lc] 29)) none := Kept.alloc _ _ _ _ _
  have k2 : Kept (w.alloc (.cells #[.int .i64 S.id, .slice X.g S.groups.length X.gc, .slice X.a S.apart.length X.ac, .slice X.b S.between.length X.bc, .slice X.p S.phases.length X.pc, .slice X.e S.eyes.length X.ec, .int .i64 S.watch, .int .i64 S.feed, .int .i64 S.heal, .int .i64 S.low, .int .i64 S.high, .slice X.l S.plans.length X.lc] 29)) ((w.alloc (.cells #[.int .i64 S.id, .slice X.g S.groups.length X.gc, .slice X.a S.apart.length X.ac, .slice X.b S.between.length X.bc, .slice X.p S.phases.length X.pc, .slice X.e S.eyes.length X.ec, .int .i64 S.watch, .int .i64 S.feed, .int .i64 S.heal, .int .i64 S.low, .int .i64 S.high, .slice X.l S.plans.length X.lc] 29)).alloc (.cells #[.slice a F.groups.length c, .int .i64 F.start, .bool F.flashed] 32)) none := Kept.alloc _ _ _ _ _
  have hsb := (sbox_alloc h 29).kept k2
  have bn := box_alloc (w.alloc (.cells #[.int .i64 S.id, .slice X.g S.groups.length X.gc, .slice X.a S.apart.length X.ac, .slice X.b S.between.length X.bc, .slice X.p S.phases.length X.pc, .slice X.e S.eyes.length X.ec, .int .i64 S.watch, .int .i64 S.feed, .int .i64 S.heal, .int .i64 S.low, .int .i64 S.high, .slice X.l S.plans.length X.lc] 29)) (.slice a F.groups.length c) (.int .i64 F.start) (.bool F.flashed) 32
  rw [World.size_alloc] at bn
  have hszA : ((w.alloc (.cells #[.int .i64 S.id, .slice X.g S.groups.length X.gc, .slice X.a S.apart.length X.ac, .slice X.b S.between.length X.bc, .slice X.p S.phases.length X.pc, .slice X.e S.eyes.length X.ec, .int .i64 S.watch, .int .i64 S.feed, .int .i64 S.heal, .int .i64 S.low, .int .i64 S.high, .slice X.l S.plans.length X.lc] 29)).alloc (.cells #[.slice a F.groups.length c, .int .i64 F.start, .bool F.flashed] 32)).heap.size = w.heap.size + 1 + 1 := by simp
  have hkA := k1.tr k2
  obtain ⟨WA, hWA⟩ : ∃ WA, ((w.alloc (.cells #[.int .i64 S.id, .slice X.g S.groups.length X.gc, .slice X.a S.apart.length X.ac, .slice X.b S.between.length X.bc, .slice X.p S.phases.length X.pc, .slice X.e S.eyes.length X.ec, .int .i64 S.watch, .int .i64 S.feed, .int .i64 S.heal, .int .i64 S.low, .int .i64 S.high, .slice X.l S.plans.length X.lc] 29)).alloc (.cells #[.slice a F.groups.length c, .int .i64 F.start, .bool F.flashed] 32)) = WA := ⟨_, rfl⟩
  rw [hWA] at hsb bn hkA hszA
  have HSB := Hid.mk' hsb
  have HBN := Hid.mk' bn
  have HSZ := Hid.mk' hszA
  have HK := Hid.mk' hkA
  have HS := Hid.mk' (h.kept hkA)
  have HT := Hid.mk' (hT.kept hkA)
  have HF := Hid.mk' (hF.kept hkA)
  have n0_ : ∀ w', Kept WA w' none → w'.cell? ⟨w.heap.size + 1, 0, none⟩ = some (.slice a F.groups.length c) := fun w' q => (HBN.out.kept q).c0
  have n1_ : ∀ w', Kept WA w' none → w'.cell? ⟨w.heap.size + 1, 1, none⟩ = some (.int .i64 F.start) := fun w' q => (HBN.out.kept q).c1
  have n2_ : ∀ w', Kept WA w' none → w'.cell? ⟨w.heap.size + 1, 2, none⟩ = some (.bool F.flashed) := fun w' q => (HBN.out.kept q).c2
  have s0_ : ∀ w', Kept WA w' none → w'.cell? ⟨w.heap.size, 0, none⟩ = some (.int .i64 S.id) := fun w' q => (HSB.out.kept q).c0
  have s1_ : ∀ w', Kept WA w' none → w'.cell? ⟨w.heap.size, 1, none⟩ = some (.slice X.g S.groups.length X.gc) := fun w' q => (HSB.out.kept q).c1
  have s2_ : ∀ w', Kept WA w' none → w'.cell? ⟨w.heap.size, 2, none⟩ = some (.slice X.a S.apart.length X.ac) := fun w' q => (HSB.out.kept q).c2
  have s3_ : ∀ w', Kept WA w' none → w'.cell? ⟨w.heap.size, 3, none⟩ = some (.slice X.b S.between.length X.bc) := fun w' q => (HSB.out.kept q).c3
  have s4_ : ∀ w', Kept WA w' none → w'.cell? ⟨w.heap.size, 4, none⟩ = some (.slice X.p S.phases.length X.pc) := fun w' q => (HSB.out.kept q).c4
  have s5_ : ∀ w', Kept WA w' none → w'.cell? ⟨w.heap.size, 5, none⟩ = some (.slice X.e S.eyes.length X.ec) := fun w' q => (HSB.out.kept q).c5
  have s6_ : ∀ w', Kept WA w' none → w'.cell? ⟨w.heap.size, 6, none⟩ = some (.int .i64 S.watch) := fun w' q => (HSB.out.kept q).c6
  have s7_ : ∀ w', Kept WA w' none → w'.cell? ⟨w.heap.size, 7, none⟩ = some (.int .i64 S.feed) := fun w' q => (HSB.out.kept q).c7
  have s8_ : ∀ w', Kept WA w' none → w'.cell? ⟨w.heap.size, 8, none⟩ = some (.int .i64 S.heal) := fun w' q => (HSB.out.kept q).c8
  have s9_ : ∀ w', Kept WA w' none → w'.cell? ⟨w.heap.size, 9, none⟩ = some (.int .i64 S.low) := fun w' q => (HSB.out.kept q).c9
  have s10_ : ∀ w', Kept WA w' none → w'.cell? ⟨w.heap.size, 10, none⟩ = some (.int .i64 S.high) := fun w' q => (HSB.out.kept q).c10
  have s11_ : ∀ w', Kept WA w' none → w'.cell? ⟨w.heap.size, 11, none⟩ = some (.slice X.l S.plans.length X.lc) := fun w' q => (HSB.out.kept q).c11
  have hK0 := Kept.refl WA none
  clear h hT hF k1 k2 hsb bn hkA hszA
  go_enter Tryz.func3, Tryz.ntmps3
  go_wp2_with (rw [hWA])
  go_at_call 4
  refine (rgreat_any (HS.out)).mono ?_
  rintro e wg ⟨gr, rfl, hgr, hkg⟩
  have hKg : Kept WA wg none := hkg
  clear hgr
  cases gr with
  | true =>
    go_wp2
    go_ret
    exact ⟨rfl, (HK.out.tr hKg).below⟩
  | false =>
    go_wp2
    go_ret
    exact ⟨rfl, (HK.out.tr hKg).below⟩
set_option maxRecDepth 100000 in
set_option maxHeartbeats 8000000 in
theorem tgoe_far {X : Sa} {S : St} {w : World} (h : Sat w X S) (hT : Tabb w) {a : Option Addr} {c : Nat} {F : Sf} (hF : SafeAt w a c F) (p : Int) (hl : F.groups.length ≤ 100) (hf : farB S F = true) : Calls Tryz.prog 3 #[siteV X S, safeV a c F, .int .i64 p] w fun e w' => e = .returned (.bool true) ∧ Below w.heap.size w w' := by
  have hlb : decide ((100 : Int) < (F.groups.length : Int)) = false := by simp; omega
  clear hl
  have HFAR := Hid.mk' hf
  clear hf
  have k1 : Kept w (w.alloc (.cells #[.int .i64 S.id, .slice X.g S.groups.length X.gc, .slice X.a S.apart.length X.ac, .slice X.b S.between.length X.bc, .slice X.p S.phases.length X.pc, .slice X.e S.eyes.length X.ec, .int .i64 S.watch, .int .i64 S.feed, .int .i64 S.heal, .int .i64 S.low, .int .i64 S.high, .slice X.l S.plans.length X.lc] 29)) none := Kept.alloc _ _ _ _ _
  have k2 : Kept (w.alloc (.cells #[.int .i64 S.id, .slice X.g S.groups.length X.gc, .slice X.a S.apart.length X.ac, .slice X.b S.between.length X.bc, .slice X.p S.phases.length X.pc, .slice X.e S.eyes.length X.ec, .int .i64 S.watch, .int .i64 S.feed, .int .i64 S.heal, .int .i64 S.low, .int .i64 S.high, .slice X.l S.plans.length X.lc] 29)) ((w.alloc (.cells #[.int .i64 S.id, .slice X.g S.groups.length X.gc, .slice X.a S.apart.length X.ac, .slice X.b S.between.length X.bc, .slice X.p S.phases.length X.pc, .slice X.e S.eyes.length X.ec, .int .i64 S.watch, .int .i64 S.feed, .int .i64 S.heal, .int .i64 S.low, .int .i64 S.high, .slice X.l S.plans.length X.lc] 29)).alloc (.cells #[.slice a F.groups.length c, .int .i64 F.start, .bool F.flashed] 32)) none := Kept.alloc _ _ _ _ _
  have hsb := (sbox_alloc h 29).kept k2
  have bn := box_alloc (w.alloc (.cells #[.int .i64 S.id, .slice X.g S.groups.length X.gc, .slice X.a S.apart.length X.ac, .slice X.b S.between.length X.bc, .slice X.p S.phases.length X.pc, .slice X.e S.eyes.length X.ec, .int .i64 S.watch, .int .i64 S.feed, .int .i64 S.heal, .int .i64 S.low, .int .i64 S.high, .slice X.l S.plans.length X.lc] 29)) (.slice a F.groups.length c) (.int .i64 F.start) (.bool F.flashed) 32
  rw [World.size_alloc] at bn
  have hszA : ((w.alloc (.cells #[.int .i64 S.id, .slice X.g S.groups.length X.gc, .slice X.a S.apart.length X.ac, .slice X.b S.between.length X.bc, .slice X.p S.phases.length X.pc, .slice X.e S.eyes.length X.ec, .int .i64 S.watch, .int .i64 S.feed, .int .i64 S.heal, .int .i64 S.low, .int .i64 S.high, .slice X.l S.plans.length X.lc] 29)).alloc (.cells #[.slice a F.groups.length c, .int .i64 F.start, .bool F.flashed] 32)).heap.size = w.heap.size + 1 + 1 := by simp
  have hkA := k1.tr k2
  obtain ⟨WA, hWA⟩ : ∃ WA, ((w.alloc (.cells #[.int .i64 S.id, .slice X.g S.groups.length X.gc, .slice X.a S.apart.length X.ac, .slice X.b S.between.length X.bc, .slice X.p S.phases.length X.pc, .slice X.e S.eyes.length X.ec, .int .i64 S.watch, .int .i64 S.feed, .int .i64 S.heal, .int .i64 S.low, .int .i64 S.high, .slice X.l S.plans.length X.lc] 29)).alloc (.cells #[.slice a F.groups.length c, .int .i64 F.start, .bool F.flashed] 32)) = WA := ⟨_, rfl⟩
  rw [hWA] at hsb bn hkA hszA
  have HSB := Hid.mk' hsb
  have HBN := Hid.mk' bn
  have HSZ := Hid.mk' hszA
  have HK := Hid.mk' hkA
  have HS := Hid.mk' (h.kept hkA)
  have HT := Hid.mk' (hT.kept hkA)
  have HF := Hid.mk' (hF.kept hkA)
  have n0_ : ∀ w', Kept WA w' none → w'.cell? ⟨w.heap.size + 1, 0, none⟩ = some (.slice a F.groups.length c) := fun w' q => (HBN.out.kept q).c0
  have n1_ : ∀ w', Kept WA w' none → w'.cell? ⟨w.heap.size + 1, 1, none⟩ = some (.int .i64 F.start) := fun w' q => (HBN.out.kept q).c1
  have n2_ : ∀ w', Kept WA w' none → w'.cell? ⟨w.heap.size + 1, 2, none⟩ = some (.bool F.flashed) := fun w' q => (HBN.out.kept q).c2
  have s0_ : ∀ w', Kept WA w' none → w'.cell? ⟨w.heap.size, 0, none⟩ = some (.int .i64 S.id) := fun w' q => (HSB.out.kept q).c0
  have s1_ : ∀ w', Kept WA w' none → w'.cell? ⟨w.heap.size, 1, none⟩ = some (.slice X.g S.groups.length X.gc) := fun w' q => (HSB.out.kept q).c1
  have s2_ : ∀ w', Kept WA w' none → w'.cell? ⟨w.heap.size, 2, none⟩ = some (.slice X.a S.apart.length X.ac) := fun w' q => (HSB.out.kept q).c2
  have s3_ : ∀ w', Kept WA w' none → w'.cell? ⟨w.heap.size, 3, none⟩ = some (.slice X.b S.between.length X.bc) := fun w' q => (HSB.out.kept q).c3
  have s4_ : ∀ w', Kept WA w' none → w'.cell? ⟨w.heap.size, 4, none⟩ = some (.slice X.p S.phases.length X.pc) := fun w' q => (HSB.out.kept q).c4
  have s5_ : ∀ w', Kept WA w' none → w'.cell? ⟨w.heap.size, 5, none⟩ = some (.slice X.e S.eyes.length X.ec) := fun w' q => (HSB.out.kept q).c5
  have s6_ : ∀ w', Kept WA w' none → w'.cell? ⟨w.heap.size, 6, none⟩ = some (.int .i64 S.watch) := fun w' q => (HSB.out.kept q).c6
  have s7_ : ∀ w', Kept WA w' none → w'.cell? ⟨w.heap.size, 7, none⟩ = some (.int .i64 S.feed) := fun w' q => (HSB.out.kept q).c7
  have s8_ : ∀ w', Kept WA w' none → w'.cell? ⟨w.heap.size, 8, none⟩ = some (.int .i64 S.heal) := fun w' q => (HSB.out.kept q).c8
  have s9_ : ∀ w', Kept WA w' none → w'.cell? ⟨w.heap.size, 9, none⟩ = some (.int .i64 S.low) := fun w' q => (HSB.out.kept q).c9
  have s10_ : ∀ w', Kept WA w' none → w'.cell? ⟨w.heap.size, 10, none⟩ = some (.int .i64 S.high) := fun w' q => (HSB.out.kept q).c10
  have s11_ : ∀ w', Kept WA w' none → w'.cell? ⟨w.heap.size, 11, none⟩ = some (.slice X.l S.plans.length X.lc) := fun w' q => (HSB.out.kept q).c11
  have hK0 := Kept.refl WA none
  clear h hT hF k1 k2 hsb bn hkA hszA
  go_enter Tryz.func3, Tryz.ntmps3
  go_wp2_with (rw [hWA])
  go_at_call 4
  refine (rgreat_any (HS.out)).mono ?_
  rintro e wg ⟨gr, rfl, hgr, hkg⟩
  have hKg : Kept WA wg none := hkg
  clear hgr
  cases gr with
  | true =>
    go_wp2
    go_ret
    exact ⟨rfl, (HK.out.tr hKg).below⟩
  | false =>
    go_wp2_with (first | (have hgo := hKg; clear hgo; go_at_call 5; have hx := far_any (HS.out.kept hKg) (HF.out.kept hKg); rw [HFAR.out] at hx; refine hx.mono ?_; rintro e wf ⟨rfl, hkf⟩; have hKf : Kept WA wf none := hKg.tr hkf; clear hx))
    go_ret
    exact ⟨rfl, (HK.out.tr hKf).below⟩
set_option maxRecDepth 100000 in
set_option maxHeartbeats 8000000 in
theorem tgoe_go {X : Sa} {S : St} {w : World} (h : Sat w X S) (hT : Tabb w) {a : Option Addr} {c : Nat} {F : Sf} (hF : SafeAt w a c F) (p : Int) (hl : F.groups.length ≤ 100) (hf : farB S F = false) : Calls Tryz.prog 3 #[siteV X S, safeV a c F, .int .i64 p] w fun e w' => e = .returned (.bool true) ∧ Below w.heap.size w w' := by
  have hlb : decide ((100 : Int) < (F.groups.length : Int)) = false := by simp; omega
  have HFAR := Hid.mk' hf
  clear hf
  have k1 : Kept w (w.alloc (.cells #[.int .i64 S.id, .slice X.g S.groups.length X.gc, .slice X.a S.apart.length X.ac, .slice X.b S.between.length X.bc, .slice X.p S.phases.length X.pc, .slice X.e S.eyes.length X.ec, .int .i64 S.watch, .int .i64 S.feed, .int .i64 S.heal, .int .i64 S.low, .int .i64 S.high, .slice X.l S.plans.length X.lc] 29)) none := Kept.alloc _ _ _ _ _
  have k2 : Kept (w.alloc (.cells #[.int .i64 S.id, .slice X.g S.groups.length X.gc, .slice X.a S.apart.length X.ac, .slice X.b S.between.length X.bc, .slice X.p S.phases.length X.pc, .slice X.e S.eyes.length X.ec, .int .i64 S.watch, .int .i64 S.feed, .int .i64 S.heal, .int .i64 S.low, .int .i64 S.high, .slice X.l S.plans.length X.lc] 29)) ((w.alloc (.cells #[.int .i64 S.id, .slice X.g S.groups.length X.gc, .slice X.a S.apart.length X.ac, .slice X.b S.between.length X.bc, .slice X.p S.phases.length X.pc, .slice X.e S.eyes.length X.ec, .int .i64 S.watch, .int .i64 S.feed, .int .i64 S.heal, .int .i64 S.low, .int .i64 S.high, .slice X.l S.plans.length X.lc] 29)).alloc (.cells #[.slice a F.groups.length c, .int .i64 F.start, .bool F.flashed] 32)) none := Kept.alloc _ _ _ _ _
  have hsb := (sbox_alloc h 29).kept k2
  have bn := box_alloc (w.alloc (.cells #[.int .i64 S.id, .slice X.g S.groups.length X.gc, .slice X.a S.apart.length X.ac, .slice X.b S.between.length X.bc, .slice X.p S.phases.length X.pc, .slice X.e S.eyes.length X.ec, .int .i64 S.watch, .int .i64 S.feed, .int .i64 S.heal, .int .i64 S.low, .int .i64 S.high, .slice X.l S.plans.length X.lc] 29)) (.slice a F.groups.length c) (.int .i64 F.start) (.bool F.flashed) 32
  rw [World.size_alloc] at bn
  have hszA : ((w.alloc (.cells #[.int .i64 S.id, .slice X.g S.groups.length X.gc, .slice X.a S.apart.length X.ac, .slice X.b S.between.length X.bc, .slice X.p S.phases.length X.pc, .slice X.e S.eyes.length X.ec, .int .i64 S.watch, .int .i64 S.feed, .int .i64 S.heal, .int .i64 S.low, .int .i64 S.high, .slice X.l S.plans.length X.lc] 29)).alloc (.cells #[.slice a F.groups.length c, .int .i64 F.start, .bool F.flashed] 32)).heap.size = w.heap.size + 1 + 1 := by simp
  have hkA := k1.tr k2
  obtain ⟨WA, hWA⟩ : ∃ WA, ((w.alloc (.cells #[.int .i64 S.id, .slice X.g S.groups.length X.gc, .slice X.a S.apart.length X.ac, .slice X.b S.between.length X.bc, .slice X.p S.phases.length X.pc, .slice X.e S.eyes.length X.ec, .int .i64 S.watch, .int .i64 S.feed, .int .i64 S.heal, .int .i64 S.low, .int .i64 S.high, .slice X.l S.plans.length X.lc] 29)).alloc (.cells #[.slice a F.groups.length c, .int .i64 F.start, .bool F.flashed] 32)) = WA := ⟨_, rfl⟩
  rw [hWA] at hsb bn hkA hszA
  have HSB := Hid.mk' hsb
  have HBN := Hid.mk' bn
  have HSZ := Hid.mk' hszA
  have HK := Hid.mk' hkA
  have HS := Hid.mk' (h.kept hkA)
  have HT := Hid.mk' (hT.kept hkA)
  have HF := Hid.mk' (hF.kept hkA)
  have n0_ : ∀ w', Kept WA w' none → w'.cell? ⟨w.heap.size + 1, 0, none⟩ = some (.slice a F.groups.length c) := fun w' q => (HBN.out.kept q).c0
  have n1_ : ∀ w', Kept WA w' none → w'.cell? ⟨w.heap.size + 1, 1, none⟩ = some (.int .i64 F.start) := fun w' q => (HBN.out.kept q).c1
  have n2_ : ∀ w', Kept WA w' none → w'.cell? ⟨w.heap.size + 1, 2, none⟩ = some (.bool F.flashed) := fun w' q => (HBN.out.kept q).c2
  have s0_ : ∀ w', Kept WA w' none → w'.cell? ⟨w.heap.size, 0, none⟩ = some (.int .i64 S.id) := fun w' q => (HSB.out.kept q).c0
  have s1_ : ∀ w', Kept WA w' none → w'.cell? ⟨w.heap.size, 1, none⟩ = some (.slice X.g S.groups.length X.gc) := fun w' q => (HSB.out.kept q).c1
  have s2_ : ∀ w', Kept WA w' none → w'.cell? ⟨w.heap.size, 2, none⟩ = some (.slice X.a S.apart.length X.ac) := fun w' q => (HSB.out.kept q).c2
  have s3_ : ∀ w', Kept WA w' none → w'.cell? ⟨w.heap.size, 3, none⟩ = some (.slice X.b S.between.length X.bc) := fun w' q => (HSB.out.kept q).c3
  have s4_ : ∀ w', Kept WA w' none → w'.cell? ⟨w.heap.size, 4, none⟩ = some (.slice X.p S.phases.length X.pc) := fun w' q => (HSB.out.kept q).c4
  have s5_ : ∀ w', Kept WA w' none → w'.cell? ⟨w.heap.size, 5, none⟩ = some (.slice X.e S.eyes.length X.ec) := fun w' q => (HSB.out.kept q).c5
  have s6_ : ∀ w', Kept WA w' none → w'.cell? ⟨w.heap.size, 6, none⟩ = some (.int .i64 S.watch) := fun w' q => (HSB.out.kept q).c6
  have s7_ : ∀ w', Kept WA w' none → w'.cell? ⟨w.heap.size, 7, none⟩ = some (.int .i64 S.feed) := fun w' q => (HSB.out.kept q).c7
  have s8_ : ∀ w', Kept WA w' none → w'.cell? ⟨w.heap.size, 8, none⟩ = some (.int .i64 S.heal) := fun w' q => (HSB.out.kept q).c8
  have s9_ : ∀ w', Kept WA w' none → w'.cell? ⟨w.heap.size, 9, none⟩ = some (.int .i64 S.low) := fun w' q => (HSB.out.kept q).c9
  have s10_ : ∀ w', Kept WA w' none → w'.cell? ⟨w.heap.size, 10, none⟩ = some (.int .i64 S.high) := fun w' q => (HSB.out.kept q).c10
  have s11_ : ∀ w', Kept WA w' none → w'.cell? ⟨w.heap.size, 11, none⟩ = some (.slice X.l S.plans.length X.lc) := fun w' q => (HSB.out.kept q).c11
  have hK0 := Kept.refl WA none
  clear h hT hF k1 k2 hsb bn hkA hszA
  go_enter Tryz.func3, Tryz.ntmps3
  go_wp2_with (rw [hWA])
  go_at_call 4
  refine (rgreat_any (HS.out)).mono ?_
  rintro e wg ⟨gr, rfl, hgr, hkg⟩
  have hKg : Kept WA wg none := hkg
  clear hgr
  cases gr with
  | true =>
    go_wp2
    go_ret
    exact ⟨rfl, (HK.out.tr hKg).below⟩
  | false =>
    go_wp2_with (first | rw [hWO] | (have hgo := hO8; clear hgo; go_at_call 15; refine (rsame8_yes (HSO.out.kept hO8) (HF.out.kept (hK0O.tr hO8)) rfl rfl).mono ?_; rintro e w9 ⟨rfl, hk9⟩; have hO9 : Kept WO w9 none := hO8.tr hk9; have hA9 : Kept WA w9 none := hK0O.tr hO9) | (have hgo := hO7; clear hgo; go_at_call 14; refine (rstps_any (HS.out.kept (hK0O.tr hO7)) (HT.out.kept (hK0O.tr hO7)) (HF.out.kept (hK0O.tr hO7)) p hl).mono ?_; rintro e w8 ⟨rfl, hk8⟩; have hO8 : Kept WO w8 none := hO7.tr hk8; have hA8 : Kept WA w8 none := hK0O.tr hO8; have t1 := run_text (hb1.kept (((((((hk2.tr hk3).tr hk4).tr hk5).tr hk6).tr hk7).tr hk8))) c1; have t2 := run_text (hb2.kept ((((((hk3.tr hk4).tr hk5).tr hk6).tr hk7).tr hk8))) c2) | (have hgo := hO6; clear hgo; go_at_call 13; refine (tstps_any (HS.out.kept (hK0O.tr hO6)) (HT.out.kept (hK0O.tr hO6)) (HSO.out.kept hO6) p).mono ?_; rintro e w7 ⟨rfl, hk7⟩; have hO7 : Kept WO w7 none := hO6.tr hk7; have hA7 : Kept WA w7 none := hK0O.tr hO7) | (have hgo := hO5; clear hgo; go_at_call 12; refine (rwor_any (HS.out.kept (hK0O.tr hO5))).mono ?_; rintro e w6 ⟨rfl, hk6⟩; have hO6 : Kept WO w6 none := hO5.tr hk6; have hA6 : Kept WA w6 none := hK0O.tr hO6) | (have hgo := hO4; clear hgo; go_at_call 11; refine (twor_any (HS.out.kept (hK0O.tr hO4)) (HT.out.kept (hK0O.tr hO4))).mono ?_; rintro e w5 ⟨rfl, hk5⟩; have hO5 : Kept WO w5 none := hO4.tr hk5; have hA5 : Kept WA w5 none := hK0O.tr hO5) | (have hgo := hO3; clear hgo; go_at_call 10; refine (rfull_any (HS.out.kept (hK0O.tr hO3)) (HF.out.kept (hK0O.tr hO3)) p).mono ?_; rintro e w4 ⟨rfl, hk4⟩; have hO4 : Kept WO w4 none := hO3.tr hk4; have hA4 : Kept WA w4 none := hK0O.tr hO4) | (have hgo := hO2; clear hgo; go_at_call 9; refine (tfull_any (HS.out.kept (hK0O.tr hO2)) (HT.out.kept (hK0O.tr hO2)) (HSO.out.kept hO2) p).mono ?_; rintro e w3 ⟨rfl, hk3⟩; have hO3 : Kept WO w3 none := hO2.tr hk3; have hA3 : Kept WA w3 none := hK0O.tr hO3) | (have hgo := hO1; clear hgo; go_at_call 8; refine (rasks_any (HS.out.kept (hK0O.tr hO1)) p).mono ?_; rintro e w2 ⟨a2, c2, rfl, hb2, hk2⟩; have hO2 : Kept WO w2 none := hO1.tr hk2; have hA2 : Kept WA w2 none := hK0O.tr hO2) | (have hgo := hO0; clear hgo; go_at_call 7; refine (tasks_any (HS.out.kept (hK0O.tr hO0)) (HT.out.kept (hK0O.tr hO0)) p).mono ?_; rintro e w1 ⟨a1, c1, rfl, hb1, hk1⟩; have hO1 : Kept WO w1 none := hO0.tr hk1; have hA1 : Kept WA w1 none := hK0O.tr hO1) | (have hgo := hKf; clear hgo; go_at_call 6; refine (rtwin_any (HF.out.kept hKf) (by omega)).mono ?_; rintro e wt ⟨aO, cO, rfl, hsO, hnO, hkt⟩; have kO : Kept wt (wt.alloc (.cells #[.slice aO F.groups.length cO, .int .i64 F.start, .bool F.flashed] 32)) none := Kept.alloc _ _ _ _ _; have bO := box_alloc wt (.slice aO F.groups.length cO) (.int .i64 F.start) (.bool F.flashed) 32; obtain ⟨WO, hWO⟩ : ∃ WO, wt.alloc (.cells #[.slice aO F.groups.length cO, .int .i64 F.start, .bool F.flashed] 32) = WO := ⟨_, rfl⟩; rw [hWO] at kO bO; have hK0O : Kept WA WO none := (hKf.tr hkt).tr kO; have hO0 := Kept.refl WO none; have HSO := Hid.mk' (hsO.kept kO); have HBO := Hid.mk' bO; have o0_ : ∀ w', Kept WO w' none → w'.cell? ⟨wt.heap.size, 0, none⟩ = some (.slice aO F.groups.length cO) := fun w' q => (HBO.out.kept q).c0; have o1_ : ∀ w', Kept WO w' none → w'.cell? ⟨wt.heap.size, 1, none⟩ = some (.int .i64 F.start) := fun w' q => (HBO.out.kept q).c1; have o2_ : ∀ w', Kept WO w' none → w'.cell? ⟨wt.heap.size, 2, none⟩ = some (.bool F.flashed) := fun w' q => (HBO.out.kept q).c2; clear hsO hnO kO bO hkt) | (have hgo := hKg; clear hgo; go_at_call 5; have hx := far_any (HS.out.kept hKg) (HF.out.kept hKg); rw [HFAR.out] at hx; refine hx.mono ?_; rintro e wf ⟨rfl, hkf⟩; have hKf : Kept WA wf none := hKg.tr hkf; clear hx))
    go_ret
    exact ⟨by simp, (HK.out.tr hA9).below⟩

theorem tgoes_any {X : Sa} {S : St} {w : World} (h : Sat w X S) (hT : Tabb w) {a : Option Addr} {c : Nat} {F : Sf} (hF : SafeAt w a c F) (p : Int) : Calls Tryz.prog 3 #[siteV X S, safeV a c F, .int .i64 p] w fun e w' => e = .returned (.bool true) ∧ Below w.heap.size w w' := by
  by_cases hl : F.groups.length ≤ 100
  · cases hf : farB S F with
    | true => exact tgoe_far h hT hF p hl hf
    | false => exact tgoe_go h hT hF p hl hf
  · exact tgoe_long h hT hF p (by omega)

end Go.Proofs.YtchjbagipbmcoaaGreatDoor

