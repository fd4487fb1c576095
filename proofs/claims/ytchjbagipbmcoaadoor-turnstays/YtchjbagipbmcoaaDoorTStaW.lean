/-
  THE WALK of TurnStays (made by a program).
-/
import Derived.Test.YtchjbagipbmcoaaDoorTEndW
import Derived.Test.YtchjbagipbmcoaaDoorTurB
namespace Go.Proofs.YtchjbagipbmcoaaDoor
open Go.RowKit Go.Lib Go.Deep
set_option linter.unusedVariables false
set_option linter.unusedSimpArgs false

set_option maxRecDepth 100000 in
set_option maxHeartbeats 2000000 in
theorem tsta_long {X : Sa} {S : St} {w : World} (h : Sat w X S) (hT : Tabb w) {a : Option Addr} {c : Nat} {F : Sf} (hF : SafeAt w a c F) (p : Int) (m : Nat) (hm : m < 256) (hl : 100 < F.groups.length) : Calls Tryd.prog 5 #[siteV X S, safeV a c F, .int .i64 p, .int .u8 (m : Int)] w fun e w' => e = .returned (.bool true) ∧ Below w.heap.size w w' := by
  have hlb : decide ((100 : Int) < (F.groups.length : Int)) = true := by simp; omega
  clear hl
  have k1 : Kept w (w.alloc (.cells #[.int .i64 S.id, .slice X.g S.groups.length X.gc, .slice X.a S.apart.length X.ac, .slice X.b S.between.length X.bc, .slice X.p S.phases.length X.pc, .slice X.e S.eyes.length X.ec, .int .i64 S.watch, .int .i64 S.feed, .int .i64 S.heal, .int .i64 S.low, .int .i64 S.high, .slice X.l S.plans.length X.lc] 33)) none := Kept.alloc _ _ _ _ _
  have k2 : Kept (w.alloc (.cells #[.int .i64 S.id, .slice X.g S.groups.length X.gc, .slice X.a S.apart.length X.ac, .slice X.b S.between.length X.bc, .slice X.p S.phases.length X.pc, .slice X.e S.eyes.length X.ec, .int .i64 S.watch, .int .i64 S.feed, .int .i64 S.heal, .int .i64 S.low, .int .i64 S.high, .slice X.l S.plans.length X.lc] 33)) ((w.alloc (.cells #[.int .i64 S.id, .slice X.g S.groups.length X.gc, .slice X.a S.apart.length X.ac, .slice X.b S.between.length X.bc, .slice X.p S.phases.length X.pc, .slice X.e S.eyes.length X.ec, .int .i64 S.watch, .int .i64 S.feed, .int .i64 S.heal, .int .i64 S.low, .int .i64 S.high, .slice X.l S.plans.length X.lc] 33)).alloc (.cells #[.slice a F.groups.length c, .int .i64 F.start, .bool F.flashed] 39)) none := Kept.alloc _ _ _ _ _
  have hsb := (sbox_alloc h 33).kept k2
  have bn := box_alloc (w.alloc (.cells #[.int .i64 S.id, .slice X.g S.groups.length X.gc, .slice X.a S.apart.length X.ac, .slice X.b S.between.length X.bc, .slice X.p S.phases.length X.pc, .slice X.e S.eyes.length X.ec, .int .i64 S.watch, .int .i64 S.feed, .int .i64 S.heal, .int .i64 S.low, .int .i64 S.high, .slice X.l S.plans.length X.lc] 33)) (.slice a F.groups.length c) (.int .i64 F.start) (.bool F.flashed) 39
  rw [World.size_alloc] at bn
  have hszA : ((w.alloc (.cells #[.int .i64 S.id, .slice X.g S.groups.length X.gc, .slice X.a S.apart.length X.ac, .slice X.b S.between.length X.bc, .slice X.p S.phases.length X.pc, .slice X.e S.eyes.length X.ec, .int .i64 S.watch, .int .i64 S.feed, .int .i64 S.heal, .int .i64 S.low, .int .i64 S.high, .slice X.l S.plans.length X.lc] 33)).alloc (.cells #[.slice a F.groups.length c, .int .i64 F.start, .bool F.flashed] 39)).heap.size = w.heap.size + 1 + 1 := by simp
  have hkA := k1.tr k2
  obtain ⟨WA, hWA⟩ : ∃ WA, ((w.alloc (.cells #[.int .i64 S.id, .slice X.g S.groups.length X.gc, .slice X.a S.apart.length X.ac, .slice X.b S.between.length X.bc, .slice X.p S.phases.length X.pc, .slice X.e S.eyes.length X.ec, .int .i64 S.watch, .int .i64 S.feed, .int .i64 S.heal, .int .i64 S.low, .int .i64 S.high, .slice X.l S.plans.length X.lc] 33)).alloc (.cells #[.slice a F.groups.length c, .int .i64 F.start, .bool F.flashed] 39)) = WA := ⟨_, rfl⟩
  rw [hWA] at hsb bn hkA hszA
  have HSB := Hid.mk' hsb
  have HBN := Hid.mk' bn
  have HSZ := Hid.mk' hszA
  have HK := Hid.mk' hkA
  have HS := Hid.mk' (h.kept hkA)
  have HT := Hid.mk' (hT.kept hkA)
  have HF := Hid.mk' (hF.kept hkA)
  have n0_ : ∀ w', Kept WA w' none → w'.cell? ⟨w.heap.size + 1, 0, none⟩ = some (.slice a F.groups.length c) := fun w' q => (HBN.out.kept q).c0
  have n1_ : ∀ w', Kept WA w' none → w'.cell? ⟨w.heap.size + 1, 1, none⟩ = some (.int .i64 F.start) := fun w' q => (HBN.out.kept q).c1
  have n2_ : ∀ w', Kept WA w' none → w'.cell? ⟨w.heap.size + 1, 2, none⟩ = some (.bool F.flashed) := fun w' q => (HBN.out.kept q).c2
  have s0_ : ∀ w', Kept WA w' none → w'.cell? ⟨w.heap.size, 0, none⟩ = some (.int .i64 S.id) := fun w' q => (HSB.out.kept q).c0
  have s1_ : ∀ w', Kept WA w' none → w'.cell? ⟨w.heap.size, 1, none⟩ = some (.slice X.g S.groups.length X.gc) := fun w' q => (HSB.out.kept q).c1
  have s2_ : ∀ w', Kept WA w' none → w'.cell? ⟨w.heap.size, 2, none⟩ = some (.slice X.a S.apart.length X.ac) := fun w' q => (HSB.out.kept q).c2
  have s3_ : ∀ w', Kept WA w' none → w'.cell? ⟨w.heap.size, 3, none⟩ = some (.slice X.b S.between.length X.bc) := fun w' q => (HSB.out.kept q).c3
  have s4_ : ∀ w', Kept WA w' none → w'.cell? ⟨w.heap.size, 4, none⟩ = some (.slice X.p S.phases.length X.pc) := fun w' q => (HSB.out.kept q).c4
  have s5_ : ∀ w', Kept WA w' none → w'.cell? ⟨w.heap.size, 5, none⟩ = some (.slice X.e S.eyes.length X.ec) := fun w' q => (HSB.out.kept q).c5
  have s6_ : ∀ w', Kept WA w' none → w'.cell? ⟨w.heap.size, 6, none⟩ = some (.int .i64 S.watch) := fun w' q => (HSB.out.kept q).c6
  have s7_ : ∀ w', Kept WA w' none → w'.cell? ⟨w.heap.size, 7, none⟩ = some (.int .i64 S.feed) := fun w' q => (HSB.out.kept q).c7
  have s8_ : ∀ w', Kept WA w' none → w'.cell? ⟨w.heap.size, 8, none⟩ = some (.int .i64 S.heal) := fun w' q => (HSB.out.kept q).c8
  have s9_ : ∀ w', Kept WA w' none → w'.cell? ⟨w.heap.size, 9, none⟩ = some (.int .i64 S.low) := fun w' q => (HSB.out.kept q).c9
  have s10_ : ∀ w', Kept WA w' none → w'.cell? ⟨w.heap.size, 10, none⟩ = some (.int .i64 S.high) := fun w' q => (HSB.out.kept q).c10
  have s11_ : ∀ w', Kept WA w' none → w'.cell? ⟨w.heap.size, 11, none⟩ = some (.slice X.l S.plans.length X.lc) := fun w' q => (HSB.out.kept q).c11
  have hK0 := Kept.refl WA none
  clear h hT hF k1 k2 hsb bn hkA hszA
  go_enter Tryd.func5, Tryd.ntmps5
  go_wp2_with (first | rw [hWA] | (go_at_call 14; refine (talive_any HT.out).mono ?_; rintro e wv ⟨rfl, hkv⟩; have hKv : Kept WA wv none := hkv))
  go_at_call 15
  refine (rgreat_any (HS.out.kept hKv)).mono ?_
  rintro e wg ⟨gr, rfl, hgr, hkg⟩
  have hKg : Kept WA wg none := hKv.tr hkg
  clear hgr
  cases gr with
  | true =>
    go_wp2
    go_ret
    exact ⟨rfl, (HK.out.tr hKg).below⟩
  | false =>
    go_wp2
    go_ret
    exact ⟨rfl, (HK.out.tr hKg).below⟩
set_option maxRecDepth 100000 in
set_option maxHeartbeats 2000000 in
theorem tsta_far {X : Sa} {S : St} {w : World} (h : Sat w X S) (hT : Tabb w) {a : Option Addr} {c : Nat} {F : Sf} (hF : SafeAt w a c F) (p : Int) (m : Nat) (hm : m < 256) (hl : F.groups.length ≤ 100) (hf : farB S F = true) : Calls Tryd.prog 5 #[siteV X S, safeV a c F, .int .i64 p, .int .u8 (m : Int)] w fun e w' => e = .returned (.bool true) ∧ Below w.heap.size w w' := by
  have hlb : decide ((100 : Int) < (F.groups.length : Int)) = false := by simp; omega
  clear hl
  have HFAR := Hid.mk' hf
  clear hf
  have k1 : Kept w (w.alloc (.cells #[.int .i64 S.id, .slice X.g S.groups.length X.gc, .slice X.a S.apart.length X.ac, .slice X.b S.between.length X.bc, .slice X.p S.phases.length X.pc, .slice X.e S.eyes.length X.ec, .int .i64 S.watch, .int .i64 S.feed, .int .i64 S.heal, .int .i64 S.low, .int .i64 S.high, .slice X.l S.plans.length X.lc] 33)) none := Kept.alloc _ _ _ _ _
  have k2 : Kept (w.alloc (.cells #[.int .i64 S.id, .slice X.g S.groups.length X.gc, .slice X.a S.apart.length X.ac, .slice X.b S.between.length X.bc, .slice X.p S.phases.length X.pc, .slice X.e S.eyes.length X.ec, .int .i64 S.watch, .int .i64 S.feed, .int .i64 S.heal, .int .i64 S.low, .int .i64 S.high, .slice X.l S.plans.length X.lc] 33)) ((w.alloc (.cells #[.int .i64 S.id, .slice X.g S.groups.length X.gc, .slice X.a S.apart.length X.ac, .slice X.b S.between.length X.bc, .slice X.p S.phases.length X.pc, .slice X.e S.eyes.length X.ec, .int .i64 S.watch, .int .i64 S.feed, .int .i64 S.heal, .int .i64 S.low, .int .i64 S.high, .slice X.l S.plans.length X.lc] 33)).alloc (.cells #[.slice a F.groups.length c, .int .i64 F.start, .bool F.flashed] 39)) none := Kept.alloc _ _ _ _ _
  have hsb := (sbox_alloc h 33).kept k2
  have bn := box_alloc (w.alloc (.cells #[.int .i64 S.id, .slice X.g S.groups.length X.gc, .slice X.a S.apart.length X.ac, .slice X.b S.between.length X.bc, .slice X.p S.phases.length X.pc, .slice X.e S.eyes.length X.ec, .int .i64 S.watch, .int .i64 S.feed, .int .i64 S.heal, .int .i64 S.low, .int .i64 S.high, .slice X.l S.plans.length X.lc] 33)) (.slice a F.groups.length c) (.int .i64 F.start) (.bool F.flashed) 39
  rw [World.size_alloc] at bn
  have hszA : ((w.alloc (.cells #[.int .i64 S.id, .slice X.g S.groups.length X.gc, .slice X.a S.apart.length X.ac, .slice X.b S.between.length X.bc, .slice X.p S.phases.length X.pc, .slice X.e S.eyes.length X.ec, .int .i64 S.watch, .int .i64 S.feed, .int .i64 S.heal, .int .i64 S.low, .int .i64 S.high, .slice X.l S.plans.length X.lc] 33)).alloc (.cells #[.slice a F.groups.length c, .int .i64 F.start, .bool F.flashed] 39)).heap.size = w.heap.size + 1 + 1 := by simp
  have hkA := k1.tr k2
  obtain ⟨WA, hWA⟩ : ∃ WA, ((w.alloc (.cells #[.int .i64 S.id, .slice X.g S.groups.length X.gc, .slice X.a S.apart.length X.ac, .slice X.b S.between.length X.bc, .slice X.p S.phases.length X.pc, .slice X.e S.eyes.length X.ec, .int .i64 S.watch, .int .i64 S.feed, .int .i64 S.heal, .int .i64 S.low, .int .i64 S.high, .slice X.l S.plans.length X.lc] 33)).alloc (.cells #[.slice a F.groups.length c, .int .i64 F.start, .bool F.flashed] 39)) = WA := ⟨_, rfl⟩
  rw [hWA] at hsb bn hkA hszA
  have HSB := Hid.mk' hsb
  have HBN := Hid.mk' bn
  have HSZ := Hid.mk' hszA
  have HK := Hid.mk' hkA
  have HS := Hid.mk' (h.kept hkA)
  have HT := Hid.mk' (hT.kept hkA)
  have HF := Hid.mk' (hF.kept hkA)
  have n0_ : ∀ w', Kept WA w' none → w'.cell? ⟨w.heap.size + 1, 0, none⟩ = some (.slice a F.groups.length c) := fun w' q => (HBN.out.kept q).c0
  have n1_ : ∀ w', Kept WA w' none → w'.cell? ⟨w.heap.size + 1, 1, none⟩ = some (.int .i64 F.start) := fun w' q => (HBN.out.kept q).c1
  have n2_ : ∀ w', Kept WA w' none → w'.cell? ⟨w.heap.size + 1, 2, none⟩ = some (.bool F.flashed) := fun w' q => (HBN.out.kept q).c2
  have s0_ : ∀ w', Kept WA w' none → w'.cell? ⟨w.heap.size, 0, none⟩ = some (.int .i64 S.id) := fun w' q => (HSB.out.kept q).c0
  have s1_ : ∀ w', Kept WA w' none → w'.cell? ⟨w.heap.size, 1, none⟩ = some (.slice X.g S.groups.length X.gc) := fun w' q => (HSB.out.kept q).c1
  have s2_ : ∀ w', Kept WA w' none → w'.cell? ⟨w.heap.size, 2, none⟩ = some (.slice X.a S.apart.length X.ac) := fun w' q => (HSB.out.kept q).c2
  have s3_ : ∀ w', Kept WA w' none → w'.cell? ⟨w.heap.size, 3, none⟩ = some (.slice X.b S.between.length X.bc) := fun w' q => (HSB.out.kept q).c3
  have s4_ : ∀ w', Kept WA w' none → w'.cell? ⟨w.heap.size, 4, none⟩ = some (.slice X.p S.phases.length X.pc) := fun w' q => (HSB.out.kept q).c4
  have s5_ : ∀ w', Kept WA w' none → w'.cell? ⟨w.heap.size, 5, none⟩ = some (.slice X.e S.eyes.length X.ec) := fun w' q => (HSB.out.kept q).c5
  have s6_ : ∀ w', Kept WA w' none → w'.cell? ⟨w.heap.size, 6, none⟩ = some (.int .i64 S.watch) := fun w' q => (HSB.out.kept q).c6
  have s7_ : ∀ w', Kept WA w' none → w'.cell? ⟨w.heap.size, 7, none⟩ = some (.int .i64 S.feed) := fun w' q => (HSB.out.kept q).c7
  have s8_ : ∀ w', Kept WA w' none → w'.cell? ⟨w.heap.size, 8, none⟩ = some (.int .i64 S.heal) := fun w' q => (HSB.out.kept q).c8
  have s9_ : ∀ w', Kept WA w' none → w'.cell? ⟨w.heap.size, 9, none⟩ = some (.int .i64 S.low) := fun w' q => (HSB.out.kept q).c9
  have s10_ : ∀ w', Kept WA w' none → w'.cell? ⟨w.heap.size, 10, none⟩ = some (.int .i64 S.high) := fun w' q => (HSB.out.kept q).c10
  have s11_ : ∀ w', Kept WA w' none → w'.cell? ⟨w.heap.size, 11, none⟩ = some (.slice X.l S.plans.length X.lc) := fun w' q => (HSB.out.kept q).c11
  have hK0 := Kept.refl WA none
  clear h hT hF k1 k2 hsb bn hkA hszA
  go_enter Tryd.func5, Tryd.ntmps5
  go_wp2_with (first | rw [hWA] | (go_at_call 14; refine (talive_any HT.out).mono ?_; rintro e wv ⟨rfl, hkv⟩; have hKv : Kept WA wv none := hkv))
  go_at_call 15
  refine (rgreat_any (HS.out.kept hKv)).mono ?_
  rintro e wg ⟨gr, rfl, hgr, hkg⟩
  have hKg : Kept WA wg none := hKv.tr hkg
  clear hgr
  cases gr with
  | true =>
    go_wp2
    go_ret
    exact ⟨rfl, (HK.out.tr hKg).below⟩
  | false =>
    go_wp2_with (first | (have hgo := hKg; clear hgo; go_at_call 16; have hx := far_any (HS.out.kept hKg) (HF.out.kept hKg); rw [HFAR.out] at hx; refine hx.mono ?_; rintro e wf ⟨rfl, hkf⟩; have hKf : Kept WA wf none := hKg.tr hkf; clear hx))
    go_ret
    exact ⟨rfl, (HK.out.tr hKf).below⟩
set_option maxRecDepth 100000 in
set_option maxHeartbeats 2000000 in
theorem tsta_err {X : Sa} {S : St} {w : World} (h : Sat w X S) (hT : Tabb w) {a : Option Addr} {c : Nat} {F : Sf} (hF : SafeAt w a c F) (p : Int) (m : Nat) (hm : m < 256) (hl : F.groups.length ≤ 100) (hf : farB S F = false) (E : Int) (he : steE S F p = E) (hv : steV S F p = 0) (h0 : E ≠ 0) : Calls Tryd.prog 5 #[siteV X S, safeV a c F, .int .i64 p, .int .u8 (m : Int)] w fun e w' => e = .returned (.bool true) ∧ Below w.heap.size w w' := by
  have hlb : decide ((100 : Int) < (F.groups.length : Int)) = false := by simp; omega
  clear hl
  have HFAR := Hid.mk' hf
  have HE := Hid.mk' he
  have HV := Hid.mk' hv
  clear hf he hv
  have hEb : (E != 0) = true := by simpa using h0
  clear h0
  obtain ⟨aE, haE⟩ : ∃ aE, askE S p = aE := ⟨_, rfl⟩
  obtain ⟨aL, haL⟩ : ∃ aL, (askL S p).length = aL := ⟨_, rfl⟩
  have k1 : Kept w (w.alloc (.cells #[.int .i64 S.id, .slice X.g S.groups.length X.gc, .slice X.a S.apart.length X.ac, .slice X.b S.between.length X.bc, .slice X.p S.phases.length X.pc, .slice X.e S.eyes.length X.ec, .int .i64 S.watch, .int .i64 S.feed, .int .i64 S.heal, .int .i64 S.low, .int .i64 S.high, .slice X.l S.plans.length X.lc] 33)) none := Kept.alloc _ _ _ _ _
  have k2 : Kept (w.alloc (.cells #[.int .i64 S.id, .slice X.g S.groups.length X.gc, .slice X.a S.apart.length X.ac, .slice X.b S.between.length X.bc, .slice X.p S.phases.length X.pc, .slice X.e S.eyes.length X.ec, .int .i64 S.watch, .int .i64 S.feed, .int .i64 S.heal, .int .i64 S.low, .int .i64 S.high, .slice X.l S.plans.length X.lc] 33)) ((w.alloc (.cells #[.int .i64 S.id, .slice X.g S.groups.length X.gc, .slice X.a S.apart.length X.ac, .slice X.b S.between.length X.bc, .slice X.p S.phases.length X.pc, .slice X.e S.eyes.length X.ec, .int .i64 S.watch, .int .i64 S.feed, .int .i64 S.heal, .int .i64 S.low, .int .i64 S.high, .slice X.l S.plans.length X.lc] 33)).alloc (.cells #[.slice a F.groups.length c, .int .i64 F.start, .bool F.flashed] 39)) none := Kept.alloc _ _ _ _ _
  have hsb := (sbox_alloc h 33).kept k2
  have bn := box_alloc (w.alloc (.cells #[.int .i64 S.id, .slice X.g S.groups.length X.gc, .slice X.a S.apart.length X.ac, .slice X.b S.between.length X.bc, .slice X.p S.phases.length X.pc, .slice X.e S.eyes.length X.ec, .int .i64 S.watch, .int .i64 S.feed, .int .i64 S.heal, .int .i64 S.low, .int .i64 S.high, .slice X.l S.plans.length X.lc] 33)) (.slice a F.groups.length c) (.int .i64 F.start) (.bool F.flashed) 39
  rw [World.size_alloc] at bn
  have hszA : ((w.alloc (.cells #[.int .i64 S.id, .slice X.g S.groups.length X.gc, .slice X.a S.apart.length X.ac, .slice X.b S.between.length X.bc, .slice X.p S.phases.length X.pc, .slice X.e S.eyes.length X.ec, .int .i64 S.watch, .int .i64 S.feed, .int .i64 S.heal, .int .i64 S.low, .int .i64 S.high, .slice X.l S.plans.length X.lc] 33)).alloc (.cells #[.slice a F.groups.length c, .int .i64 F.start, .bool F.flashed] 39)).heap.size = w.heap.size + 1 + 1 := by simp
  have hkA := k1.tr k2
  obtain ⟨WA, hWA⟩ : ∃ WA, ((w.alloc (.cells #[.int .i64 S.id, .slice X.g S.groups.length X.gc, .slice X.a S.apart.length X.ac, .slice X.b S.between.length X.bc, .slice X.p S.phases.length X.pc, .slice X.e S.eyes.length X.ec, .int .i64 S.watch, .int .i64 S.feed, .int .i64 S.heal, .int .i64 S.low, .int .i64 S.high, .slice X.l S.plans.length X.lc] 33)).alloc (.cells #[.slice a F.groups.length c, .int .i64 F.start, .bool F.flashed] 39)) = WA := ⟨_, rfl⟩
  rw [hWA] at hsb bn hkA hszA
  have HSB := Hid.mk' hsb
  have HBN := Hid.mk' bn
  have HSZ := Hid.mk' hszA
  have HK := Hid.mk' hkA
  have HS := Hid.mk' (h.kept hkA)
  have HT := Hid.mk' (hT.kept hkA)
  have HF := Hid.mk' (hF.kept hkA)
  have n0_ : ∀ w', Kept WA w' none → w'.cell? ⟨w.heap.size + 1, 0, none⟩ = some (.slice a F.groups.length c) := fun w' q => (HBN.out.kept q).c0
  have n1_ : ∀ w', Kept WA w' none → w'.cell? ⟨w.heap.size + 1, 1, none⟩ = some (.int .i64 F.start) := fun w' q => (HBN.out.kept q).c1
  have n2_ : ∀ w', Kept WA w' none → w'.cell? ⟨w.heap.size + 1, 2, none⟩ = some (.bool F.flashed) := fun w' q => (HBN.out.kept q).c2
  have s0_ : ∀ w', Kept WA w' none → w'.cell? ⟨w.heap.size, 0, none⟩ = some (.int .i64 S.id) := fun w' q => (HSB.out.kept q).c0
  have s1_ : ∀ w', Kept WA w' none → w'.cell? ⟨w.heap.size, 1, none⟩ = some (.slice X.g S.groups.length X.gc) := fun w' q => (HSB.out.kept q).c1
  have s2_ : ∀ w', Kept WA w' none → w'.cell? ⟨w.heap.size, 2, none⟩ = some (.slice X.a S.apart.length X.ac) := fun w' q => (HSB.out.kept q).c2
  have s3_ : ∀ w', Kept WA w' none → w'.cell? ⟨w.heap.size, 3, none⟩ = some (.slice X.b S.between.length X.bc) := fun w' q => (HSB.out.kept q).c3
  have s4_ : ∀ w', Kept WA w' none → w'.cell? ⟨w.heap.size, 4, none⟩ = some (.slice X.p S.phases.length X.pc) := fun w' q => (HSB.out.kept q).c4
  have s5_ : ∀ w', Kept WA w' none → w'.cell? ⟨w.heap.size, 5, none⟩ = some (.slice X.e S.eyes.length X.ec) := fun w' q => (HSB.out.kept q).c5
  have s6_ : ∀ w', Kept WA w' none → w'.cell? ⟨w.heap.size, 6, none⟩ = some (.int .i64 S.watch) := fun w' q => (HSB.out.kept q).c6
  have s7_ : ∀ w', Kept WA w' none → w'.cell? ⟨w.heap.size, 7, none⟩ = some (.int .i64 S.feed) := fun w' q => (HSB.out.kept q).c7
  have s8_ : ∀ w', Kept WA w' none → w'.cell? ⟨w.heap.size, 8, none⟩ = some (.int .i64 S.heal) := fun w' q => (HSB.out.kept q).c8
  have s9_ : ∀ w', Kept WA w' none → w'.cell? ⟨w.heap.size, 9, none⟩ = some (.int .i64 S.low) := fun w' q => (HSB.out.kept q).c9
  have s10_ : ∀ w', Kept WA w' none → w'.cell? ⟨w.heap.size, 10, none⟩ = some (.int .i64 S.high) := fun w' q => (HSB.out.kept q).c10
  have s11_ : ∀ w', Kept WA w' none → w'.cell? ⟨w.heap.size, 11, none⟩ = some (.slice X.l S.plans.length X.lc) := fun w' q => (HSB.out.kept q).c11
  have hK0 := Kept.refl WA none
  clear h hT hF k1 k2 hsb bn hkA hszA
  go_enter Tryd.func5, Tryd.ntmps5
  go_wp2_with (first | rw [hWA] | (go_at_call 14; refine (talive_any HT.out).mono ?_; rintro e wv ⟨rfl, hkv⟩; have hKv : Kept WA wv none := hkv))
  go_at_call 15
  refine (rgreat_any (HS.out.kept hKv)).mono ?_
  rintro e wg ⟨gr, rfl, hgr, hkg⟩
  have hKg : Kept WA wg none := hKv.tr hkg
  clear hgr
  cases gr with
  | true =>
    go_wp2
    go_ret
    exact ⟨rfl, (HK.out.tr hKg).below⟩
  | false =>
    go_wp2_with (first | (have hgo := hKp; clear hgo; go_at_call 6; refine (tasks_any (HS.out.kept hKp) (HT.out.kept hKp) p).mono ?_; rintro e wq ⟨aq, cq, rfl, hbq, hkq⟩; have hKq : Kept WA wq none := hKp.tr hkq; clear hbq) | (have hgo := hKf; clear hgo; go_at_call 12; have hx := tstps_any (HS.out.kept hKf) (HT.out.kept hKf) (HF.out.kept hKf) p; rw [HE.out, HV.out] at hx; refine hx.mono ?_; rintro e wp ⟨rfl, hkp⟩; have hKp : Kept WA wp none := hKf.tr hkp; clear hx) | (have hgo := hKg; clear hgo; go_at_call 16; have hx := far_any (HS.out.kept hKg) (HF.out.kept hKg); rw [HFAR.out] at hx; refine hx.mono ?_; rintro e wf ⟨rfl, hkf⟩; have hKf : Kept WA wf none := hKg.tr hkf; clear hx))
    go_ret
    exact ⟨rfl, (HK.out.tr hKq).below⟩

/-- What the ticks go by. -/
structure Ts (w wr : World) (X : Sa) (S : St) (p bs bn bl : Nat) (G : Sf) : Prop where
  kp : Kept w wr none
  sb : Sbox wr bs X S
  bx : ∃ ag cg, Box wr bn (.slice ag S.groups.length cg) (.int .i64 G.start) (.bool G.flashed) ∧ SafeAt wr ag cg G ∧ ∀ b, ag = some b → b.block ≠ bn
  row : wr.rowIs bl 5 S.groups.length (fun i => .int .u8 ((lg (askV S p) i : Nat) : Int))
structure Tf (w : World) (bs bn bl : Nat) : Prop where
  s : bs ≠ bn
  l : bl ≠ bn
  n : w.heap.size ≤ bn
theorem Lie.keptT {w w' : World} {r : Option Nat} {a : Option Addr} {n k : Nat} {f : Nat → Nat → Value} (h : Lie w a n k f) (q : Kept w w' r) (hr : 0 < n → ∀ x, a = some x → some x.block ≠ r) : Lie w' a n k f :=
  ⟨fun hp => by
    obtain ⟨b, off, e, hb, hc⟩ := h.at_ hp
    exact ⟨b, off, e, Nat.lt_of_lt_of_le hb q.size, fun i hi j hj => cell_keptS (hc i hi j hj) q (hr hp _ e)⟩⟩
theorem Ts.step {w wr w7 : World} {X : Sa} {S : St} {p bs bn bl b2 : Nat} {G G' : Sf} (h : Ts w wr X S p bs bn bl G) (d : Tf w bs bn bl) (h0 : Sat w X S) (k : Kept wr w7 none) (hs2 : SafeAt w7 (some ⟨b2, 0, none⟩) S.groups.length G') (hb2 : wr.heap.size ≤ b2) : Ts w (((w7.setCell ⟨bn, 0, none⟩ (.slice (some ⟨b2, 0, none⟩) S.groups.length S.groups.length)).setCell ⟨bn, 1, none⟩ (.int .i64 G'.start)).setCell ⟨bn, 2, none⟩ (.bool G'.flashed)) X S p bs bn bl G' := by
  obtain ⟨ag, cg, hb, hs, hne⟩ := h.bx
  have kn : Kept wr (((w7.setCell ⟨bn, 0, none⟩ (.slice (some ⟨b2, 0, none⟩) S.groups.length S.groups.length)).setCell ⟨bn, 1, none⟩ (.int .i64 G'.start)).setCell ⟨bn, 2, none⟩ (.bool G'.flashed)) (some bn) := (((k.weakS (some bn)).setRow _ _).setRow _ _).setRow _ _
  have kw := (((h.kp.tr k).setNew (p := ⟨bn, 0, none⟩) d.n (.slice (some ⟨b2, 0, none⟩) S.groups.length S.groups.length)).setNew (p := ⟨bn, 1, none⟩) d.n (.int .i64 G'.start)).setNew (p := ⟨bn, 2, none⟩) d.n (.bool G'.flashed)
  have k7 : Kept w7 (((w7.setCell ⟨bn, 0, none⟩ (.slice (some ⟨b2, 0, none⟩) S.groups.length S.groups.length)).setCell ⟨bn, 1, none⟩ (.int .i64 G'.start)).setCell ⟨bn, 2, none⟩ (.bool G'.flashed)) (some bn) := (((Kept.refl w7 (some bn)).setRow _ _).setRow _ _).setRow _ _
  have h2 : b2 ≠ bn := by have := hb.lt; omega
  refine ⟨kw, Sbox.oth h0 h.sb kw kn d.s, ⟨some ⟨b2, 0, none⟩, S.groups.length, (hb.kept k).set3t _ _ _, ?_, fun b e => by injection e with e; subst e; exact h2⟩, row_kept h.row kn (fun e => d.l (Option.some.inj e))⟩
  exact ⟨hs2.lie.keptT k7 (fun _ x e => by injection e with e; subst e; exact fun e => h2 (Option.some.inj e)), hs2.cap, hs2.rng⟩

theorem tadm_at {X : Sa} {S : St} {w : World} {p bl : Nat} {ag : Option Addr} {cg : Nat} {G : Sf} (h : Sat w X S) (hT : Tabb w) (hsf : SafeAt w ag cg G) (hrow : w.rowIs bl 5 S.groups.length (fun i => .int .u8 ((lg (askV S p) i : Nat) : Int))) (hs : siteB S = true) (hg : goesV S G = true) : Calls Tryd.prog 10 #[siteV X S, (.agg #[.slice ag S.groups.length cg, .int .i64 G.start, .bool G.flashed]), .slice (some ⟨bl, 0, none⟩) S.groups.length S.groups.length] w fun e w2 => ∃ b, e = .returned (.tuple #[.slice (some ⟨b, 0, none⟩) S.groups.length S.groups.length, .int .i64 0]) ∧ By w2 (some ⟨b, 0, none⟩) S.groups.length (letV S G (askV S p)) ∧ Kept w w2 none := by
  have hng := (span_may hs).base.sh.ok.ng
  have hz : goesE S G = 0 := by unfold goesE; rw [hs, hg]; rfl
  have hfn := (mayS_parts (goes_parts hg).1).1
  have hx := gadmit_go (cl := S.groups.length) h hT hsf (By.row hrow (askV S p) S.groups.length (Nat.le_refl _) (askV_len S p) (by omega) (askV_ltt S p) (fun i hi => rfl)) hz rfl
  rw [safeV, hfn] at hx
  refine hx.mono ?_
  rintro e w2 ⟨b, rfl, h1, h2, h3⟩
  exact ⟨b, rfl, By.row h2 _ S.groups.length (Nat.le_refl _) ((letV_len S G _).trans (askV_len S p)) (by omega) (letV_ltt _ _ _) (fun i hi => by rw [show (letV S G (askV S p)).getD i 0 = lg (letV S G (askV S p)) i from rfl, letV_lg (by rw [askV_len]; exact hi)]), h3⟩
theorem tnxt_at {X : Sa} {S : St} {w : World} {p b : Nat} {ag : Option Addr} {cg : Nat} {G : Sf} (h : Sat w X S) (hT : Tabb w) (hsf : SafeAt w ag cg G) (hB : By w (some ⟨b, 0, none⟩) S.groups.length (letV S G (askV S p))) (hs : siteB S = true) (hg : goesV S G = true) : Calls Tryd.prog 11 #[siteV X S, (.agg #[.slice ag S.groups.length cg, .int .i64 G.start, .bool G.flashed]), .slice (some ⟨b, 0, none⟩) S.groups.length S.groups.length] w fun e w2 => ∃ b2, e = .returned (.tuple #[.agg #[.slice (some ⟨b2, 0, none⟩) S.groups.length S.groups.length, .int .i64 (stepT S p G).start, .bool (stepT S p G).flashed], .int .u8 0, .int .i64 0]) ∧ w.heap.size ≤ b2 ∧ SafeAt w2 (some ⟨b2, 0, none⟩) S.groups.length (stepT S p G) ∧ Kept w w2 none := by
  have hng := (span_may hs).base.sh.ok.ng
  refine (next_got h hT hsf hB hs (goes_parts hg).1 (let_safe hs hg (askV_len S p))).mono ?_
  rintro e w2 ⟨b2, rfl, h1, h2, h3⟩
  exact ⟨b2, rfl, h1, OwnG.safe h2 (step_len S p G) (fun _ _ => rfl) (by omega) (step_rngt S p G), h3⟩
set_option maxRecDepth 100000 in
set_option maxHeartbeats 8000000 in
theorem tsta_go {X : Sa} {S : St} {w : World} (h : Sat w X S) (hT : Tabb w) {a : Option Addr} {c : Nat} {F : Sf} (hF : SafeAt w a c F) (p : Nat) (m : Nat) (hm : m < 256) (hl : F.groups.length ≤ 100) (hf : farB S F = false) (hz : goesE S F = 0) (hp : p < S.phases.length) (n : Nat) (hn : (n : Int) ≤ 1000000) (he : steE S F (p : Int) = 0) (hv : steV S F (p : Int) = (n : Int)) (h2 : fullB S (atT S p F n) p = true) (h3 : ∀ k, k < n → fullB S (atT S p F k) p = false) : Calls Tryd.prog 5 #[siteV X S, safeV a c F, .int .i64 (p : Int), .int .u8 (m : Int)] w fun e w' => e = .returned (.bool true) ∧ Below w.heap.size w w' := by
  have hlb : decide ((100 : Int) < (F.groups.length : Int)) = false := by simp; omega
  clear hl
  have HFAR := Hid.mk' hf
  have HE := Hid.mk' he
  have HV := Hid.mk' hv
  clear hf he hv
  obtain ⟨hs, hg⟩ := goesE_ok hz
  have HSI := Hid.mk' hs
  have hng : S.groups.length ≤ 32 := by have := (span_may hs).base.sh.ok.ng; omega
  have hg0 : 0 < S.groups.length := by have := (span_may hs).base.sh.ok.ng; omega
  have HFN := Hid.mk' (mayS_parts (goes_parts hg).1).1
  have HGO := Hid.mk' (fun k => goes_at (p := p) hs hg k)
  have HFULL : Hid (∀ k : Nat, fullB S (atT S p F k) p = decide ((n : Int) ≤ (k : Int))) := fun k => by
    by_cases e : n ≤ k
    · rw [full_from hs hg hp e h2, decide_eq_true (by omega)]
    · rw [h3 k (by omega), decide_eq_false (by omega)]
  have HOLD : Hid (∀ b, a = some b → 0 < F.groups.length → b.block < w.heap.size) := fun b e hpos => by
    obtain ⟨bf, off, ea, hbf, _⟩ := hF.lie.at_ hpos
    rw [ea] at e
    injection e with e
    subst e
    exact hbf
  have HSAT := Hid.mk' h
  have HTAB := Hid.mk' hT
  have HP := Hid.mk' hp
  clear hg hz hs h2 h3
  have k1 : Kept w (w.alloc (.cells #[.int .i64 S.id, .slice X.g S.groups.length X.gc, .slice X.a S.apart.length X.ac, .slice X.b S.between.length X.bc, .slice X.p S.phases.length X.pc, .slice X.e S.eyes.length X.ec, .int .i64 S.watch, .int .i64 S.feed, .int .i64 S.heal, .int .i64 S.low, .int .i64 S.high, .slice X.l S.plans.length X.lc] 33)) none := Kept.alloc _ _ _ _ _
  have k2 : Kept (w.alloc (.cells #[.int .i64 S.id, .slice X.g S.groups.length X.gc, .slice X.a S.apart.length X.ac, .slice X.b S.between.length X.bc, .slice X.p S.phases.length X.pc, .slice X.e S.eyes.length X.ec, .int .i64 S.watch, .int .i64 S.feed, .int .i64 S.heal, .int .i64 S.low, .int .i64 S.high, .slice X.l S.plans.length X.lc] 33)) ((w.alloc (.cells #[.int .i64 S.id, .slice X.g S.groups.length X.gc, .slice X.a S.apart.length X.ac, .slice X.b S.between.length X.bc, .slice X.p S.phases.length X.pc, .slice X.e S.eyes.length X.ec, .int .i64 S.watch, .int .i64 S.feed, .int .i64 S.heal, .int .i64 S.low, .int .i64 S.high, .slice X.l S.plans.length X.lc] 33)).alloc (.cells #[.slice a F.groups.length c, .int .i64 F.start, .bool F.flashed] 39)) none := Kept.alloc _ _ _ _ _
  have hsb := (sbox_alloc h 33).kept k2
  have bn := box_alloc (w.alloc (.cells #[.int .i64 S.id, .slice X.g S.groups.length X.gc, .slice X.a S.apart.length X.ac, .slice X.b S.between.length X.bc, .slice X.p S.phases.length X.pc, .slice X.e S.eyes.length X.ec, .int .i64 S.watch, .int .i64 S.feed, .int .i64 S.heal, .int .i64 S.low, .int .i64 S.high, .slice X.l S.plans.length X.lc] 33)) (.slice a F.groups.length c) (.int .i64 F.start) (.bool F.flashed) 39
  rw [World.size_alloc] at bn
  have hszA : ((w.alloc (.cells #[.int .i64 S.id, .slice X.g S.groups.length X.gc, .slice X.a S.apart.length X.ac, .slice X.b S.between.length X.bc, .slice X.p S.phases.length X.pc, .slice X.e S.eyes.length X.ec, .int .i64 S.watch, .int .i64 S.feed, .int .i64 S.heal, .int .i64 S.low, .int .i64 S.high, .slice X.l S.plans.length X.lc] 33)).alloc (.cells #[.slice a F.groups.length c, .int .i64 F.start, .bool F.flashed] 39)).heap.size = w.heap.size + 1 + 1 := by simp
  have hkA := k1.tr k2
  obtain ⟨WA, hWA⟩ : ∃ WA, ((w.alloc (.cells #[.int .i64 S.id, .slice X.g S.groups.length X.gc, .slice X.a S.apart.length X.ac, .slice X.b S.between.length X.bc, .slice X.p S.phases.length X.pc, .slice X.e S.eyes.length X.ec, .int .i64 S.watch, .int .i64 S.feed, .int .i64 S.heal, .int .i64 S.low, .int .i64 S.high, .slice X.l S.plans.length X.lc] 33)).alloc (.cells #[.slice a F.groups.length c, .int .i64 F.start, .bool F.flashed] 39)) = WA := ⟨_, rfl⟩
  rw [hWA] at hsb bn hkA hszA
  have HSB := Hid.mk' hsb
  have HBN := Hid.mk' bn
  have HSZ := Hid.mk' hszA
  have HK := Hid.mk' hkA
  have HS := Hid.mk' (h.kept hkA)
  have HT := Hid.mk' (hT.kept hkA)
  have HF := Hid.mk' (hF.kept hkA)
  have n0_ : ∀ w', Kept WA w' none → w'.cell? ⟨w.heap.size + 1, 0, none⟩ = some (.slice a F.groups.length c) := fun w' q => (HBN.out.kept q).c0
  have n1_ : ∀ w', Kept WA w' none → w'.cell? ⟨w.heap.size + 1, 1, none⟩ = some (.int .i64 F.start) := fun w' q => (HBN.out.kept q).c1
  have n2_ : ∀ w', Kept WA w' none → w'.cell? ⟨w.heap.size + 1, 2, none⟩ = some (.bool F.flashed) := fun w' q => (HBN.out.kept q).c2
  have s0_ : ∀ w', Kept WA w' none → w'.cell? ⟨w.heap.size, 0, none⟩ = some (.int .i64 S.id) := fun w' q => (HSB.out.kept q).c0
  have s1_ : ∀ w', Kept WA w' none → w'.cell? ⟨w.heap.size, 1, none⟩ = some (.slice X.g S.groups.length X.gc) := fun w' q => (HSB.out.kept q).c1
  have s2_ : ∀ w', Kept WA w' none → w'.cell? ⟨w.heap.size, 2, none⟩ = some (.slice X.a S.apart.length X.ac) := fun w' q => (HSB.out.kept q).c2
  have s3_ : ∀ w', Kept WA w' none → w'.cell? ⟨w.heap.size, 3, none⟩ = some (.slice X.b S.between.length X.bc) := fun w' q => (HSB.out.kept q).c3
  have s4_ : ∀ w', Kept WA w' none → w'.cell? ⟨w.heap.size, 4, none⟩ = some (.slice X.p S.phases.length X.pc) := fun w' q => (HSB.out.kept q).c4
  have s5_ : ∀ w', Kept WA w' none → w'.cell? ⟨w.heap.size, 5, none⟩ = some (.slice X.e S.eyes.length X.ec) := fun w' q => (HSB.out.kept q).c5
  have s6_ : ∀ w', Kept WA w' none → w'.cell? ⟨w.heap.size, 6, none⟩ = some (.int .i64 S.watch) := fun w' q => (HSB.out.kept q).c6
  have s7_ : ∀ w', Kept WA w' none → w'.cell? ⟨w.heap.size, 7, none⟩ = some (.int .i64 S.feed) := fun w' q => (HSB.out.kept q).c7
  have s8_ : ∀ w', Kept WA w' none → w'.cell? ⟨w.heap.size, 8, none⟩ = some (.int .i64 S.heal) := fun w' q => (HSB.out.kept q).c8
  have s9_ : ∀ w', Kept WA w' none → w'.cell? ⟨w.heap.size, 9, none⟩ = some (.int .i64 S.low) := fun w' q => (HSB.out.kept q).c9
  have s10_ : ∀ w', Kept WA w' none → w'.cell? ⟨w.heap.size, 10, none⟩ = some (.int .i64 S.high) := fun w' q => (HSB.out.kept q).c10
  have s11_ : ∀ w', Kept WA w' none → w'.cell? ⟨w.heap.size, 11, none⟩ = some (.slice X.l S.plans.length X.lc) := fun w' q => (HSB.out.kept q).c11
  have hK0 := Kept.refl WA none
  clear h hT hF k1 k2 hsb bn hkA hszA
  go_enter Tryd.func5, Tryd.ntmps5
  go_wp2_with (first | rw [hWA] | (go_at_call 14; refine (talive_any HT.out).mono ?_; rintro e wv ⟨rfl, hkv⟩; have hKv : Kept WA wv none := hkv))
  go_at_call 15
  refine (rgreat_any (HS.out.kept hKv)).mono ?_
  rintro e wg ⟨gr, rfl, hgr, hkg⟩
  have hKg : Kept WA wg none := hKv.tr hkg
  clear hgr
  cases gr with
  | true =>
    go_wp2
    go_ret
    exact ⟨rfl, (HK.out.tr hKg).below⟩
  | false =>
    go_wp2_with (first | (have hgo := hKp; clear hgo; go_at_call 6; refine (tasks_go (HS.out.kept hKp) (HT.out.kept hKp) p HSI.out hp).mono ?_; rintro e wq ⟨bq, rfl, hbq, hrq, hkq⟩; have hKq : Kept WA wq none := hKp.tr hkq) | (have hgo := hKf; clear hgo; go_at_call 12; have hx := tstps_any (HS.out.kept hKf) (HT.out.kept hKf) (HF.out.kept hKf) (p : Int); rw [HE.out, HV.out] at hx; refine hx.mono ?_; rintro e wp ⟨rfl, hkp⟩; have hKp : Kept WA wp none := hKf.tr hkp; clear hx) | (have hgo := hKg; clear hgo; go_at_call 16; have hx := far_any (HS.out.kept hKg) (HF.out.kept hKg); rw [HFAR.out] at hx; refine hx.mono ?_; rintro e wf ⟨rfl, hkf⟩; have hKf : Kept WA wf none := hKg.tr hkf; clear hx))
    have hsz1 := hKp.size
    have HD : Hid (Tf w w.heap.size (w.heap.size + 1) bq) := ⟨by omega, by have := HSZ.out; omega, by omega⟩
    have HT0 : Hid (Ts w wq X S p w.heap.size (w.heap.size + 1) bq (atT S p F 0)) := by
      refine ⟨HK.out.tr hKq, HSB.out.kept hKq, ⟨a, c, ?_, HF.out.kept hKq, fun b e => ?_⟩, hrq⟩
      · rw [← HFN.out]; exact HBN.out.kept hKq
      · have := HOLD.out b e (by have := HFN.out; omega)
        omega
    clear hrq hkq hKq hbq hKp hkp hkf hKf hkg hKg hkv hKv hsz1 s0_ s1_ s2_ s3_ s4_ s5_ s6_ s7_ s8_ s9_ s10_ s11_ n0_ n1_ n2_ hK0 HBN
    go_loopw [14, 15, 16, 17, 18, 19, 20, 21] (fun i _ _ _ _ _ _ _ wr => ∃ k : Nat, k ≤ n + m ∧ i = .int .i64 k ∧ Ts w wr X S p w.heap.size (w.heap.size + 1) bq (atT S p F k)) (fun i _ _ _ _ _ _ _ _ => n + m - (intOf i).toNat)
    case atStart => exact ⟨0, by omega, rfl, HT0.out⟩
    case round =>
      obtain ⟨k, hk, rfl, htn⟩ := hrel
      obtain ⟨ag, cg, hb, hsf, hne⟩ := htn.bx
      have HTN := Hid.mk' htn
      have HBN := Hid.mk' hb
      have HSW := Hid.mk' htn.sb
      have hltN := hb.lt
      obtain ⟨FB, hFB⟩ : ∃ FB, decide ((n : Int) ≤ (k : Int)) = FB := ⟨_, rfl⟩
      have HFU : Hid (∀ w', Kept wr w' none → Calls Tryd.prog 13 #[siteV X S, .agg #[.slice ag S.groups.length cg, .int .i64 (atT S p F k).start, .bool (atT S p F k).flashed], .int .i64 (p : Int)] w' fun e w2 => e = .returned (.tuple #[.bool FB, .int .i64 0]) ∧ Kept w' w2 none) := fun w' q => by
        have hfl := (mayS_parts (goes_parts (HGO.out k)).1).1
        have hx := tfull_go (htn.sb.sat.kept q) ((HTAB.out.kept htn.kp).kept q) (hsf.kept q) p HSI.out hfl HP.out
        rw [safeV, hfl, HFULL.out k, hFB] at hx
        exact hx
      have KPW := Hid.mk' htn.kp
      have hK0' := Kept.refl wr none
      have s0_ : ∀ w', Kept wr w' none → w'.cell? ⟨w.heap.size, 0, none⟩ = some (.int .i64 S.id) := fun w' q => (HSW.out.kept q).c0
      have s1_ : ∀ w', Kept wr w' none → w'.cell? ⟨w.heap.size, 1, none⟩ = some (.slice X.g S.groups.length X.gc) := fun w' q => (HSW.out.kept q).c1
      have s2_ : ∀ w', Kept wr w' none → w'.cell? ⟨w.heap.size, 2, none⟩ = some (.slice X.a S.apart.length X.ac) := fun w' q => (HSW.out.kept q).c2
      have s3_ : ∀ w', Kept wr w' none → w'.cell? ⟨w.heap.size, 3, none⟩ = some (.slice X.b S.between.length X.bc) := fun w' q => (HSW.out.kept q).c3
      have s4_ : ∀ w', Kept wr w' none → w'.cell? ⟨w.heap.size, 4, none⟩ = some (.slice X.p S.phases.length X.pc) := fun w' q => (HSW.out.kept q).c4
      have s5_ : ∀ w', Kept wr w' none → w'.cell? ⟨w.heap.size, 5, none⟩ = some (.slice X.e S.eyes.length X.ec) := fun w' q => (HSW.out.kept q).c5
      have s6_ : ∀ w', Kept wr w' none → w'.cell? ⟨w.heap.size, 6, none⟩ = some (.int .i64 S.watch) := fun w' q => (HSW.out.kept q).c6
      have s7_ : ∀ w', Kept wr w' none → w'.cell? ⟨w.heap.size, 7, none⟩ = some (.int .i64 S.feed) := fun w' q => (HSW.out.kept q).c7
      have s8_ : ∀ w', Kept wr w' none → w'.cell? ⟨w.heap.size, 8, none⟩ = some (.int .i64 S.heal) := fun w' q => (HSW.out.kept q).c8
      have s9_ : ∀ w', Kept wr w' none → w'.cell? ⟨w.heap.size, 9, none⟩ = some (.int .i64 S.low) := fun w' q => (HSW.out.kept q).c9
      have s10_ : ∀ w', Kept wr w' none → w'.cell? ⟨w.heap.size, 10, none⟩ = some (.int .i64 S.high) := fun w' q => (HSW.out.kept q).c10
      have s11_ : ∀ w', Kept wr w' none → w'.cell? ⟨w.heap.size, 11, none⟩ = some (.slice X.l S.plans.length X.lc) := fun w' q => (HSW.out.kept q).c11
      have n0_ : ∀ w', Kept wr w' none → w'.cell? ⟨w.heap.size + 1, 0, none⟩ = some (.slice ag S.groups.length cg) := fun w' q => (HBN.out.kept q).c0
      have n1_ : ∀ w', Kept wr w' none → w'.cell? ⟨w.heap.size + 1, 1, none⟩ = some (.int .i64 (atT S p F k).start) := fun w' q => (HBN.out.kept q).c1
      have n2_ : ∀ w', Kept wr w' none → w'.cell? ⟨w.heap.size + 1, 2, none⟩ = some (.bool (atT S p F k).flashed) := fun w' q => (HBN.out.kept q).c2
      by_cases hlt : k < n + m
      · have HAD : Hid (∀ w', Kept wr w' none → Calls Tryd.prog 10 #[siteV X S, .agg #[.slice ag S.groups.length cg, .int .i64 (atT S p F k).start, .bool (atT S p F k).flashed], .slice (some ⟨bq, 0, none⟩) S.groups.length S.groups.length] w' fun e w2 => ∃ b, e = .returned (.tuple #[.slice (some ⟨b, 0, none⟩) S.groups.length S.groups.length, .int .i64 0]) ∧ By w2 (some ⟨b, 0, none⟩) S.groups.length (letV S (atT S p F k) (askV S p)) ∧ Kept w' w2 none) := fun w' q => tadm_at (htn.sb.sat.kept q) ((HTAB.out.kept htn.kp).kept q) (hsf.kept q) (row_kept htn.row q (by simp)) HSI.out (HGO.out k)
        have HNX : Hid (∀ w' b, Kept wr w' none → By w' (some ⟨b, 0, none⟩) S.groups.length (letV S (atT S p F k) (askV S p)) → Calls Tryd.prog 11 #[siteV X S, .agg #[.slice ag S.groups.length cg, .int .i64 (atT S p F k).start, .bool (atT S p F k).flashed], .slice (some ⟨b, 0, none⟩) S.groups.length S.groups.length] w' fun e w2 => ∃ b2, e = .returned (.tuple #[.agg #[.slice (some ⟨b2, 0, none⟩) S.groups.length S.groups.length, .int .i64 (atT S p F (k + 1)).start, .bool (atT S p F (k + 1)).flashed], .int .u8 0, .int .i64 0]) ∧ w'.heap.size ≤ b2 ∧ SafeAt w2 (some ⟨b2, 0, none⟩) S.groups.length (atT S p F (k + 1)) ∧ Kept w' w2 none) := fun w' b q hB => tnxt_at (htn.sb.sat.kept q) ((HTAB.out.kept htn.kp).kept q) (hsf.kept q) hB HSI.out (HGO.out k)
        have HST : Hid (∀ w7 b2, Kept wr w7 none → SafeAt w7 (some ⟨b2, 0, none⟩) S.groups.length (atT S p F (k + 1)) → wr.heap.size ≤ b2 → Ts w (((w7.setCell ⟨w.heap.size + 1, 0, none⟩ (.slice (some ⟨b2, 0, none⟩) S.groups.length S.groups.length)).setCell ⟨w.heap.size + 1, 1, none⟩ (.int .i64 (atT S p F (k + 1)).start)).setCell ⟨w.heap.size + 1, 2, none⟩ (.bool (atT S p F (k + 1)).flashed)) X S p w.heap.size (w.heap.size + 1) bq (atT S p F (k + 1))) := fun w7 b2 q hs2 hb2 => htn.step HD.out HSAT.out q hs2 hb2
        clear htn hb hsf hne
        obtain ⟨G', hG'⟩ : ∃ G', atT S p F (k + 1) = G' := ⟨_, rfl⟩
        rw [hG'] at HNX HST
        have HGE := Hid.mk' hG'
        clear hG'
        generalize atT S p F k = G at *
        cases FB with
        | true =>
          have hFc := of_decide_eq_true hFB
          clear hFB
          go_wp2_with (first | rw [hw7] | (have hgo := HBY; clear hgo; go_at_call 11; refine (HNX.out _ _ hKL HBY.out).mono ?_; rintro e w6 ⟨b2, rfl, hb2, hs6, hk6⟩; have k6 : Kept w6 (w6.alloc (.cells #[.slice (some ⟨b2, 0, none⟩) S.groups.length S.groups.length, .int .i64 G'.start, .bool G'.flashed] 39)) none := Kept.alloc _ _ _ _ _; have bx6 := box_alloc w6 (.slice (some ⟨b2, 0, none⟩) S.groups.length S.groups.length) (.int .i64 G'.start) (.bool G'.flashed) 39; obtain ⟨w7, hw7⟩ : ∃ w7, w6.alloc (.cells #[.slice (some ⟨b2, 0, none⟩) S.groups.length S.groups.length, .int .i64 G'.start, .bool G'.flashed] 39) = w7 := ⟨_, rfl⟩; rw [hw7] at k6 bx6; have hK7 : Kept wr w7 none := (hKL.tr hk6).tr k6; have HS7 := Hid.mk' (hs6.kept k6); have x0 := bx6.c0; have x1 := bx6.c1; have x2 := bx6.c2; have z0 := (HBN.out.kept hK7).f0; have z1 := (HBN.out.kept hK7).f1; have z2 := (HBN.out.kept hK7).f2; have v0 := (HBN.out.kept hK7).c0; have v1 := (HBN.out.kept hK7).c1; have v2 := (HBN.out.kept hK7).c2; have HB2 := Hid.mk' (Nat.le_trans hKL.size hb2); have hl6 : w.heap.size + 1 < w6.heap.size := Nat.lt_of_lt_of_le hltN (hKL.tr hk6).size; clear hs6 bx6 k6) | (have hgo := hKF; clear hgo; go_at_call 10; refine (HAD.out _ hKF).mono ?_; rintro e wL ⟨bL, rfl, hbyL, hkL⟩; have hKL : Kept wr wL none := hKF.tr hkL; have HBY := Hid.mk' hbyL; clear hbyL) | (go_at_call 13; refine (HFU.out _ hK0').mono ?_; rintro e wF ⟨rfl, hkF⟩; have hKF : Kept wr wF none := hkF))
          go_roundw
          case rel => exact ⟨k + 1, by omega, by go_num, by rw [HGE.out]; exact HST.out w7 b2 hK7 HS7.out HB2.out⟩
          case measure => simp [intOf]; omega
        | false =>
          have hFc : ¬ ((n : Int) ≤ (k : Int)) := of_decide_eq_false hFB
          clear hFB
          go_wp2_with (first | rw [hw7] | (have hgo := HBY; clear hgo; go_at_call 11; refine (HNX.out _ _ hKL HBY.out).mono ?_; rintro e w6 ⟨b2, rfl, hb2, hs6, hk6⟩; have k6 : Kept w6 (w6.alloc (.cells #[.slice (some ⟨b2, 0, none⟩) S.groups.length S.groups.length, .int .i64 G'.start, .bool G'.flashed] 39)) none := Kept.alloc _ _ _ _ _; have bx6 := box_alloc w6 (.slice (some ⟨b2, 0, none⟩) S.groups.length S.groups.length) (.int .i64 G'.start) (.bool G'.flashed) 39; obtain ⟨w7, hw7⟩ : ∃ w7, w6.alloc (.cells #[.slice (some ⟨b2, 0, none⟩) S.groups.length S.groups.length, .int .i64 G'.start, .bool G'.flashed] 39) = w7 := ⟨_, rfl⟩; rw [hw7] at k6 bx6; have hK7 : Kept wr w7 none := (hKL.tr hk6).tr k6; have HS7 := Hid.mk' (hs6.kept k6); have x0 := bx6.c0; have x1 := bx6.c1; have x2 := bx6.c2; have z0 := (HBN.out.kept hK7).f0; have z1 := (HBN.out.kept hK7).f1; have z2 := (HBN.out.kept hK7).f2; have v0 := (HBN.out.kept hK7).c0; have v1 := (HBN.out.kept hK7).c1; have v2 := (HBN.out.kept hK7).c2; have HB2 := Hid.mk' (Nat.le_trans hKL.size hb2); have hl6 : w.heap.size + 1 < w6.heap.size := Nat.lt_of_lt_of_le hltN (hKL.tr hk6).size; clear hs6 bx6 k6) | (have hgo := hKF; clear hgo; go_at_call 10; refine (HAD.out _ hKF).mono ?_; rintro e wL ⟨bL, rfl, hbyL, hkL⟩; have hKL : Kept wr wL none := hKF.tr hkL; have HBY := Hid.mk' hbyL; clear hbyL) | (go_at_call 13; refine (HFU.out _ hK0').mono ?_; rintro e wF ⟨rfl, hkF⟩; have hKF : Kept wr wF none := hkF))
          go_roundw
          case rel => exact ⟨k + 1, by omega, by go_num, by rw [HGE.out]; exact HST.out w7 b2 hK7 HS7.out HB2.out⟩
          case measure => simp [intOf]; omega
      · have e : k = n + m := by omega
        have hFt : FB = true := by rw [← hFB]; exact decide_eq_true (by omega)
        rw [hFt] at HFU
        clear htn hb hsf hne hFB hFt
        generalize atT S p F k = G at *
        go_wp2_with (go_at_call 13; refine (HFU.out _ hK0').mono ?_; rintro e wF ⟨rfl, hkF⟩; have hKF : Kept wr wF none := hkF)
        go_ret
        exact ⟨rfl, (KPW.out.tr hKF).below⟩

theorem tstays_any {X : Sa} {S : St} {w : World} (h : Sat w X S) (hT : Tabb w) {a : Option Addr} {c : Nat} {F : Sf} (hF : SafeAt w a c F) (p : Int) (m : Nat) (hm : m < 256) : Calls Tryd.prog 5 #[siteV X S, safeV a c F, .int .i64 p, .int .u8 (m : Int)] w fun e w' => e = .returned (.bool true) ∧ Below w.heap.size w w' := by
  by_cases hl : F.groups.length ≤ 100
  · cases hf : farB S F with
    | true => exact tsta_far h hT hF p m hm hl hf
    | false =>
      by_cases hz : goesE S F = 0
      · cases hph : phB S p with
        | false =>
          have e1 : steE S F p = 2 := by unfold steE; rw [if_neg (by simp [hz]), if_pos hph]
          have e2 : steV S F p = 0 := by unfold steV; rw [if_neg (by simp [hz]), if_pos hph]
          exact tsta_err h hT hF p m hm hl hf 2 e1 e2 (by decide)
        | true =>
          obtain ⟨q, rfl, hq⟩ := phB_yes hph
          obtain ⟨n, hn, hn2, _, _⟩ := ends_all hz hq hf
          obtain ⟨e1, e2⟩ := ste_go hz hq hn
          obtain ⟨_, h2, h3⟩ := stpO_some hn
          exact tsta_go h hT hF q m hm hl hf hz hq n hn2 e1 e2 h2 h3
      · have e1 : steE S F p = goesE S F := by unfold steE; rw [if_pos hz]
        have e2 : steV S F p = 0 := by unfold steV; rw [if_pos hz]
        exact tsta_err h hT hF p m hm hl hf _ e1 e2 hz
  · exact tsta_long h hT hF p m hm (by omega)

end Go.Proofs.YtchjbagipbmcoaaDoor
