/-
  Texts joined: some of those that the proofs of this seat stand on.
-/
import Derived.Test.YtkgimccffggfdaaDoorSeqC
import Derived.Test.YtkgimccffggfdaaDoorSeqHJ
import Derived.Test.YtkgimccffggfdaaDoorOwn8J
import Derived.Test.YtkgimccffggfdaaDoorGateBJ
/-
  THE DOCUMENT'S Calls and Go of layer 16 (made by a program).
-/
namespace Go.Proofs.YtkgimccffggfdaaDoor
open Go.RowKit Go.Lib Go.Deep
set_option linter.unusedVariables false
set_option linter.unusedSimpArgs false

theorem Bx2.set1 {w : World} {b : Nat} {v0 v1 : Value} (h : Bx2 w b v0 v1) (x1 : Value) : Bx2 (w.setCell ⟨b, 1, none⟩ x1) b v0 x1 :=
  ⟨(World.cell?_setCell_other _ _ _ _ (by simp)).trans h.c0, World.cell?_setCell_same _ _ _ h.c1, (World.frozen?_setCell ..).trans h.f0, (World.frozen?_setCell ..).trans h.f1, by simpa [World.setCell] using h.lt⟩
set_option maxRecDepth 100000 in
set_option maxHeartbeats 2000000 in
theorem rcal16_y {X : Sa} {S : St} {w : World} (h : Sat w X S) (c k : Nat) (hc : c < 4294967296) (hk : k < S.phases.length) (hk8 : k < 32) (hal : (S.ph k).always = true) : Calls Tryd.prog 48 #[siteV X S, .int .u32 (c : Int), .int .i64 (k : Int)] w fun e w' => e = .returned (.bool (true)) ∧ Kept w w' none := by
  have hbit := has_bit c k hc
  have hkA : Kept w (w.alloc (.cells #[.int .i64 S.id, .slice X.g S.groups.length X.gc, .slice X.a S.apart.length X.ac, .slice X.b S.between.length X.bc, .slice X.p S.phases.length X.pc, .slice X.e S.eyes.length X.ec, .int .i64 S.watch, .int .i64 S.feed, .int .i64 S.heal, .int .i64 S.low, .int .i64 S.high, .slice X.l S.plans.length X.lc] 37)) none := Kept.alloc _ _ _ _ _
  have HK := Hid.mk' hkA
  obtain ⟨xg, xgc, xa, xac, xb, xbc, xp, xpc, xe, xec, xl, xlc⟩ := X
  obtain ⟨pb, po, ep, k0, k1, k2, k3, k4⟩ := h.phAt hk
  dsimp only at ep
  subst ep
  have hpb := block_lt k0
  have hpm := h.pk.max
  have hpr := h.pk.room
  have hgu : ((k : Int) % 18446744073709551616) = (k : Int) := by omega
  rw [hal] at k4
  clear h hkA hal
  generalize S.ph k = P at *
  have HBIT := Hid.mk' hbit
  clear hbit
  go_enter Tryd.func48, Tryd.ntmps48
  go_wp2
  go_ret
  exact ⟨rfl, HK.out⟩
set_option maxRecDepth 100000 in
set_option maxHeartbeats 2000000 in
theorem rcal16_n {X : Sa} {S : St} {w : World} (h : Sat w X S) (c k : Nat) (hc : c < 4294967296) (hk : k < S.phases.length) (hk8 : k < 32) (hal : (S.ph k).always = false) : Calls Tryd.prog 48 #[siteV X S, .int .u32 (c : Int), .int .i64 (k : Int)] w fun e w' => e = .returned (.bool (c.testBit k)) ∧ Kept w w' none := by
  have hbit := has_bit c k hc
  have hkA : Kept w (w.alloc (.cells #[.int .i64 S.id, .slice X.g S.groups.length X.gc, .slice X.a S.apart.length X.ac, .slice X.b S.between.length X.bc, .slice X.p S.phases.length X.pc, .slice X.e S.eyes.length X.ec, .int .i64 S.watch, .int .i64 S.feed, .int .i64 S.heal, .int .i64 S.low, .int .i64 S.high, .slice X.l S.plans.length X.lc] 37)) none := Kept.alloc _ _ _ _ _
  have HK := Hid.mk' hkA
  obtain ⟨xg, xgc, xa, xac, xb, xbc, xp, xpc, xe, xec, xl, xlc⟩ := X
  obtain ⟨pb, po, ep, k0, k1, k2, k3, k4⟩ := h.phAt hk
  dsimp only at ep
  subst ep
  have hpb := block_lt k0
  have hpm := h.pk.max
  have hpr := h.pk.room
  have hgu : ((k : Int) % 18446744073709551616) = (k : Int) := by omega
  rw [hal] at k4
  clear h hkA hal
  generalize S.ph k = P at *
  have HBIT := Hid.mk' hbit
  clear hbit
  go_enter Tryd.func48, Tryd.ntmps48
  go_wp2
  go_ret
  exact ⟨by rw [← HBIT.out]; rfl, HK.out⟩
theorem rcal16_any {X : Sa} {S : St} {w : World} (h : Sat w X S) (c k : Nat) (hc : c < 4294967296) (hk : k < S.phases.length) (hk8 : k < 32) : Calls Tryd.prog 48 #[siteV X S, .int .u32 (c : Int), .int .i64 (k : Int)] w fun e w' => e = .returned (.bool (callB S c k)) ∧ Kept w w' none := by
  cases hal : (S.ph k).always with
  | true =>
    rw [show callB S c k = true by unfold callB; rw [hal]; rfl]
    exact rcal16_y h c k hc hk hk8 hal
  | false =>
    rw [show callB S c k = c.testBit k by unfold callB; rw [hal]; rfl]
    exact rcal16_n h c k hc hk hk8 hal
set_option maxRecDepth 100000 in
set_option maxHeartbeats 4000000 in
theorem rgo16_not {X : Sa} {S : St} {w : World} (h : Sat w X S) {a : Option Addr} {ca : Nat} {F : Sf} (hF : SafeAt w a ca F) (p : Nat) (hp : p < S.phases.length) (hs : siteB S = true) (hl : F.groups.length = S.groups.length) (c g : Nat) (hc : c < 4294967296) (hg : g < 4294967296) (s : Int) (hf : fullB S F p = false) : Calls Tryd.prog 27 #[siteV X S, .agg #[.int .i64 (p : Int), .int .i64 s], .agg #[.slice a S.groups.length ca, .int .i64 F.start, .bool F.flashed], .int .u32 (c : Int), .int .u32 (g : Int)] w fun e w' => e = .returned (.agg #[.int .i64 (p : Int), .int .i64 0]) ∧ Kept w w' none := by
  have hng := (span_may hs).base.sh.ok.ng
  have hn := (span_may hs).base.sh.ok.np
  obtain ⟨WA, hWA⟩ : ∃ WA, ((((w.alloc (.cells #[.int .i64 S.id, .slice X.g S.groups.length X.gc, .slice X.a S.apart.length X.ac, .slice X.b S.between.length X.bc, .slice X.p S.phases.length X.pc, .slice X.e S.eyes.length X.ec, .int .i64 S.watch, .int .i64 S.feed, .int .i64 S.heal, .int .i64 S.low, .int .i64 S.high, .slice X.l S.plans.length X.lc] 37)).alloc (.cells #[.int .i64 (p : Int), .int .i64 s] 40)).alloc (.cells #[.slice a S.groups.length ca, .int .i64 F.start, .bool F.flashed] 26)).alloc (.cells #[.int .i64 0, .int .i64 0] 40)) = WA := ⟨_, rfl⟩
  obtain ⟨⟨HSB, HBQ, HBN, HK, HS, HF, HSZ, q0_, q1_, n0_, n1_, n2_, s0_, s1_, s2_, s3_, s4_, s5_, s6_, s7_, s8_, s9_, s10_, s11_⟩, HBZ⟩ := hd3z h hF hWA
  have hK0 := Kept.refl WA none
  clear hF
  have HWH : Hid (Calls Tryd.prog 47 #[siteV X S, .agg #[.slice a S.groups.length ca, .int .i64 F.start, .bool F.flashed], .int .i64 (p : Int)] WA fun e w' => e = .returned (.bool false) ∧ Kept WA w' none) := by
    have hx := rwhole15_any HS.out HF.out (by omega) hp hl
    rw [hf] at hx
    exact hx
  clear hf hl
  clear h
  go_enter Tryd.func27, Tryd.ntmps27
  go_wp2_with (first | rw [hWA] | (go_at_call 47; refine HWH.out.mono ?_; rintro e wW ⟨rfl, hkW⟩; have hKW : Kept WA wW none := hkW; have BX := HBQ.out.kept hKW; have v0 := BX.c0; have v1 := BX.c1; have t0 := BX.f0; have t1 := BX.f1; have z0 := (HBZ.out.kept hKW).c0; have z1 := (HBZ.out.kept hKW).c1; have u0 := (HBZ.out.kept hKW).f0; have u1 := (HBZ.out.kept hKW).f1; have l3 : w.heap.size + 1 + 1 + 1 < wW.heap.size := Nat.lt_of_lt_of_le HBZ.out.lt hKW.size; have l2 : w.heap.size + 1 + 1 < wW.heap.size := (by omega); have l1 : w.heap.size + 1 < wW.heap.size := (by omega); have l0 : w.heap.size < wW.heap.size := (by omega); clear BX))
  refine bodyPost_ret (v := .agg #[.int .i64 (p : Int), .int .i64 0]) (by simp [results, Tryd.results27, go_sem, z0, z1]) rfl ⟨rfl, ?_⟩
  exact (((HK.out.tr hKW).setNew (p := ⟨w.heap.size + 1, 1, none⟩) (by show w.heap.size ≤ w.heap.size + 1; omega) _).setNew (p := ⟨w.heap.size + 1 + 1 + 1, 0, none⟩) (by show w.heap.size ≤ w.heap.size + 1 + 1 + 1; omega) _).setNew (p := ⟨w.heap.size + 1 + 1 + 1, 1, none⟩) (by show w.heap.size ≤ w.heap.size + 1 + 1 + 1; omega) _
set_option maxRecDepth 100000 in
set_option maxHeartbeats 4000000 in
theorem rgo16_al {X : Sa} {S : St} {w : World} (h : Sat w X S) {a : Option Addr} {ca : Nat} {F : Sf} (hF : SafeAt w a ca F) (p : Nat) (hp : p < S.phases.length) (hs : siteB S = true) (hl : F.groups.length = S.groups.length) (c g : Nat) (hc : c < 4294967296) (hg : g < 4294967296) (s : Int) (hs0 : 0 ≤ s) (hs9 : s < 1048576) (hf : fullB S F p = true) (h1 : (s + 1) < (S.ph p).min) : Calls Tryd.prog 27 #[siteV X S, .agg #[.int .i64 (p : Int), .int .i64 s], .agg #[.slice a S.groups.length ca, .int .i64 F.start, .bool F.flashed], .int .u32 (c : Int), .int .u32 (g : Int)] w fun e w' => e = .returned (.agg #[.int .i64 (p : Int), .int .i64 (s + 1)]) ∧ Kept w w' none := by
  have hng := (span_may hs).base.sh.ok.ng
  have hn := (span_may hs).base.sh.ok.np
  have hgv := gap_bit (p := p) hg
  have hgu : ((p : Int) % 18446744073709551616) = (p : Int) := by omega
  obtain ⟨xg, xgc, xa, xac, xb, xbc, xp, xpc, xe, xec, xl, xlc⟩ := X
  obtain ⟨pb, po, ep⟩ := h.ppq (show 0 < S.phases.length by omega)
  dsimp only at ep
  subst ep
  have hrm := h.pk.room
  have hpw := (h.phq rfl hp).1
  have hne1 : ¬ pb = w.heap.size + 1 := by omega
  have hne2 : ¬ w.heap.size + 1 = pb := by omega
  have HSAT := Hid.mk' h
  obtain ⟨WA, hWA⟩ : ∃ WA, ((((w.alloc (.cells #[.int .i64 S.id, .slice xg S.groups.length xgc, .slice xa S.apart.length xac, .slice xb S.between.length xbc, .slice (some ⟨pb, po, none⟩) S.phases.length xpc, .slice xe S.eyes.length xec, .int .i64 S.watch, .int .i64 S.feed, .int .i64 S.heal, .int .i64 S.low, .int .i64 S.high, .slice xl S.plans.length xlc] 37)).alloc (.cells #[.int .i64 (p : Int), .int .i64 s] 40)).alloc (.cells #[.slice a S.groups.length ca, .int .i64 F.start, .bool F.flashed] 26)).alloc (.cells #[.int .i64 0, .int .i64 0] 40)) = WA := ⟨_, rfl⟩
  obtain ⟨⟨HSB, HBQ, HBN, HK, HS, HF, HSZ, q0_, q1_, n0_, n1_, n2_, s0_, s1_, s2_, s3_, s4_, s5_, s6_, s7_, s8_, s9_, s10_, s11_⟩, HBZ⟩ := hd3z h hF hWA
  have hK0 := Kept.refl WA none
  clear hF
  have HWH : Hid (Calls Tryd.prog 47 #[siteV ⟨xg, xgc, xa, xac, xb, xbc, some ⟨pb, po, none⟩, xpc, xe, xec, xl, xlc⟩ S, .agg #[.slice a S.groups.length ca, .int .i64 F.start, .bool F.flashed], .int .i64 (p : Int)] WA fun e w' => e = .returned (.bool true) ∧ Kept WA w' none) := by
    have hx := rwhole15_any HS.out HF.out (by omega) hp hl
    rw [hf] at hx
    exact hx
  clear hf hl
  have r0_ : ∀ w', Kept WA w' none → w'.cell? ⟨pb, po + p * 5, none⟩ = some (.int .u32 ((S.ph p).groups : Int)) := fun w' q => ((HS.out.kept q).phq rfl hp).2.1
  have r1_ : ∀ w', Kept WA w' none → w'.cell? ⟨pb, po + p * 5 + 1, none⟩ = some (.int .i64 (S.ph p).min) := fun w' q => ((HS.out.kept q).phq rfl hp).2.2.1
  have r2_ : ∀ w', Kept WA w' none → w'.cell? ⟨pb, po + p * 5 + 2, none⟩ = some (.int .i64 (S.ph p).max) := fun w' q => ((HS.out.kept q).phq rfl hp).2.2.2.1
  have r3_ : ∀ w', Kept WA w' none → w'.cell? ⟨pb, po + p * 5 + 3, none⟩ = some (.int .i64 (S.ph p).gap) := fun w' q => ((HS.out.kept q).phq rfl hp).2.2.2.2.1
  have r4_ : ∀ w', Kept WA w' none → w'.cell? ⟨pb, po + p * 5 + 4, none⟩ = some (.bool (S.ph p).always) := fun w' q => ((HS.out.kept q).phq rfl hp).2.2.2.2.2
  have HPB := Hid.mk' ((HS.out.phq rfl hp).1)
  have HHP := Hid.mk' hp
  have HSI := Hid.mk' hs
  clear h
  generalize S.ph p = P at *
  go_enter Tryd.func27, Tryd.ntmps27
  go_wp2_with (first | rw [hWA] | (go_at_call 47; refine HWH.out.mono ?_; rintro e wW ⟨rfl, hkW⟩; have hKW : Kept WA wW none := hkW; have BX := HBQ.out.kept hKW; have v0 := BX.c0; have v1 := BX.c1; have t0 := BX.f0; have t1 := BX.f1; have z0 := (HBZ.out.kept hKW).c0; have z1 := (HBZ.out.kept hKW).c1; have u0 := (HBZ.out.kept hKW).f0; have u1 := (HBZ.out.kept hKW).f1; have l3 : w.heap.size + 1 + 1 + 1 < wW.heap.size := Nat.lt_of_lt_of_le HBZ.out.lt hKW.size; have l2 : w.heap.size + 1 + 1 < wW.heap.size := (by omega); have l1 : w.heap.size + 1 < wW.heap.size := (by omega); have l0 : w.heap.size < wW.heap.size := (by omega); clear BX; have lpb : pb < wW.heap.size := Nat.lt_of_lt_of_le HPB.out hKW.size))
  have kq0 : Kept WA (wW.setCell ⟨w.heap.size + 1, 1, none⟩ (.int .i64 (s + 1))) (some (w.heap.size + 1)) := (hKW.weakS (some (w.heap.size + 1))).setRow _ _
  have BZ2 := ((HBZ.out.keptR kq0 (by simp <;> omega)).set (.int .i64 (p : Int)) (.int .i64 (s + 1))).kept (Kept.alloc _ #[.int .u32 (P.groups : Int), .int .i64 P.min, .int .i64 P.max, .int .i64 P.gap, .bool P.always] 64 (0, 0) none)
  have c0 := BZ2.c0
  have c1 := BZ2.c1
  refine bodyPost_ret (v := .agg #[.int .i64 (p : Int), .int .i64 (s + 1)]) (by simp [results, Tryd.results27, go_sem, c0, c1]) rfl ⟨rfl, ?_⟩
  exact ((((HK.out.tr hKW).setNew (p := ⟨w.heap.size + 1, 1, none⟩) (by show w.heap.size ≤ w.heap.size + 1; omega) _).setNew (p := ⟨w.heap.size + 1 + 1 + 1, 0, none⟩) (by show w.heap.size ≤ w.heap.size + 1 + 1 + 1; omega) _).setNew (p := ⟨w.heap.size + 1 + 1 + 1, 1, none⟩) (by show w.heap.size ≤ w.heap.size + 1 + 1 + 1; omega) _).tr (Kept.alloc _ _ _ _ _)
set_option maxRecDepth 100000 in
set_option maxHeartbeats 4000000 in
theorem rgo16_bl {X : Sa} {S : St} {w : World} (h : Sat w X S) {a : Option Addr} {ca : Nat} {F : Sf} (hF : SafeAt w a ca F) (p : Nat) (hp : p < S.phases.length) (hs : siteB S = true) (hl : F.groups.length = S.groups.length) (c g : Nat) (hc : c < 4294967296) (hg : g < 4294967296) (s : Int) (hs0 : 0 ≤ s) (hs9 : s < 1048576) (hf : fullB S F p = true) (h1 : ¬ (s + 1) < (S.ph p).min) (hgb : g.testBit p = false) (h2 : (s + 1) < (S.ph p).max) : Calls Tryd.prog 27 #[siteV X S, .agg #[.int .i64 (p : Int), .int .i64 s], .agg #[.slice a S.groups.length ca, .int .i64 F.start, .bool F.flashed], .int .u32 (c : Int), .int .u32 (g : Int)] w fun e w' => e = .returned (.agg #[.int .i64 (p : Int), .int .i64 (s + 1)]) ∧ Kept w w' none := by
  have hng := (span_may hs).base.sh.ok.ng
  have hn := (span_may hs).base.sh.ok.np
  have hgv := gap_bit (p := p) hg
  have hgu : ((p : Int) % 18446744073709551616) = (p : Int) := by omega
  obtain ⟨xg, xgc, xa, xac, xb, xbc, xp, xpc, xe, xec, xl, xlc⟩ := X
  obtain ⟨pb, po, ep⟩ := h.ppq (show 0 < S.phases.length by omega)
  dsimp only at ep
  subst ep
  have hrm := h.pk.room
  have hpw := (h.phq rfl hp).1
  have hne1 : ¬ pb = w.heap.size + 1 := by omega
  have hne2 : ¬ w.heap.size + 1 = pb := by omega
  have HSAT := Hid.mk' h
  rw [hgb, if_neg (by decide)] at hgv
  clear hgb
  obtain ⟨WA, hWA⟩ : ∃ WA, ((((w.alloc (.cells #[.int .i64 S.id, .slice xg S.groups.length xgc, .slice xa S.apart.length xac, .slice xb S.between.length xbc, .slice (some ⟨pb, po, none⟩) S.phases.length xpc, .slice xe S.eyes.length xec, .int .i64 S.watch, .int .i64 S.feed, .int .i64 S.heal, .int .i64 S.low, .int .i64 S.high, .slice xl S.plans.length xlc] 37)).alloc (.cells #[.int .i64 (p : Int), .int .i64 s] 40)).alloc (.cells #[.slice a S.groups.length ca, .int .i64 F.start, .bool F.flashed] 26)).alloc (.cells #[.int .i64 0, .int .i64 0] 40)) = WA := ⟨_, rfl⟩
  obtain ⟨⟨HSB, HBQ, HBN, HK, HS, HF, HSZ, q0_, q1_, n0_, n1_, n2_, s0_, s1_, s2_, s3_, s4_, s5_, s6_, s7_, s8_, s9_, s10_, s11_⟩, HBZ⟩ := hd3z h hF hWA
  have hK0 := Kept.refl WA none
  clear hF
  have HWH : Hid (Calls Tryd.prog 47 #[siteV ⟨xg, xgc, xa, xac, xb, xbc, some ⟨pb, po, none⟩, xpc, xe, xec, xl, xlc⟩ S, .agg #[.slice a S.groups.length ca, .int .i64 F.start, .bool F.flashed], .int .i64 (p : Int)] WA fun e w' => e = .returned (.bool true) ∧ Kept WA w' none) := by
    have hx := rwhole15_any HS.out HF.out (by omega) hp hl
    rw [hf] at hx
    exact hx
  clear hf hl
  have r0_ : ∀ w', Kept WA w' none → w'.cell? ⟨pb, po + p * 5, none⟩ = some (.int .u32 ((S.ph p).groups : Int)) := fun w' q => ((HS.out.kept q).phq rfl hp).2.1
  have r1_ : ∀ w', Kept WA w' none → w'.cell? ⟨pb, po + p * 5 + 1, none⟩ = some (.int .i64 (S.ph p).min) := fun w' q => ((HS.out.kept q).phq rfl hp).2.2.1
  have r2_ : ∀ w', Kept WA w' none → w'.cell? ⟨pb, po + p * 5 + 2, none⟩ = some (.int .i64 (S.ph p).max) := fun w' q => ((HS.out.kept q).phq rfl hp).2.2.2.1
  have r3_ : ∀ w', Kept WA w' none → w'.cell? ⟨pb, po + p * 5 + 3, none⟩ = some (.int .i64 (S.ph p).gap) := fun w' q => ((HS.out.kept q).phq rfl hp).2.2.2.2.1
  have r4_ : ∀ w', Kept WA w' none → w'.cell? ⟨pb, po + p * 5 + 4, none⟩ = some (.bool (S.ph p).always) := fun w' q => ((HS.out.kept q).phq rfl hp).2.2.2.2.2
  have HPB := Hid.mk' ((HS.out.phq rfl hp).1)
  have HHP := Hid.mk' hp
  have HSI := Hid.mk' hs
  clear h
  generalize S.ph p = P at *
  go_enter Tryd.func27, Tryd.ntmps27
  go_wp2_with (first | rw [hWA] | (go_at_call 47; refine HWH.out.mono ?_; rintro e wW ⟨rfl, hkW⟩; have hKW : Kept WA wW none := hkW; have BX := HBQ.out.kept hKW; have v0 := BX.c0; have v1 := BX.c1; have t0 := BX.f0; have t1 := BX.f1; have z0 := (HBZ.out.kept hKW).c0; have z1 := (HBZ.out.kept hKW).c1; have u0 := (HBZ.out.kept hKW).f0; have u1 := (HBZ.out.kept hKW).f1; have l3 : w.heap.size + 1 + 1 + 1 < wW.heap.size := Nat.lt_of_lt_of_le HBZ.out.lt hKW.size; have l2 : w.heap.size + 1 + 1 < wW.heap.size := (by omega); have l1 : w.heap.size + 1 < wW.heap.size := (by omega); have l0 : w.heap.size < wW.heap.size := (by omega); clear BX; have lpb : pb < wW.heap.size := Nat.lt_of_lt_of_le HPB.out hKW.size))
  have kq0 : Kept WA (wW.setCell ⟨w.heap.size + 1, 1, none⟩ (.int .i64 (s + 1))) (some (w.heap.size + 1)) := (hKW.weakS (some (w.heap.size + 1))).setRow _ _
  have BZ2 := ((HBZ.out.keptR kq0 (by simp <;> omega)).set (.int .i64 (p : Int)) (.int .i64 (s + 1))).kept (Kept.alloc _ #[.int .u32 (P.groups : Int), .int .i64 P.min, .int .i64 P.max, .int .i64 P.gap, .bool P.always] 64 (0, 0) none)
  have c0 := BZ2.c0
  have c1 := BZ2.c1
  refine bodyPost_ret (v := .agg #[.int .i64 (p : Int), .int .i64 (s + 1)]) (by simp [results, Tryd.results27, go_sem, c0, c1]) rfl ⟨rfl, ?_⟩
  exact ((((HK.out.tr hKW).setNew (p := ⟨w.heap.size + 1, 1, none⟩) (by show w.heap.size ≤ w.heap.size + 1; omega) _).setNew (p := ⟨w.heap.size + 1 + 1 + 1, 0, none⟩) (by show w.heap.size ≤ w.heap.size + 1 + 1 + 1; omega) _).setNew (p := ⟨w.heap.size + 1 + 1 + 1, 1, none⟩) (by show w.heap.size ≤ w.heap.size + 1 + 1 + 1; omega) _).tr (Kept.alloc _ _ _ _ _)
set_option maxRecDepth 100000 in
set_option maxHeartbeats 4000000 in
theorem rgo16_cl {X : Sa} {S : St} {w : World} (h : Sat w X S) {a : Option Addr} {ca : Nat} {F : Sf} (hF : SafeAt w a ca F) (p : Nat) (hp : p < S.phases.length) (hs : siteB S = true) (hl : F.groups.length = S.groups.length) (c g : Nat) (hc : c < 4294967296) (hg : g < 4294967296) (s : Int) (hs0 : 0 ≤ s) (hs9 : s < 1048576) (hf : fullB S F p = true) (h1 : ¬ (s + 1) < (S.ph p).min) (hgb : g.testBit p = true) (G : Sq) (hG1 : ∀ j, nxQ S c p = some j → G = ⟨(p + 1 + j) % S.phases.length, 0⟩) (hG0 : nxQ S c p = none → G = ⟨p, (s + 1)⟩) : Calls Tryd.prog 27 #[siteV X S, .agg #[.int .i64 (p : Int), .int .i64 s], .agg #[.slice a S.groups.length ca, .int .i64 F.start, .bool F.flashed], .int .u32 (c : Int), .int .u32 (g : Int)] w fun e w' => e = .returned (.agg #[.int .i64 (G.ph : Int), .int .i64 G.since]) ∧ Kept w w' none := by
  have hng := (span_may hs).base.sh.ok.ng
  have hn := (span_may hs).base.sh.ok.np
  have hgv := gap_bit (p := p) hg
  have hgu : ((p : Int) % 18446744073709551616) = (p : Int) := by omega
  obtain ⟨xg, xgc, xa, xac, xb, xbc, xp, xpc, xe, xec, xl, xlc⟩ := X
  obtain ⟨pb, po, ep⟩ := h.ppq (show 0 < S.phases.length by omega)
  dsimp only at ep
  subst ep
  have hrm := h.pk.room
  have hpw := (h.phq rfl hp).1
  have hne1 : ¬ pb = w.heap.size + 1 := by omega
  have hne2 : ¬ w.heap.size + 1 = pb := by omega
  have HSAT := Hid.mk' h
  rw [hgb, if_pos rfl] at hgv
  clear hgb
  have HG1 := Hid.mk' hG1
  have HG0 := Hid.mk' hG0
  clear hG1 hG0
  obtain ⟨WA, hWA⟩ : ∃ WA, ((((w.alloc (.cells #[.int .i64 S.id, .slice xg S.groups.length xgc, .slice xa S.apart.length xac, .slice xb S.between.length xbc, .slice (some ⟨pb, po, none⟩) S.phases.length xpc, .slice xe S.eyes.length xec, .int .i64 S.watch, .int .i64 S.feed, .int .i64 S.heal, .int .i64 S.low, .int .i64 S.high, .slice xl S.plans.length xlc] 37)).alloc (.cells #[.int .i64 (p : Int), .int .i64 s] 40)).alloc (.cells #[.slice a S.groups.length ca, .int .i64 F.start, .bool F.flashed] 26)).alloc (.cells #[.int .i64 0, .int .i64 0] 40)) = WA := ⟨_, rfl⟩
  obtain ⟨⟨HSB, HBQ, HBN, HK, HS, HF, HSZ, q0_, q1_, n0_, n1_, n2_, s0_, s1_, s2_, s3_, s4_, s5_, s6_, s7_, s8_, s9_, s10_, s11_⟩, HBZ⟩ := hd3z h hF hWA
  have hK0 := Kept.refl WA none
  clear hF
  have HWH : Hid (Calls Tryd.prog 47 #[siteV ⟨xg, xgc, xa, xac, xb, xbc, some ⟨pb, po, none⟩, xpc, xe, xec, xl, xlc⟩ S, .agg #[.slice a S.groups.length ca, .int .i64 F.start, .bool F.flashed], .int .i64 (p : Int)] WA fun e w' => e = .returned (.bool true) ∧ Kept WA w' none) := by
    have hx := rwhole15_any HS.out HF.out (by omega) hp hl
    rw [hf] at hx
    exact hx
  clear hf hl
  have r0_ : ∀ w', Kept WA w' none → w'.cell? ⟨pb, po + p * 5, none⟩ = some (.int .u32 ((S.ph p).groups : Int)) := fun w' q => ((HS.out.kept q).phq rfl hp).2.1
  have r1_ : ∀ w', Kept WA w' none → w'.cell? ⟨pb, po + p * 5 + 1, none⟩ = some (.int .i64 (S.ph p).min) := fun w' q => ((HS.out.kept q).phq rfl hp).2.2.1
  have r2_ : ∀ w', Kept WA w' none → w'.cell? ⟨pb, po + p * 5 + 2, none⟩ = some (.int .i64 (S.ph p).max) := fun w' q => ((HS.out.kept q).phq rfl hp).2.2.2.1
  have r3_ : ∀ w', Kept WA w' none → w'.cell? ⟨pb, po + p * 5 + 3, none⟩ = some (.int .i64 (S.ph p).gap) := fun w' q => ((HS.out.kept q).phq rfl hp).2.2.2.2.1
  have r4_ : ∀ w', Kept WA w' none → w'.cell? ⟨pb, po + p * 5 + 4, none⟩ = some (.bool (S.ph p).always) := fun w' q => ((HS.out.kept q).phq rfl hp).2.2.2.2.2
  have HPB := Hid.mk' ((HS.out.phq rfl hp).1)
  have HHP := Hid.mk' hp
  have HSI := Hid.mk' hs
  clear h
  generalize S.ph p = P at *
  go_enter Tryd.func27, Tryd.ntmps27
  go_wp2_with (first | rw [hWA] | (go_at_call 47; refine HWH.out.mono ?_; rintro e wW ⟨rfl, hkW⟩; have hKW : Kept WA wW none := hkW; have BX := HBQ.out.kept hKW; have v0 := BX.c0; have v1 := BX.c1; have t0 := BX.f0; have t1 := BX.f1; have z0 := (HBZ.out.kept hKW).c0; have z1 := (HBZ.out.kept hKW).c1; have u0 := (HBZ.out.kept hKW).f0; have u1 := (HBZ.out.kept hKW).f1; have l3 : w.heap.size + 1 + 1 + 1 < wW.heap.size := Nat.lt_of_lt_of_le HBZ.out.lt hKW.size; have l2 : w.heap.size + 1 + 1 < wW.heap.size := (by omega); have l1 : w.heap.size + 1 < wW.heap.size := (by omega); have l0 : w.heap.size < wW.heap.size := (by omega); clear BX; have lpb : pb < wW.heap.size := Nat.lt_of_lt_of_le HPB.out hKW.size))
  have k4 : Kept (wW.setCell ⟨w.heap.size + 1, 1, none⟩ (.int .i64 (s + 1))) ((wW.setCell ⟨w.heap.size + 1, 1, none⟩ (.int .i64 (s + 1))).alloc (.cells #[.int .u32 (P.groups : Int), .int .i64 P.min, .int .i64 P.max, .int .i64 P.gap, .bool P.always] 64)) none := Kept.alloc _ _ _ _ _
  have kw := ((HK.out.tr hKW).setNew (p := ⟨w.heap.size + 1, 1, none⟩) (by show w.heap.size ≤ w.heap.size + 1; omega) _).tr k4
  have kq : Kept WA ((wW.setCell ⟨w.heap.size + 1, 1, none⟩ (.int .i64 (s + 1))).alloc (.cells #[.int .u32 (P.groups : Int), .int .i64 P.min, .int .i64 P.max, .int .i64 P.gap, .bool P.always] 64)) (some (w.heap.size + 1)) := ((hKW.weakS (some (w.heap.size + 1))).setRow _ _).tr (k4.weakS _)
  have HQ1 : Hid (Bx2 ((wW.setCell ⟨w.heap.size + 1, 1, none⟩ (.int .i64 (s + 1))).alloc (.cells #[.int .u32 (P.groups : Int), .int .i64 P.min, .int .i64 P.max, .int .i64 P.gap, .bool P.always] 64)) (w.heap.size + 1) (.int .i64 (p : Int)) (.int .i64 (s + 1))) := ((HBQ.out.kept hKW).set1 _).kept k4
  have HZ1 := Hid.mk' (HBZ.out.keptR kq (by simp <;> omega))
  have HSB1 := Hid.mk' (Sbox.oth HSAT.out HSB.out kw kq (show w.heap.size ≠ w.heap.size + 1 by omega))
  obtain ⟨WL, hWL⟩ : ∃ WL, (wW.setCell ⟨w.heap.size + 1, 1, none⟩ (.int .i64 (s + 1))).alloc (.cells #[.int .u32 (P.groups : Int), .int .i64 P.min, .int .i64 P.max, .int .i64 P.gap, .bool P.always] 64) = WL := ⟨_, rfl⟩
  rw [hWL] at kw HQ1 HZ1 HSB1 ⊢
  have HKL := Hid.mk' kw
  clear hWL k4 kw kq v0 v1 t0 t1 z0 z1 u0 u1 hKW hkW l0 l1 l2 l3 lpb s0_ s1_ s2_ s3_ s4_ s5_ s6_ s7_ s8_ s9_ s10_ s11_ n0_ n1_ n2_ q0_ q1_ r0_ r1_ r2_ r3_ r4_ hK0 HSB HBN HBZ HBQ HS HF
  have s0_ : ∀ w', Kept WL w' none → w'.cell? ⟨w.heap.size, 0, none⟩ = some (.int .i64 S.id) := fun w' q => (HSB1.out.kept q).c0
  have s1_ : ∀ w', Kept WL w' none → w'.cell? ⟨w.heap.size, 1, none⟩ = some (.slice xg S.groups.length xgc) := fun w' q => (HSB1.out.kept q).c1
  have s2_ : ∀ w', Kept WL w' none → w'.cell? ⟨w.heap.size, 2, none⟩ = some (.slice xa S.apart.length xac) := fun w' q => (HSB1.out.kept q).c2
  have s3_ : ∀ w', Kept WL w' none → w'.cell? ⟨w.heap.size, 3, none⟩ = some (.slice xb S.between.length xbc) := fun w' q => (HSB1.out.kept q).c3
  have s4_ : ∀ w', Kept WL w' none → w'.cell? ⟨w.heap.size, 4, none⟩ = some (.slice (some ⟨pb, po, none⟩) S.phases.length xpc) := fun w' q => (HSB1.out.kept q).c4
  have s5_ : ∀ w', Kept WL w' none → w'.cell? ⟨w.heap.size, 5, none⟩ = some (.slice xe S.eyes.length xec) := fun w' q => (HSB1.out.kept q).c5
  have s6_ : ∀ w', Kept WL w' none → w'.cell? ⟨w.heap.size, 6, none⟩ = some (.int .i64 S.watch) := fun w' q => (HSB1.out.kept q).c6
  have s7_ : ∀ w', Kept WL w' none → w'.cell? ⟨w.heap.size, 7, none⟩ = some (.int .i64 S.feed) := fun w' q => (HSB1.out.kept q).c7
  have s8_ : ∀ w', Kept WL w' none → w'.cell? ⟨w.heap.size, 8, none⟩ = some (.int .i64 S.heal) := fun w' q => (HSB1.out.kept q).c8
  have s9_ : ∀ w', Kept WL w' none → w'.cell? ⟨w.heap.size, 9, none⟩ = some (.int .i64 S.low) := fun w' q => (HSB1.out.kept q).c9
  have s10_ : ∀ w', Kept WL w' none → w'.cell? ⟨w.heap.size, 10, none⟩ = some (.int .i64 S.high) := fun w' q => (HSB1.out.kept q).c10
  have s11_ : ∀ w', Kept WL w' none → w'.cell? ⟨w.heap.size, 11, none⟩ = some (.slice xl S.plans.length xlc) := fun w' q => (HSB1.out.kept q).c11
  have q0_ : ∀ w', Kept WL w' none → w'.cell? ⟨w.heap.size + 1, 0, none⟩ = some (.int .i64 (p : Int)) := fun w' q => (HQ1.out.kept q).c0
  have q1_ : ∀ w', Kept WL w' none → w'.cell? ⟨w.heap.size + 1, 1, none⟩ = some (.int .i64 (s + 1)) := fun w' q => (HQ1.out.kept q).c1
  have hnN : ¬ (S.phases.length : Int) = 0 := by omega
  go_loopw [12, 13] (fun i _ wr => ∃ j : Nat, j + 1 ≤ S.phases.length ∧ i = .int .i64 ((j + 1 : Nat) : Int) ∧ Kept WL wr none ∧ ∀ m, m < j → callB S c ((p + 1 + m) % S.phases.length) = false) (fun i _ _ => S.phases.length - (intOf i).toNat)
  case atStart => exact ⟨0, by omega, rfl, Kept.refl _ _, fun m hm => by omega⟩
  case round =>
    obtain ⟨j, hj, rfl, hkr, hno⟩ := hrel
    have HNO := Hid.mk' hno
    have HKR := Hid.mk' hkr
    have z0 := (HZ1.out.kept hkr).c0
    have z1 := (HZ1.out.kept hkr).c1
    have u0 := (HZ1.out.kept hkr).f0
    have u1 := (HZ1.out.kept hkr).f1
    clear hno
    by_cases hlt : j + 1 < S.phases.length
    · have e1 : ((p : Int) + ((j + 1 : Nat) : Int)).tmod (S.phases.length : Int) = (((p + 1 + j) % S.phases.length : Nat) : Int) := by
        rw [show (p : Int) + ((j + 1 : Nat) : Int) = ((p + 1 + j : Nat) : Int) by omega, Int.tmod_eq_emod_of_nonneg (by omega)]
        simp
      have e1' : ((p : Int) + ((j : Int) + 1)).tmod (S.phases.length : Int) = (((p + 1 + j) % S.phases.length : Nat) : Int) := by
        rw [← e1]; congr 1
      have e2 : ((p : Int) + ((j + 1 : Nat) : Int)) % (S.phases.length : Int) = (((p + 1 + j) % S.phases.length : Nat) : Int) := by
        rw [show (p : Int) + ((j + 1 : Nat) : Int) = ((p + 1 + j : Nat) : Int) by omega]
        simp
      have e2' : ((p : Int) + ((j : Int) + 1)) % (S.phases.length : Int) = (((p + 1 + j) % S.phases.length : Nat) : Int) := by
        rw [← e2]; congr 1
      have hmd : (p + 1 + j) % S.phases.length < S.phases.length := Nat.mod_lt _ (by omega)
      have HCA : Hid (∀ w', Kept WL w' none → Calls Tryd.prog 48 #[siteV ⟨xg, xgc, xa, xac, xb, xbc, some ⟨pb, po, none⟩, xpc, xe, xec, xl, xlc⟩ S, .int .u32 (c : Int), .int .i64 (((p + 1 + j) % S.phases.length : Nat) : Int)] w' fun e w2 => e = .returned (.bool (callB S c ((p + 1 + j) % S.phases.length))) ∧ Kept w' w2 none) := fun w' q => rcal16_any (HSAT.out.kept (HKL.out.tr q)) c _ hc hmd (by omega)
      have HEX : Hid (callB S c ((p + 1 + j) % S.phases.length) = false → ∀ m, m < j + 1 → callB S c ((p + 1 + m) % S.phases.length) = false) := fun e m hm => by
        by_cases q : m = j
        · rw [q]; exact e
        · exact HNO.out m (by omega)
      have HFD : Hid (callB S c ((p + 1 + j) % S.phases.length) = true → nxQ S c p = some j) := fun e => by
        unfold nxQ
        exact firstN_some (by omega) (fun m hm => by rw [if_neg (by rw [HNO.out m hm]; decide)]) (by rw [if_pos e]; decide)
      obtain ⟨cb, hcb⟩ : ∃ cb, callB S c ((p + 1 + j) % S.phases.length) = cb := ⟨_, rfl⟩
      rw [hcb] at HCA HEX HFD
      obtain ⟨M, hM⟩ : ∃ M, (p + 1 + j) % S.phases.length = M := ⟨_, rfl⟩
      rw [hM] at HCA e1 e1' e2 e2' hmd
      have HM := Hid.mk' hM
      clear hcb hM
      cases cb with
      | false =>
        have HE := Hid.mk' (HEX.out rfl)
        clear HEX HFD
        go_wp2_with (go_at_call 48; refine (HCA.out _ hkr).mono ?_; rintro e wC ⟨rfl, hkC⟩; have hKC : Kept WL wC none := hkr.tr hkC)
        go_roundw
        case rel => exact ⟨j + 1, by omega, by go_num, hKC, HE.out⟩
        case measure => simp [intOf]; omega
      | true =>
        have HE := Hid.mk' (HG1.out j (HFD.out rfl))
        clear HEX HFD
        go_wp2_with (go_at_call 48; refine (HCA.out _ hkr).mono ?_; rintro e wC ⟨rfl, hkC⟩; have hKC : Kept WL wC none := hkr.tr hkC; have z0 := (HZ1.out.kept hKC).c0; have z1 := (HZ1.out.kept hKC).c1; have u0 := (HZ1.out.kept hKC).f0; have u1 := (HZ1.out.kept hKC).f1)
        refine bodyPost_ret (v := .agg #[.int .i64 (M : Int), .int .i64 0]) (by simp [results, Tryd.results27, go_sem, z0, z1]) rfl ⟨by rw [HE.out, HM.out], ?_⟩
        exact ((HKL.out.tr hKC).setNew (p := ⟨w.heap.size + 1 + 1 + 1, 0, none⟩) (by show w.heap.size ≤ w.heap.size + 1 + 1 + 1; omega) _).setNew (p := ⟨w.heap.size + 1 + 1 + 1, 1, none⟩) (by show w.heap.size ≤ w.heap.size + 1 + 1 + 1; omega) _
    · have HE := Hid.mk' (HG0.out (by
        unfold nxQ
        exact firstN_none (fun m hm => by rw [if_neg (by rw [HNO.out m (by omega)]; decide)])))
      go_wp2
      refine bodyPost_ret (v := .agg #[.int .i64 (p : Int), .int .i64 (s + 1)]) (by simp [results, Tryd.results27, go_sem, z0, z1]) rfl ⟨by rw [HE.out], ?_⟩
      exact ((HKL.out.tr HKR.out).setNew (p := ⟨w.heap.size + 1 + 1 + 1, 0, none⟩) (by show w.heap.size ≤ w.heap.size + 1 + 1 + 1; omega) _).setNew (p := ⟨w.heap.size + 1 + 1 + 1, 1, none⟩) (by show w.heap.size ≤ w.heap.size + 1 + 1 + 1; omega) _
set_option maxRecDepth 100000 in
set_option maxHeartbeats 4000000 in
theorem rgo16_dl {X : Sa} {S : St} {w : World} (h : Sat w X S) {a : Option Addr} {ca : Nat} {F : Sf} (hF : SafeAt w a ca F) (p : Nat) (hp : p < S.phases.length) (hs : siteB S = true) (hl : F.groups.length = S.groups.length) (c g : Nat) (hc : c < 4294967296) (hg : g < 4294967296) (s : Int) (hs0 : 0 ≤ s) (hs9 : s < 1048576) (hf : fullB S F p = true) (h1 : ¬ (s + 1) < (S.ph p).min) (hgb : g.testBit p = false) (h2 : ¬ (s + 1) < (S.ph p).max) (G : Sq) (hG1 : ∀ j, nxQ S c p = some j → G = ⟨(p + 1 + j) % S.phases.length, 0⟩) (hG0 : nxQ S c p = none → G = ⟨p, (s + 1)⟩) : Calls Tryd.prog 27 #[siteV X S, .agg #[.int .i64 (p : Int), .int .i64 s], .agg #[.slice a S.groups.length ca, .int .i64 F.start, .bool F.flashed], .int .u32 (c : Int), .int .u32 (g : Int)] w fun e w' => e = .returned (.agg #[.int .i64 (G.ph : Int), .int .i64 G.since]) ∧ Kept w w' none := by
  have hng := (span_may hs).base.sh.ok.ng
  have hn := (span_may hs).base.sh.ok.np
  have hgv := gap_bit (p := p) hg
  have hgu : ((p : Int) % 18446744073709551616) = (p : Int) := by omega
  obtain ⟨xg, xgc, xa, xac, xb, xbc, xp, xpc, xe, xec, xl, xlc⟩ := X
  obtain ⟨pb, po, ep⟩ := h.ppq (show 0 < S.phases.length by omega)
  dsimp only at ep
  subst ep
  have hrm := h.pk.room
  have hpw := (h.phq rfl hp).1
  have hne1 : ¬ pb = w.heap.size + 1 := by omega
  have hne2 : ¬ w.heap.size + 1 = pb := by omega
  have HSAT := Hid.mk' h
  rw [hgb, if_neg (by decide)] at hgv
  clear hgb
  have HG1 := Hid.mk' hG1
  have HG0 := Hid.mk' hG0
  clear hG1 hG0
  obtain ⟨WA, hWA⟩ : ∃ WA, ((((w.alloc (.cells #[.int .i64 S.id, .slice xg S.groups.length xgc, .slice xa S.apart.length xac, .slice xb S.between.length xbc, .slice (some ⟨pb, po, none⟩) S.phases.length xpc, .slice xe S.eyes.length xec, .int .i64 S.watch, .int .i64 S.feed, .int .i64 S.heal, .int .i64 S.low, .int .i64 S.high, .slice xl S.plans.length xlc] 37)).alloc (.cells #[.int .i64 (p : Int), .int .i64 s] 40)).alloc (.cells #[.slice a S.groups.length ca, .int .i64 F.start, .bool F.flashed] 26)).alloc (.cells #[.int .i64 0, .int .i64 0] 40)) = WA := ⟨_, rfl⟩
  obtain ⟨⟨HSB, HBQ, HBN, HK, HS, HF, HSZ, q0_, q1_, n0_, n1_, n2_, s0_, s1_, s2_, s3_, s4_, s5_, s6_, s7_, s8_, s9_, s10_, s11_⟩, HBZ⟩ := hd3z h hF hWA
  have hK0 := Kept.refl WA none
  clear hF
  have HWH : Hid (Calls Tryd.prog 47 #[siteV ⟨xg, xgc, xa, xac, xb, xbc, some ⟨pb, po, none⟩, xpc, xe, xec, xl, xlc⟩ S, .agg #[.slice a S.groups.length ca, .int .i64 F.start, .bool F.flashed], .int .i64 (p : Int)] WA fun e w' => e = .returned (.bool true) ∧ Kept WA w' none) := by
    have hx := rwhole15_any HS.out HF.out (by omega) hp hl
    rw [hf] at hx
    exact hx
  clear hf hl
  have r0_ : ∀ w', Kept WA w' none → w'.cell? ⟨pb, po + p * 5, none⟩ = some (.int .u32 ((S.ph p).groups : Int)) := fun w' q => ((HS.out.kept q).phq rfl hp).2.1
  have r1_ : ∀ w', Kept WA w' none → w'.cell? ⟨pb, po + p * 5 + 1, none⟩ = some (.int .i64 (S.ph p).min) := fun w' q => ((HS.out.kept q).phq rfl hp).2.2.1
  have r2_ : ∀ w', Kept WA w' none → w'.cell? ⟨pb, po + p * 5 + 2, none⟩ = some (.int .i64 (S.ph p).max) := fun w' q => ((HS.out.kept q).phq rfl hp).2.2.2.1
  have r3_ : ∀ w', Kept WA w' none → w'.cell? ⟨pb, po + p * 5 + 3, none⟩ = some (.int .i64 (S.ph p).gap) := fun w' q => ((HS.out.kept q).phq rfl hp).2.2.2.2.1
  have r4_ : ∀ w', Kept WA w' none → w'.cell? ⟨pb, po + p * 5 + 4, none⟩ = some (.bool (S.ph p).always) := fun w' q => ((HS.out.kept q).phq rfl hp).2.2.2.2.2
  have HPB := Hid.mk' ((HS.out.phq rfl hp).1)
  have HHP := Hid.mk' hp
  have HSI := Hid.mk' hs
  clear h
  generalize S.ph p = P at *
  go_enter Tryd.func27, Tryd.ntmps27
  go_wp2_with (first | rw [hWA] | (go_at_call 47; refine HWH.out.mono ?_; rintro e wW ⟨rfl, hkW⟩; have hKW : Kept WA wW none := hkW; have BX := HBQ.out.kept hKW; have v0 := BX.c0; have v1 := BX.c1; have t0 := BX.f0; have t1 := BX.f1; have z0 := (HBZ.out.kept hKW).c0; have z1 := (HBZ.out.kept hKW).c1; have u0 := (HBZ.out.kept hKW).f0; have u1 := (HBZ.out.kept hKW).f1; have l3 : w.heap.size + 1 + 1 + 1 < wW.heap.size := Nat.lt_of_lt_of_le HBZ.out.lt hKW.size; have l2 : w.heap.size + 1 + 1 < wW.heap.size := (by omega); have l1 : w.heap.size + 1 < wW.heap.size := (by omega); have l0 : w.heap.size < wW.heap.size := (by omega); clear BX; have lpb : pb < wW.heap.size := Nat.lt_of_lt_of_le HPB.out hKW.size))
  have k4 : Kept (wW.setCell ⟨w.heap.size + 1, 1, none⟩ (.int .i64 (s + 1))) ((wW.setCell ⟨w.heap.size + 1, 1, none⟩ (.int .i64 (s + 1))).alloc (.cells #[.int .u32 (P.groups : Int), .int .i64 P.min, .int .i64 P.max, .int .i64 P.gap, .bool P.always] 64)) none := Kept.alloc _ _ _ _ _
  have kw := ((HK.out.tr hKW).setNew (p := ⟨w.heap.size + 1, 1, none⟩) (by show w.heap.size ≤ w.heap.size + 1; omega) _).tr k4
  have kq : Kept WA ((wW.setCell ⟨w.heap.size + 1, 1, none⟩ (.int .i64 (s + 1))).alloc (.cells #[.int .u32 (P.groups : Int), .int .i64 P.min, .int .i64 P.max, .int .i64 P.gap, .bool P.always] 64)) (some (w.heap.size + 1)) := ((hKW.weakS (some (w.heap.size + 1))).setRow _ _).tr (k4.weakS _)
  have HQ1 : Hid (Bx2 ((wW.setCell ⟨w.heap.size + 1, 1, none⟩ (.int .i64 (s + 1))).alloc (.cells #[.int .u32 (P.groups : Int), .int .i64 P.min, .int .i64 P.max, .int .i64 P.gap, .bool P.always] 64)) (w.heap.size + 1) (.int .i64 (p : Int)) (.int .i64 (s + 1))) := ((HBQ.out.kept hKW).set1 _).kept k4
  have HZ1 := Hid.mk' (HBZ.out.keptR kq (by simp <;> omega))
  have HSB1 := Hid.mk' (Sbox.oth HSAT.out HSB.out kw kq (show w.heap.size ≠ w.heap.size + 1 by omega))
  obtain ⟨WL, hWL⟩ : ∃ WL, (wW.setCell ⟨w.heap.size + 1, 1, none⟩ (.int .i64 (s + 1))).alloc (.cells #[.int .u32 (P.groups : Int), .int .i64 P.min, .int .i64 P.max, .int .i64 P.gap, .bool P.always] 64) = WL := ⟨_, rfl⟩
  rw [hWL] at kw HQ1 HZ1 HSB1 ⊢
  have HKL := Hid.mk' kw
  clear hWL k4 kw kq v0 v1 t0 t1 z0 z1 u0 u1 hKW hkW l0 l1 l2 l3 lpb s0_ s1_ s2_ s3_ s4_ s5_ s6_ s7_ s8_ s9_ s10_ s11_ n0_ n1_ n2_ q0_ q1_ r0_ r1_ r2_ r3_ r4_ hK0 HSB HBN HBZ HBQ HS HF
  have s0_ : ∀ w', Kept WL w' none → w'.cell? ⟨w.heap.size, 0, none⟩ = some (.int .i64 S.id) := fun w' q => (HSB1.out.kept q).c0
  have s1_ : ∀ w', Kept WL w' none → w'.cell? ⟨w.heap.size, 1, none⟩ = some (.slice xg S.groups.length xgc) := fun w' q => (HSB1.out.kept q).c1
  have s2_ : ∀ w', Kept WL w' none → w'.cell? ⟨w.heap.size, 2, none⟩ = some (.slice xa S.apart.length xac) := fun w' q => (HSB1.out.kept q).c2
  have s3_ : ∀ w', Kept WL w' none → w'.cell? ⟨w.heap.size, 3, none⟩ = some (.slice xb S.between.length xbc) := fun w' q => (HSB1.out.kept q).c3
  have s4_ : ∀ w', Kept WL w' none → w'.cell? ⟨w.heap.size, 4, none⟩ = some (.slice (some ⟨pb, po, none⟩) S.phases.length xpc) := fun w' q => (HSB1.out.kept q).c4
  have s5_ : ∀ w', Kept WL w' none → w'.cell? ⟨w.heap.size, 5, none⟩ = some (.slice xe S.eyes.length xec) := fun w' q => (HSB1.out.kept q).c5
  have s6_ : ∀ w', Kept WL w' none → w'.cell? ⟨w.heap.size, 6, none⟩ = some (.int .i64 S.watch) := fun w' q => (HSB1.out.kept q).c6
  have s7_ : ∀ w', Kept WL w' none → w'.cell? ⟨w.heap.size, 7, none⟩ = some (.int .i64 S.feed) := fun w' q => (HSB1.out.kept q).c7
  have s8_ : ∀ w', Kept WL w' none → w'.cell? ⟨w.heap.size, 8, none⟩ = some (.int .i64 S.heal) := fun w' q => (HSB1.out.kept q).c8
  have s9_ : ∀ w', Kept WL w' none → w'.cell? ⟨w.heap.size, 9, none⟩ = some (.int .i64 S.low) := fun w' q => (HSB1.out.kept q).c9
  have s10_ : ∀ w', Kept WL w' none → w'.cell? ⟨w.heap.size, 10, none⟩ = some (.int .i64 S.high) := fun w' q => (HSB1.out.kept q).c10
  have s11_ : ∀ w', Kept WL w' none → w'.cell? ⟨w.heap.size, 11, none⟩ = some (.slice xl S.plans.length xlc) := fun w' q => (HSB1.out.kept q).c11
  have q0_ : ∀ w', Kept WL w' none → w'.cell? ⟨w.heap.size + 1, 0, none⟩ = some (.int .i64 (p : Int)) := fun w' q => (HQ1.out.kept q).c0
  have q1_ : ∀ w', Kept WL w' none → w'.cell? ⟨w.heap.size + 1, 1, none⟩ = some (.int .i64 (s + 1)) := fun w' q => (HQ1.out.kept q).c1
  have hnN : ¬ (S.phases.length : Int) = 0 := by omega
  go_loopw [12, 13] (fun i _ wr => ∃ j : Nat, j + 1 ≤ S.phases.length ∧ i = .int .i64 ((j + 1 : Nat) : Int) ∧ Kept WL wr none ∧ ∀ m, m < j → callB S c ((p + 1 + m) % S.phases.length) = false) (fun i _ _ => S.phases.length - (intOf i).toNat)
  case atStart => exact ⟨0, by omega, rfl, Kept.refl _ _, fun m hm => by omega⟩
  case round =>
    obtain ⟨j, hj, rfl, hkr, hno⟩ := hrel
    have HNO := Hid.mk' hno
    have HKR := Hid.mk' hkr
    have z0 := (HZ1.out.kept hkr).c0
    have z1 := (HZ1.out.kept hkr).c1
    have u0 := (HZ1.out.kept hkr).f0
    have u1 := (HZ1.out.kept hkr).f1
    clear hno
    by_cases hlt : j + 1 < S.phases.length
    · have e1 : ((p : Int) + ((j + 1 : Nat) : Int)).tmod (S.phases.length : Int) = (((p + 1 + j) % S.phases.length : Nat) : Int) := by
        rw [show (p : Int) + ((j + 1 : Nat) : Int) = ((p + 1 + j : Nat) : Int) by omega, Int.tmod_eq_emod_of_nonneg (by omega)]
        simp
      have e1' : ((p : Int) + ((j : Int) + 1)).tmod (S.phases.length : Int) = (((p + 1 + j) % S.phases.length : Nat) : Int) := by
        rw [← e1]; congr 1
      have e2 : ((p : Int) + ((j + 1 : Nat) : Int)) % (S.phases.length : Int) = (((p + 1 + j) % S.phases.length : Nat) : Int) := by
        rw [show (p : Int) + ((j + 1 : Nat) : Int) = ((p + 1 + j : Nat) : Int) by omega]
        simp
      have e2' : ((p : Int) + ((j : Int) + 1)) % (S.phases.length : Int) = (((p + 1 + j) % S.phases.length : Nat) : Int) := by
        rw [← e2]; congr 1
      have hmd : (p + 1 + j) % S.phases.length < S.phases.length := Nat.mod_lt _ (by omega)
      have HCA : Hid (∀ w', Kept WL w' none → Calls Tryd.prog 48 #[siteV ⟨xg, xgc, xa, xac, xb, xbc, some ⟨pb, po, none⟩, xpc, xe, xec, xl, xlc⟩ S, .int .u32 (c : Int), .int .i64 (((p + 1 + j) % S.phases.length : Nat) : Int)] w' fun e w2 => e = .returned (.bool (callB S c ((p + 1 + j) % S.phases.length))) ∧ Kept w' w2 none) := fun w' q => rcal16_any (HSAT.out.kept (HKL.out.tr q)) c _ hc hmd (by omega)
      have HEX : Hid (callB S c ((p + 1 + j) % S.phases.length) = false → ∀ m, m < j + 1 → callB S c ((p + 1 + m) % S.phases.length) = false) := fun e m hm => by
        by_cases q : m = j
        · rw [q]; exact e
        · exact HNO.out m (by omega)
      have HFD : Hid (callB S c ((p + 1 + j) % S.phases.length) = true → nxQ S c p = some j) := fun e => by
        unfold nxQ
        exact firstN_some (by omega) (fun m hm => by rw [if_neg (by rw [HNO.out m hm]; decide)]) (by rw [if_pos e]; decide)
      obtain ⟨cb, hcb⟩ : ∃ cb, callB S c ((p + 1 + j) % S.phases.length) = cb := ⟨_, rfl⟩
      rw [hcb] at HCA HEX HFD
      obtain ⟨M, hM⟩ : ∃ M, (p + 1 + j) % S.phases.length = M := ⟨_, rfl⟩
      rw [hM] at HCA e1 e1' e2 e2' hmd
      have HM := Hid.mk' hM
      clear hcb hM
      cases cb with
      | false =>
        have HE := Hid.mk' (HEX.out rfl)
        clear HEX HFD
        go_wp2_with (go_at_call 48; refine (HCA.out _ hkr).mono ?_; rintro e wC ⟨rfl, hkC⟩; have hKC : Kept WL wC none := hkr.tr hkC)
        go_roundw
        case rel => exact ⟨j + 1, by omega, by go_num, hKC, HE.out⟩
        case measure => simp [intOf]; omega
      | true =>
        have HE := Hid.mk' (HG1.out j (HFD.out rfl))
        clear HEX HFD
        go_wp2_with (go_at_call 48; refine (HCA.out _ hkr).mono ?_; rintro e wC ⟨rfl, hkC⟩; have hKC : Kept WL wC none := hkr.tr hkC; have z0 := (HZ1.out.kept hKC).c0; have z1 := (HZ1.out.kept hKC).c1; have u0 := (HZ1.out.kept hKC).f0; have u1 := (HZ1.out.kept hKC).f1)
        refine bodyPost_ret (v := .agg #[.int .i64 (M : Int), .int .i64 0]) (by simp [results, Tryd.results27, go_sem, z0, z1]) rfl ⟨by rw [HE.out, HM.out], ?_⟩
        exact ((HKL.out.tr hKC).setNew (p := ⟨w.heap.size + 1 + 1 + 1, 0, none⟩) (by show w.heap.size ≤ w.heap.size + 1 + 1 + 1; omega) _).setNew (p := ⟨w.heap.size + 1 + 1 + 1, 1, none⟩) (by show w.heap.size ≤ w.heap.size + 1 + 1 + 1; omega) _
    · have HE := Hid.mk' (HG0.out (by
        unfold nxQ
        exact firstN_none (fun m hm => by rw [if_neg (by rw [HNO.out m (by omega)]; decide)])))
      go_wp2
      refine bodyPost_ret (v := .agg #[.int .i64 (p : Int), .int .i64 (s + 1)]) (by simp [results, Tryd.results27, go_sem, z0, z1]) rfl ⟨by rw [HE.out], ?_⟩
      exact ((HKL.out.tr HKR.out).setNew (p := ⟨w.heap.size + 1 + 1 + 1, 0, none⟩) (by show w.heap.size ≤ w.heap.size + 1 + 1 + 1; omega) _).setNew (p := ⟨w.heap.size + 1 + 1 + 1, 1, none⟩) (by show w.heap.size ≤ w.heap.size + 1 + 1 + 1; omega) _
set_option maxRecDepth 100000 in
set_option maxHeartbeats 4000000 in
theorem rgo16_ah {X : Sa} {S : St} {w : World} (h : Sat w X S) {a : Option Addr} {ca : Nat} {F : Sf} (hF : SafeAt w a ca F) (p : Nat) (hp : p < S.phases.length) (hs : siteB S = true) (hl : F.groups.length = S.groups.length) (c g : Nat) (hc : c < 4294967296) (hg : g < 4294967296) (hf : fullB S F p = true) (h1 : 1048576 < (S.ph p).min) : Calls Tryd.prog 27 #[siteV X S, .agg #[.int .i64 (p : Int), .int .i64 1048576], .agg #[.slice a S.groups.length ca, .int .i64 F.start, .bool F.flashed], .int .u32 (c : Int), .int .u32 (g : Int)] w fun e w' => e = .returned (.agg #[.int .i64 (p : Int), .int .i64 1048576]) ∧ Kept w w' none := by
  have hng := (span_may hs).base.sh.ok.ng
  have hn := (span_may hs).base.sh.ok.np
  have hgv := gap_bit (p := p) hg
  have hgu : ((p : Int) % 18446744073709551616) = (p : Int) := by omega
  obtain ⟨xg, xgc, xa, xac, xb, xbc, xp, xpc, xe, xec, xl, xlc⟩ := X
  obtain ⟨pb, po, ep⟩ := h.ppq (show 0 < S.phases.length by omega)
  dsimp only at ep
  subst ep
  have hrm := h.pk.room
  have hpw := (h.phq rfl hp).1
  have hne1 : ¬ pb = w.heap.size + 1 := by omega
  have hne2 : ¬ w.heap.size + 1 = pb := by omega
  have HSAT := Hid.mk' h
  obtain ⟨WA, hWA⟩ : ∃ WA, ((((w.alloc (.cells #[.int .i64 S.id, .slice xg S.groups.length xgc, .slice xa S.apart.length xac, .slice xb S.between.length xbc, .slice (some ⟨pb, po, none⟩) S.phases.length xpc, .slice xe S.eyes.length xec, .int .i64 S.watch, .int .i64 S.feed, .int .i64 S.heal, .int .i64 S.low, .int .i64 S.high, .slice xl S.plans.length xlc] 37)).alloc (.cells #[.int .i64 (p : Int), .int .i64 1048576] 40)).alloc (.cells #[.slice a S.groups.length ca, .int .i64 F.start, .bool F.flashed] 26)).alloc (.cells #[.int .i64 0, .int .i64 0] 40)) = WA := ⟨_, rfl⟩
  obtain ⟨⟨HSB, HBQ, HBN, HK, HS, HF, HSZ, q0_, q1_, n0_, n1_, n2_, s0_, s1_, s2_, s3_, s4_, s5_, s6_, s7_, s8_, s9_, s10_, s11_⟩, HBZ⟩ := hd3z h hF hWA
  have hK0 := Kept.refl WA none
  clear hF
  have HWH : Hid (Calls Tryd.prog 47 #[siteV ⟨xg, xgc, xa, xac, xb, xbc, some ⟨pb, po, none⟩, xpc, xe, xec, xl, xlc⟩ S, .agg #[.slice a S.groups.length ca, .int .i64 F.start, .bool F.flashed], .int .i64 (p : Int)] WA fun e w' => e = .returned (.bool true) ∧ Kept WA w' none) := by
    have hx := rwhole15_any HS.out HF.out (by omega) hp hl
    rw [hf] at hx
    exact hx
  clear hf hl
  have r0_ : ∀ w', Kept WA w' none → w'.cell? ⟨pb, po + p * 5, none⟩ = some (.int .u32 ((S.ph p).groups : Int)) := fun w' q => ((HS.out.kept q).phq rfl hp).2.1
  have r1_ : ∀ w', Kept WA w' none → w'.cell? ⟨pb, po + p * 5 + 1, none⟩ = some (.int .i64 (S.ph p).min) := fun w' q => ((HS.out.kept q).phq rfl hp).2.2.1
  have r2_ : ∀ w', Kept WA w' none → w'.cell? ⟨pb, po + p * 5 + 2, none⟩ = some (.int .i64 (S.ph p).max) := fun w' q => ((HS.out.kept q).phq rfl hp).2.2.2.1
  have r3_ : ∀ w', Kept WA w' none → w'.cell? ⟨pb, po + p * 5 + 3, none⟩ = some (.int .i64 (S.ph p).gap) := fun w' q => ((HS.out.kept q).phq rfl hp).2.2.2.2.1
  have r4_ : ∀ w', Kept WA w' none → w'.cell? ⟨pb, po + p * 5 + 4, none⟩ = some (.bool (S.ph p).always) := fun w' q => ((HS.out.kept q).phq rfl hp).2.2.2.2.2
  have HPB := Hid.mk' ((HS.out.phq rfl hp).1)
  have HHP := Hid.mk' hp
  have HSI := Hid.mk' hs
  clear h
  generalize S.ph p = P at *
  go_enter Tryd.func27, Tryd.ntmps27
  go_wp2_with (first | rw [hWA] | (go_at_call 47; refine HWH.out.mono ?_; rintro e wW ⟨rfl, hkW⟩; have hKW : Kept WA wW none := hkW; have BX := HBQ.out.kept hKW; have v0 := BX.c0; have v1 := BX.c1; have t0 := BX.f0; have t1 := BX.f1; have z0 := (HBZ.out.kept hKW).c0; have z1 := (HBZ.out.kept hKW).c1; have u0 := (HBZ.out.kept hKW).f0; have u1 := (HBZ.out.kept hKW).f1; have l3 : w.heap.size + 1 + 1 + 1 < wW.heap.size := Nat.lt_of_lt_of_le HBZ.out.lt hKW.size; have l2 : w.heap.size + 1 + 1 < wW.heap.size := (by omega); have l1 : w.heap.size + 1 < wW.heap.size := (by omega); have l0 : w.heap.size < wW.heap.size := (by omega); clear BX; have lpb : pb < wW.heap.size := Nat.lt_of_lt_of_le HPB.out hKW.size))
  have kq0 : Kept WA wW (some (w.heap.size + 1)) := hKW.weakS (some (w.heap.size + 1))
  have BZ2 := ((HBZ.out.keptR kq0 (by simp <;> omega)).set (.int .i64 (p : Int)) (.int .i64 1048576)).kept (Kept.alloc _ #[.int .u32 (P.groups : Int), .int .i64 P.min, .int .i64 P.max, .int .i64 P.gap, .bool P.always] 64 (0, 0) none)
  have c0 := BZ2.c0
  have c1 := BZ2.c1
  refine bodyPost_ret (v := .agg #[.int .i64 (p : Int), .int .i64 1048576]) (by simp [results, Tryd.results27, go_sem, c0, c1]) rfl ⟨rfl, ?_⟩
  exact (((HK.out.tr hKW).setNew (p := ⟨w.heap.size + 1 + 1 + 1, 0, none⟩) (by show w.heap.size ≤ w.heap.size + 1 + 1 + 1; omega) _).setNew (p := ⟨w.heap.size + 1 + 1 + 1, 1, none⟩) (by show w.heap.size ≤ w.heap.size + 1 + 1 + 1; omega) _).tr (Kept.alloc _ _ _ _ _)
set_option maxRecDepth 100000 in
set_option maxHeartbeats 4000000 in
theorem rgo16_bh {X : Sa} {S : St} {w : World} (h : Sat w X S) {a : Option Addr} {ca : Nat} {F : Sf} (hF : SafeAt w a ca F) (p : Nat) (hp : p < S.phases.length) (hs : siteB S = true) (hl : F.groups.length = S.groups.length) (c g : Nat) (hc : c < 4294967296) (hg : g < 4294967296) (hf : fullB S F p = true) (h1 : ¬ 1048576 < (S.ph p).min) (hgb : g.testBit p = false) (h2 : 1048576 < (S.ph p).max) : Calls Tryd.prog 27 #[siteV X S, .agg #[.int .i64 (p : Int), .int .i64 1048576], .agg #[.slice a S.groups.length ca, .int .i64 F.start, .bool F.flashed], .int .u32 (c : Int), .int .u32 (g : Int)] w fun e w' => e = .returned (.agg #[.int .i64 (p : Int), .int .i64 1048576]) ∧ Kept w w' none := by
  have hng := (span_may hs).base.sh.ok.ng
  have hn := (span_may hs).base.sh.ok.np
  have hgv := gap_bit (p := p) hg
  have hgu : ((p : Int) % 18446744073709551616) = (p : Int) := by omega
  obtain ⟨xg, xgc, xa, xac, xb, xbc, xp, xpc, xe, xec, xl, xlc⟩ := X
  obtain ⟨pb, po, ep⟩ := h.ppq (show 0 < S.phases.length by omega)
  dsimp only at ep
  subst ep
  have hrm := h.pk.room
  have hpw := (h.phq rfl hp).1
  have hne1 : ¬ pb = w.heap.size + 1 := by omega
  have hne2 : ¬ w.heap.size + 1 = pb := by omega
  have HSAT := Hid.mk' h
  rw [hgb, if_neg (by decide)] at hgv
  clear hgb
  obtain ⟨WA, hWA⟩ : ∃ WA, ((((w.alloc (.cells #[.int .i64 S.id, .slice xg S.groups.length xgc, .slice xa S.apart.length xac, .slice xb S.between.length xbc, .slice (some ⟨pb, po, none⟩) S.phases.length xpc, .slice xe S.eyes.length xec, .int .i64 S.watch, .int .i64 S.feed, .int .i64 S.heal, .int .i64 S.low, .int .i64 S.high, .slice xl S.plans.length xlc] 37)).alloc (.cells #[.int .i64 (p : Int), .int .i64 1048576] 40)).alloc (.cells #[.slice a S.groups.length ca, .int .i64 F.start, .bool F.flashed] 26)).alloc (.cells #[.int .i64 0, .int .i64 0] 40)) = WA := ⟨_, rfl⟩
  obtain ⟨⟨HSB, HBQ, HBN, HK, HS, HF, HSZ, q0_, q1_, n0_, n1_, n2_, s0_, s1_, s2_, s3_, s4_, s5_, s6_, s7_, s8_, s9_, s10_, s11_⟩, HBZ⟩ := hd3z h hF hWA
  have hK0 := Kept.refl WA none
  clear hF
  have HWH : Hid (Calls Tryd.prog 47 #[siteV ⟨xg, xgc, xa, xac, xb, xbc, some ⟨pb, po, none⟩, xpc, xe, xec, xl, xlc⟩ S, .agg #[.slice a S.groups.length ca, .int .i64 F.start, .bool F.flashed], .int .i64 (p : Int)] WA fun e w' => e = .returned (.bool true) ∧ Kept WA w' none) := by
    have hx := rwhole15_any HS.out HF.out (by omega) hp hl
    rw [hf] at hx
    exact hx
  clear hf hl
  have r0_ : ∀ w', Kept WA w' none → w'.cell? ⟨pb, po + p * 5, none⟩ = some (.int .u32 ((S.ph p).groups : Int)) := fun w' q => ((HS.out.kept q).phq rfl hp).2.1
  have r1_ : ∀ w', Kept WA w' none → w'.cell? ⟨pb, po + p * 5 + 1, none⟩ = some (.int .i64 (S.ph p).min) := fun w' q => ((HS.out.kept q).phq rfl hp).2.2.1
  have r2_ : ∀ w', Kept WA w' none → w'.cell? ⟨pb, po + p * 5 + 2, none⟩ = some (.int .i64 (S.ph p).max) := fun w' q => ((HS.out.kept q).phq rfl hp).2.2.2.1
  have r3_ : ∀ w', Kept WA w' none → w'.cell? ⟨pb, po + p * 5 + 3, none⟩ = some (.int .i64 (S.ph p).gap) := fun w' q => ((HS.out.kept q).phq rfl hp).2.2.2.2.1
  have r4_ : ∀ w', Kept WA w' none → w'.cell? ⟨pb, po + p * 5 + 4, none⟩ = some (.bool (S.ph p).always) := fun w' q => ((HS.out.kept q).phq rfl hp).2.2.2.2.2
  have HPB := Hid.mk' ((HS.out.phq rfl hp).1)
  have HHP := Hid.mk' hp
  have HSI := Hid.mk' hs
  clear h
  generalize S.ph p = P at *
  go_enter Tryd.func27, Tryd.ntmps27
  go_wp2_with (first | rw [hWA] | (go_at_call 47; refine HWH.out.mono ?_; rintro e wW ⟨rfl, hkW⟩; have hKW : Kept WA wW none := hkW; have BX := HBQ.out.kept hKW; have v0 := BX.c0; have v1 := BX.c1; have t0 := BX.f0; have t1 := BX.f1; have z0 := (HBZ.out.kept hKW).c0; have z1 := (HBZ.out.kept hKW).c1; have u0 := (HBZ.out.kept hKW).f0; have u1 := (HBZ.out.kept hKW).f1; have l3 : w.heap.size + 1 + 1 + 1 < wW.heap.size := Nat.lt_of_lt_of_le HBZ.out.lt hKW.size; have l2 : w.heap.size + 1 + 1 < wW.heap.size := (by omega); have l1 : w.heap.size + 1 < wW.heap.size := (by omega); have l0 : w.heap.size < wW.heap.size := (by omega); clear BX; have lpb : pb < wW.heap.size := Nat.lt_of_lt_of_le HPB.out hKW.size))
  have kq0 : Kept WA wW (some (w.heap.size + 1)) := hKW.weakS (some (w.heap.size + 1))
  have BZ2 := ((HBZ.out.keptR kq0 (by simp <;> omega)).set (.int .i64 (p : Int)) (.int .i64 1048576)).kept (Kept.alloc _ #[.int .u32 (P.groups : Int), .int .i64 P.min, .int .i64 P.max, .int .i64 P.gap, .bool P.always] 64 (0, 0) none)
  have c0 := BZ2.c0
  have c1 := BZ2.c1
  refine bodyPost_ret (v := .agg #[.int .i64 (p : Int), .int .i64 1048576]) (by simp [results, Tryd.results27, go_sem, c0, c1]) rfl ⟨rfl, ?_⟩
  exact (((HK.out.tr hKW).setNew (p := ⟨w.heap.size + 1 + 1 + 1, 0, none⟩) (by show w.heap.size ≤ w.heap.size + 1 + 1 + 1; omega) _).setNew (p := ⟨w.heap.size + 1 + 1 + 1, 1, none⟩) (by show w.heap.size ≤ w.heap.size + 1 + 1 + 1; omega) _).tr (Kept.alloc _ _ _ _ _)
set_option maxRecDepth 100000 in
set_option maxHeartbeats 4000000 in
theorem rgo16_ch {X : Sa} {S : St} {w : World} (h : Sat w X S) {a : Option Addr} {ca : Nat} {F : Sf} (hF : SafeAt w a ca F) (p : Nat) (hp : p < S.phases.length) (hs : siteB S = true) (hl : F.groups.length = S.groups.length) (c g : Nat) (hc : c < 4294967296) (hg : g < 4294967296) (hf : fullB S F p = true) (h1 : ¬ 1048576 < (S.ph p).min) (hgb : g.testBit p = true) (G : Sq) (hG1 : ∀ j, nxQ S c p = some j → G = ⟨(p + 1 + j) % S.phases.length, 0⟩) (hG0 : nxQ S c p = none → G = ⟨p, 1048576⟩) : Calls Tryd.prog 27 #[siteV X S, .agg #[.int .i64 (p : Int), .int .i64 1048576], .agg #[.slice a S.groups.length ca, .int .i64 F.start, .bool F.flashed], .int .u32 (c : Int), .int .u32 (g : Int)] w fun e w' => e = .returned (.agg #[.int .i64 (G.ph : Int), .int .i64 G.since]) ∧ Kept w w' none := by
  have hng := (span_may hs).base.sh.ok.ng
  have hn := (span_may hs).base.sh.ok.np
  have hgv := gap_bit (p := p) hg
  have hgu : ((p : Int) % 18446744073709551616) = (p : Int) := by omega
  obtain ⟨xg, xgc, xa, xac, xb, xbc, xp, xpc, xe, xec, xl, xlc⟩ := X
  obtain ⟨pb, po, ep⟩ := h.ppq (show 0 < S.phases.length by omega)
  dsimp only at ep
  subst ep
  have hrm := h.pk.room
  have hpw := (h.phq rfl hp).1
  have hne1 : ¬ pb = w.heap.size + 1 := by omega
  have hne2 : ¬ w.heap.size + 1 = pb := by omega
  have HSAT := Hid.mk' h
  rw [hgb, if_pos rfl] at hgv
  clear hgb
  have HG1 := Hid.mk' hG1
  have HG0 := Hid.mk' hG0
  clear hG1 hG0
  obtain ⟨WA, hWA⟩ : ∃ WA, ((((w.alloc (.cells #[.int .i64 S.id, .slice xg S.groups.length xgc, .slice xa S.apart.length xac, .slice xb S.between.length xbc, .slice (some ⟨pb, po, none⟩) S.phases.length xpc, .slice xe S.eyes.length xec, .int .i64 S.watch, .int .i64 S.feed, .int .i64 S.heal, .int .i64 S.low, .int .i64 S.high, .slice xl S.plans.length xlc] 37)).alloc (.cells #[.int .i64 (p : Int), .int .i64 1048576] 40)).alloc (.cells #[.slice a S.groups.length ca, .int .i64 F.start, .bool F.flashed] 26)).alloc (.cells #[.int .i64 0, .int .i64 0] 40)) = WA := ⟨_, rfl⟩
  obtain ⟨⟨HSB, HBQ, HBN, HK, HS, HF, HSZ, q0_, q1_, n0_, n1_, n2_, s0_, s1_, s2_, s3_, s4_, s5_, s6_, s7_, s8_, s9_, s10_, s11_⟩, HBZ⟩ := hd3z h hF hWA
  have hK0 := Kept.refl WA none
  clear hF
  have HWH : Hid (Calls Tryd.prog 47 #[siteV ⟨xg, xgc, xa, xac, xb, xbc, some ⟨pb, po, none⟩, xpc, xe, xec, xl, xlc⟩ S, .agg #[.slice a S.groups.length ca, .int .i64 F.start, .bool F.flashed], .int .i64 (p : Int)] WA fun e w' => e = .returned (.bool true) ∧ Kept WA w' none) := by
    have hx := rwhole15_any HS.out HF.out (by omega) hp hl
    rw [hf] at hx
    exact hx
  clear hf hl
  have r0_ : ∀ w', Kept WA w' none → w'.cell? ⟨pb, po + p * 5, none⟩ = some (.int .u32 ((S.ph p).groups : Int)) := fun w' q => ((HS.out.kept q).phq rfl hp).2.1
  have r1_ : ∀ w', Kept WA w' none → w'.cell? ⟨pb, po + p * 5 + 1, none⟩ = some (.int .i64 (S.ph p).min) := fun w' q => ((HS.out.kept q).phq rfl hp).2.2.1
  have r2_ : ∀ w', Kept WA w' none → w'.cell? ⟨pb, po + p * 5 + 2, none⟩ = some (.int .i64 (S.ph p).max) := fun w' q => ((HS.out.kept q).phq rfl hp).2.2.2.1
  have r3_ : ∀ w', Kept WA w' none → w'.cell? ⟨pb, po + p * 5 + 3, none⟩ = some (.int .i64 (S.ph p).gap) := fun w' q => ((HS.out.kept q).phq rfl hp).2.2.2.2.1
  have r4_ : ∀ w', Kept WA w' none → w'.cell? ⟨pb, po + p * 5 + 4, none⟩ = some (.bool (S.ph p).always) := fun w' q => ((HS.out.kept q).phq rfl hp).2.2.2.2.2
  have HPB := Hid.mk' ((HS.out.phq rfl hp).1)
  have HHP := Hid.mk' hp
  have HSI := Hid.mk' hs
  clear h
  generalize S.ph p = P at *
  go_enter Tryd.func27, Tryd.ntmps27
  go_wp2_with (first | rw [hWA] | (go_at_call 47; refine HWH.out.mono ?_; rintro e wW ⟨rfl, hkW⟩; have hKW : Kept WA wW none := hkW; have BX := HBQ.out.kept hKW; have v0 := BX.c0; have v1 := BX.c1; have t0 := BX.f0; have t1 := BX.f1; have z0 := (HBZ.out.kept hKW).c0; have z1 := (HBZ.out.kept hKW).c1; have u0 := (HBZ.out.kept hKW).f0; have u1 := (HBZ.out.kept hKW).f1; have l3 : w.heap.size + 1 + 1 + 1 < wW.heap.size := Nat.lt_of_lt_of_le HBZ.out.lt hKW.size; have l2 : w.heap.size + 1 + 1 < wW.heap.size := (by omega); have l1 : w.heap.size + 1 < wW.heap.size := (by omega); have l0 : w.heap.size < wW.heap.size := (by omega); clear BX; have lpb : pb < wW.heap.size := Nat.lt_of_lt_of_le HPB.out hKW.size))
  have k4 : Kept wW (wW.alloc (.cells #[.int .u32 (P.groups : Int), .int .i64 P.min, .int .i64 P.max, .int .i64 P.gap, .bool P.always] 64)) none := Kept.alloc _ _ _ _ _
  have kw := (HK.out.tr hKW).tr k4
  have kq : Kept WA (wW.alloc (.cells #[.int .u32 (P.groups : Int), .int .i64 P.min, .int .i64 P.max, .int .i64 P.gap, .bool P.always] 64)) (some (w.heap.size + 1)) := (hKW.weakS (some (w.heap.size + 1))).tr (k4.weakS _)
  have HQ1 : Hid (Bx2 (wW.alloc (.cells #[.int .u32 (P.groups : Int), .int .i64 P.min, .int .i64 P.max, .int .i64 P.gap, .bool P.always] 64)) (w.heap.size + 1) (.int .i64 (p : Int)) (.int .i64 1048576)) := (HBQ.out.kept hKW).kept k4
  have HZ1 := Hid.mk' (HBZ.out.keptR kq (by simp <;> omega))
  have HSB1 := Hid.mk' (Sbox.oth HSAT.out HSB.out kw kq (show w.heap.size ≠ w.heap.size + 1 by omega))
  obtain ⟨WL, hWL⟩ : ∃ WL, wW.alloc (.cells #[.int .u32 (P.groups : Int), .int .i64 P.min, .int .i64 P.max, .int .i64 P.gap, .bool P.always] 64) = WL := ⟨_, rfl⟩
  rw [hWL] at kw HQ1 HZ1 HSB1 ⊢
  have HKL := Hid.mk' kw
  clear hWL k4 kw kq v0 v1 t0 t1 z0 z1 u0 u1 hKW hkW l0 l1 l2 l3 lpb s0_ s1_ s2_ s3_ s4_ s5_ s6_ s7_ s8_ s9_ s10_ s11_ n0_ n1_ n2_ q0_ q1_ r0_ r1_ r2_ r3_ r4_ hK0 HSB HBN HBZ HBQ HS HF
  have s0_ : ∀ w', Kept WL w' none → w'.cell? ⟨w.heap.size, 0, none⟩ = some (.int .i64 S.id) := fun w' q => (HSB1.out.kept q).c0
  have s1_ : ∀ w', Kept WL w' none → w'.cell? ⟨w.heap.size, 1, none⟩ = some (.slice xg S.groups.length xgc) := fun w' q => (HSB1.out.kept q).c1
  have s2_ : ∀ w', Kept WL w' none → w'.cell? ⟨w.heap.size, 2, none⟩ = some (.slice xa S.apart.length xac) := fun w' q => (HSB1.out.kept q).c2
  have s3_ : ∀ w', Kept WL w' none → w'.cell? ⟨w.heap.size, 3, none⟩ = some (.slice xb S.between.length xbc) := fun w' q => (HSB1.out.kept q).c3
  have s4_ : ∀ w', Kept WL w' none → w'.cell? ⟨w.heap.size, 4, none⟩ = some (.slice (some ⟨pb, po, none⟩) S.phases.length xpc) := fun w' q => (HSB1.out.kept q).c4
  have s5_ : ∀ w', Kept WL w' none → w'.cell? ⟨w.heap.size, 5, none⟩ = some (.slice xe S.eyes.length xec) := fun w' q => (HSB1.out.kept q).c5
  have s6_ : ∀ w', Kept WL w' none → w'.cell? ⟨w.heap.size, 6, none⟩ = some (.int .i64 S.watch) := fun w' q => (HSB1.out.kept q).c6
  have s7_ : ∀ w', Kept WL w' none → w'.cell? ⟨w.heap.size, 7, none⟩ = some (.int .i64 S.feed) := fun w' q => (HSB1.out.kept q).c7
  have s8_ : ∀ w', Kept WL w' none → w'.cell? ⟨w.heap.size, 8, none⟩ = some (.int .i64 S.heal) := fun w' q => (HSB1.out.kept q).c8
  have s9_ : ∀ w', Kept WL w' none → w'.cell? ⟨w.heap.size, 9, none⟩ = some (.int .i64 S.low) := fun w' q => (HSB1.out.kept q).c9
  have s10_ : ∀ w', Kept WL w' none → w'.cell? ⟨w.heap.size, 10, none⟩ = some (.int .i64 S.high) := fun w' q => (HSB1.out.kept q).c10
  have s11_ : ∀ w', Kept WL w' none → w'.cell? ⟨w.heap.size, 11, none⟩ = some (.slice xl S.plans.length xlc) := fun w' q => (HSB1.out.kept q).c11
  have q0_ : ∀ w', Kept WL w' none → w'.cell? ⟨w.heap.size + 1, 0, none⟩ = some (.int .i64 (p : Int)) := fun w' q => (HQ1.out.kept q).c0
  have q1_ : ∀ w', Kept WL w' none → w'.cell? ⟨w.heap.size + 1, 1, none⟩ = some (.int .i64 1048576) := fun w' q => (HQ1.out.kept q).c1
  have hnN : ¬ (S.phases.length : Int) = 0 := by omega
  go_loopw [12, 13] (fun i _ wr => ∃ j : Nat, j + 1 ≤ S.phases.length ∧ i = .int .i64 ((j + 1 : Nat) : Int) ∧ Kept WL wr none ∧ ∀ m, m < j → callB S c ((p + 1 + m) % S.phases.length) = false) (fun i _ _ => S.phases.length - (intOf i).toNat)
  case atStart => exact ⟨0, by omega, rfl, Kept.refl _ _, fun m hm => by omega⟩
  case round =>
    obtain ⟨j, hj, rfl, hkr, hno⟩ := hrel
    have HNO := Hid.mk' hno
    have HKR := Hid.mk' hkr
    have z0 := (HZ1.out.kept hkr).c0
    have z1 := (HZ1.out.kept hkr).c1
    have u0 := (HZ1.out.kept hkr).f0
    have u1 := (HZ1.out.kept hkr).f1
    clear hno
    by_cases hlt : j + 1 < S.phases.length
    · have e1 : ((p : Int) + ((j + 1 : Nat) : Int)).tmod (S.phases.length : Int) = (((p + 1 + j) % S.phases.length : Nat) : Int) := by
        rw [show (p : Int) + ((j + 1 : Nat) : Int) = ((p + 1 + j : Nat) : Int) by omega, Int.tmod_eq_emod_of_nonneg (by omega)]
        simp
      have e1' : ((p : Int) + ((j : Int) + 1)).tmod (S.phases.length : Int) = (((p + 1 + j) % S.phases.length : Nat) : Int) := by
        rw [← e1]; congr 1
      have e2 : ((p : Int) + ((j + 1 : Nat) : Int)) % (S.phases.length : Int) = (((p + 1 + j) % S.phases.length : Nat) : Int) := by
        rw [show (p : Int) + ((j + 1 : Nat) : Int) = ((p + 1 + j : Nat) : Int) by omega]
        simp
      have e2' : ((p : Int) + ((j : Int) + 1)) % (S.phases.length : Int) = (((p + 1 + j) % S.phases.length : Nat) : Int) := by
        rw [← e2]; congr 1
      have hmd : (p + 1 + j) % S.phases.length < S.phases.length := Nat.mod_lt _ (by omega)
      have HCA : Hid (∀ w', Kept WL w' none → Calls Tryd.prog 48 #[siteV ⟨xg, xgc, xa, xac, xb, xbc, some ⟨pb, po, none⟩, xpc, xe, xec, xl, xlc⟩ S, .int .u32 (c : Int), .int .i64 (((p + 1 + j) % S.phases.length : Nat) : Int)] w' fun e w2 => e = .returned (.bool (callB S c ((p + 1 + j) % S.phases.length))) ∧ Kept w' w2 none) := fun w' q => rcal16_any (HSAT.out.kept (HKL.out.tr q)) c _ hc hmd (by omega)
      have HEX : Hid (callB S c ((p + 1 + j) % S.phases.length) = false → ∀ m, m < j + 1 → callB S c ((p + 1 + m) % S.phases.length) = false) := fun e m hm => by
        by_cases q : m = j
        · rw [q]; exact e
        · exact HNO.out m (by omega)
      have HFD : Hid (callB S c ((p + 1 + j) % S.phases.length) = true → nxQ S c p = some j) := fun e => by
        unfold nxQ
        exact firstN_some (by omega) (fun m hm => by rw [if_neg (by rw [HNO.out m hm]; decide)]) (by rw [if_pos e]; decide)
      obtain ⟨cb, hcb⟩ : ∃ cb, callB S c ((p + 1 + j) % S.phases.length) = cb := ⟨_, rfl⟩
      rw [hcb] at HCA HEX HFD
      obtain ⟨M, hM⟩ : ∃ M, (p + 1 + j) % S.phases.length = M := ⟨_, rfl⟩
      rw [hM] at HCA e1 e1' e2 e2' hmd
      have HM := Hid.mk' hM
      clear hcb hM
      cases cb with
      | false =>
        have HE := Hid.mk' (HEX.out rfl)
        clear HEX HFD
        go_wp2_with (go_at_call 48; refine (HCA.out _ hkr).mono ?_; rintro e wC ⟨rfl, hkC⟩; have hKC : Kept WL wC none := hkr.tr hkC)
        go_roundw
        case rel => exact ⟨j + 1, by omega, by go_num, hKC, HE.out⟩
        case measure => simp [intOf]; omega
      | true =>
        have HE := Hid.mk' (HG1.out j (HFD.out rfl))
        clear HEX HFD
        go_wp2_with (go_at_call 48; refine (HCA.out _ hkr).mono ?_; rintro e wC ⟨rfl, hkC⟩; have hKC : Kept WL wC none := hkr.tr hkC; have z0 := (HZ1.out.kept hKC).c0; have z1 := (HZ1.out.kept hKC).c1; have u0 := (HZ1.out.kept hKC).f0; have u1 := (HZ1.out.kept hKC).f1)
        refine bodyPost_ret (v := .agg #[.int .i64 (M : Int), .int .i64 0]) (by simp [results, Tryd.results27, go_sem, z0, z1]) rfl ⟨by rw [HE.out, HM.out], ?_⟩
        exact ((HKL.out.tr hKC).setNew (p := ⟨w.heap.size + 1 + 1 + 1, 0, none⟩) (by show w.heap.size ≤ w.heap.size + 1 + 1 + 1; omega) _).setNew (p := ⟨w.heap.size + 1 + 1 + 1, 1, none⟩) (by show w.heap.size ≤ w.heap.size + 1 + 1 + 1; omega) _
    · have HE := Hid.mk' (HG0.out (by
        unfold nxQ
        exact firstN_none (fun m hm => by rw [if_neg (by rw [HNO.out m (by omega)]; decide)])))
      go_wp2
      refine bodyPost_ret (v := .agg #[.int .i64 (p : Int), .int .i64 1048576]) (by simp [results, Tryd.results27, go_sem, z0, z1]) rfl ⟨by rw [HE.out], ?_⟩
      exact ((HKL.out.tr HKR.out).setNew (p := ⟨w.heap.size + 1 + 1 + 1, 0, none⟩) (by show w.heap.size ≤ w.heap.size + 1 + 1 + 1; omega) _).setNew (p := ⟨w.heap.size + 1 + 1 + 1, 1, none⟩) (by show w.heap.size ≤ w.heap.size + 1 + 1 + 1; omega) _
set_option maxRecDepth 100000 in
set_option maxHeartbeats 4000000 in
theorem rgo16_dh {X : Sa} {S : St} {w : World} (h : Sat w X S) {a : Option Addr} {ca : Nat} {F : Sf} (hF : SafeAt w a ca F) (p : Nat) (hp : p < S.phases.length) (hs : siteB S = true) (hl : F.groups.length = S.groups.length) (c g : Nat) (hc : c < 4294967296) (hg : g < 4294967296) (hf : fullB S F p = true) (h1 : ¬ 1048576 < (S.ph p).min) (hgb : g.testBit p = false) (h2 : ¬ 1048576 < (S.ph p).max) (G : Sq) (hG1 : ∀ j, nxQ S c p = some j → G = ⟨(p + 1 + j) % S.phases.length, 0⟩) (hG0 : nxQ S c p = none → G = ⟨p, 1048576⟩) : Calls Tryd.prog 27 #[siteV X S, .agg #[.int .i64 (p : Int), .int .i64 1048576], .agg #[.slice a S.groups.length ca, .int .i64 F.start, .bool F.flashed], .int .u32 (c : Int), .int .u32 (g : Int)] w fun e w' => e = .returned (.agg #[.int .i64 (G.ph : Int), .int .i64 G.since]) ∧ Kept w w' none := by
  have hng := (span_may hs).base.sh.ok.ng
  have hn := (span_may hs).base.sh.ok.np
  have hgv := gap_bit (p := p) hg
  have hgu : ((p : Int) % 18446744073709551616) = (p : Int) := by omega
  obtain ⟨xg, xgc, xa, xac, xb, xbc, xp, xpc, xe, xec, xl, xlc⟩ := X
  obtain ⟨pb, po, ep⟩ := h.ppq (show 0 < S.phases.length by omega)
  dsimp only at ep
  subst ep
  have hrm := h.pk.room
  have hpw := (h.phq rfl hp).1
  have hne1 : ¬ pb = w.heap.size + 1 := by omega
  have hne2 : ¬ w.heap.size + 1 = pb := by omega
  have HSAT := Hid.mk' h
  rw [hgb, if_neg (by decide)] at hgv
  clear hgb
  have HG1 := Hid.mk' hG1
  have HG0 := Hid.mk' hG0
  clear hG1 hG0
  obtain ⟨WA, hWA⟩ : ∃ WA, ((((w.alloc (.cells #[.int .i64 S.id, .slice xg S.groups.length xgc, .slice xa S.apart.length xac, .slice xb S.between.length xbc, .slice (some ⟨pb, po, none⟩) S.phases.length xpc, .slice xe S.eyes.length xec, .int .i64 S.watch, .int .i64 S.feed, .int .i64 S.heal, .int .i64 S.low, .int .i64 S.high, .slice xl S.plans.length xlc] 37)).alloc (.cells #[.int .i64 (p : Int), .int .i64 1048576] 40)).alloc (.cells #[.slice a S.groups.length ca, .int .i64 F.start, .bool F.flashed] 26)).alloc (.cells #[.int .i64 0, .int .i64 0] 40)) = WA := ⟨_, rfl⟩
  obtain ⟨⟨HSB, HBQ, HBN, HK, HS, HF, HSZ, q0_, q1_, n0_, n1_, n2_, s0_, s1_, s2_, s3_, s4_, s5_, s6_, s7_, s8_, s9_, s10_, s11_⟩, HBZ⟩ := hd3z h hF hWA
  have hK0 := Kept.refl WA none
  clear hF
  have HWH : Hid (Calls Tryd.prog 47 #[siteV ⟨xg, xgc, xa, xac, xb, xbc, some ⟨pb, po, none⟩, xpc, xe, xec, xl, xlc⟩ S, .agg #[.slice a S.groups.length ca, .int .i64 F.start, .bool F.flashed], .int .i64 (p : Int)] WA fun e w' => e = .returned (.bool true) ∧ Kept WA w' none) := by
    have hx := rwhole15_any HS.out HF.out (by omega) hp hl
    rw [hf] at hx
    exact hx
  clear hf hl
  have r0_ : ∀ w', Kept WA w' none → w'.cell? ⟨pb, po + p * 5, none⟩ = some (.int .u32 ((S.ph p).groups : Int)) := fun w' q => ((HS.out.kept q).phq rfl hp).2.1
  have r1_ : ∀ w', Kept WA w' none → w'.cell? ⟨pb, po + p * 5 + 1, none⟩ = some (.int .i64 (S.ph p).min) := fun w' q => ((HS.out.kept q).phq rfl hp).2.2.1
  have r2_ : ∀ w', Kept WA w' none → w'.cell? ⟨pb, po + p * 5 + 2, none⟩ = some (.int .i64 (S.ph p).max) := fun w' q => ((HS.out.kept q).phq rfl hp).2.2.2.1
  have r3_ : ∀ w', Kept WA w' none → w'.cell? ⟨pb, po + p * 5 + 3, none⟩ = some (.int .i64 (S.ph p).gap) := fun w' q => ((HS.out.kept q).phq rfl hp).2.2.2.2.1
  have r4_ : ∀ w', Kept WA w' none → w'.cell? ⟨pb, po + p * 5 + 4, none⟩ = some (.bool (S.ph p).always) := fun w' q => ((HS.out.kept q).phq rfl hp).2.2.2.2.2
  have HPB := Hid.mk' ((HS.out.phq rfl hp).1)
  have HHP := Hid.mk' hp
  have HSI := Hid.mk' hs
  clear h
  generalize S.ph p = P at *
  go_enter Tryd.func27, Tryd.ntmps27
  go_wp2_with (first | rw [hWA] | (go_at_call 47; refine HWH.out.mono ?_; rintro e wW ⟨rfl, hkW⟩; have hKW : Kept WA wW none := hkW; have BX := HBQ.out.kept hKW; have v0 := BX.c0; have v1 := BX.c1; have t0 := BX.f0; have t1 := BX.f1; have z0 := (HBZ.out.kept hKW).c0; have z1 := (HBZ.out.kept hKW).c1; have u0 := (HBZ.out.kept hKW).f0; have u1 := (HBZ.out.kept hKW).f1; have l3 : w.heap.size + 1 + 1 + 1 < wW.heap.size := Nat.lt_of_lt_of_le HBZ.out.lt hKW.size; have l2 : w.heap.size + 1 + 1 < wW.heap.size := (by omega); have l1 : w.heap.size + 1 < wW.heap.size := (by omega); have l0 : w.heap.size < wW.heap.size := (by omega); clear BX; have lpb : pb < wW.heap.size := Nat.lt_of_lt_of_le HPB.out hKW.size))
  have k4 : Kept wW (wW.alloc (.cells #[.int .u32 (P.groups : Int), .int .i64 P.min, .int .i64 P.max, .int .i64 P.gap, .bool P.always] 64)) none := Kept.alloc _ _ _ _ _
  have kw := (HK.out.tr hKW).tr k4
  have kq : Kept WA (wW.alloc (.cells #[.int .u32 (P.groups : Int), .int .i64 P.min, .int .i64 P.max, .int .i64 P.gap, .bool P.always] 64)) (some (w.heap.size + 1)) := (hKW.weakS (some (w.heap.size + 1))).tr (k4.weakS _)
  have HQ1 : Hid (Bx2 (wW.alloc (.cells #[.int .u32 (P.groups : Int), .int .i64 P.min, .int .i64 P.max, .int .i64 P.gap, .bool P.always] 64)) (w.heap.size + 1) (.int .i64 (p : Int)) (.int .i64 1048576)) := (HBQ.out.kept hKW).kept k4
  have HZ1 := Hid.mk' (HBZ.out.keptR kq (by simp <;> omega))
  have HSB1 := Hid.mk' (Sbox.oth HSAT.out HSB.out kw kq (show w.heap.size ≠ w.heap.size + 1 by omega))
  obtain ⟨WL, hWL⟩ : ∃ WL, wW.alloc (.cells #[.int .u32 (P.groups : Int), .int .i64 P.min, .int .i64 P.max, .int .i64 P.gap, .bool P.always] 64) = WL := ⟨_, rfl⟩
  rw [hWL] at kw HQ1 HZ1 HSB1 ⊢
  have HKL := Hid.mk' kw
  clear hWL k4 kw kq v0 v1 t0 t1 z0 z1 u0 u1 hKW hkW l0 l1 l2 l3 lpb s0_ s1_ s2_ s3_ s4_ s5_ s6_ s7_ s8_ s9_ s10_ s11_ n0_ n1_ n2_ q0_ q1_ r0_ r1_ r2_ r3_ r4_ hK0 HSB HBN HBZ HBQ HS HF
  have s0_ : ∀ w', Kept WL w' none → w'.cell? ⟨w.heap.size, 0, none⟩ = some (.int .i64 S.id) := fun w' q => (HSB1.out.kept q).c0
  have s1_ : ∀ w', Kept WL w' none → w'.cell? ⟨w.heap.size, 1, none⟩ = some (.slice xg S.groups.length xgc) := fun w' q => (HSB1.out.kept q).c1
  have s2_ : ∀ w', Kept WL w' none → w'.cell? ⟨w.heap.size, 2, none⟩ = some (.slice xa S.apart.length xac) := fun w' q => (HSB1.out.kept q).c2
  have s3_ : ∀ w', Kept WL w' none → w'.cell? ⟨w.heap.size, 3, none⟩ = some (.slice xb S.between.length xbc) := fun w' q => (HSB1.out.kept q).c3
  have s4_ : ∀ w', Kept WL w' none → w'.cell? ⟨w.heap.size, 4, none⟩ = some (.slice (some ⟨pb, po, none⟩) S.phases.length xpc) := fun w' q => (HSB1.out.kept q).c4
  have s5_ : ∀ w', Kept WL w' none → w'.cell? ⟨w.heap.size, 5, none⟩ = some (.slice xe S.eyes.length xec) := fun w' q => (HSB1.out.kept q).c5
  have s6_ : ∀ w', Kept WL w' none → w'.cell? ⟨w.heap.size, 6, none⟩ = some (.int .i64 S.watch) := fun w' q => (HSB1.out.kept q).c6
  have s7_ : ∀ w', Kept WL w' none → w'.cell? ⟨w.heap.size, 7, none⟩ = some (.int .i64 S.feed) := fun w' q => (HSB1.out.kept q).c7
  have s8_ : ∀ w', Kept WL w' none → w'.cell? ⟨w.heap.size, 8, none⟩ = some (.int .i64 S.heal) := fun w' q => (HSB1.out.kept q).c8
  have s9_ : ∀ w', Kept WL w' none → w'.cell? ⟨w.heap.size, 9, none⟩ = some (.int .i64 S.low) := fun w' q => (HSB1.out.kept q).c9
  have s10_ : ∀ w', Kept WL w' none → w'.cell? ⟨w.heap.size, 10, none⟩ = some (.int .i64 S.high) := fun w' q => (HSB1.out.kept q).c10
  have s11_ : ∀ w', Kept WL w' none → w'.cell? ⟨w.heap.size, 11, none⟩ = some (.slice xl S.plans.length xlc) := fun w' q => (HSB1.out.kept q).c11
  have q0_ : ∀ w', Kept WL w' none → w'.cell? ⟨w.heap.size + 1, 0, none⟩ = some (.int .i64 (p : Int)) := fun w' q => (HQ1.out.kept q).c0
  have q1_ : ∀ w', Kept WL w' none → w'.cell? ⟨w.heap.size + 1, 1, none⟩ = some (.int .i64 1048576) := fun w' q => (HQ1.out.kept q).c1
  have hnN : ¬ (S.phases.length : Int) = 0 := by omega
  go_loopw [12, 13] (fun i _ wr => ∃ j : Nat, j + 1 ≤ S.phases.length ∧ i = .int .i64 ((j + 1 : Nat) : Int) ∧ Kept WL wr none ∧ ∀ m, m < j → callB S c ((p + 1 + m) % S.phases.length) = false) (fun i _ _ => S.phases.length - (intOf i).toNat)
  case atStart => exact ⟨0, by omega, rfl, Kept.refl _ _, fun m hm => by omega⟩
  case round =>
    obtain ⟨j, hj, rfl, hkr, hno⟩ := hrel
    have HNO := Hid.mk' hno
    have HKR := Hid.mk' hkr
    have z0 := (HZ1.out.kept hkr).c0
    have z1 := (HZ1.out.kept hkr).c1
    have u0 := (HZ1.out.kept hkr).f0
    have u1 := (HZ1.out.kept hkr).f1
    clear hno
    by_cases hlt : j + 1 < S.phases.length
    · have e1 : ((p : Int) + ((j + 1 : Nat) : Int)).tmod (S.phases.length : Int) = (((p + 1 + j) % S.phases.length : Nat) : Int) := by
        rw [show (p : Int) + ((j + 1 : Nat) : Int) = ((p + 1 + j : Nat) : Int) by omega, Int.tmod_eq_emod_of_nonneg (by omega)]
        simp
      have e1' : ((p : Int) + ((j : Int) + 1)).tmod (S.phases.length : Int) = (((p + 1 + j) % S.phases.length : Nat) : Int) := by
        rw [← e1]; congr 1
      have e2 : ((p : Int) + ((j + 1 : Nat) : Int)) % (S.phases.length : Int) = (((p + 1 + j) % S.phases.length : Nat) : Int) := by
        rw [show (p : Int) + ((j + 1 : Nat) : Int) = ((p + 1 + j : Nat) : Int) by omega]
        simp
      have e2' : ((p : Int) + ((j : Int) + 1)) % (S.phases.length : Int) = (((p + 1 + j) % S.phases.length : Nat) : Int) := by
        rw [← e2]; congr 1
      have hmd : (p + 1 + j) % S.phases.length < S.phases.length := Nat.mod_lt _ (by omega)
      have HCA : Hid (∀ w', Kept WL w' none → Calls Tryd.prog 48 #[siteV ⟨xg, xgc, xa, xac, xb, xbc, some ⟨pb, po, none⟩, xpc, xe, xec, xl, xlc⟩ S, .int .u32 (c : Int), .int .i64 (((p + 1 + j) % S.phases.length : Nat) : Int)] w' fun e w2 => e = .returned (.bool (callB S c ((p + 1 + j) % S.phases.length))) ∧ Kept w' w2 none) := fun w' q => rcal16_any (HSAT.out.kept (HKL.out.tr q)) c _ hc hmd (by omega)
      have HEX : Hid (callB S c ((p + 1 + j) % S.phases.length) = false → ∀ m, m < j + 1 → callB S c ((p + 1 + m) % S.phases.length) = false) := fun e m hm => by
        by_cases q : m = j
        · rw [q]; exact e
        · exact HNO.out m (by omega)
      have HFD : Hid (callB S c ((p + 1 + j) % S.phases.length) = true → nxQ S c p = some j) := fun e => by
        unfold nxQ
        exact firstN_some (by omega) (fun m hm => by rw [if_neg (by rw [HNO.out m hm]; decide)]) (by rw [if_pos e]; decide)
      obtain ⟨cb, hcb⟩ : ∃ cb, callB S c ((p + 1 + j) % S.phases.length) = cb := ⟨_, rfl⟩
      rw [hcb] at HCA HEX HFD
      obtain ⟨M, hM⟩ : ∃ M, (p + 1 + j) % S.phases.length = M := ⟨_, rfl⟩
      rw [hM] at HCA e1 e1' e2 e2' hmd
      have HM := Hid.mk' hM
      clear hcb hM
      cases cb with
      | false =>
        have HE := Hid.mk' (HEX.out rfl)
        clear HEX HFD
        go_wp2_with (go_at_call 48; refine (HCA.out _ hkr).mono ?_; rintro e wC ⟨rfl, hkC⟩; have hKC : Kept WL wC none := hkr.tr hkC)
        go_roundw
        case rel => exact ⟨j + 1, by omega, by go_num, hKC, HE.out⟩
        case measure => simp [intOf]; omega
      | true =>
        have HE := Hid.mk' (HG1.out j (HFD.out rfl))
        clear HEX HFD
        go_wp2_with (go_at_call 48; refine (HCA.out _ hkr).mono ?_; rintro e wC ⟨rfl, hkC⟩; have hKC : Kept WL wC none := hkr.tr hkC; have z0 := (HZ1.out.kept hKC).c0; have z1 := (HZ1.out.kept hKC).c1; have u0 := (HZ1.out.kept hKC).f0; have u1 := (HZ1.out.kept hKC).f1)
        refine bodyPost_ret (v := .agg #[.int .i64 (M : Int), .int .i64 0]) (by simp [results, Tryd.results27, go_sem, z0, z1]) rfl ⟨by rw [HE.out, HM.out], ?_⟩
        exact ((HKL.out.tr hKC).setNew (p := ⟨w.heap.size + 1 + 1 + 1, 0, none⟩) (by show w.heap.size ≤ w.heap.size + 1 + 1 + 1; omega) _).setNew (p := ⟨w.heap.size + 1 + 1 + 1, 1, none⟩) (by show w.heap.size ≤ w.heap.size + 1 + 1 + 1; omega) _
    · have HE := Hid.mk' (HG0.out (by
        unfold nxQ
        exact firstN_none (fun m hm => by rw [if_neg (by rw [HNO.out m (by omega)]; decide)])))
      go_wp2
      refine bodyPost_ret (v := .agg #[.int .i64 (p : Int), .int .i64 1048576]) (by simp [results, Tryd.results27, go_sem, z0, z1]) rfl ⟨by rw [HE.out], ?_⟩
      exact ((HKL.out.tr HKR.out).setNew (p := ⟨w.heap.size + 1 + 1 + 1, 0, none⟩) (by show w.heap.size ≤ w.heap.size + 1 + 1 + 1; omega) _).setNew (p := ⟨w.heap.size + 1 + 1 + 1, 1, none⟩) (by show w.heap.size ≤ w.heap.size + 1 + 1 + 1; omega) _

end Go.Proofs.YtkgimccffggfdaaDoor

