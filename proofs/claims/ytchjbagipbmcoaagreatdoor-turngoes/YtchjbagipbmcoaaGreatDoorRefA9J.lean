/-
  Texts joined: some of those that the proofs of this seat stand on.
-/
import Derived.Test.YtchjbagipbmcoaaGreatDoorGateBJ
import Derived.Test.YtchjbagipbmcoaaGreatDoorRefE8
import Derived.Test.YtchjbagipbmcoaaGreatDoorOwn8J
import Derived.Test.YtchjbagipbmcoaaGreatDoorRefB8J
/-
  THE DOCUMENT'S Goes, Same of layer 9 (made by a program).
-/
namespace Go.Proofs.YtchjbagipbmcoaaGreatDoor
open Go.RowKit Go.Lib Go.Deep
set_option linter.unusedVariables false
set_option linter.unusedSimpArgs false

set_option maxRecDepth 100000 in
set_option maxHeartbeats 2000000 in
theorem rgoes9_no {X : Sa} {S : St} {w : World} {a : Option Addr} {c : Nat} {F : Sf} (h : Sat w X S) (hT : Tabb w) (hF : SafeAt w a c F) (hO : Okay S) (hl : F.groups.length ≤ 100) (hm : mayS S F = false) : Calls Tryz.prog 29 #[siteV X S, .agg #[.slice a F.groups.length c, .int .i64 F.start, .bool F.flashed]] w fun e w' => e = .returned (.bool false) ∧ Kept w w' none := by
  have HOK := Hid.mk' hO
  have hng := hO.ng
  have hl9 : F.groups.length ≤ 900 := by omega
  have k1 : Kept w (w.alloc (.cells #[.int .i64 S.id, .slice X.g S.groups.length X.gc, .slice X.a S.apart.length X.ac, .slice X.b S.between.length X.bc, .slice X.p S.phases.length X.pc, .slice X.e S.eyes.length X.ec, .int .i64 S.watch, .int .i64 S.feed, .int .i64 S.heal, .int .i64 S.low, .int .i64 S.high, .slice X.l S.plans.length X.lc] 29)) none := Kept.alloc _ _ _ _ _
  have k2 : Kept (w.alloc (.cells #[.int .i64 S.id, .slice X.g S.groups.length X.gc, .slice X.a S.apart.length X.ac, .slice X.b S.between.length X.bc, .slice X.p S.phases.length X.pc, .slice X.e S.eyes.length X.ec, .int .i64 S.watch, .int .i64 S.feed, .int .i64 S.heal, .int .i64 S.low, .int .i64 S.high, .slice X.l S.plans.length X.lc] 29)) ((w.alloc (.cells #[.int .i64 S.id, .slice X.g S.groups.length X.gc, .slice X.a S.apart.length X.ac, .slice X.b S.between.length X.bc, .slice X.p S.phases.length X.pc, .slice X.e S.eyes.length X.ec, .int .i64 S.watch, .int .i64 S.feed, .int .i64 S.heal, .int .i64 S.low, .int .i64 S.high, .slice X.l S.plans.length X.lc] 29)).alloc (.cells #[.slice a F.groups.length c, .int .i64 F.start, .bool F.flashed] 32)) none := Kept.alloc _ _ _ _ _
  have hsb := (sbox_alloc h 29).kept k2
  have bn := box_alloc (w.alloc (.cells #[.int .i64 S.id, .slice X.g S.groups.length X.gc, .slice X.a S.apart.length X.ac, .slice X.b S.between.length X.bc, .slice X.p S.phases.length X.pc, .slice X.e S.eyes.length X.ec, .int .i64 S.watch, .int .i64 S.feed, .int .i64 S.heal, .int .i64 S.low, .int .i64 S.high, .slice X.l S.plans.length X.lc] 29)) (.slice a F.groups.length c) (.int .i64 F.start) (.bool F.flashed) 32
  have hsz : ((w.alloc (.cells #[.int .i64 S.id, .slice X.g S.groups.length X.gc, .slice X.a S.apart.length X.ac, .slice X.b S.between.length X.bc, .slice X.p S.phases.length X.pc, .slice X.e S.eyes.length X.ec, .int .i64 S.watch, .int .i64 S.feed, .int .i64 S.heal, .int .i64 S.low, .int .i64 S.high, .slice X.l S.plans.length X.lc] 29)).alloc (.cells #[.slice a F.groups.length c, .int .i64 F.start, .bool F.flashed] 32)).heap.size = w.heap.size + 1 + 1 := by simp
  rw [World.size_alloc] at bn
  have hkA := k1.tr k2
  obtain ⟨WA, hWA⟩ : ∃ WA, ((w.alloc (.cells #[.int .i64 S.id, .slice X.g S.groups.length X.gc, .slice X.a S.apart.length X.ac, .slice X.b S.between.length X.bc, .slice X.p S.phases.length X.pc, .slice X.e S.eyes.length X.ec, .int .i64 S.watch, .int .i64 S.feed, .int .i64 S.heal, .int .i64 S.low, .int .i64 S.high, .slice X.l S.plans.length X.lc] 29)).alloc (.cells #[.slice a F.groups.length c, .int .i64 F.start, .bool F.flashed] 32)) = WA := ⟨_, rfl⟩
  rw [hWA] at hsb bn hsz hkA
  have HSB := Hid.mk' hsb
  have HBN := Hid.mk' bn
  have HSZ := Hid.mk' hsz
  have HK := Hid.mk' hkA
  have HS := Hid.mk' (h.kept hkA)
  have HT := Hid.mk' (hT.kept hkA)
  have HF := Hid.mk' (hF.kept hkA)
  have n0_ : ∀ w', Kept WA w' none → w'.cell? ⟨w.heap.size + 1, 0, none⟩ = some (.slice a F.groups.length c) := fun w' q => (HBN.out.kept q).c0
  have n1_ : ∀ w', Kept WA w' none → w'.cell? ⟨w.heap.size + 1, 1, none⟩ = some (.int .i64 F.start) := fun w' q => (HBN.out.kept q).c1
  have n2_ : ∀ w', Kept WA w' none → w'.cell? ⟨w.heap.size + 1, 2, none⟩ = some (.bool F.flashed) := fun w' q => (HBN.out.kept q).c2
  have s0_ : ∀ w', Kept WA w' none → w'.cell? ⟨w.heap.size, 0, none⟩ = some (.int .i64 S.id) := fun w' q => (HSB.out.kept q).c0
  have s1_ : ∀ w', Kept WA w' none → w'.cell? ⟨w.heap.size, 1, none⟩ = some (.slice X.g S.groups.length X.gc) := fun w' q => (HSB.out.kept q).c1
  have s2_ : ∀ w', Kept WA w' none → w'.cell? ⟨w.heap.size, 2, none⟩ = some (.slice X.a S.apart.length X.ac) := fun w' q => (HSB.out.kept q).c2
  have s3_ : ∀ w', Kept WA w' none → w'.cell? ⟨w.heap.size, 3, none⟩ = some (.slice X.b S.between.length X.bc) := fun w' q => (HSB.out.kept q).c3
  have s4_ : ∀ w', Kept WA w' none → w'.cell? ⟨w.heap.size, 4, none⟩ = some (.slice X.p S.phases.length X.pc) := fun w' q => (HSB.out.kept q).c4
  have s5_ : ∀ w', Kept WA w' none → w'.cell? ⟨w.heap.size, 5, none⟩ = some (.slice X.e S.eyes.length X.ec) := fun w' q => (HSB.out.kept q).c5
  have s6_ : ∀ w', Kept WA w' none → w'.cell? ⟨w.heap.size, 6, none⟩ = some (.int .i64 S.watch) := fun w' q => (HSB.out.kept q).c6
  have s7_ : ∀ w', Kept WA w' none → w'.cell? ⟨w.heap.size, 7, none⟩ = some (.int .i64 S.feed) := fun w' q => (HSB.out.kept q).c7
  have s8_ : ∀ w', Kept WA w' none → w'.cell? ⟨w.heap.size, 8, none⟩ = some (.int .i64 S.heal) := fun w' q => (HSB.out.kept q).c8
  have s9_ : ∀ w', Kept WA w' none → w'.cell? ⟨w.heap.size, 9, none⟩ = some (.int .i64 S.low) := fun w' q => (HSB.out.kept q).c9
  have s10_ : ∀ w', Kept WA w' none → w'.cell? ⟨w.heap.size, 10, none⟩ = some (.int .i64 S.high) := fun w' q => (HSB.out.kept q).c10
  have s11_ : ∀ w', Kept WA w' none → w'.cell? ⟨w.heap.size, 11, none⟩ = some (.slice X.l S.plans.length X.lc) := fun w' q => (HSB.out.kept q).c11
  have hK0 := Kept.refl WA none
  clear h hT hF k1 k2 hsb bn hsz hkA
  go_enter Tryz.func29, Tryz.ntmps29
  go_wp2_with (first | rw [hWA] | (go_at_call 49; have hx := rmay8_any HS.out HF.out hl9 HOK.out; rw [hm] at hx; refine hx.mono ?_; rintro e wN ⟨rfl, hkN⟩))
  go_ret
  exact ⟨rfl, HK.out.tr hkN⟩
set_option maxRecDepth 100000 in
set_option maxHeartbeats 2000000 in
theorem rgoes9_true {X : Sa} {S : St} {w : World} {bf off c : Nat} {G : List Sn} {st : Int} (h : Sat w X S) (hT : Tabb w) (hF : SafeAt w (some ⟨bf, off, none⟩) c ⟨G, st, true⟩) (hO : Okay S) (hl : G.length ≤ 100) (hm : mayS S ⟨G, st, true⟩ = true) : Calls Tryz.prog 29 #[siteV X S, .agg #[.slice (some ⟨bf, off, none⟩) G.length c, .int .i64 st, .bool true]] w fun e w' => e = .returned (.bool (goesV S ⟨G, st, true⟩)) ∧ Kept w w' none := by
  have HOK := Hid.mk' hO
  have hng := hO.ng
  have hr := hF.cap.room
  have hx := hF.cap.max
  have HY : Hid ((∀ i, i < G.length → aspG ⟨G, st, true⟩ (Sf.g ⟨G, st, true⟩ i).asp = true) → goesV S ⟨G, st, true⟩ = true) := fun e => by unfold goesV; rw [hm, allB_iff.2 e]; rfl
  have HN : Hid (∀ i, i < G.length → aspG ⟨G, st, true⟩ (Sf.g ⟨G, st, true⟩ i).asp = false → goesV S ⟨G, st, true⟩ = false) := fun i hi e => by unfold goesV; rw [allB_no hi e, Bool.and_false]
  have hpos : 0 < G.length := by have := (mayS_parts hm).1; dsimp only at this; omega
  obtain ⟨bf', off', ebf, hbf, hcf⟩ := hF.lie.at_ hpos
  injection ebf with ebf
  injection ebf with ebf1 ebf2
  subst ebf1 ebf2
  dsimp only at hcf
  have k1 : Kept w (w.alloc (.cells #[.int .i64 S.id, .slice X.g S.groups.length X.gc, .slice X.a S.apart.length X.ac, .slice X.b S.between.length X.bc, .slice X.p S.phases.length X.pc, .slice X.e S.eyes.length X.ec, .int .i64 S.watch, .int .i64 S.feed, .int .i64 S.heal, .int .i64 S.low, .int .i64 S.high, .slice X.l S.plans.length X.lc] 29)) none := Kept.alloc _ _ _ _ _
  have k2 : Kept (w.alloc (.cells #[.int .i64 S.id, .slice X.g S.groups.length X.gc, .slice X.a S.apart.length X.ac, .slice X.b S.between.length X.bc, .slice X.p S.phases.length X.pc, .slice X.e S.eyes.length X.ec, .int .i64 S.watch, .int .i64 S.feed, .int .i64 S.heal, .int .i64 S.low, .int .i64 S.high, .slice X.l S.plans.length X.lc] 29)) ((w.alloc (.cells #[.int .i64 S.id, .slice X.g S.groups.length X.gc, .slice X.a S.apart.length X.ac, .slice X.b S.between.length X.bc, .slice X.p S.phases.length X.pc, .slice X.e S.eyes.length X.ec, .int .i64 S.watch, .int .i64 S.feed, .int .i64 S.heal, .int .i64 S.low, .int .i64 S.high, .slice X.l S.plans.length X.lc] 29)).alloc (.cells #[.slice (some ⟨bf, off, none⟩) G.length c, .int .i64 st, .bool true] 32)) none := Kept.alloc _ _ _ _ _
  have hsb := (sbox_alloc h 29).kept k2
  have bn := box_alloc (w.alloc (.cells #[.int .i64 S.id, .slice X.g S.groups.length X.gc, .slice X.a S.apart.length X.ac, .slice X.b S.between.length X.bc, .slice X.p S.phases.length X.pc, .slice X.e S.eyes.length X.ec, .int .i64 S.watch, .int .i64 S.feed, .int .i64 S.heal, .int .i64 S.low, .int .i64 S.high, .slice X.l S.plans.length X.lc] 29)) (.slice (some ⟨bf, off, none⟩) G.length c) (.int .i64 st) (.bool true) 32
  have hsz : ((w.alloc (.cells #[.int .i64 S.id, .slice X.g S.groups.length X.gc, .slice X.a S.apart.length X.ac, .slice X.b S.between.length X.bc, .slice X.p S.phases.length X.pc, .slice X.e S.eyes.length X.ec, .int .i64 S.watch, .int .i64 S.feed, .int .i64 S.heal, .int .i64 S.low, .int .i64 S.high, .slice X.l S.plans.length X.lc] 29)).alloc (.cells #[.slice (some ⟨bf, off, none⟩) G.length c, .int .i64 st, .bool true] 32)).heap.size = w.heap.size + 1 + 1 := by simp
  rw [World.size_alloc] at bn
  have hkA := k1.tr k2
  obtain ⟨WA, hWA⟩ : ∃ WA, ((w.alloc (.cells #[.int .i64 S.id, .slice X.g S.groups.length X.gc, .slice X.a S.apart.length X.ac, .slice X.b S.between.length X.bc, .slice X.p S.phases.length X.pc, .slice X.e S.eyes.length X.ec, .int .i64 S.watch, .int .i64 S.feed, .int .i64 S.heal, .int .i64 S.low, .int .i64 S.high, .slice X.l S.plans.length X.lc] 29)).alloc (.cells #[.slice (some ⟨bf, off, none⟩) G.length c, .int .i64 st, .bool true] 32)) = WA := ⟨_, rfl⟩
  rw [hWA] at hsb bn hsz hkA
  have HSB := Hid.mk' hsb
  have HBN := Hid.mk' bn
  have HSZ := Hid.mk' hsz
  have HK := Hid.mk' hkA
  have HS := Hid.mk' (h.kept hkA)
  have HT := Hid.mk' (hT.kept hkA)
  have HF := Hid.mk' (hF.kept hkA)
  have HCF : Hid (∀ i, i < G.length → ∀ j, j < 3 → w.cell? ⟨bf, off + i * 3 + j, none⟩ = some (snV (Sf.g ⟨G, st, true⟩ i) j)) := hcf
  have n0_ : ∀ w', Kept WA w' none → w'.cell? ⟨w.heap.size + 1, 0, none⟩ = some (.slice (some ⟨bf, off, none⟩) G.length c) := fun w' q => (HBN.out.kept q).c0
  have n1_ : ∀ w', Kept WA w' none → w'.cell? ⟨w.heap.size + 1, 1, none⟩ = some (.int .i64 st) := fun w' q => (HBN.out.kept q).c1
  have n2_ : ∀ w', Kept WA w' none → w'.cell? ⟨w.heap.size + 1, 2, none⟩ = some (.bool true) := fun w' q => (HBN.out.kept q).c2
  have s0_ : ∀ w', Kept WA w' none → w'.cell? ⟨w.heap.size, 0, none⟩ = some (.int .i64 S.id) := fun w' q => (HSB.out.kept q).c0
  have s1_ : ∀ w', Kept WA w' none → w'.cell? ⟨w.heap.size, 1, none⟩ = some (.slice X.g S.groups.length X.gc) := fun w' q => (HSB.out.kept q).c1
  have s2_ : ∀ w', Kept WA w' none → w'.cell? ⟨w.heap.size, 2, none⟩ = some (.slice X.a S.apart.length X.ac) := fun w' q => (HSB.out.kept q).c2
  have s3_ : ∀ w', Kept WA w' none → w'.cell? ⟨w.heap.size, 3, none⟩ = some (.slice X.b S.between.length X.bc) := fun w' q => (HSB.out.kept q).c3
  have s4_ : ∀ w', Kept WA w' none → w'.cell? ⟨w.heap.size, 4, none⟩ = some (.slice X.p S.phases.length X.pc) := fun w' q => (HSB.out.kept q).c4
  have s5_ : ∀ w', Kept WA w' none → w'.cell? ⟨w.heap.size, 5, none⟩ = some (.slice X.e S.eyes.length X.ec) := fun w' q => (HSB.out.kept q).c5
  have s6_ : ∀ w', Kept WA w' none → w'.cell? ⟨w.heap.size, 6, none⟩ = some (.int .i64 S.watch) := fun w' q => (HSB.out.kept q).c6
  have s7_ : ∀ w', Kept WA w' none → w'.cell? ⟨w.heap.size, 7, none⟩ = some (.int .i64 S.feed) := fun w' q => (HSB.out.kept q).c7
  have s8_ : ∀ w', Kept WA w' none → w'.cell? ⟨w.heap.size, 8, none⟩ = some (.int .i64 S.heal) := fun w' q => (HSB.out.kept q).c8
  have s9_ : ∀ w', Kept WA w' none → w'.cell? ⟨w.heap.size, 9, none⟩ = some (.int .i64 S.low) := fun w' q => (HSB.out.kept q).c9
  have s10_ : ∀ w', Kept WA w' none → w'.cell? ⟨w.heap.size, 10, none⟩ = some (.int .i64 S.high) := fun w' q => (HSB.out.kept q).c10
  have s11_ : ∀ w', Kept WA w' none → w'.cell? ⟨w.heap.size, 11, none⟩ = some (.slice X.l S.plans.length X.lc) := fun w' q => (HSB.out.kept q).c11
  have hK0 := Kept.refl WA none
  clear h hT hF k1 k2 hsb bn hsz hkA
  have HMAY : Hid (∀ w', Kept WA w' none → Calls Tryz.prog 49 #[siteV X S, .agg #[.slice (some ⟨bf, off, none⟩) G.length c, .int .i64 st, .bool true]] w' fun e w2 => e = .returned (.bool true) ∧ Kept w' w2 none) := fun w' q => by
    have hx := rmay8_any (HS.out.kept q) (HF.out.kept q) (by show G.length ≤ 900; omega) HOK.out
    rw [hm] at hx
    exact hx
  have HK0 := Hid.mk' hK0
  clear hcf hm hng
  go_enter Tryz.func29, Tryz.ntmps29
  go_wp2_with (first | rw [hWA] | (go_at_call 49; refine (HMAY.out _ hK0).mono ?_; rintro e wN ⟨rfl, hkN⟩; have HKN := Hid.mk' hkN))
  clear hkN
  go_loopw [5, 6] (fun i _ wr => ∃ k : Nat, k ≤ G.length ∧ i = .int .i64 k ∧ Kept WA wr none ∧ ∀ j, j < k → aspG ⟨G, st, true⟩ (Sf.g ⟨G, st, true⟩ j).asp = true) (fun i _ _ => G.length - (intOf i).toNat)
  case atStart => exact ⟨0, by omega, rfl, HKN.out, fun j hj => by omega⟩
  case round =>
    obtain ⟨k, hk, rfl, hkw, hno⟩ := hrel
    have HKW := Hid.mk' hkw
    have g0 := n0_ wr hkw
    have g1 := n1_ wr hkw
    have g2 := n2_ wr hkw
    by_cases hlt : k < G.length
    · have q0 := cell_kept0 (HCF.out k hlt 0 (by omega)) (HK.out.tr hkw)
      simp only [snV, Nat.add_zero] at q0
      have HYK : Hid (aspG ⟨G, st, true⟩ (Sf.g ⟨G, st, true⟩ k).asp = true → ∀ j, j < k + 1 → aspG ⟨G, st, true⟩ (Sf.g ⟨G, st, true⟩ j).asp = true) := fun e => ext_no hno e
      have HNK := Hid.mk' (HN.out k hlt)
      clear hkw hno n0_ n1_ n2_
      generalize (Sf.g ⟨G, st, true⟩ k).asp = x at *
      by_cases h4 : x = 4
      · have b4 : ((x : Int) != 4) = false := by simp; omega
        have HN2 := Hid.mk' (HYK.out (by unfold aspG; simp [h4]))
        clear HYK HNK
        go_wp2
        go_roundw
        case rel => exact ⟨k + 1, by omega, by go_num, HKW.out, HN2.out⟩
        case measure => simp [intOf]; omega
      · have b4 : ((x : Int) != 4) = true := by simp; omega
        have HF2 := Hid.mk' (HNK.out (by unfold aspG; simp [h4]))
        clear HYK HNK
        go_wp2
        go_ret
        exact ⟨by rw [HF2.out]; rfl, HK.out.tr HKW.out⟩
    · have HG := Hid.mk' (HY.out (fun i hi => hno i (by omega)))
      clear hkw hno n0_ n1_ n2_
      go_wp2
      go_ret
      exact ⟨by rw [HG.out]; rfl, HK.out.tr HKW.out⟩
set_option maxRecDepth 100000 in
set_option maxHeartbeats 2000000 in
theorem rgoes9_false {X : Sa} {S : St} {w : World} {bf off c : Nat} {G : List Sn} {st : Int} (h : Sat w X S) (hT : Tabb w) (hF : SafeAt w (some ⟨bf, off, none⟩) c ⟨G, st, false⟩) (hO : Okay S) (hl : G.length ≤ 100) (hm : mayS S ⟨G, st, false⟩ = true) : Calls Tryz.prog 29 #[siteV X S, .agg #[.slice (some ⟨bf, off, none⟩) G.length c, .int .i64 st, .bool false]] w fun e w' => e = .returned (.bool (goesV S ⟨G, st, false⟩)) ∧ Kept w w' none := by
  have HOK := Hid.mk' hO
  have hng := hO.ng
  have hr := hF.cap.room
  have hx := hF.cap.max
  have HY : Hid ((∀ i, i < G.length → aspG ⟨G, st, false⟩ (Sf.g ⟨G, st, false⟩ i).asp = true) → goesV S ⟨G, st, false⟩ = true) := fun e => by unfold goesV; rw [hm, allB_iff.2 e]; rfl
  have HN : Hid (∀ i, i < G.length → aspG ⟨G, st, false⟩ (Sf.g ⟨G, st, false⟩ i).asp = false → goesV S ⟨G, st, false⟩ = false) := fun i hi e => by unfold goesV; rw [allB_no hi e, Bool.and_false]
  have hpos : 0 < G.length := by have := (mayS_parts hm).1; dsimp only at this; omega
  obtain ⟨bf', off', ebf, hbf, hcf⟩ := hF.lie.at_ hpos
  injection ebf with ebf
  injection ebf with ebf1 ebf2
  subst ebf1 ebf2
  dsimp only at hcf
  have k1 : Kept w (w.alloc (.cells #[.int .i64 S.id, .slice X.g S.groups.length X.gc, .slice X.a S.apart.length X.ac, .slice X.b S.between.length X.bc, .slice X.p S.phases.length X.pc, .slice X.e S.eyes.length X.ec, .int .i64 S.watch, .int .i64 S.feed, .int .i64 S.heal, .int .i64 S.low, .int .i64 S.high, .slice X.l S.plans.length X.lc] 29)) none := Kept.alloc _ _ _ _ _
  have k2 : Kept (w.alloc (.cells #[.int .i64 S.id, .slice X.g S.groups.length X.gc, .slice X.a S.apart.length X.ac, .slice X.b S.between.length X.bc, .slice X.p S.phases.length X.pc, .slice X.e S.eyes.length X.ec, .int .i64 S.watch, .int .i64 S.feed, .int .i64 S.heal, .int .i64 S.low, .int .i64 S.high, .slice X.l S.plans.length X.lc] 29)) ((w.alloc (.cells #[.int .i64 S.id, .slice X.g S.groups.length X.gc, .slice X.a S.apart.length X.ac, .slice X.b S.between.length X.bc, .slice X.p S.phases.length X.pc, .slice X.e S.eyes.length X.ec, .int .i64 S.watch, .int .i64 S.feed, .int .i64 S.heal, .int .i64 S.low, .int .i64 S.high, .slice X.l S.plans.length X.lc] 29)).alloc (.cells #[.slice (some ⟨bf, off, none⟩) G.length c, .int .i64 st, .bool false] 32)) none := Kept.alloc _ _ _ _ _
  have hsb := (sbox_alloc h 29).kept k2
  have bn := box_alloc (w.alloc (.cells #[.int .i64 S.id, .slice X.g S.groups.length X.gc, .slice X.a S.apart.length X.ac, .slice X.b S.between.length X.bc, .slice X.p S.phases.length X.pc, .slice X.e S.eyes.length X.ec, .int .i64 S.watch, .int .i64 S.feed, .int .i64 S.heal, .int .i64 S.low, .int .i64 S.high, .slice X.l S.plans.length X.lc] 29)) (.slice (some ⟨bf, off, none⟩) G.length c) (.int .i64 st) (.bool false) 32
  have hsz : ((w.alloc (.cells #[.int .i64 S.id, .slice X.g S.groups.length X.gc, .slice X.a S.apart.length X.ac, .slice X.b S.between.length X.bc, .slice X.p S.phases.length X.pc, .slice X.e S.eyes.length X.ec, .int .i64 S.watch, .int .i64 S.feed, .int .i64 S.heal, .int .i64 S.low, .int .i64 S.high, .slice X.l S.plans.length X.lc] 29)).alloc (.cells #[.slice (some ⟨bf, off, none⟩) G.length c, .int .i64 st, .bool false] 32)).heap.size = w.heap.size + 1 + 1 := by simp
  rw [World.size_alloc] at bn
  have hkA := k1.tr k2
  obtain ⟨WA, hWA⟩ : ∃ WA, ((w.alloc (.cells #[.int .i64 S.id, .slice X.g S.groups.length X.gc, .slice X.a S.apart.length X.ac, .slice X.b S.between.length X.bc, .slice X.p S.phases.length X.pc, .slice X.e S.eyes.length X.ec, .int .i64 S.watch, .int .i64 S.feed, .int .i64 S.heal, .int .i64 S.low, .int .i64 S.high, .slice X.l S.plans.length X.lc] 29)).alloc (.cells #[.slice (some ⟨bf, off, none⟩) G.length c, .int .i64 st, .bool false] 32)) = WA := ⟨_, rfl⟩
  rw [hWA] at hsb bn hsz hkA
  have HSB := Hid.mk' hsb
  have HBN := Hid.mk' bn
  have HSZ := Hid.mk' hsz
  have HK := Hid.mk' hkA
  have HS := Hid.mk' (h.kept hkA)
  have HT := Hid.mk' (hT.kept hkA)
  have HF := Hid.mk' (hF.kept hkA)
  have HCF : Hid (∀ i, i < G.length → ∀ j, j < 3 → w.cell? ⟨bf, off + i * 3 + j, none⟩ = some (snV (Sf.g ⟨G, st, false⟩ i) j)) := hcf
  have n0_ : ∀ w', Kept WA w' none → w'.cell? ⟨w.heap.size + 1, 0, none⟩ = some (.slice (some ⟨bf, off, none⟩) G.length c) := fun w' q => (HBN.out.kept q).c0
  have n1_ : ∀ w', Kept WA w' none → w'.cell? ⟨w.heap.size + 1, 1, none⟩ = some (.int .i64 st) := fun w' q => (HBN.out.kept q).c1
  have n2_ : ∀ w', Kept WA w' none → w'.cell? ⟨w.heap.size + 1, 2, none⟩ = some (.bool false) := fun w' q => (HBN.out.kept q).c2
  have s0_ : ∀ w', Kept WA w' none → w'.cell? ⟨w.heap.size, 0, none⟩ = some (.int .i64 S.id) := fun w' q => (HSB.out.kept q).c0
  have s1_ : ∀ w', Kept WA w' none → w'.cell? ⟨w.heap.size, 1, none⟩ = some (.slice X.g S.groups.length X.gc) := fun w' q => (HSB.out.kept q).c1
  have s2_ : ∀ w', Kept WA w' none → w'.cell? ⟨w.heap.size, 2, none⟩ = some (.slice X.a S.apart.length X.ac) := fun w' q => (HSB.out.kept q).c2
  have s3_ : ∀ w', Kept WA w' none → w'.cell? ⟨w.heap.size, 3, none⟩ = some (.slice X.b S.between.length X.bc) := fun w' q => (HSB.out.kept q).c3
  have s4_ : ∀ w', Kept WA w' none → w'.cell? ⟨w.heap.size, 4, none⟩ = some (.slice X.p S.phases.length X.pc) := fun w' q => (HSB.out.kept q).c4
  have s5_ : ∀ w', Kept WA w' none → w'.cell? ⟨w.heap.size, 5, none⟩ = some (.slice X.e S.eyes.length X.ec) := fun w' q => (HSB.out.kept q).c5
  have s6_ : ∀ w', Kept WA w' none → w'.cell? ⟨w.heap.size, 6, none⟩ = some (.int .i64 S.watch) := fun w' q => (HSB.out.kept q).c6
  have s7_ : ∀ w', Kept WA w' none → w'.cell? ⟨w.heap.size, 7, none⟩ = some (.int .i64 S.feed) := fun w' q => (HSB.out.kept q).c7
  have s8_ : ∀ w', Kept WA w' none → w'.cell? ⟨w.heap.size, 8, none⟩ = some (.int .i64 S.heal) := fun w' q => (HSB.out.kept q).c8
  have s9_ : ∀ w', Kept WA w' none → w'.cell? ⟨w.heap.size, 9, none⟩ = some (.int .i64 S.low) := fun w' q => (HSB.out.kept q).c9
  have s10_ : ∀ w', Kept WA w' none → w'.cell? ⟨w.heap.size, 10, none⟩ = some (.int .i64 S.high) := fun w' q => (HSB.out.kept q).c10
  have s11_ : ∀ w', Kept WA w' none → w'.cell? ⟨w.heap.size, 11, none⟩ = some (.slice X.l S.plans.length X.lc) := fun w' q => (HSB.out.kept q).c11
  have hK0 := Kept.refl WA none
  clear h hT hF k1 k2 hsb bn hsz hkA
  have HMAY : Hid (∀ w', Kept WA w' none → Calls Tryz.prog 49 #[siteV X S, .agg #[.slice (some ⟨bf, off, none⟩) G.length c, .int .i64 st, .bool false]] w' fun e w2 => e = .returned (.bool true) ∧ Kept w' w2 none) := fun w' q => by
    have hx := rmay8_any (HS.out.kept q) (HF.out.kept q) (by show G.length ≤ 900; omega) HOK.out
    rw [hm] at hx
    exact hx
  have HK0 := Hid.mk' hK0
  clear hcf hm hng
  go_enter Tryz.func29, Tryz.ntmps29
  go_wp2_with (first | rw [hWA] | (go_at_call 49; refine (HMAY.out _ hK0).mono ?_; rintro e wN ⟨rfl, hkN⟩; have HKN := Hid.mk' hkN))
  clear hkN
  go_loopw [5, 6] (fun i _ wr => ∃ k : Nat, k ≤ G.length ∧ i = .int .i64 k ∧ Kept WA wr none ∧ ∀ j, j < k → aspG ⟨G, st, false⟩ (Sf.g ⟨G, st, false⟩ j).asp = true) (fun i _ _ => G.length - (intOf i).toNat)
  case atStart => exact ⟨0, by omega, rfl, HKN.out, fun j hj => by omega⟩
  case round =>
    obtain ⟨k, hk, rfl, hkw, hno⟩ := hrel
    have HKW := Hid.mk' hkw
    have g0 := n0_ wr hkw
    have g1 := n1_ wr hkw
    have g2 := n2_ wr hkw
    by_cases hlt : k < G.length
    · have q0 := cell_kept0 (HCF.out k hlt 0 (by omega)) (HK.out.tr hkw)
      simp only [snV, Nat.add_zero] at q0
      have HYK : Hid (aspG ⟨G, st, false⟩ (Sf.g ⟨G, st, false⟩ k).asp = true → ∀ j, j < k + 1 → aspG ⟨G, st, false⟩ (Sf.g ⟨G, st, false⟩ j).asp = true) := fun e => ext_no hno e
      have HNK := Hid.mk' (HN.out k hlt)
      clear hkw hno n0_ n1_ n2_
      generalize (Sf.g ⟨G, st, false⟩ k).asp = x at *
      by_cases h1 : x < 1
      · have b1 : decide ((x : Int) < 1) = true := by simp; omega
        have HF2 := Hid.mk' (HNK.out (by unfold aspG; by_cases hs : 0 < st <;> simp [hs] <;> omega))
        clear HYK HNK
        go_wp2
        go_ret
        exact ⟨by rw [HF2.out]; rfl, HK.out.tr HKW.out⟩
      have b1 : decide ((x : Int) < 1) = false := by simp; omega
      by_cases h3 : 3 < x
      · have b3 : decide (3 < (x : Int)) = true := by simp; omega
        have HF2 := Hid.mk' (HNK.out (by unfold aspG; by_cases hs : 0 < st <;> simp [hs] <;> omega))
        clear HYK HNK
        go_wp2
        go_ret
        exact ⟨by rw [HF2.out]; rfl, HK.out.tr HKW.out⟩
      have b3 : decide (3 < (x : Int)) = false := by simp; omega
      by_cases hs : 0 < st
      · have bs : decide (0 < st) = true := by simp; omega
        by_cases e1 : x = 1
        · have c1 : ((x : Int) != 1) = false := by simp; omega
          have HN2 := Hid.mk' (HYK.out (by unfold aspG; simp [hs, e1]))
          clear HYK HNK
          go_wp2
          go_roundw
          case rel => exact ⟨k + 1, by omega, by go_num, HKW.out, HN2.out⟩
          case measure => simp [intOf]; omega
        · have c1 : ((x : Int) != 1) = true := by simp; omega
          have HF2 := Hid.mk' (HNK.out (by unfold aspG; simp [hs, e1]))
          clear HYK HNK
          go_wp2
          go_ret
          exact ⟨by rw [HF2.out]; rfl, HK.out.tr HKW.out⟩
      · have bs : decide (0 < st) = false := by simp; omega
        have HN2 := Hid.mk' (HYK.out (by unfold aspG; simp [hs]; omega))
        clear HYK HNK
        go_wp2
        go_roundw
        case rel => exact ⟨k + 1, by omega, by go_num, HKW.out, HN2.out⟩
        case measure => simp [intOf]; omega
    · have HG := Hid.mk' (HY.out (fun i hi => hno i (by omega)))
      clear hkw hno n0_ n1_ n2_
      go_wp2
      go_ret
      exact ⟨by rw [HG.out]; rfl, HK.out.tr HKW.out⟩
theorem rgoes9_any {X : Sa} {S : St} {w : World} {a : Option Addr} {c : Nat} {F : Sf} (h : Sat w X S) (hT : Tabb w) (hF : SafeAt w a c F) (hO : Okay S) (hl : F.groups.length ≤ 100) : Calls Tryz.prog 29 #[siteV X S, .agg #[.slice a F.groups.length c, .int .i64 F.start, .bool F.flashed]] w fun e w' => e = .returned (.bool (goesV S F)) ∧ Kept w w' none := by
  cases hm : mayS S F with
  | false =>
    have hg : goesV S F = false := by unfold goesV; rw [hm]; rfl
    rw [hg]
    exact rgoes9_no h hT hF hO hl hm
  | true =>
    have := (mayS_parts hm).1
    have := hO.ng
    obtain ⟨bf, off, rfl, _, _⟩ := hF.lie.at_ (by omega)
    obtain ⟨G, st, fl⟩ := F
    cases fl with
    | true => exact rgoes9_true h hT hF hO hl hm
    | false => exact rgoes9_false h hT hF hO hl hm

end Go.Proofs.YtchjbagipbmcoaaGreatDoor

/-
  THE DOCUMENT'S Let of layer 9 (made by a program).
-/
namespace Go.Proofs.YtchjbagipbmcoaaGreatDoor
open Go.RowKit Go.Lib Go.Deep
set_option linter.unusedVariables false
set_option linter.unusedSimpArgs false

theorem allB_succ9 (n : Nat) (f : Nat → Bool) : allB (n + 1) f = (allB n f && f n) := by unfold allB; rw [List.range_succ, List.all_append]; simp
set_option maxRecDepth 100000 in
set_option maxHeartbeats 4000000 in
theorem rlet9_flash {X : Sa} {S : St} {w : World} {bf off c ba oa cl : Nat} {F : Sf} {L : List Nat} (h : Sat w X S) (hSh : Shape S) (hF : SafeAt w (some ⟨bf, off, none⟩) c F) (hf : F.groups.length = S.groups.length) (hB : By w (some ⟨ba, oa, none⟩) S.groups.length L) (hT : Tabb w) (h4 : allIs L 4 = true) : Calls Tryz.prog 31 #[siteV X S, .agg #[.slice (some ⟨bf, off, none⟩) S.groups.length c, .int .i64 F.start, .bool F.flashed], .slice (some ⟨ba, oa, none⟩) S.groups.length cl] w fun e w' => ∃ a' c', e = .returned (.slice a' S.groups.length c') ∧ By w' a' S.groups.length (letV S F L) ∧ (∀ b, a' = some b → w.heap.size ≤ b.block) ∧ Kept w w' none := by
  have hcc : cntN L 4 = S.groups.length := (cnt_all.2 h4).trans hB.size
  have HLE : Hid (letV S F L = L) := by
    show _ = _
    refine List.ext_getElem (letV_len S F L) (fun i h1 h2 => ?_)
    have a1 := letV_lg (S := S) (F := F) h2
    have b1 : lg (letV S F L) i = (letV S F L)[i] := by simp [lg, h1]
    have c1 : lg L i = L[i] := by simp [lg, h2]
    rw [← b1, a1, ← c1, allIs_iff.1 h4 i h2]
    unfold letF
    rw [if_pos h4]
  have HCC := Hid.mk' hcc
  clear h4 hcc
  have hng := hSh.ok.ng
  have hnz : 0 < S.groups.length := by omega
  have HSH := Hid.mk' hSh
  have hFr : S.groups.length ≤ c := by have := hF.cap.room; omega
  have hFm := hF.cap.max
  obtain ⟨bf', off', ebf, hbf, hcf⟩ := hF.lie.at_ (by omega)
  injection ebf with ebf
  injection ebf with ebf1 ebf2
  subst ebf1 ebf2
  have HCF : Hid (∀ i, i < S.groups.length → ∀ j, j < 3 → w.cell? ⟨bf, off + i * 3 + j, none⟩ = some (snV (F.g i) j)) := fun i hi j hj => hcf i (by omega) j hj
  obtain ⟨ba', oa', eba, hba, hca⟩ := hB.at_ hnz
  injection eba with eba
  injection eba with eba1 eba2
  subst eba1 eba2
  have HCA : Hid (∀ i, i < S.groups.length → w.cell? ⟨ba, oa + i, none⟩ = some (.int .u8 (lg L i : Int))) := hca
  have hBm := hB.max
  have k1 : Kept w (w.alloc (.cells #[.int .i64 S.id, .slice X.g S.groups.length X.gc, .slice X.a S.apart.length X.ac, .slice X.b S.between.length X.bc, .slice X.p S.phases.length X.pc, .slice X.e S.eyes.length X.ec, .int .i64 S.watch, .int .i64 S.feed, .int .i64 S.heal, .int .i64 S.low, .int .i64 S.high, .slice X.l S.plans.length X.lc] 29)) none := Kept.alloc _ _ _ _ _
  have k2 : Kept (w.alloc (.cells #[.int .i64 S.id, .slice X.g S.groups.length X.gc, .slice X.a S.apart.length X.ac, .slice X.b S.between.length X.bc, .slice X.p S.phases.length X.pc, .slice X.e S.eyes.length X.ec, .int .i64 S.watch, .int .i64 S.feed, .int .i64 S.heal, .int .i64 S.low, .int .i64 S.high, .slice X.l S.plans.length X.lc] 29)) ((w.alloc (.cells #[.int .i64 S.id, .slice X.g S.groups.length X.gc, .slice X.a S.apart.length X.ac, .slice X.b S.between.length X.bc, .slice X.p S.phases.length X.pc, .slice X.e S.eyes.length X.ec, .int .i64 S.watch, .int .i64 S.feed, .int .i64 S.heal, .int .i64 S.low, .int .i64 S.high, .slice X.l S.plans.length X.lc] 29)).alloc (.cells #[.slice (some ⟨bf, off, none⟩) S.groups.length c, .int .i64 F.start, .bool F.flashed] 32)) none := Kept.alloc _ _ _ _ _
  have hsb := (sbox_alloc h 29).kept k2
  have bn := box_alloc (w.alloc (.cells #[.int .i64 S.id, .slice X.g S.groups.length X.gc, .slice X.a S.apart.length X.ac, .slice X.b S.between.length X.bc, .slice X.p S.phases.length X.pc, .slice X.e S.eyes.length X.ec, .int .i64 S.watch, .int .i64 S.feed, .int .i64 S.heal, .int .i64 S.low, .int .i64 S.high, .slice X.l S.plans.length X.lc] 29)) (.slice (some ⟨bf, off, none⟩) S.groups.length c) (.int .i64 F.start) (.bool F.flashed) 32
  have hsz : ((w.alloc (.cells #[.int .i64 S.id, .slice X.g S.groups.length X.gc, .slice X.a S.apart.length X.ac, .slice X.b S.between.length X.bc, .slice X.p S.phases.length X.pc, .slice X.e S.eyes.length X.ec, .int .i64 S.watch, .int .i64 S.feed, .int .i64 S.heal, .int .i64 S.low, .int .i64 S.high, .slice X.l S.plans.length X.lc] 29)).alloc (.cells #[.slice (some ⟨bf, off, none⟩) S.groups.length c, .int .i64 F.start, .bool F.flashed] 32)).heap.size = w.heap.size + 1 + 1 := by simp
  rw [World.size_alloc] at bn
  have hkA := k1.tr k2
  obtain ⟨WA, hWA⟩ : ∃ WA, ((w.alloc (.cells #[.int .i64 S.id, .slice X.g S.groups.length X.gc, .slice X.a S.apart.length X.ac, .slice X.b S.between.length X.bc, .slice X.p S.phases.length X.pc, .slice X.e S.eyes.length X.ec, .int .i64 S.watch, .int .i64 S.feed, .int .i64 S.heal, .int .i64 S.low, .int .i64 S.high, .slice X.l S.plans.length X.lc] 29)).alloc (.cells #[.slice (some ⟨bf, off, none⟩) S.groups.length c, .int .i64 F.start, .bool F.flashed] 32)) = WA := ⟨_, rfl⟩
  rw [hWA] at hsb bn hsz hkA
  have HSB := Hid.mk' hsb
  have HBN := Hid.mk' bn
  have HSZ := Hid.mk' hsz
  have HK := Hid.mk' hkA
  have HS := Hid.mk' (h.kept hkA)
  have HT := Hid.mk' (hT.kept hkA)
  have HF := Hid.mk' (hF.kept hkA)
  have HB := Hid.mk' (hB.kept hkA)
  have HLN := Hid.mk' hB.size
  have HLR := Hid.mk' hB.lt
  have n0_ : ∀ w', Kept WA w' none → w'.cell? ⟨w.heap.size + 1, 0, none⟩ = some (.slice (some ⟨bf, off, none⟩) S.groups.length c) := fun w' q => (HBN.out.kept q).c0
  have n1_ : ∀ w', Kept WA w' none → w'.cell? ⟨w.heap.size + 1, 1, none⟩ = some (.int .i64 F.start) := fun w' q => (HBN.out.kept q).c1
  have n2_ : ∀ w', Kept WA w' none → w'.cell? ⟨w.heap.size + 1, 2, none⟩ = some (.bool F.flashed) := fun w' q => (HBN.out.kept q).c2
  have s0_ : ∀ w', Kept WA w' none → w'.cell? ⟨w.heap.size, 0, none⟩ = some (.int .i64 S.id) := fun w' q => (HSB.out.kept q).c0
  have s1_ : ∀ w', Kept WA w' none → w'.cell? ⟨w.heap.size, 1, none⟩ = some (.slice X.g S.groups.length X.gc) := fun w' q => (HSB.out.kept q).c1
  have s2_ : ∀ w', Kept WA w' none → w'.cell? ⟨w.heap.size, 2, none⟩ = some (.slice X.a S.apart.length X.ac) := fun w' q => (HSB.out.kept q).c2
  have s3_ : ∀ w', Kept WA w' none → w'.cell? ⟨w.heap.size, 3, none⟩ = some (.slice X.b S.between.length X.bc) := fun w' q => (HSB.out.kept q).c3
  have s4_ : ∀ w', Kept WA w' none → w'.cell? ⟨w.heap.size, 4, none⟩ = some (.slice X.p S.phases.length X.pc) := fun w' q => (HSB.out.kept q).c4
  have s5_ : ∀ w', Kept WA w' none → w'.cell? ⟨w.heap.size, 5, none⟩ = some (.slice X.e S.eyes.length X.ec) := fun w' q => (HSB.out.kept q).c5
  have s6_ : ∀ w', Kept WA w' none → w'.cell? ⟨w.heap.size, 6, none⟩ = some (.int .i64 S.watch) := fun w' q => (HSB.out.kept q).c6
  have s7_ : ∀ w', Kept WA w' none → w'.cell? ⟨w.heap.size, 7, none⟩ = some (.int .i64 S.feed) := fun w' q => (HSB.out.kept q).c7
  have s8_ : ∀ w', Kept WA w' none → w'.cell? ⟨w.heap.size, 8, none⟩ = some (.int .i64 S.heal) := fun w' q => (HSB.out.kept q).c8
  have s9_ : ∀ w', Kept WA w' none → w'.cell? ⟨w.heap.size, 9, none⟩ = some (.int .i64 S.low) := fun w' q => (HSB.out.kept q).c9
  have s10_ : ∀ w', Kept WA w' none → w'.cell? ⟨w.heap.size, 10, none⟩ = some (.int .i64 S.high) := fun w' q => (HSB.out.kept q).c10
  have s11_ : ∀ w', Kept WA w' none → w'.cell? ⟨w.heap.size, 11, none⟩ = some (.slice X.l S.plans.length X.lc) := fun w' q => (HSB.out.kept q).c11
  have hK0 := Kept.refl WA none
  clear h hT hF k1 k2 hsb bn hsz hkA
  have HNA := Hid.mk' HSH.out.ok.na
  clear hcf hca hf
  go_enter Tryz.func31, Tryz.ntmps31
  go_wp2_with (first | rw [hWA])
  go_loopw [7, 8] (fun nv i wr => ∃ k : Nat, k ≤ S.groups.length ∧ i = .int .i64 k ∧ nv = .int .i64 ((cntN (L.take k) 4 : Nat) : Int) ∧ wr = WA) (fun _ i _ => S.groups.length - (intOf i).toNat)
  case atStart => exact ⟨0, by omega, rfl, rfl, rfl⟩
  case round =>
    obtain ⟨k, hk, rfl, rfl, rfl⟩ := hrel
    by_cases hlt : k < S.groups.length
    · have l0 := cell_kept0 (HCA.out k hlt) HK.out
      have hct := cnt_take (x := 4) (show k < L.length by have := HLN.out; omega)
      have hcl4 : cntN (L.take k) 4 ≤ 16 := by have := cntN_le (L.take k) 4; simp at this; omega
      have HCT := Hid.mk' hct
      clear hct
      generalize cntN (L.take k) 4 = z at *
      generalize lg L k = y at *
      by_cases h4 : y = 4
      · subst h4
        have HC2 : Hid (cntN (L.take (k + 1)) 4 = z + 1) := by show _ = _; rw [HCT.out, if_pos rfl]
        go_wp2
        go_roundw
        case rel => exact ⟨k + 1, by omega, by go_num, by rw [HC2.out]; go_num, by first | trivial | rfl⟩
        case measure => simp [intOf]; omega
      · have HC2 : Hid (cntN (L.take (k + 1)) 4 = z) := by show _ = _; rw [HCT.out, if_neg h4]; rfl
        have h4b : ((y : Int) == 4) = false := by simp; omega
        clear h4
        go_wp2
        go_roundw
        case rel => exact ⟨k + 1, by omega, by go_num, by rw [HC2.out], by first | trivial | rfl⟩
        case measure => simp [intOf]; omega
    · have e : k = S.groups.length := by omega
      have hcn : cntN (L.take k) 4 = cntN L 4 := by rw [e, ← HLN.out, List.take_length]
      rw [hcn]
      obtain ⟨W0, hW0⟩ : ∃ W0, W0 = wr := ⟨_, rfl⟩
      subst hW0
      clear hcn
      subst e
      rw [HCC.out]
      go_wp2_with (at_builtin; refine wpList_join (by rfl) _ _ (by rfl) w.heap.size (.slice none 0 0) 0 [] (by rfl) (World.ownsRow_nil _ _ _ _) _ S.groups.length cl L (by rfl) HB.out (fun e => (nomatch e)) (by omega) HK.out.size ?_; intro a2 c2 w2 hm2 hg2; rw [show 0 + S.groups.length = S.groups.length from Nat.zero_add _, List.nil_append] at hm2; rw [show 0 + S.groups.length = S.groups.length from Nat.zero_add _])
      go_ret
      exact ⟨a2, c2, rfl, by rw [HLE.out]; exact hm2.by HLR.out, fun b e => (own_lt8 hm2.own b.block (by rw [e]; rfl)).1, HK.out.newRow hg2 (fun i h => (nomatch h))⟩
set_option maxRecDepth 100000 in
set_option maxHeartbeats 4000000 in
theorem rlet9_stay {X : Sa} {S : St} {w : World} {bf off c ba oa cl : Nat} {F : Sf} {L : List Nat} (h : Sat w X S) (hSh : Shape S) (hF : SafeAt w (some ⟨bf, off, none⟩) c F) (hf : F.groups.length = S.groups.length) (hB : By w (some ⟨ba, oa, none⟩) S.groups.length L) (hT : Tabb w) (h4 : allIs L 4 = false) (hs : F.flashed = true ∨ 0 < F.start) : Calls Tryz.prog 31 #[siteV X S, .agg #[.slice (some ⟨bf, off, none⟩) S.groups.length c, .int .i64 F.start, .bool F.flashed], .slice (some ⟨ba, oa, none⟩) S.groups.length cl] w fun e w' => ∃ a' c', e = .returned (.slice a' S.groups.length c') ∧ By w' a' S.groups.length (letV S F L) ∧ (∀ b, a' = some b → w.heap.size ≤ b.block) ∧ Kept w w' none := by
  have hcc : cntN L 4 ≠ S.groups.length := fun e => by rw [cnt_all.1 (e.trans hB.size.symm)] at h4; cases h4
  have HV : Hid (∀ i, letF S F L i = 1) := fun i => by unfold letF; rw [if_neg (by rw [h4]; decide), if_pos hs]
  have hccb : (((cntN L 4 : Nat) : Int) == (S.groups.length : Int)) = false := by simp; omega
  clear h4 hcc
  have hng := hSh.ok.ng
  have hnz : 0 < S.groups.length := by omega
  have HSH := Hid.mk' hSh
  have hFr : S.groups.length ≤ c := by have := hF.cap.room; omega
  have hFm := hF.cap.max
  obtain ⟨bf', off', ebf, hbf, hcf⟩ := hF.lie.at_ (by omega)
  injection ebf with ebf
  injection ebf with ebf1 ebf2
  subst ebf1 ebf2
  have HCF : Hid (∀ i, i < S.groups.length → ∀ j, j < 3 → w.cell? ⟨bf, off + i * 3 + j, none⟩ = some (snV (F.g i) j)) := fun i hi j hj => hcf i (by omega) j hj
  obtain ⟨ba', oa', eba, hba, hca⟩ := hB.at_ hnz
  injection eba with eba
  injection eba with eba1 eba2
  subst eba1 eba2
  have HCA : Hid (∀ i, i < S.groups.length → w.cell? ⟨ba, oa + i, none⟩ = some (.int .u8 (lg L i : Int))) := hca
  have hBm := hB.max
  have k1 : Kept w (w.alloc (.cells #[.int .i64 S.id, .slice X.g S.groups.length X.gc, .slice X.a S.apart.length X.ac, .slice X.b S.between.length X.bc, .slice X.p S.phases.length X.pc, .slice X.e S.eyes.length X.ec, .int .i64 S.watch, .int .i64 S.feed, .int .i64 S.heal, .int .i64 S.low, .int .i64 S.high, .slice X.l S.plans.length X.lc] 29)) none := Kept.alloc _ _ _ _ _
  have k2 : Kept (w.alloc (.cells #[.int .i64 S.id, .slice X.g S.groups.length X.gc, .slice X.a S.apart.length X.ac, .slice X.b S.between.length X.bc, .slice X.p S.phases.length X.pc, .slice X.e S.eyes.length X.ec, .int .i64 S.watch, .int .i64 S.feed, .int .i64 S.heal, .int .i64 S.low, .int .i64 S.high, .slice X.l S.plans.length X.lc] 29)) ((w.alloc (.cells #[.int .i64 S.id, .slice X.g S.groups.length X.gc, .slice X.a S.apart.length X.ac, .slice X.b S.between.length X.bc, .slice X.p S.phases.length X.pc, .slice X.e S.eyes.length X.ec, .int .i64 S.watch, .int .i64 S.feed, .int .i64 S.heal, .int .i64 S.low, .int .i64 S.high, .slice X.l S.plans.length X.lc] 29)).alloc (.cells #[.slice (some ⟨bf, off, none⟩) S.groups.length c, .int .i64 F.start, .bool F.flashed] 32)) none := Kept.alloc _ _ _ _ _
  have hsb := (sbox_alloc h 29).kept k2
  have bn := box_alloc (w.alloc (.cells #[.int .i64 S.id, .slice X.g S.groups.length X.gc, .slice X.a S.apart.length X.ac, .slice X.b S.between.length X.bc, .slice X.p S.phases.length X.pc, .slice X.e S.eyes.length X.ec, .int .i64 S.watch, .int .i64 S.feed, .int .i64 S.heal, .int .i64 S.low, .int .i64 S.high, .slice X.l S.plans.length X.lc] 29)) (.slice (some ⟨bf, off, none⟩) S.groups.length c) (.int .i64 F.start) (.bool F.flashed) 32
  have hsz : ((w.alloc (.cells #[.int .i64 S.id, .slice X.g S.groups.length X.gc, .slice X.a S.apart.length X.ac, .slice X.b S.between.length X.bc, .slice X.p S.phases.length X.pc, .slice X.e S.eyes.length X.ec, .int .i64 S.watch, .int .i64 S.feed, .int .i64 S.heal, .int .i64 S.low, .int .i64 S.high, .slice X.l S.plans.length X.lc] 29)).alloc (.cells #[.slice (some ⟨bf, off, none⟩) S.groups.length c, .int .i64 F.start, .bool F.flashed] 32)).heap.size = w.heap.size + 1 + 1 := by simp
  rw [World.size_alloc] at bn
  have hkA := k1.tr k2
  obtain ⟨WA, hWA⟩ : ∃ WA, ((w.alloc (.cells #[.int .i64 S.id, .slice X.g S.groups.length X.gc, .slice X.a S.apart.length X.ac, .slice X.b S.between.length X.bc, .slice X.p S.phases.length X.pc, .slice X.e S.eyes.length X.ec, .int .i64 S.watch, .int .i64 S.feed, .int .i64 S.heal, .int .i64 S.low, .int .i64 S.high, .slice X.l S.plans.length X.lc] 29)).alloc (.cells #[.slice (some ⟨bf, off, none⟩) S.groups.length c, .int .i64 F.start, .bool F.flashed] 32)) = WA := ⟨_, rfl⟩
  rw [hWA] at hsb bn hsz hkA
  have HSB := Hid.mk' hsb
  have HBN := Hid.mk' bn
  have HSZ := Hid.mk' hsz
  have HK := Hid.mk' hkA
  have HS := Hid.mk' (h.kept hkA)
  have HT := Hid.mk' (hT.kept hkA)
  have HF := Hid.mk' (hF.kept hkA)
  have HB := Hid.mk' (hB.kept hkA)
  have HLN := Hid.mk' hB.size
  have HLR := Hid.mk' hB.lt
  have n0_ : ∀ w', Kept WA w' none → w'.cell? ⟨w.heap.size + 1, 0, none⟩ = some (.slice (some ⟨bf, off, none⟩) S.groups.length c) := fun w' q => (HBN.out.kept q).c0
  have n1_ : ∀ w', Kept WA w' none → w'.cell? ⟨w.heap.size + 1, 1, none⟩ = some (.int .i64 F.start) := fun w' q => (HBN.out.kept q).c1
  have n2_ : ∀ w', Kept WA w' none → w'.cell? ⟨w.heap.size + 1, 2, none⟩ = some (.bool F.flashed) := fun w' q => (HBN.out.kept q).c2
  have s0_ : ∀ w', Kept WA w' none → w'.cell? ⟨w.heap.size, 0, none⟩ = some (.int .i64 S.id) := fun w' q => (HSB.out.kept q).c0
  have s1_ : ∀ w', Kept WA w' none → w'.cell? ⟨w.heap.size, 1, none⟩ = some (.slice X.g S.groups.length X.gc) := fun w' q => (HSB.out.kept q).c1
  have s2_ : ∀ w', Kept WA w' none → w'.cell? ⟨w.heap.size, 2, none⟩ = some (.slice X.a S.apart.length X.ac) := fun w' q => (HSB.out.kept q).c2
  have s3_ : ∀ w', Kept WA w' none → w'.cell? ⟨w.heap.size, 3, none⟩ = some (.slice X.b S.between.length X.bc) := fun w' q => (HSB.out.kept q).c3
  have s4_ : ∀ w', Kept WA w' none → w'.cell? ⟨w.heap.size, 4, none⟩ = some (.slice X.p S.phases.length X.pc) := fun w' q => (HSB.out.kept q).c4
  have s5_ : ∀ w', Kept WA w' none → w'.cell? ⟨w.heap.size, 5, none⟩ = some (.slice X.e S.eyes.length X.ec) := fun w' q => (HSB.out.kept q).c5
  have s6_ : ∀ w', Kept WA w' none → w'.cell? ⟨w.heap.size, 6, none⟩ = some (.int .i64 S.watch) := fun w' q => (HSB.out.kept q).c6
  have s7_ : ∀ w', Kept WA w' none → w'.cell? ⟨w.heap.size, 7, none⟩ = some (.int .i64 S.feed) := fun w' q => (HSB.out.kept q).c7
  have s8_ : ∀ w', Kept WA w' none → w'.cell? ⟨w.heap.size, 8, none⟩ = some (.int .i64 S.heal) := fun w' q => (HSB.out.kept q).c8
  have s9_ : ∀ w', Kept WA w' none → w'.cell? ⟨w.heap.size, 9, none⟩ = some (.int .i64 S.low) := fun w' q => (HSB.out.kept q).c9
  have s10_ : ∀ w', Kept WA w' none → w'.cell? ⟨w.heap.size, 10, none⟩ = some (.int .i64 S.high) := fun w' q => (HSB.out.kept q).c10
  have s11_ : ∀ w', Kept WA w' none → w'.cell? ⟨w.heap.size, 11, none⟩ = some (.slice X.l S.plans.length X.lc) := fun w' q => (HSB.out.kept q).c11
  have hK0 := Kept.refl WA none
  clear h hT hF k1 k2 hsb bn hsz hkA
  have HNA := Hid.mk' HSH.out.ok.na
  clear hcf hca hf
  go_enter Tryz.func31, Tryz.ntmps31
  go_wp2_with (first | rw [hWA])
  go_loopw [7, 8] (fun nv i wr => ∃ k : Nat, k ≤ S.groups.length ∧ i = .int .i64 k ∧ nv = .int .i64 ((cntN (L.take k) 4 : Nat) : Int) ∧ wr = WA) (fun _ i _ => S.groups.length - (intOf i).toNat)
  case atStart => exact ⟨0, by omega, rfl, rfl, rfl⟩
  case round =>
    obtain ⟨k, hk, rfl, rfl, rfl⟩ := hrel
    by_cases hlt : k < S.groups.length
    · have l0 := cell_kept0 (HCA.out k hlt) HK.out
      have hct := cnt_take (x := 4) (show k < L.length by have := HLN.out; omega)
      have hcl4 : cntN (L.take k) 4 ≤ 16 := by have := cntN_le (L.take k) 4; simp at this; omega
      have HCT := Hid.mk' hct
      clear hct
      generalize cntN (L.take k) 4 = z at *
      generalize lg L k = y at *
      by_cases h4 : y = 4
      · subst h4
        have HC2 : Hid (cntN (L.take (k + 1)) 4 = z + 1) := by show _ = _; rw [HCT.out, if_pos rfl]
        go_wp2
        go_roundw
        case rel => exact ⟨k + 1, by omega, by go_num, by rw [HC2.out]; go_num, by first | trivial | rfl⟩
        case measure => simp [intOf]; omega
      · have HC2 : Hid (cntN (L.take (k + 1)) 4 = z) := by show _ = _; rw [HCT.out, if_neg h4]; rfl
        have h4b : ((y : Int) == 4) = false := by simp; omega
        clear h4
        go_wp2
        go_roundw
        case rel => exact ⟨k + 1, by omega, by go_num, by rw [HC2.out], by first | trivial | rfl⟩
        case measure => simp [intOf]; omega
    · have e : k = S.groups.length := by omega
      have hcn : cntN (L.take k) 4 = cntN L 4 := by rw [e, ← HLN.out, List.take_length]
      rw [hcn]
      obtain ⟨W0, hW0⟩ : ∃ W0, W0 = wr := ⟨_, rfl⟩
      subst hW0
      clear hcn
      subst e
      generalize cntN L 4 = z at *
      have x1 := n1_ W0 (Kept.refl _ _)
      have x2 := n2_ W0 (Kept.refl _ _)
      rcases Bool.eq_false_or_eq_true F.flashed with hfl | hfl
      · rw [hfl] at x2
        simp only [hfl] at n2_
        have hsb1 : True := trivial
        clear hfl hs
        go_wp2
        go_loopw [9, 11, 12] (fun o i _ wr => ∃ k : Nat, k ≤ S.groups.length ∧ i = .int .i64 k ∧ Kept W0 wr none ∧ ∃ P : List Nat, P = (List.range k).map (fun _ => 1) ∧ wr.ownsRow W0.heap.size 5 1 o P.length (P.map byteV)) (fun _ i _ _ => S.groups.length - (intOf i).toNat)
        case atStart => exact ⟨0, by omega, rfl, Kept.refl _ _, [], rfl, World.ownsRow_nil _ _ _ _⟩
        case round =>
          obtain ⟨k, hk, rfl, hkw, P, hP, ho⟩ := hrel
          obtain ⟨a1, c1, rfl, hm1⟩ := mine_of ho
          have hPl : P.length = k := by rw [hP]; simp
          have HOW := Hid.mk' ho
          have HKW := Hid.mk' hkw
          have HP := Hid.mk' hP
          have HPL := Hid.mk' hPl
          have hr1 := hm1.room
          have hx1 := hm1.max
          by_cases hlt : k < S.groups.length
          · have hPb : P.length ≤ 100 := by omega
            clear hkw hP ho hm1 hPl
            go_wp2_with (at_builtin; refine wpList_join (by rfl) _ _ (by rfl) W0.heap.size _ P.length P (by rfl) (own_kept8 HOW.out (Kept.alloc _ _ _ _ none) (fun g _ => by simp)) _ 1 1 [1] (by rfl) (by_unit9 wr 1 (by omega)) (fun e => (nomatch e)) (by omega) (by have := HKW.out.size; simp; omega) ?_; intro a2 c2 w2 hm2 hg2)
            go_roundw
            case rel => exact ⟨k + 1, by omega, by go_num, own_step9 HKW.out HOW.out hg2, P ++ [1], by rw [HP.out, List.range_succ, List.map_append]; rfl, by rw [List.length_append]; exact hm2.own⟩
            case measure => simp [intOf]; omega
          · have e : k = S.groups.length := by omega
            have hPe : P = letV S F L := by
              rw [hP, e]
              unfold letV
              rw [HLN.out]
              exact List.map_congr_left (fun i hi => (HV.out i).symm)
            have HBY := Hid.mk' (hm1.by (by rw [hPe]; exact letV_lt9 S F L))
            have HNEW := Hid.mk' hm1.own
            have HPE := Hid.mk' hPe
            have hnpos : (0 : Int) < (S.groups.length : Int) := by omega
            rw [show P.length = S.groups.length by omega] at HBY HNEW hr1 ⊢
            clear hkw hP ho hm1 hPe hPl HOW
            go_wp2
            go_loopw [13, 14, 15] (fun i _ _ wr2 => i = .int .i64 0 ∧ wr2 = wr) (fun _ _ _ _ => 0)
            case atStart => exact ⟨rfl, rfl⟩
            case round =>
              obtain ⟨rfl, rfl⟩ := hrel
              go_wp2
              go_ret
              exact ⟨a1, c1, rfl, by rw [← HPE.out]; exact HBY.out, fun b e => Nat.le_trans HK.out.size (own_lt8 HNEW.out b.block (by rw [e]; rfl)).1, HK.out.tr HKW.out⟩

      · rw [hfl] at x2
        simp only [hfl] at n2_
        have hsb1 : decide (0 < F.start) = true := by rcases hs with hs | hs; (rw [hfl] at hs; cases hs); simpa using hs
        clear hfl hs
        go_wp2
        go_loopw [9, 11, 12] (fun o i _ wr => ∃ k : Nat, k ≤ S.groups.length ∧ i = .int .i64 k ∧ Kept W0 wr none ∧ ∃ P : List Nat, P = (List.range k).map (fun _ => 1) ∧ wr.ownsRow W0.heap.size 5 1 o P.length (P.map byteV)) (fun _ i _ _ => S.groups.length - (intOf i).toNat)
        case atStart => exact ⟨0, by omega, rfl, Kept.refl _ _, [], rfl, World.ownsRow_nil _ _ _ _⟩
        case round =>
          obtain ⟨k, hk, rfl, hkw, P, hP, ho⟩ := hrel
          obtain ⟨a1, c1, rfl, hm1⟩ := mine_of ho
          have hPl : P.length = k := by rw [hP]; simp
          have HOW := Hid.mk' ho
          have HKW := Hid.mk' hkw
          have HP := Hid.mk' hP
          have HPL := Hid.mk' hPl
          have hr1 := hm1.room
          have hx1 := hm1.max
          by_cases hlt : k < S.groups.length
          · have hPb : P.length ≤ 100 := by omega
            clear hkw hP ho hm1 hPl
            go_wp2_with (at_builtin; refine wpList_join (by rfl) _ _ (by rfl) W0.heap.size _ P.length P (by rfl) (own_kept8 HOW.out (Kept.alloc _ _ _ _ none) (fun g _ => by simp)) _ 1 1 [1] (by rfl) (by_unit9 wr 1 (by omega)) (fun e => (nomatch e)) (by omega) (by have := HKW.out.size; simp; omega) ?_; intro a2 c2 w2 hm2 hg2)
            go_roundw
            case rel => exact ⟨k + 1, by omega, by go_num, own_step9 HKW.out HOW.out hg2, P ++ [1], by rw [HP.out, List.range_succ, List.map_append]; rfl, by rw [List.length_append]; exact hm2.own⟩
            case measure => simp [intOf]; omega
          · have e : k = S.groups.length := by omega
            have hPe : P = letV S F L := by
              rw [hP, e]
              unfold letV
              rw [HLN.out]
              exact List.map_congr_left (fun i hi => (HV.out i).symm)
            have HBY := Hid.mk' (hm1.by (by rw [hPe]; exact letV_lt9 S F L))
            have HNEW := Hid.mk' hm1.own
            have HPE := Hid.mk' hPe
            have hnpos : (0 : Int) < (S.groups.length : Int) := by omega
            rw [show P.length = S.groups.length by omega] at HBY HNEW hr1 ⊢
            clear hkw hP ho hm1 hPe hPl HOW
            go_wp2
            go_loopw [13, 14, 15] (fun i _ _ wr2 => i = .int .i64 0 ∧ wr2 = wr) (fun _ _ _ _ => 0)
            case atStart => exact ⟨rfl, rfl⟩
            case round =>
              obtain ⟨rfl, rfl⟩ := hrel
              go_wp2
              go_ret
              exact ⟨a1, c1, rfl, by rw [← HPE.out]; exact HBY.out, fun b e => Nat.le_trans HK.out.size (own_lt8 HNEW.out b.block (by rw [e]; rfl)).1, HK.out.tr HKW.out⟩

set_option maxRecDepth 100000 in
set_option maxHeartbeats 4000000 in
theorem rlet9_go {X : Sa} {S : St} {w : World} {bf off c ba oa cl : Nat} {F : Sf} {L : List Nat} (h : Sat w X S) (hSh : Shape S) (hF : SafeAt w (some ⟨bf, off, none⟩) c F) (hf : F.groups.length = S.groups.length) (hB : By w (some ⟨ba, oa, none⟩) S.groups.length L) (hT : Tabb w) (h4 : allIs L 4 = false) (hs0 : F.flashed = false) (hs1 : ¬ 0 < F.start) : Calls Tryz.prog 31 #[siteV X S, .agg #[.slice (some ⟨bf, off, none⟩) S.groups.length c, .int .i64 F.start, .bool F.flashed], .slice (some ⟨ba, oa, none⟩) S.groups.length cl] w fun e w' => ∃ a' c', e = .returned (.slice a' S.groups.length c') ∧ By w' a' S.groups.length (letV S F L) ∧ (∀ b, a' = some b → w.heap.size ≤ b.block) ∧ Kept w w' none := by
  have hcc : cntN L 4 ≠ S.groups.length := fun e => by rw [cnt_all.1 (e.trans hB.size.symm)] at h4; cases h4
  have HV : Hid (∀ i, letF S F L i = p2F S F L L.length L.length i) := fun i => by unfold letF; rw [if_neg (by rw [h4]; decide), if_neg (by rw [hs0]; simp only [Bool.false_eq_true, false_or]; exact hs1)]
  have hccb : (((cntN L 4 : Nat) : Int) == (S.groups.length : Int)) = false := by simp; omega
  have hsb1 : decide (0 < F.start) = false := by simp; omega
  have HS0 := Hid.mk' hs0
  clear h4 hcc hs0
  have hng := hSh.ok.ng
  have hnz : 0 < S.groups.length := by omega
  have HSH := Hid.mk' hSh
  have hFr : S.groups.length ≤ c := by have := hF.cap.room; omega
  have hFm := hF.cap.max
  obtain ⟨bf', off', ebf, hbf, hcf⟩ := hF.lie.at_ (by omega)
  injection ebf with ebf
  injection ebf with ebf1 ebf2
  subst ebf1 ebf2
  have HCF : Hid (∀ i, i < S.groups.length → ∀ j, j < 3 → w.cell? ⟨bf, off + i * 3 + j, none⟩ = some (snV (F.g i) j)) := fun i hi j hj => hcf i (by omega) j hj
  obtain ⟨ba', oa', eba, hba, hca⟩ := hB.at_ hnz
  injection eba with eba
  injection eba with eba1 eba2
  subst eba1 eba2
  have HCA : Hid (∀ i, i < S.groups.length → w.cell? ⟨ba, oa + i, none⟩ = some (.int .u8 (lg L i : Int))) := hca
  have hBm := hB.max
  have k1 : Kept w (w.alloc (.cells #[.int .i64 S.id, .slice X.g S.groups.length X.gc, .slice X.a S.apart.length X.ac, .slice X.b S.between.length X.bc, .slice X.p S.phases.length X.pc, .slice X.e S.eyes.length X.ec, .int .i64 S.watch, .int .i64 S.feed, .int .i64 S.heal, .int .i64 S.low, .int .i64 S.high, .slice X.l S.plans.length X.lc] 29)) none := Kept.alloc _ _ _ _ _
  have k2 : Kept (w.alloc (.cells #[.int .i64 S.id, .slice X.g S.groups.length X.gc, .slice X.a S.apart.length X.ac, .slice X.b S.between.length X.bc, .slice X.p S.phases.length X.pc, .slice X.e S.eyes.length X.ec, .int .i64 S.watch, .int .i64 S.feed, .int .i64 S.heal, .int .i64 S.low, .int .i64 S.high, .slice X.l S.plans.length X.lc] 29)) ((w.alloc (.cells #[.int .i64 S.id, .slice X.g S.groups.length X.gc, .slice X.a S.apart.length X.ac, .slice X.b S.between.length X.bc, .slice X.p S.phases.length X.pc, .slice X.e S.eyes.length X.ec, .int .i64 S.watch, .int .i64 S.feed, .int .i64 S.heal, .int .i64 S.low, .int .i64 S.high, .slice X.l S.plans.length X.lc] 29)).alloc (.cells #[.slice (some ⟨bf, off, none⟩) S.groups.length c, .int .i64 F.start, .bool F.flashed] 32)) none := Kept.alloc _ _ _ _ _
  have hsb := (sbox_alloc h 29).kept k2
  have bn := box_alloc (w.alloc (.cells #[.int .i64 S.id, .slice X.g S.groups.length X.gc, .slice X.a S.apart.length X.ac, .slice X.b S.between.length X.bc, .slice X.p S.phases.length X.pc, .slice X.e S.eyes.length X.ec, .int .i64 S.watch, .int .i64 S.feed, .int .i64 S.heal, .int .i64 S.low, .int .i64 S.high, .slice X.l S.plans.length X.lc] 29)) (.slice (some ⟨bf, off, none⟩) S.groups.length c) (.int .i64 F.start) (.bool F.flashed) 32
  have hsz : ((w.alloc (.cells #[.int .i64 S.id, .slice X.g S.groups.length X.gc, .slice X.a S.apart.length X.ac, .slice X.b S.between.length X.bc, .slice X.p S.phases.length X.pc, .slice X.e S.eyes.length X.ec, .int .i64 S.watch, .int .i64 S.feed, .int .i64 S.heal, .int .i64 S.low, .int .i64 S.high, .slice X.l S.plans.length X.lc] 29)).alloc (.cells #[.slice (some ⟨bf, off, none⟩) S.groups.length c, .int .i64 F.start, .bool F.flashed] 32)).heap.size = w.heap.size + 1 + 1 := by simp
  rw [World.size_alloc] at bn
  have hkA := k1.tr k2
  obtain ⟨WA, hWA⟩ : ∃ WA, ((w.alloc (.cells #[.int .i64 S.id, .slice X.g S.groups.length X.gc, .slice X.a S.apart.length X.ac, .slice X.b S.between.length X.bc, .slice X.p S.phases.length X.pc, .slice X.e S.eyes.length X.ec, .int .i64 S.watch, .int .i64 S.feed, .int .i64 S.heal, .int .i64 S.low, .int .i64 S.high, .slice X.l S.plans.length X.lc] 29)).alloc (.cells #[.slice (some ⟨bf, off, none⟩) S.groups.length c, .int .i64 F.start, .bool F.flashed] 32)) = WA := ⟨_, rfl⟩
  rw [hWA] at hsb bn hsz hkA
  have HSB := Hid.mk' hsb
  have HBN := Hid.mk' bn
  have HSZ := Hid.mk' hsz
  have HK := Hid.mk' hkA
  have HS := Hid.mk' (h.kept hkA)
  have HT := Hid.mk' (hT.kept hkA)
  have HF := Hid.mk' (hF.kept hkA)
  have HB := Hid.mk' (hB.kept hkA)
  have HLN := Hid.mk' hB.size
  have HLR := Hid.mk' hB.lt
  have n0_ : ∀ w', Kept WA w' none → w'.cell? ⟨w.heap.size + 1, 0, none⟩ = some (.slice (some ⟨bf, off, none⟩) S.groups.length c) := fun w' q => (HBN.out.kept q).c0
  have n1_ : ∀ w', Kept WA w' none → w'.cell? ⟨w.heap.size + 1, 1, none⟩ = some (.int .i64 F.start) := fun w' q => (HBN.out.kept q).c1
  have n2_ : ∀ w', Kept WA w' none → w'.cell? ⟨w.heap.size + 1, 2, none⟩ = some (.bool F.flashed) := fun w' q => (HBN.out.kept q).c2
  have s0_ : ∀ w', Kept WA w' none → w'.cell? ⟨w.heap.size, 0, none⟩ = some (.int .i64 S.id) := fun w' q => (HSB.out.kept q).c0
  have s1_ : ∀ w', Kept WA w' none → w'.cell? ⟨w.heap.size, 1, none⟩ = some (.slice X.g S.groups.length X.gc) := fun w' q => (HSB.out.kept q).c1
  have s2_ : ∀ w', Kept WA w' none → w'.cell? ⟨w.heap.size, 2, none⟩ = some (.slice X.a S.apart.length X.ac) := fun w' q => (HSB.out.kept q).c2
  have s3_ : ∀ w', Kept WA w' none → w'.cell? ⟨w.heap.size, 3, none⟩ = some (.slice X.b S.between.length X.bc) := fun w' q => (HSB.out.kept q).c3
  have s4_ : ∀ w', Kept WA w' none → w'.cell? ⟨w.heap.size, 4, none⟩ = some (.slice X.p S.phases.length X.pc) := fun w' q => (HSB.out.kept q).c4
  have s5_ : ∀ w', Kept WA w' none → w'.cell? ⟨w.heap.size, 5, none⟩ = some (.slice X.e S.eyes.length X.ec) := fun w' q => (HSB.out.kept q).c5
  have s6_ : ∀ w', Kept WA w' none → w'.cell? ⟨w.heap.size, 6, none⟩ = some (.int .i64 S.watch) := fun w' q => (HSB.out.kept q).c6
  have s7_ : ∀ w', Kept WA w' none → w'.cell? ⟨w.heap.size, 7, none⟩ = some (.int .i64 S.feed) := fun w' q => (HSB.out.kept q).c7
  have s8_ : ∀ w', Kept WA w' none → w'.cell? ⟨w.heap.size, 8, none⟩ = some (.int .i64 S.heal) := fun w' q => (HSB.out.kept q).c8
  have s9_ : ∀ w', Kept WA w' none → w'.cell? ⟨w.heap.size, 9, none⟩ = some (.int .i64 S.low) := fun w' q => (HSB.out.kept q).c9
  have s10_ : ∀ w', Kept WA w' none → w'.cell? ⟨w.heap.size, 10, none⟩ = some (.int .i64 S.high) := fun w' q => (HSB.out.kept q).c10
  have s11_ : ∀ w', Kept WA w' none → w'.cell? ⟨w.heap.size, 11, none⟩ = some (.slice X.l S.plans.length X.lc) := fun w' q => (HSB.out.kept q).c11
  have hK0 := Kept.refl WA none
  clear h hT hF k1 k2 hsb bn hsz hkA
  have HNA := Hid.mk' HSH.out.ok.na
  clear hcf hca hf
  go_enter Tryz.func31, Tryz.ntmps31
  go_wp2_with (first | rw [hWA])
  go_loopw [7, 8] (fun nv i wr => ∃ k : Nat, k ≤ S.groups.length ∧ i = .int .i64 k ∧ nv = .int .i64 ((cntN (L.take k) 4 : Nat) : Int) ∧ wr = WA) (fun _ i _ => S.groups.length - (intOf i).toNat)
  case atStart => exact ⟨0, by omega, rfl, rfl, rfl⟩
  case round =>
    obtain ⟨k, hk, rfl, rfl, rfl⟩ := hrel
    by_cases hlt : k < S.groups.length
    · have l0 := cell_kept0 (HCA.out k hlt) HK.out
      have hct := cnt_take (x := 4) (show k < L.length by have := HLN.out; omega)
      have hcl4 : cntN (L.take k) 4 ≤ 16 := by have := cntN_le (L.take k) 4; simp at this; omega
      have HCT := Hid.mk' hct
      clear hct
      generalize cntN (L.take k) 4 = z at *
      generalize lg L k = y at *
      by_cases h4 : y = 4
      · subst h4
        have HC2 : Hid (cntN (L.take (k + 1)) 4 = z + 1) := by show _ = _; rw [HCT.out, if_pos rfl]
        go_wp2
        go_roundw
        case rel => exact ⟨k + 1, by omega, by go_num, by rw [HC2.out]; go_num, by first | trivial | rfl⟩
        case measure => simp [intOf]; omega
      · have HC2 : Hid (cntN (L.take (k + 1)) 4 = z) := by show _ = _; rw [HCT.out, if_neg h4]; rfl
        have h4b : ((y : Int) == 4) = false := by simp; omega
        clear h4
        go_wp2
        go_roundw
        case rel => exact ⟨k + 1, by omega, by go_num, by rw [HC2.out], by first | trivial | rfl⟩
        case measure => simp [intOf]; omega
    · have e : k = S.groups.length := by omega
      have hcn : cntN (L.take k) 4 = cntN L 4 := by rw [e, ← HLN.out, List.take_length]
      rw [hcn]
      obtain ⟨W0, hW0⟩ : ∃ W0, W0 = wr := ⟨_, rfl⟩
      subst hW0
      clear hcn
      subst e
      generalize cntN L 4 = z at *
      have x1 := n1_ W0 (Kept.refl _ _)
      have x2 := n2_ W0 (Kept.refl _ _)
      rw [HS0.out] at x2
      simp only [HS0.out] at n2_
      go_wp2
      go_loopw [9, 11, 12] (fun o i _ wr => ∃ k : Nat, k ≤ S.groups.length ∧ i = .int .i64 k ∧ Kept W0 wr none ∧ ∃ P : List Nat, P = (List.range k).map (w1F S F L) ∧ wr.ownsRow W0.heap.size 5 1 o P.length (P.map byteV)) (fun _ i _ _ => S.groups.length - (intOf i).toNat)
      case atStart => exact ⟨0, by omega, rfl, Kept.refl _ _, [], rfl, World.ownsRow_nil _ _ _ _⟩
      case round =>
        obtain ⟨k, hk, rfl, hkw, P, hP, ho⟩ := hrel
        obtain ⟨a1, c1, rfl, hm1⟩ := mine_of ho
        have hPl : P.length = k := by rw [hP]; simp
        have HOW := Hid.mk' ho
        have HKW := Hid.mk' hkw
        have HP := Hid.mk' hP
        have HPL := Hid.mk' hPl
        have hr1 := hm1.room
        have hx1 := hm1.max
        by_cases hlt : k < S.groups.length
        · have hPb : P.length ≤ 100 := by omega
          have x0 := n0_ wr hkw
          have x1 := cell_kept0 (HCF.out k hlt 0 (by omega)) (HK.out.tr hkw)
          simp only [snV, Nat.add_zero] at x1
          by_cases h1 : (F.g k).asp = 1
          · have HW1 : Hid (w1F S F L k = 1) := by show _ = _; unfold w1F; rw [if_pos h1]
            rw [h1] at x1
            clear hkw hP ho hm1 hPl h1
            go_wp2_with (at_builtin; refine wpList_join (by rfl) _ _ (by rfl) W0.heap.size _ P.length P (by rfl) (own_kept8 HOW.out (Kept.alloc _ _ _ _ none) (fun g _ => by simp)) _ 1 1 [1] (by rfl) (by_unit9 wr 1 (by omega)) (fun e => (nomatch e)) (by omega) (by have := HKW.out.size; simp; omega) ?_; intro a2 c2 w2 hm2 hg2)
            go_roundw
            case rel => exact ⟨k + 1, by omega, by go_num, own_step9 HKW.out HOW.out hg2, P ++ [1], by rw [HP.out, List.range_succ, List.map_append, List.map_singleton, HW1.out], by rw [List.length_append]; exact hm2.own⟩
            case measure => simp [intOf]; omega
          · have h1b : (((F.g k).asp : Int) != 1) = true := by simp; omega
            have hwi : ((w1F S F L k : Nat) : Int) = wantV (S.gr k).min (S.gr k).yellow (F.g k).asp (F.g k).since (lg L k) := by unfold w1F; rw [if_neg h1]; exact wantN_int S F L k
            have hwl : w1F S F L k < 256 := by unfold w1F; rw [if_neg h1]; have := wantN_rng S F L k; omega
            have HWI := Hid.mk' hwi
            have HWL := Hid.mk' hwl
            obtain ⟨bg, og, eg, hcg⟩ : ∃ bg og, X.g = some ⟨bg, og, none⟩ ∧ ∀ i, i < S.groups.length → ∀ j, j < 3 → W0.cell? ⟨bg, og + i * 3 + j, none⟩ = some (grV (S.gr i) j) := by
              obtain ⟨b, o, e, _, hc⟩ := HSB.out.sat.g.at_ hnz
              exact ⟨b, o, e, hc⟩
            have s1g : ∀ w', Kept W0 w' none → w'.cell? ⟨w.heap.size, 1, none⟩ = some (.slice (some ⟨bg, og, none⟩) S.groups.length X.gc) := fun w' q => by rw [← eg]; exact s1_ w' q
            have hgc := HSB.out.sat.gk.room
            have hgm := HSB.out.sat.gk.max
            have g0 : ∀ w', Kept W0 w' none → w'.cell? ⟨bg, og + k * 3, none⟩ = some (.int .u8 ((S.gr k).kind : Int)) := fun w' q => cell_kept0 (hcg k hlt 0 (by omega)) q
            have g1 : ∀ w', Kept W0 w' none → w'.cell? ⟨bg, og + k * 3 + 1, none⟩ = some (.int .i64 (S.gr k).min) := fun w' q => cell_kept0 (hcg k hlt 1 (by omega)) q
            have g2 : ∀ w', Kept W0 w' none → w'.cell? ⟨bg, og + k * 3 + 2, none⟩ = some (.int .i64 (S.gr k).yellow) := fun w' q => cell_kept0 (hcg k hlt 2 (by omega)) q
            have t0 : ∀ w', Kept W0 w' none → w'.cell? ⟨bf, off + k * 3, none⟩ = some (.int .u8 ((F.g k).asp : Int)) := fun w' q => cell_kept0 (HCF.out k hlt 0 (by omega)) (HK.out.tr q)
            have t1 : ∀ w', Kept W0 w' none → w'.cell? ⟨bf, off + k * 3 + 1, none⟩ = some (.int .i64 (F.g k).since) := fun w' q => cell_kept0 (HCF.out k hlt 1 (by omega)) (HK.out.tr q)
            have t2 : ∀ w', Kept W0 w' none → w'.cell? ⟨bf, off + k * 3 + 2, none⟩ = some (.int .i64 (F.g k).ended) := fun w' q => cell_kept0 (HCF.out k hlt 2 (by omega)) (HK.out.tr q)
            have m0 : ∀ w', Kept W0 w' none → w'.cell? ⟨ba, oa + k, none⟩ = some (.int .u8 (lg L k : Int)) := fun w' q => cell_kept0 (HCA.out k hlt) (HK.out.tr q)
            clear hwi hwl hP ho hm1 hPl h1 hcg eg x0 s1_
            have x0 := n0_ wr hkw
            obtain ⟨v, hv⟩ : ∃ v, w1F S F L k = v := ⟨_, rfl⟩
            rw [hv] at HWI HWL
            have HVQ := Hid.mk' hv
            clear hv
            generalize S.gr k = Gr0 at *
            generalize F.g k = N at *
            generalize lg L k = y at *
            go_wp2
            clear x0 x1
            go_region_held (fun w' => Kept W0 w' none)
              ((first | exact hkw | exact Kept.tr hkw (Kept.drew _ _) | assumption | exact Kept.tr (by assumption) (Kept.drew _ _)))
              ((go_at_call 52; refine (rwant_any _ _ _ _ _ _ _ _).mono ?_; rintro e wS ⟨rfl, hkS⟩; have hKS : Kept wr wS none := Kept.tr (Kept.drew _ _) hkS; have hK0S : Kept W0 wS none := Kept.tr hkw hKS))
            all_goals
              clear g0 g1 g2 t0 t1 t2 m0 s1g
              rw [← HWI.out]
              have HOS := Hid.mk' (own_kept8 HOW.out hKS (fun g _ => by simp))
              go_wp2_with (at_builtin; refine wpList_join (by rfl) _ _ (by rfl) W0.heap.size _ P.length P (by rfl) (own_kept8 HOS.out (Kept.alloc _ _ _ _ none) (fun g _ => by simp)) _ 1 1 [v] (by rfl) (by_unit9 wS v HWL.out) (fun e => (nomatch e)) (by omega) (by have := hK0S.size; simp; omega) ?_; intro a2 c2 w2 hm2 hg2)
              go_roundw
              case rel => exact ⟨k + 1, by omega, by go_num, own_step9 hK0S HOS.out hg2, P ++ [v], by rw [HP.out, List.range_succ, List.map_append, List.map_singleton, HVQ.out], by rw [List.length_append]; exact hm2.own⟩
              case measure => simp [intOf]; omega
        · have e : k = S.groups.length := by omega
          obtain ⟨g, f, e2, hgb, hgc, hrow⟩ := mine_row9 hm1 (by omega)
          subst e2
          have HRW : Hid (wr.rowIs g 5 c1 (fun j => if j < S.groups.length then .int .u8 ((p2F S F L S.groups.length 0 j : Nat) : Int) else f j)) := hrow.congr (fun j hj => by
            rw [show P.length = S.groups.length by omega]
            by_cases hjn : j < S.groups.length
            · rw [if_pos hjn, if_pos hjn, HP.out, e]
              simp [lg, hjn, p2F]
            · rw [if_neg hjn, if_neg hjn])
          rw [show P.length = S.groups.length by omega] at hr1 hgc ⊢
          clear hP ho hm1 hPl HOW hrow HPL
          subst e
          obtain ⟨W3, hW3⟩ : ∃ W3, W3 = wr := ⟨_, rfl⟩
          subst hW3
          go_wp2
          go_loopw [13, 14, 15] (fun i _ _ wr => ∃ k : Nat, k ≤ S.groups.length ∧ i = .int .i64 k ∧ Kept W0 wr none ∧ wr.rowIs g 5 c1 (fun j => if j < S.groups.length then .int .u8 ((p2F S F L S.groups.length k j : Nat) : Int) else f j)) (fun i _ _ _ => S.groups.length - (intOf i).toNat)
          case atStart => exact ⟨0, by omega, rfl, HKW.out, HRW.out⟩
          case round =>
            obtain ⟨k, hk, rfl, hkw, hro⟩ := hrel
            have HK3 := Hid.mk' hkw
            have HR3 := Hid.mk' hro
            by_cases hlt : k < S.groups.length
            · have x0 := n0_ wr hkw
              have x1 := cell_kept0 (HCF.out k hlt 0 (by omega)) (HK.out.tr hkw)
              simp only [snV, Nat.add_zero] at x1
              have l0 := cell_kept0 (HCA.out k hlt) (HK.out.tr hkw)
              have HTF : Hid (turnB S F L S.groups.length (p2F S F L S.groups.length k) k = false → ∀ i, p2F S F L S.groups.length k i = p2F S F L S.groups.length (k + 1) i) := fun h i => by rw [p2F, h]; simp
              have HTT : Hid (turnB S F L S.groups.length (p2F S F L S.groups.length k) k = true → p2F S F L S.groups.length (k + 1) = fun i => if i = k then 2 else p2F S F L S.groups.length k i) := fun h => by funext i; rw [p2F, h]; simp
              have HTB : Hid (turnB S F L S.groups.length (p2F S F L S.groups.length k) k = (((F.g k).asp == 1) && ((lg L k == 2) && openB S F S.groups.length (p2F S F L S.groups.length k) k))) := rfl
              by_cases h1 : (F.g k).asp = 1
              case neg =>
                have h1b : (((F.g k).asp : Int) != 1) = true := by simp; omega
                have HTN := Hid.mk' (HTF.out (by rw [HTB.out, show ((F.g k).asp == 1) = false by simpa using h1]; rfl))
                clear hkw hro h1 HTF HTT HTB
                generalize (F.g k).asp = ap at *
                go_wp2
                go_roundw
                case rel => exact ⟨k + 1, by omega, by go_num, HK3.out, HR3.out.congr (fun i hi => by rw [HTN.out i])⟩
                case measure => simp [intOf]; omega
              rw [h1] at x1 HTB
              replace x1 : wr.cell? ⟨bf, off + k * 3, none⟩ = some (.int .u8 1) := x1
              by_cases h2 : lg L k = 2
              case neg =>
                have h2b : ((lg L k : Int) != 2) = true := by simp; omega
                have HTN := Hid.mk' (HTF.out (by rw [HTB.out, show (lg L k == 2) = false by simpa using h2]; rfl))
                clear hkw hro h1 h2 HTF HTT HTB
                generalize lg L k = y at *
                go_wp2
                go_roundw
                case rel => exact ⟨k + 1, by omega, by go_num, HK3.out, HR3.out.congr (fun i hi => by rw [HTN.out i])⟩
                case measure => simp [intOf]; omega
              rw [h2] at l0 HTB
              replace l0 : wr.cell? ⟨ba, oa + k, none⟩ = some (.int .u8 2) := l0
              clear hkw hro h1 h2
              go_wp2
              clear x0 x1 l0
              go_loopw [14, 15] (fun fr i wr => ∃ q : Nat, q ≤ S.groups.length ∧ i = .int .i64 q ∧ Kept W0 wr none ∧ wr.rowIs g 5 c1 (fun j => if j < S.groups.length then .int .u8 ((p2F S F L S.groups.length k j : Nat) : Int) else f j) ∧ fr = .bool (allB q (fun j => !barB S F (p2F S F L S.groups.length k) k j))) (fun _ i _ => S.groups.length - (intOf i).toNat)
              case atStart => exact ⟨0, by omega, rfl, HK3.out, HR3.out, rfl⟩
              case round =>
                obtain ⟨q, hq, rfl, hkw, hro, rfl⟩ := hrel
                have HK4 := Hid.mk' hkw
                have HR4 := Hid.mk' hro
                by_cases hql : q < S.groups.length
                · have HAP := Hid.mk' (fun w' (qq : Kept W0 w' none) => rap8_any (HSB.out.sat.kept qq) k q (by have := HNA.out; omega) (by omega))
                  have HBT := Hid.mk' (fun w' (qq : Kept W0 w' none) => rbt8_any (HSB.out.sat.kept qq) HSH.out hql hlt)
                  have HAS : Hid (allB (q + 1) (fun j => !barB S F (p2F S F L S.groups.length k) k j) = (allB q (fun j => !barB S F (p2F S F L S.groups.length k) k j) && !barB S F (p2F S F L S.groups.length k) k q)) := allB_succ9 _ _
                  have HBB : Hid (barB S F (p2F S F L S.groups.length k) k q = ((S.ap k).testBit q && (!(p2F S F L S.groups.length k q == 1) || decide ((F.g q).ended < S.bt q k)))) := rfl
                  have hR0 : Kept wr wr none := Kept.refl _ _
                  have y0 : ∀ w', Kept wr w' none → w'.cell? ⟨g, q, none⟩ = some (.int .u8 ((p2F S F L S.groups.length k q : Nat) : Int)) := fun w' qq => (((row_kept hro qq (by simp)).cell (i := q) (by omega)).trans (by rw [if_pos hql]))
                  have e3 : ∀ w', Kept wr w' none → w'.cell? ⟨bf, off + q * 3 + 2, none⟩ = some (.int .i64 (F.g q).ended) := fun w' qq => cell_kept0 (HCF.out q hql 2 (by omega)) (HK.out.tr (HK4.out.tr qq))
                  have n0r : ∀ w', Kept wr w' none → w'.cell? ⟨w.heap.size + 1, 0, none⟩ = some (.slice (some ⟨bf, off, none⟩) S.groups.length c) := fun w' qq => n0_ w' (HK4.out.tr qq)
                  have sr0_ : ∀ w', Kept wr w' none → w'.cell? ⟨w.heap.size, 0, none⟩ = some (.int .i64 S.id) := fun w' qq => s0_ w' (HK4.out.tr qq)
                  have sr1_ : ∀ w', Kept wr w' none → w'.cell? ⟨w.heap.size, 1, none⟩ = some (.slice X.g S.groups.length X.gc) := fun w' qq => s1_ w' (HK4.out.tr qq)
                  have sr2_ : ∀ w', Kept wr w' none → w'.cell? ⟨w.heap.size, 2, none⟩ = some (.slice X.a S.apart.length X.ac) := fun w' qq => s2_ w' (HK4.out.tr qq)
                  have sr3_ : ∀ w', Kept wr w' none → w'.cell? ⟨w.heap.size, 3, none⟩ = some (.slice X.b S.between.length X.bc) := fun w' qq => s3_ w' (HK4.out.tr qq)
                  have sr4_ : ∀ w', Kept wr w' none → w'.cell? ⟨w.heap.size, 4, none⟩ = some (.slice X.p S.phases.length X.pc) := fun w' qq => s4_ w' (HK4.out.tr qq)
                  have sr5_ : ∀ w', Kept wr w' none → w'.cell? ⟨w.heap.size, 5, none⟩ = some (.slice X.e S.eyes.length X.ec) := fun w' qq => s5_ w' (HK4.out.tr qq)
                  have sr6_ : ∀ w', Kept wr w' none → w'.cell? ⟨w.heap.size, 6, none⟩ = some (.int .i64 S.watch) := fun w' qq => s6_ w' (HK4.out.tr qq)
                  have sr7_ : ∀ w', Kept wr w' none → w'.cell? ⟨w.heap.size, 7, none⟩ = some (.int .i64 S.feed) := fun w' qq => s7_ w' (HK4.out.tr qq)
                  have sr8_ : ∀ w', Kept wr w' none → w'.cell? ⟨w.heap.size, 8, none⟩ = some (.int .i64 S.heal) := fun w' qq => s8_ w' (HK4.out.tr qq)
                  have sr9_ : ∀ w', Kept wr w' none → w'.cell? ⟨w.heap.size, 9, none⟩ = some (.int .i64 S.low) := fun w' qq => s9_ w' (HK4.out.tr qq)
                  have sr10_ : ∀ w', Kept wr w' none → w'.cell? ⟨w.heap.size, 10, none⟩ = some (.int .i64 S.high) := fun w' qq => s10_ w' (HK4.out.tr qq)
                  have sr11_ : ∀ w', Kept wr w' none → w'.cell? ⟨w.heap.size, 11, none⟩ = some (.slice X.l S.plans.length X.lc) := fun w' qq => s11_ w' (HK4.out.tr qq)
                  have HAPR : Hid (∀ w', Kept wr w' none → Calls Tryz.prog 53 #[siteV X S, .int .i64 (k : Int), .int .i64 (q : Int)] w' fun e w2 => e = .returned (.bool ((S.ap k).testBit q)) ∧ Kept w' w2 none) := fun w' qq => HAP.out w' (HK4.out.tr qq)
                  have HBTR : Hid (∀ w', Kept wr w' none → Calls Tryz.prog 54 #[siteV X S, .int .i64 (q : Int), .int .i64 (k : Int)] w' fun e w2 => e = .returned (.int .i64 (S.bt q k)) ∧ Kept w' w2 none) := fun w' qq => HBT.out w' (HK4.out.tr qq)
                  clear hkw hro HAP HBT
                  generalize barB S F (p2F S F L S.groups.length k) k q = bb at *
                  generalize allB q (fun j => !barB S F (p2F S F L S.groups.length k) k j) = fr at *
                  generalize (S.ap k).testBit q = t at *
                  generalize (F.g q).ended = en at *
                  generalize S.bt q k = v at *
                  obtain ⟨y, hy⟩ : ∃ y, p2F S F L S.groups.length k q = y := ⟨_, rfl⟩
                  rw [hy] at HBB
                  simp only [hy] at y0
                  clear hy
                  cases t with
                  | false =>
                    have HBF : Hid (bb = false) := by show _ = _; rw [HBB.out]; rfl
                    go_wp2
                    refine Code.wp_mono (Q := Rg ?A1 wr) ?cont1 ?reg1
                    case reg1 =>
                      repeat (rename_i hh; clear hh)
                      refine wp_region_held_drew (S := fun w' => Kept wr w' none) (by kernel_rfl) (Kept.tr hR0 (Kept.drew _ _)) (fun hHeld => ?_)
                      refine held_take (i := 0) (v := ?v2) rfl rfl (by kernel_rfl) (by kernel_rfl) (by kernel_rfl) (fun _ _ _ h => h) (Or.inl ⟨by rfl, ?hy2⟩) hHeld ?rest2
                      case hy2 => first | (intro w hSw; (try dsimp only at hSw); go_simp; done) | (intro w hSw; (try dsimp only at hSw); go_simp; with_reducible rfl)
                      try simp only [List.setIfInBounds_toArray, List.set_cons_zero, List.set_cons_succ]
                      refine held_take (i := 1) (v := ?v3) rfl rfl (by kernel_rfl) (by kernel_rfl) (by kernel_rfl) (fun _ _ _ h => h) (Or.inl ⟨by rfl, ?hy3⟩) hHeld ?rest3
                      case hy3 => first | (intro w hSw; (try dsimp only at hSw); go_simp; done) | (intro w hSw; (try dsimp only at hSw); go_simp; with_reducible rfl)
                      try simp only [List.setIfInBounds_toArray, List.set_cons_zero, List.set_cons_succ]
                      refine held_take (i := 2) (v := ?v4) rfl rfl (by kernel_rfl) (by kernel_rfl) (by kernel_rfl) (fun _ _ _ h => h) (Or.inl ⟨by rfl, ?hy4⟩) hHeld ?rest4
                      case hy4 => first | (intro w hSw; (try dsimp only at hSw); go_simp; done) | (intro w hSw; (try dsimp only at hSw); go_simp; with_reducible rfl)
                      try simp only [List.setIfInBounds_toArray, List.set_cons_zero, List.set_cons_succ]
                      refine wpAnyH_ready (rs := [3]) (by kernel_rfl) (by simp) ?_
                      refine AllReadyH.cons rfl (fun K hK => ?_) AllReadyH.nil
                      go_simp
                      go_wp2_with (go_at_call 53; refine (HAPR.out _ (by assumption)).mono ?_; rintro e wS ⟨rfl, hkS⟩; have hKS : Kept wr wS none := Kept.tr (by assumption) hkS)
                      replace hK := hK.out
                      refine hK _ _ hKS (fun hHeld => ?_)
                      clear hK K
                      refine held_take (i := 4) (v := ?v5) rfl rfl (by kernel_rfl) (by kernel_rfl) (by kernel_rfl) (fun _ _ _ h => h) (Or.inl ⟨by rfl, ?hy5⟩) hHeld ?rest5
                      case hy5 => first | (intro w hSw; (try dsimp only at hSw); go_simp; done) | (intro w hSw; (try dsimp only at hSw); go_simp; with_reducible rfl)
                      try simp only [List.setIfInBounds_toArray, List.set_cons_zero, List.set_cons_succ]
                      refine held_take (i := 5) (v := undef) rfl rfl (by kernel_rfl) (by kernel_rfl) (by kernel_rfl) (fun _ _ _ h => h) (Or.inr ⟨by rfl, rfl⟩) hHeld ?_
                      try simp only [List.setIfInBounds_toArray, List.set_cons_zero, List.set_cons_succ]
                      refine held_take (i := 6) (v := undef) rfl rfl (by kernel_rfl) (by kernel_rfl) (by kernel_rfl) (fun _ _ _ h => h) (Or.inr ⟨by rfl, rfl⟩) hHeld ?_
                      try simp only [List.setIfInBounds_toArray, List.set_cons_zero, List.set_cons_succ]
                      refine held_take (i := 7) (v := undef) rfl rfl (by kernel_rfl) (by kernel_rfl) (by kernel_rfl) (fun _ _ _ h => h) (Or.inr ⟨by rfl, rfl⟩) hHeld ?_
                      try simp only [List.setIfInBounds_toArray, List.set_cons_zero, List.set_cons_succ]
                      refine held_take (i := 8) (v := undef) rfl rfl (by kernel_rfl) (by kernel_rfl) (by kernel_rfl) (fun _ _ _ h => h) (Or.inr ⟨by rfl, rfl⟩) hHeld ?_
                      try simp only [List.setIfInBounds_toArray, List.set_cons_zero, List.set_cons_succ]
                      refine held_take (i := 9) (v := undef) rfl rfl (by kernel_rfl) (by kernel_rfl) (by kernel_rfl) (fun _ _ _ h => h) (Or.inr ⟨by rfl, rfl⟩) hHeld ?_
                      try simp only [List.setIfInBounds_toArray, List.set_cons_zero, List.set_cons_succ]
                      refine held_take (i := 10) (v := undef) rfl rfl (by kernel_rfl) (by kernel_rfl) (by kernel_rfl) (fun _ _ _ h => h) (Or.inr ⟨by rfl, rfl⟩) hHeld ?_
                      try simp only [List.setIfInBounds_toArray, List.set_cons_zero, List.set_cons_succ]
                      refine held_take (i := 11) (v := undef) rfl rfl (by kernel_rfl) (by kernel_rfl) (by kernel_rfl) (fun _ _ _ h => h) (Or.inr ⟨by rfl, rfl⟩) hHeld ?_
                      try simp only [List.setIfInBounds_toArray, List.set_cons_zero, List.set_cons_succ]
                      refine held_take (i := 12) (v := undef) rfl rfl (by kernel_rfl) (by kernel_rfl) (by kernel_rfl) (fun _ _ _ h => h) (Or.inr ⟨by rfl, rfl⟩) hHeld ?_
                      try simp only [List.setIfInBounds_toArray, List.set_cons_zero, List.set_cons_succ]
                      refine held_take (i := 13) (v := undef) rfl rfl (by kernel_rfl) (by kernel_rfl) (by kernel_rfl) (fun _ _ _ h => h) (Or.inr ⟨by rfl, rfl⟩) hHeld ?_
                      try simp only [List.setIfInBounds_toArray, List.set_cons_zero, List.set_cons_succ]
                      refine held_take (i := 14) (v := undef) rfl rfl (by kernel_rfl) (by kernel_rfl) (by kernel_rfl) (fun _ _ _ h => h) (Or.inr ⟨by rfl, rfl⟩) hHeld ?_
                      try simp only [List.setIfInBounds_toArray, List.set_cons_zero, List.set_cons_succ]
                      refine held_take (i := 15) (v := undef) rfl rfl (by kernel_rfl) (by kernel_rfl) (by kernel_rfl) (fun _ _ _ h => h) (Or.inr ⟨by rfl, rfl⟩) hHeld ?_
                      try simp only [List.setIfInBounds_toArray, List.set_cons_zero, List.set_cons_succ]
                      refine held_take (i := 16) (v := undef) rfl rfl (by kernel_rfl) (by kernel_rfl) (by kernel_rfl) (fun _ _ _ h => h) (Or.inr ⟨by rfl, rfl⟩) hHeld ?_
                      try simp only [List.setIfInBounds_toArray, List.set_cons_zero, List.set_cons_succ]
                      refine held_take (i := 17) (v := undef) rfl rfl (by kernel_rfl) (by kernel_rfl) (by kernel_rfl) (fun _ _ _ h => h) (Or.inr ⟨by rfl, rfl⟩) hHeld ?_
                      try simp only [List.setIfInBounds_toArray, List.set_cons_zero, List.set_cons_succ]
                      refine held_take (i := 18) (v := undef) rfl rfl (by kernel_rfl) (by kernel_rfl) (by kernel_rfl) (fun _ _ _ h => h) (Or.inr ⟨by rfl, rfl⟩) hHeld ?_
                      try simp only [List.setIfInBounds_toArray, List.set_cons_zero, List.set_cons_succ]
                      refine held_take (i := 19) (v := undef) rfl rfl (by kernel_rfl) (by kernel_rfl) (by kernel_rfl) (fun _ _ _ h => h) (Or.inr ⟨by rfl, rfl⟩) hHeld ?_
                      try simp only [List.setIfInBounds_toArray, List.set_cons_zero, List.set_cons_succ]
                      refine held_take (i := 20) (v := undef) rfl rfl (by kernel_rfl) (by kernel_rfl) (by kernel_rfl) (fun _ _ _ h => h) (Or.inr ⟨by rfl, rfl⟩) hHeld ?_
                      try simp only [List.setIfInBounds_toArray, List.set_cons_zero, List.set_cons_succ]
                      refine held_take (i := 21) (v := undef) rfl rfl (by kernel_rfl) (by kernel_rfl) (by kernel_rfl) (fun _ _ _ h => h) (Or.inr ⟨by rfl, rfl⟩) hHeld ?_
                      try simp only [List.setIfInBounds_toArray, List.set_cons_zero, List.set_cons_succ]
                      refine held_take (i := 22) (v := undef) rfl rfl (by kernel_rfl) (by kernel_rfl) (by kernel_rfl) (fun _ _ _ h => h) (Or.inr ⟨by rfl, rfl⟩) hHeld ?_
                      try simp only [List.setIfInBounds_toArray, List.set_cons_zero, List.set_cons_succ]
                      refine held_take (i := 23) (v := ?v6) rfl rfl (by kernel_rfl) (by kernel_rfl) (by kernel_rfl) (fun _ _ _ h => h) (Or.inl ⟨by rfl, ?hy6⟩) hHeld ?rest6
                      case hy6 => first | (intro w hSw; (try dsimp only at hSw); go_simp; done) | (intro w hSw; (try dsimp only at hSw); go_simp; with_reducible rfl)
                      try simp only [List.setIfInBounds_toArray, List.set_cons_zero, List.set_cons_succ]
                      refine wpAnyH_done (by kernel_rfl) ?_ _
                      refine And.intro ?_ hHeld
                      with_reducible rfl
                    case cont1 =>
                    intro e a' w' hq
                    obtain ⟨rfl, rfl, hkq⟩ := hq.out
                    go_wp2
                    go_roundw
                    case rel => exact ⟨q + 1, by omega, by go_num, HK4.out.tr hkq, row_kept HR4.out hkq (by simp), by rw [HAS.out, HBF.out]; simp⟩
                    case measure => simp [intOf]; omega
                  | true =>
                    by_cases hy1 : y = 1
                    · subst hy1
                      by_cases hv : en < v
                      · have HBF : Hid (bb = true) := by show _ = _; rw [HBB.out]; simp [hv]
                        go_wp2
                        go_region_held (fun w' => Kept wr w' none)
                          ((first | exact hR0 | exact Kept.drew _ _ | assumption | exact Kept.tr (by assumption) (Kept.drew _ _)))
                          ((first | (go_at_call 54; refine (HBTR.out _ hKA).mono ?_; rintro e wT ⟨rfl, hkT⟩; have hkq : Kept wr wT none := Kept.tr hKA hkT) | (go_at_call 53; refine (HAPR.out _ (by assumption)).mono ?_; rintro e wS ⟨rfl, hkS⟩; have hKA : Kept wr wS none := Kept.tr (by assumption) hkS)))
                        all_goals
                        go_wp2
                        go_roundw
                        case rel => exact ⟨q + 1, by omega, by go_num, HK4.out.tr hkq, row_kept HR4.out hkq (by simp), by rw [HAS.out, HBF.out]; simp⟩
                        case measure => simp [intOf]; omega
                      · have HBF : Hid (bb = false) := by show _ = _; rw [HBB.out]; simp [hv]
                        have hvb : decide (en < v) = false := by simp [hv]
                        go_wp2
                        go_region_held (fun w' => Kept wr w' none)
                          ((first | exact hR0 | exact Kept.drew _ _ | assumption | exact Kept.tr (by assumption) (Kept.drew _ _)))
                          ((first | (go_at_call 54; refine (HBTR.out _ hKA).mono ?_; rintro e wT ⟨rfl, hkT⟩; have hkq : Kept wr wT none := Kept.tr hKA hkT) | (go_at_call 53; refine (HAPR.out _ (by assumption)).mono ?_; rintro e wS ⟨rfl, hkS⟩; have hKA : Kept wr wS none := Kept.tr (by assumption) hkS)))
                        all_goals
                        go_wp2
                        go_roundw
                        case rel => exact ⟨q + 1, by omega, by go_num, HK4.out.tr hkq, row_kept HR4.out hkq (by simp), by rw [HAS.out, HBF.out]; simp⟩
                        case measure => simp [intOf]; omega
                    · have hyb : ((y : Int) != 1) = true := by simp; omega
                      have HBF : Hid (bb = true) := by show _ = _; rw [HBB.out, show (y == 1) = false by simpa using hy1]; rfl
                      clear hy1
                      go_wp2
                      refine Code.wp_mono (Q := Rg ?A7 wr) ?cont7 ?reg7
                      case reg7 =>
                        repeat (rename_i hh; clear hh)
                        refine wp_region_held_drew (S := fun w' => Kept wr w' none) (by kernel_rfl) (Kept.tr hR0 (Kept.drew _ _)) (fun hHeld => ?_)
                        refine held_take (i := 0) (v := ?v8) rfl rfl (by kernel_rfl) (by kernel_rfl) (by kernel_rfl) (fun _ _ _ h => h) (Or.inl ⟨by rfl, ?hy8⟩) hHeld ?rest8
                        case hy8 => first | (intro w hSw; (try dsimp only at hSw); go_simp; done) | (intro w hSw; (try dsimp only at hSw); go_simp; with_reducible rfl)
                        try simp only [List.setIfInBounds_toArray, List.set_cons_zero, List.set_cons_succ]
                        refine held_take (i := 1) (v := ?v9) rfl rfl (by kernel_rfl) (by kernel_rfl) (by kernel_rfl) (fun _ _ _ h => h) (Or.inl ⟨by rfl, ?hy9⟩) hHeld ?rest9
                        case hy9 => first | (intro w hSw; (try dsimp only at hSw); go_simp; done) | (intro w hSw; (try dsimp only at hSw); go_simp; with_reducible rfl)
                        try simp only [List.setIfInBounds_toArray, List.set_cons_zero, List.set_cons_succ]
                        refine held_take (i := 2) (v := ?v10) rfl rfl (by kernel_rfl) (by kernel_rfl) (by kernel_rfl) (fun _ _ _ h => h) (Or.inl ⟨by rfl, ?hy10⟩) hHeld ?rest10
                        case hy10 => first | (intro w hSw; (try dsimp only at hSw); go_simp; done) | (intro w hSw; (try dsimp only at hSw); go_simp; with_reducible rfl)
                        try simp only [List.setIfInBounds_toArray, List.set_cons_zero, List.set_cons_succ]
                        refine wpAnyH_ready (rs := [3]) (by kernel_rfl) (by simp) ?_
                        refine AllReadyH.cons rfl (fun K hK => ?_) AllReadyH.nil
                        go_simp
                        go_wp2_with (go_at_call 53; refine (HAPR.out _ (by assumption)).mono ?_; rintro e wS ⟨rfl, hkS⟩; have hKS : Kept wr wS none := Kept.tr (by assumption) hkS)
                        replace hK := hK.out
                        refine hK _ _ hKS (fun hHeld => ?_)
                        clear hK K
                        refine held_take (i := 4) (v := ?v11) rfl rfl (by kernel_rfl) (by kernel_rfl) (by kernel_rfl) (fun _ _ _ h => h) (Or.inl ⟨by rfl, ?hy11⟩) hHeld ?rest11
                        case hy11 => first | (intro w hSw; (try dsimp only at hSw); go_simp; done) | (intro w hSw; (try dsimp only at hSw); go_simp; with_reducible rfl)
                        try simp only [List.setIfInBounds_toArray, List.set_cons_zero, List.set_cons_succ]
                        refine held_take (i := 5) (v := ?v12) rfl rfl (by kernel_rfl) (by kernel_rfl) (by kernel_rfl) (fun _ _ _ h => h) (Or.inl ⟨by rfl, ?hy12⟩) hHeld ?rest12
                        case hy12 => first | (intro w hSw; (try dsimp only at hSw); go_simp; done) | (intro w hSw; (try dsimp only at hSw); go_simp; with_reducible rfl)
                        try simp only [List.setIfInBounds_toArray, List.set_cons_zero, List.set_cons_succ]
                        refine held_take (i := 6) (v := ?v13) rfl rfl (by kernel_rfl) (by kernel_rfl) (by kernel_rfl) (fun _ _ _ h => h) (Or.inl ⟨by rfl, ?hy13⟩) hHeld ?rest13
                        case hy13 => first | (intro w hSw; (try dsimp only at hSw); go_simp; done) | (intro w hSw; (try dsimp only at hSw); go_simp; with_reducible rfl)
                        try simp only [List.setIfInBounds_toArray, List.set_cons_zero, List.set_cons_succ]
                        refine held_take (i := 7) (v := ?v14) rfl rfl (by kernel_rfl) (by kernel_rfl) (by kernel_rfl) (fun _ _ _ h => h) (Or.inl ⟨by rfl, ?hy14⟩) hHeld ?rest14
                        case hy14 => first | (intro w hSw; (try dsimp only at hSw); go_simp; done) | (intro w hSw; (try dsimp only at hSw); go_simp; with_reducible rfl)
                        try simp only [List.setIfInBounds_toArray, List.set_cons_zero, List.set_cons_succ]
                        refine held_take (i := 8) (v := ?v15) rfl rfl (by kernel_rfl) (by kernel_rfl) (by kernel_rfl) (fun _ _ _ h => h) (Or.inl ⟨by rfl, ?hy15⟩) hHeld ?rest15
                        case hy15 => first | (intro w hSw; (try dsimp only at hSw); go_simp; done) | (intro w hSw; (try dsimp only at hSw); go_simp; with_reducible rfl)
                        try simp only [List.setIfInBounds_toArray, List.set_cons_zero, List.set_cons_succ]
                        refine held_take (i := 9) (v := ?v16) rfl rfl (by kernel_rfl) (by kernel_rfl) (by kernel_rfl) (fun _ _ _ h => h) (Or.inl ⟨by rfl, ?hy16⟩) hHeld ?rest16
                        case hy16 => first | (intro w hSw; (try dsimp only at hSw); go_simp; done) | (intro w hSw; (try dsimp only at hSw); go_simp; with_reducible rfl)
                        try simp only [List.setIfInBounds_toArray, List.set_cons_zero, List.set_cons_succ]
                        refine held_take (i := 10) (v := ?v17) rfl rfl (by kernel_rfl) (by kernel_rfl) (by kernel_rfl) (fun _ _ _ h => h) (Or.inl ⟨by rfl, ?hy17⟩) hHeld ?rest17
                        case hy17 => first | (intro w hSw; (try dsimp only at hSw); go_simp; done) | (intro w hSw; (try dsimp only at hSw); go_simp; with_reducible rfl)
                        try simp only [List.setIfInBounds_toArray, List.set_cons_zero, List.set_cons_succ]
                        refine held_take (i := 11) (v := undef) rfl rfl (by kernel_rfl) (by kernel_rfl) (by kernel_rfl) (fun _ _ _ h => h) (Or.inr ⟨by rfl, rfl⟩) hHeld ?_
                        try simp only [List.setIfInBounds_toArray, List.set_cons_zero, List.set_cons_succ]
                        refine held_take (i := 12) (v := undef) rfl rfl (by kernel_rfl) (by kernel_rfl) (by kernel_rfl) (fun _ _ _ h => h) (Or.inr ⟨by rfl, rfl⟩) hHeld ?_
                        try simp only [List.setIfInBounds_toArray, List.set_cons_zero, List.set_cons_succ]
                        refine held_take (i := 13) (v := undef) rfl rfl (by kernel_rfl) (by kernel_rfl) (by kernel_rfl) (fun _ _ _ h => h) (Or.inr ⟨by rfl, rfl⟩) hHeld ?_
                        try simp only [List.setIfInBounds_toArray, List.set_cons_zero, List.set_cons_succ]
                        refine held_take (i := 14) (v := undef) rfl rfl (by kernel_rfl) (by kernel_rfl) (by kernel_rfl) (fun _ _ _ h => h) (Or.inr ⟨by rfl, rfl⟩) hHeld ?_
                        try simp only [List.setIfInBounds_toArray, List.set_cons_zero, List.set_cons_succ]
                        refine held_take (i := 15) (v := undef) rfl rfl (by kernel_rfl) (by kernel_rfl) (by kernel_rfl) (fun _ _ _ h => h) (Or.inr ⟨by rfl, rfl⟩) hHeld ?_
                        try simp only [List.setIfInBounds_toArray, List.set_cons_zero, List.set_cons_succ]
                        refine held_take (i := 16) (v := undef) rfl rfl (by kernel_rfl) (by kernel_rfl) (by kernel_rfl) (fun _ _ _ h => h) (Or.inr ⟨by rfl, rfl⟩) hHeld ?_
                        try simp only [List.setIfInBounds_toArray, List.set_cons_zero, List.set_cons_succ]
                        refine held_take (i := 17) (v := undef) rfl rfl (by kernel_rfl) (by kernel_rfl) (by kernel_rfl) (fun _ _ _ h => h) (Or.inr ⟨by rfl, rfl⟩) hHeld ?_
                        try simp only [List.setIfInBounds_toArray, List.set_cons_zero, List.set_cons_succ]
                        refine held_take (i := 18) (v := undef) rfl rfl (by kernel_rfl) (by kernel_rfl) (by kernel_rfl) (fun _ _ _ h => h) (Or.inr ⟨by rfl, rfl⟩) hHeld ?_
                        try simp only [List.setIfInBounds_toArray, List.set_cons_zero, List.set_cons_succ]
                        refine held_take (i := 19) (v := undef) rfl rfl (by kernel_rfl) (by kernel_rfl) (by kernel_rfl) (fun _ _ _ h => h) (Or.inr ⟨by rfl, rfl⟩) hHeld ?_
                        try simp only [List.setIfInBounds_toArray, List.set_cons_zero, List.set_cons_succ]
                        refine held_take (i := 20) (v := undef) rfl rfl (by kernel_rfl) (by kernel_rfl) (by kernel_rfl) (fun _ _ _ h => h) (Or.inr ⟨by rfl, rfl⟩) hHeld ?_
                        try simp only [List.setIfInBounds_toArray, List.set_cons_zero, List.set_cons_succ]
                        refine held_take (i := 21) (v := undef) rfl rfl (by kernel_rfl) (by kernel_rfl) (by kernel_rfl) (fun _ _ _ h => h) (Or.inr ⟨by rfl, rfl⟩) hHeld ?_
                        try simp only [List.setIfInBounds_toArray, List.set_cons_zero, List.set_cons_succ]
                        refine held_take (i := 22) (v := ?v18) rfl rfl (by kernel_rfl) (by kernel_rfl) (by kernel_rfl) (fun _ _ _ h => h) (Or.inl ⟨by rfl, ?hy18⟩) hHeld ?rest18
                        case hy18 => first | (intro w hSw; (try dsimp only at hSw); go_simp; done) | (intro w hSw; (try dsimp only at hSw); go_simp; with_reducible rfl)
                        try simp only [List.setIfInBounds_toArray, List.set_cons_zero, List.set_cons_succ]
                        refine held_take (i := 23) (v := ?v19) rfl rfl (by kernel_rfl) (by kernel_rfl) (by kernel_rfl) (fun _ _ _ h => h) (Or.inl ⟨by rfl, ?hy19⟩) hHeld ?rest19
                        case hy19 => first | (intro w hSw; (try dsimp only at hSw); go_simp; done) | (intro w hSw; (try dsimp only at hSw); go_simp; with_reducible rfl)
                        try simp only [List.setIfInBounds_toArray, List.set_cons_zero, List.set_cons_succ]
                        refine wpAnyH_done (by kernel_rfl) ?_ _
                        refine And.intro ?_ hHeld
                        with_reducible rfl
                      case cont7 =>
                      intro e a' w' hq
                      obtain ⟨rfl, rfl, hkq⟩ := hq.out
                      go_wp2
                      go_roundw
                      case rel => exact ⟨q + 1, by omega, by go_num, HK4.out.tr hkq, row_kept HR4.out hkq (by simp), by rw [HAS.out, HBF.out]; simp⟩
                      case measure => simp [intOf]; omega
                · have e : q = S.groups.length := by omega
                  subst e
                  have HOE : Hid (openB S F S.groups.length (p2F S F L S.groups.length k) k = allB S.groups.length (fun j => !barB S F (p2F S F L S.groups.length k) k j)) := rfl
                  have y0 : wr.cell? ⟨g, k, none⟩ = some (.int .u8 ((p2F S F L S.groups.length k k : Nat) : Int)) := (hro.cell (i := k) (by omega)).trans (by rw [if_pos hlt])
                  have z0 := hro.frozen k
                  have hgl := hro.lt
                  clear hkw hro
                  generalize allB S.groups.length (fun j => !barB S F (p2F S F L S.groups.length k) k j) = fr at *
                  cases fr with
                  | true =>
                    have HTN := Hid.mk' (HTT.out (by rw [HTB.out, HOE.out]; rfl))
                    go_wp2
                    go_roundw
                    case rel =>
                      refine ⟨k + 1, by omega, by go_num, HK4.out.setNew (p := ⟨g, k, none⟩) hgb _, (HR4.out.set k _).congr (fun j hj => ?_)⟩
                      rw [HTN.out]
                      show (if j = k then Value.int .u8 2 else if j < S.groups.length then Value.int .u8 ((p2F S F L S.groups.length k j : Nat) : Int) else f j) = if j < S.groups.length then Value.int .u8 (((if j = k then 2 else p2F S F L S.groups.length k j) : Nat) : Int) else f j
                      by_cases e : j = k
                      · subst e; rw [if_pos rfl, if_pos hlt, if_pos rfl]; rfl
                      · rw [if_neg e, if_neg e]
                    case measure => simp [intOf]; omega
                  | false =>
                    have HTN := Hid.mk' (HTF.out (by rw [HTB.out, HOE.out]; rfl))
                    go_wp2
                    go_roundw
                    case rel => exact ⟨k + 1, by omega, by go_num, HK4.out, HR4.out.congr (fun i hi => by rw [HTN.out i])⟩
                    case measure => simp [intOf]; omega
            · have e2 : k = S.groups.length := by omega
              subst e2
              have HBY : Hid (By wr (some ⟨g, 0, none⟩) S.groups.length (letV S F L)) := By.row hro _ _ hgc ((letV_len S F L).trans HLN.out) (by omega) (letV_lt9 S F L) (fun i hi => by rw [if_pos hi, show (letV S F L).getD i 0 = lg (letV S F L) i from rfl, letV_lg (by have := HLN.out; omega), HV.out i, HLN.out])
              clear hkw hro
              go_wp2
              go_ret
              exact ⟨_, _, rfl, HBY.out, fun b e => by injection e with e; subst e; exact Nat.le_trans HK.out.size hgb, HK.out.tr HK3.out⟩
theorem rlet9_any {X : Sa} {S : St} {w : World} {bf off c ba oa cl : Nat} {F : Sf} {L : List Nat} (h : Sat w X S) (hSh : Shape S) (hF : SafeAt w (some ⟨bf, off, none⟩) c F) (hf : F.groups.length = S.groups.length) (hB : By w (some ⟨ba, oa, none⟩) S.groups.length L) (hT : Tabb w) : Calls Tryz.prog 31 #[siteV X S, .agg #[.slice (some ⟨bf, off, none⟩) S.groups.length c, .int .i64 F.start, .bool F.flashed], .slice (some ⟨ba, oa, none⟩) S.groups.length cl] w fun e w' => ∃ a' c', e = .returned (.slice a' S.groups.length c') ∧ By w' a' S.groups.length (letV S F L) ∧ (∀ b, a' = some b → w.heap.size ≤ b.block) ∧ Kept w w' none := by
  cases h4 : allIs L 4 with
  | true => exact rlet9_flash h hSh hF hf hB hT h4
  | false =>
    by_cases hs : F.flashed = true ∨ 0 < F.start
    · exact rlet9_stay h hSh hF hf hB hT h4 hs
    · refine rlet9_go h hSh hF hf hB hT h4 ?_ (fun e => hs (.inr e))
      cases e : F.flashed with
      | false => rfl
      | true => exact absurd (.inl e) hs

end Go.Proofs.YtchjbagipbmcoaaGreatDoor

