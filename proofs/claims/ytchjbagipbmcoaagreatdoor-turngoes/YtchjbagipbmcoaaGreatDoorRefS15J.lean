/-
  Texts joined: some of those that the proofs of this seat stand on.
-/
import Derived.Test.YtchjbagipbmcoaaGreatDoorOwn8J
import Derived.Test.YtchjbagipbmcoaaGreatDoorGateBJ
import Derived.Test.YtchjbagipbmcoaaGreatDoorRefA9J
import Derived.Test.YtchjbagipbmcoaaGreatDoorRefB8J
import Derived.Test.YtchjbagipbmcoaaGreatDoorGateAJ
import Derived.Test.YtchjbagipbmcoaaGreatDoorRefK2
/-
  THE DOCUMENT'S Steps of layer 15 (made by a program).
-/
namespace Go.Proofs.YtchjbagipbmcoaaGreatDoor
open Go.RowKit Go.Lib Go.Deep
set_option linter.unusedVariables false
set_option linter.unusedSimpArgs false


structure Tq (w wr : World) (X : Sa) (S : St) (p bs bn : Nat) (al : Addr) (G : Sf) : Prop where
  kp : Kept w wr none
  sb : Sbox wr bs X S
  bx : ∃ ag cg, Box wr bn (.slice ag S.groups.length cg) (.int .i64 G.start) (.bool G.flashed) ∧ SafeAt wr ag cg G ∧ ∀ b, ag = some b → b.block ≠ bn
  ask : By wr (some al) S.groups.length (askV S p)
theorem Lie.keptQ {w w' : World} {r : Option Nat} {a : Option Addr} {n k : Nat} {f : Nat → Nat → Value} (h : Lie w a n k f) (q : Kept w w' r) (hr : 0 < n → ∀ x, a = some x → some x.block ≠ r) : Lie w' a n k f :=
  ⟨fun hp => by
    obtain ⟨b, off, e, hb, hc⟩ := h.at_ hp
    exact ⟨b, off, e, Nat.lt_of_lt_of_le hb q.size, fun i hi j hj => cell_keptS (hc i hi j hj) q (hr hp _ e)⟩⟩
theorem By.keptQ {w w' : World} {r : Option Nat} {a : Addr} {n : Nat} {L : List Nat} (h : By w (some a) n L) (q : Kept w w' r) (hr : some a.block ≠ r) : By w' (some a) n L := by
  refine ⟨h.size, h.max, h.lt, fun hp => ?_⟩
  obtain ⟨b, off, e, hb, hc⟩ := h.at_ hp
  injection e with e
  subst e
  exact ⟨b, off, rfl, Nat.lt_of_lt_of_le hb q.size, fun i hi => cell_keptS (hc i hi) q hr⟩
theorem Tq.step {w wr w7 : World} {X : Sa} {S : St} {p bs bn c2 : Nat} {al : Addr} {a2 : Option Addr} {G G' : Sf} (h : Tq w wr X S p bs bn al G) (h0 : Sat w X S) (d1 : bs ≠ bn) (d2 : al.block ≠ bn) (d3 : w.heap.size ≤ bn) (k : Kept wr w7 none) (hs2 : SafeAt w7 a2 c2 G') (hb2 : ∀ b, a2 = some b → wr.heap.size ≤ b.block) : Tq w (((w7.setCell ⟨bn, 0, none⟩ (.slice a2 S.groups.length c2)).setCell ⟨bn, 1, none⟩ (.int .i64 G'.start)).setCell ⟨bn, 2, none⟩ (.bool G'.flashed)) X S p bs bn al G' := by
  obtain ⟨ag, cg, hb, hs, hne⟩ := h.bx
  have k7 : Kept w7 (((w7.setCell ⟨bn, 0, none⟩ (.slice a2 S.groups.length c2)).setCell ⟨bn, 1, none⟩ (.int .i64 G'.start)).setCell ⟨bn, 2, none⟩ (.bool G'.flashed)) (some bn) := (((Kept.refl w7 (some bn)).setRow _ _).setRow _ _).setRow _ _
  have kn := (k.weakS (some bn)).tr k7
  have kw := (((h.kp.tr k).setNew (p := ⟨bn, 0, none⟩) d3 (.slice a2 S.groups.length c2)).setNew (p := ⟨bn, 1, none⟩) d3 (.int .i64 G'.start)).setNew (p := ⟨bn, 2, none⟩) d3 (.bool G'.flashed)
  have h2 : ∀ b, a2 = some b → b.block ≠ bn := fun b e => by have := hb2 b e; have := hb.lt; omega
  refine ⟨kw, Sbox.oth h0 h.sb kw kn d1, ⟨a2, c2, (hb.kept k).set3t _ _ _, ⟨hs2.lie.keptQ k7 (fun _ x e => fun e2 => h2 x e (Option.some.inj e2)), hs2.cap, hs2.rng⟩, h2⟩, h.ask.keptQ kn (fun e => d2 (Option.some.inj e))⟩
set_option maxRecDepth 100000 in
set_option maxHeartbeats 2000000 in
theorem rstps_no {X : Sa} {S : St} {w : World} (h : Sat w X S) (hT : Tabb w) {a : Option Addr} {c : Nat} {F : Sf} (hF : SafeAt w a c F) (p : Int) (hs : siteB S = false) : Calls Tryz.prog 14 #[siteV X S, safeV a c F, .int .i64 p] w fun e w' => e = .returned (.tuple #[.int .i64 0, .int .i64 50]) ∧ Kept w w' none := by
  have hce : checkE S = 50 := by unfold checkE; rw [hs]; rfl
  obtain ⟨WA, hWA⟩ : ∃ WA, ((w.alloc (.cells #[.int .i64 S.id, .slice X.g S.groups.length X.gc, .slice X.a S.apart.length X.ac, .slice X.b S.between.length X.bc, .slice X.p S.phases.length X.pc, .slice X.e S.eyes.length X.ec, .int .i64 S.watch, .int .i64 S.feed, .int .i64 S.heal, .int .i64 S.low, .int .i64 S.high, .slice X.l S.plans.length X.lc] 29)).alloc (.cells #[.slice a F.groups.length c, .int .i64 F.start, .bool F.flashed] 32)) = WA := ⟨_, rfl⟩
  obtain ⟨HSB, HBN, HSZ, HK, HS, HF, n0_, n1_, n2_, s0_, s1_, s2_, s3_, s4_, s5_, s6_, s7_, s8_, s9_, s10_, s11_⟩ := hd2 h hF hWA
  have HT := Hid.mk' (hT.kept HK.out)
  have hK0 := Kept.refl WA none
  clear h hT hF
  go_enter Tryz.func14, Tryz.ntmps14
  go_wp2_with (first | rw [hWA] | (go_at_call 16; have hx := rcheck_any HS.out; rw [hce] at hx; refine hx.mono ?_; rintro e wC ⟨rfl, hkC⟩; have hKC : Kept WA wC none := hkC; clear hx))
  go_ret2
  exact ⟨rfl, HK.out.tr hkC⟩
set_option maxRecDepth 100000 in
set_option maxHeartbeats 2000000 in
theorem rstps_bad {X : Sa} {S : St} {w : World} (h : Sat w X S) (hT : Tabb w) {a : Option Addr} {c : Nat} {F : Sf} (hF : SafeAt w a c F) (p : Int) (hl : F.groups.length ≤ 100) (hs : siteB S = true) (hg : goesV S F = false) : Calls Tryz.prog 14 #[siteV X S, safeV a c F, .int .i64 p] w fun e w' => e = .returned (.tuple #[.int .i64 0, .int .i64 8]) ∧ Kept w w' none := by
  have hce : checkE S = 0 := by unfold checkE; rw [hs]; rfl
  have HOK := Hid.mk' (span_may hs).base.sh.ok
  have HGV := Hid.mk' hg
  clear hg
  obtain ⟨WA, hWA⟩ : ∃ WA, ((w.alloc (.cells #[.int .i64 S.id, .slice X.g S.groups.length X.gc, .slice X.a S.apart.length X.ac, .slice X.b S.between.length X.bc, .slice X.p S.phases.length X.pc, .slice X.e S.eyes.length X.ec, .int .i64 S.watch, .int .i64 S.feed, .int .i64 S.heal, .int .i64 S.low, .int .i64 S.high, .slice X.l S.plans.length X.lc] 29)).alloc (.cells #[.slice a F.groups.length c, .int .i64 F.start, .bool F.flashed] 32)) = WA := ⟨_, rfl⟩
  obtain ⟨HSB, HBN, HSZ, HK, HS, HF, n0_, n1_, n2_, s0_, s1_, s2_, s3_, s4_, s5_, s6_, s7_, s8_, s9_, s10_, s11_⟩ := hd2 h hF hWA
  have HT := Hid.mk' (hT.kept HK.out)
  have hK0 := Kept.refl WA none
  clear h hT hF
  go_enter Tryz.func14, Tryz.ntmps14
  go_wp2_with (first | rw [hWA] | (have hgo := hKC; clear hgo; go_at_call 29; have hx := rgoes9_any (HS.out.kept hKC) (HT.out.kept hKC) (HF.out.kept hKC) HOK.out hl; rw [HGV.out] at hx; refine hx.mono ?_; rintro e wG ⟨rfl, hkG⟩; have hKG : Kept WA wG none := hKC.tr hkG; clear hx) | (go_at_call 16; have hx := rcheck_any HS.out; rw [hce] at hx; refine hx.mono ?_; rintro e wC ⟨rfl, hkC⟩; have hKC : Kept WA wC none := hkC; clear hx))
  go_ret2
  exact ⟨rfl, HK.out.tr hKG⟩
set_option maxRecDepth 100000 in
set_option maxHeartbeats 2000000 in
theorem rstps_arg0 {X : Sa} {S : St} {w : World} (h : Sat w X S) (hT : Tabb w) {a : Option Addr} {c : Nat} {F : Sf} (hF : SafeAt w a c F) (p : Int) (hl : F.groups.length ≤ 100) (hs : siteB S = true) (hg : goesV S F = true) (hp : p < 0) : Calls Tryz.prog 14 #[siteV X S, safeV a c F, .int .i64 p] w fun e w' => e = .returned (.tuple #[.int .i64 0, .int .i64 2]) ∧ Kept w w' none := by
  have hce : checkE S = 0 := by unfold checkE; rw [hs]; rfl
  have HOK := Hid.mk' (span_may hs).base.sh.ok
  have hp0 : decide (p < 0) = true := decide_eq_true hp
  clear hp
  have HGV := Hid.mk' hg
  clear hg
  obtain ⟨WA, hWA⟩ : ∃ WA, ((w.alloc (.cells #[.int .i64 S.id, .slice X.g S.groups.length X.gc, .slice X.a S.apart.length X.ac, .slice X.b S.between.length X.bc, .slice X.p S.phases.length X.pc, .slice X.e S.eyes.length X.ec, .int .i64 S.watch, .int .i64 S.feed, .int .i64 S.heal, .int .i64 S.low, .int .i64 S.high, .slice X.l S.plans.length X.lc] 29)).alloc (.cells #[.slice a F.groups.length c, .int .i64 F.start, .bool F.flashed] 32)) = WA := ⟨_, rfl⟩
  obtain ⟨HSB, HBN, HSZ, HK, HS, HF, n0_, n1_, n2_, s0_, s1_, s2_, s3_, s4_, s5_, s6_, s7_, s8_, s9_, s10_, s11_⟩ := hd2 h hF hWA
  have HT := Hid.mk' (hT.kept HK.out)
  have hK0 := Kept.refl WA none
  clear h hT hF
  go_enter Tryz.func14, Tryz.ntmps14
  go_wp2_with (first | rw [hWA] | (have hgo := hKC; clear hgo; go_at_call 29; have hx := rgoes9_any (HS.out.kept hKC) (HT.out.kept hKC) (HF.out.kept hKC) HOK.out hl; rw [HGV.out] at hx; refine hx.mono ?_; rintro e wG ⟨rfl, hkG⟩; have hKG : Kept WA wG none := hKC.tr hkG; clear hx) | (go_at_call 16; have hx := rcheck_any HS.out; rw [hce] at hx; refine hx.mono ?_; rintro e wC ⟨rfl, hkC⟩; have hKC : Kept WA wC none := hkC; clear hx))
  go_ret2
  exact ⟨rfl, HK.out.tr hKG⟩
set_option maxRecDepth 100000 in
set_option maxHeartbeats 2000000 in
theorem rstps_arg1 {X : Sa} {S : St} {w : World} (h : Sat w X S) (hT : Tabb w) {a : Option Addr} {c : Nat} {F : Sf} (hF : SafeAt w a c F) (p : Int) (hl : F.groups.length ≤ 100) (hs : siteB S = true) (hg : goesV S F = true) (hp0 : 0 ≤ p) (hp : (S.phases.length : Int) ≤ p) : Calls Tryz.prog 14 #[siteV X S, safeV a c F, .int .i64 p] w fun e w' => e = .returned (.tuple #[.int .i64 0, .int .i64 2]) ∧ Kept w w' none := by
  have hce : checkE S = 0 := by unfold checkE; rw [hs]; rfl
  have HOK := Hid.mk' (span_may hs).base.sh.ok
  have hp1 : decide (p < 0) = false := decide_eq_false (by omega)
  have hp2 : decide ((S.phases.length : Int) ≤ p) = true := decide_eq_true hp
  clear hp0 hp
  have HGV := Hid.mk' hg
  clear hg
  obtain ⟨WA, hWA⟩ : ∃ WA, ((w.alloc (.cells #[.int .i64 S.id, .slice X.g S.groups.length X.gc, .slice X.a S.apart.length X.ac, .slice X.b S.between.length X.bc, .slice X.p S.phases.length X.pc, .slice X.e S.eyes.length X.ec, .int .i64 S.watch, .int .i64 S.feed, .int .i64 S.heal, .int .i64 S.low, .int .i64 S.high, .slice X.l S.plans.length X.lc] 29)).alloc (.cells #[.slice a F.groups.length c, .int .i64 F.start, .bool F.flashed] 32)) = WA := ⟨_, rfl⟩
  obtain ⟨HSB, HBN, HSZ, HK, HS, HF, n0_, n1_, n2_, s0_, s1_, s2_, s3_, s4_, s5_, s6_, s7_, s8_, s9_, s10_, s11_⟩ := hd2 h hF hWA
  have HT := Hid.mk' (hT.kept HK.out)
  have hK0 := Kept.refl WA none
  clear h hT hF
  go_enter Tryz.func14, Tryz.ntmps14
  go_wp2_with (first | rw [hWA] | (have hgo := hKC; clear hgo; go_at_call 29; have hx := rgoes9_any (HS.out.kept hKC) (HT.out.kept hKC) (HF.out.kept hKC) HOK.out hl; rw [HGV.out] at hx; refine hx.mono ?_; rintro e wG ⟨rfl, hkG⟩; have hKG : Kept WA wG none := hKC.tr hkG; clear hx) | (go_at_call 16; have hx := rcheck_any HS.out; rw [hce] at hx; refine hx.mono ?_; rintro e wC ⟨rfl, hkC⟩; have hKC : Kept WA wC none := hkC; clear hx))
  go_ret2
  exact ⟨rfl, HK.out.tr hKG⟩
set_option maxRecDepth 100000 in
set_option maxHeartbeats 8000000 in
theorem rstps_go {X : Sa} {S : St} {w : World} (h : Sat w X S) (hT : Tabb w) {a : Option Addr} {c : Nat} {F : Sf} (hF : SafeAt w a c F) (p : Nat) (hl : F.groups.length ≤ 100) (hz : goesE S F = 0) (hp : p < S.phases.length) : Calls Tryz.prog 14 #[siteV X S, safeV a c F, .int .i64 (p : Int)] w fun e w' => e = .returned (.tuple #[.int .i64 (steV S F (p : Int)), .int .i64 (steE S F (p : Int))]) ∧ Kept w w' none := by
  obtain ⟨hs, hg⟩ := goesE_ok hz
  have hce : checkE S = 0 := by unfold checkE; rw [hs]; rfl
  have HOK := Hid.mk' (span_may hs).base.sh.ok
  have HSH := Hid.mk' (span_may hs).base.sh
  have HSI := Hid.mk' hs
  have hng : S.groups.length ≤ 32 := by have := (span_may hs).base.sh.ok.ng; omega
  have hg0 : 0 < S.groups.length := by have := (span_may hs).base.sh.ok.ng; omega
  have hq1 : decide ((p : Int) < 0) = false := decide_eq_false (by omega)
  have hq2 : decide ((S.phases.length : Int) ≤ (p : Int)) = false := decide_eq_false (by omega)
  have hq3 : ¬ S.phases.length ≤ p := by omega
  have HFN := Hid.mk' (mayS_parts (goes_parts hg).1).1
  have HGO := Hid.mk' (fun k => goes_at (p := p) hs hg k)
  have HFL : Hid (∀ k, (atT S p F k).groups.length = S.groups.length) := fun k => (mayS_parts (goes_parts (HGO.out k)).1).1
  have HSTT : Hid (∀ k, 0 ≤ (atT S p F k).start ∧ (atT S p F k).start ≤ 1048576) := fun k => (mayS_parts (goes_parts (HGO.out k)).1).2.1
  have HY : Hid (∀ k, k ≤ 4096 → (∀ j, j < k → fullB S (atT S p F j) p = false) → fullB S (atT S p F k) p = true → steE S F (p : Int) = 0 ∧ steV S F (p : Int) = k) := fun k hk hj h1 => ste_go hz hp (stpO_at hk hj h1)
  have HN : Hid ((∀ j, j < 4097 → fullB S (atT S p F j) p = false) → steE S F (p : Int) = 4 ∧ steV S F (p : Int) = 0) := fun h => ste_many hz hp (stpO_none h)
  have HOLD : Hid (∀ b, a = some b → 0 < F.groups.length → b.block < w.heap.size) := fun b e hpos => by
    obtain ⟨bf, off, ea, hbf, _⟩ := hF.lie.at_ hpos
    rw [ea] at e
    injection e with e
    subst e
    exact hbf
  have HSAT := Hid.mk' h
  have HTAB := Hid.mk' hT
  have HGV := Hid.mk' hg
  obtain ⟨WA, hWA⟩ : ∃ WA, ((w.alloc (.cells #[.int .i64 S.id, .slice X.g S.groups.length X.gc, .slice X.a S.apart.length X.ac, .slice X.b S.between.length X.bc, .slice X.p S.phases.length X.pc, .slice X.e S.eyes.length X.ec, .int .i64 S.watch, .int .i64 S.feed, .int .i64 S.heal, .int .i64 S.low, .int .i64 S.high, .slice X.l S.plans.length X.lc] 29)).alloc (.cells #[.slice a F.groups.length c, .int .i64 F.start, .bool F.flashed] 32)) = WA := ⟨_, rfl⟩
  obtain ⟨HSB, HBN, HSZ, HK, HS, HF, n0_, n1_, n2_, s0_, s1_, s2_, s3_, s4_, s5_, s6_, s7_, s8_, s9_, s10_, s11_⟩ := hd2 h hF hWA
  have HT := Hid.mk' (hT.kept HK.out)
  have hK0 := Kept.refl WA none
  clear h hT hF
  clear hg hz
  go_enter Tryz.func14, Tryz.ntmps14
  go_wp2_with (first | rw [hWA] | (have hgo := hKG; clear hgo; go_at_call 21; refine (rwants_any (HS.out.kept hKG) hng hp).mono ?_; rintro e wT ⟨aT, cT, rfl, hbT, hnT, hkT⟩) | (have hgo := hKC; clear hgo; go_at_call 29; have hx := rgoes9_any (HS.out.kept hKC) (HT.out.kept hKC) (HF.out.kept hKC) HOK.out hl; rw [HGV.out] at hx; refine hx.mono ?_; rintro e wG ⟨rfl, hkG⟩; have hKG : Kept WA wG none := hKC.tr hkG; clear hx) | (go_at_call 16; have hx := rcheck_any HS.out; rw [hce] at hx; refine hx.mono ?_; rintro e wC ⟨rfl, hkC⟩; have hKC : Kept WA wC none := hkC; clear hx))
  obtain ⟨bt, ot, eT, hbt, _⟩ := hbT.at_ hg0
  subst eT
  have hsz1 := hKG.size
  have hnt := hnT _ rfl
  dsimp only at hnt
  have KA := Hid.mk' (hKG.tr hkT)
  have HD2 : Hid (bt ≠ w.heap.size + 1) := by show _ ≠ _; have := HSZ.out; omega
  have HT0 : Hid (Tq w wT X S p w.heap.size (w.heap.size + 1) ⟨bt, ot, none⟩ (atT S p F 0)) := by
    refine ⟨HK.out.tr KA.out, HSB.out.kept KA.out, ⟨a, c, ?_, HF.out.kept KA.out, fun b e => ?_⟩, hbT⟩
    · rw [← HFN.out]; exact HBN.out.kept KA.out
    · have := HOLD.out b e (by have := HFN.out; omega)
      omega
  clear hbT hnT hnt hkT hKG hkG hKC hkC hsz1 s0_ s1_ s2_ s3_ s4_ s5_ s6_ s7_ s8_ s9_ s10_ s11_ n0_ n1_ n2_ hK0 HSB HBN
  go_loopw [10] (fun i wr => ∃ k : Nat, k ≤ 4097 ∧ i = .int .i64 k ∧ Tq w wr X S p w.heap.size (w.heap.size + 1) ⟨bt, ot, none⟩ (atT S p F k) ∧ ∀ j, j < k → fullB S (atT S p F j) p = false) (fun i _ => 4097 - (intOf i).toNat)
  case atStart => exact ⟨0, by omega, rfl, HT0.out, fun j hj => by omega⟩
  case round =>
    obtain ⟨k, hk, rfl, htn, hno⟩ := hrel
    have HTN := Hid.mk' htn
    have HNO := Hid.mk' hno
    clear hno
    by_cases hlt : k < 4097
    · have hkb : decide ((k : Int) ≤ 4096) = true := decide_eq_true (by omega)
      obtain ⟨ag, cg, hb, hsf, hne⟩ := htn.bx
      obtain ⟨bf, off, rfl, hbf, hcf⟩ := hsf.lie.at_ (by rw [HFL.out k]; exact hg0)
      have HWH := Hid.mk' (rwhole15_any htn.sb.sat hsf hng hp (HFL.out k))
      have HEX : Hid (fullB S (atT S p F k) p = false → ∀ j, j < k + 1 → fullB S (atT S p F j) p = false) := fun e => ext_no HNO.out e
      have HYK : Hid (fullB S (atT S p F k) p = true → steE S F (p : Int) = 0 ∧ steV S F (p : Int) = k) := HY.out k (by omega) HNO.out
      have KPW := Hid.mk' htn.kp
      have HSW := Hid.mk' htn.sb
      have HBW := Hid.mk' hb
      have hcr : S.groups.length ≤ cg := by have := hsf.cap.room; have := HFL.out k; omega
      have hcm := hsf.cap.max
      have hK0' := Kept.refl wr none
      have s0_ : ∀ w', Kept wr w' none → w'.cell? ⟨w.heap.size, 0, none⟩ = some (.int .i64 S.id) := fun w' q => (HSW.out.kept q).c0
      have s1_ : ∀ w', Kept wr w' none → w'.cell? ⟨w.heap.size, 1, none⟩ = some (.slice X.g S.groups.length X.gc) := fun w' q => (HSW.out.kept q).c1
      have s2_ : ∀ w', Kept wr w' none → w'.cell? ⟨w.heap.size, 2, none⟩ = some (.slice X.a S.apart.length X.ac) := fun w' q => (HSW.out.kept q).c2
      have s3_ : ∀ w', Kept wr w' none → w'.cell? ⟨w.heap.size, 3, none⟩ = some (.slice X.b S.between.length X.bc) := fun w' q => (HSW.out.kept q).c3
      have s4_ : ∀ w', Kept wr w' none → w'.cell? ⟨w.heap.size, 4, none⟩ = some (.slice X.p S.phases.length X.pc) := fun w' q => (HSW.out.kept q).c4
      have s5_ : ∀ w', Kept wr w' none → w'.cell? ⟨w.heap.size, 5, none⟩ = some (.slice X.e S.eyes.length X.ec) := fun w' q => (HSW.out.kept q).c5
      have s6_ : ∀ w', Kept wr w' none → w'.cell? ⟨w.heap.size, 6, none⟩ = some (.int .i64 S.watch) := fun w' q => (HSW.out.kept q).c6
      have s7_ : ∀ w', Kept wr w' none → w'.cell? ⟨w.heap.size, 7, none⟩ = some (.int .i64 S.feed) := fun w' q => (HSW.out.kept q).c7
      have s8_ : ∀ w', Kept wr w' none → w'.cell? ⟨w.heap.size, 8, none⟩ = some (.int .i64 S.heal) := fun w' q => (HSW.out.kept q).c8
      have s9_ : ∀ w', Kept wr w' none → w'.cell? ⟨w.heap.size, 9, none⟩ = some (.int .i64 S.low) := fun w' q => (HSW.out.kept q).c9
      have s10_ : ∀ w', Kept wr w' none → w'.cell? ⟨w.heap.size, 10, none⟩ = some (.int .i64 S.high) := fun w' q => (HSW.out.kept q).c10
      have s11_ : ∀ w', Kept wr w' none → w'.cell? ⟨w.heap.size, 11, none⟩ = some (.slice X.l S.plans.length X.lc) := fun w' q => (HSW.out.kept q).c11
      have n0_ : ∀ w', Kept wr w' none → w'.cell? ⟨w.heap.size + 1, 0, none⟩ = some (.slice (some ⟨bf, off, none⟩) S.groups.length cg) := fun w' q => (HBW.out.kept q).c0
      have n1_ : ∀ w', Kept wr w' none → w'.cell? ⟨w.heap.size + 1, 1, none⟩ = some (.int .i64 (atT S p F k).start) := fun w' q => (HBW.out.kept q).c1
      have n2_ : ∀ w', Kept wr w' none → w'.cell? ⟨w.heap.size + 1, 2, none⟩ = some (.bool (atT S p F k).flashed) := fun w' q => (HBW.out.kept q).c2
      have HLET0 : Hid (∀ w', Kept wr w' none → Calls Tryz.prog 31 #[siteV X S, .agg #[.slice (some ⟨bf, off, none⟩) S.groups.length cg, .int .i64 (atT S p F k).start, .bool (atT S p F k).flashed], .slice (some ⟨bt, ot, none⟩) S.groups.length cT] w' fun e w2 => ∃ a' c', e = .returned (.slice a' S.groups.length c') ∧ By w2 a' S.groups.length (letV S (atT S p F k) (askV S p)) ∧ Kept w' w2 none) := fun w' q => (rlet9_any (htn.sb.sat.kept q) HSH.out (hsf.kept q) (HFL.out k) (htn.ask.kept q) ((HTAB.out.kept htn.kp).kept q)).mono (fun e w2 ⟨a', c', h1, h2, h3, h4⟩ => ⟨a', c', h1, h2, h4⟩)
      have HBH0 : Hid (∀ w' bl ol cL, Kept wr w' none → By w' (some ⟨bl, ol, none⟩) S.groups.length (letV S (atT S p F k) (askV S p)) → Calls Tryz.prog 30 #[siteV X S, .agg #[.slice (some ⟨bf, off, none⟩) S.groups.length cg, .int .i64 (atT S p F k).start, .bool (atT S p F k).flashed], .slice (some ⟨bl, ol, none⟩) S.groups.length cL] w' fun e w2 => ∃ a c', e = .returned (.agg #[.slice a S.groups.length c', .int .i64 (atT S p F (k + 1)).start, .bool (atT S p F (k + 1)).flashed]) ∧ SafeAt w2 a c' (atT S p F (k + 1)) ∧ (∀ b, a = some b → w'.heap.size ≤ b.block) ∧ Kept w' w2 none) := fun w' bl ol cL q hB => by
        rw [show atT S p F (k + 1) = behindV S (atT S p F k) (letV S (atT S p F k) (askV S p)) from rfl]
        have hq := HSTT.out k
        have cf5 : ∀ i, i < S.groups.length → ∀ j, j < 3 → w'.cell? ⟨bf, off + i * 3 + j, none⟩ = some (snV ((atT S p F k).g i) j) := fun i hi j hj => cell_kept0 (hcf i (by rw [HFL.out k]; exact hi) j hj) q
        obtain ⟨b', o', e', _, hc'⟩ := hB.at_ hg0
        injection e' with e'
        injection e' with e1 e2
        subst e1 e2
        revert cf5 hq hB hc'
        generalize atT S p F k = F0
        obtain ⟨G0, st, fl⟩ := F0
        intro hB hq cf5 hc'
        exact rbehind_any (htn.sb.sat.kept q) HSI.out cf5 hcr hcm hq hc' hB
      have HST0 : Hid (∀ w7 a2 c2, Kept wr w7 none → SafeAt w7 a2 c2 (atT S p F (k + 1)) → (∀ b, a2 = some b → wr.heap.size ≤ b.block) → Tq w (((w7.setCell ⟨w.heap.size + 1, 0, none⟩ (.slice a2 S.groups.length c2)).setCell ⟨w.heap.size + 1, 1, none⟩ (.int .i64 (atT S p F (k + 1)).start)).setCell ⟨w.heap.size + 1, 2, none⟩ (.bool (atT S p F (k + 1)).flashed)) X S p w.heap.size (w.heap.size + 1) ⟨bt, ot, none⟩ (atT S p F (k + 1))) := fun w7 a2 c2 q hs2 hb2 => htn.step HSAT.out (by omega) HD2.out (by omega) q hs2 hb2
      clear htn hb hsf hne hcf hbf
      obtain ⟨G', hG'⟩ : ∃ G', atT S p F (k + 1) = G' := ⟨_, rfl⟩
      rw [hG'] at HBH0 HST0
      have HGE := Hid.mk' hG'
      clear hG'
      generalize fullB S (atT S p F k) p = z at *
      generalize letV S (atT S p F k) (askV S p) = LV at *
      generalize atT S p F k = G at *
      cases z with
      | true =>
        obtain ⟨e1, e2⟩ := HYK.out rfl
        have E1 := Hid.mk' e1
        have E2 := Hid.mk' e2
        clear e1 e2 HYK HEX
        go_wp2_with (go_at_call 23; refine HWH.out.mono ?_; rintro e wU ⟨rfl, hkU⟩)
        go_ret2
        exact ⟨by rw [E1.out, E2.out]; rfl, KPW.out.tr hkU⟩
      | false =>
        have HE := Hid.mk' (HEX.out rfl)
        clear HYK HEX
        go_wp2_with (go_at_call 23; refine HWH.out.mono ?_; rintro e wU ⟨rfl, hkU⟩)
        have HBX := Hid.mk' (HBW.out.kept hkU)
        have HSU := Hid.mk' (HSW.out.kept hkU)
        have hKd : Kept wU wU.drew none := Kept.drew _ _
        have HLET : Hid (∀ w', Kept wU w' none → Calls Tryz.prog 31 #[siteV X S, (.agg #[.slice (some ⟨bf, off, none⟩) S.groups.length cg, .int .i64 G.start, .bool G.flashed]), .slice (some ⟨bt, ot, none⟩) S.groups.length cT] w' fun e w2 => ∃ a' c', e = .returned (.slice a' S.groups.length c') ∧ By w2 a' S.groups.length LV ∧ Kept w' w2 none) := fun w' q => HLET0.out w' (hkU.tr q)
        have HBH : Hid (∀ w' bl ol cL, Kept wU w' none → By w' (some ⟨bl, ol, none⟩) S.groups.length LV → Calls Tryz.prog 30 #[siteV X S, (.agg #[.slice (some ⟨bf, off, none⟩) S.groups.length cg, .int .i64 G.start, .bool G.flashed]), .slice (some ⟨bl, ol, none⟩) S.groups.length cL] w' fun e w2 => ∃ a c', e = .returned (.agg #[.slice a S.groups.length c', .int .i64 G'.start, .bool G'.flashed]) ∧ SafeAt w2 a c' G' ∧ (∀ b, a = some b → w'.heap.size ≤ b.block) ∧ Kept w' w2 none) := fun w' bl ol cL q hB => HBH0.out w' bl ol cL (hkU.tr q) hB
        have HST : Hid (∀ w7 a2 c2, Kept wU w7 none → SafeAt w7 a2 c2 G' → (∀ b, a2 = some b → wU.heap.size ≤ b.block) → Tq w (((w7.setCell ⟨w.heap.size + 1, 0, none⟩ (.slice a2 S.groups.length c2)).setCell ⟨w.heap.size + 1, 1, none⟩ (.int .i64 G'.start)).setCell ⟨w.heap.size + 1, 2, none⟩ (.bool G'.flashed)) X S p w.heap.size (w.heap.size + 1) ⟨bt, ot, none⟩ G') := fun w7 a2 c2 q hs2 hb2 => HST0.out w7 a2 c2 (hkU.tr q) hs2 (fun b e => Nat.le_trans hkU.size (hb2 b e))
        have x0 : ∀ w', Kept wU w' none → w'.cell? ⟨w.heap.size + 1, 0, none⟩ = some (.slice (some ⟨bf, off, none⟩) S.groups.length cg) := fun w' q => (HBX.out.kept q).c0
        have x1 : ∀ w', Kept wU w' none → w'.cell? ⟨w.heap.size + 1, 1, none⟩ = some (.int .i64 G.start) := fun w' q => (HBX.out.kept q).c1
        have x2 : ∀ w', Kept wU w' none → w'.cell? ⟨w.heap.size + 1, 2, none⟩ = some (.bool G.flashed) := fun w' q => (HBX.out.kept q).c2
        have r0_ : ∀ w', Kept wU w' (some (w.heap.size + 1)) → w'.cell? ⟨w.heap.size, 0, none⟩ = some (.int .i64 S.id) := fun w' q => cell_keptS HSU.out.c0 q (by intro e; have := Option.some.inj e; omega)
        have r1_ : ∀ w', Kept wU w' (some (w.heap.size + 1)) → w'.cell? ⟨w.heap.size, 1, none⟩ = some (.slice X.g S.groups.length X.gc) := fun w' q => cell_keptS HSU.out.c1 q (by intro e; have := Option.some.inj e; omega)
        have r2_ : ∀ w', Kept wU w' (some (w.heap.size + 1)) → w'.cell? ⟨w.heap.size, 2, none⟩ = some (.slice X.a S.apart.length X.ac) := fun w' q => cell_keptS HSU.out.c2 q (by intro e; have := Option.some.inj e; omega)
        have r3_ : ∀ w', Kept wU w' (some (w.heap.size + 1)) → w'.cell? ⟨w.heap.size, 3, none⟩ = some (.slice X.b S.between.length X.bc) := fun w' q => cell_keptS HSU.out.c3 q (by intro e; have := Option.some.inj e; omega)
        have r4_ : ∀ w', Kept wU w' (some (w.heap.size + 1)) → w'.cell? ⟨w.heap.size, 4, none⟩ = some (.slice X.p S.phases.length X.pc) := fun w' q => cell_keptS HSU.out.c4 q (by intro e; have := Option.some.inj e; omega)
        have r5_ : ∀ w', Kept wU w' (some (w.heap.size + 1)) → w'.cell? ⟨w.heap.size, 5, none⟩ = some (.slice X.e S.eyes.length X.ec) := fun w' q => cell_keptS HSU.out.c5 q (by intro e; have := Option.some.inj e; omega)
        have r6_ : ∀ w', Kept wU w' (some (w.heap.size + 1)) → w'.cell? ⟨w.heap.size, 6, none⟩ = some (.int .i64 S.watch) := fun w' q => cell_keptS HSU.out.c6 q (by intro e; have := Option.some.inj e; omega)
        have r7_ : ∀ w', Kept wU w' (some (w.heap.size + 1)) → w'.cell? ⟨w.heap.size, 7, none⟩ = some (.int .i64 S.feed) := fun w' q => cell_keptS HSU.out.c7 q (by intro e; have := Option.some.inj e; omega)
        have r8_ : ∀ w', Kept wU w' (some (w.heap.size + 1)) → w'.cell? ⟨w.heap.size, 8, none⟩ = some (.int .i64 S.heal) := fun w' q => cell_keptS HSU.out.c8 q (by intro e; have := Option.some.inj e; omega)
        have r9_ : ∀ w', Kept wU w' (some (w.heap.size + 1)) → w'.cell? ⟨w.heap.size, 9, none⟩ = some (.int .i64 S.low) := fun w' q => cell_keptS HSU.out.c9 q (by intro e; have := Option.some.inj e; omega)
        have r10_ : ∀ w', Kept wU w' (some (w.heap.size + 1)) → w'.cell? ⟨w.heap.size, 10, none⟩ = some (.int .i64 S.high) := fun w' q => cell_keptS HSU.out.c10 q (by intro e; have := Option.some.inj e; omega)
        have r11_ : ∀ w', Kept wU w' (some (w.heap.size + 1)) → w'.cell? ⟨w.heap.size, 11, none⟩ = some (.slice X.l S.plans.length X.lc) := fun w' q => cell_keptS HSU.out.c11 q (by intro e; have := Option.some.inj e; omega)
        clear n0_ n1_ n2_ s0_ s1_ s2_ s3_ s4_ s5_ s6_ s7_ s8_ s9_ s10_ s11_ hK0' hkU
        refine Code.wp_mono (Q := Rv8 ?A (fun w' => Tq w w' X S p w.heap.size (w.heap.size + 1) ⟨bt, ot, none⟩ G')) ?cont ?reg
        case reg =>
            repeat (rename_i hh; clear hh)
            refine wp_region_held_drew (S := fun w' => Kept wU w' (some (w.heap.size + 1))) (by kernel_rfl) (Kept.drew _ _) (fun hHeld => ?_)
            refine held_take (i := 0) (v := ?v1) rfl rfl (by kernel_rfl) (by kernel_rfl) (by kernel_rfl) (fun _ _ _ h => h) (Or.inl ⟨by rfl, ?hy1⟩) hHeld ?rest1
            case hy1 => first | (intro w hSw; (try dsimp only at hSw); go_simp; done) | (intro w hSw; (try dsimp only at hSw); go_simp; with_reducible rfl)
            try simp only [List.setIfInBounds_toArray, List.set_cons_zero, List.set_cons_succ]
            refine held_take (i := 2) (v := ?v2) rfl rfl (by kernel_rfl) (by kernel_rfl) (by kernel_rfl) (fun _ _ _ h => h) (Or.inl ⟨by rfl, ?hy2⟩) hHeld ?rest2
            case hy2 => first | (intro w hSw; (try dsimp only at hSw); go_simp; done) | (intro w hSw; (try dsimp only at hSw); go_simp; with_reducible rfl)
            try simp only [List.setIfInBounds_toArray, List.set_cons_zero, List.set_cons_succ]
            refine held_take (i := 4) (v := ?v3) rfl rfl (by kernel_rfl) (by kernel_rfl) (by kernel_rfl) (fun _ _ _ h => h) (Or.inl ⟨by rfl, ?hy3⟩) hHeld ?rest3
            case hy3 => first | (intro w hSw; (try dsimp only at hSw); go_simp; done) | (intro w hSw; (try dsimp only at hSw); go_simp; with_reducible rfl)
            try simp only [List.setIfInBounds_toArray, List.set_cons_zero, List.set_cons_succ]
            refine wpAnyH_ready (rs := [1, 3]) (by kernel_rfl) (by simp) ?_
            refine (AllReadyH.cons rfl (fun K hK => ?c1x1) (AllReadyH.cons rfl (fun K hK => ?c1x3) AllReadyH.nil))
            case c1x1 =>
              go_simp
              refine hK.out _ _ hHeld (fun hHeld => ?_)
              clear hK K
              refine wpAnyH_ready (rs := [3]) (by kernel_rfl) (by simp) ?_
              refine (AllReadyH.cons rfl (fun K hK => ?c2x3) AllReadyH.nil)
              case c2x3 =>
                go_simp
                refine hK.out _ _ hHeld (fun hHeld => ?_)
                clear hK K
                refine wpAnyH_ready (rs := [5]) (by kernel_rfl) (by simp) ?_
                refine (AllReadyH.cons rfl (fun K hK => ?c3x5) AllReadyH.nil)
                case c3x5 =>
                  go_simp
                  go_wp2_with (go_at_call 31; refine (HLET.out _ hKd).mono ?_; rintro e wL ⟨aL, cL, rfl, hbL, hkL⟩)
                  have hKL : Kept wU wL none := hKd.tr hkL
                  obtain ⟨bl, ol, eL, hblt, _⟩ := hbL.at_ hg0
                  subst eL
                  refine hK.out _ _ (hKL.weakS _) (fun hHeld => ?_)
                  clear hK K
                  refine wpAnyH_ready (rs := [6]) (by kernel_rfl) (by simp) ?_
                  refine AllReadyH.cons rfl (fun K hK => ?_) AllReadyH.nil
                  go_simp
                  go_wp2_with (go_at_call 30; refine (HBH.out _ _ _ _ hKL hbL).mono ?_; rintro e w6 ⟨a6, c6, rfl, hsf6, hnw6, hk6⟩)
                  have hK6 : Kept wU w6 none := hKL.tr hk6
                  refine hK.out _ _ (hK6.weakS _) (fun hHeld => ?_)
                  clear hK K
                  have BX6 := HBX.out.kept hK6
                  have d0 := BX6.c0
                  have d1 := BX6.c1
                  have d2 := BX6.c2
                  have e0 := BX6.f0
                  have e1 := BX6.f1
                  have e2 := BX6.f2
                  refine wpAnyH_ready (rs := [7]) (by kernel_rfl) (by simp) ?_
                  refine AllReadyH.cons rfl (fun K hK => ?_) AllReadyH.nil
                  go_simp
                  refine hK.out _ _ (((hHeld.setRow _ _).setRow _ _).setRow _ _) (fun hHeld => ?_)
                  clear hK K
                  refine wpAnyH_done (by kernel_rfl) ?_ _
                  refine ⟨.slice (some ⟨bl, ol, none⟩) S.groups.length cL, .agg #[.slice a6 S.groups.length c6, .int .i64 G'.start, .bool G'.flashed], ?_, HST.out w6 a6 c6 hK6 hsf6 (fun b e => Nat.le_trans hKL.size (hnw6 b e))⟩
                  generalize Value.slice (some ⟨bl, ol, none⟩) S.groups.length cL = u1
                  generalize Value.agg #[.slice a6 S.groups.length c6, .int .i64 G'.start, .bool G'.flashed] = u2
                  with_reducible rfl
            case c1x3 =>
              go_simp
              refine hK.out _ _ hHeld (fun hHeld => ?_)
              clear hK K
              refine wpAnyH_ready (rs := [1, 5]) (by kernel_rfl) (by simp) ?_
              refine (AllReadyH.cons rfl (fun K hK => ?c4x1) (AllReadyH.cons rfl (fun K hK => ?c4x5) AllReadyH.nil))
              case c4x1 =>
                go_simp
                refine hK.out _ _ hHeld (fun hHeld => ?_)
                clear hK K
                refine wpAnyH_ready (rs := [5]) (by kernel_rfl) (by simp) ?_
                refine (AllReadyH.cons rfl (fun K hK => ?c5x5) AllReadyH.nil)
                case c5x5 =>
                  go_simp
                  go_wp2_with (go_at_call 31; refine (HLET.out _ hKd).mono ?_; rintro e wL ⟨aL, cL, rfl, hbL, hkL⟩)
                  have hKL : Kept wU wL none := hKd.tr hkL
                  obtain ⟨bl, ol, eL, hblt, _⟩ := hbL.at_ hg0
                  subst eL
                  refine hK.out _ _ (hKL.weakS _) (fun hHeld => ?_)
                  clear hK K
                  refine wpAnyH_ready (rs := [6]) (by kernel_rfl) (by simp) ?_
                  refine AllReadyH.cons rfl (fun K hK => ?_) AllReadyH.nil
                  go_simp
                  go_wp2_with (go_at_call 30; refine (HBH.out _ _ _ _ hKL hbL).mono ?_; rintro e w6 ⟨a6, c6, rfl, hsf6, hnw6, hk6⟩)
                  have hK6 : Kept wU w6 none := hKL.tr hk6
                  refine hK.out _ _ (hK6.weakS _) (fun hHeld => ?_)
                  clear hK K
                  have BX6 := HBX.out.kept hK6
                  have d0 := BX6.c0
                  have d1 := BX6.c1
                  have d2 := BX6.c2
                  have e0 := BX6.f0
                  have e1 := BX6.f1
                  have e2 := BX6.f2
                  refine wpAnyH_ready (rs := [7]) (by kernel_rfl) (by simp) ?_
                  refine AllReadyH.cons rfl (fun K hK => ?_) AllReadyH.nil
                  go_simp
                  refine hK.out _ _ (((hHeld.setRow _ _).setRow _ _).setRow _ _) (fun hHeld => ?_)
                  clear hK K
                  refine wpAnyH_done (by kernel_rfl) ?_ _
                  refine ⟨.slice (some ⟨bl, ol, none⟩) S.groups.length cL, .agg #[.slice a6 S.groups.length c6, .int .i64 G'.start, .bool G'.flashed], ?_, HST.out w6 a6 c6 hK6 hsf6 (fun b e => Nat.le_trans hKL.size (hnw6 b e))⟩
                  generalize Value.slice (some ⟨bl, ol, none⟩) S.groups.length cL = u1
                  generalize Value.agg #[.slice a6 S.groups.length c6, .int .i64 G'.start, .bool G'.flashed] = u2
                  with_reducible rfl
              case c4x5 =>
                go_simp
                go_wp2_with (go_at_call 31; refine (HLET.out _ hKd).mono ?_; rintro e wL ⟨aL, cL, rfl, hbL, hkL⟩)
                have hKL : Kept wU wL none := hKd.tr hkL
                obtain ⟨bl, ol, eL, hblt, _⟩ := hbL.at_ hg0
                subst eL
                refine hK.out _ _ (hKL.weakS _) (fun hHeld => ?_)
                clear hK K
                refine wpAnyH_ready (rs := [1]) (by kernel_rfl) (by simp) ?_
                refine (AllReadyH.cons rfl (fun K hK => ?c6x1) AllReadyH.nil)
                case c6x1 =>
                  go_simp
                  refine hK.out _ _ hHeld (fun hHeld => ?_)
                  clear hK K
                  refine wpAnyH_ready (rs := [6]) (by kernel_rfl) (by simp) ?_
                  refine AllReadyH.cons rfl (fun K hK => ?_) AllReadyH.nil
                  go_simp
                  go_wp2_with (go_at_call 30; refine (HBH.out _ _ _ _ hKL hbL).mono ?_; rintro e w6 ⟨a6, c6, rfl, hsf6, hnw6, hk6⟩)
                  have hK6 : Kept wU w6 none := hKL.tr hk6
                  refine hK.out _ _ (hK6.weakS _) (fun hHeld => ?_)
                  clear hK K
                  have BX6 := HBX.out.kept hK6
                  have d0 := BX6.c0
                  have d1 := BX6.c1
                  have d2 := BX6.c2
                  have e0 := BX6.f0
                  have e1 := BX6.f1
                  have e2 := BX6.f2
                  refine wpAnyH_ready (rs := [7]) (by kernel_rfl) (by simp) ?_
                  refine AllReadyH.cons rfl (fun K hK => ?_) AllReadyH.nil
                  go_simp
                  refine hK.out _ _ (((hHeld.setRow _ _).setRow _ _).setRow _ _) (fun hHeld => ?_)
                  clear hK K
                  refine wpAnyH_done (by kernel_rfl) ?_ _
                  refine ⟨.slice (some ⟨bl, ol, none⟩) S.groups.length cL, .agg #[.slice a6 S.groups.length c6, .int .i64 G'.start, .bool G'.flashed], ?_, HST.out w6 a6 c6 hK6 hsf6 (fun b e => Nat.le_trans hKL.size (hnw6 b e))⟩
                  generalize Value.slice (some ⟨bl, ol, none⟩) S.groups.length cL = u1
                  generalize Value.agg #[.slice a6 S.groups.length c6, .int .i64 G'.start, .bool G'.flashed] = u2
                  with_reducible rfl
        case cont =>
        intro e a' w' hq'
        obtain ⟨rfl, u1, u2, rfl, htq⟩ := hq'.out
        go_wp2
        go_roundw
        case rel => exact ⟨k + 1, by omega, by go_num, by rw [HGE.out]; exact htq, HE.out⟩
        case measure => simp [intOf]; omega
    · have e : k = 4097 := by omega
      subst e
      obtain ⟨e1, e2⟩ := HN.out HNO.out
      have E1 := Hid.mk' e1
      have E2 := Hid.mk' e2
      have KPW := Hid.mk' htn.kp
      clear e1 e2 htn
      go_wp2
      go_ret2
      exact ⟨by rw [E1.out, E2.out]; rfl, KPW.out⟩
theorem rstps_any {X : Sa} {S : St} {w : World} (h : Sat w X S) (hT : Tabb w) {a : Option Addr} {c : Nat} {F : Sf} (hF : SafeAt w a c F) (p : Int) (hl : F.groups.length ≤ 100) : Calls Tryz.prog 14 #[siteV X S, safeV a c F, .int .i64 p] w fun e w' => e = .returned (.tuple #[.int .i64 (steV S F p), .int .i64 (steE S F p)]) ∧ Kept w w' none := by
  by_cases hz : goesE S F = 0
  · cases hph : phB S p with
    | false =>
      obtain ⟨hs, hg⟩ := goesE_ok hz
      have e1 : steE S F p = 2 := by unfold steE; rw [if_neg (by simp [hz]), if_pos hph]
      have e2 : steV S F p = 0 := by unfold steV; rw [if_neg (by simp [hz]), if_pos hph]
      rw [e1, e2]
      rcases phB_no hph with h1 | ⟨h1, h2⟩
      · exact rstps_arg0 h hT hF p hl hs hg h1
      · exact rstps_arg1 h hT hF p hl hs hg h1 h2
    | true =>
      obtain ⟨q, rfl, hq⟩ := phB_yes hph
      exact rstps_go h hT hF q hl hz hq
  · have e1 : steE S F p = goesE S F := by unfold steE; rw [if_pos hz]
    have e2 : steV S F p = 0 := by unfold steV; rw [if_pos hz]
    rw [e1, e2]
    cases hs : siteB S with
    | false =>
      rw [show goesE S F = 50 by unfold goesE; rw [hs]; rfl]
      exact rstps_no h hT hF p hs
    | true =>
      cases hg : goesV S F with
      | true => exact absurd (by unfold goesE; rw [hs, hg]; rfl) hz
      | false =>
        rw [show goesE S F = 8 by unfold goesE; rw [hs, hg]; rfl]
        exact rstps_bad h hT hF p hl hs hg

end Go.Proofs.YtchjbagipbmcoaaGreatDoor

/-
  THE CONTRACT of the statements' far (made by a program).
-/
namespace Go.Proofs.YtchjbagipbmcoaaGreatDoor
open Go.RowKit Go.Lib Go.Deep
set_option linter.unusedVariables false
set_option linter.unusedSimpArgs false


def farB (S : St) (F : Sf) : Bool := siteB S && (decide (400 < worT S) || decide (200 < F.start))
theorem farB_no {S : St} {F : Sf} (h : farB S F = false) (hs : siteB S = true) : worT S ≤ 400 ∧ F.start ≤ 200 := by
  unfold farB at h
  rw [hs] at h
  simp only [Bool.true_and, Bool.or_eq_false_iff, decide_eq_false_iff_not] at h
  omega
set_option maxRecDepth 100000 in
set_option maxHeartbeats 2000000 in
theorem far_any {X : Sa} {S : St} {w : World} (h : Sat w X S) {a : Option Addr} {c : Nat} {F : Sf} (hF : SafeAt w a c F) : Calls Tryz.prog 5 #[siteV X S, safeV a c F] w fun e w' => e = .returned (.bool (farB S F)) ∧ Kept w w' none := by
  cases hs : siteB S with
  | false =>
    have HV : Hid (farB S F = false) := by show _ = _; unfold farB; rw [hs]; rfl
    have hce : checkE S = 50 := by unfold checkE; rw [hs]; rfl
    obtain ⟨WA, hWA⟩ : ∃ WA, ((w.alloc (.cells #[.int .i64 S.id, .slice X.g S.groups.length X.gc, .slice X.a S.apart.length X.ac, .slice X.b S.between.length X.bc, .slice X.p S.phases.length X.pc, .slice X.e S.eyes.length X.ec, .int .i64 S.watch, .int .i64 S.feed, .int .i64 S.heal, .int .i64 S.low, .int .i64 S.high, .slice X.l S.plans.length X.lc] 29)).alloc (.cells #[.slice a F.groups.length c, .int .i64 F.start, .bool F.flashed] 32)) = WA := ⟨_, rfl⟩
    obtain ⟨HSB, HBN, HSZ, HK, HS, HF, n0_, n1_, n2_, s0_, s1_, s2_, s3_, s4_, s5_, s6_, s7_, s8_, s9_, s10_, s11_⟩ := hd2 h hF hWA
    have hK0 := Kept.refl WA none
    clear h hF
    go_enter Tryz.func5, Tryz.ntmps5
    go_wp2_with (first | rw [hWA] | (go_at_call 16; have hx := rcheck_any HS.out; rw [hce] at hx; refine hx.mono ?_; rintro e wC ⟨rfl, hkC⟩; have hKC : Kept WA wC none := hkC; clear hx))
    go_ret
    exact ⟨by rw [HV.out]; rfl, HK.out.tr hKC⟩
  | true =>
    have hce : checkE S = 0 := by unfold checkE; rw [hs]; rfl
    by_cases h4 : 400 < worT S
    · have HV : Hid (farB S F = true) := by show _ = _; unfold farB; rw [hs, decide_eq_true h4]; rfl
      obtain ⟨WA, hWA⟩ : ∃ WA, ((w.alloc (.cells #[.int .i64 S.id, .slice X.g S.groups.length X.gc, .slice X.a S.apart.length X.ac, .slice X.b S.between.length X.bc, .slice X.p S.phases.length X.pc, .slice X.e S.eyes.length X.ec, .int .i64 S.watch, .int .i64 S.feed, .int .i64 S.heal, .int .i64 S.low, .int .i64 S.high, .slice X.l S.plans.length X.lc] 29)).alloc (.cells #[.slice a F.groups.length c, .int .i64 F.start, .bool F.flashed] 32)) = WA := ⟨_, rfl⟩
      obtain ⟨HSB, HBN, HSZ, HK, HS, HF, n0_, n1_, n2_, s0_, s1_, s2_, s3_, s4_, s5_, s6_, s7_, s8_, s9_, s10_, s11_⟩ := hd2 h hF hWA
      have hK0 := Kept.refl WA none
      clear h hF

      go_enter Tryz.func5, Tryz.ntmps5
      go_wp2_with (first | rw [hWA] | (have hgo := hKC; clear hgo; go_at_call 17; have hx := rturn_yes (HS.out.kept hKC) hs; refine hx.mono ?_; rintro e wD ⟨rfl, hkD⟩; have hKD : Kept WA wD none := hKC.tr hkD; clear hx) | (go_at_call 16; have hx := rcheck_any HS.out; rw [hce] at hx; refine hx.mono ?_; rintro e wC ⟨rfl, hkC⟩; have hKC : Kept WA wC none := hkC; clear hx))
      go_ret
      exact ⟨by rw [HV.out]; rfl, HK.out.tr hKD⟩
    · have h4b : decide (400 < worT S) = false := decide_eq_false h4
      have HV : Hid (farB S F = decide (200 < F.start)) := by show _ = _; unfold farB; rw [hs, h4b]; rfl
      obtain ⟨WA, hWA⟩ : ∃ WA, ((w.alloc (.cells #[.int .i64 S.id, .slice X.g S.groups.length X.gc, .slice X.a S.apart.length X.ac, .slice X.b S.between.length X.bc, .slice X.p S.phases.length X.pc, .slice X.e S.eyes.length X.ec, .int .i64 S.watch, .int .i64 S.feed, .int .i64 S.heal, .int .i64 S.low, .int .i64 S.high, .slice X.l S.plans.length X.lc] 29)).alloc (.cells #[.slice a F.groups.length c, .int .i64 F.start, .bool F.flashed] 32)) = WA := ⟨_, rfl⟩
      obtain ⟨HSB, HBN, HSZ, HK, HS, HF, n0_, n1_, n2_, s0_, s1_, s2_, s3_, s4_, s5_, s6_, s7_, s8_, s9_, s10_, s11_⟩ := hd2 h hF hWA
      have hK0 := Kept.refl WA none
      clear h hF

      go_enter Tryz.func5, Tryz.ntmps5
      go_wp2_with (first | rw [hWA] | (have hgo := hKC; clear hgo; go_at_call 17; have hx := rturn_yes (HS.out.kept hKC) hs; refine hx.mono ?_; rintro e wD ⟨rfl, hkD⟩; have hKD : Kept WA wD none := hKC.tr hkD; clear hx) | (go_at_call 16; have hx := rcheck_any HS.out; rw [hce] at hx; refine hx.mono ?_; rintro e wC ⟨rfl, hkC⟩; have hKC : Kept WA wC none := hkC; clear hx))
      go_ret
      exact ⟨by rw [HV.out]; rfl, HK.out.tr hKD⟩

end Go.Proofs.YtchjbagipbmcoaaGreatDoor

