/-
  THE WALK of PlanLocks (made by a program).
-/
import Derived.Test.YtfhmfanmnhclfaaDoorPlaL
import Derived.Test.YtfhmfanmnhclfaaDoorRefG
namespace Go.Proofs.YtfhmfanmnhclfaaDoor
open Go.RowKit Go.Lib Go.Deep
set_option linter.unusedVariables false
set_option linter.unusedSimpArgs false

set_option maxRecDepth 100000 in
set_option maxHeartbeats 3000000 in
theorem plw_long {X : Sa} {S : St} {w : World} (h : Sat w X S) (hT : Tabb w) {P : Pl} {a : Option Addr} {c : Nat} (hI : Ints w a P.splits.length c P.splits) (hl : 100 < P.splits.length) : Calls Tryd.prog 7 #[siteV X S, planV P a c] w fun e w' => e = .returned (.bool true) ∧ Below w.heap.size w w' := by
  have hl1 : decide ((100 : Int) < (P.splits.length : Int)) = true := by simp <;> omega
  obtain ⟨WA, hWA⟩ : ∃ WA, ((w.alloc (.cells #[.int .i64 S.id, .slice X.g S.groups.length X.gc, .slice X.a S.apart.length X.ac, .slice X.b S.between.length X.bc, .slice X.p S.phases.length X.pc, .slice X.e S.eyes.length X.ec, .int .i64 S.watch, .int .i64 S.feed, .int .i64 S.heal, .int .i64 S.low, .int .i64 S.high, .slice X.l S.plans.length X.lc] 35)).alloc (.cells #[.int .i64 P.cycle, .int .i64 P.offset, .slice a P.splits.length c] 24)) = WA := ⟨_, rfl⟩
  obtain ⟨HSB, HBP, HSZ, HK, HS, HI, p0_, p1_, p2_, s0_, s1_, s2_, s3_, s4_, s5_, s6_, s7_, s8_, s9_, s10_, s11_⟩ := hdp h hI hWA
  have HT := Hid.mk' (hT.kept HK.out)
  have hK0 := Kept.refl WA none
  clear h hT hI
  go_enter Tryd.func7, Tryd.ntmps7
  go_wp2_with (first | rw [hWA] | (go_at_call 13; refine (palive_any HT.out).mono ?_; rintro e wv ⟨rfl, hkv⟩; have hKv : Kept WA wv none := hkv))
  go_at_call 14
  refine (rgreat_any (HS.out.kept hKv)).mono ?_
  rintro e wg ⟨gr, rfl, hgr, hkg⟩
  have hKg : Kept WA wg none := hKv.tr hkg
  clear hgr
  cases gr with
  | true =>
    go_wp2
    go_ret
    exact ⟨rfl, (HK.out.tr hKg).below⟩
  | false =>
    go_wp2
    go_ret
    exact ⟨by simp, (HK.out.tr hKg).below⟩
set_option maxRecDepth 100000 in
set_option maxHeartbeats 3000000 in
theorem plw_cyc {X : Sa} {S : St} {w : World} (h : Sat w X S) (hT : Tabb w) {P : Pl} {a : Option Addr} {c : Nat} (hI : Ints w a P.splits.length c P.splits) (hl : P.splits.length ≤ 100) (hc : 100 < P.cycle) : Calls Tryd.prog 7 #[siteV X S, planV P a c] w fun e w' => e = .returned (.bool true) ∧ Below w.heap.size w w' := by
  have hl1 : decide ((100 : Int) < (P.splits.length : Int)) = false := by simp <;> omega
  have hl2 : decide ((100 : Int) < P.cycle) = true := by simp <;> omega
  obtain ⟨WA, hWA⟩ : ∃ WA, ((w.alloc (.cells #[.int .i64 S.id, .slice X.g S.groups.length X.gc, .slice X.a S.apart.length X.ac, .slice X.b S.between.length X.bc, .slice X.p S.phases.length X.pc, .slice X.e S.eyes.length X.ec, .int .i64 S.watch, .int .i64 S.feed, .int .i64 S.heal, .int .i64 S.low, .int .i64 S.high, .slice X.l S.plans.length X.lc] 35)).alloc (.cells #[.int .i64 P.cycle, .int .i64 P.offset, .slice a P.splits.length c] 24)) = WA := ⟨_, rfl⟩
  obtain ⟨HSB, HBP, HSZ, HK, HS, HI, p0_, p1_, p2_, s0_, s1_, s2_, s3_, s4_, s5_, s6_, s7_, s8_, s9_, s10_, s11_⟩ := hdp h hI hWA
  have HT := Hid.mk' (hT.kept HK.out)
  have hK0 := Kept.refl WA none
  clear h hT hI
  go_enter Tryd.func7, Tryd.ntmps7
  go_wp2_with (first | rw [hWA] | (go_at_call 13; refine (palive_any HT.out).mono ?_; rintro e wv ⟨rfl, hkv⟩; have hKv : Kept WA wv none := hkv))
  go_at_call 14
  refine (rgreat_any (HS.out.kept hKv)).mono ?_
  rintro e wg ⟨gr, rfl, hgr, hkg⟩
  have hKg : Kept WA wg none := hKv.tr hkg
  clear hgr
  cases gr with
  | true =>
    go_wp2
    go_ret
    exact ⟨rfl, (HK.out.tr hKg).below⟩
  | false =>
    go_wp2
    go_ret
    exact ⟨by simp, (HK.out.tr hKg).below⟩
set_option maxRecDepth 100000 in
set_option maxHeartbeats 3000000 in
theorem plw_no {X : Sa} {S : St} {w : World} (h : Sat w X S) (hT : Tabb w) {P : Pl} {a : Option Addr} {c : Nat} (hI : Ints w a P.splits.length c P.splits) (hl : P.splits.length ≤ 100) (hc : P.cycle ≤ 100) (hs : siteB S = false) : Calls Tryd.prog 7 #[siteV X S, planV P a c] w fun e w' => e = .returned (.bool true) ∧ Below w.heap.size w w' := by
  have hl1 : decide ((100 : Int) < (P.splits.length : Int)) = false := by simp <;> omega
  have hl2 : decide ((100 : Int) < P.cycle) = false := by simp <;> omega
  have hE : atE S P 0 = 50 := by unfold atE; rw [hs]; rfl
  have HE := Hid.mk' hE
  obtain ⟨V, hV⟩ : ∃ V, wtV S P 0 = V := ⟨_, rfl⟩
  have HV := Hid.mk' hV
  clear hE hV
  obtain ⟨WA, hWA⟩ : ∃ WA, ((w.alloc (.cells #[.int .i64 S.id, .slice X.g S.groups.length X.gc, .slice X.a S.apart.length X.ac, .slice X.b S.between.length X.bc, .slice X.p S.phases.length X.pc, .slice X.e S.eyes.length X.ec, .int .i64 S.watch, .int .i64 S.feed, .int .i64 S.heal, .int .i64 S.low, .int .i64 S.high, .slice X.l S.plans.length X.lc] 35)).alloc (.cells #[.int .i64 P.cycle, .int .i64 P.offset, .slice a P.splits.length c] 24)) = WA := ⟨_, rfl⟩
  obtain ⟨HSB, HBP, HSZ, HK, HS, HI, p0_, p1_, p2_, s0_, s1_, s2_, s3_, s4_, s5_, s6_, s7_, s8_, s9_, s10_, s11_⟩ := hdp h hI hWA
  have HT := Hid.mk' (hT.kept HK.out)
  have hK0 := Kept.refl WA none
  clear h hT hI
  go_enter Tryd.func7, Tryd.ntmps7
  go_wp2_with (first | rw [hWA] | (go_at_call 13; refine (palive_any HT.out).mono ?_; rintro e wv ⟨rfl, hkv⟩; have hKv : Kept WA wv none := hkv))
  go_at_call 14
  refine (rgreat_any (HS.out.kept hKv)).mono ?_
  rintro e wg ⟨gr, rfl, hgr, hkg⟩
  have hKg : Kept WA wg none := hKv.tr hkg
  clear hgr
  cases gr with
  | true =>
    go_wp2
    go_ret
    exact ⟨rfl, (HK.out.tr hKg).below⟩
  | false =>
    go_wp2_with (first | (have hgo := hKw; clear hgo; go_at_call 22; refine (first_no (HS.out.kept hKw) (HT.out.kept hKw) hs).mono ?_; rintro e wF ⟨rfl, hkF⟩; have hKF : Kept WA wF none := hKw.tr hkF) | (have hgo := hKg; clear hgo; go_at_call 12; have hx := pwan_any (HS.out.kept hKg) (HT.out.kept hKg) (HI.out.kept hKg) 0; rw [HE.out, HV.out] at hx; refine hx.mono ?_; rintro e ww ⟨rfl, hkw⟩; have hKw : Kept WA ww none := hKg.tr hkw; clear hx))
    go_ret
    exact ⟨by simp, (HK.out.tr (hKF.tr (Kept.alloc _ _ _ _ _))).below⟩
set_option maxRecDepth 100000 in
set_option maxHeartbeats 3000000 in
theorem plw_err {X : Sa} {S : St} {w : World} (h : Sat w X S) (hT : Tabb w) {P : Pl} {a : Option Addr} {c : Nat} (hI : Ints w a P.splits.length c P.splits) (hl : P.splits.length ≤ 100) (hc : P.cycle ≤ 100) (hs : siteB S = true) (E : Int) (hE : atE S P 0 = E) (hz : E ≠ 0) : Calls Tryd.prog 7 #[siteV X S, planV P a c] w fun e w' => e = .returned (.bool true) ∧ Below w.heap.size w w' := by
  have hl1 : decide ((100 : Int) < (P.splits.length : Int)) = false := by simp <;> omega
  have hl2 : decide ((100 : Int) < P.cycle) = false := by simp <;> omega
  have HE := Hid.mk' hE
  obtain ⟨V, hV⟩ : ∃ V, wtV S P 0 = V := ⟨_, rfl⟩
  have HV := Hid.mk' hV
  have hEb : (E != 0) = true := by simpa using hz
  have HSI := Hid.mk' hs
  clear hE hV hz hs
  obtain ⟨WA, hWA⟩ : ∃ WA, ((w.alloc (.cells #[.int .i64 S.id, .slice X.g S.groups.length X.gc, .slice X.a S.apart.length X.ac, .slice X.b S.between.length X.bc, .slice X.p S.phases.length X.pc, .slice X.e S.eyes.length X.ec, .int .i64 S.watch, .int .i64 S.feed, .int .i64 S.heal, .int .i64 S.low, .int .i64 S.high, .slice X.l S.plans.length X.lc] 35)).alloc (.cells #[.int .i64 P.cycle, .int .i64 P.offset, .slice a P.splits.length c] 24)) = WA := ⟨_, rfl⟩
  obtain ⟨HSB, HBP, HSZ, HK, HS, HI, p0_, p1_, p2_, s0_, s1_, s2_, s3_, s4_, s5_, s6_, s7_, s8_, s9_, s10_, s11_⟩ := hdp h hI hWA
  have HT := Hid.mk' (hT.kept HK.out)
  have hK0 := Kept.refl WA none
  clear h hT hI
  go_enter Tryd.func7, Tryd.ntmps7
  go_wp2_with (first | rw [hWA] | (go_at_call 13; refine (palive_any HT.out).mono ?_; rintro e wv ⟨rfl, hkv⟩; have hKv : Kept WA wv none := hkv))
  go_at_call 14
  refine (rgreat_any (HS.out.kept hKv)).mono ?_
  rintro e wg ⟨gr, rfl, hgr, hkg⟩
  have hKg : Kept WA wg none := hKv.tr hkg
  clear hgr
  cases gr with
  | true =>
    go_wp2
    go_ret
    exact ⟨rfl, (HK.out.tr hKg).below⟩
  | false =>
    go_wp2_with (first | (have hgo := hKw; clear hgo; go_at_call 22; refine (first_at (HS.out.kept hKw) (HT.out.kept hKw) HSI.out).mono ?_; rintro e wF ⟨b5, rfl, hb5, hsf5, hkF⟩; have hKF : Kept WA (wF.alloc (.cells #[.slice (some ⟨b5, 0, none⟩) S.groups.length S.groups.length, .int .i64 (worstM S), .bool false] 61)) none := (hKw.tr hkF).tr (Kept.alloc _ _ _ _ _); have HF5 := Hid.mk' hsf5; have HSZ5 := Hid.mk' ((hKw.tr hkF).size); clear hsf5) | (have hgo := hKg; clear hgo; go_at_call 12; have hx := pwan_any (HS.out.kept hKg) (HT.out.kept hKg) (HI.out.kept hKg) 0; rw [HE.out, HV.out] at hx; refine hx.mono ?_; rintro e ww ⟨rfl, hkw⟩; have hKw : Kept WA ww none := hKg.tr hkw; clear hx))
    go_ret
    exact ⟨by simp, (HK.out.tr hKF).below⟩
set_option maxRecDepth 100000 in
set_option maxHeartbeats 8000000 in
theorem plw_go {X : Sa} {S : St} {w : World} (h : Sat w X S) (hT : Tabb w) {P : Pl} {a : Option Addr} {c : Nat} (hI : Ints w a P.splits.length c P.splits) (hl : P.splits.length ≤ 100) (hc : P.cycle ≤ 100) (hE : atE S P 0 = 0) : Calls Tryd.prog 7 #[siteV X S, planV P a c] w fun e w' => e = .returned (.bool true) ∧ Below w.heap.size w w' := by
  have hl1 : decide ((100 : Int) < (P.splits.length : Int)) = false := by simp <;> omega
  have hl2 : decide ((100 : Int) < P.cycle) = false := by simp <;> omega
  have HE := Hid.mk' hE
  obtain ⟨V, hV⟩ : ∃ V, wtV S P 0 = V := ⟨_, rfl⟩
  have HV := Hid.mk' hV
  obtain ⟨hs, hpm, _⟩ := atE_ok hE
  have hpf := plan_facts hpm
  have HCY : Hid (1 ≤ P.cycle) := by
    have h1 := pre_tot hs hpf
    show 1 ≤ P.cycle
    omega
  have HSI := Hid.mk' hs
  have HPM := Hid.mk' hpm
  have HSAT := Hid.mk' h
  have HTAB := Hid.mk' hT
  have HI0 := Hid.mk' hI
  clear hE hV hs hpm hpf
  obtain ⟨WA, hWA⟩ : ∃ WA, ((w.alloc (.cells #[.int .i64 S.id, .slice X.g S.groups.length X.gc, .slice X.a S.apart.length X.ac, .slice X.b S.between.length X.bc, .slice X.p S.phases.length X.pc, .slice X.e S.eyes.length X.ec, .int .i64 S.watch, .int .i64 S.feed, .int .i64 S.heal, .int .i64 S.low, .int .i64 S.high, .slice X.l S.plans.length X.lc] 35)).alloc (.cells #[.int .i64 P.cycle, .int .i64 P.offset, .slice a P.splits.length c] 24)) = WA := ⟨_, rfl⟩
  obtain ⟨HSB, HBP, HSZ, HK, HS, HI, p0_, p1_, p2_, s0_, s1_, s2_, s3_, s4_, s5_, s6_, s7_, s8_, s9_, s10_, s11_⟩ := hdp h hI hWA
  have HT := Hid.mk' (hT.kept HK.out)
  have hK0 := Kept.refl WA none
  clear h hT hI
  go_enter Tryd.func7, Tryd.ntmps7
  go_wp2_with (first | rw [hWA] | (go_at_call 13; refine (palive_any HT.out).mono ?_; rintro e wv ⟨rfl, hkv⟩; have hKv : Kept WA wv none := hkv))
  go_at_call 14
  refine (rgreat_any (HS.out.kept hKv)).mono ?_
  rintro e wg ⟨gr, rfl, hgr, hkg⟩
  have hKg : Kept WA wg none := hKv.tr hkg
  clear hgr
  cases gr with
  | true =>
    go_wp2
    go_ret
    exact ⟨rfl, (HK.out.tr hKg).below⟩
  | false =>
    go_wp2_with (first | (have hgo := hKw; clear hgo; go_at_call 22; refine (first_at (HS.out.kept hKw) (HT.out.kept hKw) HSI.out).mono ?_; rintro e wF ⟨b5, rfl, hb5, hsf5, hkF⟩; have hKF : Kept WA (wF.alloc (.cells #[.slice (some ⟨b5, 0, none⟩) S.groups.length S.groups.length, .int .i64 (worstM S), .bool false] 61)) none := (hKw.tr hkF).tr (Kept.alloc _ _ _ _ _); have HF5 := Hid.mk' hsf5; have HSZ5 := Hid.mk' ((hKw.tr hkF).size); clear hsf5) | (have hgo := hKg; clear hgo; go_at_call 12; have hx := pwan_any (HS.out.kept hKg) (HT.out.kept hKg) (HI.out.kept hKg) 0; rw [HE.out, HV.out] at hx; refine hx.mono ?_; rintro e ww ⟨rfl, hkw⟩; have hKw : Kept WA ww none := hKg.tr hkw; clear hx))
    have k5 : Kept wF (wF.alloc (.cells #[.slice (some ⟨b5, 0, none⟩) S.groups.length S.groups.length, .int .i64 (worstM S), .bool false] 61)) none := Kept.alloc _ _ _ _ _
    have bx5 := box_alloc wF (.slice (some ⟨b5, 0, none⟩) S.groups.length S.groups.length) (.int .i64 (worstM S)) (.bool false) 61
    obtain ⟨w5, hw5⟩ : ∃ w5, wF.alloc (.cells #[.slice (some ⟨b5, 0, none⟩) S.groups.length S.groups.length, .int .i64 (worstM S), .bool false] 61) = w5 := ⟨_, rfl⟩
    rw [hw5] at k5 bx5 hKF ⊢
    have HB5 := Hid.mk' bx5
    have HK5 := Hid.mk' k5
    clear bx5 k5
    go_at_call 23
    refine (pshort_any (HS.out.kept hKF) HSI.out).mono ?_
    rintro e ws ⟨⟨v, rfl, hv⟩, hks⟩
    have hKs : Kept WA ws none := hKF.tr hks
    cases v with
    | false =>
      go_wp2
      go_ret
      exact ⟨by simp, (HK.out.tr hKs).below⟩
    | true =>
      have HSH := Hid.mk' (hv rfl)
      obtain ⟨bn, hbn⟩ : ∃ bn, wF.heap.size = bn := ⟨_, rfl⟩
      have hz2 := HSZ.out
      have hz5 := HSZ5.out
      have HD : Hid (Td17 w w.heap.size (w.heap.size + 1) bn) := ⟨by omega, by omega, by omega⟩
      have hbx := HB5.out.kept hks
      rw [hbn] at hbx
      have hf5 := (HF5.out.kept HK5.out).kept hks
      have hlt5 : b5 < bn := by
        obtain ⟨bf, off, ea, hbf, _⟩ := HF5.out.lie.at_ (by have := (span_may HSI.out).base.sh.ok.ng; have := firstV_len S; omega)
        injection ea with ea
        injection ea with ea
        omega
      have HT0 : Hid (Tl w ws X S P a c w.heap.size (w.heap.size + 1) bn (rnT S P 0)) := ⟨HK.out.tr hKs, HSB.out.kept hKs, HBP.out.kept hKs, some ⟨b5, 0, none⟩, S.groups.length, hbx, hf5, fun b e => by injection e with e; subst e; show b5 ≠ bn; omega⟩
      have hcy := HCY.out
      rw [hbn]
      clear hbx hf5 hv hks hKs hkF hKF hkw hKw hkg hKg hkv hKv hz2 hz5 hlt5 s0_ s1_ s2_ s3_ s4_ s5_ s6_ s7_ s8_ s9_ s10_ s11_ hK0 hw5 hb5
      have n0 := HT0.out.pb.c0
      clear n0
      go_wp2
      go_loopw [10, 11, 12, 13, 14, 15, 16, 17, 18, 19, 20, 21, 22, 23, 24, 25, 26] (fun tm i _ _ _ _ _ _ _ _ _ _ _ _ _ _ _ wr => ∃ k : Nat, (k : Int) ≤ 4 * P.cycle ∧ i = .int .i64 k ∧ tm = .int .i64 (tmT S P k : Int) ∧ Tl w wr X S P a c w.heap.size (w.heap.size + 1) bn (rnT S P k)) (fun _ i _ _ _ _ _ _ _ _ _ _ _ _ _ _ _ _ => (4 * P.cycle).toNat - (intOf i).toNat)
      case atStart => exact ⟨0, by omega, rfl, rfl, HT0.out⟩
      case round =>
        obtain ⟨k, hk, rfl, rfl, htn⟩ := hrel
        obtain ⟨ag, cg, hb, hsf, hne⟩ := htn.bx
        have HTN := Hid.mk' htn
        have HBN := Hid.mk' hb
        have HSW := Hid.mk' htn.sb
        have HPB := Hid.mk' htn.pb
        have KPW := Hid.mk' htn.kp
        have hltN := hb.lt
        have hK0' := Kept.refl wr none
        have s0_ : ∀ w', Kept wr w' none → w'.cell? ⟨w.heap.size, 0, none⟩ = some (.int .i64 S.id) := fun w' q => (HSW.out.kept q).c0
        have s1_ : ∀ w', Kept wr w' none → w'.cell? ⟨w.heap.size, 1, none⟩ = some (.slice X.g S.groups.length X.gc) := fun w' q => (HSW.out.kept q).c1
        have s2_ : ∀ w', Kept wr w' none → w'.cell? ⟨w.heap.size, 2, none⟩ = some (.slice X.a S.apart.length X.ac) := fun w' q => (HSW.out.kept q).c2
        have s3_ : ∀ w', Kept wr w' none → w'.cell? ⟨w.heap.size, 3, none⟩ = some (.slice X.b S.between.length X.bc) := fun w' q => (HSW.out.kept q).c3
        have s4_ : ∀ w', Kept wr w' none → w'.cell? ⟨w.heap.size, 4, none⟩ = some (.slice X.p S.phases.length X.pc) := fun w' q => (HSW.out.kept q).c4
        have s5_ : ∀ w', Kept wr w' none → w'.cell? ⟨w.heap.size, 5, none⟩ = some (.slice X.e S.eyes.length X.ec) := fun w' q => (HSW.out.kept q).c5
        have s6_ : ∀ w', Kept wr w' none → w'.cell? ⟨w.heap.size, 6, none⟩ = some (.int .i64 S.watch) := fun w' q => (HSW.out.kept q).c6
        have s7_ : ∀ w', Kept wr w' none → w'.cell? ⟨w.heap.size, 7, none⟩ = some (.int .i64 S.feed) := fun w' q => (HSW.out.kept q).c7
        have s8_ : ∀ w', Kept wr w' none → w'.cell? ⟨w.heap.size, 8, none⟩ = some (.int .i64 S.heal) := fun w' q => (HSW.out.kept q).c8
        have s9_ : ∀ w', Kept wr w' none → w'.cell? ⟨w.heap.size, 9, none⟩ = some (.int .i64 S.low) := fun w' q => (HSW.out.kept q).c9
        have s10_ : ∀ w', Kept wr w' none → w'.cell? ⟨w.heap.size, 10, none⟩ = some (.int .i64 S.high) := fun w' q => (HSW.out.kept q).c10
        have s11_ : ∀ w', Kept wr w' none → w'.cell? ⟨w.heap.size, 11, none⟩ = some (.slice X.l S.plans.length X.lc) := fun w' q => (HSW.out.kept q).c11
        have p0_ : ∀ w', Kept wr w' none → w'.cell? ⟨w.heap.size + 1, 0, none⟩ = some (.int .i64 P.cycle) := fun w' q => (HPB.out.kept q).c0
        have p1_ : ∀ w', Kept wr w' none → w'.cell? ⟨w.heap.size + 1, 1, none⟩ = some (.int .i64 P.offset) := fun w' q => (HPB.out.kept q).c1
        have p2_ : ∀ w', Kept wr w' none → w'.cell? ⟨w.heap.size + 1, 2, none⟩ = some (.slice a P.splits.length c) := fun w' q => (HPB.out.kept q).c2
        have n0_ : ∀ w', Kept wr w' none → w'.cell? ⟨bn, 0, none⟩ = some (.slice ag S.groups.length cg) := fun w' q => (HBN.out.kept q).c0
        have n1_ : ∀ w', Kept wr w' none → w'.cell? ⟨bn, 1, none⟩ = some (.int .i64 (rnT S P k).start) := fun w' q => (HBN.out.kept q).c1
        have n2_ : ∀ w', Kept wr w' none → w'.cell? ⟨bn, 2, none⟩ = some (.bool (rnT S P k).flashed) := fun w' q => (HBN.out.kept q).c2
        by_cases hlt : (k : Int) < 4 * P.cycle
        · have hgo := goT (P := P) HSI.out k
          have hfl : (rnT S P k).groups.length = S.groups.length := (mayS_parts (goes_parts hgo).1).1
          have hfl2 : (rnT S P (k + 1)).groups.length = S.groups.length := (mayS_parts (goes_parts (goT (P := P) HSI.out (k + 1))).1).1
          have hph := ph_ltT HSI.out HPM.out k
          have hwt := wt_ltT HSI.out HPM.out k
          have hk9 : k ≤ 1073741824 := by omega
          have HAT : Hid (∀ w', Kept wr w' none → Calls Tryd.prog 11 #[siteV X S, planV P a c, .int .i64 (k : Int)] w' fun e w2 => e = .returned (.tuple #[.int .i64 (phT P k : Int), .int .i64 (inT P k : Int), .int .i64 0]) ∧ Kept w' w2 none) := fun w' q => pat_go (htn.sb.sat.kept q) ((HTAB.out.kept htn.kp).kept q) ((HI0.out.kept htn.kp).kept q) k HSI.out HPM.out hk9
          have HWA : Hid (∀ w', Kept wr w' none → Calls Tryd.prog 12 #[siteV X S, planV P a c, .int .i64 (k : Int)] w' fun e w2 => e = .returned (.tuple #[.int .i64 (wtN S P k : Int), .int .i64 0]) ∧ Kept w' w2 none) := fun w' q => pwan_go (htn.sb.sat.kept q) ((HTAB.out.kept htn.kp).kept q) ((HI0.out.kept htn.kp).kept q) k HSI.out HPM.out hk9
          have HAS : Hid (∀ w', Kept wr w' none → Calls Tryd.prog 24 #[siteV X S, .int .i64 (wtN S P k : Int)] w' fun e w2 => ∃ b, e = .returned (.tuple #[.slice (some ⟨b, 0, none⟩) S.groups.length S.groups.length, .int .i64 0]) ∧ w2.rowIs b 5 S.groups.length (fun i => .int .u8 ((lg (askV S (wtN S P k)) i : Nat) : Int)) ∧ Kept w' w2 none) := fun w' q => by
            refine (tasks_go (htn.sb.sat.kept q) ((HTAB.out.kept htn.kp).kept q) _ HSI.out hwt).mono ?_
            rintro e w2 ⟨b, rfl, _, h2, h3⟩
            exact ⟨b, rfl, h2, h3⟩
          have HAD : Hid (∀ w' b, Kept wr w' none → w'.rowIs b 5 S.groups.length (fun i => .int .u8 ((lg (askV S (wtN S P k)) i : Nat) : Int)) → Calls Tryd.prog 25 #[siteV X S, .agg #[.slice ag S.groups.length cg, .int .i64 (rnT S P k).start, .bool (rnT S P k).flashed], .slice (some ⟨b, 0, none⟩) S.groups.length S.groups.length] w' fun e w2 => ∃ b2, e = .returned (.tuple #[.slice (some ⟨b2, 0, none⟩) S.groups.length S.groups.length, .int .i64 0]) ∧ By w2 (some ⟨b2, 0, none⟩) S.groups.length (letV S (rnT S P k) (askV S (wtN S P k))) ∧ Kept w' w2 none) := fun w' b q hr => tadm_at (htn.sb.sat.kept q) ((HTAB.out.kept htn.kp).kept q) (hsf.kept q) hr HSI.out hgo
          have HNX : Hid (∀ w' b, Kept wr w' none → By w' (some ⟨b, 0, none⟩) S.groups.length (letV S (rnT S P k) (askV S (wtN S P k))) → Calls Tryd.prog 26 #[siteV X S, .agg #[.slice ag S.groups.length cg, .int .i64 (rnT S P k).start, .bool (rnT S P k).flashed], .slice (some ⟨b, 0, none⟩) S.groups.length S.groups.length] w' fun e w2 => ∃ b2, e = .returned (.tuple #[.agg #[.slice (some ⟨b2, 0, none⟩) S.groups.length S.groups.length, .int .i64 (rnT S P (k + 1)).start, .bool (rnT S P (k + 1)).flashed], .int .u8 0, .int .i64 0]) ∧ w'.heap.size ≤ b2 ∧ SafeAt w2 (some ⟨b2, 0, none⟩) S.groups.length (rnT S P (k + 1)) ∧ Kept w' w2 none) := fun w' b q hB => tnxt_at (htn.sb.sat.kept q) ((HTAB.out.kept htn.kp).kept q) (hsf.kept q) hB HSI.out hgo
          have HFU : Hid (∀ w' b2, Kept wr w' none → SafeAt w' (some ⟨b2, 0, none⟩) S.groups.length (rnT S P (k + 1)) → Calls Tryd.prog 27 #[siteV X S, .agg #[.slice (some ⟨b2, 0, none⟩) S.groups.length S.groups.length, .int .i64 (rnT S P (k + 1)).start, .bool (rnT S P (k + 1)).flashed], .int .i64 (phT P k : Int)] w' fun e w2 => e = .returned (.tuple #[.bool (fullB S (rnT S P (k + 1)) (phT P k)), .int .i64 0]) ∧ Kept w' w2 none) := fun w' b2 q hs2 => tful_at (htn.sb.sat.kept q) ((HTAB.out.kept htn.kp).kept q) hs2 HSI.out hfl2 hph
          have HST : Hid (∀ w7 b2, Kept wr w7 none → SafeAt w7 (some ⟨b2, 0, none⟩) S.groups.length (rnT S P (k + 1)) → wr.heap.size ≤ b2 → Tl w (((w7.setCell ⟨bn, 0, none⟩ (.slice (some ⟨b2, 0, none⟩) S.groups.length S.groups.length)).setCell ⟨bn, 1, none⟩ (.int .i64 (rnT S P (k + 1)).start)).setCell ⟨bn, 2, none⟩ (.bool (rnT S P (k + 1)).flashed)) X S P a c w.heap.size (w.heap.size + 1) bn (rnT S P (k + 1))) := fun w7 b2 q hs2 hb2 => htn.step HD.out HSAT.out q hs2 hb2
          have HIN : Hid (inT P k ≠ 0 → tmT S P (k + 1) = tmT S P k) := tmT_in
          have HYES : Hid (inT P k = 0 → fullB S (rnT S P (k + 1)) (phT P k) = true → tmT S P (k + 1) = tmT S P k + 1) := tmT_yes
          have HNO : Hid (inT P k = 0 → fullB S (rnT S P (k + 1)) (phT P k) = false → tmT S P (k + 1) = 0) := tmT_no
          have HLK : Hid (S.phases.length ≤ tmT S P k → wtN S P k = phT P k → fullB S (rnT S P (k + 1)) (phT P k) = true) := fun h1 h2 => locksT HSI.out HPM.out HSH.out h1 h2
          have htl := tmT_le S P k
          clear htn hb hsf hne hgo hfl hfl2
          obtain ⟨G', hG'⟩ : ∃ G', rnT S P (k + 1) = G' := ⟨_, rfl⟩
          rw [hG'] at HNX HST HFU HYES HNO HLK
          have HGE := Hid.mk' hG'
          clear hG'
          generalize rnT S P k = G at *
          generalize wtN S P k = wt at *
          generalize tmT S P k = tm at *
          generalize phT P k = ph at *
          generalize inT P k = x at *
          obtain ⟨FB, hFB⟩ : ∃ FB, fullB S G' ph = FB := ⟨_, rfl⟩
          rw [hFB] at HFU HYES HNO HLK
          clear hFB
          go_wp2_with (first | (have hgo := HBY; clear hgo; go_at_call 26; refine (HNX.out _ _ hKL HBY.out).mono ?_; rintro e w6 ⟨b2, rfl, hb2, hs6, hk6⟩; have k6 : Kept w6 (w6.alloc (.cells #[.slice (some ⟨b2, 0, none⟩) S.groups.length S.groups.length, .int .i64 G'.start, .bool G'.flashed] 61)) none := Kept.alloc _ _ _ _ _; have bx6 := box_alloc w6 (.slice (some ⟨b2, 0, none⟩) S.groups.length S.groups.length) (.int .i64 G'.start) (.bool G'.flashed) 61; obtain ⟨w7, hw7⟩ : ∃ w7, w6.alloc (.cells #[.slice (some ⟨b2, 0, none⟩) S.groups.length S.groups.length, .int .i64 G'.start, .bool G'.flashed] 61) = w7 := ⟨_, rfl⟩; rw [hw7] at k6 bx6; have hK7 : Kept wr w7 none := (hKL.tr hk6).tr k6; have HS7 := Hid.mk' (hs6.kept k6); have HB6 := Hid.mk' bx6; have x0_ : ∀ w', Kept w7 w' none → w'.cell? ⟨w6.heap.size, 0, none⟩ = some (.slice (some ⟨b2, 0, none⟩) S.groups.length S.groups.length) := fun w' q => (HB6.out.kept q).c0; have x1_ : ∀ w', Kept w7 w' none → w'.cell? ⟨w6.heap.size, 1, none⟩ = some (.int .i64 G'.start) := fun w' q => (HB6.out.kept q).c1; have x2_ : ∀ w', Kept w7 w' none → w'.cell? ⟨w6.heap.size, 2, none⟩ = some (.bool G'.flashed) := fun w' q => (HB6.out.kept q).c2; have hx7 := Kept.refl w7 none; have HB2 := Hid.mk' (Nat.le_trans hKL.size hb2); have hl6 : bn < w6.heap.size := Nat.lt_of_lt_of_le hltN (hKL.tr hk6).size; clear hs6 bx6 k6) | rw [hw7] | (have hgo := HRW; clear hgo; go_at_call 25; refine (HAD.out _ _ hKA HRW.out).mono ?_; rintro e wL ⟨bL, rfl, hbyL, hkL⟩; have hKL : Kept wr wL none := hKA.tr hkL; have HBY := Hid.mk' hbyL; clear hbyL) | (have hgo := hKW; clear hgo; go_at_call 24; refine (HAS.out _ hKW).mono ?_; rintro e wA ⟨bq, rfl, hrA, hkA⟩; have hKA : Kept wr wA none := hKW.tr hkA; have HRW := Hid.mk' hrA; clear hrA) | (have hgo := hKT; clear hgo; go_at_call 12; refine (HWA.out _ hKT).mono ?_; rintro e wW ⟨rfl, hkW⟩; have hKW : Kept wr wW none := hKT.tr hkW) | (go_at_call 11; refine (HAT.out _ hK0').mono ?_; rintro e wT ⟨rfl, hkT⟩; have hKT : Kept wr wT none := hkT))
          go_at_call 27
          refine (HFU.out _ _ hK7 HS7.out).mono ?_
          rintro e w8 ⟨rfl, hk8⟩
          have hK8 : Kept wr w8 none := hK7.tr hk8
          have HS8 := Hid.mk' (HS7.out.kept hk8)
          have z0 := (HBN.out.kept hK8).f0
          have z1 := (HBN.out.kept hK8).f1
          have z2 := (HBN.out.kept hK8).f2
          have v0 := (HBN.out.kept hK8).c0
          have v1 := (HBN.out.kept hK8).c1
          have v2 := (HBN.out.kept hK8).c2
          have u0 := (HB6.out.kept hk8).c0
          have u1 := (HB6.out.kept hk8).c1
          have u2 := (HB6.out.kept hk8).c2
          have hne6 : w6.heap.size ≠ bn := by omega
          clear n0_ n1_ n2_ hkT hKT hkW hKW hkA hKA hkL hKL hk6 hx7 x0_ x1_ x2_ hK7 hw7
          by_cases hx : x = 0
          · subst hx
            replace HYES := Hid.mk' (HYES.out rfl)
            replace HNO := Hid.mk' (HNO.out rfl)
            clear HIN
            cases FB with
            | true =>
              replace HYES := Hid.mk' (HYES.out rfl)
              clear HNO
              go_wp2
              all_goals
                first
                | exact absurd (HLK.out (by omega) (by omega)) (by decide)
                | (go_roundw
                   case rel => exact ⟨k + 1, by omega, by go_num, by rw [HYES.out]; try go_num, by rw [HGE.out]; exact HST.out w8 b2 hK8 HS8.out HB2.out⟩
                   case measure => simp [intOf]; omega)
            | false =>
              replace HNO := Hid.mk' (HNO.out rfl)
              clear HYES
              go_wp2
              all_goals
                first
                | exact absurd (HLK.out (by omega) (by omega)) (by decide)
                | (go_roundw
                   case rel => exact ⟨k + 1, by omega, by go_num, by rw [HNO.out]; try go_num, by rw [HGE.out]; exact HST.out w8 b2 hK8 HS8.out HB2.out⟩
                   case measure => simp [intOf]; omega)
          · have hxb : ((x : Int) == 0) = false := by simp <;> omega
            replace HIN := Hid.mk' (HIN.out hx)
            clear HYES HNO hx
            cases FB with
            | true =>
              go_wp2
              all_goals
                first
                | exact absurd (HLK.out (by omega) (by omega)) (by decide)
                | (go_roundw
                   case rel => exact ⟨k + 1, by omega, by go_num, by rw [HIN.out]; try go_num, by rw [HGE.out]; exact HST.out w8 b2 hK8 HS8.out HB2.out⟩
                   case measure => simp [intOf]; omega)
            | false =>
              go_wp2
              all_goals
                first
                | exact absurd (HLK.out (by omega) (by omega)) (by decide)
                | (go_roundw
                   case rel => exact ⟨k + 1, by omega, by go_num, by rw [HIN.out]; try go_num, by rw [HGE.out]; exact HST.out w8 b2 hK8 HS8.out HB2.out⟩
                   case measure => simp [intOf]; omega)
        · clear htn hb hsf hne
          go_wp2
          go_ret
          exact ⟨rfl, KPW.out.below⟩

theorem plw_any {X : Sa} {S : St} {w : World} (h : Sat w X S) (hT : Tabb w) {P : Pl} {a : Option Addr} {c : Nat} (hI : Ints w a P.splits.length c P.splits) : Calls Tryd.prog 7 #[siteV X S, planV P a c] w fun e w' => e = .returned (.bool true) ∧ Below w.heap.size w w' := by
  by_cases hl : P.splits.length ≤ 100
  · by_cases hc : P.cycle ≤ 100
    · by_cases he : atE S P 0 = 0
      · exact plw_go h hT hI hl hc he
      · cases hs : siteB S with
        | false => exact plw_no h hT hI hl hc hs
        | true => exact plw_err h hT hI hl hc hs _ rfl he
    · exact plw_cyc h hT hI hl (by omega)
  · exact plw_long h hT hI (by omega)

end Go.Proofs.YtfhmfanmnhclfaaDoor
