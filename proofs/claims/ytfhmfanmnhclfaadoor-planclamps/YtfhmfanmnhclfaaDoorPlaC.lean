/-
  THE WALK of PlanClamps (made by a program).
-/
import Derived.Test.YtfhmfanmnhclfaaDoorPlaA
import Derived.Test.YtfhmfanmnhclfaaDoorRefG
namespace Go.Proofs.YtfhmfanmnhclfaaDoor
open Go.RowKit Go.Lib Go.Deep
set_option linter.unusedVariables false
set_option linter.unusedSimpArgs false


theorem near_len (S : St) (P : Pl) : (nearP S P).splits.length = S.phases.length := by simp [nearP]
theorem spl_rng {S : St} (hs : siteB S = true) (P : Pl) : ∀ i, i < S.phases.length → i64B (splC S P i) := fun i hi => by
  have h := near_may hs P
  have h1 := h.sp i hi
  have h2 := partM_ge hs hi
  have h3 := sumF_one (f := fun k => (nearP S P).splits.getD k 0) (n := S.phases.length) (i := i) (fun k hk => by have := h.sp k hk; have := partM_ge hs hk; omega) hi
  have h4 := h.tot
  have h5 := h.hi
  have h6 := cyc_facts hs
  rw [near_get hi] at h1 h3
  unfold i64B
  omega
theorem near_off {S : St} (hs : siteB S = true) (P : Pl) : i64B (nearP S P).offset := by
  have h := near_may hs P
  have := h.o0
  have := h.o1
  have := h.hi
  have := cyc_facts hs
  unfold i64B
  omega
theorem pclampP {X : Sa} {S : St} {w : World} (h : Sat w X S) (hT : Tabb w) {P : Pl} {a : Option Addr} {c : Nat} (hI : Ints w a P.splits.length c P.splits) (hO : i64B P.offset) (hs : siteB S = true) : Calls Tryd.prog 8 #[siteV X S, planV P a c] w fun e w' => ∃ g cp, e = .returned (.tuple #[planV (nearP S P) (some ⟨g, 0, none⟩) cp, .int .i64 0]) ∧ w.heap.size ≤ g ∧ Ints w' (some ⟨g, 0, none⟩) (nearP S P).splits.length cp (nearP S P).splits ∧ RowI w' g S.phases.length cp (splC S P) ∧ Kept w w' none := by
  refine (pclamp_yes h hT hI hO hs).mono ?_
  rintro e w' ⟨g, cp, rfl, hg, hR, hk⟩
  have hx := RowI.map hR (spl_rng hs P)
  refine ⟨g, cp, ?_, hg, ?_, hR, hk⟩
  · rw [planV, near_len]; rfl
  · rw [near_len]; exact hx
set_option maxRecDepth 100000 in
set_option maxHeartbeats 4000000 in
theorem pclw_long {X : Sa} {S : St} {w : World} (h : Sat w X S) (hT : Tabb w) {P : Pl} {a : Option Addr} {c : Nat} (hI : Ints w a P.splits.length c P.splits) (hl : 100 < P.splits.length) : Calls Tryd.prog 5 #[siteV X S, planV P a c] w fun e w' => e = .returned (.bool true) ∧ Below w.heap.size w w' := by
  have hlb : decide ((100 : Int) < (P.splits.length : Int)) = true := by simp; omega
  obtain ⟨WA, hWA⟩ : ∃ WA, ((w.alloc (.cells #[.int .i64 S.id, .slice X.g S.groups.length X.gc, .slice X.a S.apart.length X.ac, .slice X.b S.between.length X.bc, .slice X.p S.phases.length X.pc, .slice X.e S.eyes.length X.ec, .int .i64 S.watch, .int .i64 S.feed, .int .i64 S.heal, .int .i64 S.low, .int .i64 S.high, .slice X.l S.plans.length X.lc] 35)).alloc (.cells #[.int .i64 P.cycle, .int .i64 P.offset, .slice a P.splits.length c] 24)) = WA := ⟨_, rfl⟩
  obtain ⟨HSB, HBP, HSZ, HK, HS, HI, p0_, p1_, p2_, s0_, s1_, s2_, s3_, s4_, s5_, s6_, s7_, s8_, s9_, s10_, s11_⟩ := hdp h hI hWA
  have HT := Hid.mk' (hT.kept HK.out)
  have hK0 := Kept.refl WA none
  clear h hT hI
  go_enter Tryd.func5, Tryd.ntmps5
  go_wp2_with (first | rw [hWA] | (go_at_call 13; refine (palive_any HT.out).mono ?_; rintro e wv ⟨rfl, hkv⟩; have hKv : Kept WA wv none := hkv))
  go_at_call 14
  refine (rgreat_any (HS.out.kept hKv)).mono ?_
  rintro e wg ⟨gr, rfl, hgr, hkg⟩
  have hKg : Kept WA wg none := hKv.tr hkg
  clear hgr
  cases gr with
  | true =>
    go_wp2
    go_ret
    exact ⟨rfl, (HK.out.tr hKg).below⟩
  | false =>
    go_wp2
    go_ret
    exact ⟨rfl, (HK.out.tr hKg).below⟩
set_option maxRecDepth 100000 in
set_option maxHeartbeats 4000000 in
theorem pclw_no {X : Sa} {S : St} {w : World} (h : Sat w X S) (hT : Tabb w) {P : Pl} {a : Option Addr} {c : Nat} (hI : Ints w a P.splits.length c P.splits) (hl : P.splits.length ≤ 100) (hsn : siteB S = false) : Calls Tryd.prog 5 #[siteV X S, planV P a c] w fun e w' => e = .returned (.bool true) ∧ Below w.heap.size w w' := by
  have hlb : decide ((100 : Int) < (P.splits.length : Int)) = false := by simp; omega
  have hs := hsn
  have hce : checkE S = 50 := by unfold checkE; rw [hs]; rfl
  obtain ⟨WA, hWA⟩ : ∃ WA, ((w.alloc (.cells #[.int .i64 S.id, .slice X.g S.groups.length X.gc, .slice X.a S.apart.length X.ac, .slice X.b S.between.length X.bc, .slice X.p S.phases.length X.pc, .slice X.e S.eyes.length X.ec, .int .i64 S.watch, .int .i64 S.feed, .int .i64 S.heal, .int .i64 S.low, .int .i64 S.high, .slice X.l S.plans.length X.lc] 35)).alloc (.cells #[.int .i64 P.cycle, .int .i64 P.offset, .slice a P.splits.length c] 24)) = WA := ⟨_, rfl⟩
  obtain ⟨HSB, HBP, HSZ, HK, HS, HI, p0_, p1_, p2_, s0_, s1_, s2_, s3_, s4_, s5_, s6_, s7_, s8_, s9_, s10_, s11_⟩ := hdp h hI hWA
  have HT := Hid.mk' (hT.kept HK.out)
  have hK0 := Kept.refl WA none
  clear h hT hI
  go_enter Tryd.func5, Tryd.ntmps5
  go_wp2_with (first | rw [hWA] | (go_at_call 13; refine (palive_any HT.out).mono ?_; rintro e wv ⟨rfl, hkv⟩; have hKv : Kept WA wv none := hkv))
  go_at_call 14
  refine (rgreat_any (HS.out.kept hKv)).mono ?_
  rintro e wg ⟨gr, rfl, hgr, hkg⟩
  have hKg : Kept WA wg none := hKv.tr hkg
  clear hgr
  cases gr with
  | true =>
    go_wp2
    go_ret
    exact ⟨rfl, (HK.out.tr hKg).below⟩
  | false =>
    go_wp2_with (first | (have hgo := hS9; clear hgo; go_at_call 20; have hx := check_any (HS.out.kept hKs) (HT.out.kept hKs); rw [hce] at hx; refine hx.mono ?_; rintro e wc ⟨rfl, hkc⟩; have hKc : Kept WA wc none := hKs.tr hkc; clear hx) | (have hgo := hX0; clear hgo; go_at_call 19; rw [HWB9.out]; refine (psame_yes (P := ⟨0, 0, []⟩) (ints_nil _) (ints_nil _)).mono ?_; rintro e ws ⟨rfl, hks⟩; have hKs : Kept WA ws none := hKb.tr hks; have hS9 := True.intro) | (have hgo := hKg; clear hgo; go_at_call 8; refine (pclamp_no (HS.out.kept hKg) (HT.out.kept hKg) (HI.out.kept hKg) hsn).mono ?_; rintro e w2 ⟨rfl, hk2⟩; have k3 : Kept w2 (w2.alloc (.cells #[.int .i64 0, .int .i64 0, .slice none 0 0] 24)) none := Kept.alloc _ _ _ _ _; have b3 := box_alloc w2 (.int .i64 0) (.int .i64 0) (.slice none 0 0) 24; obtain ⟨wb, hwb⟩ : ∃ wb, w2.alloc (.cells #[.int .i64 0, .int .i64 0, .slice none 0 0] 24) = wb := ⟨_, rfl⟩; rw [hwb] at k3 b3; have hKb : Kept WA wb none := (hKg.tr hk2).tr k3; have hX0 := b3.c0; have hX1 := b3.c1; have hX2 := b3.c2; have HWB9 := Hid.mk' hwb; clear b3 k3 hwb))
    go_ret
    exact ⟨by simp, (HK.out.tr hKc).below⟩
set_option maxRecDepth 100000 in
set_option maxHeartbeats 4000000 in
theorem pclw_not {X : Sa} {S : St} {w : World} (h : Sat w X S) (hT : Tabb w) {P : Pl} {a : Option Addr} {c : Nat} (hI : Ints w a P.splits.length c P.splits) (hO : i64B P.offset) (hl : P.splits.length ≤ 100) (hs : siteB S = true) (Q : Pl) (hQ : nearP S P = Q) (hw : planB S P = false) : Calls Tryd.prog 5 #[siteV X S, planV P a c] w fun e w' => e = .returned (.bool true) ∧ Below w.heap.size w w' := by
  have hlb : decide ((100 : Int) < (P.splits.length : Int)) = false := by simp; omega
  have hqm : planB S Q = true := by rw [← hQ]; exact plan_of hs (near_may hs P)
  have hqn : nearP S Q = Q := near_same hs (plan_facts hqm)
  have hqo : i64B Q.offset := by rw [← hQ]; exact near_off hs P
  obtain ⟨WA, hWA⟩ : ∃ WA, ((w.alloc (.cells #[.int .i64 S.id, .slice X.g S.groups.length X.gc, .slice X.a S.apart.length X.ac, .slice X.b S.between.length X.bc, .slice X.p S.phases.length X.pc, .slice X.e S.eyes.length X.ec, .int .i64 S.watch, .int .i64 S.feed, .int .i64 S.heal, .int .i64 S.low, .int .i64 S.high, .slice X.l S.plans.length X.lc] 35)).alloc (.cells #[.int .i64 P.cycle, .int .i64 P.offset, .slice a P.splits.length c] 24)) = WA := ⟨_, rfl⟩
  obtain ⟨HSB, HBP, HSZ, HK, HS, HI, p0_, p1_, p2_, s0_, s1_, s2_, s3_, s4_, s5_, s6_, s7_, s8_, s9_, s10_, s11_⟩ := hdp h hI hWA
  have HT := Hid.mk' (hT.kept HK.out)
  have HC1 : Hid (∀ w', Kept WA w' none → Calls Tryd.prog 8 #[siteV X S, planV P a c] w' fun e w2 => ∃ g cp, e = .returned (.tuple #[planV Q (some ⟨g, 0, none⟩) cp, .int .i64 0]) ∧ Ints w2 (some ⟨g, 0, none⟩) Q.splits.length cp Q.splits ∧ Kept w' w2 none) := fun w' q => by
    refine (pclampP (HS.out.kept q) (HT.out.kept q) (HI.out.kept q) hO hs).mono ?_
    rw [hQ]
    rintro e w2 ⟨g, cp, rfl, _, h2, _, h4⟩
    exact ⟨g, cp, rfl, h2, h4⟩
  have HC2 : Hid (∀ w' g0 cp0, Kept WA w' none → Ints w' (some ⟨g0, 0, none⟩) Q.splits.length cp0 Q.splits → Calls Tryd.prog 8 #[siteV X S, planV Q (some ⟨g0, 0, none⟩) cp0] w' fun e w2 => ∃ g cp, e = .returned (.tuple #[planV Q (some ⟨g, 0, none⟩) cp, .int .i64 0]) ∧ Ints w2 (some ⟨g, 0, none⟩) Q.splits.length cp Q.splits ∧ Kept w' w2 none) := fun w' g0 cp0 q hi => by
    refine (pclampP (HS.out.kept q) (HT.out.kept q) hi hqo hs).mono ?_
    rw [hqn]
    rintro e w2 ⟨g, cp, rfl, _, h2, _, h4⟩
    exact ⟨g, cp, rfl, h2, h4⟩
  have HP1 : Hid (∀ w' g0 cp0, Kept WA w' none → Ints w' (some ⟨g0, 0, none⟩) Q.splits.length cp0 Q.splits → Calls Tryd.prog 21 #[siteV X S, planV Q (some ⟨g0, 0, none⟩) cp0] w' fun e w2 => e = .returned (.tuple #[.bool true, .int .i64 0]) ∧ Kept w' w2 none) := fun w' g0 cp0 q hi => by
    have hx := planq_yes (HS.out.kept q) (HT.out.kept q) hs Q _ _ hi
    rw [hqm] at hx
    exact hx
  have HP2 : Hid (∀ w', Kept WA w' none → Calls Tryd.prog 21 #[siteV X S, planV P a c] w' fun e w2 => e = .returned (.tuple #[.bool false, .int .i64 0]) ∧ Kept w' w2 none) := fun w' q => by
    have hx := planq_yes (HS.out.kept q) (HT.out.kept q) hs P a c (HI.out.kept q)
    rw [hw] at hx
    exact hx
  clear hqm hqn hqo hQ hw hs
  have hK0 := Kept.refl WA none
  clear h hT hI
  go_enter Tryd.func5, Tryd.ntmps5
  go_wp2_with (first | rw [hWA] | (go_at_call 13; refine (palive_any HT.out).mono ?_; rintro e wv ⟨rfl, hkv⟩; have hKv : Kept WA wv none := hkv))
  go_at_call 14
  refine (rgreat_any (HS.out.kept hKv)).mono ?_
  rintro e wg ⟨gr, rfl, hgr, hkg⟩
  have hKg : Kept WA wg none := hKv.tr hkg
  clear hgr
  cases gr with
  | true =>
    go_wp2
    go_ret
    exact ⟨rfl, (HK.out.tr hKg).below⟩
  | false =>
    go_wp2_with (first | (have hgo := hKp2; clear hgo; go_at_call 19; refine (psame_yes (P := Q) (HIR.out.kept hkp2) (HIQ.out.kept (hkuv.tr hkp2))).mono ?_; rintro e wsm ⟨rfl, hksm⟩; have hsm : Kept WA wsm none := hKp2.tr hksm; have t0 := (HBu.out.kept ((hkuv.tr hkp2).tr hksm)).c0; have t1 := (HBu.out.kept ((hkuv.tr hkp2).tr hksm)).c1; have t2 := (HBu.out.kept ((hkuv.tr hkp2).tr hksm)).c2) | (have hgo := hKc2; clear hgo; go_at_call 21; refine (HP2.out _ hKc2).mono ?_; rintro e wp2 ⟨rfl, hkp2⟩; have hKp2 : Kept WA wp2 none := hKc2.tr hkp2; have u0 := (HBu.out.kept (hkuv.tr hkp2)).c0; have u1 := (HBu.out.kept (hkuv.tr hkp2)).c1; have u2 := (HBu.out.kept (hkuv.tr hkp2)).c2) | rw [hwd] | (have hgo := hKp1; clear hgo; go_at_call 8; refine (HC2.out _ _ _ hKp1 (HIQ.out.kept hkp1)).mono ?_; rintro e w4 ⟨g2, cp2, rfl, hiv, hkv⟩; have kv : Kept w4 (w4.alloc (.cells #[.int .i64 Q.cycle, .int .i64 Q.offset, .slice (some ⟨g2, 0, none⟩) Q.splits.length cp2] 24)) none := Kept.alloc _ _ _ _ _; have bv := box_alloc w4 (.int .i64 Q.cycle) (.int .i64 Q.offset) (.slice (some ⟨g2, 0, none⟩) Q.splits.length cp2) 24; obtain ⟨wd, hwd⟩ : ∃ wb, w4.alloc (.cells #[.int .i64 Q.cycle, .int .i64 Q.offset, .slice (some ⟨g2, 0, none⟩) Q.splits.length cp2] 24) = wb := ⟨_, rfl⟩; rw [hwd] at kv bv; have hKc2 : Kept WA wd none := (hKp1.tr hkv).tr kv; have HIR := Hid.mk' (hiv.kept kv); have HBv := Hid.mk' bv; have v0_ : ∀ w', Kept wd w' none → w'.cell? ⟨w4.heap.size, 0, none⟩ = some (.int .i64 Q.cycle) := fun w' q => (HBv.out.kept q).c0; have v1_ : ∀ w', Kept wd w' none → w'.cell? ⟨w4.heap.size, 1, none⟩ = some (.int .i64 Q.offset) := fun w' q => (HBv.out.kept q).c1; have v2_ : ∀ w', Kept wd w' none → w'.cell? ⟨w4.heap.size, 2, none⟩ = some (.slice (some ⟨g2, 0, none⟩) Q.splits.length cp2) := fun w' q => (HBv.out.kept q).c2; have vk := Kept.refl wd none; clear hiv bv kv; have hkuv : Kept wb wd none := by have q := hkp1.tr hkv; rw [← hwd]; exact q.tr (Kept.alloc _ _ _ _ _)) | (have hgo := hKb; clear hgo; go_at_call 21; refine (HP1.out _ _ _ hKb HIQ.out).mono ?_; rintro e wp1 ⟨rfl, hkp1⟩; have hKp1 : Kept WA wp1 none := hKb.tr hkp1) | rw [hwb] | (have hgo := hKg; clear hgo; go_at_call 8; refine (HC1.out _ hKg).mono ?_; rintro e w2 ⟨g1, cp1, rfl, hiu, hku⟩; have ku : Kept w2 (w2.alloc (.cells #[.int .i64 Q.cycle, .int .i64 Q.offset, .slice (some ⟨g1, 0, none⟩) Q.splits.length cp1] 24)) none := Kept.alloc _ _ _ _ _; have bu := box_alloc w2 (.int .i64 Q.cycle) (.int .i64 Q.offset) (.slice (some ⟨g1, 0, none⟩) Q.splits.length cp1) 24; obtain ⟨wb, hwb⟩ : ∃ wb, w2.alloc (.cells #[.int .i64 Q.cycle, .int .i64 Q.offset, .slice (some ⟨g1, 0, none⟩) Q.splits.length cp1] 24) = wb := ⟨_, rfl⟩; rw [hwb] at ku bu; have hKb : Kept WA wb none := (hKg.tr hku).tr ku; have HIQ := Hid.mk' (hiu.kept ku); have HBu := Hid.mk' bu; have u0_ : ∀ w', Kept wb w' none → w'.cell? ⟨w2.heap.size, 0, none⟩ = some (.int .i64 Q.cycle) := fun w' q => (HBu.out.kept q).c0; have u1_ : ∀ w', Kept wb w' none → w'.cell? ⟨w2.heap.size, 1, none⟩ = some (.int .i64 Q.offset) := fun w' q => (HBu.out.kept q).c1; have u2_ : ∀ w', Kept wb w' none → w'.cell? ⟨w2.heap.size, 2, none⟩ = some (.slice (some ⟨g1, 0, none⟩) Q.splits.length cp1) := fun w' q => (HBu.out.kept q).c2; have uk := Kept.refl wb none; clear hiu bu ku))
    go_ret
    exact ⟨by simp, (HK.out.tr hsm).below⟩
set_option maxRecDepth 100000 in
set_option maxHeartbeats 4000000 in
theorem pclw_was {X : Sa} {S : St} {w : World} (h : Sat w X S) (hT : Tabb w) {P : Pl} {a : Option Addr} {c : Nat} (hI : Ints w a P.splits.length c P.splits) (hO : i64B P.offset) (hl : P.splits.length ≤ 100) (hs : siteB S = true) (hQ : nearP S P = P) (hw : planB S P = true) : Calls Tryd.prog 5 #[siteV X S, planV P a c] w fun e w' => e = .returned (.bool true) ∧ Below w.heap.size w w' := by
  have hlb : decide ((100 : Int) < (P.splits.length : Int)) = false := by simp; omega
  have hqm : planB S P = true := hw
  have hqn : nearP S P = P := near_same hs (plan_facts hqm)
  have hqo : i64B P.offset := hO
  obtain ⟨WA, hWA⟩ : ∃ WA, ((w.alloc (.cells #[.int .i64 S.id, .slice X.g S.groups.length X.gc, .slice X.a S.apart.length X.ac, .slice X.b S.between.length X.bc, .slice X.p S.phases.length X.pc, .slice X.e S.eyes.length X.ec, .int .i64 S.watch, .int .i64 S.feed, .int .i64 S.heal, .int .i64 S.low, .int .i64 S.high, .slice X.l S.plans.length X.lc] 35)).alloc (.cells #[.int .i64 P.cycle, .int .i64 P.offset, .slice a P.splits.length c] 24)) = WA := ⟨_, rfl⟩
  obtain ⟨HSB, HBP, HSZ, HK, HS, HI, p0_, p1_, p2_, s0_, s1_, s2_, s3_, s4_, s5_, s6_, s7_, s8_, s9_, s10_, s11_⟩ := hdp h hI hWA
  have HT := Hid.mk' (hT.kept HK.out)
  have HC1 : Hid (∀ w', Kept WA w' none → Calls Tryd.prog 8 #[siteV X S, planV P a c] w' fun e w2 => ∃ g cp, e = .returned (.tuple #[planV P (some ⟨g, 0, none⟩) cp, .int .i64 0]) ∧ Ints w2 (some ⟨g, 0, none⟩) P.splits.length cp P.splits ∧ Kept w' w2 none) := fun w' q => by
    refine (pclampP (HS.out.kept q) (HT.out.kept q) (HI.out.kept q) hO hs).mono ?_
    rw [hQ]
    rintro e w2 ⟨g, cp, rfl, _, h2, _, h4⟩
    exact ⟨g, cp, rfl, h2, h4⟩
  have HC2 : Hid (∀ w' g0 cp0, Kept WA w' none → Ints w' (some ⟨g0, 0, none⟩) P.splits.length cp0 P.splits → Calls Tryd.prog 8 #[siteV X S, planV P (some ⟨g0, 0, none⟩) cp0] w' fun e w2 => ∃ g cp, e = .returned (.tuple #[planV P (some ⟨g, 0, none⟩) cp, .int .i64 0]) ∧ Ints w2 (some ⟨g, 0, none⟩) P.splits.length cp P.splits ∧ Kept w' w2 none) := fun w' g0 cp0 q hi => by
    refine (pclampP (HS.out.kept q) (HT.out.kept q) hi hqo hs).mono ?_
    rw [hqn]
    rintro e w2 ⟨g, cp, rfl, _, h2, _, h4⟩
    exact ⟨g, cp, rfl, h2, h4⟩
  have HP1 : Hid (∀ w' g0 cp0, Kept WA w' none → Ints w' (some ⟨g0, 0, none⟩) P.splits.length cp0 P.splits → Calls Tryd.prog 21 #[siteV X S, planV P (some ⟨g0, 0, none⟩) cp0] w' fun e w2 => e = .returned (.tuple #[.bool true, .int .i64 0]) ∧ Kept w' w2 none) := fun w' g0 cp0 q hi => by
    have hx := planq_yes (HS.out.kept q) (HT.out.kept q) hs P _ _ hi
    rw [hqm] at hx
    exact hx
  have HP2 : Hid (∀ w', Kept WA w' none → Calls Tryd.prog 21 #[siteV X S, planV P a c] w' fun e w2 => e = .returned (.tuple #[.bool true, .int .i64 0]) ∧ Kept w' w2 none) := fun w' q => by
    have hx := planq_yes (HS.out.kept q) (HT.out.kept q) hs P a c (HI.out.kept q)
    rw [hw] at hx
    exact hx
  clear hqm hqn hqo hQ hw hs
  have hK0 := Kept.refl WA none
  clear h hT hI
  go_enter Tryd.func5, Tryd.ntmps5
  go_wp2_with (first | rw [hWA] | (go_at_call 13; refine (palive_any HT.out).mono ?_; rintro e wv ⟨rfl, hkv⟩; have hKv : Kept WA wv none := hkv))
  go_at_call 14
  refine (rgreat_any (HS.out.kept hKv)).mono ?_
  rintro e wg ⟨gr, rfl, hgr, hkg⟩
  have hKg : Kept WA wg none := hKv.tr hkg
  clear hgr
  cases gr with
  | true =>
    go_wp2
    go_ret
    exact ⟨rfl, (HK.out.tr hKg).below⟩
  | false =>
    go_wp2_with (first | (have hgo := hsm; clear hgo; go_at_call 19; refine (psame_yes (P := P) (HIQ.out.kept ((hkuv.tr hkp2).tr hksm)) (by have hq := HI.out.kept hsm; exact hq)).mono ?_; rintro e wz ⟨rfl, hkz⟩; have hKz : Kept WA wz none := hsm.tr hkz) | (have hgo := hKp2; clear hgo; go_at_call 19; refine (psame_yes (P := P) (HIR.out.kept hkp2) (HIQ.out.kept (hkuv.tr hkp2))).mono ?_; rintro e wsm ⟨rfl, hksm⟩; have hsm : Kept WA wsm none := hKp2.tr hksm; have t0 := (HBu.out.kept ((hkuv.tr hkp2).tr hksm)).c0; have t1 := (HBu.out.kept ((hkuv.tr hkp2).tr hksm)).c1; have t2 := (HBu.out.kept ((hkuv.tr hkp2).tr hksm)).c2) | (have hgo := hKc2; clear hgo; go_at_call 21; refine (HP2.out _ hKc2).mono ?_; rintro e wp2 ⟨rfl, hkp2⟩; have hKp2 : Kept WA wp2 none := hKc2.tr hkp2; have u0 := (HBu.out.kept (hkuv.tr hkp2)).c0; have u1 := (HBu.out.kept (hkuv.tr hkp2)).c1; have u2 := (HBu.out.kept (hkuv.tr hkp2)).c2) | rw [hwd] | (have hgo := hKp1; clear hgo; go_at_call 8; refine (HC2.out _ _ _ hKp1 (HIQ.out.kept hkp1)).mono ?_; rintro e w4 ⟨g2, cp2, rfl, hiv, hkv⟩; have kv : Kept w4 (w4.alloc (.cells #[.int .i64 P.cycle, .int .i64 P.offset, .slice (some ⟨g2, 0, none⟩) P.splits.length cp2] 24)) none := Kept.alloc _ _ _ _ _; have bv := box_alloc w4 (.int .i64 P.cycle) (.int .i64 P.offset) (.slice (some ⟨g2, 0, none⟩) P.splits.length cp2) 24; obtain ⟨wd, hwd⟩ : ∃ wb, w4.alloc (.cells #[.int .i64 P.cycle, .int .i64 P.offset, .slice (some ⟨g2, 0, none⟩) P.splits.length cp2] 24) = wb := ⟨_, rfl⟩; rw [hwd] at kv bv; have hKc2 : Kept WA wd none := (hKp1.tr hkv).tr kv; have HIR := Hid.mk' (hiv.kept kv); have HBv := Hid.mk' bv; have v0_ : ∀ w', Kept wd w' none → w'.cell? ⟨w4.heap.size, 0, none⟩ = some (.int .i64 P.cycle) := fun w' q => (HBv.out.kept q).c0; have v1_ : ∀ w', Kept wd w' none → w'.cell? ⟨w4.heap.size, 1, none⟩ = some (.int .i64 P.offset) := fun w' q => (HBv.out.kept q).c1; have v2_ : ∀ w', Kept wd w' none → w'.cell? ⟨w4.heap.size, 2, none⟩ = some (.slice (some ⟨g2, 0, none⟩) P.splits.length cp2) := fun w' q => (HBv.out.kept q).c2; have vk := Kept.refl wd none; clear hiv bv kv; have hkuv : Kept wb wd none := by have q := hkp1.tr hkv; rw [← hwd]; exact q.tr (Kept.alloc _ _ _ _ _)) | (have hgo := hKb; clear hgo; go_at_call 21; refine (HP1.out _ _ _ hKb HIQ.out).mono ?_; rintro e wp1 ⟨rfl, hkp1⟩; have hKp1 : Kept WA wp1 none := hKb.tr hkp1) | rw [hwb] | (have hgo := hKg; clear hgo; go_at_call 8; refine (HC1.out _ hKg).mono ?_; rintro e w2 ⟨g1, cp1, rfl, hiu, hku⟩; have ku : Kept w2 (w2.alloc (.cells #[.int .i64 P.cycle, .int .i64 P.offset, .slice (some ⟨g1, 0, none⟩) P.splits.length cp1] 24)) none := Kept.alloc _ _ _ _ _; have bu := box_alloc w2 (.int .i64 P.cycle) (.int .i64 P.offset) (.slice (some ⟨g1, 0, none⟩) P.splits.length cp1) 24; obtain ⟨wb, hwb⟩ : ∃ wb, w2.alloc (.cells #[.int .i64 P.cycle, .int .i64 P.offset, .slice (some ⟨g1, 0, none⟩) P.splits.length cp1] 24) = wb := ⟨_, rfl⟩; rw [hwb] at ku bu; have hKb : Kept WA wb none := (hKg.tr hku).tr ku; have HIQ := Hid.mk' (hiu.kept ku); have HBu := Hid.mk' bu; have u0_ : ∀ w', Kept wb w' none → w'.cell? ⟨w2.heap.size, 0, none⟩ = some (.int .i64 P.cycle) := fun w' q => (HBu.out.kept q).c0; have u1_ : ∀ w', Kept wb w' none → w'.cell? ⟨w2.heap.size, 1, none⟩ = some (.int .i64 P.offset) := fun w' q => (HBu.out.kept q).c1; have u2_ : ∀ w', Kept wb w' none → w'.cell? ⟨w2.heap.size, 2, none⟩ = some (.slice (some ⟨g1, 0, none⟩) P.splits.length cp1) := fun w' q => (HBu.out.kept q).c2; have uk := Kept.refl wb none; clear hiu bu ku))
    go_ret
    exact ⟨by simp, (HK.out.tr hKz).below⟩

theorem pclw_any {X : Sa} {S : St} {w : World} (h : Sat w X S) (hT : Tabb w) {P : Pl} {a : Option Addr} {c : Nat} (hI : Ints w a P.splits.length c P.splits) (hC : i64B P.cycle) (hO : i64B P.offset) : Calls Tryd.prog 5 #[siteV X S, planV P a c] w fun e w' => e = .returned (.bool true) ∧ Below w.heap.size w w' := by
  by_cases hl : P.splits.length ≤ 100
  · cases hs : siteB S with
    | false => exact pclw_no h hT hI hl hs
    | true =>
      cases hw : planB S P with
      | false => exact pclw_not h hT hI hO hl hs _ rfl hw
      | true => exact pclw_was h hT hI hO hl hs (near_same hs (plan_facts hw)) hw
  · exact pclw_long h hT hI (by omega)

end Go.Proofs.YtfhmfanmnhclfaaDoor
