import Derived.Deep.QuietTactic
import Derived.BigQuiet
import Derived.Deep.RegionHeld
import Derived.Test.YtfhmfanmnhclfaaDoorP22
import Derived.Test.YtfhmfanmnhclfaaDoorP24
import Derived.Test.YtfhmfanmnhclfaaDoorP34
import Derived.Test.YtfhmfanmnhclfaaDoorP38
namespace Go.Proofs.YtfhmfanmnhclfaaDoor
set_option linter.unusedVariables false
set_option linter.unusedSimpArgs false
open Go.RowKit Go.Lib Go.Deep


theorem place_tm {P : Pl} {t : Nat} (h1 : 1 ≤ P.cycle) (h2 : 0 ≤ P.offset) (h3 : P.offset < P.cycle) : ((((t : Int) % P.cycle) + P.cycle - P.offset).tmod P.cycle = (placeN P t : Int)) ∧ 0 ≤ (t : Int) % P.cycle ∧ (t : Int) % P.cycle < P.cycle := by
  unfold placeN
  obtain ⟨c, hc⟩ : ∃ c : Nat, P.cycle = (c : Int) := ⟨P.cycle.toNat, by omega⟩
  obtain ⟨o, ho⟩ : ∃ o : Nat, P.offset = (o : Int) := ⟨P.offset.toNat, by omega⟩
  rw [hc] at h1 h3 ⊢
  rw [ho] at h2 h3 ⊢
  have e1 : (t : Int) % (c : Int) = ((t % c : Nat) : Int) := by simp
  have hl : t % c < c := Nat.mod_lt _ (by omega)
  have e2 : ((t % c : Nat) : Int) + (c : Int) - (o : Int) = ((t % c + (c - o) : Nat) : Int) := by omega
  rw [e1, e2, Int.tmod_eq_emod_of_nonneg (by omega)]
  refine ⟨?_, by omega, by omega⟩
  simp only [Int.toNat_natCast]
  rw [← Nat.mod_add_mod t c (c - o)]
  simp
set_option maxRecDepth 100000 in
set_option maxHeartbeats 2000000 in
theorem rpart_any {w : World} {S : St} {P : Pl} (hs : siteB S = true) (hp : PlF S P) {a : Option Addr} {c : Nat} (hI : Ints w a P.splits.length c P.splits) (t : Nat) (ht : t ≤ 1073741824) : Calls Tryd.prog 38 #[planV P a c, .int .i64 (t : Int)] w fun e w' => e = .returned (.tuple #[.int .i64 ((partV P t).1 : Int), .int .i64 ((partV P t).2 : Int)]) ∧ Kept w w' none := by
  obtain ⟨i0, x0, hi0, hx0, hpl, hpv⟩ := part_ex hs hp t
  have hcf := cyc_facts hs
  have hlo := hp.lo
  have hhi := hp.hi
  have ho0 := hp.o0
  have ho1 := hp.o1
  have hn := hp.n
  have hnn := (span_may hs).base.sh.ok.np
  have hc1 : 1 ≤ P.cycle := by omega
  obtain ⟨e2, e3, e4⟩ := place_tm (t := t) hc1 ho0 ho1
  have hql := place_lt hs hp t
  have HSV : Hid (∀ k, k < S.phases.length → P.splits.getD k 0 = ((spN P k : Nat) : Int)) := fun k hk => by
    have := hp.sp k hk
    have := partM_ge hs hk
    unfold spN
    omega
  have HST : Hid (∀ k, k < i0 → preN (spN P) k + spN P k ≤ preN (spN P) i0) := fun k hk => by
    have := preN_mono (sp := spN P) (show k + 1 ≤ i0 by omega)
    rwa [preN_succ] at this
  obtain ⟨pb, po, rfl, hpb, hpc⟩ := hI.at_ (by omega)
  have HN := Hid.mk' hn
  clear hn
  have kA : Kept w (w.alloc (.cells #[.int .i64 P.cycle, .int .i64 P.offset, .slice (some ⟨pb, po, none⟩) P.splits.length c] 24)) none := Kept.alloc _ _ _ _ _
  have bp := box_alloc w (.int .i64 P.cycle) (.int .i64 P.offset) (.slice (some ⟨pb, po, none⟩) P.splits.length c) 24
  have HPC := Hid.mk' (fun k hk => cell_kept0 (hpc k hk) kA)
  have HV : Hid (partV P t = (i0, x0)) := hpv
  have hcap : P.splits.length ≤ 9223372036854775807 := by have := hI.cap.room; have := hI.cap.max; omega
  rw [hpv]
  dsimp only
  rw [hpl] at e2 hql
  clear hI hpc hpv hpl hs hp
  have hpo : preN (spN P) 0 = 0 := rfl
  have hq9 : preN (spN P) i0 + x0 ≤ 1048576 := by omega
  have hz : (P.cycle == 0) = false := by simp; omega
  have hz1 : ¬ P.cycle = 0 := by omega
  have HW1 : Hid (RowKit.wrap64 ((t : Int) % P.cycle + P.cycle) = (t : Int) % P.cycle + P.cycle) := Go.IntWalk.wrap64_in _ (by omega)
  have HW2 : Hid (RowKit.wrap64 ((t : Int) % P.cycle + P.cycle - P.offset) = (t : Int) % P.cycle + P.cycle - P.offset) := Go.IntWalk.wrap64_in _ (by omega)
  have HQ0 : Hid ((RowKit.wrap64 (RowKit.wrap64 ((t : Int) % P.cycle + P.cycle) - P.offset)).tmod P.cycle = ((preN (spN P) i0 + x0 : Nat) : Int)) := by show _ = _; rw [HW1.out, HW2.out]; exact e2
  clear e2 e3 e4
  obtain ⟨WA, hWA⟩ : ∃ WA, (w.alloc (.cells #[.int .i64 P.cycle, .int .i64 P.offset, .slice (some ⟨pb, po, none⟩) P.splits.length c] 24)) = WA := ⟨_, rfl⟩
  rw [hWA] at kA bp HPC
  have HK := Hid.mk' kA
  have p0_ := bp.c0
  have p1_ := bp.c1
  have p2_ := bp.c2
  clear kA bp
  go_enter Tryd.func38, Tryd.ntmps38
  go_wp2_with (rw [hWA])
  go_quiet (fail)
  go_wp2
  go_loopw [6, 7] (fun q i wr => ∃ k m : Nat, k ≤ i0 ∧ m + preN (spN P) k = preN (spN P) i0 + x0 ∧ q = .int .i64 (m : Int) ∧ i = .int .i64 (k : Int) ∧ ∃ nn, wr = WA.drewN nn) (fun _ i _ => S.phases.length - (intOf i).toNat)
  case atStart => exact ⟨0, preN (spN P) i0 + x0, by omega, by omega, congrArg (Value.int .i64) HQ0.out, rfl, _, rfl⟩
  case round =>
    obtain ⟨k, m, hk, hm, rfl, rfl, nn, rfl⟩ := hrel
    have hkl : k < P.splits.length := by have := HN.out; omega
    have kc := HPC.out k hkl
    rw [HSV.out k (by omega)] at kc
    have hst := HST.out k
    by_cases hlt : k < i0
    · have hst := hst hlt
      obtain ⟨y, hy⟩ : ∃ y, spN P k = y := ⟨_, rfl⟩
      have hps := preN_succ (spN P) k
      rw [hy] at kc hst hps
      have hge : ¬ (m : Int) < (y : Int) := by omega
      clear hy
      go_wp2
      go_roundw
      case rel => exact ⟨k + 1, m - y, by omega, by omega, by go_num, by go_num, _, rfl⟩
      case measure => simp [intOf]; omega
    · obtain rfl : k = i0 := by omega
      obtain rfl : m = x0 := by omega
      obtain ⟨y, hy⟩ : ∃ y, spN P k = y := ⟨_, rfl⟩
      rw [hy] at kc hx0
      have hge : (m : Int) < (y : Int) := by omega
      clear hy hst
      go_wp2
      go_ret2
      exact ⟨rfl, HK.out.tr (Kept.drewN _ _ _)⟩
set_option maxRecDepth 100000 in
set_option maxHeartbeats 2000000 in
theorem rfits_lo {X : Sa} {S : St} {w : World} (h : Sat w X S) {P : Pl} {a : Option Addr} {c : Nat} (hI : Ints w a P.splits.length c P.splits) (h1 : P.cycle < S.low) : Calls Tryd.prog 37 #[siteV X S, planV P a c] w fun e w' => e = .returned (.bool false) ∧ planB S P = false ∧ Kept w w' none := by
  have HNO : Hid (planB S P = false) := by
    cases e : planB S P with
    | false => rfl
    | true => have q := plan_facts e; exact absurd q.lo (by omega)
  obtain ⟨WA, hWA⟩ : ∃ WA, ((w.alloc (.cells #[.int .i64 S.id, .slice X.g S.groups.length X.gc, .slice X.a S.apart.length X.ac, .slice X.b S.between.length X.bc, .slice X.p S.phases.length X.pc, .slice X.e S.eyes.length X.ec, .int .i64 S.watch, .int .i64 S.feed, .int .i64 S.heal, .int .i64 S.low, .int .i64 S.high, .slice X.l S.plans.length X.lc] 35)).alloc (.cells #[.int .i64 P.cycle, .int .i64 P.offset, .slice a P.splits.length c] 24)) = WA := ⟨_, rfl⟩
  obtain ⟨HSB, HBP, HSZ, HK, HS, HI, p0_, p1_, p2_, s0_, s1_, s2_, s3_, s4_, s5_, s6_, s7_, s8_, s9_, s10_, s11_⟩ := hdp h hI hWA
  have hK0 := Kept.refl WA none
  clear h hI
  go_enter Tryd.func37, Tryd.ntmps37
  go_wp2_with (rw [hWA])
  go_ret
  exact ⟨rfl, HNO.out, HK.out⟩
set_option maxRecDepth 100000 in
set_option maxHeartbeats 2000000 in
theorem rfits_hi {X : Sa} {S : St} {w : World} (h : Sat w X S) {P : Pl} {a : Option Addr} {c : Nat} (hI : Ints w a P.splits.length c P.splits) (h1 : ¬ P.cycle < S.low) (h2 : S.high < P.cycle) : Calls Tryd.prog 37 #[siteV X S, planV P a c] w fun e w' => e = .returned (.bool false) ∧ planB S P = false ∧ Kept w w' none := by
  have HNO : Hid (planB S P = false) := by
    cases e : planB S P with
    | false => rfl
    | true => have q := plan_facts e; exact absurd q.hi (by omega)
  obtain ⟨WA, hWA⟩ : ∃ WA, ((w.alloc (.cells #[.int .i64 S.id, .slice X.g S.groups.length X.gc, .slice X.a S.apart.length X.ac, .slice X.b S.between.length X.bc, .slice X.p S.phases.length X.pc, .slice X.e S.eyes.length X.ec, .int .i64 S.watch, .int .i64 S.feed, .int .i64 S.heal, .int .i64 S.low, .int .i64 S.high, .slice X.l S.plans.length X.lc] 35)).alloc (.cells #[.int .i64 P.cycle, .int .i64 P.offset, .slice a P.splits.length c] 24)) = WA := ⟨_, rfl⟩
  obtain ⟨HSB, HBP, HSZ, HK, HS, HI, p0_, p1_, p2_, s0_, s1_, s2_, s3_, s4_, s5_, s6_, s7_, s8_, s9_, s10_, s11_⟩ := hdp h hI hWA
  have hK0 := Kept.refl WA none
  clear h hI
  go_enter Tryd.func37, Tryd.ntmps37
  go_wp2_with (rw [hWA])
  go_ret
  exact ⟨rfl, HNO.out, HK.out⟩
set_option maxRecDepth 100000 in
set_option maxHeartbeats 2000000 in
theorem rfits_o0 {X : Sa} {S : St} {w : World} (h : Sat w X S) {P : Pl} {a : Option Addr} {c : Nat} (hI : Ints w a P.splits.length c P.splits) (h1 : ¬ P.cycle < S.low) (h2 : ¬ S.high < P.cycle) (h3 : P.offset < 0) : Calls Tryd.prog 37 #[siteV X S, planV P a c] w fun e w' => e = .returned (.bool false) ∧ planB S P = false ∧ Kept w w' none := by
  have HNO : Hid (planB S P = false) := by
    cases e : planB S P with
    | false => rfl
    | true => have q := plan_facts e; exact absurd q.o0 (by omega)
  obtain ⟨WA, hWA⟩ : ∃ WA, ((w.alloc (.cells #[.int .i64 S.id, .slice X.g S.groups.length X.gc, .slice X.a S.apart.length X.ac, .slice X.b S.between.length X.bc, .slice X.p S.phases.length X.pc, .slice X.e S.eyes.length X.ec, .int .i64 S.watch, .int .i64 S.feed, .int .i64 S.heal, .int .i64 S.low, .int .i64 S.high, .slice X.l S.plans.length X.lc] 35)).alloc (.cells #[.int .i64 P.cycle, .int .i64 P.offset, .slice a P.splits.length c] 24)) = WA := ⟨_, rfl⟩
  obtain ⟨HSB, HBP, HSZ, HK, HS, HI, p0_, p1_, p2_, s0_, s1_, s2_, s3_, s4_, s5_, s6_, s7_, s8_, s9_, s10_, s11_⟩ := hdp h hI hWA
  have hK0 := Kept.refl WA none
  clear h hI
  go_enter Tryd.func37, Tryd.ntmps37
  go_wp2_with (rw [hWA])
  go_ret
  exact ⟨rfl, HNO.out, HK.out⟩
set_option maxRecDepth 100000 in
set_option maxHeartbeats 2000000 in
theorem rfits_o1 {X : Sa} {S : St} {w : World} (h : Sat w X S) {P : Pl} {a : Option Addr} {c : Nat} (hI : Ints w a P.splits.length c P.splits) (h1 : ¬ P.cycle < S.low) (h2 : ¬ S.high < P.cycle) (h3 : ¬ P.offset < 0) (h4 : P.cycle ≤ P.offset) : Calls Tryd.prog 37 #[siteV X S, planV P a c] w fun e w' => e = .returned (.bool false) ∧ planB S P = false ∧ Kept w w' none := by
  have HNO : Hid (planB S P = false) := by
    cases e : planB S P with
    | false => rfl
    | true => have q := plan_facts e; exact absurd q.o1 (by omega)
  obtain ⟨WA, hWA⟩ : ∃ WA, ((w.alloc (.cells #[.int .i64 S.id, .slice X.g S.groups.length X.gc, .slice X.a S.apart.length X.ac, .slice X.b S.between.length X.bc, .slice X.p S.phases.length X.pc, .slice X.e S.eyes.length X.ec, .int .i64 S.watch, .int .i64 S.feed, .int .i64 S.heal, .int .i64 S.low, .int .i64 S.high, .slice X.l S.plans.length X.lc] 35)).alloc (.cells #[.int .i64 P.cycle, .int .i64 P.offset, .slice a P.splits.length c] 24)) = WA := ⟨_, rfl⟩
  obtain ⟨HSB, HBP, HSZ, HK, HS, HI, p0_, p1_, p2_, s0_, s1_, s2_, s3_, s4_, s5_, s6_, s7_, s8_, s9_, s10_, s11_⟩ := hdp h hI hWA
  have hK0 := Kept.refl WA none
  clear h hI
  go_enter Tryd.func37, Tryd.ntmps37
  go_wp2_with (rw [hWA])
  go_ret
  exact ⟨rfl, HNO.out, HK.out⟩
set_option maxRecDepth 100000 in
set_option maxHeartbeats 2000000 in
theorem rfits_n {X : Sa} {S : St} {w : World} (h : Sat w X S) {P : Pl} {a : Option Addr} {c : Nat} (hI : Ints w a P.splits.length c P.splits) (h1 : ¬ P.cycle < S.low) (h2 : ¬ S.high < P.cycle) (h3 : ¬ P.offset < 0) (h4 : ¬ P.cycle ≤ P.offset) (h5 : ¬ P.splits.length = S.phases.length) : Calls Tryd.prog 37 #[siteV X S, planV P a c] w fun e w' => e = .returned (.bool false) ∧ planB S P = false ∧ Kept w w' none := by
  have HNO : Hid (planB S P = false) := by
    cases e : planB S P with
    | false => rfl
    | true => have q := plan_facts e; exact absurd q.n (by omega)
  have h6 : ((P.splits.length : Int) == (S.phases.length : Int)) = false := by simp; omega
  have h7 : ¬ (P.splits.length : Int) = (S.phases.length : Int) := by omega
  clear h5
  obtain ⟨WA, hWA⟩ : ∃ WA, ((w.alloc (.cells #[.int .i64 S.id, .slice X.g S.groups.length X.gc, .slice X.a S.apart.length X.ac, .slice X.b S.between.length X.bc, .slice X.p S.phases.length X.pc, .slice X.e S.eyes.length X.ec, .int .i64 S.watch, .int .i64 S.feed, .int .i64 S.heal, .int .i64 S.low, .int .i64 S.high, .slice X.l S.plans.length X.lc] 35)).alloc (.cells #[.int .i64 P.cycle, .int .i64 P.offset, .slice a P.splits.length c] 24)) = WA := ⟨_, rfl⟩
  obtain ⟨HSB, HBP, HSZ, HK, HS, HI, p0_, p1_, p2_, s0_, s1_, s2_, s3_, s4_, s5_, s6_, s7_, s8_, s9_, s10_, s11_⟩ := hdp h hI hWA
  have hK0 := Kept.refl WA none
  clear h hI
  go_enter Tryd.func37, Tryd.ntmps37
  go_wp2_with (rw [hWA])
  go_ret
  exact ⟨rfl, HNO.out, HK.out⟩
set_option maxRecDepth 100000 in
set_option maxHeartbeats 4000000 in
theorem rfits_go {X : Sa} {S : St} {w : World} (h : Sat w X S) {P : Pl} {a : Option Addr} {c : Nat} (hI : Ints w a P.splits.length c P.splits) (hs : siteB S = true) (h1 : ¬ P.cycle < S.low) (h2 : ¬ S.high < P.cycle) (h3 : ¬ P.offset < 0) (h4 : ¬ P.cycle ≤ P.offset) (hn : P.splits.length = S.phases.length) : Calls Tryd.prog 37 #[siteV X S, planV P a c] w fun e w' => e = .returned (.bool (planB S P)) ∧ Kept w w' none := by
  have hnp := (span_may hs).base.sh.ok.np
  have hcf := cyc_facts hs
  have HPG : Hid (∀ k, k < P.splits.length → 1 ≤ partM S k ∧ gapM S k + (S.ph k).min = partM S k ∧ 0 ≤ gapM S k ∧ gapM S k ≤ 1048576) := fun k hk => ⟨(partM_ge hs (by omega)).1, (partM_ge hs (by omega)).2, ((span_may hs).base.lies _ _).1, ((span_may hs).base.lies _ _).2⟩
  have HPR := Hid.mk' (fun k (hk : k < P.splits.length) => (span_may hs).base.mn k (by omega))
  have HNO : Hid (∀ k, k < P.splits.length → (P.splits.getD k 0 < partM S k ∨ P.cycle < P.splits.getD k 0) → planB S P = false) := fun k hk hor => by
    cases e : planB S P with
    | false => rfl
    | true =>
      have q := plan_facts e
      have ha := q.sp k (by omega)
      have b := sumF_one (f := (fun j => P.splits.getD j 0)) (n := S.phases.length) (i := k) (fun i hi => by have := q.sp i hi; have := partM_ge hs hi; show 0 ≤ P.splits.getD i 0; omega) (by omega)
      have b2 := q.tot
      have b : P.splits.getD k 0 ≤ sumF (fun j => P.splits.getD j 0) S.phases.length := b
      rw [b2] at b
      omega
  have HEND : Hid ((∀ j, j < P.splits.length → partM S j ≤ P.splits.getD j 0 ∧ P.splits.getD j 0 ≤ P.cycle) → planB S P = decide (sumF (fun j => P.splits.getD j 0) P.splits.length = P.cycle)) := fun hall => by
    by_cases e : sumF (fun j => P.splits.getD j 0) P.splits.length = P.cycle
    · rw [decide_eq_true e]
      exact plan_of hs ⟨hn, by omega, by omega, by omega, by omega, fun i hi => (hall i (by omega)).1, by rw [← hn]; exact e⟩
    · rw [decide_eq_false e]
      cases e2 : planB S P with
      | false => rfl
      | true => exact absurd (by rw [hn]; exact (plan_facts e2).tot) e
  have HSR : Hid (∀ k, k ≤ P.splits.length → (∀ j, j < k → partM S j ≤ P.splits.getD j 0 ∧ P.splits.getD j 0 ≤ P.cycle) → 0 ≤ sumF (fun j => P.splits.getD j 0) k ∧ sumF (fun j => P.splits.getD j 0) k ≤ 8388608) := fun k hk hall => by
    have := sumF_bd (f := (fun j => P.splits.getD j 0)) (M := 1048576) (by omega) (k := k) (fun i hi => by
      have := hall i hi
      have := (partM_ge hs (i := i) (by omega)).1
      show 0 ≤ P.splits.getD i 0 ∧ P.splits.getD i 0 ≤ 1048576
      omega)
    omega
  obtain ⟨gb, go_, rfl, hgb, hgc⟩ := hI.at_ (by omega)
  obtain ⟨pb, po, ep, _⟩ := h.phAt (i := 0) (by omega)
  have HPH : Hid (∀ k, k < P.splits.length → w.cell? ⟨pb, po + k * 5 + 1, none⟩ = some (.int .i64 (S.ph k).min)) := fun k hk => by
    obtain ⟨pb2, po2, ep2, _, q1, _⟩ := h.phAt (i := k) (by omega)
    rw [ep] at ep2
    injection ep2 with ep2
    injection ep2 with e1 e2
    subst e1; subst e2
    exact q1
  have HGC := Hid.mk' hgc
  have hpkl : S.phases.length ≤ 9223372036854775807 := by omega
  have HN := Hid.mk' hn
  have hcap : P.splits.length ≤ 9223372036854775807 := by omega
  have h6 : ((P.splits.length : Int) == (S.phases.length : Int)) = true := by simp; omega
  have h7 : (P.splits.length : Int) = (S.phases.length : Int) := by omega
  obtain ⟨WA, hWA⟩ : ∃ WA, ((w.alloc (.cells #[.int .i64 S.id, .slice X.g S.groups.length X.gc, .slice X.a S.apart.length X.ac, .slice X.b S.between.length X.bc, .slice X.p S.phases.length X.pc, .slice X.e S.eyes.length X.ec, .int .i64 S.watch, .int .i64 S.feed, .int .i64 S.heal, .int .i64 S.low, .int .i64 S.high, .slice X.l S.plans.length X.lc] 35)).alloc (.cells #[.int .i64 P.cycle, .int .i64 P.offset, .slice (some ⟨gb, go_, none⟩) P.splits.length c] 24)) = WA := ⟨_, rfl⟩
  obtain ⟨HSB, HBP, HSZ, HK, HS, HI, p0_, p1_, p2_, s0_, s1_, s2_, s3_, s4_, s5_, s6_, s7_, s8_, s9_, s10_, s11_⟩ := hdp h hI hWA
  have hK0 := Kept.refl WA none
  clear h hI
  have HGP : Hid (∀ (k : Nat), k < P.splits.length → ∀ w', Kept WA w' none → Calls Tryd.prog 39 #[.agg #[.int .i64 S.id, .slice X.g S.groups.length X.gc, .slice X.a S.apart.length X.ac, .slice X.b S.between.length X.bc, .slice (some ⟨pb, po, none⟩) S.phases.length X.pc, .slice X.e S.eyes.length X.ec, .int .i64 S.watch, .int .i64 S.feed, .int .i64 S.heal, .int .i64 S.low, .int .i64 S.high, .slice X.l S.plans.length X.lc], .int .i64 (k : Int)] w' fun e w2 => e = .returned (.int .i64 (gapM S k)) ∧ Kept w' w2 none) := fun k hk w' q => by
    have hx := rgap_any (HS.out.kept q) hs (p := k) (by omega)
    unfold siteV at hx
    rw [ep] at hx
    exact hx
  rw [ep] at s4_
  clear hs hn hgc ep
  go_enter Tryd.func37, Tryd.ntmps37
  go_wp2_with (rw [hWA])
  clear h6 h7
  have hfit := HN.out
  go_loopw [5, 6] (fun n i wr => ∃ k : Nat, k ≤ P.splits.length ∧ i = .int .i64 k ∧ n = .int .i64 (sumF (fun j => P.splits.getD j 0) k) ∧ Kept WA wr none ∧ ∀ j, j < k → partM S j ≤ P.splits.getD j 0 ∧ P.splits.getD j 0 ≤ P.cycle) (fun _ i _ => P.splits.length - (intOf i).toNat)
  case atStart => exact ⟨0, by omega, rfl, rfl, Kept.refl _ _, fun j hj => by omega⟩
  case round =>
    obtain ⟨k, hk, rfl, rfl, hkr, hall⟩ := hrel
    have hsr := HSR.out k hk hall
    have HALL := Hid.mk' hall
    clear hall
    by_cases hlt : k < P.splits.length
    · have hpg := HPG.out k hlt
      have hmr := HPR.out k hlt
      have f1_ : ∀ w', Kept WA w' none → w'.cell? ⟨pb, po + k * 5 + 1, none⟩ = some (.int .i64 (S.ph k).min) := fun w' q => cell_kept0 (HPH.out k hlt) (HK.out.tr q)
      have g1_ : ∀ w', Kept WA w' none → w'.cell? ⟨gb, go_ + k, none⟩ = some (.int .i64 (P.splits.getD k 0)) := fun w' q => cell_kept0 (HGC.out k hlt) (HK.out.tr q)
      have HGP := Hid.mk' (HGP.out k hlt)
      have HNO := Hid.mk' (HNO.out k hlt)
      have HMORE : Hid (partM S k ≤ P.splits.getD k 0 → P.splits.getD k 0 ≤ P.cycle → ∀ j, j < k + 1 → partM S j ≤ P.splits.getD j 0 ∧ P.splits.getD j 0 ≤ P.cycle) := fun a1 a2 j hj => by
        by_cases e : j = k
        · subst e; exact ⟨a1, a2⟩
        · exact HALL.out j (by omega)
      have HSU : Hid (sumF (fun j => P.splits.getD j 0) k + P.splits.getD k 0 = sumF (fun j => P.splits.getD j 0) (k + 1)) := (sumF_succ _ _).symm
      have hpl : k < S.phases.length := by omega
      clear hfit
      generalize partM S k = pm at *
      generalize gapM S k = gm at *
      generalize (S.ph k).min = mn at *
      generalize P.splits.getD k 0 = y at *
      generalize sumF (fun j => P.splits.getD j 0) k = z at *
      have hH := hkr
      have HSUM : Hid (IntKind.i64.wrap (mn + gm) = mn + gm) := wrap_in (by omega) (by omega)
      by_cases c1 : y < mn + gm
      · go_wp2
        have d2 : y < IntKind.i64.wrap (mn + gm) := by rw [HSUM.out]; omega
        refine Code.wp_mono (Q := Rg ?A1 WA) ?cont1 ?reg1
        case reg1 =>
          repeat (rename_i hh; clear hh)
          refine wp_region_held_drew (S := fun w' => Kept WA w' none) (by kernel_rfl) (Kept.tr hkr (Kept.drew _ _)) (fun hHeld => ?_)
          refine held_take (i := 0) (v := ?v2) rfl rfl (by kernel_rfl) (by kernel_rfl) (by kernel_rfl) (fun _ _ _ h => h) (Or.inl ⟨by rfl, ?hy2⟩) hHeld ?rest2
          case hy2 => first | (intro w hSw; (try dsimp only at hSw); go_simp; done) | (intro w hSw; (try dsimp only at hSw); go_simp; with_reducible rfl)
          try simp only [List.setIfInBounds_toArray, List.set_cons_zero, List.set_cons_succ]
          refine held_take (i := 1) (v := ?v3) rfl rfl (by kernel_rfl) (by kernel_rfl) (by kernel_rfl) (fun _ _ _ h => h) (Or.inl ⟨by rfl, ?hy3⟩) hHeld ?rest3
          case hy3 => first | (intro w hSw; (try dsimp only at hSw); go_simp; done) | (intro w hSw; (try dsimp only at hSw); go_simp; with_reducible rfl)
          try simp only [List.setIfInBounds_toArray, List.set_cons_zero, List.set_cons_succ]
          refine held_take (i := 2) (v := ?v4) rfl rfl (by kernel_rfl) (by kernel_rfl) (by kernel_rfl) (fun _ _ _ h => h) (Or.inl ⟨by rfl, ?hy4⟩) hHeld ?rest4
          case hy4 => first | (intro w hSw; (try dsimp only at hSw); go_simp; done) | (intro w hSw; (try dsimp only at hSw); go_simp; with_reducible rfl)
          try simp only [List.setIfInBounds_toArray, List.set_cons_zero, List.set_cons_succ]
          refine held_take (i := 3) (v := ?v5) rfl rfl (by kernel_rfl) (by kernel_rfl) (by kernel_rfl) (fun _ _ _ h => h) (Or.inl ⟨by rfl, ?hy5⟩) hHeld ?rest5
          case hy5 => first | (intro w hSw; (try dsimp only at hSw); go_simp; done) | (intro w hSw; (try dsimp only at hSw); go_simp; with_reducible rfl)
          try simp only [List.setIfInBounds_toArray, List.set_cons_zero, List.set_cons_succ]
          refine held_take (i := 4) (v := ?v6) rfl rfl (by kernel_rfl) (by kernel_rfl) (by kernel_rfl) (fun _ _ _ h => h) (Or.inl ⟨by rfl, ?hy6⟩) hHeld ?rest6
          case hy6 => first | (intro w hSw; (try dsimp only at hSw); go_simp; done) | (intro w hSw; (try dsimp only at hSw); go_simp; with_reducible rfl)
          try simp only [List.setIfInBounds_toArray, List.set_cons_zero, List.set_cons_succ]
          refine held_take (i := 5) (v := ?v7) rfl rfl (by kernel_rfl) (by kernel_rfl) (by kernel_rfl) (fun _ _ _ h => h) (Or.inl ⟨by rfl, ?hy7⟩) hHeld ?rest7
          case hy7 => first | (intro w hSw; (try dsimp only at hSw); go_simp; done) | (intro w hSw; (try dsimp only at hSw); go_simp; with_reducible rfl)
          try simp only [List.setIfInBounds_toArray, List.set_cons_zero, List.set_cons_succ]
          refine held_take (i := 6) (v := ?v8) rfl rfl (by kernel_rfl) (by kernel_rfl) (by kernel_rfl) (fun _ _ _ h => h) (Or.inl ⟨by rfl, ?hy8⟩) hHeld ?rest8
          case hy8 => first | (intro w hSw; (try dsimp only at hSw); go_simp; done) | (intro w hSw; (try dsimp only at hSw); go_simp; with_reducible rfl)
          try simp only [List.setIfInBounds_toArray, List.set_cons_zero, List.set_cons_succ]
          refine held_take (i := 7) (v := ?v9) rfl rfl (by kernel_rfl) (by kernel_rfl) (by kernel_rfl) (fun _ _ _ h => h) (Or.inl ⟨by rfl, ?hy9⟩) hHeld ?rest9
          case hy9 => first | (intro w hSw; (try dsimp only at hSw); go_simp; done) | (intro w hSw; (try dsimp only at hSw); go_simp; with_reducible rfl)
          try simp only [List.setIfInBounds_toArray, List.set_cons_zero, List.set_cons_succ]
          refine held_take (i := 8) (v := ?v10) rfl rfl (by kernel_rfl) (by kernel_rfl) (by kernel_rfl) (fun _ _ _ h => h) (Or.inl ⟨by rfl, ?hy10⟩) hHeld ?rest10
          case hy10 => first | (intro w hSw; (try dsimp only at hSw); go_simp; done) | (intro w hSw; (try dsimp only at hSw); go_simp; with_reducible rfl)
          try simp only [List.setIfInBounds_toArray, List.set_cons_zero, List.set_cons_succ]
          refine held_take (i := 9) (v := ?v11) rfl rfl (by kernel_rfl) (by kernel_rfl) (by kernel_rfl) (fun _ _ _ h => h) (Or.inl ⟨by rfl, ?hy11⟩) hHeld ?rest11
          case hy11 => first | (intro w hSw; (try dsimp only at hSw); go_simp; done) | (intro w hSw; (try dsimp only at hSw); go_simp; with_reducible rfl)
          try simp only [List.setIfInBounds_toArray, List.set_cons_zero, List.set_cons_succ]
          refine held_take (i := 10) (v := ?v12) rfl rfl (by kernel_rfl) (by kernel_rfl) (by kernel_rfl) (fun _ _ _ h => h) (Or.inl ⟨by rfl, ?hy12⟩) hHeld ?rest12
          case hy12 => first | (intro w hSw; (try dsimp only at hSw); go_simp; done) | (intro w hSw; (try dsimp only at hSw); go_simp; with_reducible rfl)
          try simp only [List.setIfInBounds_toArray, List.set_cons_zero, List.set_cons_succ]
          refine held_take (i := 11) (v := ?v13) rfl rfl (by kernel_rfl) (by kernel_rfl) (by kernel_rfl) (fun _ _ _ h => h) (Or.inl ⟨by rfl, ?hy13⟩) hHeld ?rest13
          case hy13 => first | (intro w hSw; (try dsimp only at hSw); go_simp; done) | (intro w hSw; (try dsimp only at hSw); go_simp; with_reducible rfl)
          try simp only [List.setIfInBounds_toArray, List.set_cons_zero, List.set_cons_succ]
          refine held_take (i := 12) (v := ?v14) rfl rfl (by kernel_rfl) (by kernel_rfl) (by kernel_rfl) (fun _ _ _ h => h) (Or.inl ⟨by rfl, ?hy14⟩) hHeld ?rest14
          case hy14 => first | (intro w hSw; (try dsimp only at hSw); go_simp; done) | (intro w hSw; (try dsimp only at hSw); go_simp; with_reducible rfl)
          try simp only [List.setIfInBounds_toArray, List.set_cons_zero, List.set_cons_succ]
          refine wpAnyH_ready (rs := [13]) (by kernel_rfl) (by simp) ?_
          refine AllReadyH.cons rfl (fun K hK => ?_) AllReadyH.nil
          go_simp
          go_wp2_with (go_at_call 39; refine (HGP.out _ (by assumption)).mono ?_; rintro e wS ⟨rfl, hkS⟩; have hKS : Kept WA wS none := Kept.tr (by assumption) hkS)
          replace hK := hK.out
          refine hK _ _ hKS (fun hHeld => ?_)
          clear hK K
          refine held_take (i := 14) (v := ?v15) rfl rfl (by kernel_rfl) (by kernel_rfl) (by kernel_rfl) (fun _ _ _ h => h) (Or.inl ⟨by rfl, ?hy15⟩) hHeld ?rest15
          case hy15 => first | (intro w hSw; (try dsimp only at hSw); go_simp; done) | (intro w hSw; (try dsimp only at hSw); go_simp; with_reducible rfl)
          try simp only [List.setIfInBounds_toArray, List.set_cons_zero, List.set_cons_succ]
          refine held_take (i := 15) (v := ?v16) rfl rfl (by kernel_rfl) (by kernel_rfl) (by kernel_rfl) (fun _ _ _ h => h) (Or.inl ⟨by rfl, ?hy16⟩) hHeld ?rest16
          case hy16 => first | (intro w hSw; (try dsimp only at hSw); go_simp; done) | (intro w hSw; (try dsimp only at hSw); go_simp; with_reducible rfl)
          try simp only [List.setIfInBounds_toArray, List.set_cons_zero, List.set_cons_succ]
          refine held_take (i := 16) (v := ?v17) rfl rfl (by kernel_rfl) (by kernel_rfl) (by kernel_rfl) (fun _ _ _ h => h) (Or.inl ⟨by rfl, ?hy17⟩) hHeld ?rest17
          case hy17 => first | (intro w hSw; (try dsimp only at hSw); go_simp; done) | (intro w hSw; (try dsimp only at hSw); go_simp; with_reducible rfl)
          try simp only [List.setIfInBounds_toArray, List.set_cons_zero, List.set_cons_succ]
          refine held_take (i := 17) (v := undef) rfl rfl (by kernel_rfl) (by kernel_rfl) (by kernel_rfl) (fun _ _ _ h => h) (Or.inr ⟨by rfl, rfl⟩) hHeld ?_
          try simp only [List.setIfInBounds_toArray, List.set_cons_zero, List.set_cons_succ]
          refine held_take (i := 18) (v := undef) rfl rfl (by kernel_rfl) (by kernel_rfl) (by kernel_rfl) (fun _ _ _ h => h) (Or.inr ⟨by rfl, rfl⟩) hHeld ?_
          try simp only [List.setIfInBounds_toArray, List.set_cons_zero, List.set_cons_succ]
          refine held_take (i := 19) (v := undef) rfl rfl (by kernel_rfl) (by kernel_rfl) (by kernel_rfl) (fun _ _ _ h => h) (Or.inr ⟨by rfl, rfl⟩) hHeld ?_
          try simp only [List.setIfInBounds_toArray, List.set_cons_zero, List.set_cons_succ]
          refine held_take (i := 20) (v := undef) rfl rfl (by kernel_rfl) (by kernel_rfl) (by kernel_rfl) (fun _ _ _ h => h) (Or.inr ⟨by rfl, rfl⟩) hHeld ?_
          try simp only [List.setIfInBounds_toArray, List.set_cons_zero, List.set_cons_succ]
          refine held_take (i := 21) (v := undef) rfl rfl (by kernel_rfl) (by kernel_rfl) (by kernel_rfl) (fun _ _ _ h => h) (Or.inr ⟨by rfl, rfl⟩) hHeld ?_
          try simp only [List.setIfInBounds_toArray, List.set_cons_zero, List.set_cons_succ]
          refine held_take (i := 22) (v := undef) rfl rfl (by kernel_rfl) (by kernel_rfl) (by kernel_rfl) (fun _ _ _ h => h) (Or.inr ⟨by rfl, rfl⟩) hHeld ?_
          try simp only [List.setIfInBounds_toArray, List.set_cons_zero, List.set_cons_succ]
          refine held_take (i := 23) (v := undef) rfl rfl (by kernel_rfl) (by kernel_rfl) (by kernel_rfl) (fun _ _ _ h => h) (Or.inr ⟨by rfl, rfl⟩) hHeld ?_
          try simp only [List.setIfInBounds_toArray, List.set_cons_zero, List.set_cons_succ]
          refine held_take (i := 24) (v := undef) rfl rfl (by kernel_rfl) (by kernel_rfl) (by kernel_rfl) (fun _ _ _ h => h) (Or.inr ⟨by rfl, rfl⟩) hHeld ?_
          try simp only [List.setIfInBounds_toArray, List.set_cons_zero, List.set_cons_succ]
          refine held_take (i := 25) (v := ?v18) rfl rfl (by kernel_rfl) (by kernel_rfl) (by kernel_rfl) (fun _ _ _ h => h) (Or.inl ⟨by rfl, ?hy18⟩) hHeld ?rest18
          case hy18 => first | (intro w hSw; (try dsimp only at hSw); go_simp; done) | (intro w hSw; (try dsimp only at hSw); go_simp; with_reducible rfl)
          try simp only [List.setIfInBounds_toArray, List.set_cons_zero, List.set_cons_succ]
          refine wpAnyH_done (by kernel_rfl) ?_ _
          refine And.intro ?_ hHeld
          with_reducible rfl
        case cont1 =>
        intro e a' w' hq
        obtain ⟨rfl, rfl, hkq⟩ := hq.out
        go_wp2
        go_ret
        exact ⟨by rw [HNO.out (.inl (by omega))]; rfl, HK.out.tr hkq⟩
      · by_cases c2 : P.cycle < y
        · go_wp2
          have d2 : ¬ y < IntKind.i64.wrap (mn + gm) := by rw [HSUM.out]; omega
          have d1 : decide (y < IntKind.i64.wrap (mn + gm)) = false := decide_eq_false d2
          go_region_held (fun w' => Kept WA w' none)
            ((first | exact hH | exact Kept.tr hH (Kept.drew _ _) | assumption | exact Kept.tr (by assumption) (Kept.drew _ _)))
            ((go_at_call 39; refine (HGP.out _ (by assumption)).mono ?_; rintro e wG ⟨rfl, hkG⟩; have hKG : Kept WA wG none := Kept.tr (by assumption) hkG))
          all_goals
            go_wp2
            go_ret
            exact ⟨by rw [HNO.out (.inr (by omega))]; rfl, HK.out.tr hKG⟩
        · go_wp2
          have d2 : ¬ y < IntKind.i64.wrap (mn + gm) := by rw [HSUM.out]; omega
          have d1 : decide (y < IntKind.i64.wrap (mn + gm)) = false := decide_eq_false d2
          have d3 : decide (P.cycle < y) = false := by simp; omega
          go_region_held (fun w' => Kept WA w' none)
            ((first | exact hH | exact Kept.tr hH (Kept.drew _ _) | assumption | exact Kept.tr (by assumption) (Kept.drew _ _)))
            ((go_at_call 39; refine (HGP.out _ (by assumption)).mono ?_; rintro e wG ⟨rfl, hkG⟩; have hKG : Kept WA wG none := Kept.tr (by assumption) hkG))
          all_goals
            go_wp2
            go_roundw
            case rel => exact ⟨k + 1, by omega, by go_num, congrArg (Value.int .i64) HSU.out, hKG, HMORE.out (by omega) (by omega)⟩
            case measure => simp [intOf]; omega
    · obtain rfl : k = P.splits.length := by omega
      have HE := Hid.mk' (HEND.out HALL.out)
      generalize sumF (fun j => P.splits.getD j 0) P.splits.length = z at *
      clear hfit
      go_wp2
      go_ret
      exact ⟨by rw [HE.out]; first | rfl | (simp; done), HK.out.tr hkr⟩
theorem rfits_any {X : Sa} {S : St} {w : World} (h : Sat w X S) {P : Pl} {a : Option Addr} {c : Nat} (hI : Ints w a P.splits.length c P.splits) (hs : siteB S = true) : Calls Tryd.prog 37 #[siteV X S, planV P a c] w fun e w' => e = .returned (.bool (planB S P)) ∧ Kept w w' none := by
  by_cases h1 : P.cycle < S.low
  · refine (rfits_lo h hI h1).mono ?_
    rintro e w' ⟨rfl, hf, hk⟩
    exact ⟨by rw [hf], hk⟩
  · by_cases h2 : S.high < P.cycle
    · refine (rfits_hi h hI h1 h2).mono ?_
      rintro e w' ⟨rfl, hf, hk⟩
      exact ⟨by rw [hf], hk⟩
    · by_cases h3 : P.offset < 0
      · refine (rfits_o0 h hI h1 h2 h3).mono ?_
        rintro e w' ⟨rfl, hf, hk⟩
        exact ⟨by rw [hf], hk⟩
      · by_cases h4 : P.cycle ≤ P.offset
        · refine (rfits_o1 h hI h1 h2 h3 h4).mono ?_
          rintro e w' ⟨rfl, hf, hk⟩
          exact ⟨by rw [hf], hk⟩
        · by_cases h5 : P.splits.length = S.phases.length
          · exact rfits_go h hI hs h1 h2 h3 h4 h5
          · refine (rfits_n h hI h1 h2 h3 h4 h5).mono ?_
            rintro e w' ⟨rfl, hf, hk⟩
            exact ⟨by rw [hf], hk⟩

end Go.Proofs.YtfhmfanmnhclfaaDoor
