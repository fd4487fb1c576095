import Derived.Deep.RegionHeld
import Derived.Test.YtfhmfanmnhclfaaDoorP39
namespace Go.Proofs.YtfhmfanmnhclfaaDoor
set_option linter.unusedVariables false
set_option linter.unusedSimpArgs false
open Go.RowKit Go.Lib Go.Deep

set_option maxRecDepth 100000 in
set_option maxHeartbeats 2000000 in
theorem rat_no {X : Sa} {S : St} {w : World} (h : Sat w X S) {P : Pl} {a : Option Addr} {c : Nat} (hI : Ints w a P.splits.length c P.splits) (t : Int) (hs : siteB S = false) : Calls Tryd.prog 16 #[siteV X S, planV P a c, .int .i64 t] w fun e w' => e = .returned (.tuple #[.int .i64 0, .int .i64 0, .int .i64 50]) ∧ Kept w w' none := by
  have hce : checkE S = 50 := by unfold checkE; rw [hs]; rfl
  obtain ⟨WA, hWA⟩ : ∃ WA, ((w.alloc (.cells #[.int .i64 S.id, .slice X.g S.groups.length X.gc, .slice X.a S.apart.length X.ac, .slice X.b S.between.length X.bc, .slice X.p S.phases.length X.pc, .slice X.e S.eyes.length X.ec, .int .i64 S.watch, .int .i64 S.feed, .int .i64 S.heal, .int .i64 S.low, .int .i64 S.high, .slice X.l S.plans.length X.lc] 35)).alloc (.cells #[.int .i64 P.cycle, .int .i64 P.offset, .slice a P.splits.length c] 24)) = WA := ⟨_, rfl⟩
  obtain ⟨HSB, HBP, HSZ, HK, HS, HI, p0_, p1_, p2_, s0_, s1_, s2_, s3_, s4_, s5_, s6_, s7_, s8_, s9_, s10_, s11_⟩ := hdp h hI hWA
  have hK0 := Kept.refl WA none
  clear h hI
  go_enter Tryd.func16, Tryd.ntmps16
  go_wp2_with (first | rw [hWA] | (go_at_call 35; have hx := rcheck_any HS.out; rw [hce] at hx; refine hx.mono ?_; rintro e wC ⟨rfl, hkC⟩; have hKC : Kept WA wC none := hkC; clear hx))
  go_ret3
  exact ⟨rfl, HK.out.tr hKC⟩
set_option maxRecDepth 100000 in
set_option maxHeartbeats 2000000 in
theorem rat_plan {X : Sa} {S : St} {w : World} (h : Sat w X S) {P : Pl} {a : Option Addr} {c : Nat} (hI : Ints w a P.splits.length c P.splits) (t : Int) (hs : siteB S = true) (hp : planB S P = false) : Calls Tryd.prog 16 #[siteV X S, planV P a c, .int .i64 t] w fun e w' => e = .returned (.tuple #[.int .i64 0, .int .i64 0, .int .i64 170]) ∧ Kept w w' none := by
  have hce : checkE S = 0 := by unfold checkE; rw [hs]; rfl
  obtain ⟨WA, hWA⟩ : ∃ WA, ((w.alloc (.cells #[.int .i64 S.id, .slice X.g S.groups.length X.gc, .slice X.a S.apart.length X.ac, .slice X.b S.between.length X.bc, .slice X.p S.phases.length X.pc, .slice X.e S.eyes.length X.ec, .int .i64 S.watch, .int .i64 S.feed, .int .i64 S.heal, .int .i64 S.low, .int .i64 S.high, .slice X.l S.plans.length X.lc] 35)).alloc (.cells #[.int .i64 P.cycle, .int .i64 P.offset, .slice a P.splits.length c] 24)) = WA := ⟨_, rfl⟩
  obtain ⟨HSB, HBP, HSZ, HK, HS, HI, p0_, p1_, p2_, s0_, s1_, s2_, s3_, s4_, s5_, s6_, s7_, s8_, s9_, s10_, s11_⟩ := hdp h hI hWA
  have HFT : Hid (∀ w', Kept WA w' none → Calls Tryd.prog 37 #[siteV X S, planV P a c] w' fun e w2 => e = .returned (.bool false) ∧ Kept w' w2 none) := fun w' q => by
    have hx := rfits_any (HS.out.kept q) (HI.out.kept q) hs
    rw [hp] at hx
    exact hx
  have hK0 := Kept.refl WA none
  clear h hI
  go_enter Tryd.func16, Tryd.ntmps16
  go_wp2_with (first | rw [hWA] | (have hgo := hKC; clear hgo; go_at_call 37; refine (HFT.out _ hKC).mono ?_; rintro e wF ⟨rfl, hkF⟩; have hKF : Kept WA wF none := hKC.tr hkF) | (go_at_call 35; have hx := rcheck_any HS.out; rw [hce] at hx; refine hx.mono ?_; rintro e wC ⟨rfl, hkC⟩; have hKC : Kept WA wC none := hkC; clear hx))
  go_ret3
  exact ⟨rfl, HK.out.tr hKF⟩
set_option maxRecDepth 100000 in
set_option maxHeartbeats 2000000 in
theorem rat_neg {X : Sa} {S : St} {w : World} (h : Sat w X S) {P : Pl} {a : Option Addr} {c : Nat} (hI : Ints w a P.splits.length c P.splits) (t : Int) (hs : siteB S = true) (hp : planB S P = true) (h0 : t < 0) : Calls Tryd.prog 16 #[siteV X S, planV P a c, .int .i64 t] w fun e w' => e = .returned (.tuple #[.int .i64 0, .int .i64 0, .int .i64 2]) ∧ Kept w w' none := by
  have hce : checkE S = 0 := by unfold checkE; rw [hs]; rfl
  obtain ⟨WA, hWA⟩ : ∃ WA, ((w.alloc (.cells #[.int .i64 S.id, .slice X.g S.groups.length X.gc, .slice X.a S.apart.length X.ac, .slice X.b S.between.length X.bc, .slice X.p S.phases.length X.pc, .slice X.e S.eyes.length X.ec, .int .i64 S.watch, .int .i64 S.feed, .int .i64 S.heal, .int .i64 S.low, .int .i64 S.high, .slice X.l S.plans.length X.lc] 35)).alloc (.cells #[.int .i64 P.cycle, .int .i64 P.offset, .slice a P.splits.length c] 24)) = WA := ⟨_, rfl⟩
  obtain ⟨HSB, HBP, HSZ, HK, HS, HI, p0_, p1_, p2_, s0_, s1_, s2_, s3_, s4_, s5_, s6_, s7_, s8_, s9_, s10_, s11_⟩ := hdp h hI hWA
  have HFT : Hid (∀ w', Kept WA w' none → Calls Tryd.prog 37 #[siteV X S, planV P a c] w' fun e w2 => e = .returned (.bool true) ∧ Kept w' w2 none) := fun w' q => by
    have hx := rfits_any (HS.out.kept q) (HI.out.kept q) hs
    rw [hp] at hx
    exact hx
  have hK0 := Kept.refl WA none
  clear h hI
  go_enter Tryd.func16, Tryd.ntmps16
  go_wp2_with (first | rw [hWA] | (have hgo := hKC; clear hgo; go_at_call 37; refine (HFT.out _ hKC).mono ?_; rintro e wF ⟨rfl, hkF⟩; have hKF : Kept WA wF none := hKC.tr hkF) | (go_at_call 35; have hx := rcheck_any HS.out; rw [hce] at hx; refine hx.mono ?_; rintro e wC ⟨rfl, hkC⟩; have hKC : Kept WA wC none := hkC; clear hx))
  go_ret3
  exact ⟨rfl, HK.out.tr hKF⟩
set_option maxRecDepth 100000 in
set_option maxHeartbeats 2000000 in
theorem rat_far {X : Sa} {S : St} {w : World} (h : Sat w X S) {P : Pl} {a : Option Addr} {c : Nat} (hI : Ints w a P.splits.length c P.splits) (t : Int) (hs : siteB S = true) (hp : planB S P = true) (h0 : ¬ t < 0) (h9 : 1073741824 < t) : Calls Tryd.prog 16 #[siteV X S, planV P a c, .int .i64 t] w fun e w' => e = .returned (.tuple #[.int .i64 0, .int .i64 0, .int .i64 2]) ∧ Kept w w' none := by
  have hce : checkE S = 0 := by unfold checkE; rw [hs]; rfl
  obtain ⟨WA, hWA⟩ : ∃ WA, ((w.alloc (.cells #[.int .i64 S.id, .slice X.g S.groups.length X.gc, .slice X.a S.apart.length X.ac, .slice X.b S.between.length X.bc, .slice X.p S.phases.length X.pc, .slice X.e S.eyes.length X.ec, .int .i64 S.watch, .int .i64 S.feed, .int .i64 S.heal, .int .i64 S.low, .int .i64 S.high, .slice X.l S.plans.length X.lc] 35)).alloc (.cells #[.int .i64 P.cycle, .int .i64 P.offset, .slice a P.splits.length c] 24)) = WA := ⟨_, rfl⟩
  obtain ⟨HSB, HBP, HSZ, HK, HS, HI, p0_, p1_, p2_, s0_, s1_, s2_, s3_, s4_, s5_, s6_, s7_, s8_, s9_, s10_, s11_⟩ := hdp h hI hWA
  have HFT : Hid (∀ w', Kept WA w' none → Calls Tryd.prog 37 #[siteV X S, planV P a c] w' fun e w2 => e = .returned (.bool true) ∧ Kept w' w2 none) := fun w' q => by
    have hx := rfits_any (HS.out.kept q) (HI.out.kept q) hs
    rw [hp] at hx
    exact hx
  have hK0 := Kept.refl WA none
  clear h hI
  go_enter Tryd.func16, Tryd.ntmps16
  go_wp2_with (first | rw [hWA] | (have hgo := hKC; clear hgo; go_at_call 37; refine (HFT.out _ hKC).mono ?_; rintro e wF ⟨rfl, hkF⟩; have hKF : Kept WA wF none := hKC.tr hkF) | (go_at_call 35; have hx := rcheck_any HS.out; rw [hce] at hx; refine hx.mono ?_; rintro e wC ⟨rfl, hkC⟩; have hKC : Kept WA wC none := hkC; clear hx))
  go_ret3
  exact ⟨rfl, HK.out.tr hKF⟩
set_option maxRecDepth 100000 in
set_option maxHeartbeats 2000000 in
theorem rat_go {X : Sa} {S : St} {w : World} (h : Sat w X S) {P : Pl} {a : Option Addr} {c : Nat} (hI : Ints w a P.splits.length c P.splits) (t : Nat) (hs : siteB S = true) (hp : planB S P = true) (h9 : t ≤ 1073741824) : Calls Tryd.prog 16 #[siteV X S, planV P a c, .int .i64 (t : Int)] w fun e w' => e = .returned (.tuple #[.int .i64 ((partV P t).1 : Int), .int .i64 ((partV P t).2 : Int), .int .i64 0]) ∧ Kept w w' none := by
  have hce : checkE S = 0 := by unfold checkE; rw [hs]; rfl
  have hpf := plan_facts hp
  have h90 : ¬ (1073741824 : Int) < (t : Int) := by omega
  have h91 : ¬ (t : Int) < 0 := by omega
  obtain ⟨WA, hWA⟩ : ∃ WA, ((w.alloc (.cells #[.int .i64 S.id, .slice X.g S.groups.length X.gc, .slice X.a S.apart.length X.ac, .slice X.b S.between.length X.bc, .slice X.p S.phases.length X.pc, .slice X.e S.eyes.length X.ec, .int .i64 S.watch, .int .i64 S.feed, .int .i64 S.heal, .int .i64 S.low, .int .i64 S.high, .slice X.l S.plans.length X.lc] 35)).alloc (.cells #[.int .i64 P.cycle, .int .i64 P.offset, .slice a P.splits.length c] 24)) = WA := ⟨_, rfl⟩
  obtain ⟨HSB, HBP, HSZ, HK, HS, HI, p0_, p1_, p2_, s0_, s1_, s2_, s3_, s4_, s5_, s6_, s7_, s8_, s9_, s10_, s11_⟩ := hdp h hI hWA
  have HFT : Hid (∀ w', Kept WA w' none → Calls Tryd.prog 37 #[siteV X S, planV P a c] w' fun e w2 => e = .returned (.bool true) ∧ Kept w' w2 none) := fun w' q => by
    have hx := rfits_any (HS.out.kept q) (HI.out.kept q) hs
    rw [hp] at hx
    exact hx
  have HPT : Hid (∀ w', Kept WA w' none → Calls Tryd.prog 38 #[planV P a c, .int .i64 (t : Int)] w' fun e w2 => e = .returned (.tuple #[.int .i64 ((partV P t).1 : Int), .int .i64 ((partV P t).2 : Int)]) ∧ Kept w' w2 none) := fun w' q => rpart_any hs hpf (HI.out.kept q) t h9
  clear hpf hs hp
  have hK0 := Kept.refl WA none
  clear h hI
  go_enter Tryd.func16, Tryd.ntmps16
  go_wp2_with (first | rw [hWA] | (have hgo := hKF; clear hgo; go_at_call 38; refine (HPT.out _ hKF).mono ?_; rintro e wT ⟨rfl, hkT⟩; have hKT : Kept WA wT none := hKF.tr hkT) | (have hgo := hKC; clear hgo; go_at_call 37; refine (HFT.out _ hKC).mono ?_; rintro e wF ⟨rfl, hkF⟩; have hKF : Kept WA wF none := hKC.tr hkF) | (go_at_call 35; have hx := rcheck_any HS.out; rw [hce] at hx; refine hx.mono ?_; rintro e wC ⟨rfl, hkC⟩; have hKC : Kept WA wC none := hkC; clear hx))
  go_ret3
  exact ⟨rfl, HK.out.tr hKT⟩
theorem rat_any {X : Sa} {S : St} {w : World} (h : Sat w X S) {P : Pl} {a : Option Addr} {c : Nat} (hI : Ints w a P.splits.length c P.splits) (t : Int) : Calls Tryd.prog 16 #[siteV X S, planV P a c, .int .i64 t] w fun e w' => e = .returned (.tuple #[.int .i64 (atPh S P t), .int .i64 (atIn S P t), .int .i64 (atE S P t)]) ∧ Kept w w' none := by
  by_cases he : atE S P t = 0
  · obtain ⟨hs, hp, n, rfl, hn⟩ := atE_ok he
    unfold atPh atIn
    rw [if_pos he, if_pos he, he]
    exact rat_go h hI n hs hp hn
  · unfold atPh atIn
    rw [if_neg he, if_neg he]
    unfold atE at he ⊢
    cases hs : siteB S with
    | false => exact rat_no h hI t hs
    | true =>
      cases hp : planB S P with
      | false => exact rat_plan h hI t hs hp
      | true =>
        rw [hs, hp, if_neg (by decide), if_neg (by decide)] at he
        rw [if_neg (by decide), if_neg (by decide)]
        by_cases e : t < 0 ∨ 1073741824 < t
        · rw [if_pos e]
          by_cases e1 : t < 0
          · exact rat_neg h hI t hs hp e1
          · exact rat_far h hI t hs hp e1 (by omega)
        · exact absurd (if_neg e) he
set_option maxRecDepth 100000 in
set_option maxHeartbeats 2000000 in
theorem rwan_no {X : Sa} {S : St} {w : World} (h : Sat w X S) {P : Pl} {a : Option Addr} {c : Nat} (hI : Ints w a P.splits.length c P.splits) (t : Int) (E : Int) (hE : atE S P t = E) (h0 : E ≠ 0) : Calls Tryd.prog 17 #[siteV X S, planV P a c, .int .i64 t] w fun e w' => e = .returned (.tuple #[.int .i64 0, .int .i64 E]) ∧ Kept w w' none := by
  have hEb : (E != 0) = true := by simpa using h0
  have hpz : atPh S P t = 0 := by unfold atPh; rw [hE, if_neg h0]
  have hiz : atIn S P t = 0 := by unfold atIn; rw [hE, if_neg h0]
  obtain ⟨WA, hWA⟩ : ∃ WA, ((w.alloc (.cells #[.int .i64 S.id, .slice X.g S.groups.length X.gc, .slice X.a S.apart.length X.ac, .slice X.b S.between.length X.bc, .slice X.p S.phases.length X.pc, .slice X.e S.eyes.length X.ec, .int .i64 S.watch, .int .i64 S.feed, .int .i64 S.heal, .int .i64 S.low, .int .i64 S.high, .slice X.l S.plans.length X.lc] 35)).alloc (.cells #[.int .i64 P.cycle, .int .i64 P.offset, .slice a P.splits.length c] 24)) = WA := ⟨_, rfl⟩
  obtain ⟨HSB, HBP, HSZ, HK, HS, HI, p0_, p1_, p2_, s0_, s1_, s2_, s3_, s4_, s5_, s6_, s7_, s8_, s9_, s10_, s11_⟩ := hdp h hI hWA
  have HAT : Hid (Calls Tryd.prog 16 #[siteV X S, planV P a c, .int .i64 t] WA fun e w' => e = .returned (.tuple #[.int .i64 0, .int .i64 0, .int .i64 E]) ∧ Kept WA w' none) := by
    have hx := rat_any HS.out HI.out t
    rw [hpz, hiz, hE] at hx
    exact hx
  clear hE hpz hiz
  have hK0 := Kept.refl WA none
  clear h hI
  go_enter Tryd.func17, Tryd.ntmps17
  go_wp2_with (first | rw [hWA] | (go_at_call 16; refine HAT.out.mono ?_; rintro e wC ⟨rfl, hkC⟩; have hKC : Kept WA wC none := hkC))
  go_ret2
  exact ⟨rfl, HK.out.tr hkC⟩
set_option maxRecDepth 100000 in
set_option maxHeartbeats 2000000 in
theorem rwan_nx {X : Sa} {S : St} {w : World} (h : Sat w X S) {P : Pl} {a : Option Addr} {c : Nat} (hI : Ints w a P.splits.length c P.splits) (t : Nat) (hs : siteB S = true) (hp : planB S P = true) (h9 : t ≤ 1073741824) (i x : Nat) (e : partV P t = (i, x)) (hi : i < S.phases.length) (hx0 : (x : Int) < P.splits.getD i 0) (hc : P.splits.getD i 0 - gapM S i ≤ (x : Int)) : Calls Tryd.prog 17 #[siteV X S, planV P a c, .int .i64 (t : Int)] w fun e w' => e = .returned (.tuple #[.int .i64 (((i + 1) % S.phases.length : Nat) : Int), .int .i64 0]) ∧ Kept w w' none := by
  have hpf := plan_facts hp
  have hn9 := (span_may hs).base.sh.ok.np
  have hcf := cyc_facts hs
  have hgr : 0 ≤ gapM S i ∧ gapM S i ≤ 1048576 := (span_may hs).base.lies i ((i + 1) % S.phases.length)
  have hsr : 1 ≤ P.splits.getD i 0 ∧ P.splits.getD i 0 ≤ 1048576 := by
    have h1 := hpf.sp i hi
    have h2 := partM_ge hs hi
    have h3 := sumF_one (f := fun k => P.splits.getD k 0) (n := S.phases.length) (i := i) (fun k hk => by have := hpf.sp k hk; have := partM_ge hs hk; omega) hi
    have h4 := hpf.tot
    have h5 := hpf.hi
    omega
  have hin : i < P.splits.length := by rw [hpf.n]; exact hi
  obtain ⟨WA, hWA⟩ : ∃ WA, ((w.alloc (.cells #[.int .i64 S.id, .slice X.g S.groups.length X.gc, .slice X.a S.apart.length X.ac, .slice X.b S.between.length X.bc, .slice X.p S.phases.length X.pc, .slice X.e S.eyes.length X.ec, .int .i64 S.watch, .int .i64 S.feed, .int .i64 S.heal, .int .i64 S.low, .int .i64 S.high, .slice X.l S.plans.length X.lc] 35)).alloc (.cells #[.int .i64 P.cycle, .int .i64 P.offset, .slice a P.splits.length c] 24)) = WA := ⟨_, rfl⟩
  obtain ⟨HSB, HBP, HSZ, HK, HS, HI, p0_, p1_, p2_, s0_, s1_, s2_, s3_, s4_, s5_, s6_, s7_, s8_, s9_, s10_, s11_⟩ := hdp h hI hWA
  have HAT : Hid (Calls Tryd.prog 16 #[siteV X S, planV P a c, .int .i64 (t : Int)] WA fun e w' => e = .returned (.tuple #[.int .i64 (i : Int), .int .i64 (x : Int), .int .i64 0]) ∧ Kept WA w' none) := by
    have hx := rat_go HS.out HI.out t hs hp h9
    rw [e] at hx
    exact hx
  have HGP : Hid (∀ w', Kept WA w' none → Calls Tryd.prog 39 #[siteV X S, .int .i64 (i : Int)] w' fun e w2 => e = .returned (.int .i64 (gapM S i)) ∧ Kept w' w2 none) := fun w' q => rgap_any (HS.out.kept q) hs hi
  have HAF : Hid (∀ w', Kept WA w' none → Calls Tryd.prog 40 #[siteV X S, .int .i64 (i : Int)] w' fun e w2 => e = .returned (.int .i64 (((i + 1) % S.phases.length : Nat) : Int)) ∧ Kept w' w2 none) := fun w' q => raft_any (HS.out.kept q) hn9.2 hi
  have hK0 := Kept.refl WA none
  clear h hI
  obtain ⟨b, off, ea, hb, hcel⟩ := HI.out.at_ (by omega)
  have kc := hcel i hin
  have kc_ : ∀ w', Kept WA w' none → w'.cell? ⟨b, off + i, none⟩ = some (.int .i64 (P.splits.getD i 0)) := fun w' q => cell_kept0 kc q
  clear hcel hb kc hpf hcf hs hp e
  subst ea
  generalize P.splits.getD i 0 = y at *
  generalize gapM S i = z at *
  have HW : Hid (IntKind.i64.wrap (y - z) = y - z) := wrap_in (by omega) (by omega)
  go_enter Tryd.func17, Tryd.ntmps17
  go_wp2_with (first | rw [hWA] | (go_at_call 16; refine HAT.out.mono ?_; rintro e wC ⟨rfl, hkC⟩; have hKC : Kept WA wC none := hkC))
  have hH := hKC
  have hw : IntKind.i64.wrap (y - z) = y - z := HW.out
  go_region_held (fun w' => Kept WA w' none)
    ((first | exact hH | exact Kept.tr hH (Kept.drew _ _) | assumption | exact Kept.tr (by assumption) (Kept.drew _ _)))
    ((go_at_call 39; refine (HGP.out _ (by assumption)).mono ?_; rintro e wG ⟨rfl, hkG⟩; have hKG : Kept WA wG none := Kept.tr (by assumption) hkG))
  all_goals
    go_wp2_with (first | (have hgo := hKG; clear hgo; go_at_call 40; refine (HAF.out _ hKG).mono ?_; rintro e wN ⟨rfl, hkN⟩; have hKN : Kept WA wN none := hKG.tr hkN))
    go_ret2
    exact ⟨rfl, HK.out.tr hKN⟩
set_option maxRecDepth 100000 in
set_option maxHeartbeats 2000000 in
theorem rwan_own {X : Sa} {S : St} {w : World} (h : Sat w X S) {P : Pl} {a : Option Addr} {c : Nat} (hI : Ints w a P.splits.length c P.splits) (t : Nat) (hs : siteB S = true) (hp : planB S P = true) (h9 : t ≤ 1073741824) (i x : Nat) (e : partV P t = (i, x)) (hi : i < S.phases.length) (hx0 : (x : Int) < P.splits.getD i 0) (hc : ¬ P.splits.getD i 0 - gapM S i ≤ (x : Int)) : Calls Tryd.prog 17 #[siteV X S, planV P a c, .int .i64 (t : Int)] w fun e w' => e = .returned (.tuple #[.int .i64 ((i : Nat) : Int), .int .i64 0]) ∧ Kept w w' none := by
  have hpf := plan_facts hp
  have hn9 := (span_may hs).base.sh.ok.np
  have hcf := cyc_facts hs
  have hgr : 0 ≤ gapM S i ∧ gapM S i ≤ 1048576 := (span_may hs).base.lies i ((i + 1) % S.phases.length)
  have hsr : 1 ≤ P.splits.getD i 0 ∧ P.splits.getD i 0 ≤ 1048576 := by
    have h1 := hpf.sp i hi
    have h2 := partM_ge hs hi
    have h3 := sumF_one (f := fun k => P.splits.getD k 0) (n := S.phases.length) (i := i) (fun k hk => by have := hpf.sp k hk; have := partM_ge hs hk; omega) hi
    have h4 := hpf.tot
    have h5 := hpf.hi
    omega
  have hin : i < P.splits.length := by rw [hpf.n]; exact hi
  obtain ⟨WA, hWA⟩ : ∃ WA, ((w.alloc (.cells #[.int .i64 S.id, .slice X.g S.groups.length X.gc, .slice X.a S.apart.length X.ac, .slice X.b S.between.length X.bc, .slice X.p S.phases.length X.pc, .slice X.e S.eyes.length X.ec, .int .i64 S.watch, .int .i64 S.feed, .int .i64 S.heal, .int .i64 S.low, .int .i64 S.high, .slice X.l S.plans.length X.lc] 35)).alloc (.cells #[.int .i64 P.cycle, .int .i64 P.offset, .slice a P.splits.length c] 24)) = WA := ⟨_, rfl⟩
  obtain ⟨HSB, HBP, HSZ, HK, HS, HI, p0_, p1_, p2_, s0_, s1_, s2_, s3_, s4_, s5_, s6_, s7_, s8_, s9_, s10_, s11_⟩ := hdp h hI hWA
  have HAT : Hid (Calls Tryd.prog 16 #[siteV X S, planV P a c, .int .i64 (t : Int)] WA fun e w' => e = .returned (.tuple #[.int .i64 (i : Int), .int .i64 (x : Int), .int .i64 0]) ∧ Kept WA w' none) := by
    have hx := rat_go HS.out HI.out t hs hp h9
    rw [e] at hx
    exact hx
  have HGP : Hid (∀ w', Kept WA w' none → Calls Tryd.prog 39 #[siteV X S, .int .i64 (i : Int)] w' fun e w2 => e = .returned (.int .i64 (gapM S i)) ∧ Kept w' w2 none) := fun w' q => rgap_any (HS.out.kept q) hs hi
  have hK0 := Kept.refl WA none
  clear h hI
  obtain ⟨b, off, ea, hb, hcel⟩ := HI.out.at_ (by omega)
  have kc := hcel i hin
  have kc_ : ∀ w', Kept WA w' none → w'.cell? ⟨b, off + i, none⟩ = some (.int .i64 (P.splits.getD i 0)) := fun w' q => cell_kept0 kc q
  clear hcel hb kc hpf hcf hs hp e
  subst ea
  generalize P.splits.getD i 0 = y at *
  generalize gapM S i = z at *
  have HW : Hid (IntKind.i64.wrap (y - z) = y - z) := wrap_in (by omega) (by omega)
  go_enter Tryd.func17, Tryd.ntmps17
  go_wp2_with (first | rw [hWA] | (go_at_call 16; refine HAT.out.mono ?_; rintro e wC ⟨rfl, hkC⟩; have hKC : Kept WA wC none := hkC))
  have hH := hKC
  have hw : IntKind.i64.wrap (y - z) = y - z := HW.out
  go_region_held (fun w' => Kept WA w' none)
    ((first | exact hH | exact Kept.tr hH (Kept.drew _ _) | assumption | exact Kept.tr (by assumption) (Kept.drew _ _)))
    ((go_at_call 39; refine (HGP.out _ (by assumption)).mono ?_; rintro e wG ⟨rfl, hkG⟩; have hKG : Kept WA wG none := Kept.tr (by assumption) hkG))
  all_goals
    go_wp2
    go_ret2
    exact ⟨rfl, HK.out.tr hKG⟩
theorem rwan_go {X : Sa} {S : St} {w : World} (h : Sat w X S) {P : Pl} {a : Option Addr} {c : Nat} (hI : Ints w a P.splits.length c P.splits) (t : Nat) (hs : siteB S = true) (hp : planB S P = true) (h9 : t ≤ 1073741824) : Calls Tryd.prog 17 #[siteV X S, planV P a c, .int .i64 (t : Int)] w fun e w' => e = .returned (.tuple #[.int .i64 (wtN S P t : Int), .int .i64 0]) ∧ Kept w w' none := by
  have hpf := plan_facts hp
  obtain ⟨i, x, hi, hx, _, e⟩ := part_ex hs hpf t
  have h1 := hpf.sp i hi
  have h2 := partM_ge hs hi
  have hg := liesM_ge S i ((i + 1) % S.phases.length)
  have hx0 : (x : Int) < P.splits.getD i 0 := by unfold spN at hx; omega
  have hv : wtN S P t = if x + gpN S i < spN P i then i else nxP S.phases.length i := by
    unfold wtN wanP
    simp only [e]
  rw [hv]
  have hsp : (spN P i : Int) = P.splits.getD i 0 := by unfold spN; omega
  have hgp : (gpN S i : Int) = gapM S i := Int.toNat_of_nonneg hg
  by_cases hc : P.splits.getD i 0 - gapM S i ≤ (x : Int)
  · rw [if_neg (show ¬ (x + gpN S i < spN P i) by omega), nx_mod hi]
    exact rwan_nx h hI t hs hp h9 i x e hi hx0 hc
  · rw [if_pos (show x + gpN S i < spN P i by omega)]
    exact rwan_own h hI t hs hp h9 i x e hi hx0 hc
theorem rwan_any {X : Sa} {S : St} {w : World} (h : Sat w X S) {P : Pl} {a : Option Addr} {c : Nat} (hI : Ints w a P.splits.length c P.splits) (t : Int) : Calls Tryd.prog 17 #[siteV X S, planV P a c, .int .i64 t] w fun e w' => e = .returned (.tuple #[.int .i64 (wtV S P t), .int .i64 (atE S P t)]) ∧ Kept w w' none := by
  unfold wtV
  by_cases he : atE S P t = 0
  · rw [if_pos he, he]
    obtain ⟨hs, hp, n, rfl, hn⟩ := atE_ok he
    exact rwan_go h hI n hs hp hn
  · rw [if_neg he]
    exact rwan_no h hI t _ rfl he

end Go.Proofs.YtfhmfanmnhclfaaDoor
