import Derived.Test.YtfhmfanmnhclfaaDoorP33
namespace Go.Proofs.YtfhmfanmnhclfaaDoor
set_option linter.unusedVariables false
set_option linter.unusedSimpArgs false
open Go.RowKit Go.Lib Go.Deep

set_option maxRecDepth 100000 in
set_option maxHeartbeats 2000000 in
theorem pat_no {X : Sa} {S : St} {w : World} (h : Sat w X S) (hT : Tabb w) {P : Pl} {a : Option Addr} {c : Nat} (hI : Ints w a P.splits.length c P.splits) (t : Int) (hs : siteB S = false) : Calls Tryd.prog 11 #[siteV X S, planV P a c, .int .i64 t] w fun e w' => e = .returned (.tuple #[.int .i64 0, .int .i64 0, .int .i64 50]) ∧ Kept w w' none := by
  obtain ⟨WA, hWA⟩ : ∃ WA, ((w.alloc (.cells #[.int .i64 S.id, .slice X.g S.groups.length X.gc, .slice X.a S.apart.length X.ac, .slice X.b S.between.length X.bc, .slice X.p S.phases.length X.pc, .slice X.e S.eyes.length X.ec, .int .i64 S.watch, .int .i64 S.feed, .int .i64 S.heal, .int .i64 S.low, .int .i64 S.high, .slice X.l S.plans.length X.lc] 35)).alloc (.cells #[.int .i64 P.cycle, .int .i64 P.offset, .slice a P.splits.length c] 24)) = WA := ⟨_, rfl⟩
  obtain ⟨HSB, HBP, HSZ, HK, HS, HI, p0_, p1_, p2_, s0_, s1_, s2_, s3_, s4_, s5_, s6_, s7_, s8_, s9_, s10_, s11_⟩ := hdp h hI hWA
  have HT := Hid.mk' (hT.kept HK.out)
  have HPQ := Hid.mk' (planq_no HS.out HT.out hs P a c)
  have hK0 := Kept.refl WA none
  clear h hT hI
  go_enter Tryd.func11, Tryd.ntmps11
  go_wp2_with (first | rw [hWA] | (go_at_call 21; refine HPQ.out.mono ?_; rintro e wC ⟨rfl, hkC⟩; have hKC : Kept WA wC none := hkC))
  go_ret3
  exact ⟨rfl, HK.out.tr hkC⟩
set_option maxRecDepth 100000 in
set_option maxHeartbeats 2000000 in
theorem pat_plan {X : Sa} {S : St} {w : World} (h : Sat w X S) (hT : Tabb w) {P : Pl} {a : Option Addr} {c : Nat} (hI : Ints w a P.splits.length c P.splits) (t : Int) (hs : siteB S = true) (hp : planB S P = false) : Calls Tryd.prog 11 #[siteV X S, planV P a c, .int .i64 t] w fun e w' => e = .returned (.tuple #[.int .i64 0, .int .i64 0, .int .i64 170]) ∧ Kept w w' none := by
  obtain ⟨WA, hWA⟩ : ∃ WA, ((w.alloc (.cells #[.int .i64 S.id, .slice X.g S.groups.length X.gc, .slice X.a S.apart.length X.ac, .slice X.b S.between.length X.bc, .slice X.p S.phases.length X.pc, .slice X.e S.eyes.length X.ec, .int .i64 S.watch, .int .i64 S.feed, .int .i64 S.heal, .int .i64 S.low, .int .i64 S.high, .slice X.l S.plans.length X.lc] 35)).alloc (.cells #[.int .i64 P.cycle, .int .i64 P.offset, .slice a P.splits.length c] 24)) = WA := ⟨_, rfl⟩
  obtain ⟨HSB, HBP, HSZ, HK, HS, HI, p0_, p1_, p2_, s0_, s1_, s2_, s3_, s4_, s5_, s6_, s7_, s8_, s9_, s10_, s11_⟩ := hdp h hI hWA
  have HT := Hid.mk' (hT.kept HK.out)
  have HPQ : Hid (Calls Tryd.prog 21 #[siteV X S, planV P a c] WA fun e w' => e = .returned (.tuple #[.bool false, .int .i64 0]) ∧ Kept WA w' none) := by
    have hx := planq_yes HS.out HT.out hs P a c HI.out
    rw [hp] at hx
    exact hx
  have hK0 := Kept.refl WA none
  clear h hT hI
  go_enter Tryd.func11, Tryd.ntmps11
  go_wp2_with (first | rw [hWA] | (go_at_call 21; refine HPQ.out.mono ?_; rintro e wC ⟨rfl, hkC⟩; have hKC : Kept WA wC none := hkC))
  go_ret3
  exact ⟨rfl, HK.out.tr hkC⟩
set_option maxRecDepth 100000 in
set_option maxHeartbeats 2000000 in
theorem pat_neg {X : Sa} {S : St} {w : World} (h : Sat w X S) (hT : Tabb w) {P : Pl} {a : Option Addr} {c : Nat} (hI : Ints w a P.splits.length c P.splits) (t : Int) (hs : siteB S = true) (hp : planB S P = true) (h0 : t < 0) : Calls Tryd.prog 11 #[siteV X S, planV P a c, .int .i64 t] w fun e w' => e = .returned (.tuple #[.int .i64 0, .int .i64 0, .int .i64 2]) ∧ Kept w w' none := by
  obtain ⟨WA, hWA⟩ : ∃ WA, ((w.alloc (.cells #[.int .i64 S.id, .slice X.g S.groups.length X.gc, .slice X.a S.apart.length X.ac, .slice X.b S.between.length X.bc, .slice X.p S.phases.length X.pc, .slice X.e S.eyes.length X.ec, .int .i64 S.watch, .int .i64 S.feed, .int .i64 S.heal, .int .i64 S.low, .int .i64 S.high, .slice X.l S.plans.length X.lc] 35)).alloc (.cells #[.int .i64 P.cycle, .int .i64 P.offset, .slice a P.splits.length c] 24)) = WA := ⟨_, rfl⟩
  obtain ⟨HSB, HBP, HSZ, HK, HS, HI, p0_, p1_, p2_, s0_, s1_, s2_, s3_, s4_, s5_, s6_, s7_, s8_, s9_, s10_, s11_⟩ := hdp h hI hWA
  have HT := Hid.mk' (hT.kept HK.out)
  have HPQ : Hid (Calls Tryd.prog 21 #[siteV X S, planV P a c] WA fun e w' => e = .returned (.tuple #[.bool true, .int .i64 0]) ∧ Kept WA w' none) := by
    have hx := planq_yes HS.out HT.out hs P a c HI.out
    rw [hp] at hx
    exact hx
  have hK0 := Kept.refl WA none
  clear h hT hI
  go_enter Tryd.func11, Tryd.ntmps11
  go_wp2_with (first | rw [hWA] | (go_at_call 21; refine HPQ.out.mono ?_; rintro e wC ⟨rfl, hkC⟩; have hKC : Kept WA wC none := hkC))
  go_ret3
  exact ⟨rfl, HK.out.tr hkC⟩
set_option maxRecDepth 100000 in
set_option maxHeartbeats 2000000 in
theorem pat_far {X : Sa} {S : St} {w : World} (h : Sat w X S) (hT : Tabb w) {P : Pl} {a : Option Addr} {c : Nat} (hI : Ints w a P.splits.length c P.splits) (t : Int) (hs : siteB S = true) (hp : planB S P = true) (h0 : ¬ t < 0) (h9 : 1073741824 < t) : Calls Tryd.prog 11 #[siteV X S, planV P a c, .int .i64 t] w fun e w' => e = .returned (.tuple #[.int .i64 0, .int .i64 0, .int .i64 2]) ∧ Kept w w' none := by
  obtain ⟨WA, hWA⟩ : ∃ WA, ((w.alloc (.cells #[.int .i64 S.id, .slice X.g S.groups.length X.gc, .slice X.a S.apart.length X.ac, .slice X.b S.between.length X.bc, .slice X.p S.phases.length X.pc, .slice X.e S.eyes.length X.ec, .int .i64 S.watch, .int .i64 S.feed, .int .i64 S.heal, .int .i64 S.low, .int .i64 S.high, .slice X.l S.plans.length X.lc] 35)).alloc (.cells #[.int .i64 P.cycle, .int .i64 P.offset, .slice a P.splits.length c] 24)) = WA := ⟨_, rfl⟩
  obtain ⟨HSB, HBP, HSZ, HK, HS, HI, p0_, p1_, p2_, s0_, s1_, s2_, s3_, s4_, s5_, s6_, s7_, s8_, s9_, s10_, s11_⟩ := hdp h hI hWA
  have HT := Hid.mk' (hT.kept HK.out)
  have HPQ : Hid (Calls Tryd.prog 21 #[siteV X S, planV P a c] WA fun e w' => e = .returned (.tuple #[.bool true, .int .i64 0]) ∧ Kept WA w' none) := by
    have hx := planq_yes HS.out HT.out hs P a c HI.out
    rw [hp] at hx
    exact hx
  have hK0 := Kept.refl WA none
  clear h hT hI
  go_enter Tryd.func11, Tryd.ntmps11
  go_wp2_with (first | rw [hWA] | (go_at_call 21; refine HPQ.out.mono ?_; rintro e wC ⟨rfl, hkC⟩; have hKC : Kept WA wC none := hkC))
  go_ret3
  exact ⟨rfl, HK.out.tr hkC⟩
set_option maxRecDepth 100000 in
set_option maxHeartbeats 2000000 in
theorem pat_go {X : Sa} {S : St} {w : World} (h : Sat w X S) (hT : Tabb w) {P : Pl} {a : Option Addr} {c : Nat} (hI : Ints w a P.splits.length c P.splits) (t : Nat) (hs : siteB S = true) (hp : planB S P = true) (h9 : t ≤ 1073741824) : Calls Tryd.prog 11 #[siteV X S, planV P a c, .int .i64 (t : Int)] w fun e w' => e = .returned (.tuple #[.int .i64 ((partV P t).1 : Int), .int .i64 ((partV P t).2 : Int), .int .i64 0]) ∧ Kept w w' none := by
  have hpf := plan_facts hp
  have h90 : ¬ (1073741824 : Int) < (t : Int) := by omega
  have h91 : ¬ (t : Int) < 0 := by omega
  obtain ⟨WA, hWA⟩ : ∃ WA, ((w.alloc (.cells #[.int .i64 S.id, .slice X.g S.groups.length X.gc, .slice X.a S.apart.length X.ac, .slice X.b S.between.length X.bc, .slice X.p S.phases.length X.pc, .slice X.e S.eyes.length X.ec, .int .i64 S.watch, .int .i64 S.feed, .int .i64 S.heal, .int .i64 S.low, .int .i64 S.high, .slice X.l S.plans.length X.lc] 35)).alloc (.cells #[.int .i64 P.cycle, .int .i64 P.offset, .slice a P.splits.length c] 24)) = WA := ⟨_, rfl⟩
  obtain ⟨HSB, HBP, HSZ, HK, HS, HI, p0_, p1_, p2_, s0_, s1_, s2_, s3_, s4_, s5_, s6_, s7_, s8_, s9_, s10_, s11_⟩ := hdp h hI hWA
  have HT := Hid.mk' (hT.kept HK.out)
  have HPQ : Hid (Calls Tryd.prog 21 #[siteV X S, planV P a c] WA fun e w' => e = .returned (.tuple #[.bool true, .int .i64 0]) ∧ Kept WA w' none) := by
    have hx := planq_yes HS.out HT.out hs P a c HI.out
    rw [hp] at hx
    exact hx
  have HWH : Hid (∀ w', Kept WA w' none → Calls Tryd.prog 32 #[planV P a c, .int .i64 (t : Int)] w' fun e w2 => e = .returned (.tuple #[.int .i64 ((partV P t).1 : Int), .int .i64 ((partV P t).2 : Int)]) ∧ Kept w' w2 none) := fun w' q => pwho_any hs hpf (HI.out.kept q) t h9
  clear hpf hs hp
  have hK0 := Kept.refl WA none
  clear h hT hI
  go_enter Tryd.func11, Tryd.ntmps11
  go_wp2_with (first | rw [hWA] | (have hgo := hKC; clear hgo; go_at_call 32; refine (HWH.out _ hKC).mono ?_; rintro e wT ⟨rfl, hkT⟩) | (go_at_call 21; refine HPQ.out.mono ?_; rintro e wC ⟨rfl, hkC⟩; have hKC : Kept WA wC none := hkC))
  go_ret3
  exact ⟨rfl, (HK.out.tr hkC).tr hkT⟩

/-- What At tells. -/
def atE (S : St) (P : Pl) (t : Int) : Int := if siteB S = false then 50 else if planB S P = false then 170 else if t < 0 ∨ 1073741824 < t then 2 else 0
def atPh (S : St) (P : Pl) (t : Int) : Int := if atE S P t = 0 then ((partV P t.toNat).1 : Int) else 0
def atIn (S : St) (P : Pl) (t : Int) : Int := if atE S P t = 0 then ((partV P t.toNat).2 : Int) else 0
theorem atE_ok {S : St} {P : Pl} {t : Int} (h : atE S P t = 0) : siteB S = true ∧ planB S P = true ∧ ∃ n : Nat, t = n ∧ n ≤ 1073741824 := by
  unfold atE at h
  cases hs : siteB S with
  | false => rw [hs, if_pos rfl] at h; cases h
  | true =>
    cases hp : planB S P with
    | false => rw [hs, hp, if_neg (by decide), if_pos rfl] at h; cases h
    | true =>
      rw [hs, hp, if_neg (by decide), if_neg (by decide)] at h
      by_cases e : t < 0 ∨ 1073741824 < t
      · rw [if_pos e] at h; cases h
      · exact ⟨rfl, rfl, t.toNat, by omega, by omega⟩
theorem pat_any {X : Sa} {S : St} {w : World} (h : Sat w X S) (hT : Tabb w) {P : Pl} {a : Option Addr} {c : Nat} (hI : Ints w a P.splits.length c P.splits) (t : Int) : Calls Tryd.prog 11 #[siteV X S, planV P a c, .int .i64 t] w fun e w' => e = .returned (.tuple #[.int .i64 (atPh S P t), .int .i64 (atIn S P t), .int .i64 (atE S P t)]) ∧ Kept w w' none := by
  by_cases he : atE S P t = 0
  · obtain ⟨hs, hp, n, rfl, hn⟩ := atE_ok he
    unfold atPh atIn
    rw [if_pos he, if_pos he, he]
    exact pat_go h hT hI n hs hp hn
  · unfold atPh atIn
    rw [if_neg he, if_neg he]
    unfold atE at he ⊢
    cases hs : siteB S with
    | false => exact pat_no h hT hI t hs
    | true =>
      cases hp : planB S P with
      | false => exact pat_plan h hT hI t hs hp
      | true =>
        rw [hs, hp, if_neg (by decide), if_neg (by decide)] at he
        rw [if_neg (by decide), if_neg (by decide)]
        by_cases e : t < 0 ∨ 1073741824 < t
        · rw [if_pos e]
          by_cases e1 : t < 0
          · exact pat_neg h hT hI t hs hp e1
          · exact pat_far h hT hI t hs hp e1 (by omega)
        · exact absurd (if_neg e) he

/-! ### Wants -/
/-- Which phase is wanted. -/
def wtN (S : St) (P : Pl) (t : Nat) : Nat := wanP S.phases.length (spN P) (gpN S) (fun u => (partV P u).1) (fun u => (partV P u).2) t
def wtV (S : St) (P : Pl) (t : Int) : Int := if atE S P t = 0 then (wtN S P t.toNat : Int) else 0
set_option maxRecDepth 100000 in
set_option maxHeartbeats 2000000 in
theorem pwan_no {X : Sa} {S : St} {w : World} (h : Sat w X S) (hT : Tabb w) {P : Pl} {a : Option Addr} {c : Nat} (hI : Ints w a P.splits.length c P.splits) (t : Int) (E : Int) (hE : atE S P t = E) (h0 : E ≠ 0) : Calls Tryd.prog 12 #[siteV X S, planV P a c, .int .i64 t] w fun e w' => e = .returned (.tuple #[.int .i64 0, .int .i64 E]) ∧ Kept w w' none := by
  have hEb : (E != 0) = true := by simpa using h0
  have hpz : atPh S P t = 0 := by unfold atPh; rw [hE, if_neg h0]
  have hiz : atIn S P t = 0 := by unfold atIn; rw [hE, if_neg h0]
  obtain ⟨WA, hWA⟩ : ∃ WA, ((w.alloc (.cells #[.int .i64 S.id, .slice X.g S.groups.length X.gc, .slice X.a S.apart.length X.ac, .slice X.b S.between.length X.bc, .slice X.p S.phases.length X.pc, .slice X.e S.eyes.length X.ec, .int .i64 S.watch, .int .i64 S.feed, .int .i64 S.heal, .int .i64 S.low, .int .i64 S.high, .slice X.l S.plans.length X.lc] 35)).alloc (.cells #[.int .i64 P.cycle, .int .i64 P.offset, .slice a P.splits.length c] 24)) = WA := ⟨_, rfl⟩
  obtain ⟨HSB, HBP, HSZ, HK, HS, HI, p0_, p1_, p2_, s0_, s1_, s2_, s3_, s4_, s5_, s6_, s7_, s8_, s9_, s10_, s11_⟩ := hdp h hI hWA
  have HT := Hid.mk' (hT.kept HK.out)
  have HAT : Hid (Calls Tryd.prog 11 #[siteV X S, planV P a c, .int .i64 t] WA fun e w' => e = .returned (.tuple #[.int .i64 0, .int .i64 0, .int .i64 E]) ∧ Kept WA w' none) := by
    have hx := pat_any HS.out HT.out HI.out t
    rw [hpz, hiz, hE] at hx
    exact hx
  clear hE hpz hiz
  have hK0 := Kept.refl WA none
  clear h hT hI
  go_enter Tryd.func12, Tryd.ntmps12
  go_wp2_with (first | rw [hWA] | (go_at_call 11; refine HAT.out.mono ?_; rintro e wC ⟨rfl, hkC⟩; have hKC : Kept WA wC none := hkC))
  go_ret2
  exact ⟨rfl, HK.out.tr hkC⟩
set_option maxRecDepth 100000 in
set_option maxHeartbeats 2000000 in
theorem pwan_nx {X : Sa} {S : St} {w : World} (h : Sat w X S) (hT : Tabb w) {P : Pl} {a : Option Addr} {c : Nat} (hI : Ints w a P.splits.length c P.splits) (t : Nat) (hs : siteB S = true) (hp : planB S P = true) (h9 : t ≤ 1073741824) (i x : Nat) (e : partV P t = (i, x)) (hi : i < S.phases.length) (hx0 : (x : Int) < P.splits.getD i 0) (hc : P.splits.getD i 0 - (x : Int) ≤ gapM S i) : Calls Tryd.prog 12 #[siteV X S, planV P a c, .int .i64 (t : Int)] w fun e w' => e = .returned (.tuple #[.int .i64 (((i + 1) % S.phases.length : Nat) : Int), .int .i64 0]) ∧ Kept w w' none := by
  have hpf := plan_facts hp
  have hn9 := (span_may hs).base.sh.ok.np
  have hcf := cyc_facts hs
  have hsr : 1 ≤ P.splits.getD i 0 ∧ P.splits.getD i 0 ≤ 1048576 := by
    have h1 := hpf.sp i hi
    have h2 := partM_ge hs hi
    have h3 := sumF_one (f := fun k => P.splits.getD k 0) (n := S.phases.length) (i := i) (fun k hk => by have := hpf.sp k hk; have := partM_ge hs hk; omega) hi
    have h4 := hpf.tot
    have h5 := hpf.hi
    omega
  have hin : i < P.splits.length := by rw [hpf.n]; exact hi
  obtain ⟨WA, hWA⟩ : ∃ WA, ((w.alloc (.cells #[.int .i64 S.id, .slice X.g S.groups.length X.gc, .slice X.a S.apart.length X.ac, .slice X.b S.between.length X.bc, .slice X.p S.phases.length X.pc, .slice X.e S.eyes.length X.ec, .int .i64 S.watch, .int .i64 S.feed, .int .i64 S.heal, .int .i64 S.low, .int .i64 S.high, .slice X.l S.plans.length X.lc] 35)).alloc (.cells #[.int .i64 P.cycle, .int .i64 P.offset, .slice a P.splits.length c] 24)) = WA := ⟨_, rfl⟩
  obtain ⟨HSB, HBP, HSZ, HK, HS, HI, p0_, p1_, p2_, s0_, s1_, s2_, s3_, s4_, s5_, s6_, s7_, s8_, s9_, s10_, s11_⟩ := hdp h hI hWA
  have HT := Hid.mk' (hT.kept HK.out)
  have HAT : Hid (Calls Tryd.prog 11 #[siteV X S, planV P a c, .int .i64 (t : Int)] WA fun e w' => e = .returned (.tuple #[.int .i64 (i : Int), .int .i64 (x : Int), .int .i64 0]) ∧ Kept WA w' none) := by
    have hx := pat_go HS.out HT.out HI.out t hs hp h9
    rw [e] at hx
    exact hx
  have HCL : Hid (∀ w', Kept WA w' none → Calls Tryd.prog 33 #[.pointer (some ⟨w.heap.size, 0, none⟩), .int .i64 (i : Int)] w' fun e w2 => e = .returned (.int .i64 (gapM S i)) ∧ Kept w' w2 none) := fun w' q => pclr_any (HSB.out.kept q) (HT.out.kept q) hs hi
  have HNX : Hid (∀ w', Kept WA w' none → Calls Tryd.prog 34 #[.pointer (some ⟨w.heap.size, 0, none⟩), .int .i64 (i : Int)] w' fun e w2 => e = .returned (.int .i64 (((i + 1) % S.phases.length : Nat) : Int)) ∧ w2 = w') := fun w' q => pnxt_any (HSB.out.kept q) hn9.2 hi
  have hK0 := Kept.refl WA none
  clear h hT hI
  obtain ⟨b, off, ea, hb, hcel⟩ := HI.out.at_ (by omega)
  have kc := hcel i hin
  have kc_ : ∀ w', Kept WA w' none → w'.cell? ⟨b, off + i, none⟩ = some (.int .i64 (P.splits.getD i 0)) := fun w' q => cell_kept0 kc q
  have hw : IntKind.i64.wrap (P.splits.getD i 0 - (x : Int)) = P.splits.getD i 0 - (x : Int) := wrap_in (by omega) (by omega)
  clear hcel hb kc hpf hcf hs hp e
  subst ea
  generalize P.splits.getD i 0 = y at *
  generalize gapM S i = z at *
  go_enter Tryd.func12, Tryd.ntmps12
  go_wp2_with (first | rw [hWA] | (have hgo := hKD; clear hgo; go_at_call 34; refine (HNX.out _ hKD).mono ?_; rintro e wN ⟨rfl, hwN⟩; have hwN := hwN.symm; subst hwN) | (have hgo := hKC; clear hgo; go_at_call 33; refine (HCL.out _ hKC).mono ?_; rintro e wD ⟨rfl, hkD⟩; have hKD : Kept WA wD none := hKC.tr hkD) | (go_at_call 11; refine HAT.out.mono ?_; rintro e wC ⟨rfl, hkC⟩; have hKC : Kept WA wC none := hkC))
  go_ret2
  exact ⟨rfl, HK.out.tr hKD⟩
set_option maxRecDepth 100000 in
set_option maxHeartbeats 2000000 in
theorem pwan_own {X : Sa} {S : St} {w : World} (h : Sat w X S) (hT : Tabb w) {P : Pl} {a : Option Addr} {c : Nat} (hI : Ints w a P.splits.length c P.splits) (t : Nat) (hs : siteB S = true) (hp : planB S P = true) (h9 : t ≤ 1073741824) (i x : Nat) (e : partV P t = (i, x)) (hi : i < S.phases.length) (hx0 : (x : Int) < P.splits.getD i 0) (hc : ¬ P.splits.getD i 0 - (x : Int) ≤ gapM S i) : Calls Tryd.prog 12 #[siteV X S, planV P a c, .int .i64 (t : Int)] w fun e w' => e = .returned (.tuple #[.int .i64 ((i : Nat) : Int), .int .i64 0]) ∧ Kept w w' none := by
  have hpf := plan_facts hp
  have hn9 := (span_may hs).base.sh.ok.np
  have hcf := cyc_facts hs
  have hsr : 1 ≤ P.splits.getD i 0 ∧ P.splits.getD i 0 ≤ 1048576 := by
    have h1 := hpf.sp i hi
    have h2 := partM_ge hs hi
    have h3 := sumF_one (f := fun k => P.splits.getD k 0) (n := S.phases.length) (i := i) (fun k hk => by have := hpf.sp k hk; have := partM_ge hs hk; omega) hi
    have h4 := hpf.tot
    have h5 := hpf.hi
    omega
  have hin : i < P.splits.length := by rw [hpf.n]; exact hi
  obtain ⟨WA, hWA⟩ : ∃ WA, ((w.alloc (.cells #[.int .i64 S.id, .slice X.g S.groups.length X.gc, .slice X.a S.apart.length X.ac, .slice X.b S.between.length X.bc, .slice X.p S.phases.length X.pc, .slice X.e S.eyes.length X.ec, .int .i64 S.watch, .int .i64 S.feed, .int .i64 S.heal, .int .i64 S.low, .int .i64 S.high, .slice X.l S.plans.length X.lc] 35)).alloc (.cells #[.int .i64 P.cycle, .int .i64 P.offset, .slice a P.splits.length c] 24)) = WA := ⟨_, rfl⟩
  obtain ⟨HSB, HBP, HSZ, HK, HS, HI, p0_, p1_, p2_, s0_, s1_, s2_, s3_, s4_, s5_, s6_, s7_, s8_, s9_, s10_, s11_⟩ := hdp h hI hWA
  have HT := Hid.mk' (hT.kept HK.out)
  have HAT : Hid (Calls Tryd.prog 11 #[siteV X S, planV P a c, .int .i64 (t : Int)] WA fun e w' => e = .returned (.tuple #[.int .i64 (i : Int), .int .i64 (x : Int), .int .i64 0]) ∧ Kept WA w' none) := by
    have hx := pat_go HS.out HT.out HI.out t hs hp h9
    rw [e] at hx
    exact hx
  have HCL : Hid (∀ w', Kept WA w' none → Calls Tryd.prog 33 #[.pointer (some ⟨w.heap.size, 0, none⟩), .int .i64 (i : Int)] w' fun e w2 => e = .returned (.int .i64 (gapM S i)) ∧ Kept w' w2 none) := fun w' q => pclr_any (HSB.out.kept q) (HT.out.kept q) hs hi
  have hK0 := Kept.refl WA none
  clear h hT hI
  obtain ⟨b, off, ea, hb, hcel⟩ := HI.out.at_ (by omega)
  have kc := hcel i hin
  have kc_ : ∀ w', Kept WA w' none → w'.cell? ⟨b, off + i, none⟩ = some (.int .i64 (P.splits.getD i 0)) := fun w' q => cell_kept0 kc q
  have hw : IntKind.i64.wrap (P.splits.getD i 0 - (x : Int)) = P.splits.getD i 0 - (x : Int) := wrap_in (by omega) (by omega)
  clear hcel hb kc hpf hcf hs hp e
  subst ea
  generalize P.splits.getD i 0 = y at *
  generalize gapM S i = z at *
  go_enter Tryd.func12, Tryd.ntmps12
  go_wp2_with (first | rw [hWA] | (have hgo := hKC; clear hgo; go_at_call 33; refine (HCL.out _ hKC).mono ?_; rintro e wD ⟨rfl, hkD⟩; have hKD : Kept WA wD none := hKC.tr hkD) | (go_at_call 11; refine HAT.out.mono ?_; rintro e wC ⟨rfl, hkC⟩; have hKC : Kept WA wC none := hkC))
  go_ret2
  exact ⟨rfl, HK.out.tr hKD⟩
theorem pwan_go {X : Sa} {S : St} {w : World} (h : Sat w X S) (hT : Tabb w) {P : Pl} {a : Option Addr} {c : Nat} (hI : Ints w a P.splits.length c P.splits) (t : Nat) (hs : siteB S = true) (hp : planB S P = true) (h9 : t ≤ 1073741824) : Calls Tryd.prog 12 #[siteV X S, planV P a c, .int .i64 (t : Int)] w fun e w' => e = .returned (.tuple #[.int .i64 (wtN S P t : Int), .int .i64 0]) ∧ Kept w w' none := by
  have hpf := plan_facts hp
  obtain ⟨i, x, hi, hx, _, e⟩ := part_ex hs hpf t
  have h1 := hpf.sp i hi
  have h2 := partM_ge hs hi
  have hg := liesM_ge S i ((i + 1) % S.phases.length)
  have hx0 : (x : Int) < P.splits.getD i 0 := by unfold spN at hx; omega
  have hv : wtN S P t = if x + gpN S i < spN P i then i else nxP S.phases.length i := by
    unfold wtN wanP
    simp only [e]
  rw [hv]
  have hsp : (spN P i : Int) = P.splits.getD i 0 := by unfold spN; omega
  have hgp : (gpN S i : Int) = gapM S i := Int.toNat_of_nonneg hg
  by_cases hc : P.splits.getD i 0 - (x : Int) ≤ gapM S i
  · rw [if_neg (show ¬ (x + gpN S i < spN P i) by omega), nx_mod hi]
    exact pwan_nx h hT hI t hs hp h9 i x e hi hx0 hc
  · rw [if_pos (show x + gpN S i < spN P i by omega)]
    exact pwan_own h hT hI t hs hp h9 i x e hi hx0 hc
theorem pwan_any {X : Sa} {S : St} {w : World} (h : Sat w X S) (hT : Tabb w) {P : Pl} {a : Option Addr} {c : Nat} (hI : Ints w a P.splits.length c P.splits) (t : Int) : Calls Tryd.prog 12 #[siteV X S, planV P a c, .int .i64 t] w fun e w' => e = .returned (.tuple #[.int .i64 (wtV S P t), .int .i64 (atE S P t)]) ∧ Kept w w' none := by
  unfold wtV
  by_cases he : atE S P t = 0
  · rw [if_pos he, he]
    obtain ⟨hs, hp, n, rfl, hn⟩ := atE_ok he
    exact pwan_go h hT hI n hs hp hn
  · rw [if_neg he]
    exact pwan_no h hT hI t _ rfl he

end Go.Proofs.YtfhmfanmnhclfaaDoor
