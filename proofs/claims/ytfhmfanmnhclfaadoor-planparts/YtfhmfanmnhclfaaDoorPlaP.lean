/-
  Texts joined: some of those that the proofs of this seat stand on.
-/
import Derived.Test.YtfhmfanmnhclfaaDoorPlaA
import Derived.Test.YtfhmfanmnhclfaaDoorPlnIJ
import Derived.Test.YtfhmfanmnhclfaaDoorRefG
/-
  THE WALK of PlanParts (made by a program).
-/
namespace Go.Proofs.YtfhmfanmnhclfaaDoor
open Go.RowKit Go.Lib Go.Deep
set_option linter.unusedVariables false
set_option linter.unusedSimpArgs false

set_option maxRecDepth 100000 in
set_option maxHeartbeats 3000000 in
theorem ppw_long {X : Sa} {S : St} {w : World} (h : Sat w X S) (hT : Tabb w) {P : Pl} {a : Option Addr} {c : Nat} (hI : Ints w a P.splits.length c P.splits) (t : Int) (hl : 100 < P.splits.length) : Calls Tryd.prog 6 #[siteV X S, planV P a c, .int .i64 t] w fun e w' => e = .returned (.bool true) ∧ Below w.heap.size w w' := by
  have hl1 : decide ((100 : Int) < (P.splits.length : Int)) = true := by simp <;> omega
  obtain ⟨WA, hWA⟩ : ∃ WA, ((w.alloc (.cells #[.int .i64 S.id, .slice X.g S.groups.length X.gc, .slice X.a S.apart.length X.ac, .slice X.b S.between.length X.bc, .slice X.p S.phases.length X.pc, .slice X.e S.eyes.length X.ec, .int .i64 S.watch, .int .i64 S.feed, .int .i64 S.heal, .int .i64 S.low, .int .i64 S.high, .slice X.l S.plans.length X.lc] 35)).alloc (.cells #[.int .i64 P.cycle, .int .i64 P.offset, .slice a P.splits.length c] 24)) = WA := ⟨_, rfl⟩
  obtain ⟨HSB, HBP, HSZ, HK, HS, HI, p0_, p1_, p2_, s0_, s1_, s2_, s3_, s4_, s5_, s6_, s7_, s8_, s9_, s10_, s11_⟩ := hdp h hI hWA
  have HT := Hid.mk' (hT.kept HK.out)
  have hK0 := Kept.refl WA none
  clear h hT hI
  go_enter Tryd.func6, Tryd.ntmps6
  go_wp2_with (first | rw [hWA] | (go_at_call 13; refine (palive_any HT.out).mono ?_; rintro e wv ⟨rfl, hkv⟩; have hKv : Kept WA wv none := hkv))
  go_at_call 14
  refine (rgreat_any (HS.out.kept hKv)).mono ?_
  rintro e wg ⟨gr, rfl, hgr, hkg⟩
  have hKg : Kept WA wg none := hKv.tr hkg
  clear hgr
  cases gr with
  | true =>
    go_wp2
    go_ret
    exact ⟨rfl, (HK.out.tr hKg).below⟩
  | false =>
    go_wp2
    go_ret
    exact ⟨by simp, (HK.out.tr hKg).below⟩
set_option maxRecDepth 100000 in
set_option maxHeartbeats 3000000 in
theorem ppw_cyc {X : Sa} {S : St} {w : World} (h : Sat w X S) (hT : Tabb w) {P : Pl} {a : Option Addr} {c : Nat} (hI : Ints w a P.splits.length c P.splits) (t : Int) (hl : P.splits.length ≤ 100) (hc : 300 < P.cycle) : Calls Tryd.prog 6 #[siteV X S, planV P a c, .int .i64 t] w fun e w' => e = .returned (.bool true) ∧ Below w.heap.size w w' := by
  have hl1 : decide ((100 : Int) < (P.splits.length : Int)) = false := by simp <;> omega
  have hl2 : decide ((300 : Int) < P.cycle) = true := by simp <;> omega
  obtain ⟨WA, hWA⟩ : ∃ WA, ((w.alloc (.cells #[.int .i64 S.id, .slice X.g S.groups.length X.gc, .slice X.a S.apart.length X.ac, .slice X.b S.between.length X.bc, .slice X.p S.phases.length X.pc, .slice X.e S.eyes.length X.ec, .int .i64 S.watch, .int .i64 S.feed, .int .i64 S.heal, .int .i64 S.low, .int .i64 S.high, .slice X.l S.plans.length X.lc] 35)).alloc (.cells #[.int .i64 P.cycle, .int .i64 P.offset, .slice a P.splits.length c] 24)) = WA := ⟨_, rfl⟩
  obtain ⟨HSB, HBP, HSZ, HK, HS, HI, p0_, p1_, p2_, s0_, s1_, s2_, s3_, s4_, s5_, s6_, s7_, s8_, s9_, s10_, s11_⟩ := hdp h hI hWA
  have HT := Hid.mk' (hT.kept HK.out)
  have hK0 := Kept.refl WA none
  clear h hT hI
  go_enter Tryd.func6, Tryd.ntmps6
  go_wp2_with (first | rw [hWA] | (go_at_call 13; refine (palive_any HT.out).mono ?_; rintro e wv ⟨rfl, hkv⟩; have hKv : Kept WA wv none := hkv))
  go_at_call 14
  refine (rgreat_any (HS.out.kept hKv)).mono ?_
  rintro e wg ⟨gr, rfl, hgr, hkg⟩
  have hKg : Kept WA wg none := hKv.tr hkg
  clear hgr
  cases gr with
  | true =>
    go_wp2
    go_ret
    exact ⟨rfl, (HK.out.tr hKg).below⟩
  | false =>
    go_wp2
    go_ret
    exact ⟨by simp, (HK.out.tr hKg).below⟩
set_option maxRecDepth 100000 in
set_option maxHeartbeats 3000000 in
theorem ppw_neg {X : Sa} {S : St} {w : World} (h : Sat w X S) (hT : Tabb w) {P : Pl} {a : Option Addr} {c : Nat} (hI : Ints w a P.splits.length c P.splits) (t : Int) (hl : P.splits.length ≤ 100) (hc : P.cycle ≤ 300) (h0 : t < 0) : Calls Tryd.prog 6 #[siteV X S, planV P a c, .int .i64 t] w fun e w' => e = .returned (.bool true) ∧ Below w.heap.size w w' := by
  have hl1 : decide ((100 : Int) < (P.splits.length : Int)) = false := by simp <;> omega
  have hl2 : decide ((300 : Int) < P.cycle) = false := by simp <;> omega
  have hl3 : decide (t < 0) = true := by simp <;> omega
  obtain ⟨WA, hWA⟩ : ∃ WA, ((w.alloc (.cells #[.int .i64 S.id, .slice X.g S.groups.length X.gc, .slice X.a S.apart.length X.ac, .slice X.b S.between.length X.bc, .slice X.p S.phases.length X.pc, .slice X.e S.eyes.length X.ec, .int .i64 S.watch, .int .i64 S.feed, .int .i64 S.heal, .int .i64 S.low, .int .i64 S.high, .slice X.l S.plans.length X.lc] 35)).alloc (.cells #[.int .i64 P.cycle, .int .i64 P.offset, .slice a P.splits.length c] 24)) = WA := ⟨_, rfl⟩
  obtain ⟨HSB, HBP, HSZ, HK, HS, HI, p0_, p1_, p2_, s0_, s1_, s2_, s3_, s4_, s5_, s6_, s7_, s8_, s9_, s10_, s11_⟩ := hdp h hI hWA
  have HT := Hid.mk' (hT.kept HK.out)
  have hK0 := Kept.refl WA none
  clear h hT hI
  go_enter Tryd.func6, Tryd.ntmps6
  go_wp2_with (first | rw [hWA] | (go_at_call 13; refine (palive_any HT.out).mono ?_; rintro e wv ⟨rfl, hkv⟩; have hKv : Kept WA wv none := hkv))
  go_at_call 14
  refine (rgreat_any (HS.out.kept hKv)).mono ?_
  rintro e wg ⟨gr, rfl, hgr, hkg⟩
  have hKg : Kept WA wg none := hKv.tr hkg
  clear hgr
  cases gr with
  | true =>
    go_wp2
    go_ret
    exact ⟨rfl, (HK.out.tr hKg).below⟩
  | false =>
    go_wp2
    go_ret
    exact ⟨by simp, (HK.out.tr hKg).below⟩
set_option maxRecDepth 100000 in
set_option maxHeartbeats 3000000 in
theorem ppw_far {X : Sa} {S : St} {w : World} (h : Sat w X S) (hT : Tabb w) {P : Pl} {a : Option Addr} {c : Nat} (hI : Ints w a P.splits.length c P.splits) (t : Int) (hl : P.splits.length ≤ 100) (hc : P.cycle ≤ 300) (h0 : 0 ≤ t) (h9 : 1000000000 < t) : Calls Tryd.prog 6 #[siteV X S, planV P a c, .int .i64 t] w fun e w' => e = .returned (.bool true) ∧ Below w.heap.size w w' := by
  have hl1 : decide ((100 : Int) < (P.splits.length : Int)) = false := by simp <;> omega
  have hl2 : decide ((300 : Int) < P.cycle) = false := by simp <;> omega
  have hl3 : decide (t < 0) = false := by simp <;> omega
  have hl4 : decide ((1000000000 : Int) < t) = true := by simp <;> omega
  obtain ⟨WA, hWA⟩ : ∃ WA, ((w.alloc (.cells #[.int .i64 S.id, .slice X.g S.groups.length X.gc, .slice X.a S.apart.length X.ac, .slice X.b S.between.length X.bc, .slice X.p S.phases.length X.pc, .slice X.e S.eyes.length X.ec, .int .i64 S.watch, .int .i64 S.feed, .int .i64 S.heal, .int .i64 S.low, .int .i64 S.high, .slice X.l S.plans.length X.lc] 35)).alloc (.cells #[.int .i64 P.cycle, .int .i64 P.offset, .slice a P.splits.length c] 24)) = WA := ⟨_, rfl⟩
  obtain ⟨HSB, HBP, HSZ, HK, HS, HI, p0_, p1_, p2_, s0_, s1_, s2_, s3_, s4_, s5_, s6_, s7_, s8_, s9_, s10_, s11_⟩ := hdp h hI hWA
  have HT := Hid.mk' (hT.kept HK.out)
  have hK0 := Kept.refl WA none
  clear h hT hI
  go_enter Tryd.func6, Tryd.ntmps6
  go_wp2_with (first | rw [hWA] | (go_at_call 13; refine (palive_any HT.out).mono ?_; rintro e wv ⟨rfl, hkv⟩; have hKv : Kept WA wv none := hkv))
  go_at_call 14
  refine (rgreat_any (HS.out.kept hKv)).mono ?_
  rintro e wg ⟨gr, rfl, hgr, hkg⟩
  have hKg : Kept WA wg none := hKv.tr hkg
  clear hgr
  cases gr with
  | true =>
    go_wp2
    go_ret
    exact ⟨rfl, (HK.out.tr hKg).below⟩
  | false =>
    go_wp2
    go_ret
    exact ⟨by simp, (HK.out.tr hKg).below⟩
set_option maxRecDepth 100000 in
set_option maxHeartbeats 3000000 in
theorem ppw_err {X : Sa} {S : St} {w : World} (h : Sat w X S) (hT : Tabb w) {P : Pl} {a : Option Addr} {c : Nat} (hI : Ints w a P.splits.length c P.splits) (t : Int) (hl : P.splits.length ≤ 100) (hc : P.cycle ≤ 300) (h0 : 0 ≤ t) (h9 : t ≤ 1000000000) (E : Int) (hE : atE S P t = E) (hz : E ≠ 0) : Calls Tryd.prog 6 #[siteV X S, planV P a c, .int .i64 t] w fun e w' => e = .returned (.bool true) ∧ Below w.heap.size w w' := by
  have hl1 : decide ((100 : Int) < (P.splits.length : Int)) = false := by simp <;> omega
  have hl2 : decide ((300 : Int) < P.cycle) = false := by simp <;> omega
  have hl3 : decide (t < 0) = false := by simp <;> omega
  have hl4 : decide ((1000000000 : Int) < t) = false := by simp <;> omega
  have HE := Hid.mk' hE
  have hEb : (E != 0) = true := by simpa using hz
  clear hE hz
  obtain ⟨WA, hWA⟩ : ∃ WA, ((w.alloc (.cells #[.int .i64 S.id, .slice X.g S.groups.length X.gc, .slice X.a S.apart.length X.ac, .slice X.b S.between.length X.bc, .slice X.p S.phases.length X.pc, .slice X.e S.eyes.length X.ec, .int .i64 S.watch, .int .i64 S.feed, .int .i64 S.heal, .int .i64 S.low, .int .i64 S.high, .slice X.l S.plans.length X.lc] 35)).alloc (.cells #[.int .i64 P.cycle, .int .i64 P.offset, .slice a P.splits.length c] 24)) = WA := ⟨_, rfl⟩
  obtain ⟨HSB, HBP, HSZ, HK, HS, HI, p0_, p1_, p2_, s0_, s1_, s2_, s3_, s4_, s5_, s6_, s7_, s8_, s9_, s10_, s11_⟩ := hdp h hI hWA
  have HT := Hid.mk' (hT.kept HK.out)
  have hK0 := Kept.refl WA none
  clear h hT hI
  go_enter Tryd.func6, Tryd.ntmps6
  go_wp2_with (first | rw [hWA] | (go_at_call 13; refine (palive_any HT.out).mono ?_; rintro e wv ⟨rfl, hkv⟩; have hKv : Kept WA wv none := hkv))
  go_at_call 14
  refine (rgreat_any (HS.out.kept hKv)).mono ?_
  rintro e wg ⟨gr, rfl, hgr, hkg⟩
  have hKg : Kept WA wg none := hKv.tr hkg
  clear hgr
  cases gr with
  | true =>
    go_wp2
    go_ret
    exact ⟨rfl, (HK.out.tr hKg).below⟩
  | false =>
    go_wp2_with (first | (have hgo := hKg; clear hgo; go_at_call 11; have hx := pat_any (HS.out.kept hKg) (HT.out.kept hKg) (HI.out.kept hKg) t; rw [HE.out] at hx; refine hx.mono ?_; rintro e wa ⟨rfl, hka⟩; have hKa : Kept WA wa none := hKg.tr hka; clear hx))
    go_ret
    exact ⟨rfl, (HK.out.tr hKa).below⟩

theorem cntF_le (f : Nat → Bool) (t : Nat) : ∀ n, cntF f t n ≤ n
  | 0 => Nat.le_refl _
  | n + 1 => by rw [cntF_succ]; have := cntF_le f t n; split <;> omega
theorem rowA_set {w : World} {B : Nat} {P : Pl} {t k i : Nat} (h : w.rowIs B 58 8 (fun j => .int .i64 (cntF (fun u => decide ((partV P u).1 = j)) t k : Int))) (hi : (partV P (t + k)).1 = i) (v : Int) (hv : v = (cntF (fun u => decide ((partV P u).1 = i)) t k : Int) + 1) : (w.setCell ⟨B, i, none⟩ (.int .i64 v)).rowIs B 58 8 (fun j => .int .i64 (cntF (fun u => decide ((partV P u).1 = j)) t (k + 1) : Int)) := by
  refine (h.set i (.int .i64 v)).congr (fun j hj => ?_)
  show (if j = i then _ else _) = _
  by_cases e : j = i
  · subst e
    rw [if_pos rfl, cntF_succ, if_pos (by rw [hi]; exact decide_eq_true rfl), hv]
    rfl
  · rw [if_neg e, cntF_succ, if_neg (by rw [hi]; simp; omega)]
    rfl
set_option maxRecDepth 100000 in
set_option maxHeartbeats 6000000 in
theorem ppw_go {X : Sa} {S : St} {w : World} (h : Sat w X S) (hT : Tabb w) {P : Pl} {a : Option Addr} {c : Nat} (hI : Ints w a P.splits.length c P.splits) (t : Nat) (hl : P.splits.length ≤ 100) (hc : P.cycle ≤ 300) (h9 : (t : Int) ≤ 1000000000) (hs : siteB S = true) (hpm : planB S P = true) : Calls Tryd.prog 6 #[siteV X S, planV P a c, .int .i64 (t : Int)] w fun e w' => e = .returned (.bool true) ∧ Below w.heap.size w w' := by
  have hl1 : decide ((100 : Int) < (P.splits.length : Int)) = false := by simp <;> omega
  have hl2 : decide ((300 : Int) < P.cycle) = false := by simp <;> omega
  have hl3 : decide ((t : Int) < 0) = false := by simp <;> omega
  have hl4 : decide ((1000000000 : Int) < (t : Int)) = false := by simp <;> omega
  have hnp := (span_may hs).base.sh.ok.np
  have HPF := Hid.mk' (plan_facts hpm)
  have HSI := Hid.mk' hs
  have HPM := Hid.mk' hpm
  clear hs hpm
  obtain ⟨WA, hWA⟩ : ∃ WA, ((w.alloc (.cells #[.int .i64 S.id, .slice X.g S.groups.length X.gc, .slice X.a S.apart.length X.ac, .slice X.b S.between.length X.bc, .slice X.p S.phases.length X.pc, .slice X.e S.eyes.length X.ec, .int .i64 S.watch, .int .i64 S.feed, .int .i64 S.heal, .int .i64 S.low, .int .i64 S.high, .slice X.l S.plans.length X.lc] 35)).alloc (.cells #[.int .i64 P.cycle, .int .i64 P.offset, .slice a P.splits.length c] 24)) = WA := ⟨_, rfl⟩
  obtain ⟨HSB, HBP, HSZ, HK, HS, HI, p0_, p1_, p2_, s0_, s1_, s2_, s3_, s4_, s5_, s6_, s7_, s8_, s9_, s10_, s11_⟩ := hdp h hI hWA
  have HT := Hid.mk' (hT.kept HK.out)
  have hK0 := Kept.refl WA none
  clear h hT hI
  go_enter Tryd.func6, Tryd.ntmps6
  go_wp2_with (first | rw [hWA] | (go_at_call 13; refine (palive_any HT.out).mono ?_; rintro e wv ⟨rfl, hkv⟩; have hKv : Kept WA wv none := hkv))
  go_at_call 14
  refine (rgreat_any (HS.out.kept hKv)).mono ?_
  rintro e wg ⟨gr, rfl, hgr, hkg⟩
  have hKg : Kept WA wg none := hKv.tr hkg
  clear hgr
  cases gr with
  | true =>
    go_wp2
    go_ret
    exact ⟨rfl, (HK.out.tr hKg).below⟩
  | false =>
    go_wp2_with (first | (have hgo := hKg; clear hgo; go_at_call 11; refine (pat_go (HS.out.kept hKg) (HT.out.kept hKg) (HI.out.kept hKg) t HSI.out HPM.out (by omega)).mono ?_; rintro e wa ⟨rfl, hka⟩; have hKa : Kept WA wa none := hKg.tr hka))
    have hBg := hKa.size
    have kM : Kept wa (wa.alloc (.cells #[.int .i64 0, .int .i64 0, .int .i64 0, .int .i64 0, .int .i64 0, .int .i64 0, .int .i64 0, .int .i64 0] 58)) none := Kept.alloc _ _ _ _ _
    have hrw : (wa.alloc (.cells #[.int .i64 0, .int .i64 0, .int .i64 0, .int .i64 0, .int .i64 0, .int .i64 0, .int .i64 0, .int .i64 0] 58)).rowIs wa.heap.size 58 8 (fun j => .int .i64 (cntF (fun u => decide ((partV P u).1 = j)) t 0 : Int)) := World.rowIs_alloc wa _ _ _ (fun i hi => by
      have : i = 0 ∨ i = 1 ∨ i = 2 ∨ i = 3 ∨ i = 4 ∨ i = 5 ∨ i = 6 ∨ i = 7 := by simp at hi; omega
      rcases this with rfl | rfl | rfl | rfl | rfl | rfl | rfl | rfl <;> rfl)
    obtain ⟨W3, hW3⟩ : ∃ W3, wa.alloc (.cells #[.int .i64 0, .int .i64 0, .int .i64 0, .int .i64 0, .int .i64 0, .int .i64 0, .int .i64 0, .int .i64 0] 58) = W3 := ⟨_, rfl⟩
    rw [hW3] at hrw kM ⊢
    obtain ⟨B, hB⟩ : ∃ B, wa.heap.size = B := ⟨_, rfl⟩
    rw [hB] at hrw hBg ⊢
    have HRW := Hid.mk' hrw
    have KM := Hid.mk' (hKa.tr kM)
    obtain ⟨b, off, ea, hb, hcel⟩ := HI.out.at_ (by have := HPF.out.n; omega)
    subst ea
    have HCEL := Hid.mk' hcel
    clear hW3 hB hrw kM hkg hKg hkv hKv hka hKa hcel
    go_loopw [12, 13, 14, 15] (fun i _ _ _ wr => ∃ k : Nat, k ≤ P.cycle.toNat ∧ i = .int .i64 k ∧ Kept WA wr none ∧ wr.rowIs B 58 8 (fun j => .int .i64 (cntF (fun u => decide ((partV P u).1 = j)) t k : Int))) (fun i _ _ _ _ => P.cycle.toNat - (intOf i).toNat)
    case atStart => exact ⟨0, by omega, rfl, KM.out, HRW.out⟩
    case round =>
      obtain ⟨k, hk, rfl, hkw, hrow⟩ := hrel
      have HKW := Hid.mk' hkw
      have HRO := Hid.mk' hrow
      by_cases hlt : (k : Int) < P.cycle
      · obtain ⟨i, x, hi, hx, hp, e⟩ := part_ex HSI.out HPF.out (t + k)
        have hx0 : (x : Int) < P.splits.getD i 0 := by unfold spN at hx; omega
        have hil : i < P.splits.length := by have := HPF.out.n; omega
        have hi8 : i < 8 := by omega
        have HAT : Hid (∀ w', Kept WA w' none → Calls Tryd.prog 11 #[siteV X S, planV P (some ⟨b, off, none⟩) c, .int .i64 ((t : Int) + (k : Int))] w' fun e w2 => e = .returned (.tuple #[.int .i64 (i : Int), .int .i64 (x : Int), .int .i64 0]) ∧ Kept w' w2 none) := fun w' q => by
          have hx := pat_go (HS.out.kept q) (HT.out.kept q) (HI.out.kept q) (t + k) HSI.out HPM.out (by omega)
          rw [e] at hx
          rw [show ((t + k : Nat) : Int) = (t : Int) + (k : Int) by omega] at hx
          exact hx
        have kc := HCEL.out i hil
        have kc_ : ∀ w', Kept WA w' none → w'.cell? ⟨b, off + i, none⟩ = some (.int .i64 (P.splits.getD i 0)) := fun w' q => cell_kept0 kc q
        have hcl := cntF_le (fun u => decide ((partV P u).1 = i)) t k
        have HSET : Hid (∀ wT v, Kept wr wT none → v = (cntF (fun u => decide ((partV P u).1 = i)) t k : Int) + 1 → (wT.setCell ⟨B, i, none⟩ (.int .i64 v)).rowIs B 58 8 (fun j => .int .i64 (cntF (fun u => decide ((partV P u).1 = j)) t (k + 1) : Int))) := fun wT v q hv => rowA_set (row_kept HRO.out q (by simp)) (by rw [e]) v hv
        have HY : Hid (∀ wT, Kept wr wT none → wT.cell? ⟨B, i, none⟩ = some (.int .i64 (cntF (fun u => decide ((partV P u).1 = i)) t k : Int))) := fun wT q => (row_kept HRO.out q (by simp)).cell hi8
        have HZ : Hid (∀ wT, Kept wr wT none → wT.frozen? ⟨B, i, none⟩ = false) := fun wT q => (row_kept HRO.out q (by simp)).frozen i
        have hwt : IntKind.i64.wrap ((t : Int) + (k : Int)) = (t : Int) + (k : Int) := wrap_in (by omega) (by omega)
        clear hrow kc hp hx e
        generalize P.splits.getD i 0 = y at *
        generalize cntF (fun u => decide ((partV P u).1 = i)) t k = cn at *
        go_wp2_with (go_at_call 11; refine (HAT.out _ hkw).mono ?_; rintro e wT ⟨rfl, hkT⟩; have hKT : Kept WA wT none := hkw.tr hkT; have y0 := HY.out wT hkT; have z0 := HZ.out wT hkT)
        go_roundw
        case rel => exact ⟨k + 1, by omega, by go_num, hKT.setNew (p := ⟨B, i, none⟩) hBg _, HSET.out _ _ hkT (by first | rfl | omega | (rw [wrap_in (by omega) (by omega)]))⟩
        case measure => simp [intOf]; omega
      · have hke : k = P.cycle.toNat := by omega
        have HCN : Hid (∀ j, j < P.splits.length → (cntF (fun u => decide ((partV P u).1 = j)) t k : Int) = P.splits.getD j 0) := fun j hj => by
          have hj2 : j < S.phases.length := by have := HPF.out.n; omega
          rw [hke, part_count HSI.out HPF.out t hj2]
          have := HPF.out.sp j hj2
          have := partM_ge HSI.out hj2
          unfold spN
          omega
        have n0 := (HBP.out.kept hkw).c0
        have n1 := (HBP.out.kept hkw).c2
        have hn8 : P.splits.length ≤ 8 := by have := HPF.out.n; omega
        have HCE2 : Hid (∀ j, j < P.splits.length → wr.cell? ⟨b, off + j, none⟩ = some (.int .i64 (P.splits.getD j 0))) := fun j hj => cell_kept0 (HCEL.out j hj) hkw
        clear hrow hkw s0_ s1_ s2_ s3_ s4_ s5_ s6_ s7_ s8_ s9_ s10_ s11_ p0_ p1_ p2_ hK0
        go_wp2
        obtain ⟨wo, hwo⟩ : ∃ wo, wo = wr := ⟨_, rfl⟩
        subst hwo
        go_loopw [16] (fun i wr => ∃ q : Nat, q ≤ P.splits.length ∧ i = .int .i64 q ∧ ∃ m, wr = wo.drewN m) (fun i _ => P.splits.length - (intOf i).toNat)
        case atStart => exact ⟨0, by omega, rfl, 0, rfl⟩
        case round =>
          obtain ⟨q, hq, rfl, m, rfl⟩ := hrel
          by_cases hql : q < P.splits.length
          · have y0 := HRO.out.cell (i := q) (by omega)
            have kq := HCE2.out q hql
            rw [HCN.out q hql] at y0
            generalize P.splits.getD q 0 = y at *
            have hne : (y != y) = false := by simp
            have hq8 : q < 8 := by omega
            go_wp2
            go_quiet (fail)
            go_wp2
            go_roundw
            case rel => exact ⟨q + 1, by omega, by go_num, _, rfl⟩
            case measure => simp [intOf]; omega
          · go_wp2
            go_ret
            exact ⟨rfl, (HK.out.tr (HKW.out.tr (Kept.drewN _ _ _))).below⟩

theorem ppw_any {X : Sa} {S : St} {w : World} (h : Sat w X S) (hT : Tabb w) {P : Pl} {a : Option Addr} {c : Nat} (hI : Ints w a P.splits.length c P.splits) (t : Int) : Calls Tryd.prog 6 #[siteV X S, planV P a c, .int .i64 t] w fun e w' => e = .returned (.bool true) ∧ Below w.heap.size w w' := by
  by_cases hl : P.splits.length ≤ 100
  · by_cases hc : P.cycle ≤ 300
    · by_cases h0 : 0 ≤ t
      · by_cases h9 : t ≤ 1000000000
        · by_cases he : atE S P t = 0
          · obtain ⟨hs, hp, n, rfl, hn⟩ := atE_ok he
            exact ppw_go h hT hI n hl hc h9 hs hp
          · exact ppw_err h hT hI t hl hc h0 h9 _ rfl he
        · exact ppw_far h hT hI t hl hc h0 (by omega)
      · exact ppw_neg h hT hI t hl hc (by omega)
    · exact ppw_cyc h hT hI t hl (by omega)
  · exact ppw_long h hT hI t (by omega)

end Go.Proofs.YtfhmfanmnhclfaaDoor

