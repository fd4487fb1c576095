/-
  Texts joined: some of those that the proofs of this seat stand on.
-/
import Derived.Test.YtkgimccffggfdaaDoorGateAJ
/-
  THE CONTRACT of turn's Worst (made by a program).
-/
namespace Go.Proofs.YtkgimccffggfdaaDoor
open Go.RowKit Go.Lib Go.Deep
set_option linter.unusedVariables false
set_option linter.unusedSimpArgs false


theorem mxB_max {b : Int} (hb : 0 ≤ b) (f : Nat → Int) : ∀ n, mxB b f n = max b (mxB 0 f n)
  | 0 => by show b = max b 0; omega
  | n + 1 => by rw [mxB_succ, mxB_succ, mxB_max hb f n]; omega
theorem mxB_le {b M : Int} {f : Nat → Int} (hb : b ≤ M) : ∀ {n : Nat}, (∀ i, i < n → f i ≤ M) → mxB b f n ≤ M
  | 0, _ => hb
  | n + 1, h => by
    rw [mxB_succ]
    have h1 := mxB_le (b := b) (f := f) hb (n := n) (fun i hi => h i (by omega))
    have h2 := h n (by omega)
    omega
theorem tmax_if (a b : Int) : max a b = if a < b then b else a := by split <;> omega
abbrev gm (S : St) (k : Nat) : Int := mxB 0 (fun i => (S.gr i).min) k
abbrev gy (S : St) (k : Nat) : Int := mxB 0 (fun i => (S.gr i).yellow) k
theorem wor_rng {S : St} (hs : siteB S = true) {k : Nat} (hk : k ≤ S.groups.length) : 0 ≤ gm S k ∧ gm S k ≤ 1048576 ∧ 0 ≤ gy S k ∧ gy S k ≤ 1048576 := by
  have ht := tur_facts hs
  exact ⟨mxB_base _ _ _, mxB_le (by omega) (fun i hi => (ht.min i (by omega)).2), mxB_base _ _ _, mxB_le (by omega) (fun i hi => (ht.yel i (by omega)).2)⟩
theorem wor_is {S : St} (hs : siteB S = true) : worT S = gm S S.groups.length + max (worstM S) (gy S S.groups.length) + 2 := by
  unfold worT minM lonM
  rw [mxB_max (tur_facts hs).w0]
theorem wor_bd {S : St} (hs : siteB S = true) : 2 ≤ worT S ∧ worT S ≤ 2097154 := by
  have h1 := wor_rng hs (Nat.le_refl S.groups.length)
  have ht := tur_facts hs
  have := ht.w0
  have := ht.w1
  rw [wor_is hs]
  omega
set_option maxRecDepth 100000 in
set_option maxHeartbeats 2000000 in
theorem twor_no {X : Sa} {S : St} {w : World} (h : Sat w X S) (hT : Tabb w) (hs : siteB S = false) : Calls Tryd.prog 21 #[siteV X S] w fun e w' => e = .returned (.tuple #[.int .i64 0, .int .i64 50]) ∧ Kept w w' none := by
  obtain ⟨WA, hWA⟩ : ∃ WA, (w.alloc (.cells #[.int .i64 S.id, .slice X.g S.groups.length X.gc, .slice X.a S.apart.length X.ac, .slice X.b S.between.length X.bc, .slice X.p S.phases.length X.pc, .slice X.e S.eyes.length X.ec, .int .i64 S.watch, .int .i64 S.feed, .int .i64 S.heal, .int .i64 S.low, .int .i64 S.high, .slice X.l S.plans.length X.lc] 37)) = WA := ⟨_, rfl⟩
  obtain ⟨HSB, HK, HS, s0_, s1_, s2_, s3_, s4_, s5_, s6_, s7_, s8_, s9_, s10_, s11_⟩ := hd1 h hWA
  have HT := Hid.mk' (hT.kept HK.out)
  have hK0 := Kept.refl WA none
  clear h hT
  go_enter Tryd.func21, Tryd.ntmps21
  go_wp2_with (first | rw [hWA] | (go_at_call 37; refine (great_no HS.out HT.out hs).mono ?_; rintro e wC ⟨rfl, hkC⟩))
  go_ret2
  exact ⟨rfl, HK.out.tr hkC⟩
set_option maxRecDepth 100000 in
set_option maxHeartbeats 2000000 in
theorem twor_yes {X : Sa} {S : St} {w : World} (h : Sat w X S) (hT : Tabb w) (hs : siteB S = true) : Calls Tryd.prog 21 #[siteV X S] w fun e w' => e = .returned (.tuple #[.int .i64 (worT S), .int .i64 0]) ∧ Kept w w' none := by
  have hng := (span_may hs).base.sh.ok.ng
  have hgr := h.gk.room
  have HR := Hid.mk' (fun k hk => wor_rng (S := S) hs (k := k) hk)
  have hw0 := (tur_facts hs).w0
  have hw1 := (tur_facts hs).w1
  have HWI := Hid.mk' (wor_is hs)
  obtain ⟨WA, hWA⟩ : ∃ WA, (w.alloc (.cells #[.int .i64 S.id, .slice X.g S.groups.length X.gc, .slice X.a S.apart.length X.ac, .slice X.b S.between.length X.bc, .slice X.p S.phases.length X.pc, .slice X.e S.eyes.length X.ec, .int .i64 S.watch, .int .i64 S.feed, .int .i64 S.heal, .int .i64 S.low, .int .i64 S.high, .slice X.l S.plans.length X.lc] 37)) = WA := ⟨_, rfl⟩
  obtain ⟨HSB, HK, HS, s0_, s1_, s2_, s3_, s4_, s5_, s6_, s7_, s8_, s9_, s10_, s11_⟩ := hd1 h hWA
  have HT := Hid.mk' (hT.kept HK.out)
  have hK0 := Kept.refl WA none
  clear h hT
  go_enter Tryd.func21, Tryd.ntmps21
  go_wp2_with (first | rw [hWA] | (go_at_call 37; refine (great_yes HS.out HT.out hs).mono ?_; rintro e wC ⟨rfl, hkC⟩; have hKC : Kept WA wC none := hkC))
  have HKC := Hid.mk' hKC
  clear hkC hKC
  go_loopw [6, 7, 9, 21] (fun g y _ i wr => ∃ k : Nat, k ≤ S.groups.length ∧ i = .int .i64 k ∧ g = .int .i64 (gm S k) ∧ y = .int .i64 (gy S k) ∧ Kept WA wr none) (fun _ _ _ i _ => S.groups.length - (intOf i).toNat)
  case atStart => exact ⟨0, by omega, rfl, rfl, rfl, HKC.out⟩
  case round =>
    obtain ⟨k, hk, rfl, rfl, rfl, hkw⟩ := hrel
    have HKW := Hid.mk' hkw
    by_cases hlt : k < S.groups.length
    · obtain ⟨bg, og, eg, q0, q1, q2⟩ := (HS.out.kept hkw).grAt hlt
      have c1 := (HSB.out.kept hkw).c1
      rw [eg] at *
      have hbl := block_lt q0
      have kS : Kept wr (wr.alloc (.cells #[.int .u8 ((S.gr k).kind : Int), .int .i64 (S.gr k).min, .int .i64 (S.gr k).yellow] 67)) none := Kept.alloc _ _ _ _ _
      have bS := box_alloc wr (.int .u8 ((S.gr k).kind : Int)) (.int .i64 (S.gr k).min) (.int .i64 (S.gr k).yellow) 67
      have HKS := Hid.mk' (hkw.tr kS)
      have HM : Hid (gm S (k + 1) = if gm S k < (S.gr k).min then (S.gr k).min else gm S k) := tmax_if _ _
      have HY : Hid (gy S (k + 1) = if gy S k < (S.gr k).yellow then (S.gr k).yellow else gy S k) := tmax_if _ _
      clear hkw c1
      clear s0_ s1_ s2_ s3_ s4_ s5_ s6_ s7_ s8_ s9_ s10_ s11_
      generalize S.gr k = N at *
      generalize gm S k = A at *
      generalize gy S k = Y at *
      obtain ⟨WS, hWS⟩ : ∃ WS, wr.alloc (.cells #[.int .u8 (N.kind : Int), .int .i64 N.min, .int .i64 N.yellow] 67) = WS := ⟨_, rfl⟩
      rw [hWS] at kS bS HKS
      have x1 : ∀ m, (WS.drewN m).cell? ⟨wr.heap.size, 1, none⟩ = some (.int .i64 N.min) := fun m => (bS.kept (Kept.drewN _ m _)).c1
      have x2 : ∀ m, (WS.drewN m).cell? ⟨wr.heap.size, 2, none⟩ = some (.int .i64 N.yellow) := fun m => (bS.kept (Kept.drewN _ m _)).c2
      have x1' := bS.c1
      have x2' := bS.c2
      clear kS bS
      by_cases ha : A < N.min
      · have HM1 : Hid (gm S (k + 1) = N.min) := by show _ = _; rw [HM.out, if_pos ha]
        by_cases hy : Y < N.yellow
        · have HY1 : Hid (gy S (k + 1) = N.yellow) := by show _ = _; rw [HY.out, if_pos hy]
          go_wp2_with (rw [hWS])
          go_quiet (fail)
          go_wp2
          go_roundw
          case rel => exact ⟨k + 1, by omega, by go_num, by rw [HM1.out], by rw [HY1.out], HKS.out.tr (Kept.drewN _ _ _)⟩
          case measure => simp [intOf]; omega
        · have HY1 : Hid (gy S (k + 1) = Y) := by show _ = _; rw [HY.out, if_neg hy]
          go_wp2_with (rw [hWS])
          go_quiet (fail)
          go_wp2
          go_roundw
          case rel => exact ⟨k + 1, by omega, by go_num, by rw [HM1.out], by rw [HY1.out], HKS.out.tr (Kept.drewN _ _ _)⟩
          case measure => simp [intOf]; omega
      · have HM1 : Hid (gm S (k + 1) = A) := by show _ = _; rw [HM.out, if_neg ha]
        by_cases hy : Y < N.yellow
        · have HY1 : Hid (gy S (k + 1) = N.yellow) := by show _ = _; rw [HY.out, if_pos hy]
          go_wp2_with (rw [hWS])
          go_quiet (fail)
          go_wp2
          go_roundw
          case rel => exact ⟨k + 1, by omega, by go_num, by rw [HM1.out], by rw [HY1.out], HKS.out.tr (Kept.drewN _ _ _)⟩
          case measure => simp [intOf]; omega
        · have HY1 : Hid (gy S (k + 1) = Y) := by show _ = _; rw [HY.out, if_neg hy]
          go_wp2_with (rw [hWS])
          go_quiet (fail)
          go_wp2
          go_roundw
          case rel => exact ⟨k + 1, by omega, by go_num, by rw [HM1.out], by rw [HY1.out], HKS.out.tr (Kept.drewN _ _ _)⟩
          case measure => simp [intOf]; omega
    · have e : k = S.groups.length := by omega
      subst e
      obtain ⟨r1, r2, r3, r4⟩ := HR.out _ (Nat.le_refl _)
      clear hkw
      generalize gm S S.groups.length = A at *
      generalize gy S S.groups.length = Y at *
      generalize worstM S = G at *
      by_cases hy : G < Y
      · have HW : Hid (worT S = A + Y + 2) := by show _ = _; rw [HWI.out, tmax_if, if_pos hy]
        go_wp2
        go_ret2
        exact ⟨by rw [HW.out]; rfl, HK.out.tr HKW.out⟩
      · have HW : Hid (worT S = A + G + 2) := by show _ = _; rw [HWI.out, tmax_if, if_neg hy]
        go_wp2
        go_ret2
        exact ⟨by rw [HW.out]; rfl, HK.out.tr HKW.out⟩

/-- What Worst tells. -/
def worE (S : St) : Int := if siteB S = false then 50 else 0
def worV (S : St) : Int := if siteB S = false then 0 else worT S
theorem twor_any {X : Sa} {S : St} {w : World} (h : Sat w X S) (hT : Tabb w) : Calls Tryd.prog 21 #[siteV X S] w fun e w' => e = .returned (.tuple #[.int .i64 (worV S), .int .i64 (worE S)]) ∧ Kept w w' none := by
  cases hs : siteB S with
  | false =>
    rw [show worV S = 0 by unfold worV; rw [hs]; rfl, show worE S = 50 by unfold worE; rw [hs]; rfl]
    exact twor_no h hT hs
  | true =>
    rw [show worV S = worT S by unfold worV; rw [hs]; rfl, show worE S = 0 by unfold worE; rw [hs]; rfl]
    exact twor_yes h hT hs

end Go.Proofs.YtkgimccffggfdaaDoor

/-
  THE CONTRACT of seq.Bound (made by a program).
-/
namespace Go.Proofs.YtkgimccffggfdaaDoor
open Go.RowKit Go.Lib Go.Deep
set_option linter.unusedVariables false
set_option linter.unusedSimpArgs false


abbrev bouK (S : St) (k : Nat) : Int := worT S + sumV S (fun _ => true) k
theorem bouK_succ (S : St) (k : Nat) : bouK S (k + 1) = bouK S k + ((S.ph k).max + worT S + 2) := by
  unfold bouK
  rw [sumV_succ, if_pos rfl]
  unfold cost
  omega
theorem bouK_rng {S : St} (hs : siteB S = true) : ∀ k, k ≤ S.phases.length → 0 ≤ bouK S k ∧ bouK S k ≤ 2097154 + 4000000 * k
  | 0, _ => by
    have := wor_bd hs
    show 0 ≤ worT S + 0 ∧ worT S + 0 ≤ _
    omega
  | k + 1, hk => by
    have ih := bouK_rng hs k (by omega)
    have := wor_bd hs
    have := phase_facts hs (k := k) (by omega)
    rw [bouK_succ]
    omega
set_option maxRecDepth 100000 in
set_option maxHeartbeats 2000000 in
theorem sbou_no {X : Sa} {S : St} {w : World} (h : Sat w X S) (hT : Tabb w) (hs : siteB S = false) : Calls Tryd.prog 7 #[siteV X S] w fun e w' => e = .returned (.tuple #[.int .i64 0, .int .i64 50]) ∧ Kept w w' none := by
  obtain ⟨WA, hWA⟩ : ∃ WA, (w.alloc (.cells #[.int .i64 S.id, .slice X.g S.groups.length X.gc, .slice X.a S.apart.length X.ac, .slice X.b S.between.length X.bc, .slice X.p S.phases.length X.pc, .slice X.e S.eyes.length X.ec, .int .i64 S.watch, .int .i64 S.feed, .int .i64 S.heal, .int .i64 S.low, .int .i64 S.high, .slice X.l S.plans.length X.lc] 37)) = WA := ⟨_, rfl⟩
  obtain ⟨HSB, HK, HS, s0_, s1_, s2_, s3_, s4_, s5_, s6_, s7_, s8_, s9_, s10_, s11_⟩ := hd1 h hWA
  have HT := Hid.mk' (hT.kept HK.out)
  have hK0 := Kept.refl WA none
  clear h hT
  go_enter Tryd.func7, Tryd.ntmps7
  go_wp2_with (first | rw [hWA] | (go_at_call 21; refine (twor_no HS.out HT.out hs).mono ?_; rintro e wC ⟨rfl, hkC⟩))
  go_ret2
  exact ⟨rfl, HK.out.tr hkC⟩
set_option maxRecDepth 100000 in
set_option maxHeartbeats 2000000 in
theorem sbou_yes {X : Sa} {S : St} {w : World} (h : Sat w X S) (hT : Tabb w) (hs : siteB S = true) : Calls Tryd.prog 7 #[siteV X S] w fun e w' => e = .returned (.tuple #[.int .i64 (bouM S), .int .i64 0]) ∧ Kept w w' none := by
  have hn := (span_may hs).base.sh.ok.np
  have hrm := h.pk.room
  have HR := Hid.mk' (fun k hk => bouK_rng (S := S) hs k hk)
  have HPF := Hid.mk' (fun k hk => phase_facts (S := S) hs (k := k) hk)
  have hw := wor_bd hs
  obtain ⟨WA, hWA⟩ : ∃ WA, (w.alloc (.cells #[.int .i64 S.id, .slice X.g S.groups.length X.gc, .slice X.a S.apart.length X.ac, .slice X.b S.between.length X.bc, .slice X.p S.phases.length X.pc, .slice X.e S.eyes.length X.ec, .int .i64 S.watch, .int .i64 S.feed, .int .i64 S.heal, .int .i64 S.low, .int .i64 S.high, .slice X.l S.plans.length X.lc] 37)) = WA := ⟨_, rfl⟩
  obtain ⟨HSB, HK, HS, s0_, s1_, s2_, s3_, s4_, s5_, s6_, s7_, s8_, s9_, s10_, s11_⟩ := hd1 h hWA
  have HT := Hid.mk' (hT.kept HK.out)
  have hK0 := Kept.refl WA none
  clear h hT
  go_enter Tryd.func7, Tryd.ntmps7
  go_wp2_with (first | rw [hWA] | (go_at_call 21; refine (twor_yes HS.out HT.out hs).mono ?_; rintro e wC ⟨rfl, hkC⟩; have hKC : Kept WA wC none := hkC))
  have HKC := Hid.mk' hKC
  have h0 : worT S = bouK S 0 := by show worT S = worT S + 0; omega
  clear hkC hKC
  go_loopw [6, 8, 21] (fun t _ i wr => ∃ k : Nat, k ≤ S.phases.length ∧ i = .int .i64 k ∧ t = .int .i64 (bouK S k) ∧ Kept WA wr none) (fun _ _ i _ => S.phases.length - (intOf i).toNat)
  case atStart => exact ⟨0, by omega, rfl, by rw [← h0], HKC.out⟩
  case round =>
    clear h0
    obtain ⟨k, hk, rfl, rfl, hkw⟩ := hrel
    have HKW := Hid.mk' hkw
    by_cases hlt : k < S.phases.length
    · obtain ⟨pb, po, ep, q0, q1, q2, q3, q4⟩ := (HS.out.kept hkw).phAt hlt
      have hpb := block_lt q0
      have hr := HR.out k hk
      have hf := HPF.out k hlt
      have HN := Hid.mk' (bouK_succ S k)
      clear s0_ s1_ s2_ s3_ s4_ s5_ s6_ s7_ s8_ s9_ s10_ s11_ hK0
      rw [ep]
      clear hkw ep
      generalize S.ph k = x at *
      obtain ⟨x0', x1', x2', x3', x4'⟩ := x
      dsimp only at q0 q1 q2 q3 q4 hf HN
      generalize bouK S k = K at *
      generalize worT S = T at *
      go_wp2
      go_roundw
      case rel => exact ⟨k + 1, by omega, by go_num, by rw [HN.out], HKW.out.tr (Kept.alloc _ _ _ _ _)⟩
      case measure => simp [intOf]; omega
    · obtain rfl : k = S.phases.length := by omega
      clear hkw
      go_wp2
      go_ret2
      exact ⟨rfl, HK.out.tr HKW.out⟩
/-- What Bound tells. -/
def bouE (S : St) : Int := if siteB S = false then 50 else 0
def bouV (S : St) : Int := if siteB S = false then 0 else bouM S
theorem sbou_any {X : Sa} {S : St} {w : World} (h : Sat w X S) (hT : Tabb w) : Calls Tryd.prog 7 #[siteV X S] w fun e w' => e = .returned (.tuple #[.int .i64 (bouV S), .int .i64 (bouE S)]) ∧ Kept w w' none := by
  cases hs : siteB S with
  | false =>
    rw [show bouV S = 0 by unfold bouV; rw [hs]; rfl, show bouE S = 50 by unfold bouE; rw [hs]; rfl]
    exact sbou_no h hT hs
  | true =>
    rw [show bouV S = bouM S by unfold bouV; rw [hs]; rfl, show bouE S = 0 by unfold bouE; rw [hs]; rfl]
    exact sbou_yes h hT hs

end Go.Proofs.YtkgimccffggfdaaDoor

