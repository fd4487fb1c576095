/-
  Texts joined: some of those that the proofs of this seat stand on.
-/
import Derived.Test.YtchjbagipbmcoaaDoorGateAJ
/-
  THE CONTRACT of turn's Worst (made by a program).
-/
namespace Go.Proofs.YtchjbagipbmcoaaDoor
open Go.RowKit Go.Lib Go.Deep
set_option linter.unusedVariables false
set_option linter.unusedSimpArgs false


theorem mxB_max {b : Int} (hb : 0 ≤ b) (f : Nat → Int) : ∀ n, mxB b f n = max b (mxB 0 f n)
  | 0 => by show b = max b 0; omega
  | n + 1 => by rw [mxB_succ, mxB_succ, mxB_max hb f n]; omega
theorem mxB_le {b M : Int} {f : Nat → Int} (hb : b ≤ M) : ∀ {n : Nat}, (∀ i, i < n → f i ≤ M) → mxB b f n ≤ M
  | 0, _ => hb
  | n + 1, h => by
    rw [mxB_succ]
    have h1 := mxB_le (b := b) (f := f) hb (n := n) (fun i hi => h i (by omega))
    have h2 := h n (by omega)
    omega
theorem tmax_if (a b : Int) : max a b = if a < b then b else a := by split <;> omega
abbrev gm (S : St) (k : Nat) : Int := mxB 0 (fun i => (S.gr i).min) k
abbrev gy (S : St) (k : Nat) : Int := mxB 0 (fun i => (S.gr i).yellow) k
theorem wor_rng {S : St} (hs : siteB S = true) {k : Nat} (hk : k ≤ S.groups.length) : 0 ≤ gm S k ∧ gm S k ≤ 1048576 ∧ 0 ≤ gy S k ∧ gy S k ≤ 1048576 := by
  have ht := tur_facts hs
  exact ⟨mxB_base _ _ _, mxB_le (by omega) (fun i hi => (ht.min i (by omega)).2), mxB_base _ _ _, mxB_le (by omega) (fun i hi => (ht.yel i (by omega)).2)⟩
theorem wor_is {S : St} (hs : siteB S = true) : worT S = gm S S.groups.length + max (worstM S) (gy S S.groups.length) + 2 := by
  unfold worT minM lonM
  rw [mxB_max (tur_facts hs).w0]
theorem wor_bd {S : St} (hs : siteB S = true) : 2 ≤ worT S ∧ worT S ≤ 2097154 := by
  have h1 := wor_rng hs (Nat.le_refl S.groups.length)
  have ht := tur_facts hs
  have := ht.w0
  have := ht.w1
  rw [wor_is hs]
  omega
set_option maxRecDepth 100000 in
set_option maxHeartbeats 2000000 in
theorem twor_no {X : Sa} {S : St} {w : World} (h : Sat w X S) (hT : Tabb w) (hs : siteB S = false) : Calls Tryd.prog 8 #[siteV X S] w fun e w' => e = .returned (.tuple #[.int .i64 0, .int .i64 50]) ∧ Kept w w' none := by
  have k1 : Kept w (w.alloc (.cells #[.int .i64 S.id, .slice X.g S.groups.length X.gc, .slice X.a S.apart.length X.ac, .slice X.b S.between.length X.bc, .slice X.p S.phases.length X.pc, .slice X.e S.eyes.length X.ec, .int .i64 S.watch, .int .i64 S.feed, .int .i64 S.heal, .int .i64 S.low, .int .i64 S.high, .slice X.l S.plans.length X.lc] 33)) none := Kept.alloc _ _ _ _ _
  have hsb := sbox_alloc h 33
  obtain ⟨WA, hWA⟩ : ∃ WA, (w.alloc (.cells #[.int .i64 S.id, .slice X.g S.groups.length X.gc, .slice X.a S.apart.length X.ac, .slice X.b S.between.length X.bc, .slice X.p S.phases.length X.pc, .slice X.e S.eyes.length X.ec, .int .i64 S.watch, .int .i64 S.feed, .int .i64 S.heal, .int .i64 S.low, .int .i64 S.high, .slice X.l S.plans.length X.lc] 33)) = WA := ⟨_, rfl⟩
  rw [hWA] at hsb k1
  have HSB := Hid.mk' hsb
  have HK := Hid.mk' k1
  have HS := Hid.mk' (h.kept k1)
  have HT := Hid.mk' (hT.kept k1)
  have s0_ : ∀ w', Kept WA w' none → w'.cell? ⟨w.heap.size, 0, none⟩ = some (.int .i64 S.id) := fun w' q => (HSB.out.kept q).c0
  have s1_ : ∀ w', Kept WA w' none → w'.cell? ⟨w.heap.size, 1, none⟩ = some (.slice X.g S.groups.length X.gc) := fun w' q => (HSB.out.kept q).c1
  have s2_ : ∀ w', Kept WA w' none → w'.cell? ⟨w.heap.size, 2, none⟩ = some (.slice X.a S.apart.length X.ac) := fun w' q => (HSB.out.kept q).c2
  have s3_ : ∀ w', Kept WA w' none → w'.cell? ⟨w.heap.size, 3, none⟩ = some (.slice X.b S.between.length X.bc) := fun w' q => (HSB.out.kept q).c3
  have s4_ : ∀ w', Kept WA w' none → w'.cell? ⟨w.heap.size, 4, none⟩ = some (.slice X.p S.phases.length X.pc) := fun w' q => (HSB.out.kept q).c4
  have s5_ : ∀ w', Kept WA w' none → w'.cell? ⟨w.heap.size, 5, none⟩ = some (.slice X.e S.eyes.length X.ec) := fun w' q => (HSB.out.kept q).c5
  have s6_ : ∀ w', Kept WA w' none → w'.cell? ⟨w.heap.size, 6, none⟩ = some (.int .i64 S.watch) := fun w' q => (HSB.out.kept q).c6
  have s7_ : ∀ w', Kept WA w' none → w'.cell? ⟨w.heap.size, 7, none⟩ = some (.int .i64 S.feed) := fun w' q => (HSB.out.kept q).c7
  have s8_ : ∀ w', Kept WA w' none → w'.cell? ⟨w.heap.size, 8, none⟩ = some (.int .i64 S.heal) := fun w' q => (HSB.out.kept q).c8
  have s9_ : ∀ w', Kept WA w' none → w'.cell? ⟨w.heap.size, 9, none⟩ = some (.int .i64 S.low) := fun w' q => (HSB.out.kept q).c9
  have s10_ : ∀ w', Kept WA w' none → w'.cell? ⟨w.heap.size, 10, none⟩ = some (.int .i64 S.high) := fun w' q => (HSB.out.kept q).c10
  have s11_ : ∀ w', Kept WA w' none → w'.cell? ⟨w.heap.size, 11, none⟩ = some (.slice X.l S.plans.length X.lc) := fun w' q => (HSB.out.kept q).c11
  have hK0 := Kept.refl WA none
  clear h hT k1 hsb
  go_enter Tryd.func8, Tryd.ntmps8
  go_wp2_with (first | rw [hWA] | (go_at_call 17; refine (great_no HS.out HT.out hs).mono ?_; rintro e wC ⟨rfl, hkC⟩))
  go_ret2
  exact ⟨rfl, HK.out.tr hkC⟩
set_option maxRecDepth 100000 in
set_option maxHeartbeats 2000000 in
theorem twor_yes {X : Sa} {S : St} {w : World} (h : Sat w X S) (hT : Tabb w) (hs : siteB S = true) : Calls Tryd.prog 8 #[siteV X S] w fun e w' => e = .returned (.tuple #[.int .i64 (worT S), .int .i64 0]) ∧ Kept w w' none := by
  have hng := (span_may hs).base.sh.ok.ng
  have hgr := h.gk.room
  have HR := Hid.mk' (fun k hk => wor_rng (S := S) hs (k := k) hk)
  have hw0 := (tur_facts hs).w0
  have hw1 := (tur_facts hs).w1
  have HWI := Hid.mk' (wor_is hs)
  have k1 : Kept w (w.alloc (.cells #[.int .i64 S.id, .slice X.g S.groups.length X.gc, .slice X.a S.apart.length X.ac, .slice X.b S.between.length X.bc, .slice X.p S.phases.length X.pc, .slice X.e S.eyes.length X.ec, .int .i64 S.watch, .int .i64 S.feed, .int .i64 S.heal, .int .i64 S.low, .int .i64 S.high, .slice X.l S.plans.length X.lc] 33)) none := Kept.alloc _ _ _ _ _
  have hsb := sbox_alloc h 33
  obtain ⟨WA, hWA⟩ : ∃ WA, (w.alloc (.cells #[.int .i64 S.id, .slice X.g S.groups.length X.gc, .slice X.a S.apart.length X.ac, .slice X.b S.between.length X.bc, .slice X.p S.phases.length X.pc, .slice X.e S.eyes.length X.ec, .int .i64 S.watch, .int .i64 S.feed, .int .i64 S.heal, .int .i64 S.low, .int .i64 S.high, .slice X.l S.plans.length X.lc] 33)) = WA := ⟨_, rfl⟩
  rw [hWA] at hsb k1
  have HSB := Hid.mk' hsb
  have HK := Hid.mk' k1
  have HS := Hid.mk' (h.kept k1)
  have HT := Hid.mk' (hT.kept k1)
  have s0_ : ∀ w', Kept WA w' none → w'.cell? ⟨w.heap.size, 0, none⟩ = some (.int .i64 S.id) := fun w' q => (HSB.out.kept q).c0
  have s1_ : ∀ w', Kept WA w' none → w'.cell? ⟨w.heap.size, 1, none⟩ = some (.slice X.g S.groups.length X.gc) := fun w' q => (HSB.out.kept q).c1
  have s2_ : ∀ w', Kept WA w' none → w'.cell? ⟨w.heap.size, 2, none⟩ = some (.slice X.a S.apart.length X.ac) := fun w' q => (HSB.out.kept q).c2
  have s3_ : ∀ w', Kept WA w' none → w'.cell? ⟨w.heap.size, 3, none⟩ = some (.slice X.b S.between.length X.bc) := fun w' q => (HSB.out.kept q).c3
  have s4_ : ∀ w', Kept WA w' none → w'.cell? ⟨w.heap.size, 4, none⟩ = some (.slice X.p S.phases.length X.pc) := fun w' q => (HSB.out.kept q).c4
  have s5_ : ∀ w', Kept WA w' none → w'.cell? ⟨w.heap.size, 5, none⟩ = some (.slice X.e S.eyes.length X.ec) := fun w' q => (HSB.out.kept q).c5
  have s6_ : ∀ w', Kept WA w' none → w'.cell? ⟨w.heap.size, 6, none⟩ = some (.int .i64 S.watch) := fun w' q => (HSB.out.kept q).c6
  have s7_ : ∀ w', Kept WA w' none → w'.cell? ⟨w.heap.size, 7, none⟩ = some (.int .i64 S.feed) := fun w' q => (HSB.out.kept q).c7
  have s8_ : ∀ w', Kept WA w' none → w'.cell? ⟨w.heap.size, 8, none⟩ = some (.int .i64 S.heal) := fun w' q => (HSB.out.kept q).c8
  have s9_ : ∀ w', Kept WA w' none → w'.cell? ⟨w.heap.size, 9, none⟩ = some (.int .i64 S.low) := fun w' q => (HSB.out.kept q).c9
  have s10_ : ∀ w', Kept WA w' none → w'.cell? ⟨w.heap.size, 10, none⟩ = some (.int .i64 S.high) := fun w' q => (HSB.out.kept q).c10
  have s11_ : ∀ w', Kept WA w' none → w'.cell? ⟨w.heap.size, 11, none⟩ = some (.slice X.l S.plans.length X.lc) := fun w' q => (HSB.out.kept q).c11
  have hK0 := Kept.refl WA none
  clear h hT k1 hsb
  go_enter Tryd.func8, Tryd.ntmps8
  go_wp2_with (first | rw [hWA] | (go_at_call 17; refine (great_yes HS.out HT.out hs).mono ?_; rintro e wC ⟨rfl, hkC⟩; have hKC : Kept WA wC none := hkC))
  have HKC := Hid.mk' hKC
  clear hkC hKC
  go_loopw [6, 7, 9, 21] (fun g y _ i wr => ∃ k : Nat, k ≤ S.groups.length ∧ i = .int .i64 k ∧ g = .int .i64 (gm S k) ∧ y = .int .i64 (gy S k) ∧ Kept WA wr none) (fun _ _ _ i _ => S.groups.length - (intOf i).toNat)
  case atStart => exact ⟨0, by omega, rfl, rfl, rfl, HKC.out⟩
  case round =>
    obtain ⟨k, hk, rfl, rfl, rfl, hkw⟩ := hrel
    have HKW := Hid.mk' hkw
    by_cases hlt : k < S.groups.length
    · obtain ⟨bg, og, eg, q0, q1, q2⟩ := (HS.out.kept hkw).grAt hlt
      have c1 := (HSB.out.kept hkw).c1
      rw [eg] at *
      have hbl := block_lt q0
      have kS : Kept wr (wr.alloc (.cells #[.int .u8 ((S.gr k).kind : Int), .int .i64 (S.gr k).min, .int .i64 (S.gr k).yellow] 58)) none := Kept.alloc _ _ _ _ _
      have bS := box_alloc wr (.int .u8 ((S.gr k).kind : Int)) (.int .i64 (S.gr k).min) (.int .i64 (S.gr k).yellow) 58
      have HKS := Hid.mk' (hkw.tr kS)
      have HM : Hid (gm S (k + 1) = if gm S k < (S.gr k).min then (S.gr k).min else gm S k) := tmax_if _ _
      have HY : Hid (gy S (k + 1) = if gy S k < (S.gr k).yellow then (S.gr k).yellow else gy S k) := tmax_if _ _
      clear hkw c1
      clear s0_ s1_ s2_ s3_ s4_ s5_ s6_ s7_ s8_ s9_ s10_ s11_
      generalize S.gr k = N at *
      generalize gm S k = A at *
      generalize gy S k = Y at *
      obtain ⟨WS, hWS⟩ : ∃ WS, wr.alloc (.cells #[.int .u8 (N.kind : Int), .int .i64 N.min, .int .i64 N.yellow] 58) = WS := ⟨_, rfl⟩
      rw [hWS] at kS bS HKS
      have x1 : ∀ m, (WS.drewN m).cell? ⟨wr.heap.size, 1, none⟩ = some (.int .i64 N.min) := fun m => (bS.kept (Kept.drewN _ m _)).c1
      have x2 : ∀ m, (WS.drewN m).cell? ⟨wr.heap.size, 2, none⟩ = some (.int .i64 N.yellow) := fun m => (bS.kept (Kept.drewN _ m _)).c2
      have x1' := bS.c1
      have x2' := bS.c2
      clear kS bS
      by_cases ha : A < N.min
      · have HM1 : Hid (gm S (k + 1) = N.min) := by show _ = _; rw [HM.out, if_pos ha]
        by_cases hy : Y < N.yellow
        · have HY1 : Hid (gy S (k + 1) = N.yellow) := by show _ = _; rw [HY.out, if_pos hy]
          go_wp2_with (rw [hWS])
          go_quiet (fail)
          go_wp2
          go_roundw
          case rel => exact ⟨k + 1, by omega, by go_num, by rw [HM1.out], by rw [HY1.out], HKS.out.tr (Kept.drewN _ _ _)⟩
          case measure => simp [intOf]; omega
        · have HY1 : Hid (gy S (k + 1) = Y) := by show _ = _; rw [HY.out, if_neg hy]
          go_wp2_with (rw [hWS])
          go_quiet (fail)
          go_wp2
          go_roundw
          case rel => exact ⟨k + 1, by omega, by go_num, by rw [HM1.out], by rw [HY1.out], HKS.out.tr (Kept.drewN _ _ _)⟩
          case measure => simp [intOf]; omega
      · have HM1 : Hid (gm S (k + 1) = A) := by show _ = _; rw [HM.out, if_neg ha]
        by_cases hy : Y < N.yellow
        · have HY1 : Hid (gy S (k + 1) = N.yellow) := by show _ = _; rw [HY.out, if_pos hy]
          go_wp2_with (rw [hWS])
          go_quiet (fail)
          go_wp2
          go_roundw
          case rel => exact ⟨k + 1, by omega, by go_num, by rw [HM1.out], by rw [HY1.out], HKS.out.tr (Kept.drewN _ _ _)⟩
          case measure => simp [intOf]; omega
        · have HY1 : Hid (gy S (k + 1) = Y) := by show _ = _; rw [HY.out, if_neg hy]
          go_wp2_with (rw [hWS])
          go_quiet (fail)
          go_wp2
          go_roundw
          case rel => exact ⟨k + 1, by omega, by go_num, by rw [HM1.out], by rw [HY1.out], HKS.out.tr (Kept.drewN _ _ _)⟩
          case measure => simp [intOf]; omega
    · have e : k = S.groups.length := by omega
      subst e
      obtain ⟨r1, r2, r3, r4⟩ := HR.out _ (Nat.le_refl _)
      clear hkw
      generalize gm S S.groups.length = A at *
      generalize gy S S.groups.length = Y at *
      generalize worstM S = G at *
      by_cases hy : G < Y
      · have HW : Hid (worT S = A + Y + 2) := by show _ = _; rw [HWI.out, tmax_if, if_pos hy]
        go_wp2
        go_ret2
        exact ⟨by rw [HW.out]; rfl, HK.out.tr HKW.out⟩
      · have HW : Hid (worT S = A + G + 2) := by show _ = _; rw [HWI.out, tmax_if, if_neg hy]
        go_wp2
        go_ret2
        exact ⟨by rw [HW.out]; rfl, HK.out.tr HKW.out⟩

/-- What Worst tells. -/
def worE (S : St) : Int := if siteB S = false then 50 else 0
def worV (S : St) : Int := if siteB S = false then 0 else worT S
theorem twor_any {X : Sa} {S : St} {w : World} (h : Sat w X S) (hT : Tabb w) : Calls Tryd.prog 8 #[siteV X S] w fun e w' => e = .returned (.tuple #[.int .i64 (worV S), .int .i64 (worE S)]) ∧ Kept w w' none := by
  cases hs : siteB S with
  | false =>
    rw [show worV S = 0 by unfold worV; rw [hs]; rfl, show worE S = 50 by unfold worE; rw [hs]; rfl]
    exact twor_no h hT hs
  | true =>
    rw [show worV S = worT S by unfold worV; rw [hs]; rfl, show worE S = 0 by unfold worE; rw [hs]; rfl]
    exact twor_yes h hT hs

end Go.Proofs.YtchjbagipbmcoaaDoor

