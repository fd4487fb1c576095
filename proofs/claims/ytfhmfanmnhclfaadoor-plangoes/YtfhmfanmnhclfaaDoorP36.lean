import Derived.Test.YtfhmfanmnhclfaaDoorP35
import Derived.Test.YtfhmfanmnhclfaaDoorP13
namespace Go.Proofs.YtfhmfanmnhclfaaDoor
set_option linter.unusedVariables false
set_option linter.unusedSimpArgs false
open Go.RowKit Go.Lib Go.Deep

theorem rhas_is {S i : Nat} {v : Bool} {w : World} (hS : S < 4294967296) (hi : i < 32) (hv : S.testBit i = v) : Calls Tryd.prog 97 #[.int .u32 S, .int .i64 i] w fun e w' => e = .returned (.bool v) ∧ w' = w := by
  have := rhas_any S i w hS
  rw [has_in hi, hv] at this
  exact this
theorem lies_all {S : St} {f t : Nat} {m : Int} (hm : IsMost (PairsP S (fun a b => (S.ph f).groups.testBit a = true ∧ (S.ph t).groups.testBit b = true ∧ (S.ap a).testBit b = true) S.groups.length 0) m) : liesM S f t = m :=
  liesM_eq (hm.congr (fun x => ⟨fun ⟨a, b, h1, h2, ⟨h3, h4, h5⟩, h6⟩ => ⟨a, b, by omega, h2, h3, h4, h5, h6⟩, fun ⟨a, b, h1, h2, h3, h4, h5, h6⟩ => ⟨a, b, by omega, h2, ⟨h3, h4, h5⟩, h6⟩⟩))
set_option maxRecDepth 100000 in
set_option maxHeartbeats 8000000 in
theorem rclear_yes {X : Sa} {S : St} {w : World} (h : Sat w X S) (hSh : Shape S) (f t : Nat) (hf : f < S.phases.length) (ht : t < S.phases.length) : Calls Tryd.prog 114 #[siteV X S, .int .i64 f, .int .i64 t] w fun e w' => e = .returned (.int .i64 (liesM S f t)) ∧ Kept w w' none := by
  obtain ⟨xg, xgc, xa, xac, xb, xbc, xp, xpc, xe, xec, xl, xlc⟩ := X
  have hg16 := hSh.ok.ng
  have hp8 := hSh.ok.np
  have hna := hSh.ok.na
  have hnb := hSh.ok.nb
  obtain ⟨bg, og, eg, _⟩ := h.grAt (i := 0) (by omega)
  obtain ⟨bp, op, ep, _⟩ := h.phAt (i := 0) (by omega)
  obtain ⟨bb, ob, _, _, eb, _⟩ := h.b.at_ (i := 0) (by omega)
  dsimp only at eg ep eb
  subst eg ep eb
  have hkA : Kept w (w.alloc (.cells #[.int .i64 S.id, .slice (some ⟨bg, og, none⟩) S.groups.length xgc, .slice xa S.apart.length xac, .slice (some ⟨bb, ob, none⟩) S.between.length xbc, .slice (some ⟨bp, op, none⟩) S.phases.length xpc, .slice xe S.eyes.length xec, .int .i64 S.watch, .int .i64 S.feed, .int .i64 S.heal, .int .i64 S.low, .int .i64 S.high, .slice xl S.plans.length xlc] 35)) none := Kept.alloc _ _ _ _ _
  have HSB := Hid.mk' (sbox_alloc h 35)
  have HK := Hid.mk' hkA
  have HPH : Hid (∀ w', Kept (w.alloc (.cells #[.int .i64 S.id, .slice (some ⟨bg, og, none⟩) S.groups.length xgc, .slice xa S.apart.length xac, .slice (some ⟨bb, ob, none⟩) S.between.length xbc, .slice (some ⟨bp, op, none⟩) S.phases.length xpc, .slice xe S.eyes.length xec, .int .i64 S.watch, .int .i64 S.feed, .int .i64 S.heal, .int .i64 S.low, .int .i64 S.high, .slice xl S.plans.length xlc] 35)) w' none → ∀ i, i < S.phases.length → w'.cell? ⟨bp, op + i * 5, none⟩ = some (.int .u32 ((S.ph i).groups : Int))) := fun w' q i hi => by
    obtain ⟨b, o, e, p1, _⟩ := h.phAt hi
    injection e with e; injection e with e1 e2
    subst e1 e2
    exact cell_kept0 p1 (HK.out.tr q)
  have HBT : Hid (∀ i, i < S.groups.length → ∃ ar cr, (∀ w', Kept (w.alloc (.cells #[.int .i64 S.id, .slice (some ⟨bg, og, none⟩) S.groups.length xgc, .slice xa S.apart.length xac, .slice (some ⟨bb, ob, none⟩) S.between.length xbc, .slice (some ⟨bp, op, none⟩) S.phases.length xpc, .slice xe S.eyes.length xec, .int .i64 S.watch, .int .i64 S.feed, .int .i64 S.heal, .int .i64 S.low, .int .i64 S.high, .slice xl S.plans.length xlc] 35)) w' none → w'.cell? ⟨bb, ob + i, none⟩ = some (.slice ar (S.between.getD i []).length cr)) ∧ Ints (w.alloc (.cells #[.int .i64 S.id, .slice (some ⟨bg, og, none⟩) S.groups.length xgc, .slice xa S.apart.length xac, .slice (some ⟨bb, ob, none⟩) S.between.length xbc, .slice (some ⟨bp, op, none⟩) S.phases.length xpc, .slice xe S.eyes.length xec, .int .i64 S.watch, .int .i64 S.feed, .int .i64 S.heal, .int .i64 S.low, .int .i64 S.high, .slice xl S.plans.length xlc] 35)) ar (S.between.getD i []).length cr (S.between.getD i [])) := fun i hi => by
    obtain ⟨b, o, ar, cr, e, p1, hI⟩ := h.b.at_ (i := i) (by omega)
    injection e with e; injection e with e1 e2
    subst e1 e2
    exact ⟨ar, cr, fun w' q => cell_kept0 p1 (HK.out.tr q), hI.kept HK.out⟩
  have hgf := h.phr f
  have hgt := h.phr t
  have HRW := Hid.mk' hSh.row
  have HNA := Hid.mk' hna
  have HNB := Hid.mk' hnb
  clear h hkA hSh hna hnb
  go_enter Tryd.func114, Tryd.ntmps114
  go_wp2
  generalize hW : (w.alloc (.cells #[.int .i64 S.id, .slice (some ⟨bg, og, none⟩) S.groups.length xgc, .slice xa S.apart.length xac, .slice (some ⟨bb, ob, none⟩) S.between.length xbc, .slice (some ⟨bp, op, none⟩) S.phases.length xpc, .slice xe S.eyes.length xec, .int .i64 S.watch, .int .i64 S.feed, .int .i64 S.heal, .int .i64 S.low, .int .i64 S.high, .slice xl S.plans.length xlc] 35)) = W at *
  clear hW
  go_loopw [7, 8] (fun m a wr => ∃ (k : Nat) (M : Int), k ≤ S.groups.length ∧ a = .int .i64 k ∧ m = .int .i64 M ∧ Hid (IsMost (PairsP S (fun a b => (S.ph f).groups.testBit a = true ∧ (S.ph t).groups.testBit b = true ∧ (S.ap a).testBit b = true) k 0) M) ∧ Kept W wr none) (fun _ a _ => S.groups.length - (intOf a).toNat)
  case atStart => exact ⟨0, 0, Nat.zero_le _, rfl, rfl, pairs_start _ _, Kept.refl _ _⟩
  case round =>
    obtain ⟨a, M, ha, rfl, rfl, HM, hkr⟩ := hrel
    have c1 := (HSB.out.kept hkr).c1
    by_cases hal : a < S.groups.length
    case neg =>
      have e : a = S.groups.length := by omega
      subst e
      have HE := Hid.mk' (lies_all HM.out)
      go_wp2
      go_ret
      exact ⟨by rw [HE.out]; rfl, HK.out.tr hkr⟩
    go_wp2
    clear c1
    go_loopw [7, 9] (fun m b wx => ∃ (k : Nat) (M : Int), k ≤ S.groups.length ∧ b = .int .i64 k ∧ m = .int .i64 M ∧ Hid (IsMost (PairsP S (fun a b => (S.ph f).groups.testBit a = true ∧ (S.ph t).groups.testBit b = true ∧ (S.ap a).testBit b = true) a k) M) ∧ Kept W wx none) (fun _ b _ => S.groups.length - (intOf b).toNat)
    case atStart => exact ⟨0, M, Nat.zero_le _, rfl, rfl, HM, hkr⟩
    case round =>
    clear hkr
    obtain ⟨b, N, hb, rfl, rfl, HN, hkx⟩ := hrel
    obtain ⟨c0, c1, c2, c3, c4, c5, c6, c7, c8, c9, c10, c11, _⟩ := HSB.out.kept hkx
    by_cases hbl : b < S.groups.length
    case neg =>
      have e : b = S.groups.length := by omega
      subst e
      go_wp2
      go_roundw
      case rel => exact ⟨a + 1, N, by omega, by go_num, rfl, pairs_row HN.out, hkx⟩
      case measure => simp [intOf]; omega
    have hna := HNA.out
    have hnb := HNB.out
    have haa : a < S.apart.length := by omega
    have hab : a < S.between.length := by omega
    clear hna hnb
    have hrl := HRW.out a hal
    obtain ⟨ar, cr, fb, hI⟩ := HBT.out a hal
    obtain ⟨bi, oi, ei, _, hci⟩ := hI.at_ (by omega)
    subst ei
    have fi : ∀ w', Kept W w' none → w'.cell? ⟨bi, oi + b, none⟩ = some (.int .i64 (S.bt a b)) := fun w' q => cell_kept0 (hci b (by omega)) q
    rw [hrl] at fb
    clear hI hci hrl
    have kf := HPH.out _ hkx f hf
    have kt := HPH.out _ hkx t ht
    have HPN : Hid (¬ ((S.ph f).groups.testBit a = true ∧ (S.ph t).groups.testBit b = true ∧ (S.ap a).testBit b = true) → IsMost (PairsP S (fun a b => (S.ph f).groups.testBit a = true ∧ (S.ph t).groups.testBit b = true ∧ (S.ap a).testBit b = true) a (b + 1)) N) := fun q => pairs_no HN.out q
    have HPY : Hid (((S.ph f).groups.testBit a = true ∧ (S.ph t).groups.testBit b = true ∧ (S.ap a).testBit b = true) → IsMost (PairsP S (fun a b => (S.ph f).groups.testBit a = true ∧ (S.ph t).groups.testBit b = true ∧ (S.ap a).testBit b = true) a (b + 1)) (max N (S.bt a b))) := fun q => pairs_yes HN.out hbl q
    cases hA : (S.ph f).groups.testBit a with
    | false =>
      go_wp2_with (first | (go_at_call 97; refine (rhas_is (by assumption) (by omega) (by assumption)).mono ?_; rintro e w9 ⟨rfl, rfl⟩))
      go_roundw
      case rel => exact ⟨b + 1, N, by omega, by go_num, rfl, (HPN.out (fun q => by rw [hA] at q; cases q.1)), hkx⟩
      case measure => simp [intOf]; omega
    | true =>
      cases hB : (S.ph t).groups.testBit b with
      | false =>
        go_wp2_with (first | (go_at_call 97; refine (rhas_is (by assumption) (by omega) (by assumption)).mono ?_; rintro e w9 ⟨rfl, rfl⟩))
        go_roundw
        case rel => exact ⟨b + 1, N, by omega, by go_num, rfl, (HPN.out (fun q => by rw [hB] at q; cases q.2.1)), hkx⟩
        case measure => simp [intOf]; omega
      | true =>
        cases hC : (S.ap a).testBit b with
        | false =>
          go_wp2_with (first | (go_at_call 96; refine (rapart_is (HSB.out.sat.kept hkx) haa (by omega) (by assumption)).mono ?_; rintro e wS ⟨rfl, hkS⟩; obtain ⟨c0, c1, c2, c3, c4, c5, c6, c7, c8, c9, c10, c11, _⟩ := HSB.out.kept (hkx.tr hkS); have hrw := fb _ (hkx.tr hkS); have hrb := fi _ (hkx.tr hkS)) | (go_at_call 97; refine (rhas_is (by assumption) (by omega) (by assumption)).mono ?_; rintro e w9 ⟨rfl, rfl⟩))
          go_roundw
          case rel => exact ⟨b + 1, N, by omega, by go_num, rfl, (HPN.out (fun q => by rw [hC] at q; cases q.2.2)), hkx.tr hkS⟩
          case measure => simp [intOf]; omega
        | true =>
          have HMX := Hid.mk' (HPY.out ⟨hA, hB, hC⟩)
          generalize S.bt a b = BT at *
          by_cases hmx : N < BT
          · have HMY : Hid (IsMost (PairsP S (fun a b => (S.ph f).groups.testBit a = true ∧ (S.ph t).groups.testBit b = true ∧ (S.ap a).testBit b = true) a (b + 1)) BT) := by
              have := HMX.out
              rw [show max N BT = BT by omega] at this
              exact this
            go_wp2_with (first | (go_at_call 96; refine (rapart_is (HSB.out.sat.kept hkx) haa (by omega) (by assumption)).mono ?_; rintro e wS ⟨rfl, hkS⟩; clear c0 c1 c2 c3 c4 c5 c6 c7 c8 c9 c10 c11; obtain ⟨c0, c1, c2, c3, c4, c5, c6, c7, c8, c9, c10, c11, _⟩ := HSB.out.kept (hkx.tr hkS); have hrw := fb _ (hkx.tr hkS); have hrb := fi _ (hkx.tr hkS)) | (go_at_call 97; refine (rhas_is (by assumption) (by omega) (by assumption)).mono ?_; rintro e w9 ⟨rfl, rfl⟩))
            go_roundw
            case rel => exact ⟨b + 1, BT, by omega, by go_num, rfl, HMY, hkx.tr hkS⟩
            case measure => simp [intOf]; omega
          · have HMY : Hid (IsMost (PairsP S (fun a b => (S.ph f).groups.testBit a = true ∧ (S.ph t).groups.testBit b = true ∧ (S.ap a).testBit b = true) a (b + 1)) N) := by
              have := HMX.out
              rw [show max N BT = N by omega] at this
              exact this
            go_wp2_with (first | (go_at_call 96; refine (rapart_is (HSB.out.sat.kept hkx) haa (by omega) (by assumption)).mono ?_; rintro e wS ⟨rfl, hkS⟩; clear c0 c1 c2 c3 c4 c5 c6 c7 c8 c9 c10 c11; obtain ⟨c0, c1, c2, c3, c4, c5, c6, c7, c8, c9, c10, c11, _⟩ := HSB.out.kept (hkx.tr hkS); have hrw := fb _ (hkx.tr hkS); have hrb := fi _ (hkx.tr hkS)) | (go_at_call 97; refine (rhas_is (by assumption) (by omega) (by assumption)).mono ?_; rintro e w9 ⟨rfl, rfl⟩))
            go_roundw
            case rel => exact ⟨b + 1, N, by omega, by go_num, rfl, HMY, hkx.tr hkS⟩
            case measure => simp [intOf]; omega

set_option maxRecDepth 100000 in
set_option maxHeartbeats 4000000 in
theorem rneeds_yes {X : Sa} {S : St} {w : World} (h : Sat w X S) (hBs : Base S) (i : Nat) (hi : i < S.phases.length) : Calls Tryd.prog 100 #[siteV X S, .int .i64 i] w fun e w' => e = .returned (.int .i64 (partM S i)) ∧ Kept w w' none := by
  obtain ⟨xg, xgc, xa, xac, xb, xbc, xp, xpc, xe, xec, xl, xlc⟩ := X
  have hp8 := hBs.sh.ok.np
  have hmn := hBs.mn i hi
  have hli := hBs.lies i ((i + 1) % S.phases.length)
  obtain ⟨bp, op, ep, _, kp1, _⟩ := h.phAt hi
  dsimp only at ep
  subst ep
  have hkA : Kept w (w.alloc (.cells #[.int .i64 S.id, .slice xg S.groups.length xgc, .slice xa S.apart.length xac, .slice xb S.between.length xbc, .slice (some ⟨bp, op, none⟩) S.phases.length xpc, .slice xe S.eyes.length xec, .int .i64 S.watch, .int .i64 S.feed, .int .i64 S.heal, .int .i64 S.low, .int .i64 S.high, .slice xl S.plans.length xlc] 35)) none := Kept.alloc _ _ _ _ _
  have HSB := Hid.mk' (sbox_alloc h 35)
  have HK := Hid.mk' hkA
  have HS := Hid.mk' hBs
  have km := cell_kept0 kp1 hkA
  have hmod : ((i : Int) + 1) % (S.phases.length : Int) = (((i + 1) % S.phases.length : Nat) : Int) := by simp
  have hml : (i + 1) % S.phases.length < S.phases.length := Nat.mod_lt _ (by omega)
  have hwr : (IntKind.i64.wrap ((i : Int) + 1)).tmod (S.phases.length : Int) = (((i + 1) % S.phases.length : Nat) : Int) := by
    rw [wrap_in (by omega) (by omega), Int.tmod_eq_emod_of_nonneg (by omega)]
    exact hmod
  have hwr2 : ((i : Int) + 1).tmod (S.phases.length : Int) = (((i + 1) % S.phases.length : Nat) : Int) := by
    rw [Int.tmod_eq_emod_of_nonneg (by omega)]
    exact hmod
  have hsum : IntKind.i64.wrap ((S.ph i).min + liesM S i ((i + 1) % S.phases.length)) = partM S i := by
    rw [wrap_in (by omega) (by omega)]; rfl
  have HE : Hid (partM S i = (S.ph i).min + liesM S i ((i + 1) % S.phases.length)) := rfl
  generalize hj : (i + 1) % S.phases.length = j at *
  have hnz : ((S.phases.length : Int) == 0) = false := by rw [beq_eq_false_iff_ne]; omega
  have hnz1 : ¬ (S.phases.length : Int) = 0 := by omega
  have hnz2 : ¬ S.phases = [] := by intro e; rw [e] at hp8; simp at hp8
  have HW := Hid.mk' hsum
  clear h hkA hBs hj kp1 hsum
  go_enter Tryd.func100, Tryd.ntmps100
  go_wp2
  generalize hW0 : (w.alloc (.cells #[.int .i64 S.id, .slice xg S.groups.length xgc, .slice xa S.apart.length xac, .slice xb S.between.length xbc, .slice (some ⟨bp, op, none⟩) S.phases.length xpc, .slice xe S.eyes.length xec, .int .i64 S.watch, .int .i64 S.feed, .int .i64 S.heal, .int .i64 S.low, .int .i64 S.high, .slice xl S.plans.length xlc] 35)) = W at *
  clear hW0
  have f0 : ∀ w', Kept W w' none → w'.cell? ⟨w.heap.size, 0, none⟩ = some (.int .i64 S.id) := fun w' k => (HSB.out.kept k).c0
  have f1 : ∀ w', Kept W w' none → w'.cell? ⟨w.heap.size, 1, none⟩ = some (.slice xg S.groups.length xgc) := fun w' k => (HSB.out.kept k).c1
  have f2 : ∀ w', Kept W w' none → w'.cell? ⟨w.heap.size, 2, none⟩ = some (.slice xa S.apart.length xac) := fun w' k => (HSB.out.kept k).c2
  have f3 : ∀ w', Kept W w' none → w'.cell? ⟨w.heap.size, 3, none⟩ = some (.slice xb S.between.length xbc) := fun w' k => (HSB.out.kept k).c3
  have f4 : ∀ w', Kept W w' none → w'.cell? ⟨w.heap.size, 4, none⟩ = some (.slice (some ⟨bp, op, none⟩) S.phases.length xpc) := fun w' k => (HSB.out.kept k).c4
  have f5 : ∀ w', Kept W w' none → w'.cell? ⟨w.heap.size, 5, none⟩ = some (.slice xe S.eyes.length xec) := fun w' k => (HSB.out.kept k).c5
  have f6 : ∀ w', Kept W w' none → w'.cell? ⟨w.heap.size, 6, none⟩ = some (.int .i64 S.watch) := fun w' k => (HSB.out.kept k).c6
  have f7 : ∀ w', Kept W w' none → w'.cell? ⟨w.heap.size, 7, none⟩ = some (.int .i64 S.feed) := fun w' k => (HSB.out.kept k).c7
  have f8 : ∀ w', Kept W w' none → w'.cell? ⟨w.heap.size, 8, none⟩ = some (.int .i64 S.heal) := fun w' k => (HSB.out.kept k).c8
  have f9 : ∀ w', Kept W w' none → w'.cell? ⟨w.heap.size, 9, none⟩ = some (.int .i64 S.low) := fun w' k => (HSB.out.kept k).c9
  have f10 : ∀ w', Kept W w' none → w'.cell? ⟨w.heap.size, 10, none⟩ = some (.int .i64 S.high) := fun w' k => (HSB.out.kept k).c10
  have f11 : ∀ w', Kept W w' none → w'.cell? ⟨w.heap.size, 11, none⟩ = some (.slice xl S.plans.length xlc) := fun w' k => (HSB.out.kept k).c11
  have fm : ∀ w', Kept W w' none → w'.cell? ⟨bp, op + i * 5 + 1, none⟩ = some (.int .i64 (S.ph i).min) := fun w' q => cell_kept0 km q
  clear km
  go_region_held (fun w' => Kept W w' none)
    ((first | exact Kept.refl _ _ | exact Kept.drew _ _ | assumption | exact Kept.tr (by assumption) (Kept.drew _ _)))
    ((go_at_call 114; refine (rclear_yes (HSB.out.sat.kept (by assumption)) HS.out.sh i j hi hml).mono ?_; rintro e wS ⟨rfl, hkS⟩; have hKS : Kept W wS none := Kept.tr (by assumption) hkS))
  all_goals
    go_wp2
    go_ret
    exact ⟨ret_int HW.out, HK.out.tr (by assumption)⟩
set_option maxRecDepth 100000 in
set_option maxHeartbeats 4000000 in
theorem rround_yes {X : Sa} {S : St} {w : World} (h : Sat w X S) (hBs : Base S) : Calls Tryd.prog 61 #[siteV X S] w fun e w' => e = .returned (.int .i64 (roundM S)) ∧ Kept w w' none := by
  obtain ⟨xg, xgc, xa, xac, xb, xbc, xp, xpc, xe, xec, xl, xlc⟩ := X
  have hp8 := hBs.sh.ok.np
  have hkA : Kept w (w.alloc (.cells #[.int .i64 S.id, .slice xg S.groups.length xgc, .slice xa S.apart.length xac, .slice xb S.between.length xbc, .slice xp S.phases.length xpc, .slice xe S.eyes.length xec, .int .i64 S.watch, .int .i64 S.feed, .int .i64 S.heal, .int .i64 S.low, .int .i64 S.high, .slice xl S.plans.length xlc] 35)) none := Kept.alloc _ _ _ _ _
  have HSB := Hid.mk' (sbox_alloc h 35)
  have HK := Hid.mk' hkA
  have HS := Hid.mk' hBs
  clear h hkA hBs
  go_enter Tryd.func61, Tryd.ntmps61
  go_wp2
  generalize hW0 : (w.alloc (.cells #[.int .i64 S.id, .slice xg S.groups.length xgc, .slice xa S.apart.length xac, .slice xb S.between.length xbc, .slice xp S.phases.length xpc, .slice xe S.eyes.length xec, .int .i64 S.watch, .int .i64 S.feed, .int .i64 S.heal, .int .i64 S.low, .int .i64 S.high, .slice xl S.plans.length xlc] 35)) = W at *
  clear hW0
  go_loopw [3, 4] (fun s i wr => ∃ k : Nat, k ≤ S.phases.length ∧ i = .int .i64 k ∧ s = .int .i64 (roundN S k) ∧ Kept W wr none) (fun _ i _ => S.phases.length - (intOf i).toNat)
  case atStart => exact ⟨0, Nat.zero_le _, rfl, rfl, Kept.refl _ _⟩
  case round =>
    obtain ⟨k, hk, rfl, rfl, hkw⟩ := hrel
    have hr := HS.out.round k hk
    obtain ⟨c0, c1, c2, c3, c4, c5, c6, c7, c8, c9, c10, c11, _⟩ := HSB.out.kept hkw
    by_cases hlt : k < S.phases.length
    · have hp := HS.out.part hlt
      have HR : Hid (roundN S (k + 1) = roundN S k + partM S k) := rfl
      generalize roundN S k = R at *
      go_wp2_with (go_at_call 100; refine (rneeds_yes (HSB.out.sat.kept hkw) HS.out k hlt).mono ?_; rintro e w2 ⟨rfl, hk2⟩)
      go_roundw
      case rel => exact ⟨k + 1, by omega, by go_num, by rw [HR.out], hkw.tr hk2⟩
      case measure => simp [intOf]; omega
    · have e : k = S.phases.length := by omega
      subst e
      go_wp2
      go_ret
      exact ⟨rfl, HK.out.tr hkw⟩


set_option maxRecDepth 100000 in
set_option maxHeartbeats 8000000 in
theorem rplan_yes {X : Sa} {S : St} {w : World} (h : Sat w X S) (hSp : Span S) (p : Pl) (a : Option Addr) (c : Nat) (hI : Ints w a p.splits.length c p.splits) : Calls Tryd.prog 62 #[siteV X S, planV p a c] w fun e w' => e = .returned (.bool (planB S p)) ∧ Kept w w' none := by
  obtain ⟨xg, xgc, xa, xac, xb, xbc, xp, xpc, xe, xec, xl, xlc⟩ := X
  have hp8 := hSp.base.sh.ok.np
  have hlow := hSp.low
  have hhigh := hSp.high
  have hkA : Kept w (w.alloc (.cells #[.int .i64 S.id, .slice xg S.groups.length xgc, .slice xa S.apart.length xac, .slice xb S.between.length xbc, .slice xp S.phases.length xpc, .slice xe S.eyes.length xec, .int .i64 S.watch, .int .i64 S.feed, .int .i64 S.heal, .int .i64 S.low, .int .i64 S.high, .slice xl S.plans.length xlc] 35)) none := Kept.alloc _ _ _ _ _
  have hkB : Kept (w.alloc (.cells #[.int .i64 S.id, .slice xg S.groups.length xgc, .slice xa S.apart.length xac, .slice xb S.between.length xbc, .slice xp S.phases.length xpc, .slice xe S.eyes.length xec, .int .i64 S.watch, .int .i64 S.feed, .int .i64 S.heal, .int .i64 S.low, .int .i64 S.high, .slice xl S.plans.length xlc] 35)) ((w.alloc (.cells #[.int .i64 S.id, .slice xg S.groups.length xgc, .slice xa S.apart.length xac, .slice xb S.between.length xbc, .slice xp S.phases.length xpc, .slice xe S.eyes.length xec, .int .i64 S.watch, .int .i64 S.feed, .int .i64 S.heal, .int .i64 S.low, .int .i64 S.high, .slice xl S.plans.length xlc] 35)).alloc (.cells #[.int .i64 p.cycle, .int .i64 p.offset, .slice a p.splits.length c] 24)) none := Kept.alloc _ _ _ _ _
  have HSB := Hid.mk' ((sbox_alloc h 35).kept hkB)
  have HK := Hid.mk' (hkA.tr hkB)
  have HS := Hid.mk' hSp
  have hlm : p.splits.length ≤ 9223372036854775807 := by have := hI.cap.room; have := hI.cap.max; omega
  have q := box3 (w.alloc (.cells #[.int .i64 S.id, .slice xg S.groups.length xgc, .slice xa S.apart.length xac, .slice xb S.between.length xbc, .slice xp S.phases.length xpc, .slice xe S.eyes.length xec, .int .i64 S.watch, .int .i64 S.feed, .int .i64 S.heal, .int .i64 S.low, .int .i64 S.high, .slice xl S.plans.length xlc] 35)) (.int .i64 p.cycle) (.int .i64 p.offset) (.slice a p.splits.length c) 24
  rw [show (w.alloc (.cells #[.int .i64 S.id, .slice xg S.groups.length xgc, .slice xa S.apart.length xac, .slice xb S.between.length xbc, .slice xp S.phases.length xpc, .slice xe S.eyes.length xec, .int .i64 S.watch, .int .i64 S.feed, .int .i64 S.heal, .int .i64 S.low, .int .i64 S.high, .slice xl S.plans.length xlc] 35)).heap.size = w.heap.size + 1 by simp] at q
  have HQ := Hid.mk' q
  have HI := Hid.mk' (hI.kept (hkA.tr hkB))
  clear h hSp hI hkA hkB q
  cases h1 : inB p.cycle S.low S.high with
  | false =>
    have HE : Hid (planB S p = false) := by show planB S p = false; unfold planB; rw [h1]; rfl
    go_enter Tryd.func62, Tryd.ntmps62
    go_wp2_with (go_at_call 60; refine (rin_is (by assumption)).mono ?_; rintro e w9 ⟨rfl, rfl⟩)
    go_ret
    exact ⟨by rw [HE.out]; rfl, HK.out⟩
  | true =>
    have hcy := inB_iff.1 h1
    have hwr : IntKind.i64.wrap (p.cycle - 1) = p.cycle - 1 := wrap_in (by omega) (by omega)
    cases h2 : inB p.offset 0 (p.cycle - 1) with
    | false =>
      have HE : Hid (planB S p = false) := by show planB S p = false; unfold planB; rw [h1, h2]; rfl
      go_enter Tryd.func62, Tryd.ntmps62
      go_wp2_with (go_at_call 60; refine (rin_is (by assumption)).mono ?_; rintro e w9 ⟨rfl, rfl⟩)
      go_ret
      exact ⟨by rw [HE.out]; rfl, HK.out⟩
    | true =>
      by_cases hl : p.splits.length = S.phases.length
      · have hl3 : (p.splits.length : Int) = (S.phases.length : Int) := by omega
        have HE : Hid (planB S p = splitsB S 0 p.splits p.cycle) := by show planB S p = _; unfold planB; rw [h1, h2, decide_eq_true hl]; rfl
        have hl1 : p.splits.length ≤ S.phases.length := by omega
        have hl2 : S.phases.length ≤ p.splits.length := by omega
        clear hl
        obtain ⟨bi, oi, ei, hbi, hci⟩ := HI.out.at_ (by omega)
        subst ei
        have HC := Hid.mk' hci
        clear hci
        go_enter Tryd.func62, Tryd.ntmps62
        go_wp2_with (go_at_call 60; refine (rin_is (by assumption)).mono ?_; rintro e w9 ⟨rfl, rfl⟩)
        clear hl3
        generalize hW : ((w.alloc (.cells #[.int .i64 S.id, .slice xg S.groups.length xgc, .slice xa S.apart.length xac, .slice xb S.between.length xbc, .slice xp S.phases.length xpc, .slice xe S.eyes.length xec, .int .i64 S.watch, .int .i64 S.feed, .int .i64 S.heal, .int .i64 S.low, .int .i64 S.high, .slice xl S.plans.length xlc] 35)).alloc (.cells #[.int .i64 p.cycle, .int .i64 p.offset, .slice (some ⟨bi, oi, none⟩) p.splits.length c] 24)) = W at *
        clear hW
        go_loopw [5, 6] (fun s i wr => ∃ (k : Nat) (left : Int), k ≤ p.splits.length ∧ i = .int .i64 k ∧ s = .int .i64 left ∧ 0 ≤ left ∧ left ≤ 1048576 ∧ Hid (splitsB S k (p.splits.drop k) left = splitsB S 0 p.splits p.cycle) ∧ Kept W wr none) (fun _ i _ => p.splits.length - (intOf i).toNat)
        case atStart => exact ⟨0, p.cycle, Nat.zero_le _, rfl, rfl, by omega, by omega, rfl, Kept.refl _ _⟩
        case round =>
          obtain ⟨k, left, hk, rfl, rfl, hl0, hl1', HSP, hkw⟩ := hrel
          have q2 := cell_kept0 HQ.out.2.2 hkw
          by_cases hlt : k < p.splits.length
          · have hp := HS.out.base.part (i := k) (by omega)
            have hkp : k < S.phases.length := by omega
            have fk : ∀ w', Kept W w' none → w'.cell? ⟨bi, oi + k, none⟩ = some (.int .i64 (p.splits.getD k 0)) := fun w' q => cell_kept0 (HC.out k hlt) q
            have fq : ∀ w', Kept W w' none → w'.cell? ⟨w.heap.size + 1, 2, none⟩ = some (.slice (some ⟨bi, oi, none⟩) p.splits.length c) := fun w' q => cell_kept0 HQ.out.2.2 q
            have HST : Hid (splitsB S k (p.splits.drop k) left = (inB (p.splits.getD k 0) (partM S k) left && splitsB S (k + 1) (p.splits.drop (k + 1)) (left - p.splits.getD k 0))) := by show splitsB S k (p.splits.drop k) left = _; rw [drop_getD hlt]; rfl
            have f0 : ∀ w', Kept W w' none → w'.cell? ⟨w.heap.size, 0, none⟩ = some (.int .i64 S.id) := fun w' k => (HSB.out.kept k).c0
            have f1 : ∀ w', Kept W w' none → w'.cell? ⟨w.heap.size, 1, none⟩ = some (.slice xg S.groups.length xgc) := fun w' k => (HSB.out.kept k).c1
            have f2 : ∀ w', Kept W w' none → w'.cell? ⟨w.heap.size, 2, none⟩ = some (.slice xa S.apart.length xac) := fun w' k => (HSB.out.kept k).c2
            have f3 : ∀ w', Kept W w' none → w'.cell? ⟨w.heap.size, 3, none⟩ = some (.slice xb S.between.length xbc) := fun w' k => (HSB.out.kept k).c3
            have f4 : ∀ w', Kept W w' none → w'.cell? ⟨w.heap.size, 4, none⟩ = some (.slice xp S.phases.length xpc) := fun w' k => (HSB.out.kept k).c4
            have f5 : ∀ w', Kept W w' none → w'.cell? ⟨w.heap.size, 5, none⟩ = some (.slice xe S.eyes.length xec) := fun w' k => (HSB.out.kept k).c5
            have f6 : ∀ w', Kept W w' none → w'.cell? ⟨w.heap.size, 6, none⟩ = some (.int .i64 S.watch) := fun w' k => (HSB.out.kept k).c6
            have f7 : ∀ w', Kept W w' none → w'.cell? ⟨w.heap.size, 7, none⟩ = some (.int .i64 S.feed) := fun w' k => (HSB.out.kept k).c7
            have f8 : ∀ w', Kept W w' none → w'.cell? ⟨w.heap.size, 8, none⟩ = some (.int .i64 S.heal) := fun w' k => (HSB.out.kept k).c8
            have f9 : ∀ w', Kept W w' none → w'.cell? ⟨w.heap.size, 9, none⟩ = some (.int .i64 S.low) := fun w' k => (HSB.out.kept k).c9
            have f10 : ∀ w', Kept W w' none → w'.cell? ⟨w.heap.size, 10, none⟩ = some (.int .i64 S.high) := fun w' k => (HSB.out.kept k).c10
            have f11 : ∀ w', Kept W w' none → w'.cell? ⟨w.heap.size, 11, none⟩ = some (.slice xl S.plans.length xlc) := fun w' k => (HSB.out.kept k).c11
            generalize p.splits.getD k 0 = v at *
            cases h4 : inB v (partM S k) left with
            | true =>
              have hb := inB_iff.1 h4
              go_wp2
              refine Code.wp_mono (Q := Rg ?A1 W) ?cont1 ?reg1
              case reg1 =>
                repeat (rename_i hh; clear hh)
                refine wp_region_held_drew (S := fun w' => Kept W w' none) (by kernel_rfl) (Kept.tr hkw (Kept.drew _ _)) (fun hHeld => ?_)
                refine held_take (i := 0) (v := ?v2) rfl rfl (by kernel_rfl) (by kernel_rfl) (by kernel_rfl) (fun _ _ _ h => h) (Or.inl ⟨by rfl, ?hy2⟩) hHeld ?rest2
                case hy2 => first | (intro w hSw; (try dsimp only at hSw); go_simp; done) | (intro w hSw; (try dsimp only at hSw); go_simp; with_reducible rfl)
                try simp only [List.setIfInBounds_toArray, List.set_cons_zero, List.set_cons_succ]
                refine held_take (i := 1) (v := ?v3) rfl rfl (by kernel_rfl) (by kernel_rfl) (by kernel_rfl) (fun _ _ _ h => h) (Or.inl ⟨by rfl, ?hy3⟩) hHeld ?rest3
                case hy3 => first | (intro w hSw; (try dsimp only at hSw); go_simp; done) | (intro w hSw; (try dsimp only at hSw); go_simp; with_reducible rfl)
                try simp only [List.setIfInBounds_toArray, List.set_cons_zero, List.set_cons_succ]
                refine held_take (i := 2) (v := ?v4) rfl rfl (by kernel_rfl) (by kernel_rfl) (by kernel_rfl) (fun _ _ _ h => h) (Or.inl ⟨by rfl, ?hy4⟩) hHeld ?rest4
                case hy4 => first | (intro w hSw; (try dsimp only at hSw); go_simp; done) | (intro w hSw; (try dsimp only at hSw); go_simp; with_reducible rfl)
                try simp only [List.setIfInBounds_toArray, List.set_cons_zero, List.set_cons_succ]
                refine held_take (i := 3) (v := ?v5) rfl rfl (by kernel_rfl) (by kernel_rfl) (by kernel_rfl) (fun _ _ _ h => h) (Or.inl ⟨by rfl, ?hy5⟩) hHeld ?rest5
                case hy5 => first | (intro w hSw; (try dsimp only at hSw); go_simp; done) | (intro w hSw; (try dsimp only at hSw); go_simp; with_reducible rfl)
                try simp only [List.setIfInBounds_toArray, List.set_cons_zero, List.set_cons_succ]
                refine held_take (i := 4) (v := ?v6) rfl rfl (by kernel_rfl) (by kernel_rfl) (by kernel_rfl) (fun _ _ _ h => h) (Or.inl ⟨by rfl, ?hy6⟩) hHeld ?rest6
                case hy6 => first | (intro w hSw; (try dsimp only at hSw); go_simp; done) | (intro w hSw; (try dsimp only at hSw); go_simp; with_reducible rfl)
                try simp only [List.setIfInBounds_toArray, List.set_cons_zero, List.set_cons_succ]
                refine held_take (i := 5) (v := ?v7) rfl rfl (by kernel_rfl) (by kernel_rfl) (by kernel_rfl) (fun _ _ _ h => h) (Or.inl ⟨by rfl, ?hy7⟩) hHeld ?rest7
                case hy7 => first | (intro w hSw; (try dsimp only at hSw); go_simp; done) | (intro w hSw; (try dsimp only at hSw); go_simp; with_reducible rfl)
                try simp only [List.setIfInBounds_toArray, List.set_cons_zero, List.set_cons_succ]
                refine held_take (i := 6) (v := ?v8) rfl rfl (by kernel_rfl) (by kernel_rfl) (by kernel_rfl) (fun _ _ _ h => h) (Or.inl ⟨by rfl, ?hy8⟩) hHeld ?rest8
                case hy8 => first | (intro w hSw; (try dsimp only at hSw); go_simp; done) | (intro w hSw; (try dsimp only at hSw); go_simp; with_reducible rfl)
                try simp only [List.setIfInBounds_toArray, List.set_cons_zero, List.set_cons_succ]
                refine held_take (i := 8) (v := ?v9) rfl rfl (by kernel_rfl) (by kernel_rfl) (by kernel_rfl) (fun _ _ _ h => h) (Or.inl ⟨by rfl, ?hy9⟩) hHeld ?rest9
                case hy9 => first | (intro w hSw; (try dsimp only at hSw); go_simp; done) | (intro w hSw; (try dsimp only at hSw); go_simp; with_reducible rfl)
                try simp only [List.setIfInBounds_toArray, List.set_cons_zero, List.set_cons_succ]
                refine wpAnyH_ready (rs := [7]) (by kernel_rfl) (by simp) ?_
                refine AllReadyH.cons rfl (fun K hK => ?_) AllReadyH.nil
                go_simp
                go_wp2_with (go_at_call 100; refine (rneeds_yes (HSB.out.sat.kept hHeld) HS.out.base k hkp).mono ?_; rintro e wS ⟨rfl, hkS⟩; have hKS : Kept W wS none := Kept.tr hHeld hkS)
                replace hK := hK.out
                refine hK _ _ hKS (fun hHeld => ?_)
                clear hK K
                refine wpAnyH_ready (rs := [9]) (by kernel_rfl) (by simp) ?_
                refine AllReadyH.cons rfl (fun K hK => ?_) AllReadyH.nil
                go_simp
                go_wp2_with (go_at_call 60; refine (rin_is (by assumption)).mono ?_; rintro e w9 ⟨rfl, rfl⟩; have hKS := hHeld)
                replace hK := hK.out
                refine hK _ _ hKS (fun hHeld => ?_)
                clear hK K
                refine held_take (i := 10) (v := ?v10) rfl rfl (by kernel_rfl) (by kernel_rfl) (by kernel_rfl) (fun _ _ _ h => h) (Or.inl ⟨by rfl, ?hy10⟩) hHeld ?rest10
                case hy10 => first | (intro w hSw; (try dsimp only at hSw); go_simp; done) | (intro w hSw; (try dsimp only at hSw); go_simp; with_reducible rfl)
                try simp only [List.setIfInBounds_toArray, List.set_cons_zero, List.set_cons_succ]
                refine wpAnyH_done (by kernel_rfl) ?_ _
                refine And.intro ?_ hHeld
                with_reducible rfl
              case cont1 =>
              intro e a' w' hq
              obtain ⟨rfl, rfl, hkq⟩ := hq.out
              go_wp2
              go_roundw
              case rel => exact ⟨k + 1, left - v, by omega, by go_num, by go_num, by omega, by omega, (show splitsB S (k + 1) (p.splits.drop (k + 1)) (left - v) = splitsB S 0 p.splits p.cycle by rw [← HSP.out, HST.out, h4]; rfl), hkq⟩
              case measure => simp [intOf]; omega
            | false =>
              have HE2 : Hid (planB S p = false) := by show planB S p = false; rw [HE.out, ← HSP.out, HST.out, h4]; rfl
              go_wp2
              refine Code.wp_mono (Q := Rg ?A11 W) ?cont11 ?reg11
              case reg11 =>
                repeat (rename_i hh; clear hh)
                refine wp_region_held_drew (S := fun w' => Kept W w' none) (by kernel_rfl) (Kept.tr hkw (Kept.drew _ _)) (fun hHeld => ?_)
                refine held_take (i := 0) (v := ?v12) rfl rfl (by kernel_rfl) (by kernel_rfl) (by kernel_rfl) (fun _ _ _ h => h) (Or.inl ⟨by rfl, ?hy12⟩) hHeld ?rest12
                case hy12 => first | (intro w hSw; (try dsimp only at hSw); go_simp; done) | (intro w hSw; (try dsimp only at hSw); go_simp; with_reducible rfl)
                try simp only [List.setIfInBounds_toArray, List.set_cons_zero, List.set_cons_succ]
                refine held_take (i := 1) (v := ?v13) rfl rfl (by kernel_rfl) (by kernel_rfl) (by kernel_rfl) (fun _ _ _ h => h) (Or.inl ⟨by rfl, ?hy13⟩) hHeld ?rest13
                case hy13 => first | (intro w hSw; (try dsimp only at hSw); go_simp; done) | (intro w hSw; (try dsimp only at hSw); go_simp; with_reducible rfl)
                try simp only [List.setIfInBounds_toArray, List.set_cons_zero, List.set_cons_succ]
                refine held_take (i := 2) (v := ?v14) rfl rfl (by kernel_rfl) (by kernel_rfl) (by kernel_rfl) (fun _ _ _ h => h) (Or.inl ⟨by rfl, ?hy14⟩) hHeld ?rest14
                case hy14 => first | (intro w hSw; (try dsimp only at hSw); go_simp; done) | (intro w hSw; (try dsimp only at hSw); go_simp; with_reducible rfl)
                try simp only [List.setIfInBounds_toArray, List.set_cons_zero, List.set_cons_succ]
                refine held_take (i := 3) (v := ?v15) rfl rfl (by kernel_rfl) (by kernel_rfl) (by kernel_rfl) (fun _ _ _ h => h) (Or.inl ⟨by rfl, ?hy15⟩) hHeld ?rest15
                case hy15 => first | (intro w hSw; (try dsimp only at hSw); go_simp; done) | (intro w hSw; (try dsimp only at hSw); go_simp; with_reducible rfl)
                try simp only [List.setIfInBounds_toArray, List.set_cons_zero, List.set_cons_succ]
                refine held_take (i := 4) (v := ?v16) rfl rfl (by kernel_rfl) (by kernel_rfl) (by kernel_rfl) (fun _ _ _ h => h) (Or.inl ⟨by rfl, ?hy16⟩) hHeld ?rest16
                case hy16 => first | (intro w hSw; (try dsimp only at hSw); go_simp; done) | (intro w hSw; (try dsimp only at hSw); go_simp; with_reducible rfl)
                try simp only [List.setIfInBounds_toArray, List.set_cons_zero, List.set_cons_succ]
                refine held_take (i := 5) (v := ?v17) rfl rfl (by kernel_rfl) (by kernel_rfl) (by kernel_rfl) (fun _ _ _ h => h) (Or.inl ⟨by rfl, ?hy17⟩) hHeld ?rest17
                case hy17 => first | (intro w hSw; (try dsimp only at hSw); go_simp; done) | (intro w hSw; (try dsimp only at hSw); go_simp; with_reducible rfl)
                try simp only [List.setIfInBounds_toArray, List.set_cons_zero, List.set_cons_succ]
                refine held_take (i := 6) (v := ?v18) rfl rfl (by kernel_rfl) (by kernel_rfl) (by kernel_rfl) (fun _ _ _ h => h) (Or.inl ⟨by rfl, ?hy18⟩) hHeld ?rest18
                case hy18 => first | (intro w hSw; (try dsimp only at hSw); go_simp; done) | (intro w hSw; (try dsimp only at hSw); go_simp; with_reducible rfl)
                try simp only [List.setIfInBounds_toArray, List.set_cons_zero, List.set_cons_succ]
                refine held_take (i := 8) (v := ?v19) rfl rfl (by kernel_rfl) (by kernel_rfl) (by kernel_rfl) (fun _ _ _ h => h) (Or.inl ⟨by rfl, ?hy19⟩) hHeld ?rest19
                case hy19 => first | (intro w hSw; (try dsimp only at hSw); go_simp; done) | (intro w hSw; (try dsimp only at hSw); go_simp; with_reducible rfl)
                try simp only [List.setIfInBounds_toArray, List.set_cons_zero, List.set_cons_succ]
                refine wpAnyH_ready (rs := [7]) (by kernel_rfl) (by simp) ?_
                refine AllReadyH.cons rfl (fun K hK => ?_) AllReadyH.nil
                go_simp
                go_wp2_with (go_at_call 100; refine (rneeds_yes (HSB.out.sat.kept hHeld) HS.out.base k hkp).mono ?_; rintro e wS ⟨rfl, hkS⟩; have hKS : Kept W wS none := Kept.tr hHeld hkS)
                replace hK := hK.out
                refine hK _ _ hKS (fun hHeld => ?_)
                clear hK K
                refine wpAnyH_ready (rs := [9]) (by kernel_rfl) (by simp) ?_
                refine AllReadyH.cons rfl (fun K hK => ?_) AllReadyH.nil
                go_simp
                go_wp2_with (go_at_call 60; refine (rin_is (by assumption)).mono ?_; rintro e w9 ⟨rfl, rfl⟩; have hKS := hHeld)
                replace hK := hK.out
                refine hK _ _ hKS (fun hHeld => ?_)
                clear hK K
                refine held_take (i := 10) (v := ?v20) rfl rfl (by kernel_rfl) (by kernel_rfl) (by kernel_rfl) (fun _ _ _ h => h) (Or.inl ⟨by rfl, ?hy20⟩) hHeld ?rest20
                case hy20 => first | (intro w hSw; (try dsimp only at hSw); go_simp; done) | (intro w hSw; (try dsimp only at hSw); go_simp; with_reducible rfl)
                try simp only [List.setIfInBounds_toArray, List.set_cons_zero, List.set_cons_succ]
                refine wpAnyH_done (by kernel_rfl) ?_ _
                refine And.intro ?_ hHeld
                with_reducible rfl
              case cont11 =>
              intro e a' w' hq
              obtain ⟨rfl, rfl, hkq⟩ := hq.out
              go_wp2
              go_ret
              exact ⟨by rw [HE2.out]; rfl, HK.out.tr hkq⟩
          · have e : k = p.splits.length := by omega
            subst e
            have HE3 : Hid (planB S p = decide (left = 0)) := by show planB S p = _; rw [HE.out, ← HSP.out, List.drop_length]; rfl
            go_wp2
            go_ret
            exact ⟨ret_bool (by rw [HE3.out, Bool.eq_iff_iff]; simp), HK.out.tr hkw⟩
      · have hl3 : ¬ (p.splits.length : Int) = (S.phases.length : Int) := by omega
        have HE : Hid (planB S p = false) := by show planB S p = false; unfold planB; rw [decide_eq_false hl]; simp
        go_enter Tryd.func62, Tryd.ntmps62
        go_wp2_with (go_at_call 60; refine (rin_is (by assumption)).mono ?_; rintro e w9 ⟨rfl, rfl⟩)
        go_ret
        exact ⟨by rw [HE.out]; rfl, HK.out⟩

end Go.Proofs.YtfhmfanmnhclfaaDoor
