/-
  THE WALK of SiteApart.
-/
import Derived.Test.YtpajefkfnhibnaaDoorApartM
import Derived.Test.YtpajefkfnhibnaaDoorSmallS
import Derived.Test.YtpajefkfnhibnaaDoorAlive
namespace Go.Proofs.YtpajefkfnhibnaaDoor
open Go.RowKit Go.Lib Go.Deep
set_option linter.unusedVariables false
set_option linter.unusedSimpArgs false

set_option maxRecDepth 100000 in
set_option maxHeartbeats 3000000 in
theorem apart_no {X : Sa} {S : St} {w : World} (h : Sat w X S) (hT : Tabb w ∧ Table w) (hs : siteB S = false) : Calls Tryd.prog 8 #[siteV X S] w fun e w' => e = .returned (.bool true) ∧ Below w.heap.size w w' := by
  obtain ⟨xg, xgc, xa, xac, xb, xbc, xp, xpc, xe, xec, xl, xlc⟩ := X
  have hkA : Kept w (w.alloc (.cells #[.int .i64 S.id, .slice xg S.groups.length xgc, .slice xa S.apart.length xac, .slice xb S.between.length xbc, .slice xp S.phases.length xpc, .slice xe S.eyes.length xec, .int .i64 S.watch, .int .i64 S.feed, .int .i64 S.heal, .int .i64 S.low, .int .i64 S.high, .slice xl S.plans.length xlc] 29)) none := Kept.alloc _ _ _ _ _
  have HSB := Hid.mk' (sbox_alloc h 29)
  have HK := Hid.mk' hkA
  have HT := Hid.mk' (hT.1.kept hkA)
  have HTb := Hid.mk' (hT.2.kept hkA)
  have HSE := Hid.mk' (checkE_no hs)
  have HS' := Hid.mk' hs
  clear h hT hkA hs
  go_enter Tryd.func8, Tryd.ntmps8
  go_wp2_with (go_at_call 17; refine (alive_any HT.out HTb.out).mono ?_; rintro e w1 ⟨rfl, hk1⟩; obtain ⟨c0, c1, c2, c3, c4, c5, c6, c7, c8, c9, c10, c11, _⟩ := HSB.out.kept hk1)
  go_at_call 36
  refine (smallS_any (HSB.out.sat.kept hk1)).mono ?_
  rintro e w2 ⟨z, rfl, hk2⟩
  clear c0 c1 c2 c3 c4 c5 c6 c7 c8 c9 c10 c11
  have K2 := Hid.mk' (hk1.tr hk2)
  clear hk1 hk2
  by_cases hz : z < 150
  case neg =>
    go_wp2
    go_ret
    exact ⟨rfl, (HK.out.tr K2.out).below⟩
  obtain ⟨c0, c1, c2, c3, c4, c5, c6, c7, c8, c9, c10, c11, _⟩ := HSB.out.kept K2.out
  go_wp2_with (go_at_call 16; have hn := check_any (HSB.out.sat.kept K2.out) (HT.out.kept K2.out); rw [HSE.out] at hn; refine hn.mono ?_; rintro e w3 ⟨rfl, hk3⟩; have K3 := Hid.mk' (K2.out.tr hk3); clear hk3)
  go_ret
  exact ⟨rfl, (HK.out.tr K3.out).below⟩
set_option maxRecDepth 100000 in
set_option maxHeartbeats 6000000 in
theorem apart_yes {X : Sa} {S : St} {w : World} (h : Sat w X S) (hT : Tabb w ∧ Table w) (hs : siteB S = true) : Calls Tryd.prog 8 #[siteV X S] w fun e w' => e = .returned (.bool true) ∧ Below w.heap.size w w' := by
  obtain ⟨xg, xgc, xa, xac, xb, xbc, xp, xpc, xe, xec, xl, xlc⟩ := X
  have hSh := (span_may hs).base.sh
  have hg16 := hSh.ok.ng
  have hp8 := hSh.ok.np
  obtain ⟨bp, op, ep, _⟩ := h.phAt (i := 0) (by omega)
  obtain ⟨bg, og, eg, _⟩ := h.grAt (i := 0) (by omega)
  dsimp only at ep eg
  subst ep eg
  have hphr := h.phr
  have HPH0 : Hid (∀ i, i < S.phases.length → w.cell? ⟨bp, op + i * 5, none⟩ = some (.int .u32 ((S.ph i).groups : Int))) := fun i hi => by
    obtain ⟨b, o, e, hc, _⟩ := h.phAt hi
    injection e with e; injection e with e1 e2
    subst e1 e2
    exact hc
  have HGR0 : Hid (∀ i, i < S.groups.length → w.cell? ⟨bg, og + i * 3 + 2, none⟩ = some (.int .i64 (S.gr i).yellow)) := fun i hi => by
    obtain ⟨b, o, e, _, _, hc⟩ := h.grAt hi
    injection e with e; injection e with e1 e2
    subst e1 e2
    exact hc
  have hkA : Kept w (w.alloc (.cells #[.int .i64 S.id, .slice (some ⟨bg, og, none⟩) S.groups.length xgc, .slice xa S.apart.length xac, .slice xb S.between.length xbc, .slice (some ⟨bp, op, none⟩) S.phases.length xpc, .slice xe S.eyes.length xec, .int .i64 S.watch, .int .i64 S.feed, .int .i64 S.heal, .int .i64 S.low, .int .i64 S.high, .slice xl S.plans.length xlc] 29)) none := Kept.alloc _ _ _ _ _
  have HSB := Hid.mk' (sbox_alloc h 29)
  have HK := Hid.mk' hkA
  have HT := Hid.mk' (hT.1.kept hkA)
  have HTb := Hid.mk' (hT.2.kept hkA)
  have HSE := Hid.mk' (checkE_yes hs)
  have HS' := Hid.mk' hs
  have HPH : Hid (∀ w', Kept (w.alloc (.cells #[.int .i64 S.id, .slice (some ⟨bg, og, none⟩) S.groups.length xgc, .slice xa S.apart.length xac, .slice xb S.between.length xbc, .slice (some ⟨bp, op, none⟩) S.phases.length xpc, .slice xe S.eyes.length xec, .int .i64 S.watch, .int .i64 S.feed, .int .i64 S.heal, .int .i64 S.low, .int .i64 S.high, .slice xl S.plans.length xlc] 29)) w' none → ∀ i, i < S.phases.length → w'.cell? ⟨bp, op + i * 5, none⟩ = some (.int .u32 ((S.ph i).groups : Int))) := fun w' q i hi => cell_kept0 (HPH0.out i hi) (HK.out.tr q)
  have HGR : Hid (∀ w', Kept (w.alloc (.cells #[.int .i64 S.id, .slice (some ⟨bg, og, none⟩) S.groups.length xgc, .slice xa S.apart.length xac, .slice xb S.between.length xbc, .slice (some ⟨bp, op, none⟩) S.phases.length xpc, .slice xe S.eyes.length xec, .int .i64 S.watch, .int .i64 S.feed, .int .i64 S.heal, .int .i64 S.low, .int .i64 S.high, .slice xl S.plans.length xlc] 29)) w' none → ∀ i, i < S.groups.length → w'.cell? ⟨bg, og + i * 3 + 2, none⟩ = some (.int .i64 (S.gr i).yellow)) := fun w' q i hi => cell_kept0 (HGR0.out i hi) (HK.out.tr q)
  have HKP := Hid.mk' (keeps_may hs)
  have HSH := Hid.mk' hSh
  clear hSh HPH0 HGR0
  clear h hT hkA hs
  go_enter Tryd.func8, Tryd.ntmps8
  go_wp2_with (go_at_call 17; refine (alive_any HT.out HTb.out).mono ?_; rintro e w1 ⟨rfl, hk1⟩; obtain ⟨c0, c1, c2, c3, c4, c5, c6, c7, c8, c9, c10, c11, _⟩ := HSB.out.kept hk1)
  go_at_call 36
  refine (smallS_any (HSB.out.sat.kept hk1)).mono ?_
  rintro e w2 ⟨z, rfl, hk2⟩
  clear c0 c1 c2 c3 c4 c5 c6 c7 c8 c9 c10 c11
  have K2 := Hid.mk' (hk1.tr hk2)
  clear hk1 hk2
  by_cases hz : z < 150
  case neg =>
    go_wp2
    go_ret
    exact ⟨rfl, (HK.out.tr K2.out).below⟩
  obtain ⟨c0, c1, c2, c3, c4, c5, c6, c7, c8, c9, c10, c11, _⟩ := HSB.out.kept K2.out
  obtain ⟨V, hV⟩ : ∃ V, worstM S = V := ⟨_, rfl⟩
  have HV := Hid.mk' hV
  clear hV
  go_wp2_with (first
    | (have hgo := K3; clear hgo; go_at_call 10; have hn := worst_yes (HSB.out.sat.kept K3.out) (HT.out.kept K3.out) HS'.out; rw [HV.out] at hn; refine hn.mono ?_; rintro e w4 ⟨rfl, hk4⟩; have K4 := Hid.mk' (K3.out.tr hk4); clear hk4 c0 c1 c2 c3 c4 c5 c6 c7 c8 c9 c10 c11; obtain ⟨c0, c1, c2, c3, c4, c5, c6, c7, c8, c9, c10, c11, _⟩ := HSB.out.kept K4.out)
    | (go_at_call 16; have hn := check_any (HSB.out.sat.kept K2.out) (HT.out.kept K2.out); rw [HSE.out] at hn; refine hn.mono ?_; rintro e w3 ⟨rfl, hk3⟩; have K3 := Hid.mk' (K2.out.tr hk3); clear hk3 c0 c1 c2 c3 c4 c5 c6 c7 c8 c9 c10 c11; obtain ⟨c0, c1, c2, c3, c4, c5, c6, c7, c8, c9, c10, c11, _⟩ := HSB.out.kept K3.out))
  clear c0 c1 c2 c3 c4 c5 c6 c7 c8 c9 c10 c11
  generalize (w.alloc (.cells #[.int .i64 S.id, .slice (some ⟨bg, og, none⟩) S.groups.length xgc, .slice xa S.apart.length xac, .slice xb S.between.length xbc, .slice (some ⟨bp, op, none⟩) S.phases.length xpc, .slice xe S.eyes.length xec, .int .i64 S.watch, .int .i64 S.feed, .int .i64 S.heal, .int .i64 S.low, .int .i64 S.high, .slice xl S.plans.length xlc] 29)) = W0 at *
  go_loopw [6, 7] (fun m a wr => ∃ (k : Nat) (M : Int), k ≤ S.groups.length ∧ a = .int .i64 k ∧ m = .int .i64 M ∧ Hid (IsMost (PairsP S (fun _ _ => True) k 0) M) ∧ Kept W0 wr none) (fun _ a _ => S.groups.length - (intOf a).toNat)
  case atStart => exact ⟨0, 0, by omega, rfl, rfl, pairs_start _ _, K4.out⟩
  case round =>
    obtain ⟨a, M, ha, rfl, rfl, HM, hkr⟩ := hrel
    have KR := Hid.mk' hkr
    clear hkr
    obtain ⟨c0, c1, c2, c3, c4, c5, c6, c7, c8, c9, c10, c11, _⟩ := HSB.out.kept KR.out
    by_cases hlt : a < S.groups.length
    case neg =>
      have e : a = S.groups.length := by omega
      subst e
      have hw : V = M := HV.out.symm.trans (worst_pairs HSH.out HM.out)
      subst hw
      go_wp2
      go_ret
      exact ⟨rfl, (HK.out.tr KR.out).below⟩
    go_wp2
    go_loopw [8, 9] (fun i j wx => ∃ k : Nat, k ≤ S.phases.length ∧ j = .int .i64 k ∧ i = .bool (inN S a k) ∧ wx = wr) (fun _ j _ => S.phases.length - (intOf j).toNat)
    case atStart => exact ⟨0, Nat.zero_le _, rfl, rfl, rfl⟩
    case round =>
      obtain ⟨k, hk, rfl, rfl, rfl⟩ := hrel
      by_cases hkl : k < S.phases.length
      · have hc := HPH.out _ KR.out k hkl
        have hgl := hphr k
        have hb := has_ref (S.ph k).groups a
        have HIN := Hid.mk' (inN_succ S a k)
        generalize inN S a k = I at *
        cases I with
        | true =>
          go_wp2
          go_roundw
          case rel => exact ⟨k + 1, by omega, by go_num, by rw [HIN.out]; rfl, trivial⟩
          case measure => simp [intOf]; omega
        | false =>
          go_wp2
          go_roundw
          case rel => exact ⟨k + 1, by omega, by go_num, by rw [HIN.out, ← hb]; rfl, trivial⟩
          case measure => simp [intOf]; omega
      · have e : k = S.phases.length := by omega
        subst e
        have hin := inN_all HKP.out hlt
        rw [hin]
        clear hin
        go_wp2
        clear c0 c1 c2 c3 c4 c5 c6 c7 c8 c9 c10 c11
        go_loopw [6, 10] (fun m b wx => ∃ (k : Nat) (M : Int), k ≤ S.groups.length ∧ b = .int .i64 k ∧ m = .int .i64 M ∧ Hid (IsMost (PairsP S (fun _ _ => True) a k) M) ∧ Kept W0 wx none) (fun _ b _ => S.groups.length - (intOf b).toNat)
        case atStart => exact ⟨0, M, by omega, rfl, rfl, HM, KR.out⟩
        case round =>
          obtain ⟨b, N, hb, rfl, rfl, HN, hkx⟩ := hrel
          have KX := Hid.mk' hkx
          clear hkx
          obtain ⟨c0, c1, c2, c3, c4, c5, c6, c7, c8, c9, c10, c11, _⟩ := HSB.out.kept KX.out
          by_cases hbl : b < S.groups.length
          case neg =>
            have e : b = S.groups.length := by omega
            subst e
            go_wp2
            go_roundw
            case rel => exact ⟨a + 1, N, by omega, by go_num, rfl, pairs_row HN.out, KX.out⟩
            case measure => simp [intOf]; omega
          have HSY := Hid.mk' (HKP.out.sym a b hlt hbl)
          cases hx : (S.ap a).testBit b with
          | true =>
            have hy := HKP.out.yel a b hlt hbl hx
            have hab : ((a : Int) == b) = false := beq_eq_false_iff_ne.2 fun e => by
              have e' : a = b := by omega
              subst e'
              rw [HKP.out.own a hlt] at hx
              cases hx
            have HXT := Hid.mk' hx
            have HMX0 := Hid.mk' (pairs_yes HN.out hbl trivial)
            generalize hBT : S.bt a b = BT at *
            have HBT := Hid.mk' hBT
            clear hx hBT
            have hcond : ¬ (((a : Int) == b) = true ∨ BT < (S.gr a).yellow) := by
              rw [hab]
              simp only [Bool.false_eq_true, false_or]
              omega
            by_cases hmx : N < BT
            · have HMX : Hid (IsMost (PairsP S (fun _ _ => True) a (b + 1)) BT) := by
                have := HMX0.out
                rw [show max N BT = BT by omega] at this
                exact this
              go_wp2_with (first
                | (have hgo := KZ; clear hgo; go_at_call 21; have hn := betweenq_yes (HSB.out.sat.kept KZ.out) (HT.out.kept KZ.out) a b HS'.out hlt hbl; rw [HBT.out] at hn; refine hn.mono ?_; rintro e w7 ⟨rfl, hk7⟩; have KU := Hid.mk' (KZ.out.tr hk7); clear hk7 c0 c1 c2 c3 c4 c5 c6 c7 c8 c9 c10 c11; obtain ⟨c0, c1, c2, c3, c4, c5, c6, c7, c8, c9, c10, c11, _⟩ := HSB.out.kept KU.out; have hgr := HGR.out _ KU.out a hlt)
                | (have hgo := KY; clear hgo; go_at_call 12; have hn := apartq_yes (HSB.out.sat.kept KY.out) (HT.out.kept KY.out) b a HS'.out hbl hlt; rw [← HSY.out, HXT.out] at hn; refine hn.mono ?_; rintro e w6 ⟨rfl, hk6⟩; have KZ := Hid.mk' (KY.out.tr hk6); clear hk6 c0 c1 c2 c3 c4 c5 c6 c7 c8 c9 c10 c11; obtain ⟨c0, c1, c2, c3, c4, c5, c6, c7, c8, c9, c10, c11, _⟩ := HSB.out.kept KZ.out)
                | (go_at_call 12; have hn := apartq_yes (HSB.out.sat.kept KX.out) (HT.out.kept KX.out) a b HS'.out hlt hbl; rw [HXT.out] at hn; refine hn.mono ?_; rintro e w5 ⟨rfl, hk5⟩; have KY := Hid.mk' (KX.out.tr hk5); clear hk5 c0 c1 c2 c3 c4 c5 c6 c7 c8 c9 c10 c11; obtain ⟨c0, c1, c2, c3, c4, c5, c6, c7, c8, c9, c10, c11, _⟩ := HSB.out.kept KY.out))
              go_loopw [17] (fun i wy => ∃ k : Nat, k ≤ S.phases.length ∧ i = .int .i64 k ∧ wy = w7) (fun i _ => S.phases.length - (intOf i).toNat)
              case atStart => exact ⟨0, Nat.zero_le _, rfl, rfl⟩
              case round =>
              obtain ⟨k, hk, rfl, rfl⟩ := hrel
              by_cases hkl : k < S.phases.length
              · have hc := HPH.out _ KU.out k hkl
                have hgl := hphr k
                have hba := has_ref (S.ph k).groups a
                have hbb := has_ref (S.ph k).groups b
                cases hA : (S.ph k).groups.testBit a with
                | false =>
                  rw [hA] at hba
                  clear hbb
                  go_wp2
                  go_roundw
                  case rel => exact ⟨k + 1, by omega, by go_num, trivial⟩
                  case measure => simp [intOf]; omega
                | true =>
                  cases hB : (S.ph k).groups.testBit b with
                  | false =>
                    rw [hA] at hba
                    rw [hB] at hbb
                    go_wp2
                    go_roundw
                    case rel => exact ⟨k + 1, by omega, by go_num, trivial⟩
                    case measure => simp [intOf]; omega
                  | true => exact absurd (HKP.out.mate k a b hkl hlt hbl hA hB) (by rw [HXT.out]; decide)
              · go_wp2
                go_roundw
                case rel => exact ⟨b + 1, BT, by omega, by go_num, rfl, HMX, KU.out⟩
                case measure => simp [intOf]; omega
            · have HMX : Hid (IsMost (PairsP S (fun _ _ => True) a (b + 1)) N) := by
                have := HMX0.out
                rw [show max N BT = N by omega] at this
                exact this
              go_wp2_with (first
                | (have hgo := KZ; clear hgo; go_at_call 21; have hn := betweenq_yes (HSB.out.sat.kept KZ.out) (HT.out.kept KZ.out) a b HS'.out hlt hbl; rw [HBT.out] at hn; refine hn.mono ?_; rintro e w7 ⟨rfl, hk7⟩; have KU := Hid.mk' (KZ.out.tr hk7); clear hk7 c0 c1 c2 c3 c4 c5 c6 c7 c8 c9 c10 c11; obtain ⟨c0, c1, c2, c3, c4, c5, c6, c7, c8, c9, c10, c11, _⟩ := HSB.out.kept KU.out; have hgr := HGR.out _ KU.out a hlt)
                | (have hgo := KY; clear hgo; go_at_call 12; have hn := apartq_yes (HSB.out.sat.kept KY.out) (HT.out.kept KY.out) b a HS'.out hbl hlt; rw [← HSY.out, HXT.out] at hn; refine hn.mono ?_; rintro e w6 ⟨rfl, hk6⟩; have KZ := Hid.mk' (KY.out.tr hk6); clear hk6 c0 c1 c2 c3 c4 c5 c6 c7 c8 c9 c10 c11; obtain ⟨c0, c1, c2, c3, c4, c5, c6, c7, c8, c9, c10, c11, _⟩ := HSB.out.kept KZ.out)
                | (go_at_call 12; have hn := apartq_yes (HSB.out.sat.kept KX.out) (HT.out.kept KX.out) a b HS'.out hlt hbl; rw [HXT.out] at hn; refine hn.mono ?_; rintro e w5 ⟨rfl, hk5⟩; have KY := Hid.mk' (KX.out.tr hk5); clear hk5 c0 c1 c2 c3 c4 c5 c6 c7 c8 c9 c10 c11; obtain ⟨c0, c1, c2, c3, c4, c5, c6, c7, c8, c9, c10, c11, _⟩ := HSB.out.kept KY.out))
              go_loopw [17] (fun i wy => ∃ k : Nat, k ≤ S.phases.length ∧ i = .int .i64 k ∧ wy = w7) (fun i _ => S.phases.length - (intOf i).toNat)
              case atStart => exact ⟨0, Nat.zero_le _, rfl, rfl⟩
              case round =>
              obtain ⟨k, hk, rfl, rfl⟩ := hrel
              by_cases hkl : k < S.phases.length
              · have hc := HPH.out _ KU.out k hkl
                have hgl := hphr k
                have hba := has_ref (S.ph k).groups a
                have hbb := has_ref (S.ph k).groups b
                cases hA : (S.ph k).groups.testBit a with
                | false =>
                  rw [hA] at hba
                  clear hbb
                  go_wp2
                  go_roundw
                  case rel => exact ⟨k + 1, by omega, by go_num, trivial⟩
                  case measure => simp [intOf]; omega
                | true =>
                  cases hB : (S.ph k).groups.testBit b with
                  | false =>
                    rw [hA] at hba
                    rw [hB] at hbb
                    go_wp2
                    go_roundw
                    case rel => exact ⟨k + 1, by omega, by go_num, trivial⟩
                    case measure => simp [intOf]; omega
                  | true => exact absurd (HKP.out.mate k a b hkl hlt hbl hA hB) (by rw [HXT.out]; decide)
              · go_wp2
                go_roundw
                case rel => exact ⟨b + 1, N, by omega, by go_num, rfl, HMX, KU.out⟩
                case measure => simp [intOf]; omega
          | false =>
            have hy := HKP.out.nil a b hlt hbl hx
            have HXT := Hid.mk' hx
            have HBT := Hid.mk' hy
            have hN0 := HN.out.1
            have HMX : Hid (IsMost (PairsP S (fun _ _ => True) a (b + 1)) N) := by
              have := pairs_yes HN.out hbl trivial
              rw [hy, show max N 0 = N by omega] at this
              exact this
            clear hx hy
            have hmx : ¬ N < 0 := by omega
            · skip
              go_wp2_with (first
                | (have hgo := KZ; clear hgo; go_at_call 21; have hn := betweenq_yes (HSB.out.sat.kept KZ.out) (HT.out.kept KZ.out) a b HS'.out hlt hbl; rw [HBT.out] at hn; refine hn.mono ?_; rintro e w7 ⟨rfl, hk7⟩; have KU := Hid.mk' (KZ.out.tr hk7); clear hk7 c0 c1 c2 c3 c4 c5 c6 c7 c8 c9 c10 c11; obtain ⟨c0, c1, c2, c3, c4, c5, c6, c7, c8, c9, c10, c11, _⟩ := HSB.out.kept KU.out)
                | (have hgo := KY; clear hgo; go_at_call 12; have hn := apartq_yes (HSB.out.sat.kept KY.out) (HT.out.kept KY.out) b a HS'.out hbl hlt; rw [← HSY.out, HXT.out] at hn; refine hn.mono ?_; rintro e w6 ⟨rfl, hk6⟩; have KZ := Hid.mk' (KY.out.tr hk6); clear hk6 c0 c1 c2 c3 c4 c5 c6 c7 c8 c9 c10 c11; obtain ⟨c0, c1, c2, c3, c4, c5, c6, c7, c8, c9, c10, c11, _⟩ := HSB.out.kept KZ.out)
                | (go_at_call 12; have hn := apartq_yes (HSB.out.sat.kept KX.out) (HT.out.kept KX.out) a b HS'.out hlt hbl; rw [HXT.out] at hn; refine hn.mono ?_; rintro e w5 ⟨rfl, hk5⟩; have KY := Hid.mk' (KX.out.tr hk5); clear hk5 c0 c1 c2 c3 c4 c5 c6 c7 c8 c9 c10 c11; obtain ⟨c0, c1, c2, c3, c4, c5, c6, c7, c8, c9, c10, c11, _⟩ := HSB.out.kept KY.out))
              go_loopw [17] (fun i wy => ∃ k : Nat, k ≤ S.phases.length ∧ i = .int .i64 k ∧ wy = w7) (fun i _ => S.phases.length - (intOf i).toNat)
              case atStart => exact ⟨0, Nat.zero_le _, rfl, rfl⟩
              case round =>
              obtain ⟨k, hk, rfl, rfl⟩ := hrel
              by_cases hkl : k < S.phases.length
              · go_wp2
                go_roundw
                case rel => exact ⟨b + 1, N, by omega, by go_num, rfl, HMX, KU.out⟩
                case measure => simp [intOf]; omega
              · go_wp2
                go_roundw
                case rel => exact ⟨b + 1, N, by omega, by go_num, rfl, HMX, KU.out⟩
                case measure => simp [intOf]; omega
theorem sapart_any {X : Sa} {S : St} {w : World} (h : Sat w X S) (hT : Tabb w ∧ Table w) : Calls Tryd.prog 8 #[siteV X S] w fun e w' => e = .returned (.bool true) ∧ Below w.heap.size w w' := by
  cases hs : siteB S
  · exact apart_no h hT hs
  · exact apart_yes h hT hs

end Go.Proofs.YtpajefkfnhibnaaDoor
