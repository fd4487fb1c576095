import Derived.Test.YtfhmfanmnhclfaaDoorP21
namespace Go.Proofs.YtfhmfanmnhclfaaDoor
set_option linter.unusedVariables false
set_option linter.unusedSimpArgs false
open Go.RowKit Go.Lib Go.Deep

set_option maxRecDepth 100000 in
set_option maxHeartbeats 2000000 in
theorem raft_end {X : Sa} {S : St} {w : World} (h : Sat w X S) (hn : S.phases.length ≤ 8) {p : Nat} (hp : p < S.phases.length) (e : (p : Int) = (S.phases.length : Int) - 1) : Calls Tryd.prog 40 #[siteV X S, .int .i64 (p : Int)] w fun e w' => e = .returned (.int .i64 0) ∧ Kept w w' none := by
  obtain ⟨WA, hWA⟩ : ∃ WA, (w.alloc (.cells #[.int .i64 S.id, .slice X.g S.groups.length X.gc, .slice X.a S.apart.length X.ac, .slice X.b S.between.length X.bc, .slice X.p S.phases.length X.pc, .slice X.e S.eyes.length X.ec, .int .i64 S.watch, .int .i64 S.feed, .int .i64 S.heal, .int .i64 S.low, .int .i64 S.high, .slice X.l S.plans.length X.lc] 35)) = WA := ⟨_, rfl⟩
  obtain ⟨HSB, HK, HS, s0_, s1_, s2_, s3_, s4_, s5_, s6_, s7_, s8_, s9_, s10_, s11_⟩ := hd1 h hWA
  have hK0 := Kept.refl WA none
  clear h
  go_enter Tryd.func40, Tryd.ntmps40
  go_wp2_with (rw [hWA])
  go_ret
  exact ⟨by first | rfl | simp, HK.out⟩
set_option maxRecDepth 100000 in
set_option maxHeartbeats 2000000 in
theorem raft_on {X : Sa} {S : St} {w : World} (h : Sat w X S) (hn : S.phases.length ≤ 8) {p : Nat} (hp : p < S.phases.length) (e : ¬ (p : Int) = (S.phases.length : Int) - 1) : Calls Tryd.prog 40 #[siteV X S, .int .i64 (p : Int)] w fun e w' => e = .returned (.int .i64 ((p + 1 : Nat) : Int)) ∧ Kept w w' none := by
  obtain ⟨WA, hWA⟩ : ∃ WA, (w.alloc (.cells #[.int .i64 S.id, .slice X.g S.groups.length X.gc, .slice X.a S.apart.length X.ac, .slice X.b S.between.length X.bc, .slice X.p S.phases.length X.pc, .slice X.e S.eyes.length X.ec, .int .i64 S.watch, .int .i64 S.feed, .int .i64 S.heal, .int .i64 S.low, .int .i64 S.high, .slice X.l S.plans.length X.lc] 35)) = WA := ⟨_, rfl⟩
  obtain ⟨HSB, HK, HS, s0_, s1_, s2_, s3_, s4_, s5_, s6_, s7_, s8_, s9_, s10_, s11_⟩ := hd1 h hWA
  have hK0 := Kept.refl WA none
  clear h
  go_enter Tryd.func40, Tryd.ntmps40
  go_wp2_with (rw [hWA])
  go_ret
  exact ⟨by first | rfl | simp, HK.out⟩
theorem raft_any {X : Sa} {S : St} {w : World} (h : Sat w X S) (hn : S.phases.length ≤ 8) {p : Nat} (hp : p < S.phases.length) : Calls Tryd.prog 40 #[siteV X S, .int .i64 (p : Int)] w fun e w' => e = .returned (.int .i64 (((p + 1) % S.phases.length : Nat) : Int)) ∧ Kept w w' none := by
  rw [← nx_mod hp]
  unfold nxP
  by_cases e : p + 1 = S.phases.length
  · rw [if_pos e]; exact raft_end h hn hp (by omega)
  · rw [if_neg e]; exact raft_on h hn hp (by omega)
set_option maxRecDepth 100000 in
set_option maxHeartbeats 2000000 in
theorem rin17_any {X : Sa} {S : St} {w : World} (h : Sat w X S) {p g : Nat} (hp : p < S.phases.length) (hg : g < 32) : Calls Tryd.prog 63 #[siteV X S, .int .i64 (p : Int), .int .i64 (g : Int)] w fun e w' => e = .returned (.bool ((S.ph p).groups.testBit g)) ∧ Kept w w' none := by
  obtain ⟨pb, po, ep, k0, _⟩ := h.phAt hp
  have hb := has_bit (S.ph p).groups g (h.phr p)
  have hpr := h.pk.room
  have hpm := h.pk.max
  have hpb := block_lt k0
  have hbu : ((g : Int) % 18446744073709551616) = (g : Int) := by omega
  have hkA : Kept w (w.alloc (.cells #[.int .i64 S.id, .slice X.g S.groups.length X.gc, .slice X.a S.apart.length X.ac, .slice X.b S.between.length X.bc, .slice X.p S.phases.length X.pc, .slice X.e S.eyes.length X.ec, .int .i64 S.watch, .int .i64 S.feed, .int .i64 S.heal, .int .i64 S.low, .int .i64 S.high, .slice X.l S.plans.length X.lc] 35)) none := Kept.alloc _ _ _ _ _
  have HK := Hid.mk' hkA
  have HBIT := Hid.mk' hb
  obtain ⟨xg, xgc, xa, xac, xb, xbc, xp, xpc, xe, xec, xl, xlc⟩ := X
  dsimp only at ep
  subst ep
  clear h hkA hb
  generalize (S.ph p).groups = P at *
  go_enter Tryd.func63, Tryd.ntmps63
  go_wp2
  go_ret
  exact ⟨by rw [← HBIT.out]; rfl, HK.out⟩

/-! ### Gap -/
def lieP (S : St) (f t k q : Nat) (x : Int) : Prop := ∃ a b, b < S.groups.length ∧ (a < k ∨ (a = k ∧ b < q)) ∧ (S.ph f).groups.testBit a = true ∧ (S.ph t).groups.testBit b = true ∧ (S.ap a).testBit b = true ∧ x = S.bt a b
theorem lp_same {S : St} {f t k q : Nat} {m : Int} (h : IsMost (lieP S f t k q) m) (hq : ¬ ((S.ph f).groups.testBit k = true ∧ (S.ph t).groups.testBit q = true ∧ (S.ap k).testBit q = true)) : IsMost (lieP S f t k (q + 1)) m := h.congr (fun x => by
  constructor
  · rintro ⟨a, b, h1, h2, h3, h4, h5, h6⟩
    exact ⟨a, b, h1, by omega, h3, h4, h5, h6⟩
  · rintro ⟨a, b, h1, h2, h3, h4, h5, h6⟩
    refine ⟨a, b, h1, ?_, h3, h4, h5, h6⟩
    rcases h2 with h2 | ⟨rfl, h2⟩
    · exact .inl h2
    · rcases (show b < q ∨ b = q by omega) with h7 | rfl
      · exact .inr ⟨rfl, h7⟩
      · exact absurd ⟨h3, h4, h5⟩ hq)
theorem lp_more {S : St} {f t k q : Nat} {m : Int} (h : IsMost (lieP S f t k q) m) (hl : q < S.groups.length) (h1 : (S.ph f).groups.testBit k = true) (h2 : (S.ph t).groups.testBit q = true) (h3 : (S.ap k).testBit q = true) : IsMost (lieP S f t k (q + 1)) (max m (S.bt k q)) := (h.more (S.bt k q)).congr (fun x => by
  constructor
  · rintro (⟨a, b, q1, q2, q3⟩ | rfl)
    · exact ⟨a, b, q1, by omega, q3⟩
    · exact ⟨k, q, hl, .inr ⟨rfl, by omega⟩, h1, h2, h3, rfl⟩
  · rintro ⟨a, b, q1, q2, q3, q4, q5, q6⟩
    rcases q2 with q2 | ⟨rfl, q2⟩
    · exact .inl ⟨a, b, q1, .inl q2, q3, q4, q5, q6⟩
    · rcases (show b < q ∨ b = q by omega) with q7 | rfl
      · exact .inl ⟨a, b, q1, .inr ⟨rfl, q7⟩, q3, q4, q5, q6⟩
      · exact .inr q6)
theorem lp_next {S : St} {f t k : Nat} {m : Int} (h : IsMost (lieP S f t k S.groups.length) m) : IsMost (lieP S f t (k + 1) 0) m := h.congr (fun x => by
  constructor
  · rintro ⟨a, b, h1, h2, h3⟩
    exact ⟨a, b, h1, by omega, h3⟩
  · rintro ⟨a, b, h1, h2, h3⟩
    exact ⟨a, b, h1, by omega, h3⟩)
theorem lp_end {S : St} {f t : Nat} {m : Int} (h : IsMost (lieP S f t S.groups.length 0) m) : m = liesM S f t := (liesM_eq (h.congr (fun x => by
  constructor
  · rintro ⟨a, b, h1, h2, h3⟩
    exact ⟨a, b, by omega, h1, h3⟩
  · rintro ⟨a, b, h1, h2, h3⟩
    exact ⟨a, b, h2, .inl h1, h3⟩))).symm
set_option maxRecDepth 100000 in
set_option maxHeartbeats 4000000 in
theorem rgap_any {X : Sa} {S : St} {w : World} (h : Sat w X S) (hs : siteB S = true) {p : Nat} (hp : p < S.phases.length) : Calls Tryd.prog 39 #[siteV X S, .int .i64 (p : Int)] w fun e w' => e = .returned (.int .i64 (gapM S p)) ∧ Kept w w' none := by
  have hSh := (span_may hs).base.sh
  have hna := hSh.ok.na
  have hng := hSh.ok.ng
  have hnp := hSh.ok.np
  have hm9 : (p + 1) % S.phases.length < S.phases.length := Nat.mod_lt _ (by omega)
  obtain ⟨WA, hWA⟩ : ∃ WA, (w.alloc (.cells #[.int .i64 S.id, .slice X.g S.groups.length X.gc, .slice X.a S.apart.length X.ac, .slice X.b S.between.length X.bc, .slice X.p S.phases.length X.pc, .slice X.e S.eyes.length X.ec, .int .i64 S.watch, .int .i64 S.feed, .int .i64 S.heal, .int .i64 S.low, .int .i64 S.high, .slice X.l S.plans.length X.lc] 35)) = WA := ⟨_, rfl⟩
  obtain ⟨HSB, HK, HS, s0_, s1_, s2_, s3_, s4_, s5_, s6_, s7_, s8_, s9_, s10_, s11_⟩ := hd1 h hWA
  have hK0 := Kept.refl WA none
  clear h
  have HSH := Hid.mk' hSh
  have HNA := Hid.mk' hna
  have HAF : Hid (∀ w', Kept WA w' none → Calls Tryd.prog 40 #[siteV X S, .int .i64 (p : Int)] w' fun e w2 => e = .returned (.int .i64 (((p + 1) % S.phases.length : Nat) : Int)) ∧ Kept w' w2 none) := fun w' q => raft_any (HS.out.kept q) hnp.2 hp
  have HEND : Hid (∀ m, IsMost (lieP S p ((p + 1) % S.phases.length) S.groups.length 0) m → m = gapM S p) := fun m hm => lp_end hm
  clear hSh hna hs
  generalize (p + 1) % S.phases.length = t at *
  go_enter Tryd.func39, Tryd.ntmps39
  go_wp2_with (first | rw [hWA] | (go_at_call 40; refine (HAF.out _ hK0).mono ?_; rintro e wF ⟨rfl, hkF⟩; have hKF : Kept WA wF none := hkF))
  have HKF := Hid.mk' hKF
  clear hkF hKF
  go_loopw [6, 7, 8] (fun c i _ wr => ∃ k : Nat, k ≤ S.groups.length ∧ i = .int .i64 k ∧ Kept WA wr none ∧ ∃ m : Int, c = .int .i64 m ∧ IsMost (lieP S p t k 0) m) (fun _ i _ _ => S.groups.length - (intOf i).toNat)
  case atStart => exact ⟨0, by omega, rfl, HKF.out, 0, rfl, IsMost.none.congr (fun x => ⟨fun h => h.elim, fun ⟨a, b, _, h2, _⟩ => by omega⟩)⟩
  case round =>
    obtain ⟨k, hk, rfl, hkw, m, rfl, hm⟩ := hrel
    have HM := Hid.mk' hm
    clear hm
    by_cases hlt : k < S.groups.length
    · go_wp2
      obtain ⟨wo, hwo⟩ : ∃ wo, wo = wr := ⟨_, rfl⟩
      subst hwo
      go_loopw [6, 8] (fun c i wr => ∃ q : Nat, q ≤ S.groups.length ∧ i = .int .i64 q ∧ Kept WA wr none ∧ ∃ m : Int, c = .int .i64 m ∧ IsMost (lieP S p t k q) m) (fun _ i _ => S.groups.length - (intOf i).toNat)
      case atStart => exact ⟨0, by omega, rfl, hkw, m, rfl, HM.out⟩
      case round =>
        obtain ⟨q, hq, rfl, hkr, m2, rfl, hm2⟩ := hrel
        by_cases hql : q < S.groups.length
        · have HI1 := Hid.mk' (fun w' (qq : Kept WA w' none) => rin17_any (HS.out.kept qq) hp (g := k) (by omega))
          have HI2 := Hid.mk' (fun w' (qq : Kept WA w' none) => rin17_any (HS.out.kept qq) hm9 (g := q) (by omega))
          have HAP := Hid.mk' (fun w' (qq : Kept WA w' none) => rap8_any (HS.out.kept qq) k q (by have := HNA.out; omega) (by omega))
          have HBT := Hid.mk' (fun w' (qq : Kept WA w' none) => rbt8_any (HS.out.kept qq) HSH.out hlt hql)
          have HSAME : Hid (¬ ((S.ph p).groups.testBit k = true ∧ (S.ph t).groups.testBit q = true ∧ (S.ap k).testBit q = true) → IsMost (lieP S p t k (q + 1)) m2) := fun h => lp_same hm2 h
          have HMORE : Hid ((S.ph p).groups.testBit k = true → (S.ph t).groups.testBit q = true → (S.ap k).testBit q = true → IsMost (lieP S p t k (q + 1)) (max m2 (S.bt k q))) := fun h1 h2 h3 => lp_more hm2 hql h1 h2 h3
          clear hm2
          generalize S.bt k q = v at *
          generalize (S.ap k).testBit q = t3 at *
          generalize (S.ph p).groups.testBit k = t1 at *
          generalize (S.ph t).groups.testBit q = t2 at *
          cases t1 with
          | false =>
            go_wp2_with (first | (go_at_call 63; refine (HI1.out _ hkr).mono ?_; rintro e wA ⟨rfl, hqA⟩; have hkA : Kept WA wA none := hkr.tr hqA))
            go_roundw
            case rel => exact ⟨q + 1, by omega, by go_num, hkA, m2, rfl, HSAME.out (by simp)⟩
            case measure => simp [intOf]; omega
          | true =>
            cases t2 with
            | false =>
              go_wp2_with (first | (have hgo := hkA; clear hgo; go_at_call 63; refine (HI2.out _ hkA).mono ?_; rintro e wB ⟨rfl, hqB⟩; have hkB : Kept WA wB none := hkA.tr hqB) | (go_at_call 63; refine (HI1.out _ hkr).mono ?_; rintro e wA ⟨rfl, hqA⟩; have hkA : Kept WA wA none := hkr.tr hqA))
              go_roundw
              case rel => exact ⟨q + 1, by omega, by go_num, hkB, m2, rfl, HSAME.out (by simp)⟩
              case measure => simp [intOf]; omega
            | true =>
              cases t3 with
              | false =>
                go_wp2_with (first | (have hgo := hkB; clear hgo; go_at_call 64; refine (HAP.out _ hkB).mono ?_; rintro e wC ⟨rfl, hqC⟩; have hkC : Kept WA wC none := hkB.tr hqC) | (have hgo := hkA; clear hgo; go_at_call 63; refine (HI2.out _ hkA).mono ?_; rintro e wB ⟨rfl, hqB⟩; have hkB : Kept WA wB none := hkA.tr hqB) | (go_at_call 63; refine (HI1.out _ hkr).mono ?_; rintro e wA ⟨rfl, hqA⟩; have hkA : Kept WA wA none := hkr.tr hqA))
                go_roundw
                case rel => exact ⟨q + 1, by omega, by go_num, hkC, m2, rfl, HSAME.out (by simp)⟩
                case measure => simp [intOf]; omega
              | true =>
                by_cases hv : m2 < v
                · have HMX : Hid (max m2 v = v) := by show _ = _; omega
                  go_wp2_with (first | (have hgo := hkD; clear hgo; go_at_call 65; refine (HBT.out _ hkD).mono ?_; rintro e wE ⟨rfl, hqE⟩; have hkE : Kept WA wE none := hkD.tr hqE) | (have hgo := hkC; clear hgo; go_at_call 65; refine (HBT.out _ hkC).mono ?_; rintro e wD ⟨rfl, hqD⟩; have hkD : Kept WA wD none := hkC.tr hqD) | (have hgo := hkB; clear hgo; go_at_call 64; refine (HAP.out _ hkB).mono ?_; rintro e wC ⟨rfl, hqC⟩; have hkC : Kept WA wC none := hkB.tr hqC) | (have hgo := hkA; clear hgo; go_at_call 63; refine (HI2.out _ hkA).mono ?_; rintro e wB ⟨rfl, hqB⟩; have hkB : Kept WA wB none := hkA.tr hqB) | (go_at_call 63; refine (HI1.out _ hkr).mono ?_; rintro e wA ⟨rfl, hqA⟩; have hkA : Kept WA wA none := hkr.tr hqA))
                  go_roundw
                  case rel => exact ⟨q + 1, by omega, by go_num, hkE, v, rfl, by have := HMORE.out (by simp) (by simp) (by simp); rwa [HMX.out] at this⟩
                  case measure => simp [intOf]; omega
                · have HMX : Hid (max m2 v = m2) := by show _ = _; omega
                  have hvb : decide (m2 < v) = false := by simp; omega
                  go_wp2_with (first | (have hgo := hkC; clear hgo; go_at_call 65; refine (HBT.out _ hkC).mono ?_; rintro e wD ⟨rfl, hqD⟩; have hkD : Kept WA wD none := hkC.tr hqD) | (have hgo := hkB; clear hgo; go_at_call 64; refine (HAP.out _ hkB).mono ?_; rintro e wC ⟨rfl, hqC⟩; have hkC : Kept WA wC none := hkB.tr hqC) | (have hgo := hkA; clear hgo; go_at_call 63; refine (HI2.out _ hkA).mono ?_; rintro e wB ⟨rfl, hqB⟩; have hkB : Kept WA wB none := hkA.tr hqB) | (go_at_call 63; refine (HI1.out _ hkr).mono ?_; rintro e wA ⟨rfl, hqA⟩; have hkA : Kept WA wA none := hkr.tr hqA))
                  go_roundw
                  case rel => exact ⟨q + 1, by omega, by go_num, hkD, m2, rfl, by have := HMORE.out (by simp) (by simp) (by simp); rwa [HMX.out] at this⟩
                  case measure => simp [intOf]; omega
        · have e : q = S.groups.length := by omega
          subst e
          have HM2 := Hid.mk' (lp_next hm2)
          clear hm2
          go_wp2
          go_roundw
          case rel => exact ⟨k + 1, by omega, by go_num, hkr, m2, rfl, HM2.out⟩
          case measure => simp [intOf]; omega
    · have e : k = S.groups.length := by omega
      subst e
      have HE := Hid.mk' (HEND.out m HM.out)
      go_wp2
      go_ret
      exact ⟨by rw [← HE.out]; rfl, HK.out.tr hkw⟩

end Go.Proofs.YtfhmfanmnhclfaaDoor
