import Derived.Test.YtfhmfanmnhclfaaDoorP35
import Derived.Test.YtfhmfanmnhclfaaDoorP9
namespace Go.Proofs.YtfhmfanmnhclfaaDoor
set_option linter.unusedVariables false
set_option linter.unusedSimpArgs false
open Go.RowKit Go.Lib Go.Deep

/-- The least green that a set of groups asks for, of its first ones. -/
def leastN (S : St) (G : Nat) : Nat → Int
  | 0 => 1
  | k + 1 => if G.testBit k = true then max (leastN S G k) (S.gr k).min else leastN S G k
def meetB (S : St) (G a : Nat) : Bool := allB S.groups.length (fun b => !(G.testBit b && (S.ap a).testBit b))
def rphaseB (S : St) (i : Nat) : Bool := decide ((S.ph i).groups ≠ 0) && decide ((S.ph i).groups < 2 ^ S.groups.length) && allB S.groups.length (fun a => !(S.ph i).groups.testBit a || meetB S (S.ph i).groups a) && inB (S.ph i).min (leastN S (S.ph i).groups S.groups.length) 1048576 && inB (S.ph i).max (S.ph i).min 1048576 && inB (S.ph i).gap 1 1048576
def rphB (S : St) : Bool := inB S.phases.length 1 8 && allB S.phases.length (rphaseB S) && decide (cnt (unionN S S.phases.length) 32 = S.groups.length)
theorem leastN_yes {S : St} {G k : Nat} (h : G.testBit k = true) : leastN S G (k + 1) = max (leastN S G k) (S.gr k).min := by rw [leastN, if_pos h]
theorem leastN_no {S : St} {G k : Nat} (h : G.testBit k = false) : leastN S G (k + 1) = leastN S G k := by rw [leastN, if_neg (by rw [h]; decide)]
theorem grow_no {U G k : Nat} (h : G.testBit k = false) : U ||| G % 2 ^ (k + 1) = U ||| G % 2 ^ k := by
  refine Nat.eq_of_testBit_eq fun i => ?_
  simp only [Nat.testBit_or, Nat.testBit_mod_two_pow]
  by_cases e : i = k
  · subst e; simp [h]
  · by_cases h1 : i < k
    · simp [h1, show i < k + 1 by omega]
    · simp [h1, show ¬ i < k + 1 by omega]
theorem grow_yes {U G k : Nat} (hk : k < 32) (h : G.testBit k = true) : withV (U ||| G % 2 ^ k) (k : Int) = U ||| G % 2 ^ (k + 1) := by
  rw [with_in hk]
  refine Nat.eq_of_testBit_eq fun i => ?_
  simp only [Nat.testBit_or, Nat.testBit_mod_two_pow, Nat.testBit_two_pow]
  by_cases e : i = k
  · subst e; simp [h]
  · by_cases h1 : i < k
    · simp [h1, show i < k + 1 by omega, show ¬ k = i by omega]
    · simp [h1, show ¬ i < k + 1 by omega, show ¬ k = i by omega]
theorem grow_all {U G n : Nat} (h : G < 2 ^ n) : U ||| G % 2 ^ n = U ||| G := by rw [Nat.mod_eq_of_lt h]
theorem grow_lt {U G n : Nat} (hU : U < 4294967296) (hG : G < 4294967296) (k : Nat) : U ||| G % 2 ^ k < 4294967296 := Nat.or_lt_two_pow (n := 32) hU (Nat.lt_of_le_of_lt (Nat.mod_le _ _) hG)
theorem rph_at {S : St} {i : Nat} (hi : i < S.phases.length) (h : rphaseB S i = false) : rphB S = false := by
  unfold rphB
  rw [allB_no hi h]
  simp
theorem meet_no {S : St} {i a : Nat} (ha : a < S.groups.length) (h1 : (S.ph i).groups.testBit a = true) (h2 : meetB S (S.ph i).groups a = false) : rphaseB S i = false := by
  unfold rphaseB
  rw [show allB S.groups.length (fun a => !(S.ph i).groups.testBit a || meetB S (S.ph i).groups a) = false from allB_no ha (by rw [h1, h2]; rfl)]
  simp
set_option maxRecDepth 100000 in
set_option maxHeartbeats 2000000 in
theorem rphases_no {X : Sa} {S : St} {w : World} (h : Sat w X S) (h2 : inB S.phases.length 1 8 = false) : Calls Tryd.prog 59 #[siteV X S] w fun e w' => e = .returned (.bool (rphB S)) ∧ Kept w w' none := by
  obtain ⟨xg, xgc, xa, xac, xb, xbc, xp, xpc, xe, xec, xl, xlc⟩ := X
  have hkA : Kept w (w.alloc (.cells #[.int .i64 S.id, .slice xg S.groups.length xgc, .slice xa S.apart.length xac, .slice xb S.between.length xbc, .slice xp S.phases.length xpc, .slice xe S.eyes.length xec, .int .i64 S.watch, .int .i64 S.feed, .int .i64 S.heal, .int .i64 S.low, .int .i64 S.high, .slice xl S.plans.length xlc] 35)) none := Kept.alloc _ _ _ _ _
  have HK := Hid.mk' hkA
  have hp9 : S.phases.length ≤ 9223372036854775807 := by have := h.pk.room; have := h.pk.max; omega
  clear h hkA
  go_enter Tryd.func59, Tryd.ntmps59
  have HE : Hid (rphB S = false) := (by show rphB S = false; unfold rphB; rw [h2]; rfl)
  go_wp2_with (go_at_call 60; refine (rin_is (by assumption)).mono ?_; rintro e w9 ⟨rfl, rfl⟩)
  go_ret
  exact ⟨by rw [HE.out]; rfl, HK.out⟩
set_option maxRecDepth 100000 in
set_option maxHeartbeats 20000000 in
theorem rphases_yes {X : Sa} {S : St} {w : World} (h : Sat w X S) (hg16 : 1 ≤ S.groups.length ∧ S.groups.length ≤ 16) (h3 : S.apart.length = S.groups.length) (h2 : inB S.phases.length 1 8 = true) : Calls Tryd.prog 59 #[siteV X S] w fun e w' => e = .returned (.bool (rphB S)) ∧ Kept w w' none := by
  obtain ⟨xg, xgc, xa, xac, xb, xbc, xp, xpc, xe, xec, xl, xlc⟩ := X
  have hp8 := inB_iff.1 h2
  obtain ⟨bg, og, eg, _⟩ := h.grAt (i := 0) (by omega)
  obtain ⟨bp, op, ep, _⟩ := h.phAt (i := 0) (by omega)
  dsimp only at eg ep
  subst eg ep
  have hkA : Kept w (w.alloc (.cells #[.int .i64 S.id, .slice (some ⟨bg, og, none⟩) S.groups.length xgc, .slice xa S.apart.length xac, .slice xb S.between.length xbc, .slice (some ⟨bp, op, none⟩) S.phases.length xpc, .slice xe S.eyes.length xec, .int .i64 S.watch, .int .i64 S.feed, .int .i64 S.heal, .int .i64 S.low, .int .i64 S.high, .slice xl S.plans.length xlc] 35)) none := Kept.alloc _ _ _ _ _
  have HSB := Hid.mk' (sbox_alloc h 35)
  have HK := Hid.mk' hkA
  have HGR : Hid (∀ w', Kept (w.alloc (.cells #[.int .i64 S.id, .slice (some ⟨bg, og, none⟩) S.groups.length xgc, .slice xa S.apart.length xac, .slice xb S.between.length xbc, .slice (some ⟨bp, op, none⟩) S.phases.length xpc, .slice xe S.eyes.length xec, .int .i64 S.watch, .int .i64 S.feed, .int .i64 S.heal, .int .i64 S.low, .int .i64 S.high, .slice xl S.plans.length xlc] 35)) w' none → ∀ i, i < S.groups.length → w'.cell? ⟨bg, og + i * 3 + 1, none⟩ = some (.int .i64 (S.gr i).min)) := fun w' q i hi => by
    obtain ⟨b, o, e, p1, p2, p3⟩ := h.grAt hi
    injection e with e; injection e with e1 e2
    subst e1 e2
    exact cell_kept0 p2 (HK.out.tr q)
  have HPH : Hid (∀ w', Kept (w.alloc (.cells #[.int .i64 S.id, .slice (some ⟨bg, og, none⟩) S.groups.length xgc, .slice xa S.apart.length xac, .slice xb S.between.length xbc, .slice (some ⟨bp, op, none⟩) S.phases.length xpc, .slice xe S.eyes.length xec, .int .i64 S.watch, .int .i64 S.feed, .int .i64 S.heal, .int .i64 S.low, .int .i64 S.high, .slice xl S.plans.length xlc] 35)) w' none → ∀ i, i < S.phases.length → w'.cell? ⟨bp, op + i * 5, none⟩ = some (.int .u32 ((S.ph i).groups : Int)) ∧ w'.cell? ⟨bp, op + i * 5 + 1, none⟩ = some (.int .i64 (S.ph i).min) ∧ w'.cell? ⟨bp, op + i * 5 + 2, none⟩ = some (.int .i64 (S.ph i).max) ∧ w'.cell? ⟨bp, op + i * 5 + 3, none⟩ = some (.int .i64 (S.ph i).gap) ∧ w'.cell? ⟨bp, op + i * 5 + 4, none⟩ = some (.bool (S.ph i).always)) := fun w' q i hi => by
    obtain ⟨b, o, e, p1, p2, p3, p4, p5⟩ := h.phAt hi
    injection e with e; injection e with e1 e2
    subst e1 e2
    exact ⟨cell_kept0 p1 (HK.out.tr q), cell_kept0 p2 (HK.out.tr q), cell_kept0 p3 (HK.out.tr q), cell_kept0 p4 (HK.out.tr q), cell_kept0 p5 (HK.out.tr q)⟩
  have hp9 : S.phases.length ≤ 9223372036854775807 := by omega
  have HU := Hid.mk' (unionN_lt h.phr)
  have HPR := Hid.mk' h.phr
  have H3 := Hid.mk' h3
  have HE0 : Hid (rphB S = (allB S.phases.length (rphaseB S) && decide (cnt (unionN S S.phases.length) 32 = S.groups.length))) := by
    show rphB S = _
    unfold rphB
    rw [h2]
    rfl
  clear h hkA h3
  go_enter Tryd.func59, Tryd.ntmps59
  go_wp2_with (go_at_call 60; refine (rin_is (by assumption)).mono ?_; rintro e w9 ⟨rfl, rfl⟩)
  generalize hW : (w.alloc (.cells #[.int .i64 S.id, .slice (some ⟨bg, og, none⟩) S.groups.length xgc, .slice xa S.apart.length xac, .slice xb S.between.length xbc, .slice (some ⟨bp, op, none⟩) S.phases.length xpc, .slice xe S.eyes.length xec, .int .i64 S.watch, .int .i64 S.feed, .int .i64 S.heal, .int .i64 S.low, .int .i64 S.high, .slice xl S.plans.length xlc] 35)) = W at *
  clear hW h2
  go_loopw [3, 4] (fun u i wr => ∃ k : Nat, k ≤ S.phases.length ∧ i = .int .i64 k ∧ u = .int .u32 ((unionN S k : Nat) : Int) ∧ Hid (∀ j, j < k → rphaseB S j = true) ∧ Kept W wr none) (fun _ i _ => S.phases.length - (intOf i).toNat)
  case atStart => exact ⟨0, Nat.zero_le _, rfl, rfl, (fun j hj => by omega), Kept.refl _ _⟩
  case round =>
    obtain ⟨i, hi, rfl, rfl, HJ, hkr⟩ := hrel
    have c4 := (HSB.out.kept hkr).c4
    have c1 := (HSB.out.kept hkr).c1
    by_cases hil : i < S.phases.length
    case neg =>
      have e : i = S.phases.length := by omega
      subst e
      have hu := HU.out S.phases.length
      have HE : Hid (rphB S = decide (cnt (unionN S S.phases.length) 32 = S.groups.length)) := by
        show rphB S = _
        rw [HE0.out, allB_iff.2 HJ.out]
        rfl
      have f1 : ∀ w', Kept W w' none → w'.cell? ⟨w.heap.size, 1, none⟩ = some (.slice (some ⟨bg, og, none⟩) S.groups.length xgc) := fun w' k => (HSB.out.kept k).c1
      generalize unionN S S.phases.length = U at *
      go_wp2
      go_region_held (fun w' => Kept W w' none)
        ((first | exact hkr | exact Kept.tr hkr (Kept.drew _ _) | assumption | exact Kept.tr (by assumption) (Kept.drew _ _)))
        ((go_at_call 99; refine (rcount_any _ _ hu).mono ?_; rintro e w9 ⟨rfl, rfl⟩))
      all_goals
        go_wp2
        go_ret
        exact ⟨ret_bool (by rw [HE.out, Bool.eq_iff_iff]; simp; omega), HK.out.tr (by assumption)⟩
    have hbw : w.heap.size < wr.heap.size := block_lt c4
    obtain ⟨g0, g1, g2, g3, g4⟩ := HPH.out _ hkr i hil
    have l1 := block_lt g0
    have hG32 := HPR.out i
    have HPI := Hid.mk' (pow_int (i := S.groups.length) (by omega))
    have hpw : 2 ^ S.groups.length < 4294967296 := pow_lt32 (i := S.groups.length) (by omega)
    have hU32 := HU.out i
    have HUN : Hid (unionN S (i + 1) = unionN S i ||| (S.ph i).groups) := rfl
    have HR : Hid (rphaseB S i = (decide ((S.ph i).groups ≠ 0) && decide ((S.ph i).groups < 2 ^ S.groups.length) && allB S.groups.length (fun a => !(S.ph i).groups.testBit a || meetB S (S.ph i).groups a) && inB (S.ph i).min (leastN S (S.ph i).groups S.groups.length) 1048576 && inB (S.ph i).max (S.ph i).min 1048576 && inB (S.ph i).gap 1 1048576)) := rfl
    have HN : Hid (rphaseB S i = false → rphB S = false) := rph_at hil
    have HM : Hid (∀ a, a < S.groups.length → (S.ph i).groups.testBit a = true → meetB S (S.ph i).groups a = false → rphB S = false) := fun a ha h1 h2 => rph_at hil (meet_no ha h1 h2)
    generalize (S.ph i).groups = G at *
    generalize (S.ph i).min = mn at *
    generalize (S.ph i).max = mx at *
    generalize (S.ph i).gap = gp at *
    generalize (S.ph i).always = al at *
    generalize unionN S i = U at *
    by_cases hz : G = 0
    case pos =>
      subst hz
      have HE : Hid (rphB S = false) := (HN.out (by rw [HR.out]; rfl))
      go_wp2_with (go_at_call 60; refine (rin_is (by assumption)).mono ?_; rintro e w9 ⟨rfl, rfl⟩)
      go_ret
      exact ⟨by rw [HE.out]; rfl, HK.out.tr (hkr.tr (Kept.alloc _ _ _ _ _))⟩
    have hzi : ¬ (G : Int) = 0 := by omega
    by_cases hap : G < 2 ^ S.groups.length
    case neg =>
      have hapi : ¬ (G : Int) < 2 ^ S.groups.length % 4294967296 := by rw [HPI.out]; omega
      have hapj : (2 : Int) ^ S.groups.length % 4294967296 ≤ (G : Int) := by omega
      have HE : Hid (rphB S = false) := (HN.out (by rw [HR.out, decide_eq_false hap]; simp))
      go_wp2_with (go_at_call 60; refine (rin_is (by assumption)).mono ?_; rintro e w9 ⟨rfl, rfl⟩)
      go_ret
      exact ⟨by rw [HE.out]; rfl, HK.out.tr (hkr.tr (Kept.alloc _ _ _ _ _))⟩
    have hapi : (G : Int) < 2 ^ S.groups.length % 4294967296 := by rw [HPI.out]; omega
    have hapj : ¬ (2 : Int) ^ S.groups.length % 4294967296 ≤ (G : Int) := by omega
    go_wp2
    have hk1 : Kept W (wr.alloc (.cells #[.int .u32 (G : Int), .int .i64 mn, .int .i64 mx, .int .i64 gp, .bool al] 80)) none := hkr.tr (Kept.alloc _ _ _ _ _)
    have q0 : (wr.alloc (.cells #[.int .u32 (G : Int), .int .i64 mn, .int .i64 mx, .int .i64 gp, .bool al] 80)).cell? ⟨wr.heap.size, 0, none⟩ = some (.int .u32 (G : Int)) := by simp [World.cell?_alloc_mark]
    have q1 : (wr.alloc (.cells #[.int .u32 (G : Int), .int .i64 mn, .int .i64 mx, .int .i64 gp, .bool al] 80)).cell? ⟨wr.heap.size, 1, none⟩ = some (.int .i64 mn) := by simp [World.cell?_alloc_mark]
    have q2 : (wr.alloc (.cells #[.int .u32 (G : Int), .int .i64 mn, .int .i64 mx, .int .i64 gp, .bool al] 80)).cell? ⟨wr.heap.size, 2, none⟩ = some (.int .i64 mx) := by simp [World.cell?_alloc_mark]
    have q3 : (wr.alloc (.cells #[.int .u32 (G : Int), .int .i64 mn, .int .i64 mx, .int .i64 gp, .bool al] 80)).cell? ⟨wr.heap.size, 3, none⟩ = some (.int .i64 gp) := by simp [World.cell?_alloc_mark]
    generalize (wr.alloc (.cells #[.int .u32 (G : Int), .int .i64 mn, .int .i64 mx, .int .i64 gp, .bool al] 80)) = W1 at *
    have HQ : Hid (∀ w', Kept W1 w' none → w'.cell? ⟨wr.heap.size, 0, none⟩ = some (.int .u32 (G : Int)) ∧ w'.cell? ⟨wr.heap.size, 1, none⟩ = some (.int .i64 mn) ∧ w'.cell? ⟨wr.heap.size, 2, none⟩ = some (.int .i64 mx) ∧ w'.cell? ⟨wr.heap.size, 3, none⟩ = some (.int .i64 gp)) := fun w' q => ⟨cell_kept0 q0 q, cell_kept0 q1 q, cell_kept0 q2 q, cell_kept0 q3 q⟩
    have HK1 := Hid.mk' hk1
    clear q0 q1 q2 q3 hk1 g0 g1 g2 g3 g4 c1 c4 hkr hapi hapj
    go_loopw [3, 6, 7] (fun u l j wx => ∃ a : Nat, a ≤ S.groups.length ∧ j = .int .i64 a ∧ l = .int .i64 (leastN S G a) ∧ u = .int .u32 ((U ||| G % 2 ^ a : Nat) : Int) ∧ Hid (∀ x, x < a → (!G.testBit x || meetB S G x) = true) ∧ Kept W1 wx none) (fun _ _ j _ => S.groups.length - (intOf j).toNat)
    case atStart => exact ⟨0, Nat.zero_le _, rfl, rfl, by rw [Nat.pow_zero, Nat.mod_one, Nat.or_zero], (fun x hx => by omega), Kept.refl _ _⟩
    case round =>
      obtain ⟨a, ha, rfl, rfl, rfl, HX, hkx⟩ := hrel
      obtain ⟨q0, q1, q2, q3⟩ := HQ.out _ hkx
      have c1 := (HSB.out.kept (HK1.out.tr hkx)).c1
      by_cases hal : a < S.groups.length
      case neg =>
        have e : a = S.groups.length := by omega
        subst e
        have HAL : Hid (allB S.groups.length (fun a => !G.testBit a || meetB S G a) = true) := allB_iff.2 HX.out
        rw [grow_all hap]
        rw [← HUN.out]
        generalize hLS : leastN S G S.groups.length = LS at *
        have hUU := HU.out (i + 1)
        generalize hUS : unionN S (i + 1) = US at *
        have HUS := Hid.mk' hUS
        clear hUS
        cases h4 : inB mn LS 1048576
        case false =>
          have HE : Hid (rphB S = false) := (HN.out (by rw [HR.out, h4]; simp))
          go_wp2_with (go_at_call 60; refine (rin_is (by assumption)).mono ?_; rintro e w9 ⟨rfl, rfl⟩)
          go_ret
          exact ⟨by rw [HE.out]; rfl, HK.out.tr (HK1.out.tr hkx)⟩
        cases h5 : inB mx mn 1048576
        case false =>
          have HE : Hid (rphB S = false) := (HN.out (by rw [HR.out, h5]; simp))
          go_wp2_with (go_at_call 60; refine (rin_is (by assumption)).mono ?_; rintro e w9 ⟨rfl, rfl⟩)
          go_ret
          exact ⟨by rw [HE.out]; rfl, HK.out.tr (HK1.out.tr hkx)⟩
        cases h6 : inB gp 1 1048576
        case false =>
          have HE : Hid (rphB S = false) := (HN.out (by rw [HR.out, h6]; simp))
          go_wp2_with (go_at_call 60; refine (rin_is (by assumption)).mono ?_; rintro e w9 ⟨rfl, rfl⟩)
          go_ret
          exact ⟨by rw [HE.out]; rfl, HK.out.tr (HK1.out.tr hkx)⟩
        have HY : Hid (rphaseB S i = true) := by
          show rphaseB S i = true
          rw [HR.out, HAL.out, h4, h5, h6, decide_eq_true hz, decide_eq_true hap]
          rfl
        go_wp2_with (go_at_call 60; refine (rin_is (by assumption)).mono ?_; rintro e w9 ⟨rfl, rfl⟩)
        go_roundw
        case rel => exact ⟨i + 1, by omega, by go_num, by rw [HUS.out], (fun j hj => (by
          by_cases e : j = i
          · rw [e]; exact HY.out
          · exact HJ.out j (by omega))), HK1.out.tr hkx⟩
        case measure => simp [intOf]; omega
      have hgm := HGR.out _ (HK1.out.tr hkx) a hal
      have hbb := HSB.out.lt
      have hu := grow_lt (n := 0) hU32 hG32 a
      cases hA : G.testBit a with
      | false =>
        have HL := Hid.mk' (leastN_no (S := S) hA)
        have HG' := Hid.mk' (grow_no (U := U) hA)
        generalize leastN S G a = LS at *
        generalize U ||| G % 2 ^ a = UU at *
        go_wp2_with (go_at_call 97; refine (rhas_any _ _ _ hG32).mono ?_; rintro e w9 ⟨rfl, rfl⟩; rw [has_in (S := G) (show a < 32 by omega), hA])
        go_roundw
        case rel => exact ⟨a + 1, by omega, by go_num, by rw [HL.out], by rw [HG'.out], (fun x hx => (by
          by_cases e : x = a
          · rw [e, hA]; rfl
          · exact HX.out x (by omega))), hkx⟩
        case measure => simp [intOf]; omega
      | true =>
        have HL := Hid.mk' (leastN_yes (S := S) hA)
        have HG' := Hid.mk' (grow_yes (U := U) (show a < 32 by omega) hA)
        generalize leastN S G a = LS at *
        generalize U ||| G % 2 ^ a = UU at *
        generalize (S.gr a).min = GM at *
        generalize hUV : U ||| G % 2 ^ (a + 1) = UV at *
        have HUV := Hid.mk' hUV
        clear hUV
        by_cases hmx : LS < GM
        · have HLM : Hid (leastN S G (a + 1) = GM) := by
            show leastN S G (a + 1) = GM
            rw [HL.out]
            omega
          clear HL
          go_wp2_with (first | (go_at_call 98; refine (rwith_any _ _ _ hu).mono ?_; rintro e w9 ⟨rfl, rfl⟩; rw [HG'.out]) | (go_at_call 97; refine (rhas_any _ _ _ hG32).mono ?_; rintro e w9 ⟨rfl, rfl⟩; rw [has_in (S := G) (show a < 32 by omega), hA]))
          clear c1 q0 q1 q2 q3 hgm
          go_loopw [8] (fun j wy => ∃ b : Nat, b ≤ S.groups.length ∧ j = .int .i64 b ∧ Hid (∀ y, y < b → (!(G.testBit y && (S.ap a).testBit y)) = true) ∧ Kept W1 wy none) (fun j _ => S.groups.length - (intOf j).toNat)
          case atStart => exact ⟨0, Nat.zero_le _, rfl, (fun y hy => by omega), hkx⟩
          case round =>
          clear hkx
          obtain ⟨b, hb, rfl, HB, hky⟩ := hrel
          have h3 := H3.out
          have haa : a < S.apart.length := by omega
          clear h3
          obtain ⟨q0, q1, q2, q3⟩ := HQ.out _ hky
          obtain ⟨c0, c1, c2, c3, c4, c5, c6, c7, c8, c9, c10, c11, _⟩ := HSB.out.kept (HK1.out.tr hky)
          by_cases hbl : b < S.groups.length
          case neg =>
            have e : b = S.groups.length := by omega
            subst e
            have HME : Hid (meetB S G a = true) := allB_iff.2 HB.out
            go_wp2
            go_roundw
            case rel => exact ⟨a + 1, by omega, by go_num, by rw [HLM.out], by rw [HUV.out], (fun x hx => (by
              by_cases e : x = a
              · rw [e, HME.out]; simp
              · exact HX.out x (by omega))), hky⟩
            case measure => simp [intOf]; omega
          cases hBb : G.testBit b with
          | false =>
            go_wp2_with (go_at_call 97; refine (rhas_any _ _ _ hG32).mono ?_; rintro e w9 ⟨rfl, rfl⟩; rw [has_in (S := G) (show b < 32 by omega), hBb])
            go_roundw
            case rel => exact ⟨b + 1, by omega, by go_num, (fun y hy => (by
              by_cases e : y = b
              · rw [e, hBb]; rfl
              · exact HB.out y (by omega))), hky⟩
            case measure => simp [intOf]; omega
          | true =>
            cases hap2 : (S.ap a).testBit b with
            | true =>
              have HE : Hid (rphB S = false) := HM.out a hal hA (allB_no hbl (by rw [hBb, hap2]; rfl))
              go_wp2_with (first | (go_at_call 96; refine (rapart_is (HSB.out.sat.kept (HK1.out.tr hky)) haa (by omega) hap2).mono ?_; rintro e wS ⟨rfl, hkS⟩) | (go_at_call 97; refine (rhas_any _ _ _ hG32).mono ?_; rintro e w9 ⟨rfl, rfl⟩; rw [has_in (S := G) (show b < 32 by omega), hBb]))
              go_ret
              exact ⟨by rw [HE.out]; rfl, HK.out.tr ((HK1.out.tr hky).tr hkS)⟩
            | false =>
              go_wp2_with (first | (go_at_call 96; refine (rapart_is (HSB.out.sat.kept (HK1.out.tr hky)) haa (by omega) hap2).mono ?_; rintro e wS ⟨rfl, hkS⟩) | (go_at_call 97; refine (rhas_any _ _ _ hG32).mono ?_; rintro e w9 ⟨rfl, rfl⟩; rw [has_in (S := G) (show b < 32 by omega), hBb]))
              go_roundw
              case rel => exact ⟨b + 1, by omega, by go_num, (fun y hy => (by
                by_cases e : y = b
                · rw [e, hBb, hap2]; rfl
                · exact HB.out y (by omega))), hky.tr hkS⟩
              case measure => simp [intOf]; omega
        · have HLM : Hid (leastN S G (a + 1) = LS) := by
            show leastN S G (a + 1) = LS
            rw [HL.out]
            omega
          clear HL
          go_wp2_with (first | (go_at_call 98; refine (rwith_any _ _ _ hu).mono ?_; rintro e w9 ⟨rfl, rfl⟩; rw [HG'.out]) | (go_at_call 97; refine (rhas_any _ _ _ hG32).mono ?_; rintro e w9 ⟨rfl, rfl⟩; rw [has_in (S := G) (show a < 32 by omega), hA]))
          clear c1 q0 q1 q2 q3 hgm
          go_loopw [8] (fun j wy => ∃ b : Nat, b ≤ S.groups.length ∧ j = .int .i64 b ∧ Hid (∀ y, y < b → (!(G.testBit y && (S.ap a).testBit y)) = true) ∧ Kept W1 wy none) (fun j _ => S.groups.length - (intOf j).toNat)
          case atStart => exact ⟨0, Nat.zero_le _, rfl, (fun y hy => by omega), hkx⟩
          case round =>
          clear hkx
          obtain ⟨b, hb, rfl, HB, hky⟩ := hrel
          have h3 := H3.out
          have haa : a < S.apart.length := by omega
          clear h3
          obtain ⟨q0, q1, q2, q3⟩ := HQ.out _ hky
          obtain ⟨c0, c1, c2, c3, c4, c5, c6, c7, c8, c9, c10, c11, _⟩ := HSB.out.kept (HK1.out.tr hky)
          by_cases hbl : b < S.groups.length
          case neg =>
            have e : b = S.groups.length := by omega
            subst e
            have HME : Hid (meetB S G a = true) := allB_iff.2 HB.out
            go_wp2
            go_roundw
            case rel => exact ⟨a + 1, by omega, by go_num, by rw [HLM.out], by rw [HUV.out], (fun x hx => (by
              by_cases e : x = a
              · rw [e, HME.out]; simp
              · exact HX.out x (by omega))), hky⟩
            case measure => simp [intOf]; omega
          cases hBb : G.testBit b with
          | false =>
            go_wp2_with (go_at_call 97; refine (rhas_any _ _ _ hG32).mono ?_; rintro e w9 ⟨rfl, rfl⟩; rw [has_in (S := G) (show b < 32 by omega), hBb])
            go_roundw
            case rel => exact ⟨b + 1, by omega, by go_num, (fun y hy => (by
              by_cases e : y = b
              · rw [e, hBb]; rfl
              · exact HB.out y (by omega))), hky⟩
            case measure => simp [intOf]; omega
          | true =>
            cases hap2 : (S.ap a).testBit b with
            | true =>
              have HE : Hid (rphB S = false) := HM.out a hal hA (allB_no hbl (by rw [hBb, hap2]; rfl))
              go_wp2_with (first | (go_at_call 96; refine (rapart_is (HSB.out.sat.kept (HK1.out.tr hky)) haa (by omega) hap2).mono ?_; rintro e wS ⟨rfl, hkS⟩) | (go_at_call 97; refine (rhas_any _ _ _ hG32).mono ?_; rintro e w9 ⟨rfl, rfl⟩; rw [has_in (S := G) (show b < 32 by omega), hBb]))
              go_ret
              exact ⟨by rw [HE.out]; rfl, HK.out.tr ((HK1.out.tr hky).tr hkS)⟩
            | false =>
              go_wp2_with (first | (go_at_call 96; refine (rapart_is (HSB.out.sat.kept (HK1.out.tr hky)) haa (by omega) hap2).mono ?_; rintro e wS ⟨rfl, hkS⟩) | (go_at_call 97; refine (rhas_any _ _ _ hG32).mono ?_; rintro e w9 ⟨rfl, rfl⟩; rw [has_in (S := G) (show b < 32 by omega), hBb]))
              go_roundw
              case rel => exact ⟨b + 1, by omega, by go_num, (fun y hy => (by
                by_cases e : y = b
                · rw [e, hBb, hap2]; rfl
                · exact HB.out y (by omega))), hky.tr hkS⟩
              case measure => simp [intOf]; omega
theorem rphases_any {X : Sa} {S : St} {w : World} (h : Sat w X S) (hg16 : 1 ≤ S.groups.length ∧ S.groups.length ≤ 16) (h3 : S.apart.length = S.groups.length) : Calls Tryd.prog 59 #[siteV X S] w fun e w' => e = .returned (.bool (rphB S)) ∧ Kept w w' none := by
  cases h2 : inB S.phases.length 1 8
  · exact rphases_no h h2
  · exact rphases_yes h hg16 h3 h2


def rchB (S : St) : Bool := rgrB S && rphB S && decide (S.eyes.length ≤ 24) && decide (S.plans.length ≤ 8) && allB S.eyes.length (eyeB S) && timeB S.watch && timeB S.feed && timeB S.heal && inB S.low (roundM S) 1048576 && inB S.high S.low 1048576 && allB S.plans.length (fun i => planB S (S.pl i))
theorem leastN_le {S : St} {G : Nat} {m : Int} : ∀ n, leastN S G n ≤ m ↔ 1 ≤ m ∧ ∀ a, a < n → G.testBit a = true → (S.gr a).min ≤ m
  | 0 => by simp [leastN]
  | n + 1 => by
    have ih := leastN_le (S := S) (G := G) (m := m) n
    cases h : G.testBit n with
    | true =>
      rw [leastN_yes h]
      constructor
      · intro hx
        have h1 : leastN S G n ≤ m := by omega
        have h2 := ih.1 h1
        refine ⟨h2.1, fun a ha hb => ?_⟩
        by_cases e : a = n
        · subst e; omega
        · exact h2.2 a (by omega) hb
      · rintro ⟨h1, h2⟩
        have h3 := ih.2 ⟨h1, fun a ha hb => h2 a (by omega) hb⟩
        have h4 := h2 n (by omega) h
        omega
    | false =>
      rw [leastN_no h, ih]
      constructor
      · rintro ⟨h1, h2⟩
        refine ⟨h1, fun a ha hb => ?_⟩
        by_cases e : a = n
        · subst e; rw [h] at hb; cases hb
        · exact h2 a (by omega) hb
      · rintro ⟨h1, h2⟩
        exact ⟨h1, fun a ha hb => h2 a (by omega) hb⟩
theorem bit_lt {G n a : Nat} (hG : G < 2 ^ n) (h : G.testBit a = true) : a < n := by
  by_cases hh : a < n
  · exact hh
  · have := Nat.testBit_lt_two_pow (Nat.lt_of_lt_of_le hG (Nat.pow_le_pow_right (n := 2) (by omega) (show n ≤ a by omega)))
    rw [this] at h; cases h
theorem bit_some {G : Nat} (h : G ≠ 0) : ∃ a, G.testBit a = true := by
  by_cases hh : ∃ a, G.testBit a = true
  · exact hh
  · exact absurd (Nat.eq_of_testBit_eq fun i => by
      rw [Nat.zero_testBit]
      cases hb : G.testBit i with
      | false => rfl
      | true => exact absurd ⟨i, hb⟩ hh) h
theorem meet_iff {S : St} {G a : Nat} (hG : G < 2 ^ S.groups.length) : meetB S G a = true ↔ S.ap a &&& G = 0 := by
  unfold meetB
  rw [allB_iff]
  constructor
  · intro h
    refine Nat.eq_of_testBit_eq fun i => ?_
    rw [Nat.testBit_and, Nat.zero_testBit]
    cases hb : G.testBit i with
    | false => simp
    | true =>
      have := h i (bit_lt hG hb)
      rw [hb] at this
      simpa using this
  · intro h b hb
    have := congrArg (fun x => Nat.testBit x b) h
    simp only [Nat.testBit_and, Nat.zero_testBit] at this
    rw [Bool.and_comm, this]
    rfl
theorem cnt_full {U : Nat} : ∀ n, cnt U n = n ↔ ∀ j, j < n → U.testBit j = true
  | 0 => by simp [cnt]
  | n + 1 => by
    have h1 := cnt_le U n
    rw [cnt_succ]
    constructor
    · intro h j hj
      have hb : U.testBit n = true := by
        cases hb : U.testBit n with
        | true => rfl
        | false => rw [hb] at h; simp at h; omega
      rw [hb] at h
      have h2 : cnt U n = n := by simp at h; omega
      by_cases e : j = n
      · subst e; exact hb
      · exact (cnt_full n).1 h2 j (by omega)
    · intro h
      rw [(cnt_full n).2 (fun j hj => h j (by omega)), h n (by omega)]
      rfl
theorem served_iff {U n : Nat} (hn : n ≤ 32) (hU : U < 2 ^ n) : cnt U 32 = n ↔ U = 2 ^ n - 1 := by
  have e : cnt U 32 = cnt U n := by
    have := cnt_flat U n (32 - n) (fun j h1 h2 => Nat.testBit_lt_two_pow (Nat.lt_of_lt_of_le hU (Nat.pow_le_pow_right (n := 2) (by omega) h1)))
    rwa [show n + (32 - n) = 32 by omega] at this
  rw [e, cnt_full]
  constructor
  · intro h
    refine Nat.eq_of_testBit_eq fun i => ?_
    rw [Nat.testBit_two_pow_sub_one]
    by_cases hi : i < n
    · rw [h i hi, decide_eq_true hi]
    · rw [decide_eq_false hi]
      exact Nat.testBit_lt_two_pow (Nat.lt_of_lt_of_le hU (Nat.pow_le_pow_right (n := 2) (by omega) (by omega)))
  · intro h j hj
    rw [h, Nat.testBit_two_pow_sub_one]
    exact decide_eq_true hj
theorem union_lt {S : St} {n : Nat} : ∀ k, (∀ i, i < k → (S.ph i).groups < 2 ^ n) → unionN S k < 2 ^ n
  | 0, _ => by simp [unionN]; exact Nat.two_pow_pos n
  | k + 1, h => Nat.or_lt_two_pow (union_lt k fun i hi => h i (by omega)) (h k (by omega))
theorem rphase_iff {S : St} (hg : ∀ i, i < S.groups.length → groupB S i = true) (i : Nat) : rphaseB S i = phaseB S i := by
  rw [Bool.eq_iff_iff]
  unfold rphaseB phaseB mateB leastB timeB
  simp only [Bool.and_eq_true, decide_eq_true_eq, allB_iff, Bool.or_eq_true, Bool.not_eq_true', inB_iff, leastN_le]
  generalize (S.ph i).groups = G
  generalize (S.ph i).min = m
  constructor
  · rintro ⟨⟨⟨⟨⟨h1, h2⟩, h3⟩, ⟨h4, h4'⟩, h5⟩, h6⟩, h7⟩
    refine ⟨⟨⟨⟨⟨⟨⟨h1, h2⟩, fun a ha => ?_⟩, by omega⟩, fun a ha => ?_⟩, h5⟩, h6⟩, h7⟩
    · rcases h3 a ha with h | h
      · exact .inl h
      · exact .inr ((meet_iff h2).1 h)
    · cases hb : G.testBit a with
      | false => exact .inl rfl
      | true => exact .inr (h4' a ha hb)
  · rintro ⟨⟨⟨⟨⟨⟨⟨h1, h2⟩, h3⟩, h4⟩, h4'⟩, h5⟩, h6⟩, h7⟩
    have hm : ∀ a, a < S.groups.length → G.testBit a = true → (S.gr a).min ≤ m := fun a ha hb => by
      rcases h4' a ha with h | h
      · rw [hb] at h; cases h
      · exact h
    refine ⟨⟨⟨⟨⟨h1, h2⟩, fun a ha => ?_⟩, ⟨?_, hm⟩, h5⟩, h6⟩, h7⟩
    · rcases h3 a ha with h | h
      · exact .inl h
      · exact .inr ((meet_iff h2).2 h)
    · obtain ⟨a, hb⟩ := bit_some h1
      have ha := bit_lt h2 hb
      have := hg a ha
      unfold groupB timeB at this
      simp only [Bool.and_eq_true, inB_iff] at this
      have := hm a ha hb
      omega
theorem rgr_iff {S : St} : rgrB S = true ↔ (inB S.id 0 65535 = true ∧ inB S.groups.length 1 16 = true ∧ S.apart.length = S.groups.length ∧ S.between.length = S.groups.length) ∧ (∀ i, i < S.groups.length → groupB S i = true) ∧ (∀ i, i < S.groups.length → apartB S i = true) ∧ (∀ i, i < S.groups.length → betweenB S i = true) := by
  unfold rgrB rowB pairB apartB betweenB
  simp only [Bool.and_eq_true, decide_eq_true_eq, allB_iff, beq_iff_eq, Bool.not_eq_true', Bool.and_eq_false_iff, decide_eq_false_iff_not]
  constructor
  · rintro ⟨⟨⟨⟨⟨h1, h2⟩, h3⟩, h4⟩, h5⟩, h6⟩
    refine ⟨⟨h1, h2, h3, h4⟩, fun i hi => (h5 i hi).1.1, fun a ha => ⟨⟨(h5 a ha).2, ?_⟩, fun b hb => (h6 a ha b hb).1.1⟩, fun a ha => ⟨(h5 a ha).1.2, fun b hb => (h6 a ha b hb).2⟩⟩
    rcases (h6 a ha a ha).1.2 with h | h
    · exact absurd rfl h
    · exact h
  · rintro ⟨⟨h1, h2, h3, h4⟩, h5, h6, h7⟩
    refine ⟨⟨⟨⟨⟨h1, h2⟩, h3⟩, h4⟩, fun i hi => ⟨⟨h5 i hi, (h7 i hi).1⟩, (h6 i hi).1.1⟩⟩, fun a ha b hb => ⟨⟨(h6 a ha).2 b hb, ?_⟩, (h7 a ha).2 b hb⟩⟩
    by_cases e : a = b
    · subst e
      exact .inr (h6 a ha).1.2
    · exact .inl e
theorem rch_site (S : St) : rchB S = siteB S := by
  rw [Bool.eq_iff_iff]
  unfold rchB siteB countsB ownB servedB cyclesB rphB
  simp only [Bool.and_eq_true, decide_eq_true_eq, allB_iff, rgr_iff]
  constructor
  · rintro ⟨⟨⟨⟨⟨⟨⟨⟨⟨⟨⟨⟨h1, h2, h3, h4⟩, h5, h6, h7⟩, ⟨h8, h9⟩, h10⟩, h11⟩, h12⟩, h13⟩, h14⟩, h15⟩, h16⟩, h17⟩, h18⟩, h19⟩
    have hp : ∀ i, i < S.phases.length → phaseB S i = true := fun i hi => by rw [← rphase_iff h5]; exact h9 i hi
    have hl : ∀ i, i < S.phases.length → (S.ph i).groups < 2 ^ S.groups.length := fun i hi => by
      have := hp i hi
      unfold phaseB at this
      simp only [Bool.and_eq_true, decide_eq_true_eq] at this
      exact this.1.1.1.1.1.1.2
    have hn := inB_iff.1 h2
    exact ⟨⟨⟨⟨⟨⟨⟨⟨⟨⟨⟨⟨⟨⟨h2, h3⟩, h4⟩, h8⟩, h11⟩, h12⟩, ⟨⟨h1, h14⟩, h15⟩, h16⟩, h5⟩, h6⟩, h7⟩, hp⟩, (served_iff (by omega) (union_lt _ hl)).1 h10⟩, h13⟩, h17, h18⟩, h19⟩
  · rintro ⟨⟨⟨⟨⟨⟨⟨⟨⟨⟨⟨⟨⟨⟨h2, h3⟩, h4⟩, h8⟩, h11⟩, h12⟩, ⟨⟨h1, h14⟩, h15⟩, h16⟩, h5⟩, h6⟩, h7⟩, hp⟩, h10⟩, h13⟩, h17, h18⟩, h19⟩
    have hl : ∀ i, i < S.phases.length → (S.ph i).groups < 2 ^ S.groups.length := fun i hi => by
      have := hp i hi
      unfold phaseB at this
      simp only [Bool.and_eq_true, decide_eq_true_eq] at this
      exact this.1.1.1.1.1.1.2
    have hn := inB_iff.1 h2
    exact ⟨⟨⟨⟨⟨⟨⟨⟨⟨⟨⟨⟨h1, h2, h3, h4⟩, h5, h6, h7⟩, ⟨h8, fun i hi => by rw [rphase_iff h5]; exact hp i hi⟩, (served_iff (by omega) (union_lt _ hl)).2 h10⟩, h11⟩, h12⟩, h13⟩, h14⟩, h15⟩, h16⟩, h17⟩, h18⟩, h19⟩

end Go.Proofs.YtfhmfanmnhclfaaDoor
