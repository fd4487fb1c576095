/-
  Texts joined: some of those that the proofs of this seat stand on.
-/
import Derived.Test.YtkgimccffggfdaaDoorGateAJ
import Derived.Test.YtkgimccffggfdaaDoorSafeKJ
import Derived.Test.YtkgimccffggfdaaDoorApartM
/-
  THE CONTRACT of turn's Worst (made by a program).
-/
namespace Go.Proofs.YtkgimccffggfdaaDoor
open Go.RowKit Go.Lib Go.Deep
set_option linter.unusedVariables false
set_option linter.unusedSimpArgs false


theorem mxB_max {b : Int} (hb : 0 ≤ b) (f : Nat → Int) : ∀ n, mxB b f n = max b (mxB 0 f n)
  | 0 => by show b = max b 0; omega
  | n + 1 => by rw [mxB_succ, mxB_succ, mxB_max hb f n]; omega
theorem mxB_le {b M : Int} {f : Nat → Int} (hb : b ≤ M) : ∀ {n : Nat}, (∀ i, i < n → f i ≤ M) → mxB b f n ≤ M
  | 0, _ => hb
  | n + 1, h => by
    rw [mxB_succ]
    have h1 := mxB_le (b := b) (f := f) hb (n := n) (fun i hi => h i (by omega))
    have h2 := h n (by omega)
    omega
theorem tmax_if (a b : Int) : max a b = if a < b then b else a := by split <;> omega
abbrev gm (S : St) (k : Nat) : Int := mxB 0 (fun i => (S.gr i).min) k
abbrev gy (S : St) (k : Nat) : Int := mxB 0 (fun i => (S.gr i).yellow) k
theorem wor_rng {S : St} (hs : siteB S = true) {k : Nat} (hk : k ≤ S.groups.length) : 0 ≤ gm S k ∧ gm S k ≤ 1048576 ∧ 0 ≤ gy S k ∧ gy S k ≤ 1048576 := by
  have ht := tur_facts hs
  exact ⟨mxB_base _ _ _, mxB_le (by omega) (fun i hi => (ht.min i (by omega)).2), mxB_base _ _ _, mxB_le (by omega) (fun i hi => (ht.yel i (by omega)).2)⟩
theorem wor_is {S : St} (hs : siteB S = true) : worT S = gm S S.groups.length + max (worstM S) (gy S S.groups.length) + 2 := by
  unfold worT minM lonM
  rw [mxB_max (tur_facts hs).w0]
theorem wor_bd {S : St} (hs : siteB S = true) : 2 ≤ worT S ∧ worT S ≤ 2097154 := by
  have h1 := wor_rng hs (Nat.le_refl S.groups.length)
  have ht := tur_facts hs
  have := ht.w0
  have := ht.w1
  rw [wor_is hs]
  omega
set_option maxRecDepth 100000 in
set_option maxHeartbeats 2000000 in
theorem twor_no {X : Sa} {S : St} {w : World} (h : Sat w X S) (hT : Tabb w) (hs : siteB S = false) : Calls Tryd.prog 21 #[siteV X S] w fun e w' => e = .returned (.tuple #[.int .i64 0, .int .i64 50]) ∧ Kept w w' none := by
  obtain ⟨WA, hWA⟩ : ∃ WA, (w.alloc (.cells #[.int .i64 S.id, .slice X.g S.groups.length X.gc, .slice X.a S.apart.length X.ac, .slice X.b S.between.length X.bc, .slice X.p S.phases.length X.pc, .slice X.e S.eyes.length X.ec, .int .i64 S.watch, .int .i64 S.feed, .int .i64 S.heal, .int .i64 S.low, .int .i64 S.high, .slice X.l S.plans.length X.lc] 37)) = WA := ⟨_, rfl⟩
  obtain ⟨HSB, HK, HS, s0_, s1_, s2_, s3_, s4_, s5_, s6_, s7_, s8_, s9_, s10_, s11_⟩ := hd1 h hWA
  have HT := Hid.mk' (hT.kept HK.out)
  have hK0 := Kept.refl WA none
  clear h hT
  go_enter Tryd.func21, Tryd.ntmps21
  go_wp2_with (first | rw [hWA] | (go_at_call 37; refine (great_no HS.out HT.out hs).mono ?_; rintro e wC ⟨rfl, hkC⟩))
  go_ret2
  exact ⟨rfl, HK.out.tr hkC⟩
set_option maxRecDepth 100000 in
set_option maxHeartbeats 2000000 in
theorem twor_yes {X : Sa} {S : St} {w : World} (h : Sat w X S) (hT : Tabb w) (hs : siteB S = true) : Calls Tryd.prog 21 #[siteV X S] w fun e w' => e = .returned (.tuple #[.int .i64 (worT S), .int .i64 0]) ∧ Kept w w' none := by
  have hng := (span_may hs).base.sh.ok.ng
  have hgr := h.gk.room
  have HR := Hid.mk' (fun k hk => wor_rng (S := S) hs (k := k) hk)
  have hw0 := (tur_facts hs).w0
  have hw1 := (tur_facts hs).w1
  have HWI := Hid.mk' (wor_is hs)
  obtain ⟨WA, hWA⟩ : ∃ WA, (w.alloc (.cells #[.int .i64 S.id, .slice X.g S.groups.length X.gc, .slice X.a S.apart.length X.ac, .slice X.b S.between.length X.bc, .slice X.p S.phases.length X.pc, .slice X.e S.eyes.length X.ec, .int .i64 S.watch, .int .i64 S.feed, .int .i64 S.heal, .int .i64 S.low, .int .i64 S.high, .slice X.l S.plans.length X.lc] 37)) = WA := ⟨_, rfl⟩
  obtain ⟨HSB, HK, HS, s0_, s1_, s2_, s3_, s4_, s5_, s6_, s7_, s8_, s9_, s10_, s11_⟩ := hd1 h hWA
  have HT := Hid.mk' (hT.kept HK.out)
  have hK0 := Kept.refl WA none
  clear h hT
  go_enter Tryd.func21, Tryd.ntmps21
  go_wp2_with (first | rw [hWA] | (go_at_call 37; refine (great_yes HS.out HT.out hs).mono ?_; rintro e wC ⟨rfl, hkC⟩; have hKC : Kept WA wC none := hkC))
  have HKC := Hid.mk' hKC
  clear hkC hKC
  go_loopw [6, 7, 9, 21] (fun g y _ i wr => ∃ k : Nat, k ≤ S.groups.length ∧ i = .int .i64 k ∧ g = .int .i64 (gm S k) ∧ y = .int .i64 (gy S k) ∧ Kept WA wr none) (fun _ _ _ i _ => S.groups.length - (intOf i).toNat)
  case atStart => exact ⟨0, by omega, rfl, rfl, rfl, HKC.out⟩
  case round =>
    obtain ⟨k, hk, rfl, rfl, rfl, hkw⟩ := hrel
    have HKW := Hid.mk' hkw
    by_cases hlt : k < S.groups.length
    · obtain ⟨bg, og, eg, q0, q1, q2⟩ := (HS.out.kept hkw).grAt hlt
      have c1 := (HSB.out.kept hkw).c1
      rw [eg] at *
      have hbl := block_lt q0
      have kS : Kept wr (wr.alloc (.cells #[.int .u8 ((S.gr k).kind : Int), .int .i64 (S.gr k).min, .int .i64 (S.gr k).yellow] 67)) none := Kept.alloc _ _ _ _ _
      have bS := box_alloc wr (.int .u8 ((S.gr k).kind : Int)) (.int .i64 (S.gr k).min) (.int .i64 (S.gr k).yellow) 67
      have HKS := Hid.mk' (hkw.tr kS)
      have HM : Hid (gm S (k + 1) = if gm S k < (S.gr k).min then (S.gr k).min else gm S k) := tmax_if _ _
      have HY : Hid (gy S (k + 1) = if gy S k < (S.gr k).yellow then (S.gr k).yellow else gy S k) := tmax_if _ _
      clear hkw c1
      clear s0_ s1_ s2_ s3_ s4_ s5_ s6_ s7_ s8_ s9_ s10_ s11_
      generalize S.gr k = N at *
      generalize gm S k = A at *
      generalize gy S k = Y at *
      obtain ⟨WS, hWS⟩ : ∃ WS, wr.alloc (.cells #[.int .u8 (N.kind : Int), .int .i64 N.min, .int .i64 N.yellow] 67) = WS := ⟨_, rfl⟩
      rw [hWS] at kS bS HKS
      have x1 : ∀ m, (WS.drewN m).cell? ⟨wr.heap.size, 1, none⟩ = some (.int .i64 N.min) := fun m => (bS.kept (Kept.drewN _ m _)).c1
      have x2 : ∀ m, (WS.drewN m).cell? ⟨wr.heap.size, 2, none⟩ = some (.int .i64 N.yellow) := fun m => (bS.kept (Kept.drewN _ m _)).c2
      have x1' := bS.c1
      have x2' := bS.c2
      clear kS bS
      by_cases ha : A < N.min
      · have HM1 : Hid (gm S (k + 1) = N.min) := by show _ = _; rw [HM.out, if_pos ha]
        by_cases hy : Y < N.yellow
        · have HY1 : Hid (gy S (k + 1) = N.yellow) := by show _ = _; rw [HY.out, if_pos hy]
          go_wp2_with (rw [hWS])
          go_quiet (fail)
          go_wp2
          go_roundw
          case rel => exact ⟨k + 1, by omega, by go_num, by rw [HM1.out], by rw [HY1.out], HKS.out.tr (Kept.drewN _ _ _)⟩
          case measure => simp [intOf]; omega
        · have HY1 : Hid (gy S (k + 1) = Y) := by show _ = _; rw [HY.out, if_neg hy]
          go_wp2_with (rw [hWS])
          go_quiet (fail)
          go_wp2
          go_roundw
          case rel => exact ⟨k + 1, by omega, by go_num, by rw [HM1.out], by rw [HY1.out], HKS.out.tr (Kept.drewN _ _ _)⟩
          case measure => simp [intOf]; omega
      · have HM1 : Hid (gm S (k + 1) = A) := by show _ = _; rw [HM.out, if_neg ha]
        by_cases hy : Y < N.yellow
        · have HY1 : Hid (gy S (k + 1) = N.yellow) := by show _ = _; rw [HY.out, if_pos hy]
          go_wp2_with (rw [hWS])
          go_quiet (fail)
          go_wp2
          go_roundw
          case rel => exact ⟨k + 1, by omega, by go_num, by rw [HM1.out], by rw [HY1.out], HKS.out.tr (Kept.drewN _ _ _)⟩
          case measure => simp [intOf]; omega
        · have HY1 : Hid (gy S (k + 1) = Y) := by show _ = _; rw [HY.out, if_neg hy]
          go_wp2_with (rw [hWS])
          go_quiet (fail)
          go_wp2
          go_roundw
          case rel => exact ⟨k + 1, by omega, by go_num, by rw [HM1.out], by rw [HY1.out], HKS.out.tr (Kept.drewN _ _ _)⟩
          case measure => simp [intOf]; omega
    · have e : k = S.groups.length := by omega
      subst e
      obtain ⟨r1, r2, r3, r4⟩ := HR.out _ (Nat.le_refl _)
      clear hkw
      generalize gm S S.groups.length = A at *
      generalize gy S S.groups.length = Y at *
      generalize worstM S = G at *
      by_cases hy : G < Y
      · have HW : Hid (worT S = A + Y + 2) := by show _ = _; rw [HWI.out, tmax_if, if_pos hy]
        go_wp2
        go_ret2
        exact ⟨by rw [HW.out]; rfl, HK.out.tr HKW.out⟩
      · have HW : Hid (worT S = A + G + 2) := by show _ = _; rw [HWI.out, tmax_if, if_neg hy]
        go_wp2
        go_ret2
        exact ⟨by rw [HW.out]; rfl, HK.out.tr HKW.out⟩

/-- What Worst tells. -/
def worE (S : St) : Int := if siteB S = false then 50 else 0
def worV (S : St) : Int := if siteB S = false then 0 else worT S
theorem twor_any {X : Sa} {S : St} {w : World} (h : Sat w X S) (hT : Tabb w) : Calls Tryd.prog 21 #[siteV X S] w fun e w' => e = .returned (.tuple #[.int .i64 (worV S), .int .i64 (worE S)]) ∧ Kept w w' none := by
  cases hs : siteB S with
  | false =>
    rw [show worV S = 0 by unfold worV; rw [hs]; rfl, show worE S = 50 by unfold worE; rw [hs]; rfl]
    exact twor_no h hT hs
  | true =>
    rw [show worV S = worT S by unfold worV; rw [hs]; rfl, show worE S = 0 by unfold worE; rw [hs]; rfl]
    exact twor_yes h hT hs

end Go.Proofs.YtkgimccffggfdaaDoor

/-
  THE DOCUMENT'S OWN small answers of layer 8: Apart, Between, Great, flashes, meet (made by a program).
-/
namespace Go.Proofs.YtkgimccffggfdaaDoor
open Go.RowKit Go.Lib Go.Deep
set_option linter.unusedVariables false
set_option linter.unusedSimpArgs false

set_option maxRecDepth 100000 in
set_option maxHeartbeats 2000000 in
theorem rap8_any {X : Sa} {S : St} {w : World} (h : Sat w X S) (a b : Nat) (ha : a < S.apart.length) (hb : b < 32) : Calls Tryd.prog 80 #[siteV X S, .int .i64 (a : Int), .int .i64 (b : Int)] w fun e w' => e = .returned (.bool ((S.ap a).testBit b)) ∧ Kept w w' none := by
  have hbit := has_bit (S.ap a) b (h.apr a)
  have hkA : Kept w (w.alloc (.cells #[.int .i64 S.id, .slice X.g S.groups.length X.gc, .slice X.a S.apart.length X.ac, .slice X.b S.between.length X.bc, .slice X.p S.phases.length X.pc, .slice X.e S.eyes.length X.ec, .int .i64 S.watch, .int .i64 S.feed, .int .i64 S.heal, .int .i64 S.low, .int .i64 S.high, .slice X.l S.plans.length X.lc] 37)) none := Kept.alloc _ _ _ _ _
  have HK := Hid.mk' hkA
  obtain ⟨xg, xgc, xa, xac, xb, xbc, xp, xpc, xe, xec, xl, xlc⟩ := X
  obtain ⟨ba, oa, ea, hca⟩ := h.apAt (n := S.apart.length) (by omega) (by omega)
  dsimp only at ea
  subst ea
  have ka := hca a ha
  have hba := block_lt ka
  have har := h.apr a
  have hak := h.ak.max
  have hal := h.ak.room
  have hbu : ((b : Int) % 18446744073709551616) = (b : Int) := by omega
  clear h hkA hca
  generalize S.ap a = P at *
  have HBIT := Hid.mk' hbit
  clear hbit
  go_enter Tryd.func80, Tryd.ntmps80
  go_wp2
  go_ret
  exact ⟨by rw [← HBIT.out]; rfl, HK.out⟩
set_option maxRecDepth 100000 in
set_option maxHeartbeats 2000000 in
theorem rbt8_any {X : Sa} {S : St} {w : World} (h : Sat w X S) (hSh : Shape S) {a b : Nat} (ha : a < S.groups.length) (hb : b < S.groups.length) : Calls Tryd.prog 81 #[siteV X S, .int .i64 (a : Int), .int .i64 (b : Int)] w fun e w' => e = .returned (.int .i64 (S.bt a b)) ∧ Kept w w' none := by
  have hkA : Kept w (w.alloc (.cells #[.int .i64 S.id, .slice X.g S.groups.length X.gc, .slice X.a S.apart.length X.ac, .slice X.b S.between.length X.bc, .slice X.p S.phases.length X.pc, .slice X.e S.eyes.length X.ec, .int .i64 S.watch, .int .i64 S.feed, .int .i64 S.heal, .int .i64 S.low, .int .i64 S.high, .slice X.l S.plans.length X.lc] 37)) none := Kept.alloc _ _ _ _ _
  have HK := Hid.mk' hkA
  obtain ⟨xg, xgc, xa, xac, xb, xbc, xp, xpc, xe, xec, xl, xlc⟩ := X
  obtain ⟨bb, ob, br, or, c, eb, kb, hcr, kr⟩ := h.btAt hSh ha hb
  dsimp only at eb
  subst eb
  have hab : (a : Int) < (S.between.length : Int) := by have := hSh.ok.nb; omega
  have hbb := block_lt kb
  have hbr := block_lt kr
  have hbc := h.b.cap.room
  clear h hkA hSh
  generalize S.bt a b = v at *
  go_enter Tryd.func81, Tryd.ntmps81
  go_wp2
  go_ret
  exact ⟨rfl, HK.out⟩

/-! ### flashes -/
def cntN (L : List Nat) (x : Nat) : Nat := (L.filter (fun y => y == x)).length
theorem cntN_le (L : List Nat) (x : Nat) : cntN L x ≤ L.length := List.length_filter_le ..
theorem cnt_all {L : List Nat} {x : Nat} : cntN L x = L.length ↔ allIs L x = true := by
  unfold cntN allIs
  rw [List.length_filter_eq_length_iff, List.all_eq_true]
theorem cnt_pos {L : List Nat} {x : Nat} : 0 < cntN L x ↔ hasIt L x = true := by
  unfold cntN hasIt
  rw [List.length_filter_pos_iff, List.any_eq_true]
theorem cnt_take {L : List Nat} {x k : Nat} (h : k < L.length) : cntN (L.take (k + 1)) x = cntN (L.take k) x + (if lg L k = x then 1 else 0) := by
  unfold cntN
  rw [List.take_succ_eq_append_getElem h, List.filter_append, List.length_append]
  have e : lg L k = L[k] := by simp [lg, h]
  rw [e]
  by_cases hh : L[k] = x <;> simp [hh]
/-! ### meet -/
/-! ### Great -/
/-- What is met of the pairs up to group k, and of group k's up to q. -/
def metP (S : St) (k q : Nat) (x : Int) : Prop := ∃ a b, b < S.groups.length ∧ (a < k ∨ a = k ∧ b < q) ∧ (S.ap a).testBit b = true ∧ x = S.bt a b
theorem met_worst {S : St} (hs : siteB S = true) {m : Int} (h : IsMost (metP S S.groups.length 0) m) : m = worstM S := by
  have hK := keeps_may hs
  have hSh := (span_may hs).base.sh
  have hnb := hSh.ok.nb
  refine IsMost.uniq (P := fun x => x ∈ S.between.flatten) ⟨h.1, ?_, fun x hx => ?_⟩ (mostL_is _)
  · rcases h.2.1 with e | ⟨a, b, hb, ha, hap, e⟩
    · exact .inl e
    · right
      have ha' : a < S.groups.length := by omega
      show m ∈ S.between.flatten
      rw [List.mem_flatten]
      have hr := hSh.row a ha'
      refine ⟨S.between.getD a [], getD_mem (by omega), ?_⟩
      rw [e]
      exact getD_mem (by omega)
  · obtain ⟨l, hl, hx⟩ := List.mem_flatten.1 hx
    obtain ⟨a, ha, rfl⟩ := List.getElem_of_mem hl
    obtain ⟨b, hb2, rfl⟩ := List.getElem_of_mem hx
    have hr := hSh.row a (by omega)
    have e : S.between.getD a [] = S.between[a] := by simp [ha]
    rw [e] at hr
    have hbt : S.bt a b = S.between[a][b] := by unfold St.bt; rw [e]; simp [hb2]
    rw [← hbt]
    cases hap : (S.ap a).testBit b with
    | true => exact h.2.2 _ ⟨a, b, by omega, .inl (by omega), hap, rfl⟩
    | false => rw [hK.nil a b (by omega) (by omega) hap]; exact h.1
theorem met_same {S : St} {k q : Nat} {m : Int} (h : IsMost (metP S k q) m) (hq : (S.ap k).testBit q = false) : IsMost (metP S k (q + 1)) m := h.congr (fun x => by
  constructor
  · rintro ⟨a, b, h1, h2, h3, h4⟩
    exact ⟨a, b, h1, by omega, h3, h4⟩
  · rintro ⟨a, b, h1, h2, h3, h4⟩
    refine ⟨a, b, h1, ?_, h3, h4⟩
    rcases h2 with h2 | ⟨rfl, h2⟩
    · exact .inl h2
    · rcases (show b < q ∨ b = q by omega) with h5 | rfl
      · exact .inr ⟨rfl, h5⟩
      · rw [hq] at h3; cases h3)
theorem met_more {S : St} {k q : Nat} {m : Int} (h : IsMost (metP S k q) m) (hl : q < S.groups.length) (hq : (S.ap k).testBit q = true) : IsMost (metP S k (q + 1)) (max m (S.bt k q)) := (h.more (S.bt k q)).congr (fun x => by
  constructor
  · rintro (⟨a, b, h1, h2, h3, h4⟩ | rfl)
    · exact ⟨a, b, h1, by omega, h3, h4⟩
    · exact ⟨k, q, hl, .inr ⟨rfl, by omega⟩, hq, rfl⟩
  · rintro ⟨a, b, h1, h2, h3, h4⟩
    rcases h2 with h2 | ⟨rfl, h2⟩
    · exact .inl ⟨a, b, h1, .inl h2, h3, h4⟩
    · rcases (show b < q ∨ b = q by omega) with h5 | rfl
      · exact .inl ⟨a, b, h1, .inr ⟨rfl, h5⟩, h3, h4⟩
      · exact .inr h4)
theorem met_next {S : St} {k : Nat} {m : Int} (h : IsMost (metP S k S.groups.length) m) : IsMost (metP S (k + 1) 0) m := h.congr (fun x => by
  constructor
  · rintro ⟨a, b, h1, h2, h3, h4⟩
    exact ⟨a, b, h1, by omega, h3, h4⟩
  · rintro ⟨a, b, h1, h2, h3, h4⟩
    exact ⟨a, b, h1, by omega, h3, h4⟩)
set_option maxRecDepth 100000 in
set_option maxHeartbeats 2000000 in
theorem rgr8_any {w : World} {X : Sa} {S : St} (h : Sat w X S) (hs : siteB S = true) : Calls Tryd.prog 50 #[siteV X S] w fun e w' => e = .returned (.int .i64 (worstM S)) ∧ Kept w w' none := by
  have hSh := (span_may hs).base.sh
  have hna := hSh.ok.na
  have hng := hSh.ok.ng
  have k1 : Kept w (w.alloc (.cells #[.int .i64 S.id, .slice X.g S.groups.length X.gc, .slice X.a S.apart.length X.ac, .slice X.b S.between.length X.bc, .slice X.p S.phases.length X.pc, .slice X.e S.eyes.length X.ec, .int .i64 S.watch, .int .i64 S.feed, .int .i64 S.heal, .int .i64 S.low, .int .i64 S.high, .slice X.l S.plans.length X.lc] 37)) none := Kept.alloc _ _ _ _ _
  have hsb := sbox_alloc h 37
  obtain ⟨W1, hW1⟩ : ∃ W1, w.alloc (.cells #[.int .i64 S.id, .slice X.g S.groups.length X.gc, .slice X.a S.apart.length X.ac, .slice X.b S.between.length X.bc, .slice X.p S.phases.length X.pc, .slice X.e S.eyes.length X.ec, .int .i64 S.watch, .int .i64 S.feed, .int .i64 S.heal, .int .i64 S.low, .int .i64 S.high, .slice X.l S.plans.length X.lc] 37) = W1 := ⟨_, rfl⟩
  rw [hW1] at k1 hsb
  have HSB := Hid.mk' hsb
  have HK := Hid.mk' k1
  have hK0 := Kept.refl W1 none
  have s0_ : ∀ w', Kept W1 w' none → w'.cell? ⟨w.heap.size, 0, none⟩ = some (.int .i64 S.id) := fun w' q => (HSB.out.kept q).c0
  have s1_ : ∀ w', Kept W1 w' none → w'.cell? ⟨w.heap.size, 1, none⟩ = some (.slice X.g S.groups.length X.gc) := fun w' q => (HSB.out.kept q).c1
  have s2_ : ∀ w', Kept W1 w' none → w'.cell? ⟨w.heap.size, 2, none⟩ = some (.slice X.a S.apart.length X.ac) := fun w' q => (HSB.out.kept q).c2
  have s3_ : ∀ w', Kept W1 w' none → w'.cell? ⟨w.heap.size, 3, none⟩ = some (.slice X.b S.between.length X.bc) := fun w' q => (HSB.out.kept q).c3
  have s4_ : ∀ w', Kept W1 w' none → w'.cell? ⟨w.heap.size, 4, none⟩ = some (.slice X.p S.phases.length X.pc) := fun w' q => (HSB.out.kept q).c4
  have s5_ : ∀ w', Kept W1 w' none → w'.cell? ⟨w.heap.size, 5, none⟩ = some (.slice X.e S.eyes.length X.ec) := fun w' q => (HSB.out.kept q).c5
  have s6_ : ∀ w', Kept W1 w' none → w'.cell? ⟨w.heap.size, 6, none⟩ = some (.int .i64 S.watch) := fun w' q => (HSB.out.kept q).c6
  have s7_ : ∀ w', Kept W1 w' none → w'.cell? ⟨w.heap.size, 7, none⟩ = some (.int .i64 S.feed) := fun w' q => (HSB.out.kept q).c7
  have s8_ : ∀ w', Kept W1 w' none → w'.cell? ⟨w.heap.size, 8, none⟩ = some (.int .i64 S.heal) := fun w' q => (HSB.out.kept q).c8
  have s9_ : ∀ w', Kept W1 w' none → w'.cell? ⟨w.heap.size, 9, none⟩ = some (.int .i64 S.low) := fun w' q => (HSB.out.kept q).c9
  have s10_ : ∀ w', Kept W1 w' none → w'.cell? ⟨w.heap.size, 10, none⟩ = some (.int .i64 S.high) := fun w' q => (HSB.out.kept q).c10
  have s11_ : ∀ w', Kept W1 w' none → w'.cell? ⟨w.heap.size, 11, none⟩ = some (.slice X.l S.plans.length X.lc) := fun w' q => (HSB.out.kept q).c11
  have HSH := Hid.mk' hSh
  have HNA := Hid.mk' hna
  have HEND := Hid.mk' (fun m (hm : IsMost (metP S S.groups.length 0) m) => met_worst hs hm)
  clear h k1 hsb hna hSh hs
  go_enter Tryd.func50, Tryd.ntmps50
  go_wp2_with (rw [hW1])
  go_loopw [3, 4, 5] (fun c i _ wr => ∃ k : Nat, k ≤ S.groups.length ∧ i = .int .i64 k ∧ Kept W1 wr none ∧ ∃ m : Int, c = .int .i64 m ∧ IsMost (metP S k 0) m) (fun _ i _ _ => S.groups.length - (intOf i).toNat)
  case atStart => exact ⟨0, by omega, rfl, Kept.refl _ _, 0, rfl, IsMost.none.congr (fun x => ⟨fun h => h.elim, fun ⟨a, b, _, h2, _⟩ => by omega⟩)⟩
  case round =>
    obtain ⟨k, hk, rfl, hkw, m, rfl, hm⟩ := hrel
    have HM := Hid.mk' hm
    clear hm
    by_cases hlt : k < S.groups.length
    · go_wp2
      obtain ⟨wo, hwo⟩ : ∃ wo, wo = wr := ⟨_, rfl⟩
      subst hwo
      go_loopw [3, 5] (fun c i wr => ∃ q : Nat, q ≤ S.groups.length ∧ i = .int .i64 q ∧ Kept W1 wr none ∧ ∃ m : Int, c = .int .i64 m ∧ IsMost (metP S k q) m) (fun _ i _ => S.groups.length - (intOf i).toNat)
      case atStart => exact ⟨0, by omega, rfl, hkw, m, rfl, HM.out⟩
      case round =>
        obtain ⟨q, hq, rfl, hkr, m2, rfl, hm2⟩ := hrel
        by_cases hql : q < S.groups.length
        · have HAP := Hid.mk' (fun w' (qq : Kept W1 w' none) => rap8_any (HSB.out.sat.kept qq) k q (by have := HNA.out; omega) (by omega))
          have HBT := Hid.mk' (fun w' (qq : Kept W1 w' none) => rbt8_any (HSB.out.sat.kept qq) HSH.out hlt hql)
          have HSAME : Hid ((S.ap k).testBit q = false → IsMost (metP S k (q + 1)) m2) := fun h => met_same hm2 h
          have HMORE : Hid ((S.ap k).testBit q = true → IsMost (metP S k (q + 1)) (max m2 (S.bt k q))) := fun h => met_more hm2 hql h
          clear hm2
          generalize S.bt k q = v at *
          generalize (S.ap k).testBit q = t at *
          cases t with
          | false =>
            go_wp2_with (go_at_call 80; refine (HAP.out _ hkr).mono ?_; rintro e wA ⟨rfl, hkA⟩)
            go_roundw
            case rel => exact ⟨q + 1, by omega, by go_num, hkr.tr hkA, m2, rfl, HSAME.out (by simp)⟩
            case measure => simp [intOf]; omega
          | true =>
            by_cases hv : m2 < v
            · have HMX : Hid (max m2 v = v) := by show _ = _; omega
              go_wp2_with (first
                | (have hgo := hkC; clear hgo; go_at_call 81; refine (HBT.out _ hkC).mono ?_; rintro e wD ⟨rfl, hqD⟩; have hkD : Kept W1 wD none := hkC.tr hqD)
                | (have hgo := hkA; clear hgo; go_at_call 81; refine (HBT.out _ hkA).mono ?_; rintro e wC ⟨rfl, hqC⟩; have hkC : Kept W1 wC none := hkA.tr hqC)
                | (go_at_call 80; refine (HAP.out _ hkr).mono ?_; rintro e wA ⟨rfl, hqA⟩; have hkA : Kept W1 wA none := hkr.tr hqA))
              go_roundw
              case rel => exact ⟨q + 1, by omega, by go_num, hkD, v, rfl, by have := HMORE.out (by simp); rwa [HMX.out] at this⟩
              case measure => simp [intOf]; omega
            · have HMX : Hid (max m2 v = m2) := by show _ = _; omega
              have hvb : decide (m2 < v) = false := by simp; omega
              go_wp2_with (first
                | (have hgo := hkA; clear hgo; go_at_call 81; refine (HBT.out _ hkA).mono ?_; rintro e wC ⟨rfl, hqC⟩; have hkC : Kept W1 wC none := hkA.tr hqC)
                | (go_at_call 80; refine (HAP.out _ hkr).mono ?_; rintro e wA ⟨rfl, hqA⟩; have hkA : Kept W1 wA none := hkr.tr hqA))
              go_roundw
              case rel => exact ⟨q + 1, by omega, by go_num, hkC, m2, rfl, by have := HMORE.out (by simp); rwa [HMX.out] at this⟩
              case measure => simp [intOf]; omega
        · have e : q = S.groups.length := by omega
          subst e
          have HM2 := Hid.mk' (met_next hm2)
          clear hm2
          go_wp2
          go_roundw
          case rel => exact ⟨k + 1, by omega, by go_num, hkr, m2, rfl, HM2.out⟩
          case measure => simp [intOf]; omega
    · have e : k = S.groups.length := by omega
      subst e
      have HE := Hid.mk' (HEND.out m HM.out)
      go_wp2
      go_ret
      exact ⟨by rw [← HE.out]; rfl, HK.out.tr hkw⟩

end Go.Proofs.YtkgimccffggfdaaDoor

/-
  THE CONTRACT of the document's Turn (made by a program).
-/
namespace Go.Proofs.YtkgimccffggfdaaDoor
open Go.RowKit Go.Lib Go.Deep
set_option linter.unusedVariables false
set_option linter.unusedSimpArgs false


abbrev gl (S : St) (k : Nat) : Int := mxB (worstM S) (fun i => (S.gr i).yellow) k
theorem gl_rng {S : St} (hs : siteB S = true) {k : Nat} (hk : k ≤ S.groups.length) : 0 ≤ gl S k ∧ gl S k ≤ 1048576 := by
  have ht := tur_facts hs
  exact ⟨Int.le_trans ht.w0 (mxB_base _ _ _), mxB_le ht.w1 (fun i hi => (ht.yel i (by omega)).2)⟩
set_option maxRecDepth 100000 in
set_option maxHeartbeats 2000000 in
theorem rturn_yes {X : Sa} {S : St} {w : World} (h : Sat w X S) (hs : siteB S = true) : Calls Tryd.prog 29 #[siteV X S] w fun e w' => e = .returned (.int .i64 (worT S)) ∧ Kept w w' none := by
  have hng := (span_may hs).base.sh.ok.ng
  have hgr := h.gk.room
  have HR := Hid.mk' (fun k hk => wor_rng (S := S) hs (k := k) hk)
  have HR2 := Hid.mk' (fun k hk => gl_rng (S := S) hs (k := k) hk)
  have HWI : Hid (worT S = gm S S.groups.length + gl S S.groups.length + 2) := rfl
  obtain ⟨WA, hWA⟩ : ∃ WA, (w.alloc (.cells #[.int .i64 S.id, .slice X.g S.groups.length X.gc, .slice X.a S.apart.length X.ac, .slice X.b S.between.length X.bc, .slice X.p S.phases.length X.pc, .slice X.e S.eyes.length X.ec, .int .i64 S.watch, .int .i64 S.feed, .int .i64 S.heal, .int .i64 S.low, .int .i64 S.high, .slice X.l S.plans.length X.lc] 37)) = WA := ⟨_, rfl⟩
  obtain ⟨HSB, HK, HS, s0_, s1_, s2_, s3_, s4_, s5_, s6_, s7_, s8_, s9_, s10_, s11_⟩ := hd1 h hWA
  have hK0 := Kept.refl WA none
  clear h
  go_enter Tryd.func29, Tryd.ntmps29
  go_wp2_with (first | rw [hWA] | (go_at_call 50; refine (rgr8_any HS.out hs).mono ?_; rintro e wC ⟨rfl, hkC⟩; have hKC : Kept WA wC none := hkC))
  have HKC := Hid.mk' hKC
  clear hkC hKC
  go_loopw [3, 4, 5] (fun g y i wr => ∃ k : Nat, k ≤ S.groups.length ∧ i = .int .i64 k ∧ g = .int .i64 (gm S k) ∧ y = .int .i64 (gl S k) ∧ Kept WA wr none) (fun _ _ i _ => S.groups.length - (intOf i).toNat)
  case atStart => exact ⟨0, by omega, rfl, rfl, rfl, HKC.out⟩
  case round =>
    obtain ⟨k, hk, rfl, rfl, rfl, hkw⟩ := hrel
    have HKW := Hid.mk' hkw
    by_cases hlt : k < S.groups.length
    · obtain ⟨bg, og, eg, q0, q1, q2⟩ := (HS.out.kept hkw).grAt hlt
      have c1 := (HSB.out.kept hkw).c1
      rw [eg] at c1
      have HM : Hid (gm S (k + 1) = if gm S k < (S.gr k).min then (S.gr k).min else gm S k) := tmax_if _ _
      have HY : Hid (gl S (k + 1) = if gl S k < (S.gr k).yellow then (S.gr k).yellow else gl S k) := tmax_if _ _
      clear hkw s0_ s1_ s2_ s3_ s4_ s5_ s6_ s7_ s8_ s9_ s10_ s11_ eg q0 hK0
      generalize S.gr k = N at *
      generalize gm S k = A at *
      generalize gl S k = Y at *
      by_cases ha : A < N.min
      · have HM1 : Hid (gm S (k + 1) = N.min) := by show _ = _; rw [HM.out, if_pos ha]
        by_cases hy : Y < N.yellow
        · have HY1 : Hid (gl S (k + 1) = N.yellow) := by show _ = _; rw [HY.out, if_pos hy]
          go_wp2
          go_roundw
          case rel => exact ⟨k + 1, by omega, by go_num, by rw [HM1.out], by rw [HY1.out], HKW.out⟩
          case measure => simp [intOf]; omega
        · have HY1 : Hid (gl S (k + 1) = Y) := by show _ = _; rw [HY.out, if_neg hy]
          go_wp2
          go_roundw
          case rel => exact ⟨k + 1, by omega, by go_num, by rw [HM1.out], by rw [HY1.out], HKW.out⟩
          case measure => simp [intOf]; omega
      · have HM1 : Hid (gm S (k + 1) = A) := by show _ = _; rw [HM.out, if_neg ha]
        by_cases hy : Y < N.yellow
        · have HY1 : Hid (gl S (k + 1) = N.yellow) := by show _ = _; rw [HY.out, if_pos hy]
          go_wp2
          go_roundw
          case rel => exact ⟨k + 1, by omega, by go_num, by rw [HM1.out], by rw [HY1.out], HKW.out⟩
          case measure => simp [intOf]; omega
        · have HY1 : Hid (gl S (k + 1) = Y) := by show _ = _; rw [HY.out, if_neg hy]
          go_wp2
          go_roundw
          case rel => exact ⟨k + 1, by omega, by go_num, by rw [HM1.out], by rw [HY1.out], HKW.out⟩
          case measure => simp [intOf]; omega
    · have e : k = S.groups.length := by omega
      subst e
      obtain ⟨r1, r2, r3, r4⟩ := HR.out _ (Nat.le_refl _)
      obtain ⟨r5, r6⟩ := HR2.out _ (Nat.le_refl _)
      have c1 := (HSB.out.kept hkw).c1
      clear hkw s0_ s1_ s2_ s3_ s4_ s5_ s6_ s7_ s8_ s9_ s10_ s11_ r3 r4 hK0
      generalize gm S S.groups.length = A at *
      generalize gl S S.groups.length = Y at *
      go_wp2
      go_ret
      exact ⟨by rw [HWI.out]; rfl, HK.out.tr HKW.out⟩

end Go.Proofs.YtkgimccffggfdaaDoor

