/-
  Texts joined: some of those that the proofs of this seat stand on.
-/
import Derived.Test.YtkbhcpgdhbfhnaaDoorSafeKJ
import Derived.Test.YtkbhcpgdhbfhnaaDoorApartM
/-
  THE DOCUMENT'S OWN small answers of layer 8: Apart, Between, Great, flashes, meet (made by a program).
-/
namespace Go.Proofs.YtkbhcpgdhbfhnaaDoor
open Go.RowKit Go.Lib Go.Deep
set_option linter.unusedVariables false
set_option linter.unusedSimpArgs false

set_option maxRecDepth 100000 in
set_option maxHeartbeats 2000000 in
theorem rap8_any {X : Sa} {S : St} {w : World} (h : Sat w X S) (a b : Nat) (ha : a < S.apart.length) (hb : b < 32) : Calls Tryd.prog 56 #[siteV X S, .int .i64 (a : Int), .int .i64 (b : Int)] w fun e w' => e = .returned (.bool ((S.ap a).testBit b)) ∧ Kept w w' none := by
  have hbit := has_bit (S.ap a) b (h.apr a)
  have hkA : Kept w (w.alloc (.cells #[.int .i64 S.id, .slice X.g S.groups.length X.gc, .slice X.a S.apart.length X.ac, .slice X.b S.between.length X.bc, .slice X.p S.phases.length X.pc, .slice X.e S.eyes.length X.ec, .int .i64 S.watch, .int .i64 S.feed, .int .i64 S.heal, .int .i64 S.low, .int .i64 S.high, .slice X.l S.plans.length X.lc] 34)) none := Kept.alloc _ _ _ _ _
  have HK := Hid.mk' hkA
  obtain ⟨xg, xgc, xa, xac, xb, xbc, xp, xpc, xe, xec, xl, xlc⟩ := X
  obtain ⟨ba, oa, ea, hca⟩ := h.apAt (n := S.apart.length) (by omega) (by omega)
  dsimp only at ea
  subst ea
  have ka := hca a ha
  have hba := block_lt ka
  have har := h.apr a
  have hak := h.ak.max
  have hal := h.ak.room
  have hbu : ((b : Int) % 18446744073709551616) = (b : Int) := by omega
  clear h hkA hca
  generalize S.ap a = P at *
  have HBIT := Hid.mk' hbit
  clear hbit
  go_enter Tryd.func56, Tryd.ntmps56
  go_wp2
  go_ret
  exact ⟨by rw [← HBIT.out]; rfl, HK.out⟩
set_option maxRecDepth 100000 in
set_option maxHeartbeats 2000000 in
theorem rbt8_any {X : Sa} {S : St} {w : World} (h : Sat w X S) (hSh : Shape S) {a b : Nat} (ha : a < S.groups.length) (hb : b < S.groups.length) : Calls Tryd.prog 57 #[siteV X S, .int .i64 (a : Int), .int .i64 (b : Int)] w fun e w' => e = .returned (.int .i64 (S.bt a b)) ∧ Kept w w' none := by
  have hkA : Kept w (w.alloc (.cells #[.int .i64 S.id, .slice X.g S.groups.length X.gc, .slice X.a S.apart.length X.ac, .slice X.b S.between.length X.bc, .slice X.p S.phases.length X.pc, .slice X.e S.eyes.length X.ec, .int .i64 S.watch, .int .i64 S.feed, .int .i64 S.heal, .int .i64 S.low, .int .i64 S.high, .slice X.l S.plans.length X.lc] 34)) none := Kept.alloc _ _ _ _ _
  have HK := Hid.mk' hkA
  obtain ⟨xg, xgc, xa, xac, xb, xbc, xp, xpc, xe, xec, xl, xlc⟩ := X
  obtain ⟨bb, ob, br, or, c, eb, kb, hcr, kr⟩ := h.btAt hSh ha hb
  dsimp only at eb
  subst eb
  have hab : (a : Int) < (S.between.length : Int) := by have := hSh.ok.nb; omega
  have hbb := block_lt kb
  have hbr := block_lt kr
  have hbc := h.b.cap.room
  clear h hkA hSh
  generalize S.bt a b = v at *
  go_enter Tryd.func57, Tryd.ntmps57
  go_wp2
  go_ret
  exact ⟨rfl, HK.out⟩

/-! ### flashes -/
def cntN (L : List Nat) (x : Nat) : Nat := (L.filter (fun y => y == x)).length
theorem cntN_le (L : List Nat) (x : Nat) : cntN L x ≤ L.length := List.length_filter_le ..
theorem cnt_all {L : List Nat} {x : Nat} : cntN L x = L.length ↔ allIs L x = true := by
  unfold cntN allIs
  rw [List.length_filter_eq_length_iff, List.all_eq_true]
theorem cnt_pos {L : List Nat} {x : Nat} : 0 < cntN L x ↔ hasIt L x = true := by
  unfold cntN hasIt
  rw [List.length_filter_pos_iff, List.any_eq_true]
theorem cnt_take {L : List Nat} {x k : Nat} (h : k < L.length) : cntN (L.take (k + 1)) x = cntN (L.take k) x + (if lg L k = x then 1 else 0) := by
  unfold cntN
  rw [List.take_succ_eq_append_getElem h, List.filter_append, List.length_append]
  have e : lg L k = L[k] := by simp [lg, h]
  rw [e]
  by_cases hh : L[k] = x <;> simp [hh]
set_option maxRecDepth 100000 in
set_option maxHeartbeats 2000000 in
theorem rflash_any {w : World} {a : Option Addr} {n c : Nat} {L : List Nat} (hB : By w a n L) : Calls Tryd.prog 59 #[.slice a n c] w fun e w' => e = .returned (.int .i64 ((cntN L 4 : Nat) : Int)) ∧ w' = w := by
  have hs := hB.size
  have hm := hB.max
  have HB := Hid.mk' hB
  have HS := Hid.mk' hs
  clear hB hs
  go_enter Tryd.func59, Tryd.ntmps59
  go_wp2
  go_loop [3, 4] (fun c i => ∃ k m : Nat, k ≤ n ∧ i = .int .i64 k ∧ c = .int .i64 (m : Int) ∧ m ≤ k ∧ m = cntN (L.take k) 4) (fun _ i => n - (intOf i).toNat)
  case atStart => exact ⟨0, 0, by omega, rfl, rfl, by omega, rfl⟩
  case round =>
    obtain ⟨k, m, hk, rfl, rfl, hmk, hm4⟩ := hrel
    have HM := Hid.mk' hm4
    clear hm4
    by_cases hlt : k < n
    · obtain ⟨b, off, rfl, hb, hc⟩ := HB.out.at_ (by omega)
      have kc := hc k hlt
      rw [show L.getD k 0 = lg L k from rfl] at kc
      have hst := cnt_take (L := L) (x := 4) (k := k) (by have := HS.out; omega)
      by_cases e : lg L k = 4
      · rw [if_pos e] at hst
        have HST := Hid.mk' hst
        rw [e] at kc
        clear hc e hst
        go_wp2
        exact ⟨⟨k + 1, m + 1, by omega, by go_num, by go_num, by omega, by rw [HST.out, HM.out]⟩, by simp [intOf]; omega⟩
      · rw [if_neg e] at hst
        have HST := Hid.mk' hst
        have e1 : ((lg L k : Int) == 4) = false := by simp; omega
        clear hc e hst
        generalize lg L k = y at *
        go_wp2
        exact ⟨⟨k + 1, m, by omega, by go_num, rfl, by omega, by rw [HST.out, HM.out]; rfl⟩, by simp [intOf]; omega⟩
    · have hkk : L.take k = L := List.take_of_length_le (by have := HS.out; omega)
      rw [hkk] at HM
      go_wp2
      go_ret
      exact ⟨by rw [HM.out]; rfl, rfl⟩

/-! ### meet -/
set_option maxRecDepth 100000 in
set_option maxHeartbeats 2000000 in
theorem rmeet8_any {w : World} {X : Sa} {S : St} {a : Option Addr} {n c : Nat} {L : List Nat} (h : Sat w X S) (hO : Okay S) (hB : By w a n L) (hn : n = S.groups.length) : Calls Tryd.prog 78 #[siteV X S, .slice a n c] w fun e w' => e = .returned (.bool (mtB S L)) ∧ Kept w w' none := by
  have hna := hO.na
  have hng := hO.ng
  have hs := hB.size
  obtain ⟨bl, ol, el, hbl, hcl⟩ := hB.at_ (by omega)
  subst el
  have HCL := Hid.mk' hcl
  have HS := Hid.mk' hs
  subst hn
  have k1 : Kept w (w.alloc (.cells #[.int .i64 S.id, .slice X.g S.groups.length X.gc, .slice X.a S.apart.length X.ac, .slice X.b S.between.length X.bc, .slice X.p S.phases.length X.pc, .slice X.e S.eyes.length X.ec, .int .i64 S.watch, .int .i64 S.feed, .int .i64 S.heal, .int .i64 S.low, .int .i64 S.high, .slice X.l S.plans.length X.lc] 34)) none := Kept.alloc _ _ _ _ _
  have hsb := sbox_alloc h 34
  obtain ⟨W1, hW1⟩ : ∃ W1, w.alloc (.cells #[.int .i64 S.id, .slice X.g S.groups.length X.gc, .slice X.a S.apart.length X.ac, .slice X.b S.between.length X.bc, .slice X.p S.phases.length X.pc, .slice X.e S.eyes.length X.ec, .int .i64 S.watch, .int .i64 S.feed, .int .i64 S.heal, .int .i64 S.low, .int .i64 S.high, .slice X.l S.plans.length X.lc] 34) = W1 := ⟨_, rfl⟩
  rw [hW1] at k1 hsb
  have HSB := Hid.mk' hsb
  have HK := Hid.mk' k1
  have hK0 := Kept.refl W1 none
  have s0_ : ∀ w', Kept W1 w' none → w'.cell? ⟨w.heap.size, 0, none⟩ = some (.int .i64 S.id) := fun w' q => (HSB.out.kept q).c0
  have s1_ : ∀ w', Kept W1 w' none → w'.cell? ⟨w.heap.size, 1, none⟩ = some (.slice X.g S.groups.length X.gc) := fun w' q => (HSB.out.kept q).c1
  have s2_ : ∀ w', Kept W1 w' none → w'.cell? ⟨w.heap.size, 2, none⟩ = some (.slice X.a S.apart.length X.ac) := fun w' q => (HSB.out.kept q).c2
  have s3_ : ∀ w', Kept W1 w' none → w'.cell? ⟨w.heap.size, 3, none⟩ = some (.slice X.b S.between.length X.bc) := fun w' q => (HSB.out.kept q).c3
  have s4_ : ∀ w', Kept W1 w' none → w'.cell? ⟨w.heap.size, 4, none⟩ = some (.slice X.p S.phases.length X.pc) := fun w' q => (HSB.out.kept q).c4
  have s5_ : ∀ w', Kept W1 w' none → w'.cell? ⟨w.heap.size, 5, none⟩ = some (.slice X.e S.eyes.length X.ec) := fun w' q => (HSB.out.kept q).c5
  have s6_ : ∀ w', Kept W1 w' none → w'.cell? ⟨w.heap.size, 6, none⟩ = some (.int .i64 S.watch) := fun w' q => (HSB.out.kept q).c6
  have s7_ : ∀ w', Kept W1 w' none → w'.cell? ⟨w.heap.size, 7, none⟩ = some (.int .i64 S.feed) := fun w' q => (HSB.out.kept q).c7
  have s8_ : ∀ w', Kept W1 w' none → w'.cell? ⟨w.heap.size, 8, none⟩ = some (.int .i64 S.heal) := fun w' q => (HSB.out.kept q).c8
  have s9_ : ∀ w', Kept W1 w' none → w'.cell? ⟨w.heap.size, 9, none⟩ = some (.int .i64 S.low) := fun w' q => (HSB.out.kept q).c9
  have s10_ : ∀ w', Kept W1 w' none → w'.cell? ⟨w.heap.size, 10, none⟩ = some (.int .i64 S.high) := fun w' q => (HSB.out.kept q).c10
  have s11_ : ∀ w', Kept W1 w' none → w'.cell? ⟨w.heap.size, 11, none⟩ = some (.slice X.l S.plans.length X.lc) := fun w' q => (HSB.out.kept q).c11
  have hall : ∀ i, i < S.groups.length → ∀ w', Kept W1 w' none → w'.cell? ⟨bl, ol + i, none⟩ = some (.int .u8 (lg L i : Int)) := fun i hi w' q => cell_kept0 (cell_kept0 (HCL.out i hi) HK.out) q
  have HALL := Hid.mk' hall
  have HNA := Hid.mk' hna
  clear h hB hcl hs k1 hsb hall hna hO
  go_enter Tryd.func78, Tryd.ntmps78
  go_wp2_with (rw [hW1])
  go_loopw [5, 6] (fun i _ wr => ∃ k : Nat, k ≤ S.groups.length ∧ i = .int .i64 k ∧ Kept W1 wr none ∧ ∀ j, j < k → ∀ b, b < j → pairM S L j b = false) (fun i _ _ => S.groups.length - (intOf i).toNat)
  case atStart => exact ⟨0, by omega, rfl, Kept.refl _ _, fun j hj => by omega⟩
  case round =>
    obtain ⟨k, hk, rfl, hkw, hno⟩ := hrel
    have HN := Hid.mk' hno
    clear hno
    by_cases hlt : k < S.groups.length
    · go_wp2
      obtain ⟨wo, hwo⟩ : ∃ wo, wo = wr := ⟨_, rfl⟩
      subst hwo
      go_loopw [6] (fun i wr => ∃ q : Nat, q ≤ k ∧ i = .int .i64 q ∧ Kept W1 wr none ∧ ∀ b, b < q → pairM S L k b = false) (fun i _ => k - (intOf i).toNat)
      case atStart => exact ⟨0, by omega, rfl, hkw, fun j hj => by omega⟩
      case round =>
        obtain ⟨q, hq, rfl, hkr, hno⟩ := hrel
        have HNB := Hid.mk' hno
        clear hno
        by_cases hql : q < k
        · have lk := HALL.out k hlt
          have lq := HALL.out q (by omega)
          by_cases e1 : lg L k = 1
          · have HN2 : Hid (∀ b, b < q + 1 → pairM S L k b = false) := ext_no HNB.out (by simp [pairM, e1])
            rw [e1] at lk
            generalize lg L q = z at *
            go_wp2
            go_roundw
            case rel => exact ⟨q + 1, by omega, by go_num, hkr, HN2.out⟩
            case measure => simp [intOf]; omega
          · have e1b : ((lg L k : Int) != 1) = true := by simp; omega
            by_cases e2 : lg L q = 1
            · have HN2 : Hid (∀ b, b < q + 1 → pairM S L k b = false) := ext_no HNB.out (by simp [pairM, e2])
              rw [e2] at lq
              generalize lg L k = y at *
              go_wp2
              go_roundw
              case rel => exact ⟨q + 1, by omega, by go_num, hkr, HN2.out⟩
              case measure => simp [intOf]; omega
            · have e2b : ((lg L q : Int) != 1) = true := by simp; omega
              have hpm : pairM S L k q = (S.ap k).testBit q := by
                unfold pairM
                rw [show (lg L k == 1) = false by simpa using e1, show (lg L q == 1) = false by simpa using e2]
                rfl
              have HPM := Hid.mk' hpm
              have hyes : (S.ap k).testBit q = true → mtB S L = true := fun h => mtB_yes (by have := HS.out; omega) hql (hpm.trans h)
              have HY := Hid.mk' hyes
              have HAP := Hid.mk' (fun w' (qq : Kept W1 w' none) => rap8_any (HSB.out.sat.kept qq) k q (by have := HNA.out; omega) (by omega))
              clear hpm hyes e1 e2
              generalize lg L k = y at *
              generalize lg L q = z at *
              generalize (S.ap k).testBit q = t at *
              cases t with
              | true =>
                go_wp2_with (go_at_call 56; refine (HAP.out _ hkr).mono ?_; rintro e wA ⟨rfl, hkA⟩)
                go_ret
                exact ⟨by rw [HY.out (by simp)]; rfl, HK.out.tr (hkr.tr hkA)⟩
              | false =>
                have HN2 : Hid (∀ b, b < q + 1 → pairM S L k b = false) := ext_no HNB.out HPM.out
                go_wp2_with (go_at_call 56; refine (HAP.out _ hkr).mono ?_; rintro e wA ⟨rfl, hkA⟩)
                go_roundw
                case rel => exact ⟨q + 1, by omega, by go_num, hkr.tr hkA, HN2.out⟩
                case measure => simp [intOf]; omega
        · have HN2 : Hid (∀ j, j < k + 1 → ∀ b, b < j → pairM S L j b = false) := ext_no HN.out (fun b hb => HNB.out b (by omega))
          go_wp2
          go_roundw
          case rel => exact ⟨k + 1, by omega, by go_num, hkr, HN2.out⟩
          case measure => simp [intOf]; omega
    · have HF := Hid.mk' (mtB_no (S := S) (L := L) (fun a ha b hb => HN.out a (by have := HS.out; omega) b hb))
      go_wp2
      go_ret
      exact ⟨by rw [HF.out]; rfl, HK.out.tr hkw⟩

/-! ### Great -/
/-- What is met of the pairs up to group k, and of group k's up to q. -/
def metP (S : St) (k q : Nat) (x : Int) : Prop := ∃ a b, b < S.groups.length ∧ (a < k ∨ a = k ∧ b < q) ∧ (S.ap a).testBit b = true ∧ x = S.bt a b
theorem met_worst {S : St} (hs : siteB S = true) {m : Int} (h : IsMost (metP S S.groups.length 0) m) : m = worstM S := by
  have hK := keeps_may hs
  have hSh := (span_may hs).base.sh
  have hnb := hSh.ok.nb
  refine IsMost.uniq (P := fun x => x ∈ S.between.flatten) ⟨h.1, ?_, fun x hx => ?_⟩ (mostL_is _)
  · rcases h.2.1 with e | ⟨a, b, hb, ha, hap, e⟩
    · exact .inl e
    · right
      have ha' : a < S.groups.length := by omega
      show m ∈ S.between.flatten
      rw [List.mem_flatten]
      have hr := hSh.row a ha'
      refine ⟨S.between.getD a [], getD_mem (by omega), ?_⟩
      rw [e]
      exact getD_mem (by omega)
  · obtain ⟨l, hl, hx⟩ := List.mem_flatten.1 hx
    obtain ⟨a, ha, rfl⟩ := List.getElem_of_mem hl
    obtain ⟨b, hb2, rfl⟩ := List.getElem_of_mem hx
    have hr := hSh.row a (by omega)
    have e : S.between.getD a [] = S.between[a] := by simp [ha]
    rw [e] at hr
    have hbt : S.bt a b = S.between[a][b] := by unfold St.bt; rw [e]; simp [hb2]
    rw [← hbt]
    cases hap : (S.ap a).testBit b with
    | true => exact h.2.2 _ ⟨a, b, by omega, .inl (by omega), hap, rfl⟩
    | false => rw [hK.nil a b (by omega) (by omega) hap]; exact h.1
theorem met_same {S : St} {k q : Nat} {m : Int} (h : IsMost (metP S k q) m) (hq : (S.ap k).testBit q = false) : IsMost (metP S k (q + 1)) m := h.congr (fun x => by
  constructor
  · rintro ⟨a, b, h1, h2, h3, h4⟩
    exact ⟨a, b, h1, by omega, h3, h4⟩
  · rintro ⟨a, b, h1, h2, h3, h4⟩
    refine ⟨a, b, h1, ?_, h3, h4⟩
    rcases h2 with h2 | ⟨rfl, h2⟩
    · exact .inl h2
    · rcases (show b < q ∨ b = q by omega) with h5 | rfl
      · exact .inr ⟨rfl, h5⟩
      · rw [hq] at h3; cases h3)
theorem met_more {S : St} {k q : Nat} {m : Int} (h : IsMost (metP S k q) m) (hl : q < S.groups.length) (hq : (S.ap k).testBit q = true) : IsMost (metP S k (q + 1)) (max m (S.bt k q)) := (h.more (S.bt k q)).congr (fun x => by
  constructor
  · rintro (⟨a, b, h1, h2, h3, h4⟩ | rfl)
    · exact ⟨a, b, h1, by omega, h3, h4⟩
    · exact ⟨k, q, hl, .inr ⟨rfl, by omega⟩, hq, rfl⟩
  · rintro ⟨a, b, h1, h2, h3, h4⟩
    rcases h2 with h2 | ⟨rfl, h2⟩
    · exact .inl ⟨a, b, h1, .inl h2, h3, h4⟩
    · rcases (show b < q ∨ b = q by omega) with h5 | rfl
      · exact .inl ⟨a, b, h1, .inr ⟨rfl, h5⟩, h3, h4⟩
      · exact .inr h4)
theorem met_next {S : St} {k : Nat} {m : Int} (h : IsMost (metP S k S.groups.length) m) : IsMost (metP S (k + 1) 0) m := h.congr (fun x => by
  constructor
  · rintro ⟨a, b, h1, h2, h3, h4⟩
    exact ⟨a, b, h1, by omega, h3, h4⟩
  · rintro ⟨a, b, h1, h2, h3, h4⟩
    exact ⟨a, b, h1, by omega, h3, h4⟩)
set_option maxRecDepth 100000 in
set_option maxHeartbeats 2000000 in
theorem rgr8_any {w : World} {X : Sa} {S : St} (h : Sat w X S) (hs : siteB S = true) : Calls Tryd.prog 58 #[siteV X S] w fun e w' => e = .returned (.int .i64 (worstM S)) ∧ Kept w w' none := by
  have hSh := (span_may hs).base.sh
  have hna := hSh.ok.na
  have hng := hSh.ok.ng
  have k1 : Kept w (w.alloc (.cells #[.int .i64 S.id, .slice X.g S.groups.length X.gc, .slice X.a S.apart.length X.ac, .slice X.b S.between.length X.bc, .slice X.p S.phases.length X.pc, .slice X.e S.eyes.length X.ec, .int .i64 S.watch, .int .i64 S.feed, .int .i64 S.heal, .int .i64 S.low, .int .i64 S.high, .slice X.l S.plans.length X.lc] 34)) none := Kept.alloc _ _ _ _ _
  have hsb := sbox_alloc h 34
  obtain ⟨W1, hW1⟩ : ∃ W1, w.alloc (.cells #[.int .i64 S.id, .slice X.g S.groups.length X.gc, .slice X.a S.apart.length X.ac, .slice X.b S.between.length X.bc, .slice X.p S.phases.length X.pc, .slice X.e S.eyes.length X.ec, .int .i64 S.watch, .int .i64 S.feed, .int .i64 S.heal, .int .i64 S.low, .int .i64 S.high, .slice X.l S.plans.length X.lc] 34) = W1 := ⟨_, rfl⟩
  rw [hW1] at k1 hsb
  have HSB := Hid.mk' hsb
  have HK := Hid.mk' k1
  have hK0 := Kept.refl W1 none
  have s0_ : ∀ w', Kept W1 w' none → w'.cell? ⟨w.heap.size, 0, none⟩ = some (.int .i64 S.id) := fun w' q => (HSB.out.kept q).c0
  have s1_ : ∀ w', Kept W1 w' none → w'.cell? ⟨w.heap.size, 1, none⟩ = some (.slice X.g S.groups.length X.gc) := fun w' q => (HSB.out.kept q).c1
  have s2_ : ∀ w', Kept W1 w' none → w'.cell? ⟨w.heap.size, 2, none⟩ = some (.slice X.a S.apart.length X.ac) := fun w' q => (HSB.out.kept q).c2
  have s3_ : ∀ w', Kept W1 w' none → w'.cell? ⟨w.heap.size, 3, none⟩ = some (.slice X.b S.between.length X.bc) := fun w' q => (HSB.out.kept q).c3
  have s4_ : ∀ w', Kept W1 w' none → w'.cell? ⟨w.heap.size, 4, none⟩ = some (.slice X.p S.phases.length X.pc) := fun w' q => (HSB.out.kept q).c4
  have s5_ : ∀ w', Kept W1 w' none → w'.cell? ⟨w.heap.size, 5, none⟩ = some (.slice X.e S.eyes.length X.ec) := fun w' q => (HSB.out.kept q).c5
  have s6_ : ∀ w', Kept W1 w' none → w'.cell? ⟨w.heap.size, 6, none⟩ = some (.int .i64 S.watch) := fun w' q => (HSB.out.kept q).c6
  have s7_ : ∀ w', Kept W1 w' none → w'.cell? ⟨w.heap.size, 7, none⟩ = some (.int .i64 S.feed) := fun w' q => (HSB.out.kept q).c7
  have s8_ : ∀ w', Kept W1 w' none → w'.cell? ⟨w.heap.size, 8, none⟩ = some (.int .i64 S.heal) := fun w' q => (HSB.out.kept q).c8
  have s9_ : ∀ w', Kept W1 w' none → w'.cell? ⟨w.heap.size, 9, none⟩ = some (.int .i64 S.low) := fun w' q => (HSB.out.kept q).c9
  have s10_ : ∀ w', Kept W1 w' none → w'.cell? ⟨w.heap.size, 10, none⟩ = some (.int .i64 S.high) := fun w' q => (HSB.out.kept q).c10
  have s11_ : ∀ w', Kept W1 w' none → w'.cell? ⟨w.heap.size, 11, none⟩ = some (.slice X.l S.plans.length X.lc) := fun w' q => (HSB.out.kept q).c11
  have HSH := Hid.mk' hSh
  have HNA := Hid.mk' hna
  have HEND := Hid.mk' (fun m (hm : IsMost (metP S S.groups.length 0) m) => met_worst hs hm)
  clear h k1 hsb hna hSh hs
  go_enter Tryd.func58, Tryd.ntmps58
  go_wp2_with (rw [hW1])
  go_loopw [3, 4, 5] (fun c i _ wr => ∃ k : Nat, k ≤ S.groups.length ∧ i = .int .i64 k ∧ Kept W1 wr none ∧ ∃ m : Int, c = .int .i64 m ∧ IsMost (metP S k 0) m) (fun _ i _ _ => S.groups.length - (intOf i).toNat)
  case atStart => exact ⟨0, by omega, rfl, Kept.refl _ _, 0, rfl, IsMost.none.congr (fun x => ⟨fun h => h.elim, fun ⟨a, b, _, h2, _⟩ => by omega⟩)⟩
  case round =>
    obtain ⟨k, hk, rfl, hkw, m, rfl, hm⟩ := hrel
    have HM := Hid.mk' hm
    clear hm
    by_cases hlt : k < S.groups.length
    · go_wp2
      obtain ⟨wo, hwo⟩ : ∃ wo, wo = wr := ⟨_, rfl⟩
      subst hwo
      go_loopw [3, 5] (fun c i wr => ∃ q : Nat, q ≤ S.groups.length ∧ i = .int .i64 q ∧ Kept W1 wr none ∧ ∃ m : Int, c = .int .i64 m ∧ IsMost (metP S k q) m) (fun _ i _ => S.groups.length - (intOf i).toNat)
      case atStart => exact ⟨0, by omega, rfl, hkw, m, rfl, HM.out⟩
      case round =>
        obtain ⟨q, hq, rfl, hkr, m2, rfl, hm2⟩ := hrel
        by_cases hql : q < S.groups.length
        · have HAP := Hid.mk' (fun w' (qq : Kept W1 w' none) => rap8_any (HSB.out.sat.kept qq) k q (by have := HNA.out; omega) (by omega))
          have HBT := Hid.mk' (fun w' (qq : Kept W1 w' none) => rbt8_any (HSB.out.sat.kept qq) HSH.out hlt hql)
          have HSAME : Hid ((S.ap k).testBit q = false → IsMost (metP S k (q + 1)) m2) := fun h => met_same hm2 h
          have HMORE : Hid ((S.ap k).testBit q = true → IsMost (metP S k (q + 1)) (max m2 (S.bt k q))) := fun h => met_more hm2 hql h
          clear hm2
          generalize S.bt k q = v at *
          generalize (S.ap k).testBit q = t at *
          cases t with
          | false =>
            go_wp2_with (go_at_call 56; refine (HAP.out _ hkr).mono ?_; rintro e wA ⟨rfl, hkA⟩)
            go_roundw
            case rel => exact ⟨q + 1, by omega, by go_num, hkr.tr hkA, m2, rfl, HSAME.out (by simp)⟩
            case measure => simp [intOf]; omega
          | true =>
            by_cases hv : m2 < v
            · have HMX : Hid (max m2 v = v) := by show _ = _; omega
              go_wp2_with (first
                | (have hgo := hkC; clear hgo; go_at_call 57; refine (HBT.out _ hkC).mono ?_; rintro e wD ⟨rfl, hqD⟩; have hkD : Kept W1 wD none := hkC.tr hqD)
                | (have hgo := hkA; clear hgo; go_at_call 57; refine (HBT.out _ hkA).mono ?_; rintro e wC ⟨rfl, hqC⟩; have hkC : Kept W1 wC none := hkA.tr hqC)
                | (go_at_call 56; refine (HAP.out _ hkr).mono ?_; rintro e wA ⟨rfl, hqA⟩; have hkA : Kept W1 wA none := hkr.tr hqA))
              go_roundw
              case rel => exact ⟨q + 1, by omega, by go_num, hkD, v, rfl, by have := HMORE.out (by simp); rwa [HMX.out] at this⟩
              case measure => simp [intOf]; omega
            · have HMX : Hid (max m2 v = m2) := by show _ = _; omega
              have hvb : decide (m2 < v) = false := by simp; omega
              go_wp2_with (first
                | (have hgo := hkA; clear hgo; go_at_call 57; refine (HBT.out _ hkA).mono ?_; rintro e wC ⟨rfl, hqC⟩; have hkC : Kept W1 wC none := hkA.tr hqC)
                | (go_at_call 56; refine (HAP.out _ hkr).mono ?_; rintro e wA ⟨rfl, hqA⟩; have hkA : Kept W1 wA none := hkr.tr hqA))
              go_roundw
              case rel => exact ⟨q + 1, by omega, by go_num, hkC, m2, rfl, by have := HMORE.out (by simp); rwa [HMX.out] at this⟩
              case measure => simp [intOf]; omega
        · have e : q = S.groups.length := by omega
          subst e
          have HM2 := Hid.mk' (met_next hm2)
          clear hm2
          go_wp2
          go_roundw
          case rel => exact ⟨k + 1, by omega, by go_num, hkr, m2, rfl, HM2.out⟩
          case measure => simp [intOf]; omega
    · have e : k = S.groups.length := by omega
      subst e
      have HE := Hid.mk' (HEND.out m HM.out)
      go_wp2
      go_ret
      exact ⟨by rw [← HE.out]; rfl, HK.out.tr hkw⟩

end Go.Proofs.YtkbhcpgdhbfhnaaDoor

