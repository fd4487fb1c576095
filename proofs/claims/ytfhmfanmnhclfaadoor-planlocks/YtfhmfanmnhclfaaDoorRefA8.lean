/-
  Texts joined: some of those that the proofs of this seat stand on.
-/
import Derived.Test.YtfhmfanmnhclfaaDoorSafeHJ
import Derived.Test.YtfhmfanmnhclfaaDoorApartM
/-
  THE DOCUMENT'S OWN small answers of layer 8: Apart, Between, Great, flashes, meet (made by a program).
-/
namespace Go.Proofs.YtfhmfanmnhclfaaDoor
open Go.RowKit Go.Lib Go.Deep
set_option linter.unusedVariables false
set_option linter.unusedSimpArgs false

set_option maxRecDepth 100000 in
set_option maxHeartbeats 2000000 in
theorem rap8_any {X : Sa} {S : St} {w : World} (h : Sat w X S) (a b : Nat) (ha : a < S.apart.length) (hb : b < 32) : Calls Tryd.prog 64 #[siteV X S, .int .i64 (a : Int), .int .i64 (b : Int)] w fun e w' => e = .returned (.bool ((S.ap a).testBit b)) ∧ Kept w w' none := by
  have hbit := has_bit (S.ap a) b (h.apr a)
  have hkA : Kept w (w.alloc (.cells #[.int .i64 S.id, .slice X.g S.groups.length X.gc, .slice X.a S.apart.length X.ac, .slice X.b S.between.length X.bc, .slice X.p S.phases.length X.pc, .slice X.e S.eyes.length X.ec, .int .i64 S.watch, .int .i64 S.feed, .int .i64 S.heal, .int .i64 S.low, .int .i64 S.high, .slice X.l S.plans.length X.lc] 35)) none := Kept.alloc _ _ _ _ _
  have HK := Hid.mk' hkA
  obtain ⟨xg, xgc, xa, xac, xb, xbc, xp, xpc, xe, xec, xl, xlc⟩ := X
  obtain ⟨ba, oa, ea, hca⟩ := h.apAt (n := S.apart.length) (by omega) (by omega)
  dsimp only at ea
  subst ea
  have ka := hca a ha
  have hba := block_lt ka
  have har := h.apr a
  have hak := h.ak.max
  have hal := h.ak.room
  have hbu : ((b : Int) % 18446744073709551616) = (b : Int) := by omega
  clear h hkA hca
  generalize S.ap a = P at *
  have HBIT := Hid.mk' hbit
  clear hbit
  go_enter Tryd.func64, Tryd.ntmps64
  go_wp2
  go_ret
  exact ⟨by rw [← HBIT.out]; rfl, HK.out⟩
set_option maxRecDepth 100000 in
set_option maxHeartbeats 2000000 in
theorem rbt8_any {X : Sa} {S : St} {w : World} (h : Sat w X S) (hSh : Shape S) {a b : Nat} (ha : a < S.groups.length) (hb : b < S.groups.length) : Calls Tryd.prog 65 #[siteV X S, .int .i64 (a : Int), .int .i64 (b : Int)] w fun e w' => e = .returned (.int .i64 (S.bt a b)) ∧ Kept w w' none := by
  have hkA : Kept w (w.alloc (.cells #[.int .i64 S.id, .slice X.g S.groups.length X.gc, .slice X.a S.apart.length X.ac, .slice X.b S.between.length X.bc, .slice X.p S.phases.length X.pc, .slice X.e S.eyes.length X.ec, .int .i64 S.watch, .int .i64 S.feed, .int .i64 S.heal, .int .i64 S.low, .int .i64 S.high, .slice X.l S.plans.length X.lc] 35)) none := Kept.alloc _ _ _ _ _
  have HK := Hid.mk' hkA
  obtain ⟨xg, xgc, xa, xac, xb, xbc, xp, xpc, xe, xec, xl, xlc⟩ := X
  obtain ⟨bb, ob, br, or, c, eb, kb, hcr, kr⟩ := h.btAt hSh ha hb
  dsimp only at eb
  subst eb
  have hab : (a : Int) < (S.between.length : Int) := by have := hSh.ok.nb; omega
  have hbb := block_lt kb
  have hbr := block_lt kr
  have hbc := h.b.cap.room
  clear h hkA hSh
  generalize S.bt a b = v at *
  go_enter Tryd.func65, Tryd.ntmps65
  go_wp2
  go_ret
  exact ⟨rfl, HK.out⟩

/-! ### flashes -/
def cntN (L : List Nat) (x : Nat) : Nat := (L.filter (fun y => y == x)).length
theorem cntN_le (L : List Nat) (x : Nat) : cntN L x ≤ L.length := List.length_filter_le ..
theorem cnt_all {L : List Nat} {x : Nat} : cntN L x = L.length ↔ allIs L x = true := by
  unfold cntN allIs
  rw [List.length_filter_eq_length_iff, List.all_eq_true]
theorem cnt_pos {L : List Nat} {x : Nat} : 0 < cntN L x ↔ hasIt L x = true := by
  unfold cntN hasIt
  rw [List.length_filter_pos_iff, List.any_eq_true]
theorem cnt_take {L : List Nat} {x k : Nat} (h : k < L.length) : cntN (L.take (k + 1)) x = cntN (L.take k) x + (if lg L k = x then 1 else 0) := by
  unfold cntN
  rw [List.take_succ_eq_append_getElem h, List.filter_append, List.length_append]
  have e : lg L k = L[k] := by simp [lg, h]
  rw [e]
  by_cases hh : L[k] = x <;> simp [hh]
/-! ### meet -/
/-! ### Great -/
/-- What is met of the pairs up to group k, and of group k's up to q. -/
def metP (S : St) (k q : Nat) (x : Int) : Prop := ∃ a b, b < S.groups.length ∧ (a < k ∨ a = k ∧ b < q) ∧ (S.ap a).testBit b = true ∧ x = S.bt a b
theorem met_worst {S : St} (hs : siteB S = true) {m : Int} (h : IsMost (metP S S.groups.length 0) m) : m = worstM S := by
  have hK := keeps_may hs
  have hSh := (span_may hs).base.sh
  have hnb := hSh.ok.nb
  refine IsMost.uniq (P := fun x => x ∈ S.between.flatten) ⟨h.1, ?_, fun x hx => ?_⟩ (mostL_is _)
  · rcases h.2.1 with e | ⟨a, b, hb, ha, hap, e⟩
    · exact .inl e
    · right
      have ha' : a < S.groups.length := by omega
      show m ∈ S.between.flatten
      rw [List.mem_flatten]
      have hr := hSh.row a ha'
      refine ⟨S.between.getD a [], getD_mem (by omega), ?_⟩
      rw [e]
      exact getD_mem (by omega)
  · obtain ⟨l, hl, hx⟩ := List.mem_flatten.1 hx
    obtain ⟨a, ha, rfl⟩ := List.getElem_of_mem hl
    obtain ⟨b, hb2, rfl⟩ := List.getElem_of_mem hx
    have hr := hSh.row a (by omega)
    have e : S.between.getD a [] = S.between[a] := by simp [ha]
    rw [e] at hr
    have hbt : S.bt a b = S.between[a][b] := by unfold St.bt; rw [e]; simp [hb2]
    rw [← hbt]
    cases hap : (S.ap a).testBit b with
    | true => exact h.2.2 _ ⟨a, b, by omega, .inl (by omega), hap, rfl⟩
    | false => rw [hK.nil a b (by omega) (by omega) hap]; exact h.1
theorem met_same {S : St} {k q : Nat} {m : Int} (h : IsMost (metP S k q) m) (hq : (S.ap k).testBit q = false) : IsMost (metP S k (q + 1)) m := h.congr (fun x => by
  constructor
  · rintro ⟨a, b, h1, h2, h3, h4⟩
    exact ⟨a, b, h1, by omega, h3, h4⟩
  · rintro ⟨a, b, h1, h2, h3, h4⟩
    refine ⟨a, b, h1, ?_, h3, h4⟩
    rcases h2 with h2 | ⟨rfl, h2⟩
    · exact .inl h2
    · rcases (show b < q ∨ b = q by omega) with h5 | rfl
      · exact .inr ⟨rfl, h5⟩
      · rw [hq] at h3; cases h3)
theorem met_more {S : St} {k q : Nat} {m : Int} (h : IsMost (metP S k q) m) (hl : q < S.groups.length) (hq : (S.ap k).testBit q = true) : IsMost (metP S k (q + 1)) (max m (S.bt k q)) := (h.more (S.bt k q)).congr (fun x => by
  constructor
  · rintro (⟨a, b, h1, h2, h3, h4⟩ | rfl)
    · exact ⟨a, b, h1, by omega, h3, h4⟩
    · exact ⟨k, q, hl, .inr ⟨rfl, by omega⟩, hq, rfl⟩
  · rintro ⟨a, b, h1, h2, h3, h4⟩
    rcases h2 with h2 | ⟨rfl, h2⟩
    · exact .inl ⟨a, b, h1, .inl h2, h3, h4⟩
    · rcases (show b < q ∨ b = q by omega) with h5 | rfl
      · exact .inl ⟨a, b, h1, .inr ⟨rfl, h5⟩, h3, h4⟩
      · exact .inr h4)
theorem met_next {S : St} {k : Nat} {m : Int} (h : IsMost (metP S k S.groups.length) m) : IsMost (metP S (k + 1) 0) m := h.congr (fun x => by
  constructor
  · rintro ⟨a, b, h1, h2, h3, h4⟩
    exact ⟨a, b, h1, by omega, h3, h4⟩
  · rintro ⟨a, b, h1, h2, h3, h4⟩
    exact ⟨a, b, h1, by omega, h3, h4⟩)
end Go.Proofs.YtfhmfanmnhclfaaDoor

