/-
  Texts joined: some of those that the proofs of this seat stand on.
-/
import Derived.Test.YtkgimccffggfdaaDoorFitsJ
/-
  THE CONTRACTS of what a site is asked: Apart, Between, Worst, Clear, Plan.
-/
namespace Go.Proofs.YtkgimccffggfdaaDoor
open Go.RowKit Go.Lib Go.Deep
set_option linter.unusedVariables false
set_option linter.unusedSimpArgs false

theorem all_of {S : St} (h : siteB S = true) : ∀ j, j < 10 → ∀ i, i < manyN S (ofN j) → condB S j i = true := fun j hj => by
  rw [siteB_eq] at h
  exact allB_iff.1 (allB_iff.1 h j hj)
theorem span_may {S : St} (h : siteB S = true) : Span S := span_of (fun j hj => all_of h j (by omega))
theorem checkE_yes {S : St} (h : siteB S = true) : checkE S = 0 := by unfold checkE; rw [if_pos h]
theorem checkE_no {S : St} (h : siteB S = false) : checkE S = 50 := by unfold checkE; rw [if_neg (by rw [h]; decide)]
def pairE (S : St) (a b : Int) (n : Nat) : Int := if siteB S = true then (if (inB a 0 ((n : Int) - 1) && inB b 0 ((n : Int) - 1)) = true then 0 else 2) else 50
theorem pairE_yes {S : St} (hs : siteB S = true) {a b n : Nat} (ha : a < n) (hb : b < n) : pairE S a b n = 0 := by
  unfold pairE
  rw [if_pos hs, if_pos]
  rw [Bool.and_eq_true, inB_iff, inB_iff]
  omega
theorem pairE_no {S : St} {a b : Int} {n : Nat} (hE : pairE S a b n = 0) : siteB S = true ∧ (∃ a' : Nat, a = a' ∧ a' < n) ∧ (∃ b' : Nat, b = b' ∧ b' < n) := by
  unfold pairE at hE
  split at hE
  · rename_i hs
    split at hE
    · rename_i hp
      rw [Bool.and_eq_true, inB_iff, inB_iff] at hp
      exact ⟨hs, ⟨a.toNat, by omega, by omega⟩, ⟨b.toNat, by omega, by omega⟩⟩
    · cases hE
  · cases hE
end Go.Proofs.YtkgimccffggfdaaDoor

/-
  THE CONTRACTS of Worst and Plan.
-/
namespace Go.Proofs.YtkgimccffggfdaaDoor
open Go.RowKit Go.Lib Go.Deep
set_option linter.unusedVariables false
set_option linter.unusedSimpArgs false

/-- The greatest of a list that has some. -/
def topL : List Int → Int
  | [] => 0
  | x :: l => l.foldl max x
theorem fold_max (l : List Int) : ∀ x, l.foldl max x = max x (l.foldl max x) ∧ (l.foldl max x = x ∨ l.foldl max x ∈ l) ∧ ∀ y ∈ l, y ≤ l.foldl max x := by
  induction l with
  | nil => intro x; simp
  | cons y l ih =>
    intro x
    obtain ⟨h1, h2, h3⟩ := ih (max x y)
    rw [List.foldl_cons]
    refine ⟨by omega, ?_, fun z hz => ?_⟩
    · rcases h2 with h2 | h2
      · rw [h2]
        rcases (show max x y = x ∨ max x y = y by omega) with e | e
        · exact .inl e
        · rw [e]; exact .inr (List.mem_cons_self ..)
      · exact .inr (List.mem_cons_of_mem _ h2)
    · rcases List.mem_cons.1 hz with rfl | hz
      · omega
      · exact h3 z hz
theorem topL_mem {l : List Int} (h : l ≠ []) : topL l ∈ l ∧ ∀ y ∈ l, y ≤ topL l := by
  cases l with
  | nil => exact absurd rfl h
  | cons x l =>
    obtain ⟨h1, h2, h3⟩ := fold_max l x
    show l.foldl max x ∈ x :: l ∧ _
    refine ⟨?_, fun y hy => ?_⟩
    · rcases h2 with h2 | h2
      · rw [h2]; exact List.mem_cons_self ..
      · exact List.mem_cons_of_mem _ h2
    · show y ≤ l.foldl max x
      rcases List.mem_cons.1 hy with rfl | hy
      · omega
      · exact h3 y hy
theorem fold_take {l : List Int} {x : Int} {k : Nat} (h : k < l.length) : (l.take (k + 1)).foldl max x = max ((l.take k).foldl max x) (l.getD k 0) := by
  rw [List.take_succ_eq_append_getElem h, List.foldl_append]
  simp [h]
set_option maxRecDepth 100000 in
set_option maxHeartbeats 1000000 in
theorem max_any {a : Option Addr} {n c : Nat} {l : List Int} {w : World} (hI : Ints w a n c l) (hn : 0 < n) : Calls Tryd.prog 91 #[.slice a n c] w fun e w' => e = .returned (.int .i64 (topL l)) ∧ w' = w := by
  obtain ⟨b, off, rfl, hb, hc⟩ := hI.at_ hn
  have hl := hI.size
  have hm : n ≤ 9223372036854775807 := by have := hI.cap.room; have := hI.cap.max; omega
  obtain ⟨x, t, rfl⟩ : ∃ x t, l = x :: t := by
    cases l with
    | nil => simp at hl; omega
    | cons x t => exact ⟨x, t, rfl⟩
  have c0 := hc 0 hn
  have HC := Hid.mk' hc
  have HL : Hid (t.length + 1 = n) := by show t.length + 1 = n; simpa using hl
  have e0 : (x :: t).getD 0 0 = x := rfl
  rw [e0, Nat.add_zero] at c0
  clear hc hl hI e0
  go_enter Tryd.func91, Tryd.ntmps91
  go_wp2
  go_loop [3, 4] (fun m i => ∃ k : Nat, k + 1 ≤ n ∧ i = .int .i64 ((k + 1 : Nat) : Int) ∧ m = .int .i64 ((t.take k).foldl max x)) (fun _ i => n - (intOf i).toNat)
  case atStart => exact ⟨0, by omega, rfl, rfl⟩
  case round =>
    obtain ⟨k, hk, rfl, rfl⟩ := hrel
    by_cases hlt : k + 1 < n
    · have kc := HC.out (k + 1) hlt
      have e1 : (x :: t).getD (k + 1) 0 = t.getD k 0 := by simp
      rw [e1] at kc
      have hkt : k < t.length := by have := HL.out; omega
      have hf := fold_take (x := x) hkt
      have HF := Hid.mk' hf
      clear hf e1
      generalize t.getD k 0 = v at *
      generalize (t.take k).foldl max x = M at *
      go_wp2
      exact ⟨⟨k + 1, by omega, by go_num, by rw [HF.out, ← max_if]⟩, by simp [intOf]; omega⟩
    · have hkk : t.take k = t := List.take_of_length_le (by have := HL.out; omega)
      have HK : Hid (topL (x :: t) = (t.take k).foldl max x) := by show topL (x :: t) = _; rw [hkk]; rfl
      clear hkk
      generalize (t.take k).foldl max x = M at *
      go_wp2
      go_ret
      exact ⟨by rw [HK.out]; rfl, rfl⟩

def worstM (S : St) : Int := mostL S.between.flatten
theorem worst_fold {S : St} (h : ∀ l ∈ S.between, l ≠ []) : mostL (S.between.map topL) = worstM S := by
  have h1 := mostL_is (S.between.map topL)
  have h2 := mostL_is S.between.flatten
  have a1 : mostL (S.between.map topL) ≤ worstM S := h1.le h2.1 (fun x hx => by
    simp only [List.mem_map] at hx
    obtain ⟨l, hl, rfl⟩ := hx
    exact h2.2.2 _ (List.mem_flatten.2 ⟨l, hl, (topL_mem (h l hl)).1⟩))
  have a2 : worstM S ≤ mostL (S.between.map topL) := h2.le h1.1 (fun x hx => by
    obtain ⟨l, hl, hx⟩ := List.mem_flatten.1 hx
    have h3 := (topL_mem (h l hl)).2 x hx
    have h4 := h1.2.2 (topL l) (List.mem_map.2 ⟨l, hl, rfl⟩)
    omega)
  omega
set_option maxRecDepth 100000 in
set_option maxHeartbeats 1000000 in
theorem worst_no {X : Sa} {S : St} {w : World} (h : Sat w X S) (hT : Tabb w) (hs : siteB S = false) : Calls Tryd.prog 62 #[siteV X S] w fun e w' => e = .returned (.tuple #[.int .i64 0, .int .i64 50]) ∧ Kept w w' none := by
  have hkA : Kept w (w.alloc (.cells #[.int .i64 S.id, .slice X.g S.groups.length X.gc, .slice X.a S.apart.length X.ac, .slice X.b S.between.length X.bc, .slice X.p S.phases.length X.pc, .slice X.e S.eyes.length X.ec, .int .i64 S.watch, .int .i64 S.feed, .int .i64 S.heal, .int .i64 S.low, .int .i64 S.high, .slice X.l S.plans.length X.lc] 37)) none := Kept.alloc _ _ _ _ _
  have hsb := sbox_alloc h 37
  have HSB := Hid.mk' hsb
  have HK := Hid.mk' hkA
  have HS := Hid.mk' (h.kept hkA)
  have HT := Hid.mk' (hT.kept hkA)
  have hce := checkE_no hs
  clear h hT hkA hsb
  go_enter Tryd.func62, Tryd.ntmps62
  go_wp2_with (go_at_call 22; refine (check_any HS.out HT.out).mono ?_; rintro e w2 ⟨rfl, hk2⟩; rw [hce])
  go_ret2
  exact ⟨rfl, HK.out.tr hk2⟩
set_option maxRecDepth 100000 in
set_option maxHeartbeats 1000000 in
theorem worst_yes {X : Sa} {S : St} {w : World} (h : Sat w X S) (hT : Tabb w) (hs : siteB S = true) : Calls Tryd.prog 62 #[siteV X S] w fun e w' => e = .returned (.tuple #[.int .i64 (worstM S), .int .i64 0]) ∧ Kept w w' none := by
  have hkA : Kept w (w.alloc (.cells #[.int .i64 S.id, .slice X.g S.groups.length X.gc, .slice X.a S.apart.length X.ac, .slice X.b S.between.length X.bc, .slice X.p S.phases.length X.pc, .slice X.e S.eyes.length X.ec, .int .i64 S.watch, .int .i64 S.feed, .int .i64 S.heal, .int .i64 S.low, .int .i64 S.high, .slice X.l S.plans.length X.lc] 37)) none := Kept.alloc _ _ _ _ _
  have hsb := sbox_alloc h 37
  have HSB := Hid.mk' hsb
  have HK := Hid.mk' hkA
  have HS := Hid.mk' (h.kept hkA)
  have HT := Hid.mk' (hT.kept hkA)
  have hce := checkE_yes hs
  have hSp := span_may hs
  have hO := hSp.base.sh.ok
  have hb16 : S.between.length ≤ 16 := by have := hO.nb; have := hO.ng; omega
  have hrow : ∀ a, a < S.between.length → 0 < (S.between.getD a []).length := fun a ha => by
    have h1 := hO.nb
    have h2 := hSp.base.sh.row a (by omega)
    have h3 := hO.ng
    omega
  have HROW := Hid.mk' hrow
  have HWF : Hid (mostL (S.between.map topL) = worstM S) := worst_fold (fun l hl => by
    obtain ⟨i, hi, rfl⟩ := List.getElem_of_mem hl
    intro e
    have := hrow i hi
    have e2 : S.between.getD i [] = S.between[i] := by simp [hi]
    rw [e2, e] at this
    simp at this)
  clear h hT hkA hsb hSp hO hrow
  go_enter Tryd.func62, Tryd.ntmps62
  go_wp2_with (go_at_call 22; refine (check_any HS.out HT.out).mono ?_; rintro e w2 ⟨rfl, hk2⟩; rw [hce]; have c3 := (HSB.out.kept hk2).c3)
  have HSB2 := Hid.mk' (HSB.out.kept hk2)
  clear c3
  go_loop [5, 16] (fun m i => ∃ k : Nat, k ≤ S.between.length ∧ i = .int .i64 k ∧ m = .int .i64 (mostL ((S.between.take k).map topL))) (fun _ i => S.between.length - (intOf i).toNat)
  case atStart => exact ⟨0, by omega, rfl, by simp [mostL]⟩
  case round =>
    obtain ⟨k, hk, rfl, rfl⟩ := hrel
    by_cases hlt : k < S.between.length
    · obtain ⟨b, off, a', c', e, kb, hI⟩ := HSB2.out.sat.b.at_ hlt
      have hpos := HROW.out k hlt
      have hst : mostL ((S.between.take (k + 1)).map topL) = max (mostL ((S.between.take k).map topL)) (topL (S.between.getD k [])) := by
        rw [List.take_succ_eq_append_getElem hlt, List.map_append, List.map_singleton, mostL_snoc]
        simp [hlt]
      have HST := Hid.mk' hst
      have HI := Hid.mk' hI
      have HE := Hid.mk' e
      clear hst hI
      generalize S.between.getD k [] = L at *
      generalize mostL ((S.between.take k).map topL) = M at *
      rw [e]
      clear e
      go_wp2_with (go_at_call 91; refine (max_any HI.out hpos).mono ?_; rintro e w3 ⟨rfl, rfl⟩)
      exact ⟨⟨k + 1, by omega, by go_num, by rw [HST.out, ← max_if]⟩, by simp [intOf]; omega⟩
    · have hkk : S.between.take k = S.between := List.take_of_length_le (by omega)
      have HM : Hid (worstM S = mostL ((S.between.take k).map topL)) := by show worstM S = _; rw [hkk]; exact HWF.out.symm
      clear hkk
      generalize mostL ((S.between.take k).map topL) = M at *
      go_wp2
      go_ret2
      exact ⟨by rw [HM.out]; rfl, HK.out.tr hk2⟩
end Go.Proofs.YtkgimccffggfdaaDoor

