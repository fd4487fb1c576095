import Derived.Test.YtfhmfanmnhclfaaDoorP7
import Derived.WalkMore
import Derived.Laws.EntriesVeiled
import Derived.Deep.LoopGhost
namespace Go.Proofs.YtfhmfanmnhclfaaDoor
set_option linter.unusedVariables false
set_option linter.unusedSimpArgs false
open Go.RowKit Go.Lib Go.Deep

set_option maxRecDepth 100000 in
set_option maxHeartbeats 1000000 in
theorem cycles_any {B : Nat} {X : Sa} {S : St} {w : World} (h : Sbox w B X S) (hT : Tabb w) (hBs : Base S) (z : Int) :
    Calls Tryd.prog 74 #[.pointer (some ⟨B, 0, none⟩), .int .i64 z] w fun e w' => e = .returned (.bool (cyclesB S)) ∧ Kept w w' none := by
  have HB := Hid.mk' h
  have HT := Hid.mk' hT
  have HS := Hid.mk' hBs
  have hp8 := hBs.sh.ok.np
  have c4 := h.c4
  clear h hT hBs
  go_enter Tryd.func74, Tryd.ntmps74
  go_wp2
  go_loopw [5, 12] (fun s i wr => ∃ k : Nat, k ≤ S.phases.length ∧ i = .int .i64 k ∧ s = .int .i64 (roundN S k) ∧ Kept w wr none) (fun _ i _ => S.phases.length - (intOf i).toNat)
  case atStart => exact ⟨0, Nat.zero_le _, rfl, rfl, Kept.refl _ _⟩
  case round =>
    obtain ⟨k, hk, rfl, rfl, hkw⟩ := hrel
    have hr := HS.out.round k hk
    by_cases hlt : k < S.phases.length
    · have hp := HS.out.part hlt
      have HR : Hid (roundN S (k + 1) = roundN S k + partM S k) := rfl
      generalize roundN S k = R at *
      go_wp2_with (go_at_call 77; refine (part_any (HB.out.kept hkw) (HT.out.kept hkw) HS.out k hlt).mono ?_; rintro e w2 ⟨rfl, hk2⟩)
      go_roundw
      case rel => exact ⟨k + 1, by omega, by go_num, by rw [HR.out], hkw.tr hk2⟩
      case measure => simp [intOf]; omega
    · have hkk : k = S.phases.length := by omega
      subst hkk
      have c9 := (HB.out.kept hkw).c9
      have c10 := (HB.out.kept hkw).c10
      have hb0 := block_lt c9
      have HR : Hid (roundM S = roundN S S.phases.length) := rfl
      generalize roundN S S.phases.length = R at *
      cases h1 : inB S.low R 1048576 with
      | false =>
        have HE : Hid (cyclesB S = false) := by show cyclesB S = false; unfold cyclesB; rw [HR.out, h1]; rfl
        go_wp2
        go_quiet ((go_at_call 76; exact Calls.quiet_of_same (within_is _ _ _ _ _ h1)))
        go_wp2
        go_ret
        exact ⟨by rw [HE.out]; rfl, hkw.tr (Kept.drewN _ _ _)⟩
      | true =>
        have HE : Hid (cyclesB S = inB S.high S.low 1048576) := by show cyclesB S = _; unfold cyclesB; rw [HR.out, h1]; rfl
        go_wp2
        go_quiet ((first | (go_at_call_of 76 S.high; exact Calls.quiet_of_same (within_any _ _ _ _)) | (go_at_call 76; exact Calls.quiet_of_same (within_is _ _ _ _ _ h1))))
        go_wp2
        go_ret
        exact ⟨by rw [HE.out]; rfl, hkw.tr (Kept.drewN _ _ _)⟩

theorem drop_getD {l : List Int} {k : Nat} (h : k < l.length) : l.drop k = l.getD k 0 :: l.drop (k + 1) := by
  rw [List.drop_eq_getElem_cons h]; simp [h]
theorem box3 (w : World) (a b c : Value) (t : TypeId) : (w.alloc (.cells #[a, b, c] t)).cell? ⟨w.heap.size, 0, none⟩ = some a ∧ (w.alloc (.cells #[a, b, c] t)).cell? ⟨w.heap.size, 1, none⟩ = some b ∧ (w.alloc (.cells #[a, b, c] t)).cell? ⟨w.heap.size, 2, none⟩ = some c :=
  ⟨by simp [World.cell?_alloc_mark], by simp [World.cell?_alloc_mark], by simp [World.cell?_alloc_mark]⟩
/-- What is asked of Low and High. -/
structure Span (S : St) : Prop where
  base : Base S
  low : 0 ≤ S.low
  high : S.high ≤ 1048576
set_option maxRecDepth 100000 in
set_option maxHeartbeats 2000000 in
theorem fits_any {B : Nat} {X : Sa} {S : St} {w : World} (h : Sbox w B X S) (hT : Tabb w) (hSp : Span S) (p : Pl) (a : Option Addr) (c : Nat) (hI : Ints w a p.splits.length c p.splits) :
    Calls Tryd.prog 42 #[.pointer (some ⟨B, 0, none⟩), planV p a c] w fun e w' => e = .returned (.bool (planB S p)) ∧ Kept w w' none := by
  have HB := Hid.mk' h
  have HT := Hid.mk' hT
  have HS := Hid.mk' hSp
  have HI := Hid.mk' hI
  have hp8 := hSp.base.sh.ok.np
  have hlow := hSp.low
  have hhigh := hSp.high
  have hBl := h.lt
  have c9 := h.c9
  have c10 := h.c10
  have c4 := h.c4
  have hlm : p.splits.length ≤ 9223372036854775807 := by have := hI.cap.room; have := hI.cap.max; omega
  have hkA : Kept w (w.alloc (.cells #[.int .i64 p.cycle, .int .i64 p.offset, .slice a p.splits.length c] 24)) none := Kept.alloc _ _ _ _ _
  have HK := Hid.mk' hkA
  clear h hT hSp hI hkA
  cases h1 : inB p.cycle S.low S.high with
  | false =>
    have HE : Hid (planB S p = false) := by show planB S p = false; unfold planB; rw [h1]; rfl
    go_enter Tryd.func42, Tryd.ntmps42
    go_wp2
    go_quiet ((go_at_call 76; exact Calls.quiet_of_same (within_is _ _ _ _ _ h1)))
    go_wp2
    go_ret
    exact ⟨by rw [HE.out]; rfl, HK.out.tr (Kept.drewN _ _ _)⟩
  | true =>
    have hcy := inB_iff.1 h1
    have hwr : IntKind.i64.wrap (p.cycle - 1) = p.cycle - 1 := wrap_in (by omega) (by omega)
    cases h2 : inB p.offset 0 (p.cycle - 1) with
    | false =>
      have HE : Hid (planB S p = false) := by show planB S p = false; unfold planB; rw [h1, h2]; rfl
      go_enter Tryd.func42, Tryd.ntmps42
      go_wp2
      go_quiet ((first | (go_at_call_of 76 S.low; exact Calls.quiet_of_same (within_is _ _ _ _ _ h1)) | (go_at_call 76; exact Calls.quiet_of_same (within_is _ _ _ _ _ h2))))
      go_wp2
      go_ret
      exact ⟨by rw [HE.out]; rfl, HK.out.tr (Kept.drewN _ _ _)⟩
    | true =>
      by_cases hl : p.splits.length = S.phases.length
      · have h3 : (((p.splits.length : Nat) : Int) != ((S.phases.length : Nat) : Int)) = false := by rw [hl]; simp
        have HE : Hid (planB S p = splitsB S 0 p.splits p.cycle) := by show planB S p = _; unfold planB; rw [h1, h2, decide_eq_true hl]; rfl
        have HL := Hid.mk' hl
        have hl1 : p.splits.length ≤ S.phases.length := by omega
        have hl2 : S.phases.length ≤ p.splits.length := by omega
        clear hl
        obtain ⟨bi, oi, ei, hbi, hci⟩ := HI.out.at_ (by omega)
        subst ei
        have HC := Hid.mk' hci
        clear hci
        go_enter Tryd.func42, Tryd.ntmps42
        go_wp2
        go_quiet ((first | (go_at_call_of 76 S.low; exact Calls.quiet_of_same (within_is _ _ _ _ _ h1)) | (go_at_call 76; exact Calls.quiet_of_same (within_is _ _ _ _ _ h2))))
        go_wp2
        go_loopw [5, 45] (fun s i wr => ∃ (k : Nat) (left : Int), k ≤ p.splits.length ∧ i = .int .i64 k ∧ s = .int .i64 left ∧ 0 ≤ left ∧ left ≤ 1048576 ∧ splitsB S k (p.splits.drop k) left = splitsB S 0 p.splits p.cycle ∧ Kept w wr none) (fun _ i _ => p.splits.length - (intOf i).toNat)
        case atStart => exact ⟨0, p.cycle, Nat.zero_le _, rfl, rfl, by omega, by omega, rfl, HK.out.tr (Kept.drewN _ _ _)⟩
        case round =>
          obtain ⟨k, left, hk, rfl, rfl, hl0, hl1', hsp, hkw⟩ := hrel
          have HSP := Hid.mk' hsp
          clear hsp
          by_cases hlt : k < p.splits.length
          · have hki := cell_kept0 (HC.out k hlt) hkw
            have hp := HS.out.base.part (i := k) (by omega)
            have hst : splitsB S k (p.splits.drop k) left = (inB (p.splits.getD k 0) (partM S k) left && splitsB S (k + 1) (p.splits.drop (k + 1)) (left - p.splits.getD k 0)) := by rw [drop_getD hlt]; rfl
            have HST := Hid.mk' hst
            clear hst
            generalize hv : p.splits.getD k 0 = v at *
            clear hv
            cases h4 : inB v (partM S k) left with
            | true =>
              have hb := inB_iff.1 h4
              go_wp2_with (first | (go_at_call 77; refine (part_any (HB.out.kept hkw) (HT.out.kept hkw) HS.out.base k (by omega)).mono ?_; rintro e w2 ⟨rfl, hk2⟩) | (go_at_call 76; refine (within_is _ _ _ _ _ h4).mono ?_; rintro e w3 ⟨rfl, rfl⟩))
              go_roundw
              case rel => exact ⟨k + 1, left - v, by omega, by go_num, rfl, by omega, by omega, by rw [← HSP.out, HST.out, h4]; rfl, hkw.tr hk2⟩
              case measure => simp [intOf]; omega
            | false =>
              have HF : Hid (planB S p = false) := by show planB S p = false; rw [HE.out, ← HSP.out, HST.out, h4]; rfl
              go_wp2_with (first | (go_at_call 77; refine (part_any (HB.out.kept hkw) (HT.out.kept hkw) HS.out.base k (by omega)).mono ?_; rintro e w2 ⟨rfl, hk2⟩) | (go_at_call 76; refine (within_is _ _ _ _ _ h4).mono ?_; rintro e w3 ⟨rfl, rfl⟩))
              go_ret
              exact ⟨by rw [HF.out]; rfl, hkw.tr hk2⟩
          · have hkk : k = p.splits.length := by omega
            have HF : Hid (planB S p = (left == 0)) := by
              show planB S p = _
              rw [HE.out, ← HSP.out, hkk, List.drop_length]
              show decide (left = 0) = (left == 0)
              rw [Bool.eq_iff_iff]; simp
            go_wp2
            go_ret
            exact ⟨by rw [HF.out]; rfl, hkw⟩
      · have h3 : (((p.splits.length : Nat) : Int) != ((S.phases.length : Nat) : Int)) = true := by rw [bne_iff_ne]; omega
        have HE : Hid (planB S p = false) := by show planB S p = false; unfold planB; rw [h1, h2, decide_eq_false hl]; rfl
        go_enter Tryd.func42, Tryd.ntmps42
        go_wp2
        go_quiet ((first | (go_at_call_of 76 S.low; exact Calls.quiet_of_same (within_is _ _ _ _ _ h1)) | (go_at_call 76; exact Calls.quiet_of_same (within_is _ _ _ _ _ h2))))
        go_wp2
        go_ret
        exact ⟨by rw [HE.out]; rfl, HK.out.tr (Kept.drewN _ _ _)⟩
set_option maxHeartbeats 1000000 in
theorem planFits_any {B : Nat} {X : Sa} {S : St} {w : World} (h : Sbox w B X S) (hT : Tabb w) (hSp : Span S) (i : Nat) (hi : i < S.plans.length) (hl : S.plans.length ≤ 8) :
    Calls Tryd.prog 75 #[.pointer (some ⟨B, 0, none⟩), .int .i64 i] w fun e w' => e = .returned (.bool (planB S (S.pl i))) ∧ Kept w w' none := by
  have HB := Hid.mk' h
  have HT := Hid.mk' hT
  have HS := Hid.mk' hSp
  have c11 := h.c11
  obtain ⟨b, off, a', c', e, k0, k1, k2, hI⟩ := h.sat.l.at_ hi
  rw [e] at c11
  have HP : Hid (S.pl i = S.plans.getD i q0) := rfl
  generalize S.plans.getD i q0 = P at *
  have HI := Hid.mk' hI
  clear h hT hSp hI e
  go_enter Tryd.func75, Tryd.ntmps75
  go_wp2_with (go_at_call 42; refine (fits_any HB.out HT.out HS.out P a' c' HI.out).mono ?_; rintro e w2 ⟨rfl, hk2⟩)
  go_ret
  exact ⟨by rw [HP.out]; rfl, hk2⟩


/-- Of which part condition k is asked, and which function asks it. -/
def ofN (k : Nat) : Nat := [0, 0, 1, 1, 1, 2, 0, 3, 0, 4].getD k 0
def fnN (k : Nat) : Nat := [66, 67, 68, 69, 70, 71, 72, 73, 74, 75].getD k 0
def manyN (S : St) (o : Nat) : Nat := [1, S.groups.length, S.phases.length, S.eyes.length, S.plans.length].getD o 0
def condB (S : St) (k i : Nat) : Bool := match k with
  | 0 => countsB S
  | 1 => ownB S
  | 2 => groupB S i
  | 3 => apartB S i
  | 4 => betweenB S i
  | 5 => phaseB S i
  | 6 => servedB S
  | 7 => eyeB S i
  | 8 => cyclesB S
  | _ => planB S (S.pl i)
theorem allB_one (b : Bool) : allB 1 (fun _ => b) = b := by simp [allB]
theorem siteB_eq (S : St) : siteB S = allB 10 (fun k => allB (manyN S (ofN k)) (condB S k)) := by
  have : ∀ f : Nat → Bool, allB 10 f = (f 0 && f 1 && f 2 && f 3 && f 4 && f 5 && f 6 && f 7 && f 8 && f 9) := fun f => by
    simp [allB, List.range, List.range.loop, Bool.and_assoc]
  rw [this]
  show siteB S = (allB 1 (fun _ => countsB S) && allB 1 (fun _ => ownB S) && allB S.groups.length (groupB S) && allB S.groups.length (apartB S) && allB S.groups.length (betweenB S) && allB S.phases.length (phaseB S) && allB 1 (fun _ => servedB S) && allB S.eyes.length (eyeB S) && allB 1 (fun _ => cyclesB S) && allB S.plans.length (fun i => planB S (S.pl i)))
  rw [allB_one, allB_one, allB_one, allB_one]
  rfl
/-- What the first conditions tell. -/
theorem okay_of {S : St} (h : ∀ i, i < manyN S (ofN 0) → condB S 0 i = true) : Okay S := counts_iff.1 (h 0 Nat.zero_lt_one)
theorem shape_of {S : St} (h : ∀ j, j < 6 → ∀ i, i < manyN S (ofN j) → condB S j i = true) : Shape S := by
  have hO := okay_of (h 0 (by omega))
  refine ⟨hO, fun a ha => ?_, fun i hi => ?_⟩
  · have h4 : betweenB S a = true := h 4 (by omega) a ha
    unfold betweenB at h4
    simp only [Bool.and_eq_true, decide_eq_true_eq] at h4
    exact h4.1
  · have h5 : phaseB S i = true := h 5 (by omega) i hi
    unfold phaseB at h5
    simp only [Bool.and_eq_true, decide_eq_true_eq] at h5
    exact h5.1.1.1.1.1.1.2
theorem base_of {S : St} (h : ∀ j, j < 6 → ∀ i, i < manyN S (ofN j) → condB S j i = true) : Base S := by
  have hS := shape_of h
  refine ⟨hS, fun i hi => ?_, fun a b ha hb => ?_⟩
  · have h5 : phaseB S i = true := h 5 (by omega) i hi
    unfold phaseB at h5
    simp only [Bool.and_eq_true, decide_eq_true_eq] at h5
    exact ⟨h5.1.1.1.1.2, h5.1.1.2⟩
  · have h4 : betweenB S a = true := h 4 (by omega) a ha
    unfold betweenB at h4
    simp only [Bool.and_eq_true, decide_eq_true_eq] at h4
    have h6 := allB_iff.1 h4.2 b hb
    unfold betB at h6
    split at h6
    · exact (inB_iff.1 h6).2
    · have := of_decide_eq_true h6
      omega
theorem span_of {S : St} (h : ∀ j, j < 9 → ∀ i, i < manyN S (ofN j) → condB S j i = true) : Span S := by
  have hB := base_of (fun j hj => h j (by omega))
  have h8 : cyclesB S = true := h 8 (by omega) 0 Nat.zero_lt_one
  unfold cyclesB at h8
  simp only [Bool.and_eq_true, inB_iff] at h8
  have := hB.round S.phases.length (Nat.le_refl _)
  unfold roundM at h8
  exact ⟨hB, by omega, by omega⟩
theorem kept_drewn {w w' : World} (h : ∃ m, w' = w.drewN m) : Kept w w' none := by
  obtain ⟨m, rfl⟩ := h
  exact Kept.drewN _ _ _
theorem cond_any {B : Nat} {X : Sa} {S : St} {w : World} (h : Sbox w B X S) (hT : Tabb w) : ∀ (k : Nat) (hk : k < 10) (hpre : ∀ j, j < k → ∀ i, i < manyN S (ofN j) → condB S j i = true) (i : Nat) (hi : i < manyN S (ofN k)),
    Calls Tryd.prog (fnN k) #[.pointer (some ⟨B, 0, none⟩), .int .i64 i] w fun e w' => e = .returned (.bool (condB S k i)) ∧ Kept w w' none
  | 0, _, _, i, _ => (counts_any h i).mono fun e w' ⟨h1, h2⟩ => ⟨h1, by rw [h2]; exact Kept.refl _ _⟩
  | 1, _, _, i, _ => (own_any h i).mono fun e w' ⟨h1, h2⟩ => ⟨h1, by rw [h2]; exact Kept.refl _ _⟩
  | 2, _, hp, i, hi => group_any h i hi (okay_of (hp 0 (by omega))).ng.2
  | 3, _, hp, i, hi => (apart_any h i hi (okay_of (hp 0 (by omega)))).mono fun e w' ⟨h1, h2⟩ => ⟨h1, kept_drewn h2⟩
  | 4, _, hp, i, hi => (between_any h i hi (okay_of (hp 0 (by omega)))).mono fun e w' ⟨h1, h2⟩ => ⟨h1, kept_drewn h2⟩
  | 5, _, hp, i, hi => phase_any h hT (okay_of (hp 0 (by omega))) i hi
  | 6, _, hp, i, hi => served_any h i (okay_of (hp 0 (by omega)))
  | 7, _, hp, i, hi => eye_any h i hi (okay_of (hp 0 (by omega)))
  | 8, _, hp, i, hi => cycles_any h hT (base_of (fun j hj => hp j (by omega))) i
  | 9, _, hp, i, hi => planFits_any h hT (span_of (fun j hj => hp j (by omega))) i hi (okay_of (hp 0 (by omega))).nl
  | k + 10, hk, _, _, _ => absurd hk (by omega)
/-- The list of conditions. -/
structure Conds (w : World) (g : Nat) : Prop where
  lt : g < w.heap.size
  of : ∀ k, k < 10 → w.cell? ⟨g, k * 2, none⟩ = some (.int .u8 (ofN k : Int))
  fn : ∀ k, k < 10 → w.cell? ⟨g, k * 2 + 1, none⟩ = some (.func (.func (fnN k)) #[] #[])
theorem Conds.kept {w w' : World} {g : Nat} (h : Conds w g) (q : Kept w w' none) : Conds w' g :=
  ⟨Nat.lt_of_lt_of_le h.lt q.size, fun k hk => cell_kept0 (h.of k hk) q, fun k hk => cell_kept0 (h.fn k hk) q⟩
set_option maxRecDepth 100000 in
set_option maxHeartbeats 1000000 in
theorem conditions_any (w : World) : Calls Tryd.prog 41 #[] w fun e w' => ∃ g, e = .returned (.slice (some ⟨g, 0, none⟩) 10 10) ∧ Conds w' g ∧ Kept w w' none := by
  go_enter Tryd.func41, Tryd.ntmps41
  go_wp2
  go_ret
  refine ⟨w.heap.size, rfl, ⟨by simp, fun k hk => ?_, fun k hk => ?_⟩, Kept.alloc _ _ _ _ _⟩
  · have : k = 0 ∨ k = 1 ∨ k = 2 ∨ k = 3 ∨ k = 4 ∨ k = 5 ∨ k = 6 ∨ k = 7 ∨ k = 8 ∨ k = 9 := by omega
    rcases this with rfl | rfl | rfl | rfl | rfl | rfl | rfl | rfl | rfl | rfl <;> simp [World.cell?_alloc_mark, ofN]
  · have : k = 0 ∨ k = 1 ∨ k = 2 ∨ k = 3 ∨ k = 4 ∨ k = 5 ∨ k = 6 ∨ k = 7 ∨ k = 8 ∨ k = 9 := by omega
    rcases this with rfl | rfl | rfl | rfl | rfl | rfl | rfl | rfl | rfl | rfl <;> simp [World.cell?_alloc_mark, fnN]
/-- How many parts there are. -/
structure Manys (w : World) (g : Nat) (S : St) : Prop where
  at_ : ∀ o, o < 5 → w.cell? ⟨g, o, none⟩ = some (.int .i64 (manyN S o : Int))
theorem Manys.kept {w w' : World} {g : Nat} {S : St} (h : Manys w g S) (q : Kept w w' none) : Manys w' g S := ⟨fun o ho => cell_kept0 (h.at_ o ho) q⟩
theorem ofN_lt (k : Nat) (h : k < 10) : ofN k < 5 := by
  have : k = 0 ∨ k = 1 ∨ k = 2 ∨ k = 3 ∨ k = 4 ∨ k = 5 ∨ k = 6 ∨ k = 7 ∨ k = 8 ∨ k = 9 := by omega
  rcases this with rfl | rfl | rfl | rfl | rfl | rfl | rfl | rfl | rfl | rfl <;> simp [ofN]
theorem manyN_le {X : Sa} {S : St} {w : World} (h : Sat w X S) (o : Nat) : manyN S o ≤ 9223372036854775807 := by
  have h1 := h.gk
  have h2 := h.pk
  have h3 := h.ek
  have h4 := h.l.cap
  have a1 := h1.room
  have b1 := h1.max
  have a2 := h2.room
  have b2 := h2.max
  have a3 := h3.room
  have b3 := h3.max
  have a4 := h4.room
  have b4 := h4.max
  match o with
  | 0 => show 1 ≤ _; omega
  | 1 => show S.groups.length ≤ _; omega
  | 2 => show S.phases.length ≤ _; omega
  | 3 => show S.eyes.length ≤ _; omega
  | 4 => show S.plans.length ≤ _; omega
  | o + 5 => show 0 ≤ _; omega
theorem call_in {P : Program} {f : FuncId} {fn : Func} {c : Code} (hf : P.funcs[f]? = some fn) (hn : (fn.name == "runtime.NumGoroutine") = false) (hb : fn.body = some c) (args : Array Value) (w : World) : (callFunc f args).run P w = .ok (.enter f args) w := by
  have h1 : fn.name ≠ "runtime.NumGoroutine" := by simpa using hn
  simp [callFunc, hf, h1, hb]
theorem enter_n (k : Nat) (hk : k < 10) (args : Array Value) (w : World) : (callFunc (fnN k) args).run Tryd.prog w = .ok (.enter (fnN k) args) w := by
  have : k = 0 ∨ k = 1 ∨ k = 2 ∨ k = 3 ∨ k = 4 ∨ k = 5 ∨ k = 6 ∨ k = 7 ∨ k = 8 ∨ k = 9 := by omega
  rcases this with rfl | rfl | rfl | rfl | rfl | rfl | rfl | rfl | rfl | rfl
  · exact call_in Tryd.func66 (by kernel_rfl) rfl args w
  · exact call_in Tryd.func67 (by kernel_rfl) rfl args w
  · exact call_in Tryd.func68 (by kernel_rfl) rfl args w
  · exact call_in Tryd.func69 (by kernel_rfl) rfl args w
  · exact call_in Tryd.func70 (by kernel_rfl) rfl args w
  · exact call_in Tryd.func71 (by kernel_rfl) rfl args w
  · exact call_in Tryd.func72 (by kernel_rfl) rfl args w
  · exact call_in Tryd.func73 (by kernel_rfl) rfl args w
  · exact call_in Tryd.func74 (by kernel_rfl) rfl args w
  · exact call_in Tryd.func75 (by kernel_rfl) rfl args w
/-- Check's answer. -/
def checkE (S : St) : Int := if siteB S = true then 0 else 50
set_option maxRecDepth 100000 in
set_option maxHeartbeats 2000000 in
theorem check_any {X : Sa} {S : St} {w : World} (h : Sat w X S) (hT : Tabb w) : Calls Tryd.prog 20 #[siteV X S] w fun e w' => e = .returned (.int .i64 (checkE S)) ∧ Kept w w' none := by
  have hsb := sbox_alloc h 35
  have HML := Hid.mk' (manyN_le h)
  have hl0 := HML.out 1
  have hl1 := HML.out 2
  have hl2 := HML.out 3
  have hl3 := HML.out 4
  have hl0' : S.groups.length ≤ 9223372036854775807 := hl0
  have hl1' : S.phases.length ≤ 9223372036854775807 := hl1
  have hl2' : S.eyes.length ≤ 9223372036854775807 := hl2
  have hl3' : S.plans.length ≤ 9223372036854775807 := hl3
  clear hl0 hl1 hl2 hl3
  have HSB := Hid.mk' hsb
  have HT := Hid.mk' hT
  clear h hT hsb
  go_enter Tryd.func20, Tryd.ntmps20
  go_wp2
  go_step3
  go_wp2
  go_step3
  go_wp2_with (go_at_call 41; refine (conditions_any _).mono ?_; rintro e W0 ⟨g, rfl, hC, hk0⟩)
  have hM0 : Manys (((w.alloc (.cells #[.int .i64 S.id, .slice X.g S.groups.length X.gc, .slice X.a S.apart.length X.ac, .slice X.b S.between.length X.bc, .slice X.p S.phases.length X.pc, .slice X.e S.eyes.length X.ec, .int .i64 S.watch, .int .i64 S.feed, .int .i64 S.heal, .int .i64 S.low, .int .i64 S.high, .slice X.l S.plans.length X.lc] 35)).alloc (.cells #[.int .i64 1, .int .i64 (S.groups.length : Int), .int .i64 (S.phases.length : Int), .int .i64 (S.eyes.length : Int), .int .i64 (S.plans.length : Int)] 41))) (w.heap.size + 1) S := by
    refine ⟨fun o ho => ?_⟩
    have : o = 0 ∨ o = 1 ∨ o = 2 ∨ o = 3 ∨ o = 4 := by omega
    rcases this with rfl | rfl | rfl | rfl | rfl <;> go_simp <;> rfl
  have hM := hM0.kept hk0
  have hS := (HSB.out.kept (Kept.alloc _ #[.int .i64 1, .int .i64 (S.groups.length : Int), .int .i64 (S.phases.length : Int), .int .i64 (S.eyes.length : Int), .int .i64 (S.plans.length : Int)] 41 (0, 0) none)).kept hk0
  have hkw : Kept w W0 none := ((Kept.alloc w _ _ _ _).tr (Kept.alloc _ #[.int .i64 1, .int .i64 (S.groups.length : Int), .int .i64 (S.phases.length : Int), .int .i64 (S.eyes.length : Int), .int .i64 (S.plans.length : Int)] 41 (0, 0) none)).tr hk0
  have HM := Hid.mk' hM
  have HS := Hid.mk' hS
  have HC := Hid.mk' hC
  have HKW := Hid.mk' hkw
  clear hM0 hM hS hC hkw hk0
  go_loopw [4, 23] (fun ev i wr => ∃ k : Nat, k ≤ 10 ∧ i = .int .i64 k ∧ ev = .int .i64 0 ∧ (∀ j, j < k → ∀ i, i < manyN S (ofN j) → condB S j i = true) ∧ Kept W0 wr none) (fun _ i _ => 10 - (intOf i).toNat)
  case atStart => exact ⟨0, by omega, rfl, rfl, fun j hj => by omega, Kept.refl _ _⟩
  case round =>
    obtain ⟨k, hk, rfl, rfl, hpre, hkr⟩ := hrel
    have HPRE := Hid.mk' hpre
    clear hpre
    by_cases hlt : k < 10
    · have ko := (HC.out.kept hkr).of k hlt
      have kf := (HC.out.kept hkr).fn k hlt
      have hog := ofN_lt k hlt
      have km := (HM.out.kept hkr).at_ (ofN k) hog
      have hmm := HML.out (ofN k)
      have hbl := block_lt km
      generalize hq : ofN k = q at *
      have HQ := Hid.mk' hq
      clear hq
      generalize hn : manyN S q = n at *
      have HN := Hid.mk' hn
      clear hn
      have hen := enter_n k hlt
      go_wp2
      have hkA : Kept W0 (wr.alloc (.cells #[.int .u8 (q : Int), .func (.func (fnN k)) #[] #[]] 91)) none := hkr.tr (Kept.alloc _ _ _ _ _)
      have cA := World.cell?_alloc_mark wr #[.int .u8 (q : Int), .func (.func (fnN k)) #[] #[]] 91 (0, 0) 1
      generalize hW1 : wr.alloc (.cells #[.int .u8 (q : Int), .func (.func (fnN k)) #[] #[]] 91) = W1 at *
      have hca : W1.cell? ⟨wr.heap.size, 1, none⟩ = some (.func (.func (fnN k)) #[] #[]) := by rw [cA]; rfl
      clear hW1 cA
      go_loopw [4, 31] (fun ev i w2 => ∃ j : Nat, j ≤ n ∧ i = .int .i64 j ∧ ev = .int .i64 0 ∧ (∀ i, i < j → condB S k i = true) ∧ Kept W1 w2 none) (fun _ i _ => n - (intOf i).toNat)
      case atStart => exact ⟨0, Nat.zero_le _, rfl, rfl, fun i hi => by omega, Kept.refl _ _⟩
      case round =>
        obtain ⟨j, hj, rfl, rfl, hin, hk2⟩ := hrel
        have HIN := Hid.mk' hin
        clear hin
        by_cases hjn : j < n
        · have hcb := cell_kept0 hca hk2
          have hkk := hkA.tr hk2
          have hjm : j < manyN S (ofN k) := by rw [HQ.out, HN.out]; exact hjn
          cases hb : condB S k j with
          | true =>
            go_wp2_with (refine (cond_any (HS.out.kept hkk) (HT.out.kept (HKW.out.tr hkk)) k hlt HPRE.out j hjm).mono ?_; rintro e w3 ⟨rfl, hk3⟩; rw [hb])
            go_roundw
            case rel => exact ⟨j + 1, by omega, by go_num, rfl, fun i hi => (by
              by_cases e : i = j
              · subst e; exact hb
              · exact HIN.out i (by omega)), hk2.tr hk3⟩
            case measure => simp [intOf]; omega
          | false =>
            have HE : Hid (checkE S = 50) := by
              show checkE S = 50
              have : siteB S = false := by rw [siteB_eq]; exact allB_no hlt (allB_no hjm hb)
              unfold checkE; rw [this]; rfl
            go_wp2_with (refine (cond_any (HS.out.kept hkk) (HT.out.kept (HKW.out.tr hkk)) k hlt HPRE.out j hjm).mono ?_; rintro e w3 ⟨rfl, hk3⟩; rw [hb])
            try rw [Exit.noGoto_ret]
            go_ret
            exact ⟨by rw [HE.out]; rfl, (HKW.out.tr hkk).tr hk3⟩
        · have hjj : j = n := by omega
          go_wp2
          go_roundw
          case rel => exact ⟨k + 1, by omega, by go_num, rfl, fun j' hj' => (by
            by_cases e : j' = k
            · subst e
              intro i hi
              rw [HQ.out, HN.out] at hi
              exact HIN.out i (by omega)
            · exact HPRE.out j' (by omega)), hkA.tr hk2⟩
          case measure => simp [intOf]; omega
    · have hkk : k = 10 := by omega
      have HE : Hid (checkE S = 0) := by
        show checkE S = 0
        have : siteB S = true := by rw [siteB_eq]; exact allB_iff.2 (fun j hj => allB_iff.2 (HPRE.out j (by omega)))
        unfold checkE; rw [this]; rfl
      go_wp2
      try rw [Exit.noGoto_ret]
      go_ret
      exact ⟨by rw [HE.out]; rfl, HKW.out.tr hkr⟩

end Go.Proofs.YtfhmfanmnhclfaaDoor
