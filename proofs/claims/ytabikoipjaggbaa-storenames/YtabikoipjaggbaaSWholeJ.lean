/-
  Texts joined: some of those that the proofs of this seat stand on.
-/
import Derived.Test.YtabikoipjaggbaaWorld
import Derived.Test.YtabikoipjaggbaaSmallJ
import Derived.Test.YtabikoipjaggbaaSFitsJ
/-
  Of the text Whole: what this stage needs (culled by a program).
-/
namespace Go.Proofs.Ytabikoipjaggbaa
open Go.RowKit Go.Lib Go.Deep
set_option linter.unusedVariables false
set_option linter.unusedSimpArgs false

/-- A plan's numbers; those of plans. -/
def plI (p : Pl) : List Int := p.cycle :: p.offset :: (p.splits.length : Int) :: p.splits
def plansI (l : List Pl) : List Int := (l.length : Int) :: l.flatMap plI
/-- Plans whose numbers can be written. -/
structure Wok (l : List Pl) : Prop where
  many : l.length ≤ 8
  one : ∀ p ∈ l, 0 ≤ p.cycle ∧ 0 ≤ p.offset ∧ p.splits.length ≤ 8 ∧ ∀ x ∈ p.splits, 0 ≤ x
theorem pl_take {l : List Pl} {k : Nat} (h : k < l.length) : l.take (k + 1) = l.take k ++ [l.getD k q0] := by
  rw [List.take_succ_eq_append_getElem h]; simp [h]
set_option maxRecDepth 100000 in
set_option maxHeartbeats 1000000 in
theorem planBytes_any {w : World} {a : Option Addr} {n c : Nat} {l : List Pl} (hP : Plans w a n c l) (hW : Wok l) :
    Calls Try.prog 68 #[.slice a n c] w fun e w' => ∃ a' c', e = .returned (.slice a' (smlI (plansI l)).length c') ∧ Mine w' w.heap.size a' (smlI (plansI l)).length c' (smlI (plansI l)) ∧ Kept w w' none := by
  have HP := Hid.mk' hP
  have HW := Hid.mk' hW
  have HSZ := Hid.mk' hP.size
  have hn8 : n ≤ 8 := by have := hW.many; have := hP.size; omega
  have hI1 : Ints (w.alloc (.cells #[.int .i64 (n : Int)] 3)) (some ⟨w.heap.size, 0, none⟩) 1 1 [(n : Int)] := ints_of w [(n : Int)] 3 (fun x hx => by simp at hx; omega) (by simp)
  have HI1 := Hid.mk' hI1
  have hs1 : (smlI [(n : Int)]).length ≤ 10 := smlI_len [(n : Int)] (fun x hx => by simp at hx; omega)
  clear hP hW hI1
  go_enter Try.func68, Try.ntmps68
  go_wp2_with (go_at_call 88; refine (wsmall_any w.heap.size (Mine.empty _ _) (by simp) HI1.out (fun _ x hx => by simp [Value.ownBlock]) (by simp) (by omega)).mono ?_; rintro e w1 ⟨a1, c1, rfl, hm1, hk1, hv1⟩)
  have hk1' : Kept w w1 none := (Kept.alloc w _ _ _ _).newRow hk1 (fun i e => by simp [Value.ownBlock] at e)
  have HK1 := Hid.mk' hk1'
  have HM1 := Hid.mk' hm1
  rw [Nat.zero_add] at *
  clear hk1 hm1 hk1' hv1
  go_loopw [3, 12] (fun s i wr => ∃ k : Nat, k ≤ n ∧ i = .int .i64 k ∧ ∃ a1 n1 c1, s = .slice a1 n1 c1 ∧ n1 = (smlI [(n : Int)] ++ smlI ((l.take k).flatMap plI)).length ∧ n1 ≤ 10 + 110 * k ∧ Mine wr w.heap.size a1 n1 c1 (smlI [(n : Int)] ++ smlI ((l.take k).flatMap plI)) ∧ Kept w wr none) (fun _ i _ => n - (intOf i).toNat)
  case atStart => exact ⟨0, Nat.zero_le _, rfl, a1, _, c1, rfl, by simp [smlI], by omega, by simpa [smlI] using HM1.out, HK1.out⟩
  case round =>
    obtain ⟨k, hk, rfl, a2, n2, c2, rfl, hn2, hle, hMi, hkw⟩ := hrel
    have HMI := Hid.mk' hMi
    have HN2 := Hid.mk' hn2
    have HKW := Hid.mk' hkw
    clear hMi hn2
    by_cases hlt : k < n
    · obtain ⟨b, off, a', c', rfl, k0, k1, k2, hI⟩ := (HP.out.kept hkw).at_ hlt
      have hkl : k < l.length := by have := HSZ.out; omega
      have hin : l.getD k q0 ∈ l := getD_mem hkl
      obtain ⟨p0', p1', p2', p3'⟩ := HW.out.one _ hin
      have hrg := HP.out.rng _ hin
      have hst : smlI [(n : Int)] ++ smlI ((l.take (k + 1)).flatMap plI) = smlI [(n : Int)] ++ smlI ((l.take k).flatMap plI) ++ smlI [(l.getD k q0).cycle, (l.getD k q0).offset, ((l.getD k q0).splits.length : Int)] ++ smlI (l.getD k q0).splits := by
        rw [pl_take hkl, List.flatMap_append, smlI_append, List.flatMap_singleton]
        have : plI (l.getD k q0) = [(l.getD k q0).cycle, (l.getD k q0).offset, ((l.getD k q0).splits.length : Int)] ++ (l.getD k q0).splits := rfl
        rw [this, smlI_append, List.append_assoc, List.append_assoc]
      have HST := Hid.mk' hst
      have hIw : 0 < (l.getD k q0).splits.length → ∀ x, a' = some x → x.block < w.heap.size := fun hp x hx => by
        obtain ⟨b2, off2, a2', c2', e2, _, _, k2', hI'⟩ := HP.out.at_ hlt
        injection e2 with e2
        injection e2 with e3 e4
        subst e3 e4
        have h1 := cell_kept0 k2' hkw
        rw [h1] at k2
        injection k2 with k2
        injection k2 with e5 e6 e7
        subst e5 e7
        exact hI'.lt hp x hx
      have HIW := Hid.mk' hIw
      have HI := Hid.mk' hI
      clear hst hI hIw hkw
      generalize l.getD k q0 = p at *
      have hs3 := smlI_len [p.cycle, p.offset, (p.splits.length : Int)] (fun x hx => by
        simp only [List.mem_cons, List.mem_nil_iff, or_false] at hx
        have := hrg.1
        have := hrg.2
        unfold i64B at *
        rcases hx with rfl | rfl | rfl <;> omega)
      have hs4 := smlI_len p.splits (fun x hx => by have := (HI.out.rng x hx).2; omega)
      have hI3 : Ints ((wr.alloc (.cells #[.int .i64 p.cycle, .int .i64 p.offset, .slice a' p.splits.length c'] 44)).alloc (.cells #[.int .i64 p.cycle, .int .i64 p.offset, .int .i64 (p.splits.length : Int)] 3)) (some ⟨(wr.alloc (.cells #[.int .i64 p.cycle, .int .i64 p.offset, .slice a' p.splits.length c'] 44)).heap.size, 0, none⟩) 3 3 [p.cycle, p.offset, (p.splits.length : Int)] := ints_of _ [p.cycle, p.offset, (p.splits.length : Int)] 3 (fun x hx => by
        simp only [List.mem_cons, List.mem_nil_iff, or_false] at hx
        have h1 := hrg.1
        have h2 := hrg.2
        unfold i64B at h1 h2
        rcases hx with rfl | rfl | rfl
        · exact h1
        · exact h2
        · omega) (by simp)
      rw [World.size_alloc] at hI3
      have HI3 := Hid.mk' hI3
      have hkA : Kept wr ((wr.alloc (.cells #[.int .i64 p.cycle, .int .i64 p.offset, .slice a' p.splits.length c'] 44)).alloc (.cells #[.int .i64 p.cycle, .int .i64 p.offset, .int .i64 (p.splits.length : Int)] 3)) none := (Kept.alloc _ _ _ _ _).tr (Kept.alloc _ _ _ _ _)
      have HKA := Hid.mk' hkA
      have c2b : ((wr.alloc (.cells #[.int .i64 p.cycle, .int .i64 p.offset, .slice a' p.splits.length c'] 44)).alloc (.cells #[.int .i64 p.cycle, .int .i64 p.offset, .int .i64 (p.splits.length : Int)] 3)).cell? ⟨wr.heap.size, 2, none⟩ = some (.slice a' p.splits.length c') := cell_kept0 (box3 wr _ _ _ _).2.2 (Kept.alloc _ _ _ _ _)
      have HC2 := Hid.mk' c2b
      have hpos3 : ∀ x ∈ [p.cycle, p.offset, (p.splits.length : Int)], 0 ≤ x := fun x hx => by
        simp only [List.mem_cons, List.mem_nil_iff, or_false] at hx
        rcases hx with rfl | rfl | rfl <;> omega
      have HP3 := Hid.mk' hpos3
      have HP4 := Hid.mk' p3'
      have hs3' : (smlI [p.cycle, p.offset, (p.splits.length : Int)]).length ≤ 30 := hs3
      clear hI3 hkA c2b hpos3 p3' hs3
      have hne3 : 0 < 3 → ∀ x, some (⟨wr.heap.size + 1, 0, none⟩ : Addr) = some x → some x.block ≠ (Value.slice a2 n2 c2).ownBlock := fun _ x hx => by
        injection hx with hx
        subst hx
        exact ne_own HMI.out (.inr (by show wr.heap.size ≤ wr.heap.size + 1; omega))
      have hcall := wsmall_any w.heap.size (HMI.out.kept HKA.out) (by have := HKW.out.size; have := HKA.out.size; omega) HI3.out hne3 HP3.out (by omega)
      have HCALL := Hid.mk' hcall
      have hwr : w.heap.size ≤ wr.heap.size := HKW.out.size
      have hwa : wr.heap.size ≤ ((wr.alloc (.cells #[.int .i64 p.cycle, .int .i64 p.offset, .slice a' p.splits.length c'] 44)).alloc (.cells #[.int .i64 p.cycle, .int .i64 p.offset, .int .i64 (p.splits.length : Int)] 3)).heap.size := HKA.out.size
      clear hcall hne3
      have hown2 := fun i => HMI.out.lt i
      have HOWN2 := Hid.mk' hown2
      clear hown2
      go_wp2_with (first
        | (have hgo := M3; clear hgo; go_at_call 88; refine (wsmall_any w.heap.size M3.out (by have := K3.out.size; omega) ((HI.out.kept HKA.out).keptR K3.out (fun hp x hx => ne_own (HMI.out.kept HKA.out) (.inl (HIW.out hp x hx)))) (fun hp x hx => ne_own M3.out (.inl (HIW.out hp x hx))) HP4.out (by omega)).mono ?_; rintro e w4 ⟨a4, c4, rfl, hm4, hk4, hv4⟩)
        | (go_at_call 88; refine HCALL.out.mono ?_; rintro e w3 ⟨a3, c3, rfl, hm3, hk3, hv3⟩; have M3 := Hid.mk' hm3; have K3 := Hid.mk' hk3; have V3 := Hid.mk' hv3; have cc := cell_keptR HC2.out hk3 (fun e => (by have := HOWN2.out _ e.symm; omega)); clear hm3 hk3 hv3))
      go_roundw
      case rel =>
        refine ⟨k + 1, by omega, by go_num, a4, _, c4, rfl, ?_, ?_, ?_, ?_⟩
        · rw [HST.out, List.length_append, List.length_append, HN2.out]
        · have hs4' : (smlI p.splits).length ≤ 80 := by omega
          omega
        · rw [HST.out]; exact hm4
        · refine ((HKW.out.tr HKA.out).newRow K3.out (fun i e => (HOWN2.out i e).1)).newRow hk4 (fun i e => (M3.out.lt i e).1)
      case measure => simp [intOf]; omega
    · have hkk : l.take k = l := List.take_of_length_le (by have := HSZ.out; omega)
      rw [hkk] at HMI HN2
      have e2 : smlI [(n : Int)] ++ smlI (l.flatMap plI) = smlI (plansI l) := by
        rw [← smlI_append, ← HSZ.out]; rfl
      rw [e2] at HMI HN2
      have e := HN2.out
      subst e
      go_wp2
      go_ret
      exact ⟨a2, c2, rfl, HMI.out, HKW.out⟩

end Go.Proofs.Ytabikoipjaggbaa

/-
  Of the text Whole2: what this stage needs (culled by a program).
-/
namespace Go.Proofs.Ytabikoipjaggbaa
open Go.RowKit Go.Lib Go.Deep
set_option linter.unusedVariables false
set_option linter.unusedSimpArgs false

theorem splits_all {l : List Int} : l.all (fun x => inB x 0 1048576) = allB l.length (fun k => inB (l.getD k 0) 0 1048576) := by
  rw [Bool.eq_iff_iff, List.all_eq_true, allB_iff]
  constructor
  · intro h i hi
    exact h _ (getD_mem hi)
  · intro h x hx
    obtain ⟨i, hi, rfl⟩ := List.getElem_of_mem hx
    have := h i hi
    simpa [hi] using this
set_option maxRecDepth 100000 in
set_option maxHeartbeats 1000000 in
theorem mayBe_any {w : World} (p : Pl) (a : Option Addr) (c : Nat) (hI : Ints w a p.splits.length c p.splits) : Calls Try.prog 87 #[planV p a c] w fun e w' => e = .returned (.bool (mayB p)) ∧ Kept w w' none := by
  have HI := Hid.mk' hI
  have hlm : p.splits.length ≤ 9223372036854775807 := by have := hI.cap.room; have := hI.cap.max; omega
  have hkA : Kept w (w.alloc (.cells #[.int .i64 p.cycle, .int .i64 p.offset, .slice a p.splits.length c] 44)) none := Kept.alloc _ _ _ _ _
  have HK := Hid.mk' hkA
  clear hI hkA
  cases h1 : timeB p.cycle with
  | false =>
    have HE : Hid (mayB p = false) := by show mayB p = false; simp [mayB, h1]
    go_enter Try.func87, Try.ntmps87
    go_wp2_with (go_at_call 92; refine (time_is _ _ _ h1).mono ?_; rintro e w2 ⟨rfl, rfl⟩)
    go_ret
    exact ⟨by rw [HE.out]; rfl, HK.out⟩
  | true =>
    have hcy := inB_iff.1 h1
    cases h2 : inB p.offset 0 (p.cycle - 1) with
    | false =>
      have HE : Hid (mayB p = false) := by show mayB p = false; simp [mayB, h1, h2]
      go_enter Try.func87, Try.ntmps87
      go_wp2_with (first | (go_at_call 92; refine (time_is _ _ _ h1).mono ?_; rintro e w2 ⟨rfl, rfl⟩) | (go_at_call 93; refine (within_is _ _ _ _ _ h2).mono ?_; rintro e w2 ⟨rfl, rfl⟩))
      go_ret
      exact ⟨by rw [HE.out]; rfl, HK.out⟩
    | true =>
      cases h3 : inB (p.splits.length : Int) 1 8 with
      | false =>
        have HE : Hid (mayB p = false) := by show mayB p = false; simp [mayB, h1, h2, h3]
        go_enter Try.func87, Try.ntmps87
        go_wp2_with (first | (have hgo := hdone; clear hgo; go_at_call 93; refine (within_is _ _ _ _ _ h3).mono ?_; rintro e w2 ⟨rfl, rfl⟩) | (go_at_call 92; refine (time_is _ _ _ h1).mono ?_; rintro e w2 ⟨rfl, rfl⟩) | (go_at_call 93; refine (within_is _ _ _ _ _ h2).mono ?_; rintro e w2 ⟨rfl, rfl⟩; have hdone := trivial))
        go_ret
        exact ⟨by rw [HE.out]; rfl, HK.out⟩
      | true =>
        have HE : Hid (mayB p = allB p.splits.length (fun k => inB (p.splits.getD k 0) 0 1048576)) := by show mayB p = _; unfold mayB; rw [h1, h2, h3, splits_all]; rfl
        have hl := inB_iff.1 h3
        obtain ⟨bi, oi, ei, hbi, hci⟩ := HI.out.at_ (by omega)
        subst ei
        have HC := Hid.mk' hci
        clear hci
        go_enter Try.func87, Try.ntmps87
        go_wp2_with (first | (have hgo := hdone; clear hgo; go_at_call 93; refine (within_is _ _ _ _ _ h3).mono ?_; rintro e w2 ⟨rfl, rfl⟩) | (go_at_call 92; refine (time_is _ _ _ h1).mono ?_; rintro e w2 ⟨rfl, rfl⟩) | (go_at_call 93; refine (within_is _ _ _ _ _ h2).mono ?_; rintro e w2 ⟨rfl, rfl⟩; have hdone := trivial))
        go_loop [28] (fun i => ∃ k : Nat, k ≤ p.splits.length ∧ i = .int .i64 k ∧ ∀ j, j < k → inB (p.splits.getD j 0) 0 1048576 = true) (fun i => p.splits.length - (intOf i).toNat)
        case atStart => exact ⟨0, Nat.zero_le _, rfl, fun j hj => by omega⟩
        case round =>
          obtain ⟨k, hk, rfl, hall⟩ := hrel
          have HALL := Hid.mk' hall
          clear hall
          by_cases hlt : k < p.splits.length
          · have kc := cell_kept0 (HC.out k hlt) HK.out
            cases h4 : inB (p.splits.getD k 0) 0 1048576 with
            | true =>
              have HALL2 : Hid (∀ j, j < k + 1 → inB (p.splits.getD j 0) 0 1048576 = true) := fun j hj => by
                by_cases e : j = k
                · subst e; exact h4
                · exact HALL.out j (by omega)
              generalize p.splits.getD k 0 = v at *
              go_wp2_with (go_at_call 93; refine (within_is _ _ _ _ _ h4).mono ?_; rintro e w2 ⟨rfl, rfl⟩)
              exact ⟨⟨k + 1, by omega, by go_num, HALL2.out⟩, by simp [intOf]; omega⟩
            | false =>
              have HF : Hid (mayB p = false) := by show mayB p = false; rw [HE.out]; exact allB_no hlt h4
              generalize p.splits.getD k 0 = v at *
              go_wp2_with (go_at_call 93; refine (within_is _ _ _ _ _ h4).mono ?_; rintro e w2 ⟨rfl, rfl⟩)
              go_ret
              exact ⟨by rw [HF.out]; rfl, HK.out⟩
          · have hkk : k = p.splits.length := by omega
            have HF : Hid (mayB p = true) := by show mayB p = true; rw [HE.out]; exact allB_iff.2 (fun j hj => HALL.out j (by omega))
            go_wp2
            go_ret
            exact ⟨by rw [HF.out]; rfl, HK.out⟩
set_option maxRecDepth 100000 in
set_option maxHeartbeats 1000000 in
theorem allMay_any {w : World} {a : Option Addr} {n c : Nat} {l : List Pl} (hP : Plans w a n c l) : Calls Try.prog 67 #[.slice a n c] w fun e w' => e = .returned (.bool (allB n (fun k => mayB (l.getD k q0)))) ∧ Kept w w' none := by
  have HP := Hid.mk' hP
  have hml : n ≤ 9223372036854775807 := by have := hP.cap.room; have := hP.cap.max; omega
  clear hP
  go_enter Try.func67, Try.ntmps67
  go_wp2
  go_loopw [7] (fun i wr => ∃ k : Nat, k ≤ n ∧ i = .int .i64 k ∧ (∀ j, j < k → mayB (l.getD j q0) = true) ∧ Kept w wr none) (fun i _ => n - (intOf i).toNat)
  case atStart => exact ⟨0, Nat.zero_le _, rfl, fun j hj => by omega, Kept.refl _ _⟩
  case round =>
    obtain ⟨k, hk, rfl, hall, hkw⟩ := hrel
    have HALL := Hid.mk' hall
    clear hall
    by_cases hlt : k < n
    · obtain ⟨b, off, a', c', rfl, k0, k1, k2, hI⟩ := (HP.out.kept hkw).at_ hlt
      have hkA : Kept wr (wr.alloc (.cells #[.int .i64 (l.getD k q0).cycle, .int .i64 (l.getD k q0).offset, .slice a' (l.getD k q0).splits.length c'] 44)) none := Kept.alloc _ _ _ _ _
      have HKA := Hid.mk' hkA
      have HI := Hid.mk' (hI.kept hkA)
      clear hI hkA
      cases h4 : mayB (l.getD k q0) with
      | true =>
        have HV := Hid.mk' h4
        have HALL2 : Hid (∀ j, j < k + 1 → mayB (l.getD j q0) = true) := fun j hj => by
          by_cases e : j = k
          · subst e; exact h4
          · exact HALL.out j (by omega)
        generalize l.getD k q0 = p at *
        go_wp2_with (go_at_call 87; refine (mayBe_any p a' c' HI.out).mono ?_; rintro e w2 ⟨rfl, hk2⟩; rw [h4])
        go_roundw
        case rel => exact ⟨k + 1, by omega, by go_num, HALL2.out, (hkw.tr HKA.out).tr hk2⟩
        case measure => simp [intOf]; omega
      | false =>
        have HF : Hid (allB n (fun k => mayB (l.getD k q0)) = false) := allB_no hlt h4
        generalize l.getD k q0 = p at *
        go_wp2_with (go_at_call 87; refine (mayBe_any p a' c' HI.out).mono ?_; rintro e w2 ⟨rfl, hk2⟩; rw [h4])
        go_ret
        exact ⟨by rw [HF.out]; rfl, (hkw.tr HKA.out).tr hk2⟩
    · have HF : Hid (allB n (fun k => mayB (l.getD k q0)) = true) := allB_iff.2 (fun j hj => HALL.out j (by omega))
      go_wp2
      go_ret
      exact ⟨by rw [HF.out]; rfl, hkw⟩

theorem may_parts {p : Pl} (h : mayB p = true) : (1 ≤ p.cycle ∧ p.cycle ≤ 1048576) ∧ (0 ≤ p.offset ∧ p.offset ≤ p.cycle - 1) ∧ (1 ≤ p.splits.length ∧ p.splits.length ≤ 8) ∧ ∀ x ∈ p.splits, 0 ≤ x ∧ x ≤ 1048576 := by
  unfold mayB timeB at h
  simp only [Bool.and_eq_true, inB_iff, List.all_eq_true] at h
  exact ⟨h.1.1.1, h.1.1.2, by omega, h.2⟩
/-- Plans that may be at all. -/
def mayL (l : List Pl) : Bool := allB l.length (fun k => mayB (l.getD k q0))
theorem mayL_iff {l : List Pl} : mayL l = true ↔ ∀ p ∈ l, mayB p = true := by
  unfold mayL
  rw [allB_iff]
  constructor
  · intro h p hp
    obtain ⟨i, hi, rfl⟩ := List.getElem_of_mem hp
    have := h i hi
    simpa [hi] using this
  · intro h i hi
    exact h _ (getD_mem hi)
theorem wok_may {l : List Pl} (h : mayL l = true) (hn : l.length ≤ 8) : Wok l := ⟨hn, fun p hp => by
  obtain ⟨h1, h2, h3, h4⟩ := may_parts (mayL_iff.1 h p hp)
  exact ⟨by omega, by omega, by omega, fun x hx => (h4 x hx).1⟩⟩
def wholeE (l : List Pl) : Int := if 8 < l.length then 4 else if mayL l = true then 0 else 170
def wholeL (l : List Pl) : List Nat := if wholeE l = 0 then smlI (plansI l) else []
set_option maxRecDepth 100000 in
set_option maxHeartbeats 1000000 in
theorem whole_any {w : World} {a : Option Addr} {n c : Nat} {l : List Pl} (hP : Plans w a n c l) : Calls Try.prog 44 #[.slice a n c] w fun e w' => ∃ a' c', e = .returned (.tuple #[.slice a' (wholeL l).length c', .int .i64 (wholeE l)]) ∧ Mine w' w.heap.size a' (wholeL l).length c' (wholeL l) ∧ Kept w w' none := by
  have HP := Hid.mk' hP
  have hsz := hP.size
  have hml : n ≤ 9223372036854775807 := by have := hP.cap.room; have := hP.cap.max; omega
  by_cases h8 : 8 < n
  · have hE : wholeE l = 4 := by unfold wholeE; rw [if_pos (by omega)]
    have hL : wholeL l = [] := by unfold wholeL; rw [hE]; rfl
    rw [hE, hL]
    clear hP hE hL hsz
    go_enter Try.func44, Try.ntmps44
    go_wp2
    go_ret2
    exact ⟨none, 0, rfl, Mine.empty _ _, Kept.refl _ _⟩
  · have hmy : allB n (fun k => mayB (l.getD k q0)) = mayL l := by unfold mayL; rw [hsz]
    cases hm : mayL l with
    | false =>
      have hE : wholeE l = 170 := by unfold wholeE; rw [if_neg (by omega), if_neg (by rw [hm]; decide)]
      have hL : wholeL l = [] := by unfold wholeL; rw [hE]; rfl
      rw [hE, hL]
      have HMY := Hid.mk' (hmy.trans hm)
      clear hP hE hL hsz hmy
      go_enter Try.func44, Try.ntmps44
      go_wp2_with (go_at_call 67; refine (allMay_any HP.out).mono ?_; rintro e w2 ⟨rfl, hk2⟩; rw [HMY.out])
      go_ret2
      exact ⟨none, 0, rfl, Mine.empty _ _, hk2⟩
    | true =>
      have hE : wholeE l = 0 := by unfold wholeE; rw [if_neg (by omega), if_pos hm]
      have hL : wholeL l = smlI (plansI l) := by unfold wholeL; rw [hE]; rfl
      rw [hE, hL]
      have HMY := Hid.mk' (hmy.trans hm)
      have HWk := Hid.mk' (wok_may hm (by omega))
      clear hP hE hL hsz hmy hm
      go_enter Try.func44, Try.ntmps44
      go_wp2_with (first | (go_at_call 67; refine (allMay_any HP.out).mono ?_; rintro e w2 ⟨rfl, hk2⟩; rw [HMY.out]) | (go_at_call 68; refine (planBytes_any (HP.out.kept hk2) HWk.out).mono ?_; rintro e w3 ⟨a3, c3, rfl, hm3, hk3⟩))
      go_ret2
      exact ⟨a3, c3, rfl, ⟨own_lower hm3.own hk2.size, hm3.nil, hm3.room, hm3.max⟩, hk2.tr hk3⟩

end Go.Proofs.Ytabikoipjaggbaa

