/-
  Of the text Whole: what this stage needs (culled by a program).
-/
import Derived.Test.YtnmfigcemknjbaaWorld
import Derived.Test.YtnmfigcemknjbaaJoin
import Derived.Test.YtnmfigcemknjbaaSGrow
namespace Go.Proofs.Ytnmfigcemknjbaa
open Go.RowKit Go.Lib Go.Deep
set_option linter.unusedVariables false
set_option linter.unusedSimpArgs false

/-- A plan's numbers; those of plans. -/
def plI (p : Pl) : List Int := p.cycle :: p.offset :: (p.splits.length : Int) :: p.splits
def plansI (l : List Pl) : List Int := (l.length : Int) :: l.flatMap plI
/-- Plans whose numbers can be written. -/
structure Wok (l : List Pl) : Prop where
  many : l.length ≤ 8
  one : ∀ p ∈ l, 0 ≤ p.cycle ∧ 0 ≤ p.offset ∧ p.splits.length ≤ 8 ∧ ∀ x ∈ p.splits, 0 ≤ x
theorem pl_take {l : List Pl} {k : Nat} (h : k < l.length) : l.take (k + 1) = l.take k ++ [l.getD k q0] := by
  rw [List.take_succ_eq_append_getElem h]; simp [h]
set_option maxRecDepth 100000 in
set_option maxHeartbeats 1000000 in
theorem planBytes_any {w : World} {a : Option Addr} {n c : Nat} {l : List Pl} (hP : Plans w a n c l) (hW : Wok l) :
    Calls Try.prog 61 #[.slice a n c] w fun e w' => ∃ a' c', e = .returned (.slice a' (smlI (plansI l)).length c') ∧ Mine w' w.heap.size a' (smlI (plansI l)).length c' (smlI (plansI l)) ∧ Kept w w' none := by
  have HP := Hid.mk' hP
  have HW := Hid.mk' hW
  have HSZ := Hid.mk' hP.size
  have hn8 : n ≤ 8 := by have := hW.many; have := hP.size; omega
  have hI1 : Ints (w.alloc (.cells #[.int .i64 (n : Int)] 3)) (some ⟨w.heap.size, 0, none⟩) 1 1 [(n : Int)] := ints_of w [(n : Int)] 3 (fun x hx => by simp at hx; omega) (by simp)
  have HI1 := Hid.mk' hI1
  have hs1 : (smlI [(n : Int)]).length ≤ 10 := smlI_len [(n : Int)] (fun x hx => by simp at hx; omega)
  clear hP hW hI1
  go_enter Try.func61, Try.ntmps61
  go_wp2_with (go_at_call 35; refine (wsmall_any w.heap.size (Mine.empty _ _) (by simp) HI1.out (fun _ x hx => by simp [Value.ownBlock]) (by simp) (by omega)).mono ?_; rintro e w1 ⟨a1, c1, rfl, hm1, hk1, hv1⟩)
  have hk1' : Kept w w1 none := (Kept.alloc w _ _ _ _).newRow hk1 (fun i e => by simp [Value.ownBlock] at e)
  have HK1 := Hid.mk' hk1'
  have HM1 := Hid.mk' hm1
  rw [Nat.zero_add] at *
  clear hk1 hm1 hk1' hv1
  go_loopw [3, 12] (fun s i wr => ∃ k : Nat, k ≤ n ∧ i = .int .i64 k ∧ ∃ a1 n1 c1, s = .slice a1 n1 c1 ∧ n1 = (smlI [(n : Int)] ++ smlI ((l.take k).flatMap plI)).length ∧ n1 ≤ 10 + 110 * k ∧ Mine wr w.heap.size a1 n1 c1 (smlI [(n : Int)] ++ smlI ((l.take k).flatMap plI)) ∧ Kept w wr none) (fun _ i _ => n - (intOf i).toNat)
  case atStart => exact ⟨0, Nat.zero_le _, rfl, a1, _, c1, rfl, by simp [smlI], by omega, by simpa [smlI] using HM1.out, HK1.out⟩
  case round =>
    obtain ⟨k, hk, rfl, a2, n2, c2, rfl, hn2, hle, hMi, hkw⟩ := hrel
    have HMI := Hid.mk' hMi
    have HN2 := Hid.mk' hn2
    have HKW := Hid.mk' hkw
    clear hMi hn2
    by_cases hlt : k < n
    · obtain ⟨b, off, a', c', rfl, k0, k1, k2, hI⟩ := (HP.out.kept hkw).at_ hlt
      have hkl : k < l.length := by have := HSZ.out; omega
      have hin : l.getD k q0 ∈ l := getD_mem hkl
      obtain ⟨p0', p1', p2', p3'⟩ := HW.out.one _ hin
      have hrg := HP.out.rng _ hin
      have hst : smlI [(n : Int)] ++ smlI ((l.take (k + 1)).flatMap plI) = smlI [(n : Int)] ++ smlI ((l.take k).flatMap plI) ++ smlI [(l.getD k q0).cycle, (l.getD k q0).offset, ((l.getD k q0).splits.length : Int)] ++ smlI (l.getD k q0).splits := by
        rw [pl_take hkl, List.flatMap_append, smlI_append, List.flatMap_singleton]
        have : plI (l.getD k q0) = [(l.getD k q0).cycle, (l.getD k q0).offset, ((l.getD k q0).splits.length : Int)] ++ (l.getD k q0).splits := rfl
        rw [this, smlI_append, List.append_assoc, List.append_assoc]
      have HST := Hid.mk' hst
      have hIw : 0 < (l.getD k q0).splits.length → ∀ x, a' = some x → x.block < w.heap.size := fun hp x hx => by
        obtain ⟨b2, off2, a2', c2', e2, _, _, k2', hI'⟩ := HP.out.at_ hlt
        injection e2 with e2
        injection e2 with e3 e4
        subst e3 e4
        have h1 := cell_kept0 k2' hkw
        rw [h1] at k2
        injection k2 with k2
        injection k2 with e5 e6 e7
        subst e5 e7
        exact hI'.lt hp x hx
      have HIW := Hid.mk' hIw
      have HI := Hid.mk' hI
      clear hst hI hIw hkw
      generalize l.getD k q0 = p at *
      have hs3 := smlI_len [p.cycle, p.offset, (p.splits.length : Int)] (fun x hx => by
        simp only [List.mem_cons, List.mem_nil_iff, or_false] at hx
        have := hrg.1
        have := hrg.2
        unfold i64B at *
        rcases hx with rfl | rfl | rfl <;> omega)
      have hs4 := smlI_len p.splits (fun x hx => by have := (HI.out.rng x hx).2; omega)
      have hI3 : Ints ((wr.alloc (.cells #[.int .i64 p.cycle, .int .i64 p.offset, .slice a' p.splits.length c'] 94)).alloc (.cells #[.int .i64 p.cycle, .int .i64 p.offset, .int .i64 (p.splits.length : Int)] 3)) (some ⟨(wr.alloc (.cells #[.int .i64 p.cycle, .int .i64 p.offset, .slice a' p.splits.length c'] 94)).heap.size, 0, none⟩) 3 3 [p.cycle, p.offset, (p.splits.length : Int)] := ints_of _ [p.cycle, p.offset, (p.splits.length : Int)] 3 (fun x hx => by
        simp only [List.mem_cons, List.mem_nil_iff, or_false] at hx
        have h1 := hrg.1
        have h2 := hrg.2
        unfold i64B at h1 h2
        rcases hx with rfl | rfl | rfl
        · exact h1
        · exact h2
        · omega) (by simp)
      rw [World.size_alloc] at hI3
      have HI3 := Hid.mk' hI3
      have hkA : Kept wr ((wr.alloc (.cells #[.int .i64 p.cycle, .int .i64 p.offset, .slice a' p.splits.length c'] 94)).alloc (.cells #[.int .i64 p.cycle, .int .i64 p.offset, .int .i64 (p.splits.length : Int)] 3)) none := (Kept.alloc _ _ _ _ _).tr (Kept.alloc _ _ _ _ _)
      have HKA := Hid.mk' hkA
      have c2b : ((wr.alloc (.cells #[.int .i64 p.cycle, .int .i64 p.offset, .slice a' p.splits.length c'] 94)).alloc (.cells #[.int .i64 p.cycle, .int .i64 p.offset, .int .i64 (p.splits.length : Int)] 3)).cell? ⟨wr.heap.size, 2, none⟩ = some (.slice a' p.splits.length c') := cell_kept0 (box3 wr _ _ _ _).2.2 (Kept.alloc _ _ _ _ _)
      have HC2 := Hid.mk' c2b
      have hpos3 : ∀ x ∈ [p.cycle, p.offset, (p.splits.length : Int)], 0 ≤ x := fun x hx => by
        simp only [List.mem_cons, List.mem_nil_iff, or_false] at hx
        rcases hx with rfl | rfl | rfl <;> omega
      have HP3 := Hid.mk' hpos3
      have HP4 := Hid.mk' p3'
      have hs3' : (smlI [p.cycle, p.offset, (p.splits.length : Int)]).length ≤ 30 := hs3
      clear hI3 hkA c2b hpos3 p3' hs3
      have hne3 : 0 < 3 → ∀ x, some (⟨wr.heap.size + 1, 0, none⟩ : Addr) = some x → some x.block ≠ (Value.slice a2 n2 c2).ownBlock := fun _ x hx => by
        injection hx with hx
        subst hx
        exact ne_own HMI.out (.inr (by show wr.heap.size ≤ wr.heap.size + 1; omega))
      have hcall := wsmall_any w.heap.size (HMI.out.kept HKA.out) (by have := HKW.out.size; have := HKA.out.size; omega) HI3.out hne3 HP3.out (by omega)
      have HCALL := Hid.mk' hcall
      have hwr : w.heap.size ≤ wr.heap.size := HKW.out.size
      have hwa : wr.heap.size ≤ ((wr.alloc (.cells #[.int .i64 p.cycle, .int .i64 p.offset, .slice a' p.splits.length c'] 94)).alloc (.cells #[.int .i64 p.cycle, .int .i64 p.offset, .int .i64 (p.splits.length : Int)] 3)).heap.size := HKA.out.size
      clear hcall hne3
      have hown2 := fun i => HMI.out.lt i
      have HOWN2 := Hid.mk' hown2
      clear hown2
      go_wp2_with (first
        | (have hgo := M3; clear hgo; go_at_call 35; refine (wsmall_any w.heap.size M3.out (by have := K3.out.size; omega) ((HI.out.kept HKA.out).keptR K3.out (fun hp x hx => ne_own (HMI.out.kept HKA.out) (.inl (HIW.out hp x hx)))) (fun hp x hx => ne_own M3.out (.inl (HIW.out hp x hx))) HP4.out (by omega)).mono ?_; rintro e w4 ⟨a4, c4, rfl, hm4, hk4, hv4⟩)
        | (go_at_call 35; refine HCALL.out.mono ?_; rintro e w3 ⟨a3, c3, rfl, hm3, hk3, hv3⟩; have M3 := Hid.mk' hm3; have K3 := Hid.mk' hk3; have V3 := Hid.mk' hv3; have cc := cell_keptR HC2.out hk3 (fun e => (by have := HOWN2.out _ e.symm; omega)); clear hm3 hk3 hv3))
      go_roundw
      case rel =>
        refine ⟨k + 1, by omega, by go_num, a4, _, c4, rfl, ?_, ?_, ?_, ?_⟩
        · rw [HST.out, List.length_append, List.length_append, HN2.out]
        · have hs4' : (smlI p.splits).length ≤ 80 := by omega
          omega
        · rw [HST.out]; exact hm4
        · refine ((HKW.out.tr HKA.out).newRow K3.out (fun i e => (HOWN2.out i e).1)).newRow hk4 (fun i e => (M3.out.lt i e).1)
      case measure => simp [intOf]; omega
    · have hkk : l.take k = l := List.take_of_length_le (by have := HSZ.out; omega)
      rw [hkk] at HMI HN2
      have e2 : smlI [(n : Int)] ++ smlI (l.flatMap plI) = smlI (plansI l) := by
        rw [← smlI_append, ← HSZ.out]; rfl
      rw [e2] at HMI HN2
      have e := HN2.out
      subst e
      go_wp2
      go_ret
      exact ⟨a2, c2, rfl, HMI.out, HKW.out⟩

end Go.Proofs.Ytnmfigcemknjbaa
