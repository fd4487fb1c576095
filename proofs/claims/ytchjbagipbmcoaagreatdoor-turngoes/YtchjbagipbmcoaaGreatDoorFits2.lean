/-
  THE CONTRACTS of cyclesHold, fits, planFits.
-/
import Derived.Test.YtchjbagipbmcoaaGreatDoorFits
namespace Go.Proofs.YtchjbagipbmcoaaGreatDoor
open Go.RowKit Go.Lib Go.Deep
set_option linter.unusedVariables false
set_option linter.unusedSimpArgs false

set_option maxRecDepth 100000 in
set_option maxHeartbeats 1000000 in
theorem cycles_any {B : Nat} {X : Sa} {S : St} {w : World} (h : Sbox w B X S) (hT : Tabb w) (hBs : Base S) (z : Int) :
    Calls Tryz.prog 68 #[.pointer (some ⟨B, 0, none⟩), .int .i64 z] w fun e w' => e = .returned (.bool (cyclesB S)) ∧ Kept w w' none := by
  have HB := Hid.mk' h
  have HT := Hid.mk' hT
  have HS := Hid.mk' hBs
  have hp8 := hBs.sh.ok.np
  have c4 := h.c4
  clear h hT hBs
  go_enter Tryz.func68, Tryz.ntmps68
  go_wp2
  go_loopw [5, 12] (fun s i wr => ∃ k : Nat, k ≤ S.phases.length ∧ i = .int .i64 k ∧ s = .int .i64 (roundN S k) ∧ Kept w wr none) (fun _ i _ => S.phases.length - (intOf i).toNat)
  case atStart => exact ⟨0, Nat.zero_le _, rfl, rfl, Kept.refl _ _⟩
  case round =>
    obtain ⟨k, hk, rfl, rfl, hkw⟩ := hrel
    have hr := HS.out.round k hk
    by_cases hlt : k < S.phases.length
    · have hp := HS.out.part hlt
      have HR : Hid (roundN S (k + 1) = roundN S k + partM S k) := rfl
      generalize roundN S k = R at *
      go_wp2_with (go_at_call 93; refine (part_any (HB.out.kept hkw) (HT.out.kept hkw) HS.out k hlt).mono ?_; rintro e w2 ⟨rfl, hk2⟩)
      go_roundw
      case rel => exact ⟨k + 1, by omega, by go_num, by rw [HR.out], hkw.tr hk2⟩
      case measure => simp [intOf]; omega
    · have hkk : k = S.phases.length := by omega
      subst hkk
      have c9 := (HB.out.kept hkw).c9
      have c10 := (HB.out.kept hkw).c10
      have hb0 := block_lt c9
      have HR : Hid (roundM S = roundN S S.phases.length) := rfl
      generalize roundN S S.phases.length = R at *
      cases h1 : inB S.low R 1048576 with
      | false =>
        have HE : Hid (cyclesB S = false) := by show cyclesB S = false; unfold cyclesB; rw [HR.out, h1]; rfl
        go_wp2
        go_quiet ((go_at_call 88; exact Calls.quiet_of_same (within_is _ _ _ _ _ h1)))
        go_wp2
        go_ret
        exact ⟨by rw [HE.out]; rfl, hkw.tr (Kept.drewN _ _ _)⟩
      | true =>
        have HE : Hid (cyclesB S = inB S.high S.low 1048576) := by show cyclesB S = _; unfold cyclesB; rw [HR.out, h1]; rfl
        go_wp2
        go_quiet ((first | (go_at_call_of 88 S.high; exact Calls.quiet_of_same (within_any _ _ _ _)) | (go_at_call 88; exact Calls.quiet_of_same (within_is _ _ _ _ _ h1))))
        go_wp2
        go_ret
        exact ⟨by rw [HE.out]; rfl, hkw.tr (Kept.drewN _ _ _)⟩

theorem drop_getD {l : List Int} {k : Nat} (h : k < l.length) : l.drop k = l.getD k 0 :: l.drop (k + 1) := by
  rw [List.drop_eq_getElem_cons h]; simp [h]
theorem box3 (w : World) (a b c : Value) (t : TypeId) : (w.alloc (.cells #[a, b, c] t)).cell? ⟨w.heap.size, 0, none⟩ = some a ∧ (w.alloc (.cells #[a, b, c] t)).cell? ⟨w.heap.size, 1, none⟩ = some b ∧ (w.alloc (.cells #[a, b, c] t)).cell? ⟨w.heap.size, 2, none⟩ = some c :=
  ⟨by simp [World.cell?_alloc_mark], by simp [World.cell?_alloc_mark], by simp [World.cell?_alloc_mark]⟩
/-- What is asked of Low and High. -/
structure Span (S : St) : Prop where
  base : Base S
  low : 0 ≤ S.low
  high : S.high ≤ 1048576
set_option maxRecDepth 100000 in
set_option maxHeartbeats 2000000 in
theorem fits_any {B : Nat} {X : Sa} {S : St} {w : World} (h : Sbox w B X S) (hT : Tabb w) (hSp : Span S) (p : Pl) (a : Option Addr) (c : Nat) (hI : Ints w a p.splits.length c p.splits) :
    Calls Tryz.prog 94 #[.pointer (some ⟨B, 0, none⟩), planV p a c] w fun e w' => e = .returned (.bool (planB S p)) ∧ Kept w w' none := by
  have HB := Hid.mk' h
  have HT := Hid.mk' hT
  have HS := Hid.mk' hSp
  have HI := Hid.mk' hI
  have hp8 := hSp.base.sh.ok.np
  have hlow := hSp.low
  have hhigh := hSp.high
  have hBl := h.lt
  have c9 := h.c9
  have c10 := h.c10
  have c4 := h.c4
  have hlm : p.splits.length ≤ 9223372036854775807 := by have := hI.cap.room; have := hI.cap.max; omega
  have hkA : Kept w (w.alloc (.cells #[.int .i64 p.cycle, .int .i64 p.offset, .slice a p.splits.length c] 56)) none := Kept.alloc _ _ _ _ _
  have HK := Hid.mk' hkA
  clear h hT hSp hI hkA
  cases h1 : inB p.cycle S.low S.high with
  | false =>
    have HE : Hid (planB S p = false) := by show planB S p = false; unfold planB; rw [h1]; rfl
    go_enter Tryz.func94, Tryz.ntmps94
    go_wp2
    go_quiet ((go_at_call 88; exact Calls.quiet_of_same (within_is _ _ _ _ _ h1)))
    go_wp2
    go_ret
    exact ⟨by rw [HE.out]; rfl, HK.out.tr (Kept.drewN _ _ _)⟩
  | true =>
    have hcy := inB_iff.1 h1
    have hwr : IntKind.i64.wrap (p.cycle - 1) = p.cycle - 1 := wrap_in (by omega) (by omega)
    cases h2 : inB p.offset 0 (p.cycle - 1) with
    | false =>
      have HE : Hid (planB S p = false) := by show planB S p = false; unfold planB; rw [h1, h2]; rfl
      go_enter Tryz.func94, Tryz.ntmps94
      go_wp2
      go_quiet ((first | (go_at_call_of 88 S.low; exact Calls.quiet_of_same (within_is _ _ _ _ _ h1)) | (go_at_call 88; exact Calls.quiet_of_same (within_is _ _ _ _ _ h2))))
      go_wp2
      go_ret
      exact ⟨by rw [HE.out]; rfl, HK.out.tr (Kept.drewN _ _ _)⟩
    | true =>
      by_cases hl : p.splits.length = S.phases.length
      · have h3 : (((p.splits.length : Nat) : Int) != ((S.phases.length : Nat) : Int)) = false := by rw [hl]; simp
        have HE : Hid (planB S p = splitsB S 0 p.splits p.cycle) := by show planB S p = _; unfold planB; rw [h1, h2, decide_eq_true hl]; rfl
        have HL := Hid.mk' hl
        have hl1 : p.splits.length ≤ S.phases.length := by omega
        have hl2 : S.phases.length ≤ p.splits.length := by omega
        clear hl
        obtain ⟨bi, oi, ei, hbi, hci⟩ := HI.out.at_ (by omega)
        subst ei
        have HC := Hid.mk' hci
        clear hci
        go_enter Tryz.func94, Tryz.ntmps94
        go_wp2
        go_quiet ((first | (go_at_call_of 88 S.low; exact Calls.quiet_of_same (within_is _ _ _ _ _ h1)) | (go_at_call 88; exact Calls.quiet_of_same (within_is _ _ _ _ _ h2))))
        go_wp2
        go_loopw [5, 45] (fun s i wr => ∃ (k : Nat) (left : Int), k ≤ p.splits.length ∧ i = .int .i64 k ∧ s = .int .i64 left ∧ 0 ≤ left ∧ left ≤ 1048576 ∧ splitsB S k (p.splits.drop k) left = splitsB S 0 p.splits p.cycle ∧ Kept w wr none) (fun _ i _ => p.splits.length - (intOf i).toNat)
        case atStart => exact ⟨0, p.cycle, Nat.zero_le _, rfl, rfl, by omega, by omega, rfl, HK.out.tr (Kept.drewN _ _ _)⟩
        case round =>
          obtain ⟨k, left, hk, rfl, rfl, hl0, hl1', hsp, hkw⟩ := hrel
          have HSP := Hid.mk' hsp
          clear hsp
          by_cases hlt : k < p.splits.length
          · have hki := cell_kept0 (HC.out k hlt) hkw
            have hp := HS.out.base.part (i := k) (by omega)
            have hst : splitsB S k (p.splits.drop k) left = (inB (p.splits.getD k 0) (partM S k) left && splitsB S (k + 1) (p.splits.drop (k + 1)) (left - p.splits.getD k 0)) := by rw [drop_getD hlt]; rfl
            have HST := Hid.mk' hst
            clear hst
            generalize hv : p.splits.getD k 0 = v at *
            clear hv
            cases h4 : inB v (partM S k) left with
            | true =>
              have hb := inB_iff.1 h4
              go_wp2_with (first | (go_at_call 93; refine (part_any (HB.out.kept hkw) (HT.out.kept hkw) HS.out.base k (by omega)).mono ?_; rintro e w2 ⟨rfl, hk2⟩) | (go_at_call 88; refine (within_is _ _ _ _ _ h4).mono ?_; rintro e w3 ⟨rfl, rfl⟩))
              go_roundw
              case rel => exact ⟨k + 1, left - v, by omega, by go_num, rfl, by omega, by omega, by rw [← HSP.out, HST.out, h4]; rfl, hkw.tr hk2⟩
              case measure => simp [intOf]; omega
            | false =>
              have HF : Hid (planB S p = false) := by show planB S p = false; rw [HE.out, ← HSP.out, HST.out, h4]; rfl
              go_wp2_with (first | (go_at_call 93; refine (part_any (HB.out.kept hkw) (HT.out.kept hkw) HS.out.base k (by omega)).mono ?_; rintro e w2 ⟨rfl, hk2⟩) | (go_at_call 88; refine (within_is _ _ _ _ _ h4).mono ?_; rintro e w3 ⟨rfl, rfl⟩))
              go_ret
              exact ⟨by rw [HF.out]; rfl, hkw.tr hk2⟩
          · have hkk : k = p.splits.length := by omega
            have HF : Hid (planB S p = (left == 0)) := by
              show planB S p = _
              rw [HE.out, ← HSP.out, hkk, List.drop_length]
              show decide (left = 0) = (left == 0)
              rw [Bool.eq_iff_iff]; simp
            go_wp2
            go_ret
            exact ⟨by rw [HF.out]; rfl, hkw⟩
      · have h3 : (((p.splits.length : Nat) : Int) != ((S.phases.length : Nat) : Int)) = true := by rw [bne_iff_ne]; omega
        have HE : Hid (planB S p = false) := by show planB S p = false; unfold planB; rw [h1, h2, decide_eq_false hl]; rfl
        go_enter Tryz.func94, Tryz.ntmps94
        go_wp2
        go_quiet ((first | (go_at_call_of 88 S.low; exact Calls.quiet_of_same (within_is _ _ _ _ _ h1)) | (go_at_call 88; exact Calls.quiet_of_same (within_is _ _ _ _ _ h2))))
        go_wp2
        go_ret
        exact ⟨by rw [HE.out]; rfl, HK.out.tr (Kept.drewN _ _ _)⟩
set_option maxHeartbeats 1000000 in
theorem planFits_any {B : Nat} {X : Sa} {S : St} {w : World} (h : Sbox w B X S) (hT : Tabb w) (hSp : Span S) (i : Nat) (hi : i < S.plans.length) (hl : S.plans.length ≤ 8) :
    Calls Tryz.prog 69 #[.pointer (some ⟨B, 0, none⟩), .int .i64 i] w fun e w' => e = .returned (.bool (planB S (S.pl i))) ∧ Kept w w' none := by
  have HB := Hid.mk' h
  have HT := Hid.mk' hT
  have HS := Hid.mk' hSp
  have c11 := h.c11
  obtain ⟨b, off, a', c', e, k0, k1, k2, hI⟩ := h.sat.l.at_ hi
  rw [e] at c11
  have HP : Hid (S.pl i = S.plans.getD i q0) := rfl
  generalize S.plans.getD i q0 = P at *
  have HI := Hid.mk' hI
  clear h hT hSp hI e
  go_enter Tryz.func69, Tryz.ntmps69
  go_wp2_with (go_at_call 94; refine (fits_any HB.out HT.out HS.out P a' c' HI.out).mono ?_; rintro e w2 ⟨rfl, hk2⟩)
  go_ret
  exact ⟨by rw [HP.out]; rfl, hk2⟩

end Go.Proofs.YtchjbagipbmcoaaGreatDoor
