/-
  THE CONTRACT of eye.Well (made by a program).
-/
import Derived.Test.YtjfajdmifjbblaaDoorEyeL
namespace Go.Proofs.YtjfajdmifjbblaaDoor
open Go.RowKit Go.Lib Go.Deep
set_option linter.unusedVariables false
set_option linter.unusedSimpArgs false

set_option maxRecDepth 100000 in
set_option maxHeartbeats 2000000 in
theorem ewell_go {X : Sa} {S : St} {w : World} (h : Sat w X S) (hT : Tabb w) {a : Option Addr} {n c : Nat} {L : List Lk} (hA : Lks w a n L) (hc : Cap a n c) (he : allE S L = 0) : Calls Tryd.prog 20 #[siteV X S, .slice a n c] w fun e w' => e = .returned (.tuple #[.bool (welS S L), .int .i64 0]) ∧ Kept w w' none := by
  have HE := Hid.mk' he
  obtain ⟨hs, hl, _⟩ := allE_zero he
  have hle1 : n ≤ S.eyes.length := by rw [← hl]; exact Nat.le_of_eq hA.size.symm
  have HW : Hid (welS S L = decide (wchN (fun i => (S.ey i).phase) n = belN (fun i => (S.ey i).phase) (fun i => !(lk L i).bad) n)) := by
    show _ = _
    rw [wch_eq (phase_bd (eye_facts hs)) n, ← hA.size]
    rfl
  have HP := Hid.mk' (phase_bd (eye_facts hs))
  clear he hs hl
  have hkA : Kept w (w.alloc (.cells #[.int .i64 S.id, .slice X.g S.groups.length X.gc, .slice X.a S.apart.length X.ac, .slice X.b S.between.length X.bc, .slice X.p S.phases.length X.pc, .slice X.e S.eyes.length X.ec, .int .i64 S.watch, .int .i64 S.feed, .int .i64 S.heal, .int .i64 S.low, .int .i64 S.high, .slice X.l S.plans.length X.lc] 29)) none := Kept.alloc _ _ _ _ _
  have hsb := sbox_alloc h 29
  have HS := Hid.mk' (h.kept hkA)
  have HT := Hid.mk' (hT.kept hkA)
  have HA := Hid.mk' (hA.kept hkA)
  have hE9 : S.eyes.length ≤ 9223372036854775807 := by have := h.ek.room; have := h.ek.max; omega
  have hn9 : n ≤ 9223372036854775807 := by have := hc.room; have := hc.max; omega
  have HSZ := Hid.mk' hA.size
  obtain ⟨WA, hWA⟩ : ∃ WA, (w.alloc (.cells #[.int .i64 S.id, .slice X.g S.groups.length X.gc, .slice X.a S.apart.length X.ac, .slice X.b S.between.length X.bc, .slice X.p S.phases.length X.pc, .slice X.e S.eyes.length X.ec, .int .i64 S.watch, .int .i64 S.feed, .int .i64 S.heal, .int .i64 S.low, .int .i64 S.high, .slice X.l S.plans.length X.lc] 29)) = WA := ⟨_, rfl⟩
  rw [hWA] at hkA hsb HS HT HA
  have hlA : w.heap.size < WA.heap.size := hsb.lt
  have HK := Hid.mk' hkA
  have HSB := Hid.mk' hsb
  have hK0 := Kept.refl WA none
  clear h hT hkA hsb hA
  have s0_ : ∀ w', Kept WA w' none → w'.cell? ⟨w.heap.size, 0, none⟩ = some (.int .i64 S.id) := fun w' q => (HSB.out.kept q).c0
  have s1_ : ∀ w', Kept WA w' none → w'.cell? ⟨w.heap.size, 1, none⟩ = some (.slice X.g S.groups.length X.gc) := fun w' q => (HSB.out.kept q).c1
  have s2_ : ∀ w', Kept WA w' none → w'.cell? ⟨w.heap.size, 2, none⟩ = some (.slice X.a S.apart.length X.ac) := fun w' q => (HSB.out.kept q).c2
  have s3_ : ∀ w', Kept WA w' none → w'.cell? ⟨w.heap.size, 3, none⟩ = some (.slice X.b S.between.length X.bc) := fun w' q => (HSB.out.kept q).c3
  have s4_ : ∀ w', Kept WA w' none → w'.cell? ⟨w.heap.size, 4, none⟩ = some (.slice X.p S.phases.length X.pc) := fun w' q => (HSB.out.kept q).c4
  have s5_ : ∀ w', Kept WA w' none → w'.cell? ⟨w.heap.size, 5, none⟩ = some (.slice X.e S.eyes.length X.ec) := fun w' q => (HSB.out.kept q).c5
  have s6_ : ∀ w', Kept WA w' none → w'.cell? ⟨w.heap.size, 6, none⟩ = some (.int .i64 S.watch) := fun w' q => (HSB.out.kept q).c6
  have s7_ : ∀ w', Kept WA w' none → w'.cell? ⟨w.heap.size, 7, none⟩ = some (.int .i64 S.feed) := fun w' q => (HSB.out.kept q).c7
  have s8_ : ∀ w', Kept WA w' none → w'.cell? ⟨w.heap.size, 8, none⟩ = some (.int .i64 S.heal) := fun w' q => (HSB.out.kept q).c8
  have s9_ : ∀ w', Kept WA w' none → w'.cell? ⟨w.heap.size, 9, none⟩ = some (.int .i64 S.low) := fun w' q => (HSB.out.kept q).c9
  have s10_ : ∀ w', Kept WA w' none → w'.cell? ⟨w.heap.size, 10, none⟩ = some (.int .i64 S.high) := fun w' q => (HSB.out.kept q).c10
  have s11_ : ∀ w', Kept WA w' none → w'.cell? ⟨w.heap.size, 11, none⟩ = some (.slice X.l S.plans.length X.lc) := fun w' q => (HSB.out.kept q).c11
  go_enter Tryd.func20, Tryd.ntmps20
  go_wp2_with (first | rw [hWA] | (go_at_call 32; have hx := echk_any (HS.out) (HT.out) HA.out hc; rw [HE.out] at hx; refine hx.mono ?_; rintro e wC ⟨rfl, hkC⟩; have hKC : Kept WA wC none := hkC; clear hx))
  have hW0 : (0 : Int) = ((wchN (fun i => (S.ey i).phase) 0 : Nat) : Int) := rfl
  have hB0 : (0 : Int) = ((belN (fun i => (S.ey i).phase) (fun i => !(lk L i).bad) 0 : Nat) : Int) := rfl
  go_loopw [7, 8, 9, 10, 11, 20] (fun uv vv _ _ _ iv wr => ∃ k : Nat, k ≤ n ∧ iv = .int .i64 k ∧ uv = .int .u32 ((wchN (fun i => (S.ey i).phase) k : Nat) : Int) ∧ vv = .int .u32 ((belN (fun i => (S.ey i).phase) (fun i => !(lk L i).bad) k : Nat) : Int) ∧ Kept WA wr none) (fun _ _ _ _ _ iv _ => n - (intOf iv).toNat)
  case atStart => exact ⟨0, by omega, rfl, rfl, rfl, hKC⟩
  case round =>
    clear hW0 hB0
    obtain ⟨k, hk, rfl, rfl, rfl, hkr⟩ := hrel
    by_cases hlt : k < n
    · obtain ⟨b, off, ea, hb, c0, c1, c2, c3, c4⟩ := (HA.out.kept hkr).at_ hlt
      subst ea
      obtain ⟨eb, eo, ee, heb, y0, y1, y2, y3⟩ := (HS.out.kept hkr).eye (k := k) (by omega)
      have hw9 := wchN_lt (fun i => (S.ey i).phase) k
      have hb9 := belN_lt (fun i => (S.ey i).phase) (fun i => !(lk L i).bad) k
      have HWS : Hid (wchN (fun i => (S.ey i).phase) (k + 1) = withV (wchN (fun i => (S.ey i).phase) k) (S.ey k).phase) := wchN_succ _ _
      have s5 := s5_ wr hkr
      rw [ee] at s5
      clear ee
      have hwl : w.heap.size < wr.heap.size := Nat.lt_of_lt_of_le hlA hkr.size
      have hke : k < S.eyes.length := by omega
      clear y1 y2 y3 s5_
      cases hbd : (lk L k).bad
      · have HBS : Hid (belN (fun i => (S.ey i).phase) (fun i => !(lk L i).bad) (k + 1) = withV (belN (fun i => (S.ey i).phase) (fun i => !(lk L i).bad) k) (S.ey k).phase) := belN_yes (by simp [hbd])
        have HBL : Hid (∀ w', Calls Tryd.prog 34 #[lkV (lk L k)] w' fun e w'' => e = .returned (.bool true) ∧ Kept w' w'' none) := fun w' => by have := believed_any (lk L k) w'; rw [hbd] at this; exact this
        rw [hbd] at c3
        have HBD := Hid.mk' hbd
        clear hbd
        generalize hx : lk L k = x at *
        obtain ⟨x0', x1', x2', x3', x4'⟩ := x
        obtain rfl : x3' = false := HBD.out
        dsimp only at c0 c1 c2 c3 c4
        generalize (S.ey k).phase = P at *
        generalize wchN (fun i => (S.ey i).phase) k = N1 at *
        generalize belN (fun i => (S.ey i).phase) (fun i => !(lk L i).bad) k = N2 at *
        go_wp2_with (first
          | (go_at_call 34; refine (HBL.out _).mono ?_; rintro e wB ⟨rfl, hkB⟩)
          | (have hgo := hkB; clear hgo; go_at_call 33; refine (with_any N2 P _ hb9).mono ?_; rintro e w5 ⟨rfl, rfl⟩)
          | (go_at_call 33; refine (with_any N1 P _ hw9).mono ?_; rintro e w4 ⟨rfl, rfl⟩))
        go_roundw
        case rel => exact ⟨k + 1, by omega, by go_num, by rw [HWS.out], by rw [HBS.out], (hkr.tr (by exact (by (repeat (first | exact Kept.refl _ _ | assumption | (refine Kept.setNew ?_ (by first | omega | (simp <;> omega)) _) | (refine Kept.tr ?_ (Kept.alloc _ _ _ _ _)) | (refine Kept.tr ?_ (Kept.drew _ _))))))).tr hkB⟩
        case measure => simp [intOf]; omega
      · have HBS : Hid (belN (fun i => (S.ey i).phase) (fun i => !(lk L i).bad) (k + 1) = belN (fun i => (S.ey i).phase) (fun i => !(lk L i).bad) k) := belN_no (by simp [hbd])
        have HBL : Hid (∀ w', Calls Tryd.prog 34 #[lkV (lk L k)] w' fun e w'' => e = .returned (.bool false) ∧ Kept w' w'' none) := fun w' => by have := believed_any (lk L k) w'; rw [hbd] at this; exact this
        rw [hbd] at c3
        have HBD := Hid.mk' hbd
        clear hbd
        generalize hx : lk L k = x at *
        obtain ⟨x0', x1', x2', x3', x4'⟩ := x
        obtain rfl : x3' = true := HBD.out
        dsimp only at c0 c1 c2 c3 c4
        generalize (S.ey k).phase = P at *
        generalize wchN (fun i => (S.ey i).phase) k = N1 at *
        generalize belN (fun i => (S.ey i).phase) (fun i => !(lk L i).bad) k = N2 at *
        go_wp2_with (first
          | (go_at_call 34; refine (HBL.out _).mono ?_; rintro e wB ⟨rfl, hkB⟩)
          | (go_at_call 33; refine (with_any N1 P _ hw9).mono ?_; rintro e w4 ⟨rfl, rfl⟩))
        go_roundw
        case rel => exact ⟨k + 1, by omega, by go_num, by rw [HWS.out], by rw [HBS.out], (hkr.tr (by exact (by (repeat (first | exact Kept.refl _ _ | assumption | (refine Kept.setNew ?_ (by first | omega | (simp <;> omega)) _) | (refine Kept.tr ?_ (Kept.alloc _ _ _ _ _)) | (refine Kept.tr ?_ (Kept.drew _ _))))))).tr hkB⟩
        case measure => simp [intOf]; omega
    · obtain rfl : k = n := by omega
      have hw9 := wchN_lt (fun i => (S.ey i).phase) k
      have hb9 := belN_lt (fun i => (S.ey i).phase) (fun i => !(lk L i).bad) k
      generalize wchN (fun i => (S.ey i).phase) k = N1 at *
      generalize belN (fun i => (S.ey i).phase) (fun i => !(lk L i).bad) k = N2 at *
      go_wp2
      go_ret2
      refine ⟨?_, HK.out.tr hkr⟩
      rw [HW.out]
      by_cases e : N1 = N2
      · subst e; simp
      · have e2 : ¬ ((N1 : Int) = (N2 : Int)) := by omega
        simp [e, e2]
theorem ewell_any {X : Sa} {S : St} {w : World} (h : Sat w X S) (hT : Tabb w) {a : Option Addr} {n c : Nat} {L : List Lk} (hA : Lks w a n L) (hc : Cap a n c) : Calls Tryd.prog 20 #[siteV X S, .slice a n c] w fun e w' => e = .returned (.tuple #[.bool (decide (allE S L = 0) && welS S L), .int .i64 (allE S L)]) ∧ Kept w w' none := by
  by_cases he : allE S L = 0
  · rw [he, decide_eq_true rfl, Bool.true_and]
    exact ewell_go h hT hA hc he
  · rw [decide_eq_false he, Bool.false_and]
    exact ewell_no h hT hA hc _ rfl he

end Go.Proofs.YtjfajdmifjbblaaDoor
