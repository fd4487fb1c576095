/-
  Texts joined: some of those that the proofs of this seat stand on.
-/
import Derived.Test.YtcgflfngoaccoaaDoorSafeK
import Derived.Test.YtcgflfngoaccoaaDoorApartM
import Derived.Test.YtcgflfngoaccoaaDoorBits
/-
  WHAT A TRACE WITHOUT A FAULT KEEPS, in numbers: what since and ended say of its past; no text of the program.
-/
namespace Go.Proofs.YtcgflfngoaccoaaDoor
open Go.RowKit Go.Lib Go.Deep
set_option linter.unusedVariables false
set_option linter.unusedSimpArgs false

/-- For how many ticks up to one a group has shown what it shows. -/
def lastN (T : List (List Nat)) (a : Nat) : Nat → Nat
  | 0 => 1
  | t + 1 => if lg (tk T t) a = lg (tk T (t + 1)) a then lastN T a t + 1 else 1
theorem lastN_pos (T : List (List Nat)) (a : Nat) : ∀ t, 1 ≤ lastN T a t ∧ lastN T a t ≤ t + 1
  | 0 => by unfold lastN; omega
  | t + 1 => by
    have := lastN_pos T a t
    unfold lastN
    split <;> omega
/-- The ticks of a run all show the same; the one ahead of it another one. -/
theorem lastN_run {T : List (List Nat)} {a : Nat} : ∀ {t i : Nat}, i < lastN T a t → lg (tk T (t - i)) a = lg (tk T t) a
  | 0, i, h => by rw [Nat.zero_sub]
  | t + 1, i, h => by
    cases i with
    | zero => rfl
    | succ i =>
      rw [lastN] at h
      split at h
      · rename_i e
        rw [show t + 1 - (i + 1) = t - i by omega, lastN_run (t := t) (by omega)]
        exact e
      · omega
theorem lastN_end {T : List (List Nat)} {a : Nat} : ∀ {t : Nat}, lastN T a t ≤ t → lg (tk T (t - lastN T a t)) a ≠ lg (tk T t) a
  | 0, h => by have := (lastN_pos T a 0).1; omega
  | t + 1, h => by
    rw [lastN] at h ⊢
    split
    · rename_i e
      rw [if_pos e] at h
      rw [show t + 1 - (lastN T a t + 1) = t - lastN T a t by omega, ← e]
      exact lastN_end (by omega)
    · rename_i e
      rw [Nat.add_sub_cancel]
      exact e

section
variable {S : St} {T : List (List Nat)} {q : Nat}
/-- A trace whose first q ticks have no fault. -/
structure Nof (S : St) (T : List (List Nat)) (q : Nat) : Prop where
  ok : siteB S = true
  no : ∀ j, j < q → fltV S T j = 0
  few : q ≤ 300
theorem mean_out (h : Nof S T q) {t : Nat} (ht : t < q) : (tk T t).length = S.groups.length ∧ (allIs (tk T t) 4 = true ∨ (hasIt (tk T t) 4 = false ∧ (((atV S T t).flashed = true ∨ 0 < (atV S T t).start) → allIs (tk T t) 1 = true) ∧ oneV S (atV S T t) (tk T t) = 0 ∧ mtB S (tk T t) = false ∧ soonB S (atV S T t) (tk T t) = false)) := by
  have hz : faultV S (atV S T t) (tk T t) = 0 := h.no t ht
  have hl := fault_len hz
  refine ⟨hl, ?_⟩
  unfold faultV at hz
  rw [if_neg (by simp [hl])] at hz
  by_cases e4 : allIs (tk T t) 4 = true
  · exact .inl e4
  rw [if_neg e4] at hz
  refine .inr ?_
  by_cases e7 : hasIt (tk T t) 4 = true
  · rw [if_pos e7] at hz; cases hz
  rw [if_neg e7] at hz
  by_cases e8 : ((atV S T t).flashed = true ∨ 0 < (atV S T t).start) ∧ allIs (tk T t) 1 = false
  · rw [if_pos e8] at hz; cases hz
  rw [if_neg e8] at hz
  by_cases e1 : oneV S (atV S T t) (tk T t) = 0
  · rw [if_neg (by simp [e1])] at hz
    by_cases e3 : mtB S (tk T t) = true
    · rw [if_pos e3] at hz; cases hz
    rw [if_neg e3] at hz
    by_cases e5 : soonB S (atV S T t) (tk T t) = true
    · rw [if_pos e5] at hz; cases hz
    refine ⟨by simpa using e7, fun hh => ?_, e1, by simpa using e3, by simpa using e5⟩
    cases e : allIs (tk T t) 1 with
    | true => rfl
    | false => exact absurd ⟨hh, e⟩ e8
  · rw [if_pos e1] at hz; exact absurd hz e1
theorem mean_ng (h : Nof S T q) : 1 ≤ S.groups.length ∧ S.groups.length ≤ 16 := (span_may h.ok).base.sh.ok.ng
/-- All flash just if the first one does. -/
theorem mean_all (h : Nof S T q) {t : Nat} (ht : t < q) : (lg (tk T t) 0 = 4 ↔ allIs (tk T t) 4 = true) := by
  obtain ⟨hl, ho⟩ := mean_out h ht
  have hng := mean_ng h
  constructor
  · intro e
    rcases ho with ho | ⟨ho, _⟩
    · exact ho
    · exact absurd e (hasIt_iff.1 ho 0 (by omega))
  · intro e
    exact allIs_iff.1 e 0 (by omega)
theorem at_g (h : Nof S T q) {t : Nat} (ht : t < q) {a : Nat} (ha : a < S.groups.length) : (atV S T (t + 1)).g a = sndV ((atV S T t).g a) (lg (tk T t) a) := by
  have hl := (mean_out h ht).1
  exact behindV_g (by omega)
theorem at_fl (t : Nat) : (atV S T (t + 1)).flashed = allIs (tk T t) 4 := rfl
/-- What lamp.May tells where no flash was, nor is. -/
theorem mean_may (h : Nof S T q) {t : Nat} (ht : t < q) (hn : allIs (tk T t) 4 = false) (hf : (atV S T t).flashed = false) {a : Nat} (ha : a < S.groups.length) : mayV (S.gr a).min (S.gr a).yellow ((atV S T t).g a).asp ((atV S T t).g a).since (lg (tk T t) a) = 0 := by
  obtain ⟨hl, ho⟩ := mean_out h ht
  rcases ho with ho | ⟨_, _, ho, _, _⟩
  · rw [hn] at ho; cases ho
  · unfold oneV at ho
    rw [if_neg (by rw [hf]; decide)] at ho
    exact ownV_zero ho a (by omega)
theorem mean_red (h : Nof S T q) {t : Nat} (ht : t < q) (hn : allIs (tk T t) 4 = false) (hf : (atV S T t).flashed = true) {a : Nat} (ha : a < S.groups.length) : lg (tk T t) a = 1 := by
  obtain ⟨hl, ho⟩ := mean_out h ht
  rcases ho with ho | ⟨_, ho, _⟩
  · rw [hn] at ho; cases ho
  · exact allIs_iff.1 (ho (.inl hf)) a (by omega)
theorem asp_first (a : Nat) (ha : a < S.groups.length) : ((atV S T 0).g a).asp = 1 := by
  show ((firstV S).g a).asp = 1
  rw [firstV_g ha]
/-- The aspects of a tick that does not flash. -/
theorem mean_asp (h : Nof S T q) {t : Nat} (ht : t < q) (hn : allIs (tk T t) 4 = false) {a : Nat} (ha : a < S.groups.length) : 1 ≤ lg (tk T t) a ∧ lg (tk T t) a ≤ 3 := by
  cases hf : (atV S T t).flashed with
  | true => have := mean_red h ht hn hf ha; omega
  | false =>
    have hm := mean_may h ht hn hf ha
    unfold mayV at hm
    repeat' split at hm
    all_goals omega
/-- Since of a group that is not red is how long it has lasted; a yellow is never longer than its Yellow. -/
theorem mean_since (h : Nof S T q) {a : Nat} (ha : a < S.groups.length) : ∀ {t : Nat}, t < q → lg (tk T t) a ≠ 1 → lg (tk T t) a ≠ 4 → ((atV S T (t + 1)).g a).since = (lastN T a t : Int) ∧ (lg (tk T t) a = 3 → (lastN T a t : Int) ≤ (S.gr a).yellow) := by
  have hy : 1 ≤ (S.gr a).yellow := by
    have hA := all_of h.ok
    have hg : groupB S a = true := hA 2 (by omega) a ha
    unfold groupB timeB at hg
    simp only [Bool.and_eq_true, inB_iff] at hg
    exact hg.2.1
  intro t
  induction t with
  | zero =>
    intro ht h1 h4
    rw [at_g h ht ha]
    show sinceV _ _ _ = _ ∧ _
    rw [asp_first a ha]
    unfold sinceV
    rw [if_neg (by omega)]
    refine ⟨rfl, fun _ => ?_⟩
    show (1 : Int) ≤ _
    exact hy
  | succ t ih =>
    intro ht h1 h4
    have hn : allIs (tk T (t + 1)) 4 = false := allIs_no (i := a) (by have := (mean_out h ht).1; omega) h4
    have hf : (atV S T (t + 1)).flashed = false := by
      cases e : (atV S T (t + 1)).flashed with
      | false => rfl
      | true => exact absurd (mean_red h ht hn e ha) h1
    have hn0 : allIs (tk T t) 4 = false := hf
    have hm := mean_may h ht hn hf ha
    have hlt : t < q := by omega
    have hasp : ((atV S T (t + 1)).g a).asp = lg (tk T t) a := by rw [at_g h hlt ha]; rfl
    have h40 : lg (tk T t) a ≠ 4 := by have := (mean_asp h hlt hn0 ha); omega
    rw [at_g h ht ha]
    show sinceV _ _ _ = _ ∧ _
    rw [hasp] at hm ⊢
    unfold sinceV lastN
    by_cases e : lg (tk T (t + 1)) a = lg (tk T t) a
    · rw [if_pos (by omega), if_pos e.symm]
      obtain ⟨i1, i2⟩ := ih hlt (by omega) h40
      have hp := lastN_pos T a t
      have hfew := h.few
      rw [i1] at hm ⊢
      have hs : stp (lastN T a t : Int) = (lastN T a t : Int) := stp_id (by omega) (by omega)
      refine ⟨?_, fun h3 => ?_⟩
      · unfold more; rw [hs, if_pos (by omega)]; rfl
      · unfold mayV at hm
        rw [hs] at hm
        rw [if_neg (by omega), if_neg (by omega), if_pos (by omega), if_pos (by omega)] at hm
        split at hm
        · push_cast; omega
        · cases hm
    · rw [if_neg (by omega), if_neg (by omega)]
      exact ⟨rfl, fun _ => hy⟩
/-- How a group turns from one tick to the next one, where neither flashes. -/
theorem mean_turn (h : Nof S T q) {a : Nat} (ha : a < S.groups.length) {t : Nat} (ht : t + 1 < q) (h0 : allIs (tk T t) 4 = false) (h1 : allIs (tk T (t + 1)) 4 = false) (hne : lg (tk T t) a ≠ lg (tk T (t + 1)) a) : (lg (tk T t) a = 1 ∧ lg (tk T (t + 1)) a = 2) ∨ (lg (tk T t) a = 2 ∧ lg (tk T (t + 1)) a = 3 ∧ (S.gr a).min ≤ (lastN T a t : Int)) ∨ (lg (tk T t) a = 3 ∧ lg (tk T (t + 1)) a = 1 ∧ (lastN T a t : Int) = (S.gr a).yellow) := by
  have hlt : t < q := by omega
  have hm := mean_may h ht h1 h0 ha
  have hasp : ((atV S T (t + 1)).g a).asp = lg (tk T t) a := by rw [at_g h hlt ha]; rfl
  have hr := mean_asp h hlt h0 ha
  have hr1 := mean_asp h ht h1 ha
  rw [hasp] at hm
  by_cases e1 : lg (tk T t) a = 1
  · left
    unfold mayV at hm
    rw [if_pos (by omega)] at hm
    split at hm
    · omega
    · cases hm
  · have hs := mean_since h ha hlt e1 (by omega)
    have hp := lastN_pos T a t
    have hfew := h.few
    have hid : stp (lastN T a t : Int) = (lastN T a t : Int) := stp_id (by omega) (by omega)
    rw [hs.1] at hm
    unfold mayV at hm
    rw [hid] at hm
    by_cases e2 : lg (tk T t) a = 2
    · right; left
      rw [if_neg (by omega), if_pos (by omega), if_neg (by omega)] at hm
      split at hm
      · split at hm
        · cases hm
        · exact ⟨e2, by omega, by omega⟩
      · cases hm
    · right; right
      have e3 : lg (tk T t) a = 3 := by omega
      rw [if_neg (by omega), if_neg (by omega), if_pos (by omega), if_neg (by omega)] at hm
      split at hm
      · split at hm
        · cases hm
        · have := hs.2 e3
          exact ⟨e3, by omega, by omega⟩
      · cases hm
/-- Two that are apart do not meet. -/
theorem mean_meet (h : Nof S T q) {t : Nat} (ht : t < q) (hn : allIs (tk T t) 4 = false) {a b : Nat} (ha : a < S.groups.length) (hb : b < S.groups.length) (hab : (S.ap a).testBit b = true) (h1 : lg (tk T t) a ≠ 1) : lg (tk T t) b = 1 := by
  obtain ⟨hl, ho⟩ := mean_out h ht
  have hk := keeps_may h.ok
  rcases ho with ho | ⟨_, _, _, hm, _⟩
  · rw [hn] at ho; cases ho
  · by_cases e : lg (tk T t) b = 1
    · exact e
    · exfalso
      have hne : a ≠ b := fun e => by subst e; rw [hk.own a ha] at hab; cases hab
      by_cases hlt : b < a
      · have := mtB_iff.1 hm a (by omega) b hlt
        unfold pairM at this
        simp [h1, e, hab] at this
      · have := mtB_iff.1 hm b (by omega) a (by omega)
        unfold pairM at this
        rw [hk.sym a b ha hb] at hab
        simp [h1, e, hab] at this
/-- Ended is at most how many ticks ago a green was. -/
theorem mean_ended (h : Nof S T q) {b : Nat} (hb : b < S.groups.length) : ∀ {i j : Nat}, j + i < q → lg (tk T j) b = 2 → 0 ≤ ((atV S T (j + i + 1)).g b).ended ∧ ((atV S T (j + i + 1)).g b).ended ≤ i
  | 0, j, hj, e => by
    rw [Nat.add_zero, at_g h (by omega) hb]
    show 0 ≤ endedV _ _ ∧ endedV _ _ ≤ _
    unfold endedV
    rw [if_pos (by omega)]
    omega
  | i + 1, j, hj, e => by
    have ih := mean_ended h hb (i := i) (j := j) (by omega) e
    rw [show j + (i + 1) + 1 = (j + i + 1) + 1 by omega, at_g h (by omega) hb]
    show 0 ≤ endedV _ _ ∧ endedV _ _ ≤ _
    unfold endedV
    split
    · omega
    · unfold more
      have h1 := stp_ge ((atV S T (j + i + 1)).g b).ended
      have h2 : stp ((atV S T (j + i + 1)).g b).ended ≤ ((atV S T (j + i + 1)).g b).ended := by unfold stp; split <;> (try split) <;> omega
      have hfew := h.few
      split <;> (push_cast; omega)
/-- A green that begins comes late enough behind one that is apart. -/
theorem mean_late (h : Nof S T q) {t : Nat} (ht : t < q) (hn : allIs (tk T t) 4 = false) {a b : Nat} (ha : a < S.groups.length) (hb : b < S.groups.length) (hab : (S.ap a).testBit b = true) (hg : lg (tk T t) a = 2) (hw : t = 0 ∨ lg (tk T (t - 1)) a ≠ 2) {k : Nat} (hk1 : 1 ≤ k) (hkt : k ≤ t) (hkb : (k : Int) ≤ S.bt b a) : lg (tk T (t - k)) b ≠ 2 := by
  intro e
  obtain ⟨hl, ho⟩ := mean_out h ht
  have hk := keeps_may h.ok
  rcases ho with ho | ⟨_, _, _, _, hs⟩
  · rw [hn] at ho; cases ho
  · have := soonB_iff.1 hs a (by omega) b (by omega)
    unfold pairS at this
    have hasp : ((atV S T t).g a).asp ≠ 2 := by
      cases t with
      | zero => omega
      | succ t =>
        rw [at_g h (by omega) ha]
        show lg (tk T t) a ≠ 2
        rcases hw with hw | hw
        · omega
        · simpa using hw
    rw [hk.sym a b ha hb] at hab
    rw [hg, hab] at this
    simp [hasp] at this
    have he := (mean_ended h hb (i := k - 1) (j := t - k) (by omega) e).2
    rw [show t - k + (k - 1) + 1 = t by omega] at he
    omega
end

end Go.Proofs.YtcgflfngoaccoaaDoor

/-
  THE CONTRACTS of all and lasted, of SafeMeans.
-/
namespace Go.Proofs.YtcgflfngoaccoaaDoor
open Go.RowKit Go.Lib Go.Deep
set_option linter.unusedVariables false
set_option linter.unusedSimpArgs false

theorem tick_at {w : World} {bp op n : Nat} {T : List (List Nat)} (h : Trc w (some ⟨bp, op, none⟩) n T) {i m : Nat} (hi : i < n) (hm : (tk T i).length = m) (hp : 0 < m) : ∃ b o c, w.cell? ⟨bp, op + i, none⟩ = some (.slice (some ⟨b, o, none⟩) m c) ∧ ∀ a, a < m → w.cell? ⟨b, o + a, none⟩ = some (.int .u8 ((lg (tk T i) a : Nat) : Int)) := by
  obtain ⟨b, off, e, _, hc⟩ := h.at_ (by omega)
  injection e with e
  injection e with e1 e2
  subst e1 e2
  obtain ⟨a, c, h1, h2⟩ := hc i hi
  rw [hm] at h1 h2
  obtain ⟨b', o', rfl, _, h3⟩ := h2.at_ hp
  exact ⟨b', o', c, h1, h3⟩
set_option maxRecDepth 100000 in
set_option maxHeartbeats 1000000 in
theorem mall_any {w : World} {bp op n cp : Nat} {T : List (List Nat)} (h : Trc w (some ⟨bp, op, none⟩) n T) {t m : Nat} (ht : t < n) (hm : (tk T t).length = m) (hp : 0 < m) : Calls Tryd.prog 12 #[.slice (some ⟨bp, op, none⟩) n cp, .int .i64 (t : Int)] w fun e w' => e = .returned (.bool (lg (tk T t) 0 == 4)) ∧ w' = w := by
  obtain ⟨b, o, c, h1, h2⟩ := tick_at h ht hm hp
  have l0 := h2 0 hp
  rw [Nat.add_zero] at l0
  have HV : Hid ((((lg (tk T t) 0 : Nat) : Int) == 4) = (lg (tk T t) 0 == 4)) := by show _ = _; rw [Bool.eq_iff_iff]; simp; omega
  clear h h2 hm
  go_enter Tryd.func12, Tryd.ntmps12
  go_wp2
  go_ret
  exact ⟨by rw [← HV.out]; rfl, rfl⟩
set_option maxRecDepth 100000 in
set_option maxHeartbeats 2000000 in
theorem mlast_any {w : World} {bp op n cp : Nat} {T : List (List Nat)} (h : Trc w (some ⟨bp, op, none⟩) n T) {t m a : Nat} (hn : n ≤ 300) (ht : t < n) (hm : ∀ i, i ≤ t → (tk T i).length = m) (ha : a < m) : Calls Tryd.prog 13 #[.slice (some ⟨bp, op, none⟩) n cp, .int .i64 (t : Int), .int .i64 (a : Int)] w fun e w' => e = .returned (.int .i64 ((lastN T a t : Nat) : Int)) ∧ ∃ q, w' = w.drewN q := by
  have HH := Hid.mk' h
  have HM := Hid.mk' hm
  have hR := lastN_pos T a t
  have HRUN : Hid (∀ i, i < lastN T a t → lg (tk T (t - i)) a = lg (tk T t) a) := fun i hi => lastN_run hi
  have HEND : Hid (lastN T a t ≤ t → lg (tk T (t - lastN T a t)) a ≠ lg (tk T t) a) := lastN_end
  obtain ⟨bt, ot, ct, y1, y2⟩ := tick_at h ht (hm t (Nat.le_refl _)) (by omega)
  have HY1 := Hid.mk' y1
  have HY2 := Hid.mk' (y2 a ha)
  clear h hm y1 y2
  generalize lastN T a t = R at *
  go_enter Tryd.func13, Tryd.ntmps13
  go_wp2
  go_loopw [7] (fun i wr => ∃ N : Nat, 1 ≤ N ∧ N ≤ R ∧ i = .int .i64 N ∧ ∃ q, wr = w.drewN q) (fun i _ => R + 1 - (intOf i).toNat)
  case atStart => exact ⟨1, by omega, hR.1, rfl, 0, rfl⟩
  case round =>
    obtain ⟨N, hN1, hNR, rfl, q, rfl⟩ := hrel
    have y1 := HY1.out
    have y2 := HY2.out
    by_cases hlt : N ≤ t
    · have hsub : ((t : Int) - (N : Int)) = ((t - N : Nat) : Int) := by omega
      obtain ⟨bs, os, cs, z1, z2⟩ := tick_at HH.out (i := t - N) (by omega) (HM.out (t - N) (by omega)) (by omega)
      have z3 := z2 a ha
      clear z2
      by_cases hNl : N < R
      · have he := HRUN.out N hNl
        rw [he] at z3
        clear he
        generalize lg (tk T t) a = y at *
        have hge : (0 : Int) ≤ (t : Int) - (N : Int) := by omega
        go_wp2
        go_quiet (fail)
        go_wp2
        go_roundw
        case rel => exact ⟨N + 1, by omega, by omega, by go_num, _, rfl⟩
        case measure => simp [intOf]; omega
      · have eR : R = N := by omega
        subst eR
        have hne := HEND.out hlt
        have hneb : (((lg (tk T (t - R)) a : Nat) : Int) == ((lg (tk T t) a : Nat) : Int)) = false := by simp; omega
        clear hne
        generalize lg (tk T t) a = y at *
        generalize lg (tk T (t - R)) a = x at *
        have hge : (0 : Int) ≤ (t : Int) - (R : Int) := by omega
        go_wp2
        go_quiet (fail)
        go_wp2
        go_ret
        exact ⟨rfl, _, World.drewN_drewN ..⟩
    · have eR : R = N := by omega
      subst eR
      have hlb : decide ((0 : Int) ≤ (t : Int) - (R : Int)) = false := by simp; omega
      go_wp2
      go_quiet (fail)
      go_wp2
      go_ret
      exact ⟨rfl, _, World.drewN_drewN ..⟩

end Go.Proofs.YtcgflfngoaccoaaDoor

/-
  THE CONTRACT of holds, of SafeMeans, case by case (made by a program).
-/
namespace Go.Proofs.YtcgflfngoaccoaaDoor
open Go.RowKit Go.Lib Go.Deep
set_option linter.unusedVariables false
set_option linter.unusedSimpArgs false

theorem zero_bit (P i : Nat) (h : P < 4294967296) : (bits .and .u32 ((P : Int) / 2 ^ i) 1 == 0) = !P.testBit i := by
  have e : ((P : Int) / 2 ^ i) = ((P / 2 ^ i : Nat) : Int) := by simp
  rw [e, show (1 : Int) = ((1 : Nat) : Int) from rfl, u32_and_nat _ _ (Nat.lt_of_le_of_lt (Nat.div_le_self _ _) h) (by omega)]
  rw [Nat.testBit, Nat.and_comm, Nat.shiftRight_eq_div_pow]
  rw [Nat.and_comm, Nat.and_one_is_mod]
  rcases Nat.mod_two_eq_zero_or_one (P / 2 ^ i) with h | h <;> simp [h]

end Go.Proofs.YtcgflfngoaccoaaDoor

