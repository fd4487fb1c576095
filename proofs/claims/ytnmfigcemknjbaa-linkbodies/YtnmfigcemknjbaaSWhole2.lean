/-
  Of the text Whole2: what this stage needs (culled by a program).
-/
import Derived.Test.YtnmfigcemknjbaaWorld
import Derived.Test.YtnmfigcemknjbaaJoin
import Derived.Test.YtnmfigcemknjbaaSWhole
namespace Go.Proofs.Ytnmfigcemknjbaa
open Go.RowKit Go.Lib Go.Deep
set_option linter.unusedVariables false
set_option linter.unusedSimpArgs false

theorem splits_all {l : List Int} : l.all (fun x => inB x 0 1048576) = allB l.length (fun k => inB (l.getD k 0) 0 1048576) := by
  rw [Bool.eq_iff_iff, List.all_eq_true, allB_iff]
  constructor
  · intro h i hi
    exact h _ (getD_mem hi)
  · intro h x hx
    obtain ⟨i, hi, rfl⟩ := List.getElem_of_mem hx
    have := h i hi
    simpa [hi] using this
set_option maxRecDepth 100000 in
set_option maxHeartbeats 1000000 in
theorem mayBe_any {w : World} (p : Pl) (a : Option Addr) (c : Nat) (hI : Ints w a p.splits.length c p.splits) : Calls Try.prog 63 #[planV p a c] w fun e w' => e = .returned (.bool (mayB p)) ∧ Kept w w' none := by
  have HI := Hid.mk' hI
  have hlm : p.splits.length ≤ 9223372036854775807 := by have := hI.cap.room; have := hI.cap.max; omega
  have hkA : Kept w (w.alloc (.cells #[.int .i64 p.cycle, .int .i64 p.offset, .slice a p.splits.length c] 94)) none := Kept.alloc _ _ _ _ _
  have HK := Hid.mk' hkA
  clear hI hkA
  cases h1 : timeB p.cycle with
  | false =>
    have HE : Hid (mayB p = false) := by show mayB p = false; simp [mayB, h1]
    go_enter Try.func63, Try.ntmps63
    go_wp2_with (go_at_call 65; refine (time_is _ _ _ h1).mono ?_; rintro e w2 ⟨rfl, rfl⟩)
    go_ret
    exact ⟨by rw [HE.out]; rfl, HK.out⟩
  | true =>
    have hcy := inB_iff.1 h1
    cases h2 : inB p.offset 0 (p.cycle - 1) with
    | false =>
      have HE : Hid (mayB p = false) := by show mayB p = false; simp [mayB, h1, h2]
      go_enter Try.func63, Try.ntmps63
      go_wp2_with (first | (go_at_call 65; refine (time_is _ _ _ h1).mono ?_; rintro e w2 ⟨rfl, rfl⟩) | (go_at_call 66; refine (within_is _ _ _ _ _ h2).mono ?_; rintro e w2 ⟨rfl, rfl⟩))
      go_ret
      exact ⟨by rw [HE.out]; rfl, HK.out⟩
    | true =>
      cases h3 : inB (p.splits.length : Int) 1 8 with
      | false =>
        have HE : Hid (mayB p = false) := by show mayB p = false; simp [mayB, h1, h2, h3]
        go_enter Try.func63, Try.ntmps63
        go_wp2_with (first | (have hgo := hdone; clear hgo; go_at_call 66; refine (within_is _ _ _ _ _ h3).mono ?_; rintro e w2 ⟨rfl, rfl⟩) | (go_at_call 65; refine (time_is _ _ _ h1).mono ?_; rintro e w2 ⟨rfl, rfl⟩) | (go_at_call 66; refine (within_is _ _ _ _ _ h2).mono ?_; rintro e w2 ⟨rfl, rfl⟩; have hdone := trivial))
        go_ret
        exact ⟨by rw [HE.out]; rfl, HK.out⟩
      | true =>
        have HE : Hid (mayB p = allB p.splits.length (fun k => inB (p.splits.getD k 0) 0 1048576)) := by show mayB p = _; unfold mayB; rw [h1, h2, h3, splits_all]; rfl
        have hl := inB_iff.1 h3
        obtain ⟨bi, oi, ei, hbi, hci⟩ := HI.out.at_ (by omega)
        subst ei
        have HC := Hid.mk' hci
        clear hci
        go_enter Try.func63, Try.ntmps63
        go_wp2_with (first | (have hgo := hdone; clear hgo; go_at_call 66; refine (within_is _ _ _ _ _ h3).mono ?_; rintro e w2 ⟨rfl, rfl⟩) | (go_at_call 65; refine (time_is _ _ _ h1).mono ?_; rintro e w2 ⟨rfl, rfl⟩) | (go_at_call 66; refine (within_is _ _ _ _ _ h2).mono ?_; rintro e w2 ⟨rfl, rfl⟩; have hdone := trivial))
        go_loop [28] (fun i => ∃ k : Nat, k ≤ p.splits.length ∧ i = .int .i64 k ∧ ∀ j, j < k → inB (p.splits.getD j 0) 0 1048576 = true) (fun i => p.splits.length - (intOf i).toNat)
        case atStart => exact ⟨0, Nat.zero_le _, rfl, fun j hj => by omega⟩
        case round =>
          obtain ⟨k, hk, rfl, hall⟩ := hrel
          have HALL := Hid.mk' hall
          clear hall
          by_cases hlt : k < p.splits.length
          · have kc := cell_kept0 (HC.out k hlt) HK.out
            cases h4 : inB (p.splits.getD k 0) 0 1048576 with
            | true =>
              have HALL2 : Hid (∀ j, j < k + 1 → inB (p.splits.getD j 0) 0 1048576 = true) := fun j hj => by
                by_cases e : j = k
                · subst e; exact h4
                · exact HALL.out j (by omega)
              generalize p.splits.getD k 0 = v at *
              go_wp2_with (go_at_call 66; refine (within_is _ _ _ _ _ h4).mono ?_; rintro e w2 ⟨rfl, rfl⟩)
              exact ⟨⟨k + 1, by omega, by go_num, HALL2.out⟩, by simp [intOf]; omega⟩
            | false =>
              have HF : Hid (mayB p = false) := by show mayB p = false; rw [HE.out]; exact allB_no hlt h4
              generalize p.splits.getD k 0 = v at *
              go_wp2_with (go_at_call 66; refine (within_is _ _ _ _ _ h4).mono ?_; rintro e w2 ⟨rfl, rfl⟩)
              go_ret
              exact ⟨by rw [HF.out]; rfl, HK.out⟩
          · have hkk : k = p.splits.length := by omega
            have HF : Hid (mayB p = true) := by show mayB p = true; rw [HE.out]; exact allB_iff.2 (fun j hj => HALL.out j (by omega))
            go_wp2
            go_ret
            exact ⟨by rw [HF.out]; rfl, HK.out⟩
set_option maxRecDepth 100000 in
set_option maxHeartbeats 1000000 in
theorem allMay_any {w : World} {a : Option Addr} {n c : Nat} {l : List Pl} (hP : Plans w a n c l) : Calls Try.prog 60 #[.slice a n c] w fun e w' => e = .returned (.bool (allB n (fun k => mayB (l.getD k q0)))) ∧ Kept w w' none := by
  have HP := Hid.mk' hP
  have hml : n ≤ 9223372036854775807 := by have := hP.cap.room; have := hP.cap.max; omega
  clear hP
  go_enter Try.func60, Try.ntmps60
  go_wp2
  go_loopw [7] (fun i wr => ∃ k : Nat, k ≤ n ∧ i = .int .i64 k ∧ (∀ j, j < k → mayB (l.getD j q0) = true) ∧ Kept w wr none) (fun i _ => n - (intOf i).toNat)
  case atStart => exact ⟨0, Nat.zero_le _, rfl, fun j hj => by omega, Kept.refl _ _⟩
  case round =>
    obtain ⟨k, hk, rfl, hall, hkw⟩ := hrel
    have HALL := Hid.mk' hall
    clear hall
    by_cases hlt : k < n
    · obtain ⟨b, off, a', c', rfl, k0, k1, k2, hI⟩ := (HP.out.kept hkw).at_ hlt
      have hkA : Kept wr (wr.alloc (.cells #[.int .i64 (l.getD k q0).cycle, .int .i64 (l.getD k q0).offset, .slice a' (l.getD k q0).splits.length c'] 94)) none := Kept.alloc _ _ _ _ _
      have HKA := Hid.mk' hkA
      have HI := Hid.mk' (hI.kept hkA)
      clear hI hkA
      cases h4 : mayB (l.getD k q0) with
      | true =>
        have HV := Hid.mk' h4
        have HALL2 : Hid (∀ j, j < k + 1 → mayB (l.getD j q0) = true) := fun j hj => by
          by_cases e : j = k
          · subst e; exact h4
          · exact HALL.out j (by omega)
        generalize l.getD k q0 = p at *
        go_wp2_with (go_at_call 63; refine (mayBe_any p a' c' HI.out).mono ?_; rintro e w2 ⟨rfl, hk2⟩; rw [h4])
        go_roundw
        case rel => exact ⟨k + 1, by omega, by go_num, HALL2.out, (hkw.tr HKA.out).tr hk2⟩
        case measure => simp [intOf]; omega
      | false =>
        have HF : Hid (allB n (fun k => mayB (l.getD k q0)) = false) := allB_no hlt h4
        generalize l.getD k q0 = p at *
        go_wp2_with (go_at_call 63; refine (mayBe_any p a' c' HI.out).mono ?_; rintro e w2 ⟨rfl, hk2⟩; rw [h4])
        go_ret
        exact ⟨by rw [HF.out]; rfl, (hkw.tr HKA.out).tr hk2⟩
    · have HF : Hid (allB n (fun k => mayB (l.getD k q0)) = true) := allB_iff.2 (fun j hj => HALL.out j (by omega))
      go_wp2
      go_ret
      exact ⟨by rw [HF.out]; rfl, hkw⟩

theorem may_parts {p : Pl} (h : mayB p = true) : (1 ≤ p.cycle ∧ p.cycle ≤ 1048576) ∧ (0 ≤ p.offset ∧ p.offset ≤ p.cycle - 1) ∧ (1 ≤ p.splits.length ∧ p.splits.length ≤ 8) ∧ ∀ x ∈ p.splits, 0 ≤ x ∧ x ≤ 1048576 := by
  unfold mayB timeB at h
  simp only [Bool.and_eq_true, inB_iff, List.all_eq_true] at h
  exact ⟨h.1.1.1, h.1.1.2, by omega, h.2⟩
/-- Plans that may be at all. -/
def mayL (l : List Pl) : Bool := allB l.length (fun k => mayB (l.getD k q0))
theorem mayL_iff {l : List Pl} : mayL l = true ↔ ∀ p ∈ l, mayB p = true := by
  unfold mayL
  rw [allB_iff]
  constructor
  · intro h p hp
    obtain ⟨i, hi, rfl⟩ := List.getElem_of_mem hp
    have := h i hi
    simpa [hi] using this
  · intro h i hi
    exact h _ (getD_mem hi)
theorem wok_may {l : List Pl} (h : mayL l = true) (hn : l.length ≤ 8) : Wok l := ⟨hn, fun p hp => by
  obtain ⟨h1, h2, h3, h4⟩ := may_parts (mayL_iff.1 h p hp)
  exact ⟨by omega, by omega, by omega, fun x hx => (h4 x hx).1⟩⟩
def wholeE (l : List Pl) : Int := if 8 < l.length then 4 else if mayL l = true then 0 else 170
def wholeL (l : List Pl) : List Nat := if wholeE l = 0 then smlI (plansI l) else []
set_option maxRecDepth 100000 in
set_option maxHeartbeats 1000000 in
theorem whole_any {w : World} {a : Option Addr} {n c : Nat} {l : List Pl} (hP : Plans w a n c l) : Calls Try.prog 53 #[.slice a n c] w fun e w' => ∃ a' c', e = .returned (.tuple #[.slice a' (wholeL l).length c', .int .i64 (wholeE l)]) ∧ Mine w' w.heap.size a' (wholeL l).length c' (wholeL l) ∧ Kept w w' none := by
  have HP := Hid.mk' hP
  have hsz := hP.size
  have hml : n ≤ 9223372036854775807 := by have := hP.cap.room; have := hP.cap.max; omega
  by_cases h8 : 8 < n
  · have hE : wholeE l = 4 := by unfold wholeE; rw [if_pos (by omega)]
    have hL : wholeL l = [] := by unfold wholeL; rw [hE]; rfl
    rw [hE, hL]
    clear hP hE hL hsz
    go_enter Try.func53, Try.ntmps53
    go_wp2
    go_ret2
    exact ⟨none, 0, rfl, Mine.empty _ _, Kept.refl _ _⟩
  · have hmy : allB n (fun k => mayB (l.getD k q0)) = mayL l := by unfold mayL; rw [hsz]
    cases hm : mayL l with
    | false =>
      have hE : wholeE l = 170 := by unfold wholeE; rw [if_neg (by omega), if_neg (by rw [hm]; decide)]
      have hL : wholeL l = [] := by unfold wholeL; rw [hE]; rfl
      rw [hE, hL]
      have HMY := Hid.mk' (hmy.trans hm)
      clear hP hE hL hsz hmy
      go_enter Try.func53, Try.ntmps53
      go_wp2_with (go_at_call 60; refine (allMay_any HP.out).mono ?_; rintro e w2 ⟨rfl, hk2⟩; rw [HMY.out])
      go_ret2
      exact ⟨none, 0, rfl, Mine.empty _ _, hk2⟩
    | true =>
      have hE : wholeE l = 0 := by unfold wholeE; rw [if_neg (by omega), if_pos hm]
      have hL : wholeL l = smlI (plansI l) := by unfold wholeL; rw [hE]; rfl
      rw [hE, hL]
      have HMY := Hid.mk' (hmy.trans hm)
      have HWk := Hid.mk' (wok_may hm (by omega))
      clear hP hE hL hsz hmy hm
      go_enter Try.func53, Try.ntmps53
      go_wp2_with (first | (go_at_call 60; refine (allMay_any HP.out).mono ?_; rintro e w2 ⟨rfl, hk2⟩; rw [HMY.out]) | (go_at_call 61; refine (planBytes_any (HP.out.kept hk2) HWk.out).mono ?_; rintro e w3 ⟨a3, c3, rfl, hm3, hk3⟩))
      go_ret2
      exact ⟨a3, c3, rfl, ⟨own_lower hm3.own hk2.size, hm3.nil, hm3.room, hm3.max⟩, hk2.tr hk3⟩

end Go.Proofs.Ytnmfigcemknjbaa
