/-
  TWO LISTS OF TRUTHS THAT ARE THE SAME, for the statements and for the document; what lasts two ticks is seen (made by a program).
-/
import Derived.Test.YtbgnllpgogbmfaaPulR
import Derived.Deep.RegionHeld
namespace Go.Proofs.Ytbgnllpgogbmfaa
open Go.RowKit Go.Lib Go.Deep
set_option linter.unusedVariables false
set_option linter.unusedSimpArgs false

theorem list_same {L M : List Bool} (hl : L.length = M.length) (h : ∀ j, j < L.length → tr L j = tr M j) : L = M := by
  apply List.ext_getElem hl
  intro i h1 h2
  have := h i h1
  simpa [tr, h1, h2] using this
theorem Kept.drew (w : World) (r : Option Nat) : Kept w w.drew r := ⟨rfl, rfl, rfl, Nat.le_refl _, fun _ _ _ => rfl⟩

theorem same_len {w : World} {a b : Option Addr} {n m c d : Nat} {L M : List Bool} (hA : Bo w a n L) (hB : Bo w b m M) (hne : n ≠ m) : Calls Try.prog 14 #[.slice a n c, .slice b m d] w fun e w' => e = .returned (.bool (decide (L = M))) ∧ Kept w w' none := by
  have e : decide (L = M) = false := decide_eq_false (fun h => hne (by rw [← hA.size, ← hB.size, h]))
  rw [e]
  have h1 := hA.max
  have h2 := hB.max
  have h3 : ((n : Int) != (m : Int)) = true := by simp; omega
  clear hA hB hne e
  go_enter Try.func14, Try.ntmps14
  go_wp2
  go_ret
  exact ⟨rfl, Kept.refl _ _⟩
set_option maxHeartbeats 1000000 in
theorem same_go {w : World} {a b : Option Addr} {n c d : Nat} {L M : List Bool} (hA : Bo w a n L) (hB : Bo w b n M) : Calls Try.prog 14 #[.slice a n c, .slice b n d] w fun e w' => e = .returned (.bool (decide (L = M))) ∧ Kept w w' none := by
  have hmx := hA.max
  have HA := Hid.mk' hA
  have HB := Hid.mk' hB
  have HL := Hid.mk' hA.size
  have HM := Hid.mk' hB.size
  clear hA hB
  go_enter Try.func14, Try.ntmps14
  go_wp2
  go_loopw [5] (fun i wr => ∃ k : Nat, k ≤ n ∧ i = .int .i64 k ∧ (∀ j, j < k → tr L j = tr M j) ∧ Kept w wr none) (fun i _ => n - (intOf i).toNat)
  case atStart => exact ⟨0, by omega, rfl, fun j hj => by omega, Kept.refl _ _⟩
  case round =>
    obtain ⟨k, hk, rfl, hall, hkr⟩ := hrel
    have HALL := Hid.mk' hall
    have HK := Hid.mk' hkr
    clear hall hkr
    by_cases hlt : k < n
    · obtain ⟨b1, o1, e1, _, hc1⟩ := (HA.out.kept HK.out).at_ (by omega)
      obtain ⟨b2, o2, e2, _, hc2⟩ := (HB.out.kept HK.out).at_ (by omega)
      subst e1 e2
      have x1 := hc1 k hlt
      have x2 := hc2 k hlt
      clear hc1 hc2
      by_cases he : tr L k = tr M k
      · have HN : Hid (∀ j, j < k + 1 → tr L j = tr M j) := fun j hj => by
          by_cases ej : j = k
          · rw [ej]; exact he
          · exact HALL.out j (by omega)
        have hb : (!(tr L k == tr M k)) = false := by rw [he]; simp
        clear he
        generalize tr L k = y at *
        generalize tr M k = z at *
        go_wp2
        go_region
        all_goals
          go_wp2
          go_roundw
          case rel => exact ⟨k + 1, by omega, by go_num, HN.out, HK.out.tr (Kept.drew _ _)⟩
          case measure => simp [intOf]; omega
      · have HE : Hid (decide (L = M) = false) := decide_eq_false (fun h => he (by rw [h]))
        have hb : (!(tr L k == tr M k)) = true := by simpa using he
        clear he
        generalize tr L k = y at *
        generalize tr M k = z at *
        go_wp2
        go_region
        all_goals
          go_wp2
          go_ret
          exact ⟨by rw [HE.out]; rfl, HK.out.tr (Kept.drew _ _)⟩
    · have HE : Hid (decide (L = M) = true) := decide_eq_true (list_same (HL.out.trans HM.out.symm) (fun j hj => HALL.out j (by have := HL.out; omega)))
      go_wp2
      go_ret
      exact ⟨by rw [HE.out]; rfl, HK.out⟩
theorem same_any {w : World} {a b : Option Addr} {n m c d : Nat} {L M : List Bool} (hA : Bo w a n L) (hB : Bo w b m M) : Calls Try.prog 14 #[.slice a n c, .slice b m d] w fun e w' => e = .returned (.bool (decide (L = M))) ∧ Kept w w' none := by
  by_cases h : n = m
  · subst h; exact same_go hA hB
  · exact same_len hA hB h

theorem rsame_len {w : World} {a b : Option Addr} {n m c d : Nat} {L M : List Bool} (hA : Bo w a n L) (hB : Bo w b m M) (hne : n ≠ m) : Calls Try.prog 13 #[.slice a n c, .slice b m d] w fun e w' => e = .returned (.bool (decide (L = M))) ∧ Kept w w' none := by
  have e : decide (L = M) = false := decide_eq_false (fun h => hne (by rw [← hA.size, ← hB.size, h]))
  rw [e]
  have h1 := hA.max
  have h2 := hB.max
  have h3 : ((n : Int) != (m : Int)) = true := by simp; omega
  clear hA hB hne e
  go_enter Try.func13, Try.ntmps13
  go_wp2
  go_ret
  exact ⟨rfl, Kept.refl _ _⟩
set_option maxHeartbeats 1000000 in
theorem rsame_go {w : World} {a b : Option Addr} {n c d : Nat} {L M : List Bool} (hA : Bo w a n L) (hB : Bo w b n M) : Calls Try.prog 13 #[.slice a n c, .slice b n d] w fun e w' => e = .returned (.bool (decide (L = M))) ∧ Kept w w' none := by
  have hmx := hA.max
  have HA := Hid.mk' hA
  have HB := Hid.mk' hB
  have HL := Hid.mk' hA.size
  have HM := Hid.mk' hB.size
  clear hA hB
  go_enter Try.func13, Try.ntmps13
  go_wp2
  go_loopw [5] (fun i wr => ∃ k : Nat, k ≤ n ∧ i = .int .i64 k ∧ (∀ j, j < k → tr L j = tr M j) ∧ Kept w wr none) (fun i _ => n - (intOf i).toNat)
  case atStart => exact ⟨0, by omega, rfl, fun j hj => by omega, Kept.refl _ _⟩
  case round =>
    obtain ⟨k, hk, rfl, hall, hkr⟩ := hrel
    have HALL := Hid.mk' hall
    have HK := Hid.mk' hkr
    clear hall hkr
    by_cases hlt : k < n
    · obtain ⟨b1, o1, e1, _, hc1⟩ := (HA.out.kept HK.out).at_ (by omega)
      obtain ⟨b2, o2, e2, _, hc2⟩ := (HB.out.kept HK.out).at_ (by omega)
      subst e1 e2
      have x1 := hc1 k hlt
      have x2 := hc2 k hlt
      clear hc1 hc2
      by_cases he : tr L k = tr M k
      · have HN : Hid (∀ j, j < k + 1 → tr L j = tr M j) := fun j hj => by
          by_cases ej : j = k
          · rw [ej]; exact he
          · exact HALL.out j (by omega)
        have hb : (!(tr L k == tr M k)) = false := by rw [he]; simp
        clear he
        generalize tr L k = y at *
        generalize tr M k = z at *
        go_wp2
        go_region
        all_goals
          go_wp2
          go_roundw
          case rel => exact ⟨k + 1, by omega, by go_num, HN.out, HK.out.tr (Kept.drew _ _)⟩
          case measure => simp [intOf]; omega
      · have HE : Hid (decide (L = M) = false) := decide_eq_false (fun h => he (by rw [h]))
        have hb : (!(tr L k == tr M k)) = true := by simpa using he
        clear he
        generalize tr L k = y at *
        generalize tr M k = z at *
        go_wp2
        go_region
        all_goals
          go_wp2
          go_ret
          exact ⟨by rw [HE.out]; rfl, HK.out.tr (Kept.drew _ _)⟩
    · have HE : Hid (decide (L = M) = true) := decide_eq_true (list_same (HL.out.trans HM.out.symm) (fun j hj => HALL.out j (by have := HL.out; omega)))
      go_wp2
      go_ret
      exact ⟨by rw [HE.out]; rfl, HK.out⟩
theorem rsame_any {w : World} {a b : Option Addr} {n m c d : Nat} {L M : List Bool} (hA : Bo w a n L) (hB : Bo w b m M) : Calls Try.prog 13 #[.slice a n c, .slice b m d] w fun e w' => e = .returned (.bool (decide (L = M))) ∧ Kept w w' none := by
  by_cases h : n = m
  · subst h; exact rsame_go hA hB
  · exact rsame_len hA hB h

end Go.Proofs.Ytbgnllpgogbmfaa
