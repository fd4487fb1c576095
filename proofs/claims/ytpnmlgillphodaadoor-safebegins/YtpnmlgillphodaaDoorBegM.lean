/-
  BEGINNINGS OF TRACES, in numbers; flash behind them.
-/
import Derived.Test.YtpnmlgillphodaaDoorSafeK
namespace Go.Proofs.YtpnmlgillphodaaDoor
open Go.RowKit Go.Lib Go.Deep
set_option linter.unusedVariables false
set_option linter.unusedSimpArgs false

theorem atV_ext {S : St} {T U : List (List Nat)} : ∀ k, (∀ j, j < k → tk T j = tk U j) → atV S T k = atV S U k
  | 0, _ => rfl
  | k + 1, h => by
    rw [atV, atV, atV_ext k (fun j hj => h j (by omega)), h k (by omega)]
theorem fltV_ext {S : St} {T U : List (List Nat)} {k : Nat} (h : ∀ j, j < k + 1 → tk T j = tk U j) : fltV S T k = fltV S U k := by
  unfold fltV
  rw [atV_ext k (fun j hj => h j (by omega)), h k (by omega)]
theorem tk_take {T : List (List Nat)} {c j : Nat} (h : j < c) : tk (T.take c) j = tk T j := by
  unfold tk
  simp [List.getElem?_take, h]
theorem flt_take {S : St} {T : List (List Nat)} {c k : Nat} (h : k < c) : fltV S (T.take c) k = fltV S T k := fltV_ext (fun j hj => tk_take (by omega))
/-- The trace's beginning, and two ticks of flash behind it. -/
def longL (T : List (List Nat)) (c m : Nat) : List (List Nat) := T.take c ++ [List.replicate m 4, List.replicate m 4]
theorem tk_long {T : List (List Nat)} {c m j : Nat} (hc : c ≤ T.length) (h : j < c) : tk (longL T c m) j = tk T j := by
  unfold longL tk
  rw [List.getD_eq_getElem?_getD, List.getElem?_append_left (by simp; omega), List.getElem?_take, if_pos h, List.getD_eq_getElem?_getD]
theorem tk_flash {T : List (List Nat)} {c m j : Nat} (hc : c ≤ T.length) (h0 : c ≤ j) (h : j < c + 2) : tk (longL T c m) j = List.replicate m 4 := by
  unfold longL tk
  rw [List.getD_eq_getElem?_getD, List.getElem?_append_right (by simp; omega)]
  have hl : (T.take c).length = c := by simp; omega
  rw [hl]
  rcases (show j = c ∨ j = c + 1 by omega) with rfl | rfl
  · simp
  · rw [show c + 1 - c = 1 by omega]; simp
theorem fault_flash0 {S : St} {F : Sf} {m : Nat} (h : m = S.groups.length) : faultV S F (List.replicate m 4) = 0 := by
  unfold faultV
  rw [if_neg (by simp [h]), if_pos]
  exact allIs_yes (fun i hi => by
    have : i < m := by simpa using hi
    simp [lg, this])
theorem flt_long {S : St} {T : List (List Nat)} {c : Nat} (hc : c ≤ T.length) (h : ∀ j, j < c → fltV S T j = 0) : ∀ j, j < c + 2 → fltV S (longL T c S.groups.length) j = 0 := fun j hj => by
  by_cases e : j < c
  · rw [fltV_ext (U := T) (fun i hi => tk_long hc (by omega))]
    exact h j e
  · unfold fltV
    rw [tk_flash hc (by omega) hj]
    exact fault_flash0 rfl
theorem long_len {T : List (List Nat)} {c m : Nat} (hc : c ≤ T.length) : (longL T c m).length = c + 2 := by unfold longL; simp; omega
theorem Trc.take {w : World} {pa : Option Addr} {n : Nat} {T : List (List Nat)} (h : Trc w pa n T) {c : Nat} (hc : c ≤ n) : Trc w pa c (T.take c) := by
  refine ⟨by have := h.size; simp; omega, by have := h.max; omega, fun hp => ?_⟩
  obtain ⟨b, off, rfl, hb, hcell⟩ := h.at_ (by omega)
  refine ⟨b, off, rfl, hb, fun i hi => ?_⟩
  obtain ⟨a, c', h1, h2⟩ := hcell i (by omega)
  rw [tk_take hi]
  exact ⟨a, c', h1, h2⟩

end Go.Proofs.YtpnmlgillphodaaDoor
