/-
  Texts joined: some of those that the proofs of this seat stand on.
-/
import Derived.Test.YtcgflfngoaccoaaDoorLightsB
import Derived.Test.YtcgflfngoaccoaaDoorSafeK
/-
  THE CONTRACTS of is and alive, of the statements.
-/
namespace Go.Proofs.YtcgflfngoaccoaaDoor
open Go.RowKit Go.Lib Go.Deep
set_option linter.unusedVariables false
set_option linter.unusedSimpArgs false

set_option maxRecDepth 100000 in
set_option maxHeartbeats 1000000 in
theorem is_yes {w : World} (hT : Tabb w) (cs : List Nat) (at_ f : Int) (hl : cs.length ≤ 200) (hb : ∀ x ∈ cs, x < 256) (h1 : ansN (fltV S8 (lightsL cs)) (cs.length / 2) = at_) (h2 : ownV (fltV S8 (lightsL cs)) (cs.length / 2) = f) : Calls Tryd.prog 8 #[.string (textOf cs), .int .i64 at_, .int .u8 f] w fun e w' => e = .returned (.bool true) ∧ Kept w w' none := by
  have HT := Hid.mk' hT
  clear hT
  have HL := Hid.mk' (fun w' => lights_any (w := w') cs hl hb)
  have H1 := Hid.mk' h1
  have H2 := Hid.mk' h2
  have hn : cs.length / 2 ≤ 4096 := by omega
  have HN := Hid.mk' hn
  clear h1 h2 hn hb hl
  generalize cs.length / 2 = n at *
  generalize textOf cs = Sx at *
  generalize lightsL cs = T at *
  go_enter Tryd.func8, Tryd.ntmps8
  go_wp2_with (first
    | (go_at_call 6; have hn := check_go (cp := cL) (SA.out.kept K12.out) (HT.out.kept (K1.out.tr K12.out)) TR.out s8_may HN.out; rw [H1.out, H2.out] at hn; refine hn.mono ?_; rintro e w3 ⟨rfl, hk3⟩)
    | (go_at_call 15; refine (HL.out _).mono ?_; rintro e w2 ⟨aL, cL, rfl, hTr, hk2⟩; have TR := Hid.mk' hTr; have K12 := Hid.mk' hk2; clear hTr hk2)
    | (go_at_call 14; refine two_any.mono ?_; rintro e w1 ⟨X, rfl, hsat, hk1⟩; have SA := Hid.mk' hsat; have K1 := Hid.mk' hk1; clear hsat hk1))
  go_ret
  exact ⟨rfl, (K1.out.tr K12.out).tr hk3⟩
theorem tx_alive1 : (ByteArray.mk #[82, 82, 82, 82, 71, 82, 71, 82, 89, 82, 82, 82, 82, 71]) = textOf [82, 82, 82, 82, 71, 82, 71, 82, 89, 82, 82, 82, 82, 71] := by rfl
theorem tx_alive2 : (ByteArray.mk #[82, 82, 71, 82]) = textOf [82, 82, 71, 82] := by rfl
set_option maxRecDepth 100000 in
set_option maxHeartbeats 1000000 in
theorem salive_any {w : World} (hT : Tabb w) : Calls Tryd.prog 4 #[] w fun e w' => e = .returned (.bool true) ∧ Kept w w' none := by
  have HT := Hid.mk' hT
  have HK0 := Hid.mk' (Kept.refl w none)
  have HI1 := Hid.mk' (fun w' (q : Kept w w' none) => is_yes (hT.kept q) [82, 82, 82, 82, 71, 82, 71, 82, 89, 82, 82, 82, 82, 71] (-1) 0 (by decide) (by decide) (by decide +kernel) (by decide +kernel))
  have HI2 := Hid.mk' (fun w' (q : Kept w w' none) => is_yes (hT.kept q) [82, 82, 71, 82] 1 8 (by decide) (by decide) (by decide +kernel) (by decide +kernel))
  rw [← tx_alive1] at HI1
  rw [← tx_alive2] at HI2
  clear hT
  go_enter Tryd.func4, Tryd.ntmps4
  go_wp2_with (first
    | (go_at_call_of 8 (1 : Int); refine (HI2.out _ hk1).mono ?_; rintro e w2 ⟨rfl, hk2⟩)
    | (go_at_call 8; refine (HI1.out _ (Kept.refl _ _)).mono ?_; rintro e w1 ⟨rfl, hk1⟩))
  go_ret
  exact ⟨rfl, hk1.tr hk2⟩

end Go.Proofs.YtcgflfngoaccoaaDoor

/-
  BEGINNINGS OF TRACES, in numbers; flash behind them.
-/
namespace Go.Proofs.YtcgflfngoaccoaaDoor
open Go.RowKit Go.Lib Go.Deep
set_option linter.unusedVariables false
set_option linter.unusedSimpArgs false

theorem atV_ext {S : St} {T U : List (List Nat)} : ∀ k, (∀ j, j < k → tk T j = tk U j) → atV S T k = atV S U k
  | 0, _ => rfl
  | k + 1, h => by
    rw [atV, atV, atV_ext k (fun j hj => h j (by omega)), h k (by omega)]
theorem fltV_ext {S : St} {T U : List (List Nat)} {k : Nat} (h : ∀ j, j < k + 1 → tk T j = tk U j) : fltV S T k = fltV S U k := by
  unfold fltV
  rw [atV_ext k (fun j hj => h j (by omega)), h k (by omega)]
theorem tk_take {T : List (List Nat)} {c j : Nat} (h : j < c) : tk (T.take c) j = tk T j := by
  unfold tk
  simp [List.getElem?_take, h]
theorem flt_take {S : St} {T : List (List Nat)} {c k : Nat} (h : k < c) : fltV S (T.take c) k = fltV S T k := fltV_ext (fun j hj => tk_take (by omega))
/-- The trace's beginning, and two ticks of flash behind it. -/
def longL (T : List (List Nat)) (c m : Nat) : List (List Nat) := T.take c ++ [List.replicate m 4, List.replicate m 4]
theorem tk_long {T : List (List Nat)} {c m j : Nat} (hc : c ≤ T.length) (h : j < c) : tk (longL T c m) j = tk T j := by
  unfold longL tk
  rw [List.getD_eq_getElem?_getD, List.getElem?_append_left (by simp; omega), List.getElem?_take, if_pos h, List.getD_eq_getElem?_getD]
theorem tk_flash {T : List (List Nat)} {c m j : Nat} (hc : c ≤ T.length) (h0 : c ≤ j) (h : j < c + 2) : tk (longL T c m) j = List.replicate m 4 := by
  unfold longL tk
  rw [List.getD_eq_getElem?_getD, List.getElem?_append_right (by simp; omega)]
  have hl : (T.take c).length = c := by simp; omega
  rw [hl]
  rcases (show j = c ∨ j = c + 1 by omega) with rfl | rfl
  · simp
  · rw [show c + 1 - c = 1 by omega]; simp
theorem fault_flash0 {S : St} {F : Sf} {m : Nat} (h : m = S.groups.length) : faultV S F (List.replicate m 4) = 0 := by
  unfold faultV
  rw [if_neg (by simp [h]), if_pos]
  exact allIs_yes (fun i hi => by
    have : i < m := by simpa using hi
    simp [lg, this])
theorem flt_long {S : St} {T : List (List Nat)} {c : Nat} (hc : c ≤ T.length) (h : ∀ j, j < c → fltV S T j = 0) : ∀ j, j < c + 2 → fltV S (longL T c S.groups.length) j = 0 := fun j hj => by
  by_cases e : j < c
  · rw [fltV_ext (U := T) (fun i hi => tk_long hc (by omega))]
    exact h j e
  · unfold fltV
    rw [tk_flash hc (by omega) hj]
    exact fault_flash0 rfl
theorem long_len {T : List (List Nat)} {c m : Nat} (hc : c ≤ T.length) : (longL T c m).length = c + 2 := by unfold longL; simp; omega
theorem Trc.take {w : World} {pa : Option Addr} {n : Nat} {T : List (List Nat)} (h : Trc w pa n T) {c : Nat} (hc : c ≤ n) : Trc w pa c (T.take c) := by
  refine ⟨by have := h.size; simp; omega, by have := h.max; omega, fun hp => ?_⟩
  obtain ⟨b, off, rfl, hb, hcell⟩ := h.at_ (by omega)
  refine ⟨b, off, rfl, hb, fun i hi => ?_⟩
  obtain ⟨a, c', h1, h2⟩ := hcell i (by omega)
  rw [tk_take hi]
  exact ⟨a, c', h1, h2⟩

end Go.Proofs.YtcgflfngoaccoaaDoor

