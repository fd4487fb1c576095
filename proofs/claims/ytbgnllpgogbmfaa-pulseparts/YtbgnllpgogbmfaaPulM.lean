/-
  A DETECTOR'S PULSE, in numbers: a tick later, behind many ticks, what it says.
-/
import Derived.Test.YtbgnllpgogbmfaaBoM
namespace Go.Proofs.Ytbgnllpgogbmfaa
open Go.RowKit Go.Lib Go.Deep
set_option linter.unusedVariables false
set_option linter.unusedSimpArgs false

theorem Hid.mk' {p : Prop} (h : p) : Hid p := h
structure Pu where
  up : Bool
  raw : Bool
  since : Int
abbrev Pu.zero : Pu := ⟨false, false, 0⟩
abbrev puV (p : Pu) : Value := .agg #[.bool p.up, .bool p.raw, .int .i64 p.since]
def sncP (p : Pu) (r : Bool) : Int := if r = p.raw then (if p.since + 1 < 1048576 then p.since + 1 else 1048576) else 1
def upP (h : Int) (p : Pu) (r : Bool) : Bool := if h ≤ sncP p r then r else p.up
def stepP (h : Int) (p : Pu) (r : Bool) : Pu := ⟨upP h p r, r, sncP p r⟩
def runP (h : Int) (p : Pu) (L : List Bool) : Pu := L.foldl (stepP h) p
/-- Behind the first k ticks. -/
def atP (h : Int) (p : Pu) (L : List Bool) (k : Nat) : Pu := runP h p (L.take k)
/-- What it says behind each tick. -/
def saidP (h : Int) (p : Pu) (L : List Bool) : List Bool := (List.range L.length).map fun i => (atP h p L (i + 1)).up
def mayP (p : Pu) : Bool := decide (0 ≤ p.since ∧ p.since ≤ 1048576)
def holB (h : Int) : Bool := decide (1 ≤ h ∧ h ≤ 1048576)
def nexE (p : Pu) (h : Int) : Int := if mayP p = true then (if holB h = true then 0 else 2) else 8
def runE (p : Pu) (n : Nat) (h : Int) : Int := if mayP p = true then (if 4096 < n then 4 else if holB h = true then 0 else 2) else 8
theorem atP_zero (h : Int) (p : Pu) (L : List Bool) : atP h p L 0 = p := rfl
theorem take_snoc {L : List Bool} {k : Nat} (hk : k < L.length) : L.take (k + 1) = L.take k ++ [tr L k] := by
  rw [List.take_add_one, List.getElem?_eq_getElem hk]
  simp [tr, hk]
theorem atP_succ (h : Int) (p : Pu) {L : List Bool} {k : Nat} (hk : k < L.length) : atP h p L (k + 1) = stepP h (atP h p L k) (tr L k) := by
  unfold atP runP
  rw [take_snoc hk, List.foldl_append]
  rfl
theorem atP_all (h : Int) (p : Pu) (L : List Bool) : atP h p L L.length = runP h p L := by unfold atP; rw [List.take_length]
theorem saidP_len (h : Int) (p : Pu) (L : List Bool) : (saidP h p L).length = L.length := by simp [saidP]
theorem saidP_take (h : Int) (p : Pu) {L : List Bool} {k : Nat} (hk : k < L.length) : (saidP h p L).take (k + 1) = (saidP h p L).take k ++ [(atP h p L (k + 1)).up] := by
  have e := take_snoc (L := saidP h p L) (k := k) (by rw [saidP_len]; exact hk)
  rw [e]
  simp [tr, saidP, hk]
theorem tr_said (h : Int) (p : Pu) {L : List Bool} {k : Nat} (hk : k < L.length) : tr (saidP h p L) k = (atP h p L (k + 1)).up := by
  simp [tr, saidP, hk]
theorem sncP_ge (p : Pu) (r : Bool) (hp : 0 ≤ p.since) : 0 ≤ sncP p r := by unfold sncP; repeat' split <;> omega
theorem sncP_le (p : Pu) (r : Bool) : sncP p r ≤ 1048576 := by unfold sncP; repeat' split <;> omega
theorem may_step {h : Int} {p : Pu} {r : Bool} (hp : mayP p = true) : mayP (stepP h p r) = true := by
  have h1 : 0 ≤ p.since := (of_decide_eq_true hp).1
  exact decide_eq_true ⟨sncP_ge p r h1, sncP_le p r⟩
theorem may_run {h : Int} : ∀ {L : List Bool} {p : Pu}, mayP p = true → mayP (runP h p L) = true
  | [], _, hp => hp
  | r :: L, p, hp => may_run (L := L) (p := stepP h p r) (may_step hp)
theorem may_at {h : Int} {p : Pu} {L : List Bool} {k : Nat} (hp : mayP p = true) : mayP (atP h p L k) = true := may_run hp
theorem runP_append (h : Int) (p : Pu) (L M : List Bool) : runP h p (L ++ M) = runP h (runP h p L) M := List.foldl_append
theorem atP_take (h : Int) (p : Pu) {L : List Bool} {k a : Nat} (hk : k ≤ a) : atP h p (L.take a) k = atP h p L k := by
  unfold atP; rw [List.take_take, Nat.min_eq_left hk]
theorem atP_drop (h : Int) (p : Pu) {L : List Bool} {k a : Nat} (ha : a ≤ L.length) : atP h (atP h p L a) (L.drop a) k = atP h p L (a + k) := by
  unfold atP
  rw [List.take_add, runP_append]
theorem saidP_parts (h : Int) (p : Pu) {L : List Bool} {a : Nat} (ha : a ≤ L.length) : saidP h p (L.take a) ++ saidP h (runP h p (L.take a)) (L.drop a) = saidP h p L := by
  apply List.ext_getElem?
  intro i
  by_cases h1 : i < a
  · rw [List.getElem?_append_left (by rw [saidP_len, List.length_take]; omega)]
    unfold saidP
    rw [List.getElem?_map, List.getElem?_map, List.getElem?_range (by simp; omega), List.getElem?_range (by omega)]
    show some (atP h p (L.take a) (i + 1)).up = some (atP h p L (i + 1)).up
    rw [atP_take h p (show i + 1 ≤ a by omega)]
  · rw [List.getElem?_append_right (by rw [saidP_len, List.length_take]; omega), saidP_len, List.length_take, Nat.min_eq_left ha]
    by_cases h2 : i < L.length
    · unfold saidP
      rw [List.getElem?_map, List.getElem?_map, List.getElem?_range (by simp; omega), List.getElem?_range h2]
      show some (atP h (runP h p (L.take a)) (L.drop a) (i - a + 1)).up = some (atP h p L (i + 1)).up
      have e := atP_drop h p (L := L) (k := i - a + 1) ha
      rw [show a + (i - a + 1) = i + 1 by omega] at e
      rw [← e]
      rfl
    · rw [List.getElem?_eq_none (by rw [saidP_len]; simp; omega), List.getElem?_eq_none (by rw [saidP_len]; omega)]

end Go.Proofs.Ytbgnllpgogbmfaa
