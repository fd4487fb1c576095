/-
  DETECTORS BEHIND MANY TICKS, in numbers: runs, turns; which phases have one that is believed.
-/
import Derived.Test.YtjfajdmifjbblaaDoorEyeM
import Derived.Test.YtjfajdmifjbblaaDoorSets
namespace Go.Proofs.YtjfajdmifjbblaaDoor
open Go.RowKit Go.Lib Go.Deep
set_option linter.unusedVariables false
set_option linter.unusedSimpArgs false

theorem incG_id {n m : Int} (h : n < m) : incG n m = n + 1 := by unfold incG; split <;> omega
/-- How long the run is that ends in tick k. -/
def rl (L : List Bool) : Nat → Nat
  | 0 => 1
  | k + 1 => if tr L (k + 1) = tr L k then rl L k + 1 else 1
theorem rl_succ (L : List Bool) (k : Nat) : rl L (k + 1) = if tr L (k + 1) = tr L k then rl L k + 1 else 1 := rfl
theorem rl_bd (L : List Bool) : ∀ k, 1 ≤ rl L k ∧ rl L k ≤ k + 1
  | 0 => ⟨Nat.le_refl _, Nat.le_refl _⟩
  | k + 1 => by have := rl_bd L k; rw [rl_succ]; split <;> omega
theorem rl_of {L : List Bool} {s : Nat} : ∀ t, (∀ m, s ≤ m → m ≤ s + t → tr L m = tr L (s + t)) → (s = 0 ∨ tr L (s - 1) ≠ tr L (s + t)) → rl L (s + t) = t + 1
  | 0, h, hs => by
    rw [Nat.add_zero]
    rcases s with _ | s
    · rfl
    · have : tr L s ≠ tr L (s + 1) := by
        rcases hs with hs | hs
        · omega
        · simpa using hs
      rw [rl_succ, if_neg (fun e => this e.symm)]
  | t + 1, h, hs => by
    have e : tr L (s + t + 1) = tr L (s + t) := (h (s + t) (by omega) (by omega)).symm
    have ih := rl_of (s := s) (L := L) t (fun m h1 h2 => by rw [h m h1 (by omega)]; exact e) (by
      rcases hs with hs | hs
      · exact .inl hs
      · exact .inr (fun q => hs (q.trans e.symm)))
    rw [← Nat.add_assoc, rl_succ, if_pos e, ih]
theorem up_succ {e : Ey} {h : Int} {L : List Bool} {k : Nat} (hk : k < L.length) : (atK e h L (k + 1)).up = tr L k := by rw [atK_succ hk]; rfl
theorem same_rl {e : Ey} {h : Int} {L : List Bool} : ∀ k, k < L.length → k ≤ 1000000 → (atK e h L (k + 1)).same = (rl L k : Int)
  | 0, hk, _ => by
    rw [atK_succ hk, atK_zero]
    show samK Lk.zero (tr L 0) = 1
    cases tr L 0 <;> rfl
  | k + 1, hk, hb => by
    have ih := same_rl (e := e) (h := h) (L := L) k (by omega) (by omega)
    rw [atK_succ hk]
    show samK (atK e h L (k + 1)) (tr L (k + 1)) = _
    unfold samK
    rw [up_succ (show k < L.length by omega), rl_succ, ih]
    have := rl_bd L k
    split
    · rw [incG_id (by omega)]; omega
    · rfl
/-- Is tick i a turn? -/
def tB (L : List Bool) (i : Nat) : Bool := tr L i != (match i with | 0 => false | k + 1 => tr L k)
theorem tB_zero (L : List Bool) : tB L 0 = (tr L 0 != false) := rfl
theorem tB_succ (L : List Bool) (k : Nat) : tB L (k + 1) = (tr L (k + 1) != tr L k) := rfl
/-- How many of the last m of k. -/
def tcF (f : Nat → Bool) : Nat → Nat → Nat
  | _, 0 => 0
  | 0, _ + 1 => 0
  | k + 1, m + 1 => (if f k = true then 1 else 0) + tcF f k m
theorem tcF_succ (f : Nat → Bool) (k m : Nat) : tcF f (k + 1) (m + 1) = (if f k = true then 1 else 0) + tcF f k m := rfl
/-- How many of t from lo on. -/
def fbF (f : Nat → Bool) (lo : Nat) : Nat → Nat
  | 0 => 0
  | t + 1 => fbF f lo t + (if f (lo + t) = true then 1 else 0)
theorem fbF_succ (f : Nat → Bool) (lo t : Nat) : fbF f lo (t + 1) = fbF f lo t + (if f (lo + t) = true then 1 else 0) := rfl
theorem fbF_le (f : Nat → Bool) (lo : Nat) : ∀ t, fbF f lo t ≤ t
  | 0 => Nat.le_refl _
  | t + 1 => by have := fbF_le f lo t; rw [fbF_succ]; split <;> omega
theorem tc_fb (f : Nat → Bool) : ∀ (k m : Nat), tcF f k m = fbF f (k - m) (min m k)
  | k, 0 => by rw [Nat.zero_min]; cases k <;> rfl
  | 0, m + 1 => by rw [Nat.min_zero]; rfl
  | k + 1, m + 1 => by
    have ih := tc_fb f k m
    rw [show k + 1 - (m + 1) = k - m by omega, show min (m + 1) (k + 1) = min m k + 1 by omega]
    rw [tcF_succ, fbF_succ, ih, show k - m + min m k = k by omega]
    omega
theorem stand_any0 (m : Nat) : stand 0 m = 0 := by
  unfold stand
  have := cnt_flat 0 0 m (fun j _ _ => Nat.zero_testBit j)
  rw [Nat.zero_add] at this
  show ((cnt (0 : Int).toNat (m : Int).toNat : Nat) : Int) = 0
  rw [show (0 : Int).toNat = 0 from rfl, show ((m : Nat) : Int).toNat = m by omega, this]
  rfl
theorem turn_succ {e : Ey} {h : Int} {L : List Bool} : ∀ {k : Nat}, k < L.length → (atK e h L (k + 1)).turns = lasG (atK e h L k).turns (tB L k)
  | 0, hk => by rw [atK_succ hk]; rfl
  | k + 1, hk => by
    rw [atK_succ hk]
    show lasG (atK e h L (k + 1)).turns (tr L (k + 1) != (atK e h L (k + 1)).up) = _
    rw [up_succ (show k < L.length by omega), tB_succ]
theorem stand_tc {e : Ey} {h : Int} (hh : h ≤ 1048576) {L : List Bool} : ∀ (k m : Nat), k ≤ L.length → m ≤ 64 → stand (atK e h L k).turns (m : Int) = (tcF (tB L) k m : Int)
  | _, 0, _, _ => by simp only [tcF]; rfl
  | 0, m + 1, _, _ => stand_any0 (m + 1)
  | k + 1, m + 1, hk, hm => by
    have ih := stand_tc (e := e) hh (L := L) k m (by omega) (by omega)
    obtain ⟨_, h0, _⟩ := may_atK (e := e) hh (L := L) k (by omega)
    rw [turn_succ (show k < L.length by omega), stand_las _ _ m h0 (by omega), ih]
    rw [tcF_succ]
    split <;> omega
/-- How many of the last 64 ticks up to k are turns. -/
def tuN (L : List Bool) (k : Nat) : Nat := fbF (tB L) (k - 63) (min 63 k + 1)
theorem tuN_is {e : Ey} {h : Int} (hh : h ≤ 1048576) {L : List Bool} {k : Nat} (hk : k < L.length) : stand (atK e h L (k + 1)).turns 64 = (tuN L k : Int) := by
  have := stand_tc (e := e) hh (L := L) (k + 1) 64 (by omega) (by omega)
  rw [show ((64 : Nat) : Int) = 64 from rfl] at this
  rw [this, tc_fb]
  unfold tuN
  rw [show k + 1 - 64 = k - 63 by omega, show min 64 (k + 1) = min 63 k + 1 by omega]
theorem tuN_le (L : List Bool) (k : Nat) : tuN L k ≤ 64 := by unfold tuN; have := fbF_le (tB L) (k - 63) (min 63 k + 1); omega
/-- Ill in tick k, by what was said up to it. -/
def ilB (e : Ey) (L : List Bool) (k : Nat) : Bool := (tr L k && decide (e.on ≤ (rl L k : Int))) || ((!tr L k && decide (e.off ≤ (rl L k : Int))) || decide (e.turns < (tuN L k : Int)))
theorem ilB_is {e : Ey} {h : Int} (hh : h ≤ 1048576) {L : List Bool} {k : Nat} (hk : k < L.length) (hb : k ≤ 1000000) : illK e (tr L k) (samK (atK e h L k) (tr L k)) (turK (atK e h L k) (tr L k)) = ilB e L k := by
  have h1 := same_rl (e := e) (h := h) k hk hb
  have h2 := tuN_is (e := e) hh hk
  rw [atK_succ hk] at h1 h2
  have h1' : samK (atK e h L k) (tr L k) = (rl L k : Int) := h1
  have h2' : stand (turK (atK e h L k) (tr L k)) 64 = (tuN L k : Int) := h2
  unfold illK ilB
  rw [h1', h2']

/-! ### Phases -/
/-- The phases of the first k. -/
def wchN (P : Nat → Int) : Nat → Nat
  | 0 => 0
  | k + 1 => withV (wchN P k) (P k)
/-- The phases of those of the first k that B tells of. -/
def belN (P : Nat → Int) (B : Nat → Bool) : Nat → Nat
  | 0 => 0
  | k + 1 => if B k = true then withV (belN P B k) (P k) else belN P B k
theorem wchN_succ (P : Nat → Int) (k : Nat) : wchN P (k + 1) = withV (wchN P k) (P k) := rfl
theorem belN_yes {P : Nat → Int} {B : Nat → Bool} {k : Nat} (h : B k = true) : belN P B (k + 1) = withV (belN P B k) (P k) := if_pos h
theorem belN_no {P : Nat → Int} {B : Nat → Bool} {k : Nat} (h : B k = false) : belN P B (k + 1) = belN P B k := if_neg (by rw [h]; decide)
theorem wchN_lt (P : Nat → Int) : ∀ k, wchN P k < 4294967296
  | 0 => by show 0 < _; decide
  | k + 1 => withV_lt (wchN_lt P k) _
theorem belN_lt (P : Nat → Int) (B : Nat → Bool) : ∀ k, belN P B k < 4294967296
  | 0 => by show 0 < _; decide
  | k + 1 => by
    cases h : B k
    · rw [belN_no h]; exact belN_lt P B k
    · rw [belN_yes h]; exact withV_lt (belN_lt P B k) _
theorem with_bit {S p : Nat} (hp : p < 32) (j : Nat) : (withV S (p : Int)).testBit j = (S.testBit j || decide (p = j)) := by
  rw [with_in hp, Nat.testBit_or, Nat.testBit_two_pow]
theorem bel_bit {P : Nat → Int} {B : Nat → Bool} (hP : ∀ i, 0 ≤ P i ∧ P i < 32) (j : Nat) : ∀ k, (belN P B k).testBit j = true ↔ ∃ i, i < k ∧ B i = true ∧ P i = (j : Int)
  | 0 => by
    constructor
    · intro h; simp [belN] at h
    · rintro ⟨i, hi, _⟩; omega
  | k + 1 => by
    have ih := bel_bit (B := B) hP j k
    obtain ⟨p, hp⟩ : ∃ p : Nat, P k = (p : Int) := ⟨(P k).toNat, by have := hP k; omega⟩
    cases h : B k
    · rw [belN_no h, ih]
      constructor
      · rintro ⟨i, a, b⟩; exact ⟨i, by omega, b⟩
      · rintro ⟨i, a, b, c⟩
        by_cases e : i = k
        · rw [e, h] at b; cases b
        · exact ⟨i, by omega, b, c⟩
    · rw [belN_yes h, hp, with_bit (by have := hP k; omega), Bool.or_eq_true, ih]
      constructor
      · rintro (⟨i, a, b⟩ | q)
        · exact ⟨i, by omega, b⟩
        · have := of_decide_eq_true q
          exact ⟨k, by omega, h, by rw [hp, this]⟩
      · rintro ⟨i, a, b, c⟩
        by_cases e : i = k
        · right
          subst e
          exact decide_eq_true (by omega)
        · exact .inl ⟨i, by omega, b, c⟩
theorem wch_bel (P : Nat → Int) : ∀ k, wchN P k = belN P (fun _ => true) k
  | 0 => rfl
  | k + 1 => by rw [wchN_succ, belN_yes rfl, wch_bel P k]
/-- Has each of the n a mate of its phase that B tells of? -/
def welB (P : Nat → Int) (B : Nat → Bool) (n : Nat) : Bool := allB n (fun i => !allB n (fun k => !(decide (P k = P i) && B k)))
theorem welB_iff {P : Nat → Int} {B : Nat → Bool} {n : Nat} : welB P B n = true ↔ ∀ i, i < n → ∃ k, k < n ∧ P k = P i ∧ B k = true := by
  unfold welB
  rw [allB_iff]
  constructor
  · intro h i hi
    have h2 := h i hi
    by_cases e : ∃ k, k < n ∧ P k = P i ∧ B k = true
    · exact e
    · exfalso
      have : allB n (fun k => !(decide (P k = P i) && B k)) = true := allB_iff.2 (fun k hk => by
        by_cases e1 : P k = P i
        · cases e2 : B k
          · simp
          · exact absurd ⟨k, hk, e1, e2⟩ e
        · simp [e1])
      rw [this] at h2
      cases h2
  · intro h i hi
    obtain ⟨k, hk, e1, e2⟩ := h i hi
    rw [allB_no hk (by simp [e1, e2])]
    rfl
theorem wch_eq {P : Nat → Int} {B : Nat → Bool} (hP : ∀ i, 0 ≤ P i ∧ P i < 32) (n : Nat) : decide (wchN P n = belN P B n) = welB P B n := by
  have key : wchN P n = belN P B n ↔ welB P B n = true := by
    rw [welB_iff, wch_bel]
    constructor
    · intro h i hi
      obtain ⟨p, hp⟩ : ∃ p : Nat, P i = (p : Int) := ⟨(P i).toNat, by have := hP i; omega⟩
      have h1 : (belN P (fun _ => true) n).testBit p = true := (bel_bit hP p n).2 ⟨i, hi, rfl, hp⟩
      rw [h] at h1
      obtain ⟨k, hk, hb, e⟩ := (bel_bit hP p n).1 h1
      exact ⟨k, hk, e.trans hp.symm, hb⟩
    · intro h
      refine Nat.eq_of_testBit_eq fun j => ?_
      have h1 := bel_bit (B := fun _ => true) hP j n
      have h2 := bel_bit (B := B) hP j n
      have : (belN P (fun _ => true) n).testBit j = true ↔ (belN P B n).testBit j = true := by
        rw [h1, h2]
        constructor
        · rintro ⟨i, hi, _, e⟩
          obtain ⟨k, hk, e1, e2⟩ := h i hi
          exact ⟨k, hk, e2, e1.trans e⟩
        · rintro ⟨i, hi, _, e⟩; exact ⟨i, hi, rfl, e⟩
      cases h3 : (belN P (fun _ => true) n).testBit j <;> cases h4 : (belN P B n).testBit j
      · rfl
      · rw [h4] at this; simp [h3] at this
      · rw [h3] at this; simp [h4] at this
      · rfl
  cases h : welB P B n
  · exact decide_eq_false (fun e => by rw [key.1 e] at h; cases h)
  · exact decide_eq_true (key.2 h)

end Go.Proofs.YtjfajdmifjbblaaDoor
