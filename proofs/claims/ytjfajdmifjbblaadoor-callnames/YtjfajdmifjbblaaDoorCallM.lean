/-
  WHO IS CALLED, in numbers: the phases that are wanted, the calls a tick later; what the program's and the document's reckonings come to.
-/
import Derived.Test.YtjfajdmifjbblaaDoorCallA
import Derived.Test.YtjfajdmifjbblaaDoorEyeL
namespace Go.Proofs.YtjfajdmifjbblaaDoor
open Go.RowKit Go.Lib Go.Deep
set_option linter.unusedVariables false
set_option linter.unusedSimpArgs false

/-- Does one of the first n that B tells of belong to p? -/
def anyW (P : Nat → Int) (B : Nat → Bool) (p : Int) : Nat → Bool
  | 0 => false
  | k + 1 => anyW P B p k || (decide (P k = p) && B k)
theorem anyW_succ (P : Nat → Int) (B : Nat → Bool) (p : Int) (k : Nat) : anyW P B p (k + 1) = (anyW P B p k || (decide (P k = p) && B k)) := rfl
theorem anyW_iff {P : Nat → Int} {B : Nat → Bool} {p : Int} : ∀ k, anyW P B p k = true ↔ ∃ i, i < k ∧ B i = true ∧ P i = p
  | 0 => by
    constructor
    · intro h; cases h
    · rintro ⟨i, hi, _⟩; omega
  | k + 1 => by
    have ih := anyW_iff (P := P) (B := B) (p := p) k
    rw [anyW_succ, Bool.or_eq_true, ih, Bool.and_eq_true, decide_eq_true_eq]
    constructor
    · rintro (⟨i, a, b⟩ | ⟨a, b⟩)
      · exact ⟨i, by omega, b⟩
      · exact ⟨k, by omega, b, a⟩
    · rintro ⟨i, a, b, d⟩
      by_cases e : i = k
      · subst e; exact .inr ⟨d, b⟩
      · exact .inl ⟨i, by omega, b, d⟩
def eyP (S : St) (i : Nat) : Int := (S.ey i).phase
def wnt (L : List Lk) (i : Nat) : Bool := (lk L i).up || (lk L i).bad
def alw (S : St) (i : Nat) : Bool := (S.ph i).always
def idN (i : Nat) : Int := (i : Int)
/-- Is phase p wanted? -/
def wantB (S : St) (L : List Lk) (p : Nat) : Bool := (decide (p < S.phases.length) && alw S p) || anyW (eyP S) (wnt L) (p : Int) L.length
/-- The phases that are always wanted, of the first k; and those besides that detectors want. -/
def alwN (S : St) (k : Nat) : Nat := belA 0 idN (alw S) k
def wanK (S : St) (L : List Lk) (k : Nat) : Nat := belA (alwN S S.phases.length) (eyP S) (wnt L) k
def wanN (S : St) (L : List Lk) : Nat := wanK S L L.length
theorem alwN_lt (S : St) (k : Nat) : alwN S k < 4294967296 := belA_lt (by decide) _ _ k
theorem wanK_lt (S : St) (L : List Lk) (k : Nat) : wanK S L k < 4294967296 := belA_lt (alwN_lt S _) _ _ k
theorem wanN_lt (S : St) (L : List Lk) : wanN S L < 4294967296 := wanK_lt S L _
/-- What a site that may be tells. -/
structure CalF (S : St) : Prop where
  p0 : 1 ≤ S.phases.length
  p1 : S.phases.length ≤ 8
  e1 : S.eyes.length ≤ 24
  ey : ∀ i, i < S.eyes.length → 0 ≤ eyP S i ∧ eyP S i < (S.phases.length : Int)
theorem cal_facts {S : St} (hs : siteB S = true) : CalF S := by
  have hf := eye_facts hs
  have h1 : 1 ≤ S.phases.length := by
    have hs' := hs
    unfold siteB countsB at hs'
    simp only [Bool.and_eq_true, inB_iff, decide_eq_true_eq] at hs'
    omega
  exact ⟨h1, hf.p, hf.n, fun i hi => by have := hf.ey i hi; unfold eyP; omega⟩
theorem wan_bit {S : St} {L : List Lk} (hs : siteB S = true) (hl : L.length = S.eyes.length) (j : Nat) : (wanN S L).testBit j = wantB S L j := by
  have hf := cal_facts hs
  have hp := hf.p1
  have key : (wanN S L).testBit j = true ↔ wantB S L j = true := by
    unfold wanN wanK alwN wantB
    rw [belA_bit j _ (fun i hi => by have := hf.ey i (by omega); omega), belA_bit j _ (fun i hi => by unfold idN; omega), Bool.or_eq_true, anyW_iff, Bool.and_eq_true, decide_eq_true_eq]
    constructor
    · rintro ((h | ⟨i, h1, h2, h3⟩) | h)
      · simp at h
      · unfold idN at h3
        obtain rfl : i = j := by omega
        exact .inl ⟨h1, h2⟩
      · exact .inr h
    · rintro (⟨h1, h2⟩ | h)
      · exact .inl (.inr ⟨j, h1, h2, rfl⟩)
      · exact .inr h
  cases h : wantB S L j
  · cases e : (wanN S L).testBit j
    · rfl
    · rw [key.1 e] at h; cases h
  · exact key.2 h
theorem want_far {S : St} {L : List Lk} (hs : siteB S = true) (hl : L.length = S.eyes.length) {j : Nat} (hj : S.phases.length ≤ j) : wantB S L j = false := by
  have hf := cal_facts hs
  unfold wantB
  rw [decide_eq_false (by omega), Bool.false_and, Bool.false_or]
  cases e : anyW (eyP S) (wnt L) (j : Int) L.length
  · rfl
  · obtain ⟨i, h1, _, h3⟩ := (anyW_iff _).1 e
    have := hf.ey i (by omega)
    omega
/-- Gathered number by number it is the same. -/
theorem gather {T n : Nat} (B : Nat → Bool) (h32 : n ≤ 32) (h : ∀ j, T.testBit j = (decide (j < n) && B j)) : belA 0 idN B n = T := by
  refine Nat.eq_of_testBit_eq fun j => ?_
  have hb := belA_bit (A := 0) (P := idN) (B := B) j n (fun i hi => by unfold idN; omega)
  rw [h j]
  cases e : (decide (j < n) && B j)
  · cases e2 : (belA 0 idN B n).testBit j
    · rfl
    · rcases hb.1 e2 with q | ⟨i, h1, h2, h3⟩
      · simp at q
      · unfold idN at h3
        obtain rfl : i = j := by omega
        rw [decide_eq_true h1, h2] at e
        cases e
  · rw [Bool.and_eq_true, decide_eq_true_eq] at e
    exact hb.2 (.inr ⟨j, e.1, e.2, rfl⟩)
/-- The document's Real. -/
def reaK (S : St) (L : List Lk) (k : Nat) : Nat := belA 0 idN (wantB S L) k
theorem reaK_lt (S : St) (L : List Lk) (k : Nat) : reaK S L k < 4294967296 := belA_lt (by decide) _ _ k
theorem rea_is {S : St} {L : List Lk} (hs : siteB S = true) (hl : L.length = S.eyes.length) : reaK S L S.phases.length = wanN S L :=
  gather _ (by have := (cal_facts hs).p1; omega) (fun j => by
    rw [wan_bit hs hl]
    by_cases e : j < S.phases.length
    · rw [decide_eq_true e, Bool.true_and]
    · rw [decide_eq_false e, Bool.false_and, want_far hs hl (by omega)])
/-- The calls a tick later. -/
def nxtN (S : St) (c : Nat) (L : List Lk) (g : Int) : Nat := withoutV (c ||| wanN S L) g
theorem or_lt32 {a b : Nat} (ha : a < 4294967296) (hb : b < 4294967296) : a ||| b < 4294967296 := Nat.or_lt_two_pow (n := 32) ha hb
theorem nxtN_lt {S : St} {c : Nat} {L : List Lk} {g : Int} (hc : c < 4294967296) : nxtN S c L g < 4294967296 := withoutV_lt (or_lt32 hc (wanN_lt S L)) g
theorem nxt_bit {S : St} {c : Nat} {L : List Lk} {g : Int} (hc : c < 4294967296) (hs : siteB S = true) (hl : L.length = S.eyes.length) (j : Nat) : (nxtN S c L g).testBit j = ((c.testBit j || wantB S L j) && !decide ((j : Int) = g)) := by
  unfold nxtN
  rw [without_bits (or_lt32 hc (wanN_lt S L)), Nat.testBit_or, wan_bit hs hl]
/-- The document's Next. -/
def nexB (S : St) (c : Nat) (L : List Lk) (g : Int) (p : Nat) : Bool := !decide ((p : Int) = g) && (hasB c (p : Int) || hasB (wanN S L) (p : Int))
def nexK (S : St) (c : Nat) (L : List Lk) (g : Int) (k : Nat) : Nat := belA 0 idN (nexB S c L g) k
theorem nexK_lt (S : St) (c : Nat) (L : List Lk) (g : Int) (k : Nat) : nexK S c L g k < 4294967296 := belA_lt (by decide) _ _ k
theorem pow_le8 {n : Nat} (h : n ≤ 8) : 2 ^ n ≤ 256 := Nat.pow_le_pow_right (n := 2) (by omega) h
theorem nex_is {S : St} {c : Nat} {L : List Lk} {g : Int} (hs : siteB S = true) (hl : L.length = S.eyes.length) (hc : c < 2 ^ S.phases.length) : nexK S c L g S.phases.length = nxtN S c L g := by
  have hp := (cal_facts hs).p1
  have hc2 : c < 4294967296 := by have := pow_le8 hp; omega
  refine gather _ (by omega) (fun j => ?_)
  rw [nxt_bit hc2 hs hl]
  by_cases e : j < S.phases.length
  · rw [decide_eq_true e, Bool.true_and]
    unfold nexB
    rw [has_in (by omega), has_in (by omega), wan_bit hs hl, Bool.and_comm]
  · rw [decide_eq_false e, Bool.false_and, want_far hs hl (by omega)]
    cases q : c.testBit j
    · rfl
    · exact absurd (bits_lt hc q) e
/-- The errors. -/
def calE (S : St) (c : Nat) (g : Int) : Int := if c < 2 ^ S.phases.length then (if -1 ≤ g ∧ g < (S.phases.length : Int) then 0 else 2) else 8
def nexE (S : St) (c : Nat) (L : List Lk) (g : Int) : Int := if allE S L = 0 then calE S c g else allE S L
def firE (S : St) (c : Nat) (g : Int) : Int := if siteB S = true then calE S c g else 50
def reaV (S : St) (L : List Lk) : Nat := if allE S L = 0 then wanN S L else 0
def nexV (S : St) (c : Nat) (L : List Lk) (g : Int) : Nat := if nexE S c L g = 0 then nxtN S c L g else 0
def fstV (S : St) (c : Nat) (g : Int) : Int := if firE S c g = 0 then firV c S.phases.length (g + 1).toNat else 0
theorem calE_bad {S : St} {c : Nat} {g : Int} (h : ¬ c < 2 ^ S.phases.length) : calE S c g = 8 := by unfold calE; rw [if_neg h]
theorem calE_arg {S : St} {c : Nat} {g : Int} (h : c < 2 ^ S.phases.length) (h2 : ¬ (-1 ≤ g ∧ g < (S.phases.length : Int))) : calE S c g = 2 := by unfold calE; rw [if_pos h, if_neg h2]
theorem calE_ok {S : St} {c : Nat} {g : Int} (h : c < 2 ^ S.phases.length) (h2 : -1 ≤ g ∧ g < (S.phases.length : Int)) : calE S c g = 0 := by unfold calE; rw [if_pos h, if_pos h2]
theorem calE_zero {S : St} {c : Nat} {g : Int} (h : calE S c g = 0) : c < 2 ^ S.phases.length ∧ -1 ≤ g ∧ g < (S.phases.length : Int) := by
  unfold calE at h
  split at h
  · split at h
    · rename_i a b; exact ⟨a, b.1, b.2⟩
    · omega
  · omega
theorem nexE_zero {S : St} {c : Nat} {L : List Lk} {g : Int} (h : nexE S c L g = 0) : allE S L = 0 ∧ calE S c g = 0 := by
  unfold nexE at h
  split at h
  · rename_i a; exact ⟨a, h⟩
  · rename_i a; exact absurd h a
theorem firE_zero {S : St} {c : Nat} {g : Int} (h : firE S c g = 0) : siteB S = true ∧ calE S c g = 0 := by
  unfold firE at h
  split at h
  · rename_i a; exact ⟨a, h⟩
  · omega
/-- No bit at n or beyond. -/
theorem shr_zero {c n : Nat} : (((c : Int) / 2 ^ n != 0) : Bool) = !decide (c < 2 ^ n) := by
  have e : (c : Int) / 2 ^ n = ((c / 2 ^ n : Nat) : Int) := by simp
  rw [e]
  by_cases h : c < 2 ^ n
  · rw [Nat.div_eq_of_lt h, decide_eq_true h]; rfl
  · have h1 : 0 < c / 2 ^ n := Nat.div_pos (by omega) (Nat.two_pow_pos _)
    rw [decide_eq_false h]
    simp
    omega

end Go.Proofs.YtjfajdmifjbblaaDoor
