/-
  SITES AS NUMBERS: what a site may be, what lies between phases, condition by condition; no text of the program.
-/
import Derived.Test.YtfhmfanmnhclfaaDoorMaths
import Derived.Test.YtfhmfanmnhclfaaDoorSetM
namespace Go.Proofs.YtfhmfanmnhclfaaDoor
set_option linter.unusedVariables false
set_option linter.unusedSimpArgs false

/-- A group's Kind, Min, Yellow. -/
structure Gr where
  kind : Nat
  min : Int
  yellow : Int
/-- A phase's Groups, Min, Max, Gap, Always. -/
structure Ph where
  groups : Nat
  min : Int
  max : Int
  gap : Int
  always : Bool
/-- An eye's Phase, On, Off, Turns. -/
structure Ey where
  phase : Int
  on : Int
  off : Int
  turns : Int
/-- A plan's Cycle, Offset, Splits. -/
structure Pl where
  cycle : Int
  offset : Int
  splits : List Int
/-- A site. -/
structure St where
  id : Int
  groups : List Gr
  apart : List Nat
  between : List (List Int)
  phases : List Ph
  eyes : List Ey
  watch : Int
  feed : Int
  heal : Int
  low : Int
  high : Int
  plans : List Pl

def g0 : Gr := ⟨0, 0, 0⟩
def p0 : Ph := ⟨0, 0, 0, 0, false⟩
def e0 : Ey := ⟨0, 0, 0, 0⟩
def q0 : Pl := ⟨0, 0, []⟩
def St.gr (S : St) (i : Nat) : Gr := S.groups.getD i g0
def St.ap (S : St) (i : Nat) : Nat := S.apart.getD i 0
def St.bt (S : St) (a b : Nat) : Int := (S.between.getD a []).getD b 0
def St.ph (S : St) (i : Nat) : Ph := S.phases.getD i p0
def St.ey (S : St) (i : Nat) : Ey := S.eyes.getD i e0
def St.pl (S : St) (i : Nat) : Pl := S.plans.getD i q0

def inB (n lo hi : Int) : Bool := decide (lo ≤ n) && decide (n ≤ hi)
theorem inB_iff {n lo hi : Int} : inB n lo hi = true ↔ lo ≤ n ∧ n ≤ hi := by unfold inB; simp
theorem inB_no {n lo hi : Int} : inB n lo hi = false ↔ n < lo ∨ hi < n := by
  unfold inB
  simp only [Bool.and_eq_false_iff, decide_eq_false_iff_not]
  omega
def timeB (n : Int) : Bool := inB n 1 1048576
/-- For each number below n. -/
def allB (n : Nat) (f : Nat → Bool) : Bool := (List.range n).all f
theorem allB_iff {n : Nat} {f : Nat → Bool} : allB n f = true ↔ ∀ i, i < n → f i = true := by unfold allB; simp
theorem allB_no {n i : Nat} {f : Nat → Bool} (hi : i < n) (h : f i = false) : allB n f = false := by
  cases e : allB n f with
  | false => rfl
  | true => rw [allB_iff.1 e i hi] at h; cases h

/-! ### The conditions -/
def countsB (S : St) : Bool := inB S.groups.length 1 16 && decide (S.apart.length = S.groups.length) && decide (S.between.length = S.groups.length) && inB S.phases.length 1 8 && decide (S.eyes.length ≤ 24) && decide (S.plans.length ≤ 8)
def ownB (S : St) : Bool := inB S.id 0 65535 && timeB S.watch && timeB S.feed && timeB S.heal
def groupB (S : St) (i : Nat) : Bool := (decide ((S.gr i).kind = 1) || decide ((S.gr i).kind = 2)) && timeB (S.gr i).min && timeB (S.gr i).yellow
def apartB (S : St) (a : Nat) : Bool := decide (S.ap a < 2 ^ S.groups.length) && !(S.ap a).testBit a && allB S.groups.length (fun b => (S.ap a).testBit b == (S.ap b).testBit a)
def betB (S : St) (a b : Nat) : Bool := if (S.ap a).testBit b = true then inB (S.bt a b) (S.gr a).yellow 1048576 else decide (S.bt a b = 0)
def betweenB (S : St) (a : Nat) : Bool := decide ((S.between.getD a []).length = S.groups.length) && allB S.groups.length (betB S a)
/-- No two groups of a set are apart; each one's Min is at most m. -/
def mateB (S : St) (G : Nat) : Bool := allB S.groups.length (fun a => !G.testBit a || decide (S.ap a &&& G = 0))
def leastB (S : St) (G : Nat) (m : Int) : Bool := allB S.groups.length (fun a => !G.testBit a || decide ((S.gr a).min ≤ m))
def phaseB (S : St) (i : Nat) : Bool := decide ((S.ph i).groups ≠ 0) && decide ((S.ph i).groups < 2 ^ S.groups.length) && mateB S (S.ph i).groups && decide (0 ≤ (S.ph i).min) && leastB S (S.ph i).groups (S.ph i).min && decide ((S.ph i).min ≤ 1048576) && inB (S.ph i).max (S.ph i).min 1048576 && timeB (S.ph i).gap
/-- All groups of the first k phases. -/
def unionN (S : St) : Nat → Nat
  | 0 => 0
  | k + 1 => unionN S k ||| (S.ph k).groups
def servedB (S : St) : Bool := decide (unionN S S.phases.length = 2 ^ S.groups.length - 1)
def eyeB (S : St) (i : Nat) : Bool := inB (S.ey i).phase 0 ((S.phases.length : Int) - 1) && timeB (S.ey i).on && timeB (S.ey i).off && inB (S.ey i).turns 1 64

/-- The greatest of what has P, and 0. -/
def IsMost (P : Int → Prop) (m : Int) : Prop := 0 ≤ m ∧ (m = 0 ∨ P m) ∧ ∀ x, P x → x ≤ m
theorem IsMost.uniq {P : Int → Prop} {m n : Int} (h : IsMost P m) (k : IsMost P n) : m = n := by
  obtain ⟨a, b, c⟩ := h
  obtain ⟨a', b', c'⟩ := k
  have h1 : m ≤ n := by
    rcases b with b | b
    · omega
    · exact c' m b
  have h2 : n ≤ m := by
    rcases b' with b' | b'
    · omega
    · exact c n b'
  omega
theorem IsMost.congr {P Q : Int → Prop} {m : Int} (h : IsMost P m) (e : ∀ x, P x ↔ Q x) : IsMost Q m :=
  ⟨h.1, h.2.1.imp id (fun q => (e m).1 q), fun x hx => h.2.2 x ((e x).2 hx)⟩
theorem IsMost.none : IsMost (fun _ => False) 0 := ⟨Int.le_refl _, .inl rfl, fun _ h => h.elim⟩
theorem IsMost.more {P : Int → Prop} {m : Int} (h : IsMost P m) (x : Int) : IsMost (fun y => P y ∨ y = x) (max m x) := by
  obtain ⟨a, b, c⟩ := h
  refine ⟨by omega, ?_, fun y hy => ?_⟩
  · rcases (show max m x = m ∨ max m x = x by omega) with e | e
    · rw [e]
      rcases b with b | b
      · exact .inl b
      · exact .inr (.inl b)
    · rw [e]; exact .inr (.inr rfl)
  · rcases hy with hy | hy
    · have := c y hy; omega
    · omega
theorem IsMost.le {P : Int → Prop} {m B : Int} (h : IsMost P m) (hB : 0 ≤ B) (k : ∀ x, P x → x ≤ B) : m ≤ B := by
  rcases h.2.1 with e | e
  · omega
  · exact k m e
/-- The greatest of a list, and 0. -/
def mostL : List Int → Int
  | [] => 0
  | x :: l => max x (mostL l)
theorem mostL_is : ∀ l, IsMost (fun x => x ∈ l) (mostL l)
  | [] => IsMost.none.congr (fun x => by simp)
  | y :: l => by
    have h := (mostL_is l).more y
    rw [mostL, Int.max_comm]
    exact h.congr (fun x => by simp [or_comm])
/-- Which numbers lie from one phase to another one. -/
def LiesP (S : St) (f t : Nat) (x : Int) : Prop := ∃ a b, a < S.groups.length ∧ b < S.groups.length ∧ (S.ph f).groups.testBit a = true ∧ (S.ph t).groups.testBit b = true ∧ (S.ap a).testBit b = true ∧ x = S.bt a b
def liesL (S : St) (f t : Nat) : List Int := (List.range S.groups.length).flatMap fun a => ((List.range S.groups.length).filter fun b => (S.ph f).groups.testBit a && ((S.ph t).groups.testBit b && (S.ap a).testBit b)).map (S.bt a)
def liesM (S : St) (f t : Nat) : Int := mostL (liesL S f t)
theorem liesM_is (S : St) (f t : Nat) : IsMost (LiesP S f t) (liesM S f t) := by
  refine (mostL_is _).congr fun x => ?_
  unfold liesL LiesP
  simp only [List.mem_flatMap, List.mem_map, List.mem_filter, List.mem_range, Bool.and_eq_true]
  constructor
  · rintro ⟨a, ha, b, ⟨hb, h1, h2, h3⟩, rfl⟩
    exact ⟨a, b, ha, hb, h1, h2, h3, rfl⟩
  · rintro ⟨a, b, ha, hb, h1, h2, h3, rfl⟩
    exact ⟨a, ha, b, ⟨hb, h1, h2, h3⟩, rfl⟩
theorem liesM_eq {S : St} {f t : Nat} {m : Int} (h : IsMost (LiesP S f t) m) : liesM S f t = m := (liesM_is S f t).uniq h
theorem liesM_ge (S : St) (f t : Nat) : 0 ≤ liesM S f t := (liesM_is S f t).1
/-- A phase's Min, and what lies from it to the next one. -/
def partM (S : St) (i : Nat) : Int := (S.ph i).min + liesM S i ((i + 1) % S.phases.length)
def roundN (S : St) : Nat → Int
  | 0 => 0
  | k + 1 => roundN S k + partM S k
def roundM (S : St) : Int := roundN S S.phases.length
def cyclesB (S : St) : Bool := inB S.low (roundM S) 1048576 && inB S.high S.low 1048576
/-- What is left of a cycle behind k splits, as long as these may be. -/
def splitsB (S : St) : Nat → List Int → Int → Bool
  | _, [], left => decide (left = 0)
  | i, x :: l, left => inB x (partM S i) left && splitsB S (i + 1) l (left - x)
def planB (S : St) (p : Pl) : Bool := inB p.cycle S.low S.high && inB p.offset 0 (p.cycle - 1) && decide (p.splits.length = S.phases.length) && splitsB S 0 p.splits p.cycle
def siteB (S : St) : Bool := countsB S && ownB S && allB S.groups.length (groupB S) && allB S.groups.length (apartB S) && allB S.groups.length (betweenB S) && allB S.phases.length (phaseB S) && servedB S && allB S.eyes.length (eyeB S) && cyclesB S && allB S.plans.length (fun i => planB S (S.pl i))
/-- A plan that may be at all. -/
def mayB (p : Pl) : Bool := timeB p.cycle && inB p.offset 0 (p.cycle - 1) && inB p.splits.length 1 8 && p.splits.all (fun x => inB x 0 1048576)

/-! ### What holds of a site that may be -/
structure Okay (S : St) : Prop where
  ng : 1 ≤ S.groups.length ∧ S.groups.length ≤ 16
  na : S.apart.length = S.groups.length
  nb : S.between.length = S.groups.length
  np : 1 ≤ S.phases.length ∧ S.phases.length ≤ 8
  ne : S.eyes.length ≤ 24
  nl : S.plans.length ≤ 8
theorem counts_iff {S : St} : countsB S = true ↔ Okay S := by
  unfold countsB
  simp only [Bool.and_eq_true, inB_iff, decide_eq_true_eq]
  constructor
  · rintro ⟨⟨⟨⟨⟨h1, h2⟩, h3⟩, h4⟩, h5⟩, h6⟩
    exact ⟨by omega, h2, h3, by omega, h5, h6⟩
  · rintro ⟨h1, h2, h3, h4, h5, h6⟩
    exact ⟨⟨⟨⟨⟨by omega, h2⟩, h3⟩, by omega⟩, h5⟩, h6⟩
theorem getD_mem {α : Type} {l : List α} {d : α} {i : Nat} (h : i < l.length) : l.getD i d ∈ l := by
  have : l.getD i d = l[i] := by simp [h]
  rw [this]; exact List.getElem_mem h

end Go.Proofs.YtfhmfanmnhclfaaDoor
