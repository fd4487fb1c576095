/-
  Of the text StM: what this stage needs (culled by a program).
-/
import Derived.Test.YtnmfigcemknjbaaMaths
import Derived.Below
namespace Go.Proofs.Ytnmfigcemknjbaa
set_option linter.unusedVariables false
set_option linter.unusedSimpArgs false

/-- A group's Kind, Min, Yellow. -/
structure Gr where
  kind : Nat
  min : Int
  yellow : Int
/-- A phase's Groups, Min, Max, Gap, Always. -/
structure Ph where
  groups : Nat
  min : Int
  max : Int
  gap : Int
  always : Bool
/-- An eye's Phase, On, Off, Turns. -/
structure Ey where
  phase : Int
  on : Int
  off : Int
  turns : Int
/-- A plan's Cycle, Offset, Splits. -/
structure Pl where
  cycle : Int
  offset : Int
  splits : List Int
/-- A site. -/
structure St where
  id : Int
  groups : List Gr
  apart : List Nat
  between : List (List Int)
  phases : List Ph
  eyes : List Ey
  watch : Int
  feed : Int
  heal : Int
  low : Int
  high : Int
  plans : List Pl

def g0 : Gr := ⟨0, 0, 0⟩
def p0 : Ph := ⟨0, 0, 0, 0, false⟩
def e0 : Ey := ⟨0, 0, 0, 0⟩
def q0 : Pl := ⟨0, 0, []⟩
def St.gr (S : St) (i : Nat) : Gr := S.groups.getD i g0
def St.ap (S : St) (i : Nat) : Nat := S.apart.getD i 0
def St.bt (S : St) (a b : Nat) : Int := (S.between.getD a []).getD b 0
def St.ph (S : St) (i : Nat) : Ph := S.phases.getD i p0
def St.ey (S : St) (i : Nat) : Ey := S.eyes.getD i e0
def St.pl (S : St) (i : Nat) : Pl := S.plans.getD i q0

def inB (n lo hi : Int) : Bool := decide (lo ≤ n) && decide (n ≤ hi)
theorem inB_iff {n lo hi : Int} : inB n lo hi = true ↔ lo ≤ n ∧ n ≤ hi := by unfold inB; simp
def timeB (n : Int) : Bool := inB n 1 1048576
/-- For each number below n. -/
def allB (n : Nat) (f : Nat → Bool) : Bool := (List.range n).all f
theorem allB_iff {n : Nat} {f : Nat → Bool} : allB n f = true ↔ ∀ i, i < n → f i = true := by unfold allB; simp
theorem allB_no {n i : Nat} {f : Nat → Bool} (hi : i < n) (h : f i = false) : allB n f = false := by
  cases e : allB n f with
  | false => rfl
  | true => rw [allB_iff.1 e i hi] at h; cases h

/-! ### The conditions -/
/-- The greatest of what has P, and 0. -/
def IsMost (P : Int → Prop) (m : Int) : Prop := 0 ≤ m ∧ (m = 0 ∨ P m) ∧ ∀ x, P x → x ≤ m
theorem IsMost.congr {P Q : Int → Prop} {m : Int} (h : IsMost P m) (e : ∀ x, P x ↔ Q x) : IsMost Q m :=
  ⟨h.1, h.2.1.imp id (fun q => (e m).1 q), fun x hx => h.2.2 x ((e x).2 hx)⟩
theorem IsMost.none : IsMost (fun _ => False) 0 := ⟨Int.le_refl _, .inl rfl, fun _ h => h.elim⟩
theorem IsMost.more {P : Int → Prop} {m : Int} (h : IsMost P m) (x : Int) : IsMost (fun y => P y ∨ y = x) (max m x) := by
  obtain ⟨a, b, c⟩ := h
  refine ⟨by omega, ?_, fun y hy => ?_⟩
  · rcases (show max m x = m ∨ max m x = x by omega) with e | e
    · rw [e]
      rcases b with b | b
      · exact .inl b
      · exact .inr (.inl b)
    · rw [e]; exact .inr (.inr rfl)
  · rcases hy with hy | hy
    · have := c y hy; omega
    · omega
theorem IsMost.le {P : Int → Prop} {m B : Int} (h : IsMost P m) (hB : 0 ≤ B) (k : ∀ x, P x → x ≤ B) : m ≤ B := by
  rcases h.2.1 with e | e
  · omega
  · exact k m e
/-- The greatest of a list, and 0. -/
def mostL : List Int → Int
  | [] => 0
  | x :: l => max x (mostL l)
theorem mostL_is : ∀ l, IsMost (fun x => x ∈ l) (mostL l)
  | [] => IsMost.none.congr (fun x => by simp)
  | y :: l => by
    have h := (mostL_is l).more y
    rw [mostL, Int.max_comm]
    exact h.congr (fun x => by simp [or_comm])
/-- Which numbers lie from one phase to another one. -/
def LiesP (S : St) (f t : Nat) (x : Int) : Prop := ∃ a b, a < S.groups.length ∧ b < S.groups.length ∧ (S.ph f).groups.testBit a = true ∧ (S.ph t).groups.testBit b = true ∧ (S.ap a).testBit b = true ∧ x = S.bt a b
def liesL (S : St) (f t : Nat) : List Int := (List.range S.groups.length).flatMap fun a => ((List.range S.groups.length).filter fun b => (S.ph f).groups.testBit a && ((S.ph t).groups.testBit b && (S.ap a).testBit b)).map (S.bt a)
def liesM (S : St) (f t : Nat) : Int := mostL (liesL S f t)
theorem liesM_is (S : St) (f t : Nat) : IsMost (LiesP S f t) (liesM S f t) := by
  refine (mostL_is _).congr fun x => ?_
  unfold liesL LiesP
  simp only [List.mem_flatMap, List.mem_map, List.mem_filter, List.mem_range, Bool.and_eq_true]
  constructor
  · rintro ⟨a, ha, b, ⟨hb, h1, h2, h3⟩, rfl⟩
    exact ⟨a, b, ha, hb, h1, h2, h3, rfl⟩
  · rintro ⟨a, b, ha, hb, h1, h2, h3, rfl⟩
    exact ⟨a, ha, b, ⟨hb, h1, h2, h3⟩, rfl⟩
theorem liesM_ge (S : St) (f t : Nat) : 0 ≤ liesM S f t := (liesM_is S f t).1
/-- A phase's Min, and what lies from it to the next one. -/
def partM (S : St) (i : Nat) : Int := (S.ph i).min + liesM S i ((i + 1) % S.phases.length)
def roundN (S : St) : Nat → Int
  | 0 => 0
  | k + 1 => roundN S k + partM S k
/-- A plan that may be at all. -/
def mayB (p : Pl) : Bool := timeB p.cycle && inB p.offset 0 (p.cycle - 1) && inB p.splits.length 1 8 && p.splits.all (fun x => inB x 0 1048576)

/-! ### What holds of a site that may be -/
structure Okay (S : St) : Prop where
  ng : 1 ≤ S.groups.length ∧ S.groups.length ≤ 16
  na : S.apart.length = S.groups.length
  nb : S.between.length = S.groups.length
  np : 1 ≤ S.phases.length ∧ S.phases.length ≤ 8
  ne : S.eyes.length ≤ 24
  nl : S.plans.length ≤ 8
theorem getD_mem {α : Type} {l : List α} {d : α} {i : Nat} (h : i < l.length) : l.getD i d ∈ l := by
  have : l.getD i d = l[i] := by simp [h]
  rw [this]; exact List.getElem_mem h

end Go.Proofs.Ytnmfigcemknjbaa
