/-
  Texts joined: some of those that the proofs of this seat stand on.
-/
import Derived.Test.YtlabjamkaebnjaaMathsJ
import Derived.Below
import Derived.Lib.LaidTab
import Derived.Deep.QuietTactic
import Derived.BigQuiet
import Derived.Laws.BitsAllLaws
import Derived.Deep.RegionWith
import Derived.RangeFuncNested
import Derived.RangeFuncBound
import Derived.RangeFuncCalls
import Derived.RangeFuncLeaves
import Derived.Shelf.Abstract
import Derived.Shelf.RegionOpen
import Derived.OwnWalkIn
import Derived.TacticsInMore
import Derived.LoopNIn
import Derived.LoopIn
import Derived.Deep.RegionHeld
/-
  Of the text StM: what this stage needs (culled by a program).
-/
namespace Go.Proofs.Ytlabjamkaebnjaa
set_option linter.unusedVariables false
set_option linter.unusedSimpArgs false

/-- A group's Kind, Min, Yellow. -/
structure Gr where
  kind : Nat
  min : Int
  yellow : Int
/-- A phase's Groups, Min, Max, Gap, Always. -/
structure Ph where
  groups : Nat
  min : Int
  max : Int
  gap : Int
  always : Bool
/-- An eye's Phase, On, Off, Turns. -/
structure Ey where
  phase : Int
  on : Int
  off : Int
  turns : Int
/-- A plan's Cycle, Offset, Splits. -/
structure Pl where
  cycle : Int
  offset : Int
  splits : List Int
/-- A site. -/
structure St where
  id : Int
  groups : List Gr
  apart : List Nat
  between : List (List Int)
  phases : List Ph
  eyes : List Ey
  watch : Int
  feed : Int
  heal : Int
  low : Int
  high : Int
  plans : List Pl

def g0 : Gr := ⟨0, 0, 0⟩
def p0 : Ph := ⟨0, 0, 0, 0, false⟩
def e0 : Ey := ⟨0, 0, 0, 0⟩
def q0 : Pl := ⟨0, 0, []⟩
def St.gr (S : St) (i : Nat) : Gr := S.groups.getD i g0
def St.ap (S : St) (i : Nat) : Nat := S.apart.getD i 0
def St.bt (S : St) (a b : Nat) : Int := (S.between.getD a []).getD b 0
def St.ph (S : St) (i : Nat) : Ph := S.phases.getD i p0
def St.ey (S : St) (i : Nat) : Ey := S.eyes.getD i e0
def St.pl (S : St) (i : Nat) : Pl := S.plans.getD i q0

def inB (n lo hi : Int) : Bool := decide (lo ≤ n) && decide (n ≤ hi)
theorem inB_iff {n lo hi : Int} : inB n lo hi = true ↔ lo ≤ n ∧ n ≤ hi := by unfold inB; simp
def timeB (n : Int) : Bool := inB n 1 1048576
/-- For each number below n. -/
def allB (n : Nat) (f : Nat → Bool) : Bool := (List.range n).all f
theorem allB_iff {n : Nat} {f : Nat → Bool} : allB n f = true ↔ ∀ i, i < n → f i = true := by unfold allB; simp
theorem allB_no {n i : Nat} {f : Nat → Bool} (hi : i < n) (h : f i = false) : allB n f = false := by
  cases e : allB n f with
  | false => rfl
  | true => rw [allB_iff.1 e i hi] at h; cases h

/-! ### The conditions -/
/-- The greatest of what has P, and 0. -/
def IsMost (P : Int → Prop) (m : Int) : Prop := 0 ≤ m ∧ (m = 0 ∨ P m) ∧ ∀ x, P x → x ≤ m
theorem IsMost.congr {P Q : Int → Prop} {m : Int} (h : IsMost P m) (e : ∀ x, P x ↔ Q x) : IsMost Q m :=
  ⟨h.1, h.2.1.imp id (fun q => (e m).1 q), fun x hx => h.2.2 x ((e x).2 hx)⟩
theorem IsMost.none : IsMost (fun _ => False) 0 := ⟨Int.le_refl _, .inl rfl, fun _ h => h.elim⟩
theorem IsMost.more {P : Int → Prop} {m : Int} (h : IsMost P m) (x : Int) : IsMost (fun y => P y ∨ y = x) (max m x) := by
  obtain ⟨a, b, c⟩ := h
  refine ⟨by omega, ?_, fun y hy => ?_⟩
  · rcases (show max m x = m ∨ max m x = x by omega) with e | e
    · rw [e]
      rcases b with b | b
      · exact .inl b
      · exact .inr (.inl b)
    · rw [e]; exact .inr (.inr rfl)
  · rcases hy with hy | hy
    · have := c y hy; omega
    · omega
theorem IsMost.le {P : Int → Prop} {m B : Int} (h : IsMost P m) (hB : 0 ≤ B) (k : ∀ x, P x → x ≤ B) : m ≤ B := by
  rcases h.2.1 with e | e
  · omega
  · exact k m e
/-- The greatest of a list, and 0. -/
def mostL : List Int → Int
  | [] => 0
  | x :: l => max x (mostL l)
theorem mostL_is : ∀ l, IsMost (fun x => x ∈ l) (mostL l)
  | [] => IsMost.none.congr (fun x => by simp)
  | y :: l => by
    have h := (mostL_is l).more y
    rw [mostL, Int.max_comm]
    exact h.congr (fun x => by simp [or_comm])
/-- Which numbers lie from one phase to another one. -/
def LiesP (S : St) (f t : Nat) (x : Int) : Prop := ∃ a b, a < S.groups.length ∧ b < S.groups.length ∧ (S.ph f).groups.testBit a = true ∧ (S.ph t).groups.testBit b = true ∧ (S.ap a).testBit b = true ∧ x = S.bt a b
def liesL (S : St) (f t : Nat) : List Int := (List.range S.groups.length).flatMap fun a => ((List.range S.groups.length).filter fun b => (S.ph f).groups.testBit a && ((S.ph t).groups.testBit b && (S.ap a).testBit b)).map (S.bt a)
def liesM (S : St) (f t : Nat) : Int := mostL (liesL S f t)
theorem liesM_is (S : St) (f t : Nat) : IsMost (LiesP S f t) (liesM S f t) := by
  refine (mostL_is _).congr fun x => ?_
  unfold liesL LiesP
  simp only [List.mem_flatMap, List.mem_map, List.mem_filter, List.mem_range, Bool.and_eq_true]
  constructor
  · rintro ⟨a, ha, b, ⟨hb, h1, h2, h3⟩, rfl⟩
    exact ⟨a, b, ha, hb, h1, h2, h3, rfl⟩
  · rintro ⟨a, b, ha, hb, h1, h2, h3, rfl⟩
    exact ⟨a, ha, b, ⟨hb, h1, h2, h3⟩, rfl⟩
theorem liesM_ge (S : St) (f t : Nat) : 0 ≤ liesM S f t := (liesM_is S f t).1
/-- A phase's Min, and what lies from it to the next one. -/
def partM (S : St) (i : Nat) : Int := (S.ph i).min + liesM S i ((i + 1) % S.phases.length)
def roundN (S : St) : Nat → Int
  | 0 => 0
  | k + 1 => roundN S k + partM S k
/-- A plan that may be at all. -/
def mayB (p : Pl) : Bool := timeB p.cycle && inB p.offset 0 (p.cycle - 1) && inB p.splits.length 1 8 && p.splits.all (fun x => inB x 0 1048576)

/-! ### What holds of a site that may be -/
structure Okay (S : St) : Prop where
  ng : 1 ≤ S.groups.length ∧ S.groups.length ≤ 16
  na : S.apart.length = S.groups.length
  nb : S.between.length = S.groups.length
  np : 1 ≤ S.phases.length ∧ S.phases.length ≤ 8
  ne : S.eyes.length ≤ 24
  nl : S.plans.length ≤ 8
theorem getD_mem {α : Type} {l : List α} {d : α} {i : Nat} (h : i < l.length) : l.getD i d ∈ l := by
  have : l.getD i d = l[i] := by simp [h]
  rw [this]; exact List.getElem_mem h

end Go.Proofs.Ytlabjamkaebnjaa

/-
  Of the text Lay: what this stage needs (culled by a program).
-/
namespace Go.Proofs.Ytlabjamkaebnjaa
open Go.RowKit Go.Lib Go.Deep
set_option linter.unusedVariables false
set_option linter.unusedSimpArgs false

theorem Hid.mk' {p : Prop} (h : p) : Hid p := h
/-- n elements of k cells lie where a slice leads: cell j of element i is f i j. -/
structure Lie (w : World) (a : Option Addr) (n k : Nat) (f : Nat → Nat → Value) : Prop where
  at_ : 0 < n → ∃ b off, a = some ⟨b, off, none⟩ ∧ b < w.heap.size ∧ ∀ i, i < n → ∀ j, j < k → w.cell? ⟨b, off + i * k + j, none⟩ = some (f i j)
theorem Lie.kept {w w' : World} {a : Option Addr} {n k : Nat} {f : Nat → Nat → Value} (h : Lie w a n k f) (q : Kept w w' none) : Lie w' a n k f :=
  ⟨fun hp => by
    obtain ⟨b, off, rfl, hb, hc⟩ := h.at_ hp
    exact ⟨b, off, rfl, Nat.lt_of_lt_of_le hb q.size, fun i hi j hj => (World.cell?_of_block (w := w) (a := ⟨b, off + i * k + j, none⟩) (q.block b hb (by simp))).trans (hc i hi j hj)⟩⟩
theorem Lie.congr {w : World} {a : Option Addr} {n k : Nat} {f g : Nat → Nat → Value} (h : Lie w a n k f) (e : ∀ i, i < n → ∀ j, j < k → f i j = g i j) : Lie w a n k g :=
  ⟨fun hp => by
    obtain ⟨b, off, rfl, hb, hc⟩ := h.at_ hp
    exact ⟨b, off, rfl, hb, fun i hi j hj => by rw [hc i hi j hj, e i hi j hj]⟩⟩
theorem Lie.one {w : World} {a : Option Addr} {n : Nat} {f : Nat → Nat → Value} (h : Lie w a n 1 f) (hp : 0 < n) : ∃ b off, a = some ⟨b, off, none⟩ ∧ b < w.heap.size ∧ ∀ i, i < n → w.cell? ⟨b, off + i, none⟩ = some (f i 0) := by
  obtain ⟨b, off, rfl, hb, hc⟩ := h.at_ hp
  exact ⟨b, off, rfl, hb, fun i hi => by have := hc i hi 0 (by omega); simpa using this⟩
/-- What came in, nil or not. -/
structure Cap (a : Option Addr) (n c : Nat) : Prop where
  nil : a = none → n = 0 ∧ c = 0
  room : n ≤ c
  max : c ≤ 9223372036854775807

def grV (g : Gr) (j : Nat) : Value := match j with
  | 0 => .int .u8 (g.kind : Int)
  | 1 => .int .i64 g.min
  | _ => .int .i64 g.yellow
def phV (p : Ph) (j : Nat) : Value := match j with
  | 0 => .int .u32 (p.groups : Int)
  | 1 => .int .i64 p.min
  | 2 => .int .i64 p.max
  | 3 => .int .i64 p.gap
  | _ => .bool p.always
def eyV (e : Ey) (j : Nat) : Value := match j with
  | 0 => .int .i64 e.phase
  | 1 => .int .i64 e.on
  | 2 => .int .i64 e.off
  | _ => .int .i64 e.turns
def plV (p : Pl) (a : Option Addr) (c : Nat) (j : Nat) : Value := match j with
  | 0 => .int .i64 p.cycle
  | 1 => .int .i64 p.offset
  | _ => .slice a p.splits.length c
/-- Numbers lie where a slice leads. -/
structure Ints (w : World) (a : Option Addr) (n c : Nat) (l : List Int) : Prop where
  lie : Lie w a n 1 (fun i _ => .int .i64 (l.getD i 0))
  size : l.length = n
  cap : Cap a n c
  rng : ∀ x ∈ l, -9223372036854775808 ≤ x ∧ x ≤ 9223372036854775807
theorem Ints.kept {w w' : World} {a : Option Addr} {n c : Nat} {l : List Int} (h : Ints w a n c l) (q : Kept w w' none) : Ints w' a n c l := ⟨h.lie.kept q, h.size, h.cap, h.rng⟩
/-- Where a site's lists lie. -/
structure Sa where
  g : Option Addr
  gc : Nat
  a : Option Addr
  ac : Nat
  b : Option Addr
  bc : Nat
  p : Option Addr
  pc : Nat
  e : Option Addr
  ec : Nat
  l : Option Addr
  lc : Nat
abbrev siteV (X : Sa) (S : St) : Value := .agg #[.int .i64 S.id, .slice X.g S.groups.length X.gc, .slice X.a S.apart.length X.ac, .slice X.b S.between.length X.bc, .slice X.p S.phases.length X.pc, .slice X.e S.eyes.length X.ec, .int .i64 S.watch, .int .i64 S.feed, .int .i64 S.heal, .int .i64 S.low, .int .i64 S.high, .slice X.l S.plans.length X.lc]
abbrev planV (p : Pl) (a : Option Addr) (c : Nat) : Value := .agg #[.int .i64 p.cycle, .int .i64 p.offset, .slice a p.splits.length c]
def i64B (x : Int) : Prop := -9223372036854775808 ≤ x ∧ x ≤ 9223372036854775807
/-- A list of plans. -/
structure Plans (w : World) (a : Option Addr) (n c : Nat) (l : List Pl) : Prop where
  ex : ∃ r : Nat → Option Addr × Nat, Lie w a n 3 (fun i j => plV (l.getD i q0) (r i).1 (r i).2 j) ∧ ∀ i, i < n → Ints w (r i).1 (l.getD i q0).splits.length (r i).2 (l.getD i q0).splits
  size : l.length = n
  cap : Cap a n c
  rng : ∀ p ∈ l, i64B p.cycle ∧ i64B p.offset
theorem Plans.kept {w w' : World} {a : Option Addr} {n c : Nat} {l : List Pl} (h : Plans w a n c l) (q : Kept w w' none) : Plans w' a n c l := by
  obtain ⟨⟨r, h1, h2⟩, h3, h4, h5⟩ := h
  exact ⟨⟨r, h1.kept q, fun i hi => (h2 i hi).kept q⟩, h3, h4, h5⟩
/-- A list of lists of numbers. -/
structure Grid (w : World) (a : Option Addr) (n c : Nat) (l : List (List Int)) : Prop where
  ex : ∃ r : Nat → Option Addr × Nat, Lie w a n 1 (fun i _ => .slice (r i).1 (l.getD i []).length (r i).2) ∧ ∀ i, i < n → Ints w (r i).1 (l.getD i []).length (r i).2 (l.getD i [])
  size : l.length = n
  cap : Cap a n c
theorem Grid.kept {w w' : World} {a : Option Addr} {n c : Nat} {l : List (List Int)} (h : Grid w a n c l) (q : Kept w w' none) : Grid w' a n c l := by
  obtain ⟨⟨r, h1, h2⟩, h3, h4⟩ := h
  exact ⟨⟨r, h1.kept q, fun i hi => (h2 i hi).kept q⟩, h3, h4⟩
/-- A site's lists lie where they should. -/
structure Sat (w : World) (X : Sa) (S : St) : Prop where
  g : Lie w X.g S.groups.length 3 (fun i j => grV (S.gr i) j)
  a : Lie w X.a S.apart.length 1 (fun i _ => .int .u32 (S.ap i : Int))
  b : Grid w X.b S.between.length X.bc S.between
  p : Lie w X.p S.phases.length 5 (fun i j => phV (S.ph i) j)
  e : Lie w X.e S.eyes.length 4 (fun i j => eyV (S.ey i) j)
  l : Plans w X.l S.plans.length X.lc S.plans
  gk : Cap X.g S.groups.length X.gc
  ak : Cap X.a S.apart.length X.ac
  pk : Cap X.p S.phases.length X.pc
  ek : Cap X.e S.eyes.length X.ec
  gr : ∀ g ∈ S.groups, g.kind < 256 ∧ i64B g.min ∧ i64B g.yellow
  ar : ∀ x ∈ S.apart, x < 4294967296
  pr : ∀ p ∈ S.phases, p.groups < 4294967296 ∧ i64B p.min ∧ i64B p.max ∧ i64B p.gap
  er : ∀ e ∈ S.eyes, i64B e.phase ∧ i64B e.on ∧ i64B e.off ∧ i64B e.turns
  nr : i64B S.id ∧ i64B S.watch ∧ i64B S.feed ∧ i64B S.heal ∧ i64B S.low ∧ i64B S.high
theorem Sat.kept {w w' : World} {X : Sa} {S : St} (h : Sat w X S) (q : Kept w w' none) : Sat w' X S :=
  ⟨h.g.kept q, h.a.kept q, h.b.kept q, h.p.kept q, h.e.kept q, h.l.kept q, h.gk, h.ak, h.pk, h.ek, h.gr, h.ar, h.pr, h.er, h.nr⟩
/-- A site in block B. -/
structure Sbox (w : World) (B : Nat) (X : Sa) (S : St) : Prop where
  c0 : w.cell? ⟨B, 0, none⟩ = some (.int .i64 S.id)
  c1 : w.cell? ⟨B, 1, none⟩ = some (.slice X.g S.groups.length X.gc)
  c2 : w.cell? ⟨B, 2, none⟩ = some (.slice X.a S.apart.length X.ac)
  c3 : w.cell? ⟨B, 3, none⟩ = some (.slice X.b S.between.length X.bc)
  c4 : w.cell? ⟨B, 4, none⟩ = some (.slice X.p S.phases.length X.pc)
  c5 : w.cell? ⟨B, 5, none⟩ = some (.slice X.e S.eyes.length X.ec)
  c6 : w.cell? ⟨B, 6, none⟩ = some (.int .i64 S.watch)
  c7 : w.cell? ⟨B, 7, none⟩ = some (.int .i64 S.feed)
  c8 : w.cell? ⟨B, 8, none⟩ = some (.int .i64 S.heal)
  c9 : w.cell? ⟨B, 9, none⟩ = some (.int .i64 S.low)
  c10 : w.cell? ⟨B, 10, none⟩ = some (.int .i64 S.high)
  c11 : w.cell? ⟨B, 11, none⟩ = some (.slice X.l S.plans.length X.lc)
  sat : Sat w X S
theorem cell_kept0 {w w' : World} {B j : Nat} {v : Value} (h : w.cell? ⟨B, j, none⟩ = some v) (q : Kept w w' none) : w'.cell? ⟨B, j, none⟩ = some v :=
  (World.cell?_of_block (w := w) (a := ⟨B, j, none⟩) (q.block B (block_lt h) (by simp))).trans h
theorem Sbox.kept {w w' : World} {B : Nat} {X : Sa} {S : St} (h : Sbox w B X S) (q : Kept w w' none) : Sbox w' B X S :=
  ⟨cell_kept0 h.c0 q, cell_kept0 h.c1 q, cell_kept0 h.c2 q, cell_kept0 h.c3 q, cell_kept0 h.c4 q, cell_kept0 h.c5 q, cell_kept0 h.c6 q, cell_kept0 h.c7 q, cell_kept0 h.c8 q, cell_kept0 h.c9 q, cell_kept0 h.c10 q, cell_kept0 h.c11 q, h.sat.kept q⟩
theorem Sbox.lt {w : World} {B : Nat} {X : Sa} {S : St} (h : Sbox w B X S) : B < w.heap.size := block_lt h.c0
theorem sbox_alloc {w : World} {X : Sa} {S : St} (h : Sat w X S) (t : TypeId) : Sbox (w.alloc (.cells #[.int .i64 S.id, .slice X.g S.groups.length X.gc, .slice X.a S.apart.length X.ac, .slice X.b S.between.length X.bc, .slice X.p S.phases.length X.pc, .slice X.e S.eyes.length X.ec, .int .i64 S.watch, .int .i64 S.feed, .int .i64 S.heal, .int .i64 S.low, .int .i64 S.high, .slice X.l S.plans.length X.lc] t)) w.heap.size X S :=
  ⟨by simp [World.cell?_alloc_mark], by simp [World.cell?_alloc_mark], by simp [World.cell?_alloc_mark], by simp [World.cell?_alloc_mark], by simp [World.cell?_alloc_mark], by simp [World.cell?_alloc_mark], by simp [World.cell?_alloc_mark], by simp [World.cell?_alloc_mark], by simp [World.cell?_alloc_mark], by simp [World.cell?_alloc_mark], by simp [World.cell?_alloc_mark], by simp [World.cell?_alloc_mark], h.kept (Kept.alloc _ _ _ _ _)⟩

/-! ### The elements -/
theorem Grid.at_ {w : World} {a : Option Addr} {n c : Nat} {l : List (List Int)} (h : Grid w a n c l) {i : Nat} (hi : i < n) : ∃ b off a' c', a = some ⟨b, off, none⟩ ∧ w.cell? ⟨b, off + i, none⟩ = some (.slice a' (l.getD i []).length c') ∧ Ints w a' (l.getD i []).length c' (l.getD i []) := by
  obtain ⟨r, h1, h2⟩ := h.ex
  obtain ⟨b, off, e, _, hc⟩ := h1.one (by omega)
  exact ⟨b, off, (r i).1, (r i).2, e, hc i hi, h2 i hi⟩
theorem Plans.at_ {w : World} {a : Option Addr} {n c : Nat} {l : List Pl} (h : Plans w a n c l) {i : Nat} (hi : i < n) : ∃ b off a' c', a = some ⟨b, off, none⟩ ∧ w.cell? ⟨b, off + i * 3, none⟩ = some (.int .i64 (l.getD i q0).cycle) ∧ w.cell? ⟨b, off + i * 3 + 1, none⟩ = some (.int .i64 (l.getD i q0).offset) ∧ w.cell? ⟨b, off + i * 3 + 2, none⟩ = some (.slice a' (l.getD i q0).splits.length c') ∧ Ints w a' (l.getD i q0).splits.length c' (l.getD i q0).splits := by
  obtain ⟨r, h1, h2⟩ := h.ex
  obtain ⟨b, off, e, _, hc⟩ := h1.at_ (by omega)
  exact ⟨b, off, (r i).1, (r i).2, e, hc i hi 0 (by omega), hc i hi 1 (by omega), hc i hi 2 (by omega), h2 i hi⟩
theorem Ints.at_ {w : World} {a : Option Addr} {n c : Nat} {l : List Int} (h : Ints w a n c l) (hp : 0 < n) : ∃ b off, a = some ⟨b, off, none⟩ ∧ b < w.heap.size ∧ ∀ i, i < n → w.cell? ⟨b, off + i, none⟩ = some (.int .i64 (l.getD i 0)) := by
  obtain ⟨b, off, e, hb, hc⟩ := h.lie.one hp
  exact ⟨b, off, e, hb, fun i hi => hc i hi⟩

end Go.Proofs.Ytlabjamkaebnjaa

/-
  Of the text Bits: what this stage needs (culled by a program).
-/
namespace Go.Proofs.Ytlabjamkaebnjaa
open Go.RowKit Go.Lib Go.Deep
set_option linter.unusedVariables false
set_option linter.unusedSimpArgs false

/-! ### The least bit, by Go's table -/
def deB : List Int := [0, 1, 28, 2, 29, 14, 24, 3, 30, 22, 20, 15, 25, 17, 4, 8, 31, 27, 13, 23, 21, 19, 16, 7, 26, 12, 18, 6, 11, 5, 10, 9]
/-- The table lies in the program's first variable. -/
def Tabb (w : World) : Prop := ∀ i, i < 32 → w.cell? ⟨0, i, none⟩ = some (.int .u8 (deB.getD i 0))
theorem Tabb.lt {w : World} (h : Tabb w) : 0 < w.heap.size := by
  by_cases hh : 0 < w.heap.size
  · exact hh
  · have hn : w.heap[0]? = none := Array.getElem?_eq_none (by omega)
    have := h 0 (by omega)
    simp [World.cell?, hn] at this
theorem Tabb.keptR {w w' : World} {r : Option Nat} (h : Tabb w) (k : Kept w w' r) (hr : some 0 ≠ r) : Tabb w' := fun i hi =>
  (World.cell?_of_block (w := w) (a := ⟨0, i, none⟩) (k.block 0 h.lt hr)).trans (h i hi)
theorem Tabb.kept {w w' : World} (h : Tabb w) (k : Kept w w' none) : Tabb w' := h.keptR k (by simp)
end Go.Proofs.Ytlabjamkaebnjaa

/-
  Of the text Cond: what this stage needs (culled by a program).
-/
namespace Go.Proofs.Ytlabjamkaebnjaa
open Go.RowKit Go.Lib Go.Deep
set_option linter.unusedVariables false
set_option linter.unusedSimpArgs false

theorem within_any (n lo hi : Int) (w : World) : Calls Try.prog 85 #[.int .i64 n, .int .i64 lo, .int .i64 hi] w fun e w' => e = .returned (.bool (inB n lo hi)) ∧ w' = w := by
  go_enter Try.func85, Try.ntmps85
  go_wp2
  all_goals
    go_ret
    refine ⟨?_, rfl⟩
    simp [inB, *] <;> (first | omega | (intros; omega))
theorem time_any (n : Int) (w : World) : Calls Try.prog 84 #[.int .i64 n] w fun e w' => e = .returned (.bool (timeB n)) ∧ w' = w := by
  go_enter Try.func84, Try.ntmps84
  go_wp2_with (go_at_call 85; refine (within_any _ _ _ _).mono ?_; rintro e w ⟨rfl, rfl⟩)
  go_ret
  exact ⟨rfl, rfl⟩
end Go.Proofs.Ytlabjamkaebnjaa

/-
  Of the text Cond3: what this stage needs (culled by a program).
-/
namespace Go.Proofs.Ytlabjamkaebnjaa
open Go.RowKit Go.Lib Go.Deep
set_option linter.unusedVariables false
set_option linter.unusedSimpArgs false

theorem within_is (n lo hi : Int) (b : Bool) (w : World) (h : inB n lo hi = b) : Calls Try.prog 85 #[.int .i64 n, .int .i64 lo, .int .i64 hi] w fun e w' => e = .returned (.bool b) ∧ w' = w := by
  rw [← h]; exact within_any n lo hi w
theorem time_is (n : Int) (b : Bool) (w : World) (h : timeB n = b) : Calls Try.prog 84 #[.int .i64 n] w fun e w' => e = .returned (.bool b) ∧ w' = w := by
  rw [← h]; exact time_any n w
end Go.Proofs.Ytlabjamkaebnjaa

/-
  Of the text Mem: what this stage needs (culled by a program).
-/
namespace Go.Proofs.Ytlabjamkaebnjaa
open Go.RowKit Go.Lib Go.Deep Go.Shelf
set_option linter.unusedVariables false
set_option linter.unusedSimpArgs false
attribute [local go_sem] Oper.semAt_some

theorem Tabb.below {n : Nat} {w w' : World} (h : Tabb w) (hn : 0 < n) (k : Below n w w') : Tabb w' := fun i hi => (k.cell (p := ⟨0, i, none⟩) hn).trans (h i hi)
end Go.Proofs.Ytlabjamkaebnjaa

/-
  Of the text Rnd: what this stage needs (culled by a program).
-/
namespace Go.Proofs.Ytlabjamkaebnjaa
open Go.RowKit Go.Lib Go.Deep Go.Shelf
set_option linter.unusedVariables false
set_option linter.unusedSimpArgs false

theorem held_take {P : Program} {ops : Array Oper} {Q : Exit → Act → World → Prop} {md : Region.Mode} {S : World → Prop} {i d : Nat} {oi : Oper} {v : Value} {fuel : Nat} {listed : Array Bool} {a : Act} {w : World} (hi : ops[i]? = some oi) (hd : oi.dst = some d)
    (hs : Region.noSelect ops = true) (hf : Region.free md ops listed i = true) (hr : (Region.ready md ops listed).contains i = true)
    (hQ : ∀ c a w, Q (.panic c) (a.put oi.dst v) w → Q (.panic c) a w) (hy : YieldsIf P ops S oi v a) (hS : S w)
    (h : wpAnyH P md ops Q S fuel (listed.setIfInBounds i true) { tmps := a.tmps.setIfInBounds d v, defers := a.defers } w) : wpAnyH P md ops Q S (fuel + 1) listed a w :=
  wpAnyH_take hi hs hf hr hQ hy hS (by rw [hd]; exact h)

end Go.Proofs.Ytlabjamkaebnjaa

/-
  Of the text Lies: what this stage needs (culled by a program).
-/
namespace Go.Proofs.Ytlabjamkaebnjaa
open Go.RowKit Go.Lib Go.Deep Go.Shelf
set_option linter.unusedVariables false
set_option linter.unusedSimpArgs false
attribute [local go_sem] Oper.semAt_some

/-- What is asked of a site's lists ahead of what lies between phases. -/
structure Shape (S : St) : Prop where
  ok : Okay S
  row : ∀ a, a < S.groups.length → (S.between.getD a []).length = S.groups.length
  ph : ∀ i, i < S.phases.length → (S.ph i).groups < 2 ^ S.groups.length
end Go.Proofs.Ytlabjamkaebnjaa

