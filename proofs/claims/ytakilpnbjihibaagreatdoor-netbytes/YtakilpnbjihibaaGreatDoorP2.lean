import Derived.Test.YtakilpnbjihibaaGreatDoorP1
import Derived.Deep.RegionWith
import Derived.RangeFuncNested
import Derived.RangeFuncBound
import Derived.RangeFuncCalls
import Derived.RangeFuncLeaves
import Derived.Shelf.Abstract
import Derived.Shelf.RegionOpen
import Derived.OwnWalkIn
import Derived.TacticsInMore
import Derived.LoopNIn
import Derived.LoopIn
namespace Go.Proofs.YtakilpnbjihibaaGreatDoor
set_option linter.unusedVariables false
set_option linter.unusedSimpArgs false
set_option maxHeartbeats 1000000
set_option maxRecDepth 100000
section

structure Gr where
 kind : Nat
 min : Int
 yellow : Int
structure Ph where
 groups : Nat
 min : Int
 max : Int
 gap : Int
 always : Bool
structure Ey where
 phase : Int
 on : Int
 off : Int
 turns : Int
structure Pl where
 cycle : Int
 offset : Int
 splits : List Int
structure St where
 id : Int
 groups : List Gr
 apart : List Nat
 between : List (List Int)
 phases : List Ph
 eyes : List Ey
 watch : Int
 feed : Int
 heal : Int
 low : Int
 high : Int
 plans : List Pl
def g0 : Gr := ⟨0, 0, 0⟩
def p0 : Ph := ⟨0, 0, 0, 0, false⟩
def e0 : Ey := ⟨0, 0, 0, 0⟩
def q0 : Pl := ⟨0, 0, []⟩
def St.gr (S : St) (i : Nat) : Gr := S.groups.getD i g0
def St.ap (S : St) (i : Nat) : Nat := S.apart.getD i 0
def St.bt (S : St) (a b : Nat) : Int := (S.between.getD a []).getD b 0
def St.ph (S : St) (i : Nat) : Ph := S.phases.getD i p0
def St.ey (S : St) (i : Nat) : Ey := S.eyes.getD i e0
def St.pl (S : St) (i : Nat) : Pl := S.plans.getD i q0
def inB (n lo hi : Int) : Bool := decide (lo <= n) && decide (n <= hi)
theorem inB_iff {n lo hi : Int} : inB n lo hi = true ↔ lo <= n /\ n <= hi := by unfold inB; simp
def timeB (n : Int) : Bool := inB n 1 1048576
def allB (n : Nat) (f : Nat -> Bool) : Bool := (List.range n).all f
theorem allB_iff {n : Nat} {f : Nat -> Bool} : allB n f = true ↔ ∀ i, i < n -> f i = true := by unfold allB; simp
theorem allB_no {n i : Nat} {f : Nat -> Bool} (hi : i < n) (h : f i = false) : allB n f = false := by
 cases e : allB n f with
 | false => rfl
 | true => rw [allB_iff.1 e i hi] at h; cases h
def countsB (S : St) : Bool := inB S.groups.length 1 16 && decide (S.apart.length = S.groups.length) && decide (S.between.length = S.groups.length) && inB S.phases.length 1 8 && decide (S.eyes.length <= 24) && decide (S.plans.length <= 8)
def ownB (S : St) : Bool := inB S.id 0 65535 && timeB S.watch && timeB S.feed && timeB S.heal
def groupB (S : St) (i : Nat) : Bool := (decide ((S.gr i).kind = 1) || decide ((S.gr i).kind = 2)) && timeB (S.gr i).min && timeB (S.gr i).yellow
def apartB (S : St) (a : Nat) : Bool := decide (S.ap a < 2 ^ S.groups.length) && !(S.ap a).testBit a && allB S.groups.length (fun b => (S.ap a).testBit b == (S.ap b).testBit a)
def betB (S : St) (a b : Nat) : Bool := if (S.ap a).testBit b = true then inB (S.bt a b) (S.gr a).yellow 1048576 else decide (S.bt a b = 0)
def betweenB (S : St) (a : Nat) : Bool := decide ((S.between.getD a []).length = S.groups.length) && allB S.groups.length (betB S a)
def mateB (S : St) (G : Nat) : Bool := allB S.groups.length (fun a => !G.testBit a || decide (S.ap a &&& G = 0))
def leastB (S : St) (G : Nat) (m : Int) : Bool := allB S.groups.length (fun a => !G.testBit a || decide ((S.gr a).min <= m))
def phaseB (S : St) (i : Nat) : Bool := decide ((S.ph i).groups ≠ 0) && decide ((S.ph i).groups < 2 ^ S.groups.length) && mateB S (S.ph i).groups && decide (0 <= (S.ph i).min) && leastB S (S.ph i).groups (S.ph i).min && decide ((S.ph i).min <= 1048576) && inB (S.ph i).max (S.ph i).min 1048576 && timeB (S.ph i).gap
def unionN (S : St) : Nat -> Nat
 | 0 => 0
 | k + 1 => unionN S k ||| (S.ph k).groups
def servedB (S : St) : Bool := decide (unionN S S.phases.length = 2 ^ S.groups.length - 1)
def eyeB (S : St) (i : Nat) : Bool := inB (S.ey i).phase 0 ((S.phases.length : Int) - 1) && timeB (S.ey i).on && timeB (S.ey i).off && inB (S.ey i).turns 1 64
def IsMost (P : Int -> Prop) (m : Int) : Prop := 0 <= m /\ (m = 0 \/ P m) /\ ∀ x, P x -> x <= m
theorem IsMost.uniq {P : Int -> Prop} {m n : Int} (h : IsMost P m) (k : IsMost P n) : m = n := by
 obtain ⟨a, b, c⟩ := h; obtain ⟨a', b', c'⟩ := k
 have h1 : m <= n := by
  rcases b with b | b
  . omega
  . exact c' m b
 have h2 : n <= m := by
  rcases b' with b' | b'
  . omega
  . exact c n b'
 omega
theorem IsMost.congr {P Q : Int -> Prop} {m : Int} (h : IsMost P m) (e : ∀ x, P x ↔ Q x) : IsMost Q m :=
 ⟨h.1, h.2.1.imp id (fun q => (e m).1 q), fun x hx => h.2.2 x ((e x).2 hx)⟩
theorem IsMost.none : IsMost (fun _ => False) 0 := ⟨Int.le_refl _, .inl rfl, fun _ h => h.elim⟩
theorem IsMost.more {P : Int -> Prop} {m : Int} (h : IsMost P m) (x : Int) : IsMost (fun y => P y \/ y = x) (max m x) := by
 obtain ⟨a, b, c⟩ := h; refine ⟨by omega, ?_, fun y hy => ?_⟩
 . rcases (show max m x = m \/ max m x = x by omega) with e | e
   . rw [e]; rcases b with b | b
     . exact .inl b
     . exact .inr (.inl b)
   . rw [e]; exact .inr (.inr rfl)
 . rcases hy with hy | hy
   . have := c y hy; omega
   . omega
theorem IsMost.le {P : Int -> Prop} {m B : Int} (h : IsMost P m) (hB : 0 <= B) (k : ∀ x, P x -> x <= B) : m <= B := by
 rcases h.2.1 with e | e
 . omega
 . exact k m e
def mostL : List Int -> Int
 | [] => 0
 | x :: l => max x (mostL l)
theorem mostL_is : ∀ l, IsMost (fun x => x ∈ l) (mostL l)
 | [] => IsMost.none.congr (fun x => by simp)
 | y :: l => by
  have h := (mostL_is l).more y; rw [mostL, Int.max_comm]; exact h.congr (fun x => by simp [or_comm])
def LiesP (S : St) (f t : Nat) (x : Int) : Prop := ∃ a b, a < S.groups.length /\ b < S.groups.length /\ (S.ph f).groups.testBit a = true /\ (S.ph t).groups.testBit b = true /\ (S.ap a).testBit b = true /\ x = S.bt a b
def liesL (S : St) (f t : Nat) : List Int := (List.range S.groups.length).flatMap fun a => ((List.range S.groups.length).filter fun b => (S.ph f).groups.testBit a && ((S.ph t).groups.testBit b && (S.ap a).testBit b)).map (S.bt a)
def liesM (S : St) (f t : Nat) : Int := mostL (liesL S f t)
theorem liesM_is (S : St) (f t : Nat) : IsMost (LiesP S f t) (liesM S f t) := by
 refine (mostL_is _).congr fun x => ?_
 unfold liesL LiesP; simp only [List.mem_flatMap, List.mem_map, List.mem_filter, List.mem_range, Bool.and_eq_true]; constructor
 . rintro ⟨a, ha, b, ⟨hb, h1, h2, h3⟩, rfl⟩; exact ⟨a, b, ha, hb, h1, h2, h3, rfl⟩
 . rintro ⟨a, b, ha, hb, h1, h2, h3, rfl⟩; exact ⟨a, ha, b, ⟨hb, h1, h2, h3⟩, rfl⟩
theorem liesM_eq {S : St} {f t : Nat} {m : Int} (h : IsMost (LiesP S f t) m) : liesM S f t = m := (liesM_is S f t).uniq h
theorem liesM_ge (S : St) (f t : Nat) : 0 <= liesM S f t := (liesM_is S f t).1
def partM (S : St) (i : Nat) : Int := (S.ph i).min + liesM S i ((i + 1) % S.phases.length)
def roundN (S : St) : Nat -> Int
 | 0 => 0
 | k + 1 => roundN S k + partM S k
def roundM (S : St) : Int := roundN S S.phases.length
def cyclesB (S : St) : Bool := inB S.low (roundM S) 1048576 && inB S.high S.low 1048576
def splitsB (S : St) : Nat -> List Int -> Int -> Bool
 | _, [], left => decide (left = 0)
 | i, x :: l, left => inB x (partM S i) left && splitsB S (i + 1) l (left - x)
def planB (S : St) (p : Pl) : Bool := inB p.cycle S.low S.high && inB p.offset 0 (p.cycle - 1) && decide (p.splits.length = S.phases.length) && splitsB S 0 p.splits p.cycle
def siteB (S : St) : Bool := countsB S && ownB S && allB S.groups.length (groupB S) && allB S.groups.length (apartB S) && allB S.groups.length (betweenB S) && allB S.phases.length (phaseB S) && servedB S && allB S.eyes.length (eyeB S) && cyclesB S && allB S.plans.length (fun i => planB S (S.pl i))
def mayB (p : Pl) : Bool := timeB p.cycle && inB p.offset 0 (p.cycle - 1) && inB p.splits.length 1 8 && p.splits.all (fun x => inB x 0 1048576)
structure Okay (S : St) : Prop where
 ng : 1 <= S.groups.length /\ S.groups.length <= 16
 na : S.apart.length = S.groups.length
 nb : S.between.length = S.groups.length
 np : 1 <= S.phases.length /\ S.phases.length <= 8
 ne : S.eyes.length <= 24
 nl : S.plans.length <= 8
theorem counts_iff {S : St} : countsB S = true ↔ Okay S := by
 unfold countsB; simp only [Bool.and_eq_true, inB_iff, decide_eq_true_eq]; constructor
 . rintro ⟨⟨⟨⟨⟨h1, h2⟩, h3⟩, h4⟩, h5⟩, h6⟩; exact ⟨by omega, h2, h3, by omega, h5, h6⟩
 . rintro ⟨h1, h2, h3, h4, h5, h6⟩; exact ⟨⟨⟨⟨⟨by omega, h2⟩, h3⟩, by omega⟩, h5⟩, h6⟩
theorem getD_mem {α : Type} {l : List α} {d : α} {i : Nat} (h : i < l.length) : l.getD i d ∈ l := by
 have : l.getD i d = l[i] := by simp [h]
 rw [this]; exact List.getElem_mem h
end
section
open Go.RowKit Go.Lib Go.Deep
theorem Hid.mk' {p : Prop} (h : p) : Hid p := h
structure Lie (w : World) (a : Option Addr) (n k : Nat) (f : Nat -> Nat -> Value) : Prop where
 at_ : 0 < n -> ∃ b off, a = some ⟨b, off, none⟩ /\ b < w.heap.size /\ ∀ i, i < n -> ∀ j, j < k -> w.cell? ⟨b, off + i * k + j, none⟩ = some (f i j)
theorem Lie.kept {w w' : World} {a : Option Addr} {n k : Nat} {f : Nat -> Nat -> Value} (h : Lie w a n k f) (q : Kept w w' none) : Lie w' a n k f :=
 ⟨fun hp => by
  obtain ⟨b, off, rfl, hb, hc⟩ := h.at_ hp; exact ⟨b, off, rfl, Nat.lt_of_lt_of_le hb q.size, fun i hi j hj => (World.cell?_of_block (w := w) (a := ⟨b, off + i * k + j, none⟩) (q.block b hb (by simp))).trans (hc i hi j hj)⟩⟩
theorem Lie.congr {w : World} {a : Option Addr} {n k : Nat} {f g : Nat -> Nat -> Value} (h : Lie w a n k f) (e : ∀ i, i < n -> ∀ j, j < k -> f i j = g i j) : Lie w a n k g :=
 ⟨fun hp => by
  obtain ⟨b, off, rfl, hb, hc⟩ := h.at_ hp; exact ⟨b, off, rfl, hb, fun i hi j hj => by rw [hc i hi j hj, e i hi j hj]⟩⟩
theorem Lie.one {w : World} {a : Option Addr} {n : Nat} {f : Nat -> Nat -> Value} (h : Lie w a n 1 f) (hp : 0 < n) : ∃ b off, a = some ⟨b, off, none⟩ /\ b < w.heap.size /\ ∀ i, i < n -> w.cell? ⟨b, off + i, none⟩ = some (f i 0) := by
 obtain ⟨b, off, rfl, hb, hc⟩ := h.at_ hp; exact ⟨b, off, rfl, hb, fun i hi => by have := hc i hi 0 (by omega); simpa using this⟩
structure Cap (a : Option Addr) (n c : Nat) : Prop where
 nil : a = none -> n = 0 /\ c = 0
 room : n <= c
 max : c <= 9223372036854775807
def grV (g : Gr) (j : Nat) : Value := match j with
 | 0 => .int .u8 (g.kind : Int)
 | 1 => .int .i64 g.min
 | _ => .int .i64 g.yellow
def phV (p : Ph) (j : Nat) : Value := match j with
 | 0 => .int .u32 (p.groups : Int)
 | 1 => .int .i64 p.min
 | 2 => .int .i64 p.max
 | 3 => .int .i64 p.gap
 | _ => .bool p.always
def eyV (e : Ey) (j : Nat) : Value := match j with
 | 0 => .int .i64 e.phase
 | 1 => .int .i64 e.on
 | 2 => .int .i64 e.off
 | _ => .int .i64 e.turns
def plV (p : Pl) (a : Option Addr) (c : Nat) (j : Nat) : Value := match j with
 | 0 => .int .i64 p.cycle
 | 1 => .int .i64 p.offset
 | _ => .slice a p.splits.length c
structure Ints (w : World) (a : Option Addr) (n c : Nat) (l : List Int) : Prop where
 lie : Lie w a n 1 (fun i _ => .int .i64 (l.getD i 0))
 size : l.length = n
 cap : Cap a n c
 rng : ∀ x ∈ l, -9223372036854775808 <= x /\ x <= 9223372036854775807
theorem Ints.kept {w w' : World} {a : Option Addr} {n c : Nat} {l : List Int} (h : Ints w a n c l) (q : Kept w w' none) : Ints w' a n c l := ⟨h.lie.kept q, h.size, h.cap, h.rng⟩
structure Sa where
 g : Option Addr
 gc : Nat
 a : Option Addr
 ac : Nat
 b : Option Addr
 bc : Nat
 p : Option Addr
 pc : Nat
 e : Option Addr
 ec : Nat
 l : Option Addr
 lc : Nat
abbrev siteV (X : Sa) (S : St) : Value := .agg #[.int .i64 S.id, .slice X.g S.groups.length X.gc, .slice X.a S.apart.length X.ac, .slice X.b S.between.length X.bc, .slice X.p S.phases.length X.pc, .slice X.e S.eyes.length X.ec, .int .i64 S.watch, .int .i64 S.feed, .int .i64 S.heal, .int .i64 S.low, .int .i64 S.high, .slice X.l S.plans.length X.lc]
abbrev planV (p : Pl) (a : Option Addr) (c : Nat) : Value := .agg #[.int .i64 p.cycle, .int .i64 p.offset, .slice a p.splits.length c]
def i64B (x : Int) : Prop := -9223372036854775808 <= x /\ x <= 9223372036854775807
structure Plans (w : World) (a : Option Addr) (n c : Nat) (l : List Pl) : Prop where
 ex : ∃ r : Nat -> Option Addr × Nat, Lie w a n 3 (fun i j => plV (l.getD i q0) (r i).1 (r i).2 j) /\ ∀ i, i < n -> Ints w (r i).1 (l.getD i q0).splits.length (r i).2 (l.getD i q0).splits
 size : l.length = n
 cap : Cap a n c
 rng : ∀ p ∈ l, i64B p.cycle /\ i64B p.offset
theorem Plans.kept {w w' : World} {a : Option Addr} {n c : Nat} {l : List Pl} (h : Plans w a n c l) (q : Kept w w' none) : Plans w' a n c l := by
 obtain ⟨⟨r, h1, h2⟩, h3, h4, h5⟩ := h; exact ⟨⟨r, h1.kept q, fun i hi => (h2 i hi).kept q⟩, h3, h4, h5⟩
structure Grid (w : World) (a : Option Addr) (n c : Nat) (l : List (List Int)) : Prop where
 ex : ∃ r : Nat -> Option Addr × Nat, Lie w a n 1 (fun i _ => .slice (r i).1 (l.getD i []).length (r i).2) /\ ∀ i, i < n -> Ints w (r i).1 (l.getD i []).length (r i).2 (l.getD i [])
 size : l.length = n
 cap : Cap a n c
theorem Grid.kept {w w' : World} {a : Option Addr} {n c : Nat} {l : List (List Int)} (h : Grid w a n c l) (q : Kept w w' none) : Grid w' a n c l := by
 obtain ⟨⟨r, h1, h2⟩, h3, h4⟩ := h; exact ⟨⟨r, h1.kept q, fun i hi => (h2 i hi).kept q⟩, h3, h4⟩
structure Sat (w : World) (X : Sa) (S : St) : Prop where
 g : Lie w X.g S.groups.length 3 (fun i j => grV (S.gr i) j)
 a : Lie w X.a S.apart.length 1 (fun i _ => .int .u32 (S.ap i : Int))
 b : Grid w X.b S.between.length X.bc S.between
 p : Lie w X.p S.phases.length 5 (fun i j => phV (S.ph i) j)
 e : Lie w X.e S.eyes.length 4 (fun i j => eyV (S.ey i) j)
 l : Plans w X.l S.plans.length X.lc S.plans
 gk : Cap X.g S.groups.length X.gc
 ak : Cap X.a S.apart.length X.ac
 pk : Cap X.p S.phases.length X.pc
 ek : Cap X.e S.eyes.length X.ec
 gr : ∀ g ∈ S.groups, g.kind < 256 /\ i64B g.min /\ i64B g.yellow
 ar : ∀ x ∈ S.apart, x < 4294967296
 pr : ∀ p ∈ S.phases, p.groups < 4294967296 /\ i64B p.min /\ i64B p.max /\ i64B p.gap
 er : ∀ e ∈ S.eyes, i64B e.phase /\ i64B e.on /\ i64B e.off /\ i64B e.turns
 nr : i64B S.id /\ i64B S.watch /\ i64B S.feed /\ i64B S.heal /\ i64B S.low /\ i64B S.high
theorem Sat.kept {w w' : World} {X : Sa} {S : St} (h : Sat w X S) (q : Kept w w' none) : Sat w' X S :=
 ⟨h.g.kept q, h.a.kept q, h.b.kept q, h.p.kept q, h.e.kept q, h.l.kept q, h.gk, h.ak, h.pk, h.ek, h.gr, h.ar, h.pr, h.er, h.nr⟩
structure Sbox (w : World) (B : Nat) (X : Sa) (S : St) : Prop where
 c0 : w.cell? ⟨B, 0, none⟩ = some (.int .i64 S.id)
 c1 : w.cell? ⟨B, 1, none⟩ = some (.slice X.g S.groups.length X.gc)
 c2 : w.cell? ⟨B, 2, none⟩ = some (.slice X.a S.apart.length X.ac)
 c3 : w.cell? ⟨B, 3, none⟩ = some (.slice X.b S.between.length X.bc)
 c4 : w.cell? ⟨B, 4, none⟩ = some (.slice X.p S.phases.length X.pc)
 c5 : w.cell? ⟨B, 5, none⟩ = some (.slice X.e S.eyes.length X.ec)
 c6 : w.cell? ⟨B, 6, none⟩ = some (.int .i64 S.watch)
 c7 : w.cell? ⟨B, 7, none⟩ = some (.int .i64 S.feed)
 c8 : w.cell? ⟨B, 8, none⟩ = some (.int .i64 S.heal)
 c9 : w.cell? ⟨B, 9, none⟩ = some (.int .i64 S.low)
 c10 : w.cell? ⟨B, 10, none⟩ = some (.int .i64 S.high)
 c11 : w.cell? ⟨B, 11, none⟩ = some (.slice X.l S.plans.length X.lc)
 sat : Sat w X S
theorem cell_kept0 {w w' : World} {B j : Nat} {v : Value} (h : w.cell? ⟨B, j, none⟩ = some v) (q : Kept w w' none) : w'.cell? ⟨B, j, none⟩ = some v :=
 (World.cell?_of_block (w := w) (a := ⟨B, j, none⟩) (q.block B (block_lt h) (by simp))).trans h
theorem Sbox.kept {w w' : World} {B : Nat} {X : Sa} {S : St} (h : Sbox w B X S) (q : Kept w w' none) : Sbox w' B X S :=
 ⟨cell_kept0 h.c0 q, cell_kept0 h.c1 q, cell_kept0 h.c2 q, cell_kept0 h.c3 q, cell_kept0 h.c4 q, cell_kept0 h.c5 q, cell_kept0 h.c6 q, cell_kept0 h.c7 q, cell_kept0 h.c8 q, cell_kept0 h.c9 q, cell_kept0 h.c10 q, cell_kept0 h.c11 q, h.sat.kept q⟩
theorem Sbox.lt {w : World} {B : Nat} {X : Sa} {S : St} (h : Sbox w B X S) : B < w.heap.size := block_lt h.c0
theorem sbox_alloc {w : World} {X : Sa} {S : St} (h : Sat w X S) (t : TypeId) : Sbox (w.alloc (.cells #[.int .i64 S.id, .slice X.g S.groups.length X.gc, .slice X.a S.apart.length X.ac, .slice X.b S.between.length X.bc, .slice X.p S.phases.length X.pc, .slice X.e S.eyes.length X.ec, .int .i64 S.watch, .int .i64 S.feed, .int .i64 S.heal, .int .i64 S.low, .int .i64 S.high, .slice X.l S.plans.length X.lc] t)) w.heap.size X S :=
 ⟨by simp [World.cell?_alloc_mark], by simp [World.cell?_alloc_mark], by simp [World.cell?_alloc_mark], by simp [World.cell?_alloc_mark], by simp [World.cell?_alloc_mark], by simp [World.cell?_alloc_mark], by simp [World.cell?_alloc_mark], by simp [World.cell?_alloc_mark], by simp [World.cell?_alloc_mark], by simp [World.cell?_alloc_mark], by simp [World.cell?_alloc_mark], by simp [World.cell?_alloc_mark], h.kept (Kept.alloc _ _ _ _ _)⟩
theorem Sat.grAt {w : World} {X : Sa} {S : St} (h : Sat w X S) {i : Nat} (hi : i < S.groups.length) : ∃ b off, X.g = some ⟨b, off, none⟩ /\ w.cell? ⟨b, off + i * 3, none⟩ = some (.int .u8 ((S.gr i).kind : Int)) /\ w.cell? ⟨b, off + i * 3 + 1, none⟩ = some (.int .i64 (S.gr i).min) /\ w.cell? ⟨b, off + i * 3 + 2, none⟩ = some (.int .i64 (S.gr i).yellow) := by
 obtain ⟨b, off, e, _, hc⟩ := h.g.at_ (by omega); exact ⟨b, off, e, hc i hi 0 (by omega), hc i hi 1 (by omega), hc i hi 2 (by omega)⟩
theorem Sat.apAt {w : World} {X : Sa} {S : St} (h : Sat w X S) {n : Nat} (hn : 0 < n) (hl : n <= S.apart.length) : ∃ b off, X.a = some ⟨b, off, none⟩ /\ ∀ i, i < n -> w.cell? ⟨b, off + i, none⟩ = some (.int .u32 (S.ap i : Int)) := by
 obtain ⟨b, off, e, _, hc⟩ := h.a.one (by omega); exact ⟨b, off, e, fun i hi => hc i (by omega)⟩
theorem Sat.phAt {w : World} {X : Sa} {S : St} (h : Sat w X S) {i : Nat} (hi : i < S.phases.length) : ∃ b off, X.p = some ⟨b, off, none⟩ /\ w.cell? ⟨b, off + i * 5, none⟩ = some (.int .u32 ((S.ph i).groups : Int)) /\ w.cell? ⟨b, off + i * 5 + 1, none⟩ = some (.int .i64 (S.ph i).min) /\ w.cell? ⟨b, off + i * 5 + 2, none⟩ = some (.int .i64 (S.ph i).max) /\ w.cell? ⟨b, off + i * 5 + 3, none⟩ = some (.int .i64 (S.ph i).gap) /\ w.cell? ⟨b, off + i * 5 + 4, none⟩ = some (.bool (S.ph i).always) := by
 obtain ⟨b, off, e, _, hc⟩ := h.p.at_ (by omega); exact ⟨b, off, e, hc i hi 0 (by omega), hc i hi 1 (by omega), hc i hi 2 (by omega), hc i hi 3 (by omega), hc i hi 4 (by omega)⟩
theorem Sat.eyAt {w : World} {X : Sa} {S : St} (h : Sat w X S) {i : Nat} (hi : i < S.eyes.length) : ∃ b off, X.e = some ⟨b, off, none⟩ /\ w.cell? ⟨b, off + i * 4, none⟩ = some (.int .i64 (S.ey i).phase) /\ w.cell? ⟨b, off + i * 4 + 1, none⟩ = some (.int .i64 (S.ey i).on) /\ w.cell? ⟨b, off + i * 4 + 2, none⟩ = some (.int .i64 (S.ey i).off) /\ w.cell? ⟨b, off + i * 4 + 3, none⟩ = some (.int .i64 (S.ey i).turns) := by
 obtain ⟨b, off, e, _, hc⟩ := h.e.at_ (by omega); exact ⟨b, off, e, hc i hi 0 (by omega), hc i hi 1 (by omega), hc i hi 2 (by omega), hc i hi 3 (by omega)⟩
theorem Grid.at_ {w : World} {a : Option Addr} {n c : Nat} {l : List (List Int)} (h : Grid w a n c l) {i : Nat} (hi : i < n) : ∃ b off a' c', a = some ⟨b, off, none⟩ /\ w.cell? ⟨b, off + i, none⟩ = some (.slice a' (l.getD i []).length c') /\ Ints w a' (l.getD i []).length c' (l.getD i []) := by
 obtain ⟨r, h1, h2⟩ := h.ex; obtain ⟨b, off, e, _, hc⟩ := h1.one (by omega); exact ⟨b, off, (r i).1, (r i).2, e, hc i hi, h2 i hi⟩
theorem Plans.at_ {w : World} {a : Option Addr} {n c : Nat} {l : List Pl} (h : Plans w a n c l) {i : Nat} (hi : i < n) : ∃ b off a' c', a = some ⟨b, off, none⟩ /\ w.cell? ⟨b, off + i * 3, none⟩ = some (.int .i64 (l.getD i q0).cycle) /\ w.cell? ⟨b, off + i * 3 + 1, none⟩ = some (.int .i64 (l.getD i q0).offset) /\ w.cell? ⟨b, off + i * 3 + 2, none⟩ = some (.slice a' (l.getD i q0).splits.length c') /\ Ints w a' (l.getD i q0).splits.length c' (l.getD i q0).splits := by
 obtain ⟨r, h1, h2⟩ := h.ex; obtain ⟨b, off, e, _, hc⟩ := h1.at_ (by omega); exact ⟨b, off, (r i).1, (r i).2, e, hc i hi 0 (by omega), hc i hi 1 (by omega), hc i hi 2 (by omega), h2 i hi⟩
theorem Ints.at_ {w : World} {a : Option Addr} {n c : Nat} {l : List Int} (h : Ints w a n c l) (hp : 0 < n) : ∃ b off, a = some ⟨b, off, none⟩ /\ b < w.heap.size /\ ∀ i, i < n -> w.cell? ⟨b, off + i, none⟩ = some (.int .i64 (l.getD i 0)) := by
 obtain ⟨b, off, e, hb, hc⟩ := h.lie.one hp; exact ⟨b, off, e, hb, fun i hi => hc i hi⟩
@[reducible] def cs9 (X : Sa) (S : St) : Array Value := #[.int .i64 S.id, .slice X.g S.groups.length X.gc, .slice X.a S.apart.length X.ac, .slice X.b S.between.length X.bc, .slice X.p S.phases.length X.pc, .slice X.e S.eyes.length X.ec, .int .i64 S.watch, .int .i64 S.feed, .int .i64 S.heal, .int .i64 S.low, .int .i64 S.high, .slice X.l S.plans.length X.lc]
@[reducible] def cx9 (xg : Option Addr) (xgc : Nat) (xa : Option Addr) (xac : Nat) (xb : Option Addr) (xbc : Nat) (xp : Option Addr) (xpc : Nat) (xe : Option Addr) (xec : Nat) (xl : Option Addr) (xlc : Nat) (S : St) : Array Value := #[.int .i64 S.id, .slice xg S.groups.length xgc, .slice xa S.apart.length xac, .slice xb S.between.length xbc, .slice xp S.phases.length xpc, .slice xe S.eyes.length xec, .int .i64 S.watch, .int .i64 S.feed, .int .i64 S.heal, .int .i64 S.low, .int .i64 S.high, .slice xl S.plans.length xlc]
end
section

def memb (S : Nat) : List Nat := (List.range 32).filter (fun i => S.testBit i)
theorem mem_memb {S i : Nat} : i ∈ memb S ↔ i < 32 /\ S.testBit i = true := by unfold memb; simp
theorem memb_zero : memb 0 = [] := by
 unfold memb; rw [List.filter_eq_nil_iff]; simp
theorem memb_low {S : Nat} (h0 : 0 < S) (hS : S < 4294967296) : memb S = lowN 32 S :: memb (withoutV S (lowN 32 S : Nat)) := by
 obtain ⟨h1, h2, h3⟩ := lowN_spec 32 S h0 (by simpa using hS); generalize hq : lowN 32 S = q at *
 have hw : ∀ j, (withoutV S (q : Nat)).testBit j = (S.testBit j && !decide (q = j)) := fun j => by
  rw [without_in h1]; exact without_bit S q j hS h1
 unfold memb
 have key : ∀ m, m <= 32 -> (List.range m).filter (fun i => S.testBit i) = if q < m then q :: (List.range m).filter (fun i => (withoutV S (q : Nat)).testBit i) else [] := by
  intro m
  induction m with
  | zero => intro _; simp
  | succ m ih =>
   intro hm; rw [List.range_succ, List.filter_append, List.filter_append, ih (by omega)]; by_cases c1 : q < m
   . rw [if_pos c1, if_pos (by omega)]; have : (withoutV S (q : Nat)).testBit m = S.testBit m := by rw [hw]; simp; omega
     simp [List.filter_cons, this]
   . rw [if_neg c1]; by_cases c2 : q = m
     . subst c2; rw [if_pos (by omega)]
       have hnone : (List.range q).filter (fun i => (withoutV S (q : Nat)).testBit i) = [] := by
        rw [List.filter_eq_nil_iff]; intro x hx; have hx' : x < q := by simpa using hx
        rw [hw, h3 x hx']; simp
       rw [hnone]; have : (withoutV S (q : Nat)).testBit q = false := by rw [hw]; simp
       simp [List.filter_cons, h2, this]
     . rw [if_neg (by omega)]; simp [List.filter_cons, h3 m (by omega)]
 rw [key 32 (Nat.le_refl _), if_pos h1]
end
section
open Go.RowKit Go.Lib Go.Deep
theorem within_any (n lo hi : Int) (w : World) : Calls Tryz.prog 121 #[.int .i64 n, .int .i64 lo, .int .i64 hi] w fun e w' => e = .returned (.bool (inB n lo hi)) /\ w' = w := by
 go_enter Tryz.func121, Tryz.ntmps121; go_wp2
 all_goals
  go_ret; refine ⟨?_, rfl⟩; simp [inB, *] <;> (first | omega | (intros; omega))
theorem time_any (n : Int) (w : World) : Calls Tryz.prog 122 #[.int .i64 n] w fun e w' => e = .returned (.bool (timeB n)) /\ w' = w := by
 go_enter Tryz.func122, Tryz.ntmps122; go_wp2_with (go_at_call 121; refine (within_any _ _ _ _).mono ?_; rintro e w ⟨rfl, rfl⟩); go_ret; exact ⟨rfl, rfl⟩
theorem own_any {B : Nat} {X : Sa} {S : St} {w : World} (h : Sbox w B X S) (i : Int) : Calls Tryz.prog 99 #[.pointer (some ⟨B, 0, none⟩), .int .i64 i] w fun e w' => e = .returned (.bool (ownB S)) /\ w' = w := by
 have c0 := h.c0; have c6 := h.c6; have c7 := h.c7; have c8 := h.c8; clear h; go_enter Tryz.func99, Tryz.ntmps99
 go_wp2_with (first
  | (go_at_call 121; refine (within_any _ _ _ _).mono ?_; rintro e w ⟨rfl, rfl⟩)
  | (go_at_call 122; refine (time_any _ _).mono ?_; rintro e w ⟨rfl, rfl⟩))
 all_goals
  go_ret; refine ⟨?_, rfl⟩; simp [ownB, *] <;> (first | omega | (intros; omega))
theorem counts_any {B : Nat} {X : Sa} {S : St} {w : World} (h : Sbox w B X S) (i : Int) : Calls Tryz.prog 98 #[.pointer (some ⟨B, 0, none⟩), .int .i64 i] w fun e w' => e = .returned (.bool (countsB S)) /\ w' = w := by
 have c1 := h.c1; have c2 := h.c2; have c3 := h.c3; have c4 := h.c4; have c5 := h.c5; have c11 := h.c11; clear h; go_enter Tryz.func98, Tryz.ntmps98; go_wp2_with (go_at_call 121; refine (within_any _ _ _ _).mono ?_; rintro e w ⟨rfl, rfl⟩)
 all_goals
  go_ret; refine ⟨?_, rfl⟩; simp [countsB, *] <;> (first | omega | (intros; omega) | (rw [Bool.eq_iff_iff]; simp only [Bool.and_eq_true, decide_eq_true_eq]; omega))
theorem group_any {B : Nat} {X : Sa} {S : St} {w : World} (h : Sbox w B X S) (i : Nat) (hi : i < S.groups.length) (hl : S.groups.length <= 16) : Calls Tryz.prog 100 #[.pointer (some ⟨B, 0, none⟩), .int .i64 i] w fun e w' => e = .returned (.bool (groupB S i)) /\ Kept w w' none := by
 have c1 := h.c1; obtain ⟨b, off, e, k0, k1, k2⟩ := h.sat.grAt hi; rw [e] at c1; clear h e; go_enter Tryz.func100, Tryz.ntmps100; go_wp2_with (go_at_call 122; refine (time_any _ _).mono ?_; rintro e w ⟨rfl, rfl⟩)
 all_goals
  go_ret; refine ⟨?_, Kept.alloc _ _ _ _ _⟩; simp [groupB, *] <;> (first | omega | (intros; omega))
theorem allGroups_any {B : Nat} {X : Sa} {S : St} {w : World} (h : Sbox w B X S) (hl : S.groups.length <= 16) : Calls Tryz.prog 123 #[.pointer (some ⟨B, 0, none⟩)] w fun e w' => e = .returned (.int .u32 ((2 ^ S.groups.length - 1 : Nat) : Int)) /\ w' = w := by
 have c1 := h.c1; clear h; have hp := pow_int (i := S.groups.length) (by omega); have hq : 1 <= 2 ^ S.groups.length := Nat.one_le_two_pow; have hr := pow_lt32 (i := S.groups.length) (by omega); go_enter Tryz.func123, Tryz.ntmps123; go_wp2; go_ret; refine ⟨?_, rfl⟩; refine Eq.trans (b := Ending.returned (.int .u32 (((2 : Int) ^ S.groups.length % 4294967296 - 1) % 4294967296))) ?_ (ret_int ?_)
 . simp
 . rw [hp]; omega
theorem low_andn (x n : Nat) (hx : x < 4294967296) (hn : n <= 32) : (x &&& (4294967295 - (2 ^ n - 1)) = 0) ↔ x < 2 ^ n := by
 have hb : ∀ j, (4294967295 - (2 ^ n - 1)).testBit j = (decide (j < 32) && !decide (j < n)) := by
  intro j
  have h : 2 ^ n - 1 < 2 ^ 32 := by
   have : 2 ^ n <= 2 ^ 32 := Nat.pow_le_pow_right (by omega) hn; have : 1 <= 2 ^ n := Nat.one_le_two_pow; omega
  have := Nat.testBit_two_pow_sub_succ h j; rw [Nat.testBit_two_pow_sub_one] at this; rw [<- this]
  congr 1
  omega
 constructor
 . intro h; apply Nat.lt_pow_two_of_testBit; intro j hj; have := congrArg (fun y => y.testBit j) h; simp only [Nat.testBit_and, hb, Nat.zero_testBit] at this
   cases hx2 : x.testBit j with
   | false => rfl
   | true =>
    have := lt_bit hx hx2
    simp_all
    omega
 . intro h; apply Nat.eq_of_testBit_eq; intro j; rw [Nat.testBit_and, hb, Nat.zero_testBit]; by_cases hj : j < n
   . simp [hj]
   . rw [Nat.testBit_lt_two_pow (Nat.lt_of_lt_of_le h (Nat.pow_le_pow_right (by omega) (by omega)))]; rfl
theorem has_n (S i : Nat) (w : World) (hS : S < 4294967296) (hi : i < 32) : Calls Tryz.prog 124 #[.int .u32 S, .int .i64 i] w fun e w' => e = .returned (.bool (S.testBit i)) /\ w' = w := by
 rw [<- has_in hi]; exact has_any S i w hS
theorem has_is (S i : Nat) (b : Bool) (w : World) (hS : S < 4294967296) (hi : i < 32) (h : S.testBit i = b) : Calls Tryz.prog 124 #[.int .u32 S, .int .i64 i] w fun e w' => e = .returned (.bool b) /\ w' = w := by
 rw [<- h]; exact has_n S i w hS hi
theorem apart_any {B : Nat} {X : Sa} {S : St} {w : World} (h : Sbox w B X S) (a : Nat) (ha : a < S.groups.length) (hO : Okay S) : Calls Tryz.prog 101 #[.pointer (some ⟨B, 0, none⟩), .int .i64 a] w fun e w' => e = .returned (.bool (apartB S a)) /\ ∃ m, w' = w.drewN m := by
 have c1 := h.c1; have c2 := h.c2; have hg16 := hO.ng.2; have hna := hO.na; have HB := Hid.mk' h; obtain ⟨b, off, e, hc⟩ := h.sat.apAt (n := S.groups.length) (by omega) (by omega); rw [e] at c2; have HC := Hid.mk' hc; have ka := hc a ha
 have hr : ∀ i, S.ap i < 4294967296 := fun i => by
  by_cases hi : i < S.apart.length
  . exact h.sat.ar _ (getD_mem hi)
  . unfold St.ap; rw [List.getD_eq_getElem?_getD, List.getElem?_eq_none (by omega)]; simp
 have HR := Hid.mk' hr; have har := hr a; have hpl : 2 ^ S.groups.length - 1 < 4294967296 := by have := pow_lt32 (i := S.groups.length) (by omega); omega
 have han := u32_andNot_nat (S.ap a) (2 ^ S.groups.length - 1) har hpl; have hlo := low_andn (S.ap a) S.groups.length har (by omega); by_cases hlow : S.ap a < 2 ^ S.groups.length
 . have hz := hlo.2 hlow; have hz2 : (bits .andNot .u32 (S.ap a : Int) ((2 ^ S.groups.length - 1 : Nat) : Int) != 0) = false := by rw [han, hz]; rfl
   clear han hlo hz hc hr h e
   cases hself : (S.ap a).testBit a with
   | true =>
    have hans : apartB S a = false := by simp [apartB, hself]
    have HA := Hid.mk' hans; clear hans; go_enter Tryz.func101, Tryz.ntmps101; go_wp2; go_quiet ((first | (go_at_call 123; exact Calls.quiet_of_same (allGroups_any (HB.out.kept (Kept.drewN _ _ _)) hg16)) | (go_at_call 124; exact Calls.quiet_of_same (has_is _ _ _ _ har (by omega) hself)))); go_wp2; go_ret; exact ⟨by rw [HA.out]; rfl, _, rfl⟩
   | false =>
    go_enter Tryz.func101, Tryz.ntmps101; go_wp2; go_quiet ((first | (go_at_call 123; exact Calls.quiet_of_same (allGroups_any (HB.out.kept (Kept.drewN _ _ _)) hg16)) | (go_at_call 124; exact Calls.quiet_of_same (has_is _ _ _ _ har (by omega) hself)))); go_wp2; go_loopw [34] (fun i wr => ∃ k : Nat, k <= S.groups.length /\ i = .int .i64 k /\ (∀ b, b < k -> (S.ap a).testBit b = (S.ap b).testBit a) /\ ∃ m, wr = w.drewN m) (fun i _ => S.groups.length - (intOf i).toNat)
    case atStart => exact ⟨0, Nat.zero_le _, rfl, fun b hb => by omega, _, rfl⟩
    case round =>
     obtain ⟨k, hk, rfl, hall, m, rfl⟩ := hrel; have HALL := Hid.mk' hall; have HLOW := Hid.mk' hlow; have HSELF := Hid.mk' hself; clear hall; by_cases hlt : k < S.groups.length
     . have kb := HC.out k hlt; have hbr := HR.out k
       cases heq : ((S.ap a).testBit k == (S.ap k).testBit a) with
       | true =>
        have hne : (!((S.ap a).testBit k == (S.ap k).testBit a)) = false := by rw [heq]; rfl
        have HEQ := Hid.mk' heq; clear heq; go_wp2_with (first | (go_at_call_of 124 (S.ap a); refine (has_n _ _ _ har (by omega)).mono ?_; rintro e w' ⟨rfl, rfl⟩) | (go_at_call 124; refine (has_n _ _ _ hbr (by omega)).mono ?_; rintro e w' ⟨rfl, rfl⟩))
        all_goals
         go_roundw
         case rel => exact ⟨k + 1, by omega, by go_num, fun b hb => by
          by_cases e : b = k
          . subst e; exact eq_of_beq HEQ.out
          . exact HALL.out b (by omega), _, rfl⟩
         case measure => simp [intOf]; omega
       | false =>
        have hne : (!((S.ap a).testBit k == (S.ap k).testBit a)) = true := by rw [heq]; rfl
        have hans : apartB S a = false := by
         unfold apartB; rw [allB_no hlt heq]; simp
        have HA := Hid.mk' hans; clear heq hans; go_wp2_with (first | (go_at_call_of 124 (S.ap a); refine (has_n _ _ _ har (by omega)).mono ?_; rintro e w' ⟨rfl, rfl⟩) | (go_at_call 124; refine (has_n _ _ _ hbr (by omega)).mono ?_; rintro e w' ⟨rfl, rfl⟩))
        all_goals
         go_ret; exact ⟨by rw [HA.out]; rfl, _, rfl⟩
     . have hkk : k = S.groups.length := by omega
       have hans : apartB S a = true := by
        unfold apartB; rw [allB_iff.2 (fun b hb => by rw [HALL.out b (by omega)]; exact beq_self_eq_true _), HSELF.out, decide_eq_true HLOW.out]; rfl
       have HA := Hid.mk' hans; clear hans; go_wp2; go_ret; exact ⟨by rw [HA.out]; rfl, _, rfl⟩
 . have hz := fun e => hlow (hlo.1 e)
   have hz2 : (bits .andNot .u32 (S.ap a : Int) ((2 ^ S.groups.length - 1 : Nat) : Int) != 0) = true := by
    rw [han, bne_iff_ne]; intro e; exact hz (by omega)
   have hans : apartB S a = false := by simp [apartB, hlow]
   have HA := Hid.mk' hans; clear han hlo hz hc hr h e hans; go_enter Tryz.func101, Tryz.ntmps101; go_wp2; go_quiet ((go_at_call 123; exact Calls.quiet_of_same (allGroups_any (HB.out.kept (Kept.drewN _ _ _)) hg16))); go_wp2; go_ret; exact ⟨by rw [HA.out]; rfl, _, rfl⟩
theorem Sat.apr {w : World} {X : Sa} {S : St} (h : Sat w X S) (i : Nat) : S.ap i < 4294967296 := by
 by_cases hi : i < S.apart.length
 . exact h.ar _ (getD_mem hi)
 . unfold St.ap; rw [List.getD_eq_getElem?_getD, List.getElem?_eq_none (by omega)]; simp
theorem Sat.phr {w : World} {X : Sa} {S : St} (h : Sat w X S) (i : Nat) : (S.ph i).groups < 4294967296 := by
 by_cases hi : i < S.phases.length
 . exact (h.pr _ (getD_mem hi)).1
 . unfold St.ph; rw [List.getD_eq_getElem?_getD, List.getElem?_eq_none (by omega)]; simp [p0]
theorem within_is (n lo hi : Int) (b : Bool) (w : World) (h : inB n lo hi = b) : Calls Tryz.prog 121 #[.int .i64 n, .int .i64 lo, .int .i64 hi] w fun e w' => e = .returned (.bool b) /\ w' = w := by
 rw [<- h]; exact within_any n lo hi w
theorem time_is (n : Int) (b : Bool) (w : World) (h : timeB n = b) : Calls Tryz.prog 122 #[.int .i64 n] w fun e w' => e = .returned (.bool b) /\ w' = w := by
 rw [<- h]; exact time_any n w
theorem between_any {B : Nat} {X : Sa} {S : St} {w : World} (h : Sbox w B X S) (a : Nat) (ha : a < S.groups.length) (hO : Okay S) : Calls Tryz.prog 102 #[.pointer (some ⟨B, 0, none⟩), .int .i64 a] w fun e w' => e = .returned (.bool (betweenB S a)) /\ ∃ m, w' = w.drewN m := by
 have c1 := h.c1; have c2 := h.c2; have c3 := h.c3; have hg16 := hO.ng.2; have hna := hO.na; have hnb := hO.nb; obtain ⟨b, off, e, hc⟩ := h.sat.apAt (n := S.groups.length) (by omega) (by omega); have ka := hc a ha; have har := h.sat.apr a; obtain ⟨bg, og, eg, g0, g1, g2⟩ := h.sat.grAt ha; obtain ⟨bb, ob, a', c', eb, kb, hI⟩ := h.sat.b.at_ (i := a) (by omega); rw [e] at c2; rw [eg] at c1; rw [eb] at c3; have HI := Hid.mk' hI; have HNA := Hid.mk' hna; have HNB := Hid.mk' hnb; have hlm : (S.between.getD a []).length <= 9223372036854775807 := by have := hI.cap.room; have := hI.cap.max; omega
 have hab : a < S.between.length := by omega
 have haa : a < S.apart.length := by omega
 clear hc h e eg eb hI hna hnb hO g0 g1; generalize hL : S.between.getD a [] = L at *; have HL := Hid.mk' hL; clear hL; by_cases hlen : L.length = S.groups.length
 . have hn0 : (((L.length : Nat) : Int) != ((S.groups.length : Nat) : Int)) = false := by rw [hlen]; simp
   have HLEN := Hid.mk' hlen; obtain ⟨bi, oi, ea, _, hc⟩ := HI.out.at_ (by omega); have HC := Hid.mk' hc; subst ea; have hln : (L.length : Int) = (S.groups.length : Int) := by omega
   clear hlen hc; go_enter Tryz.func102, Tryz.ntmps102; go_wp2; go_quiet (fail); go_wp2; go_loopw [31] (fun i wr => ∃ k : Nat, k <= S.groups.length /\ i = .int .i64 k /\ (∀ b, b < k -> betB S a b = true) /\ ∃ m, wr = w.drewN m) (fun i _ => S.groups.length - (intOf i).toNat)
   case atStart => exact ⟨0, Nat.zero_le _, rfl, fun b hb => by omega, _, rfl⟩
   case round =>
    obtain ⟨k, hk, rfl, hall, m, rfl⟩ := hrel; have HALL := Hid.mk' hall; clear hall; by_cases hlt : k < S.groups.length
    . have hlt2 : k < L.length := by have := HLEN.out; omega
      have kk := HC.out k hlt2; have hbt : Hid (S.bt a k = L.getD k 0) := by show S.bt a k = _; unfold St.bt; rw [HL.out]
      have ebt := hbt.out; rw [<- ebt] at kk; clear ebt
      have hans : betB S a k = false -> betweenB S a = false := fun hh => by
       unfold betweenB; rw [allB_no hlt hh]; simp
      have HA := Hid.mk' hans; clear hans
      cases hb : (S.ap a).testBit k with
      | true =>
       cases hv : inB (S.bt a k) (S.gr a).yellow 1048576 with
       | true =>
        have HV : Hid (betB S a k = true) := by show betB S a k = true; unfold betB; rw [if_pos hb]; exact hv
        go_wp2_with (first | (go_at_call 124; refine (has_is _ _ _ _ har (by omega) hb).mono ?_; rintro e w' ⟨rfl, rfl⟩) | (go_at_call 121; refine (within_any _ _ _ _).mono ?_; rintro e w' ⟨rfl, rfl⟩)); go_roundw
        case rel => exact ⟨k + 1, by omega, by go_num, fun b hb => (by
         by_cases e : b = k
         . subst e; exact HV.out
         . exact HALL.out b (by omega)), _, rfl⟩
        case measure => simp [intOf]; omega
       | false =>
        have HV : Hid (betweenB S a = false) := HA.out (by unfold betB; rw [if_pos hb]; exact hv); go_wp2_with (first | (go_at_call 124; refine (has_is _ _ _ _ har (by omega) hb).mono ?_; rintro e w' ⟨rfl, rfl⟩) | (go_at_call 121; refine (within_any _ _ _ _).mono ?_; rintro e w' ⟨rfl, rfl⟩)); go_ret; exact ⟨by rw [HV.out]; rfl, _, rfl⟩
      | false =>
       have hcv : inB (S.bt a k) 0 0 = betB S a k := by
        unfold betB inB; rw [if_neg (by simp [hb])]; rw [Bool.eq_iff_iff]; simp; omega
       cases hv : inB (S.bt a k) 0 0 with
       | true =>
        have HV : Hid (betB S a k = true) := by show betB S a k = true; rw [<- hcv]; exact hv
        clear hcv; go_wp2_with (first | (go_at_call 124; refine (has_is _ _ _ _ har (by omega) hb).mono ?_; rintro e w' ⟨rfl, rfl⟩) | (go_at_call 121; refine (within_any _ _ _ _).mono ?_; rintro e w' ⟨rfl, rfl⟩)); go_roundw
        case rel => exact ⟨k + 1, by omega, by go_num, fun b hb => (by
         by_cases e : b = k
         . subst e; exact HV.out
         . exact HALL.out b (by omega)), _, rfl⟩
        case measure => simp [intOf]; omega
       | false =>
        have HV : Hid (betweenB S a = false) := HA.out (by rw [<- hcv]; exact hv); clear hcv; go_wp2_with (first | (go_at_call 124; refine (has_is _ _ _ _ har (by omega) hb).mono ?_; rintro e w' ⟨rfl, rfl⟩) | (go_at_call 121; refine (within_any _ _ _ _).mono ?_; rintro e w' ⟨rfl, rfl⟩)); go_ret; exact ⟨by rw [HV.out]; rfl, _, rfl⟩
    . have hkk : k = S.groups.length := by omega
      have hans : betweenB S a = true := by
       unfold betweenB; rw [allB_iff.2 (fun b hb => HALL.out b (by omega)), HL.out, decide_eq_true HLEN.out]; rfl
      have HA := Hid.mk' hans; clear hans; go_wp2; go_ret; exact ⟨by rw [HA.out]; rfl, _, rfl⟩
 . have hn0 : (((L.length : Nat) : Int) != ((S.groups.length : Nat) : Int)) = true := by rw [bne_iff_ne]; omega
   have hans : betweenB S a = false := by unfold betweenB; rw [HL.out, decide_eq_false hlen]; rfl
   have HA := Hid.mk' hans; clear hans; go_enter Tryz.func102, Tryz.ntmps102; go_wp2; go_quiet (fail); go_wp2; go_ret; exact ⟨by rw [HA.out]; rfl, _, rfl⟩
theorem unionN_lt {S : St} (h : ∀ i, (S.ph i).groups < 4294967296) : ∀ k, unionN S k < 4294967296
 | 0 => by simp [unionN]
 | k + 1 => Nat.or_lt_two_pow (n := 32) (unionN_lt h k) (h k)
theorem served_any {B : Nat} {X : Sa} {S : St} {w : World} (h : Sbox w B X S) (i : Int) (hO : Okay S) : Calls Tryz.prog 104 #[.pointer (some ⟨B, 0, none⟩), .int .i64 i] w fun e w' => e = .returned (.bool (servedB S)) /\ Kept w w' none := by
 have c4 := h.c4; have hg16 := hO.ng.2; have hp8 := hO.np; have HB := Hid.mk' h; have hu : ∀ k, unionN S k < 4294967296 := unionN_lt h.sat.phr
 have HU := Hid.mk' hu; clear hu h; go_enter Tryz.func104, Tryz.ntmps104; go_wp2; go_loopw [5, 13] (fun s i wr => ∃ k : Nat, k <= S.phases.length /\ i = .int .i64 k /\ s = .int .u32 ((unionN S k : Nat) : Int) /\ Kept w wr none) (fun _ i _ => S.phases.length - (intOf i).toNat)
 case atStart => exact ⟨0, Nat.zero_le _, rfl, rfl, Kept.refl _ _⟩
 case round =>
  obtain ⟨k, hk, rfl, rfl, hkw⟩ := hrel; by_cases hlt : k < S.phases.length
  . obtain ⟨b, off, e, k0, k1, k2, k3, k4⟩ := (HB.out.kept hkw).sat.phAt hlt; have hor := u32_or_nat (unionN S k) (S.ph k).groups (HU.out k) (HB.out.sat.phr k); rw [e] at *; go_wp2; go_roundw
    case rel => exact ⟨k + 1, by omega, by go_num, by rw [unionN], hkw.tr (Kept.alloc _ _ _ _ _)⟩
    case measure => simp [intOf]; omega
  . have hkk : k = S.phases.length := by omega
    subst hkk
    have hans : (((unionN S S.phases.length : Nat) : Int) == ((2 ^ S.groups.length - 1 : Nat) : Int)) = servedB S := by
     unfold servedB; rw [Bool.eq_iff_iff]; simp; omega
    have HA := Hid.mk' hans; clear hans; go_wp2_with (go_at_call 123; refine (allGroups_any (HB.out.kept hkw) hg16).mono ?_; rintro e w' ⟨rfl, rfl⟩); go_ret; exact ⟨ret_bool HA.out, hkw⟩
theorem eye_any {B : Nat} {X : Sa} {S : St} {w : World} (h : Sbox w B X S) (i : Nat) (hi : i < S.eyes.length) (hO : Okay S) : Calls Tryz.prog 105 #[.pointer (some ⟨B, 0, none⟩), .int .i64 i] w fun e w' => e = .returned (.bool (eyeB S i)) /\ Kept w w' none := by
 have c4 := h.c4; have c5 := h.c5; have hp8 := hO.np; have hle := hO.ne; have hBl := h.lt; obtain ⟨b, off, e, k0, k1, k2, k3⟩ := h.sat.eyAt hi; rw [e] at c5; clear h e hO; have hkA : ∀ m, Kept w ((w.alloc (.cells #[.int .i64 (S.ey i).phase, .int .i64 (S.ey i).on, .int .i64 (S.ey i).off, .int .i64 (S.ey i).turns] 112)).drewN m) none := fun m => (Kept.alloc _ _ _ _ _ : Kept w _ none).tr (Kept.drewN _ _ _)
 cases h1 : inB (S.ey i).phase 0 ((S.phases.length : Int) - 1) with
 | false =>
  have HA : Hid (eyeB S i = false) := by show eyeB S i = false; simp [eyeB, h1]
  go_enter Tryz.func105, Tryz.ntmps105; go_wp2; go_quiet ((go_at_call 121; exact Calls.quiet_of_same (within_is _ _ _ _ _ h1))); go_wp2; go_ret; exact ⟨by rw [HA.out]; rfl, hkA _⟩
 | true =>
  cases h2 : timeB (S.ey i).on with
  | false =>
   have HA : Hid (eyeB S i = false) := by show eyeB S i = false; simp [eyeB, h1, h2]
   go_enter Tryz.func105, Tryz.ntmps105; go_wp2; go_quiet ((first | (go_at_call 121; exact Calls.quiet_of_same (within_is _ _ _ _ _ h1)) | (go_at_call 122; exact Calls.quiet_of_same (time_is _ _ _ h2)))); go_wp2; go_ret; exact ⟨by rw [HA.out]; rfl, hkA _⟩
  | true =>
   cases h3 : timeB (S.ey i).off with
   | false =>
    have HA : Hid (eyeB S i = false) := by show eyeB S i = false; simp [eyeB, h1, h2, h3]
    go_enter Tryz.func105, Tryz.ntmps105; go_wp2; go_quiet ((first | (go_at_call 121; exact Calls.quiet_of_same (within_is _ _ _ _ _ h1)) | (go_at_call_of 122 (S.ey i).on; exact Calls.quiet_of_same (time_is _ _ _ h2)) | (go_at_call 122; exact Calls.quiet_of_same (time_is _ _ _ h3)))); go_wp2; go_ret; exact ⟨by rw [HA.out]; rfl, hkA _⟩
   | true =>
    have HA : Hid (eyeB S i = inB (S.ey i).turns 1 64) := by show eyeB S i = _; simp [eyeB, h1, h2, h3]
    go_enter Tryz.func105, Tryz.ntmps105; go_wp2; go_quiet ((first | (go_at_call_of 121 (S.ey i).phase; exact Calls.quiet_of_same (within_is _ _ _ _ _ h1)) | (go_at_call 121; exact Calls.quiet_of_same (within_any _ _ _ _)) | (go_at_call_of 122 (S.ey i).on; exact Calls.quiet_of_same (time_is _ _ _ h2)) | (go_at_call 122; exact Calls.quiet_of_same (time_is _ _ _ h3)))); go_wp2; go_ret; exact ⟨by rw [HA.out]; rfl, hkA _⟩
end
section
open Go.RowKit Go.Lib Go.Deep Go.Shelf
attribute [local go_sem] Oper.semAt_some
abbrev Mb (S : Nat) := { x : Nat // x ∈ memb S }
def vals {S : Nat} (l : List (Mb S)) : List Nat := l.map (·.1)
theorem vals_snoc {S : Nat} (l : List (Mb S)) (x : Mb S) : vals (l ++ [x]) = vals l ++ [x.1] := by simp [vals]
theorem Tabb.below {n : Nat} {w w' : World} (h : Tabb w) (hn : 1 < n) (k : Below n w w') : Tabb w' := fun i hi => (k.cell (p := ⟨1, i, none⟩) hn).trans (h i hi)
theorem members1_in (n : Nat) (hn : 1 <= n) (l Bn n₀ S : Nat) (hS : S < 4294967296) (hn₀ : 1 < n₀) (J Jx : List (Mb S) -> World -> Prop)
 (hY : ∀ pre (x : Mb S) W, J pre W -> pre.length < (memb S).length -> YieldAt Fence.wide (n - 1) Tryz.prog l #[.int .i64 ((x.1 : Nat) : Int)] W fun e W' =>
  (e = .returned (.bool true) /\ J (pre ++ [x]) W' /\ Below n₀ W W') \/ (e = .returned (.bool false) /\ Jx (pre ++ [x]) W'))
 (W : World) (hBn : W.cell? ⟨Bn, 0, none⟩ = some (.int .u32 S)) (hT : Tabb W) (h0 : J [] W) :
 CallsIn Fence.wide n Tryz.prog 131 #[.func (.yield l) #[] #[], .pointer (some ⟨Bn, 0, none⟩)] W fun e W' => (∃ v, e = .returned v) /\
  ((∃ ys, vals ys = memb S /\ J ys W') \/ (∃ pre, vals pre <+: memb S /\ Jx pre W')) := by
 refine callsIn_of_wp Tryz.func131 rfl trivial ?_ rfl; simp only [Tryz.ntmps131, List.size_toArray, List.length_cons, List.length_nil, Nat.reduceAdd, Nat.reduceSub, Array.replicate_succ, Array.replicate_zero, List.push_toArray, List.append_toArray, List.nil_append, List.cons_append]
 gi_wp2
 gi_loopw [3] (fun r wr => ∃ (pre : List (Mb S)) (R : Nat), r = .int .u32 (R : Int) /\ R < 4294967296 /\ memb S = vals pre ++ memb R /\ Tabb wr /\ J pre wr) (fun r _ => (intOf r).toNat)
 case atStart =>
  exact ⟨[], S, rfl, hS, rfl, hT, h0⟩
 case round =>
  obtain ⟨pre, R, rfl, hR, hx, hTr, hJs⟩ := hrel; by_cases hz : R = 0
  . subst hz
    gi_wp2
    go_end0; exact ⟨⟨_, rfl⟩, .inl ⟨pre, by rw [hx, memb_zero, List.append_nil], hJs⟩⟩
  . have hR0 : 0 < R := by omega
    have hm := memb_low hR0 hR; have hlt := (lowN_spec 32 R hR0 (by simpa using hR)).1; have hlv : leastV R = ((lowN 32 R : Nat) : Int) := by unfold leastV; rw [if_neg hz]
    have hw : withoutV R ((lowN 32 R : Nat) : Int) < R := by
     obtain ⟨h1, h2, h3⟩ := lowN_spec 32 R hR0 (by simpa using hR); rw [without_in h1, without_yes R _ hR h1 h2]; have : 0 < 2 ^ lowN 32 R := Nat.two_pow_pos _; omega
    have hnz : ((R : Int) != 0) = true := by rw [bne_iff_ne]; omega
    have HT := Hid.mk' hTr; have HM := Hid.mk' hm; have HX := Hid.mk' hx; have HLV := Hid.mk' hlv; clear hTr hm hx hlv; generalize hq : lowN 32 R = q at *; have HQ := Hid.mk' hq; clear hq; generalize hr : withoutV R (q : Int) = R' at *; have HR' := Hid.mk' hr; clear hr; have hqm : q ∈ memb S := by rw [HX.out, HM.out]; simp
    obtain ⟨fn, tmps, assign, body, hy, hRR⟩ := hY pre ⟨q, hqm⟩ wr hJs (by rw [HX.out, HM.out]; simp [vals])
    gi_wp2_with (first
     | (refine ⟨trivial, ?_⟩; gi_at_call 132; refine (callsIn_wide.2 (least_any R _ hR HT.out)).mono ?_; rintro e w' ⟨rfl, rfl⟩; rw [HLV.out])
     | (refine ⟨trivial, ?_⟩; gi_at_call 133; refine (callsIn_wide.2 (without_any R _ _ hR)).mono ?_; rintro e w' ⟨rfl, rfl⟩; rw [HR'.out]))
    refine hRR.mono ?_; rintro e W3 (⟨rfl, hJ3, hk3⟩ | ⟨rfl, hJx3⟩)
    . gi_wp2
      go_roundw
      case rel => exact ⟨_, R', rfl, by omega, HX.out.trans (by rw [HM.out, vals_snoc]; simp), HT.out.below hn₀ hk3, hJ3⟩
      case measure => simp [intOf]; omega
    . gi_wp2
      refine bodyPost_ret (results_none rfl _ _ _) rfl ?_; exact ⟨⟨_, rfl⟩, .inr ⟨_, ⟨memb R', (HX.out.trans (by rw [HM.out, vals_snoc]; simp)).symm⟩, hJx3⟩⟩
theorem members_in (n S : Nat) (w : World) :
 CallsIn Fence.wide n Tryz.prog 125 #[.int .u32 S] w fun e w' => e = .returned (.func (.func 131) #[] #[.pointer (some ⟨w.heap.size, 0, none⟩)]) /\ w' = w.alloc (.cells #[.int .u32 S] 91) := by
 refine callsIn_of_wp Tryz.func125 rfl trivial ?_ rfl; simp only [Tryz.ntmps125, List.size_toArray, List.length_cons, List.length_nil, Nat.reduceAdd, Nat.reduceSub, Array.replicate_succ, Array.replicate_zero, List.push_toArray, List.append_toArray, List.nil_append, List.cons_append]
 gi_wp2
 go_ret; exact ⟨rfl, rfl⟩
theorem members_stops (n : Nat) (hn : 1 <= n) (Bn n₀ S : Nat) (w : World) (hBn : Bn < w.heap.size) (hS : S < 4294967296) (hn₀ : 1 < n₀) (hw : n₀ <= w.heap.size)
 (hc : w.cell? ⟨Bn, 0, none⟩ = some (.int .u32 S)) (hT : Tabb w) :
 SeqStopsK Fence.wide n Tryz.prog 131 #[.pointer (some ⟨Bn, 0, none⟩)] (fun x : Mb S => #[Value.int .i64 (x.1 : Int)]) (Below n₀) (fun ys => vals ys = memb S) (fun pre => vals pre <+: memb S) (memb S).length w := fun l J Jx W hW _ _ hY h0 =>
 members1_in n hn l Bn n₀ S hS hn₀ J Jx hY W ((hW.cell (p := ⟨Bn, 0, none⟩) hBn).trans hc) (hT.below (by omega) hW) h0
end
end Go.Proofs.YtakilpnbjihibaaGreatDoor
