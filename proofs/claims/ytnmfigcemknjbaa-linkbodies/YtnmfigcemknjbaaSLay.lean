/-
  Of the text Lay: what this stage needs (culled by a program).
-/
import Derived.Test.YtnmfigcemknjbaaWorld
import Derived.Test.YtnmfigcemknjbaaSStM
namespace Go.Proofs.Ytnmfigcemknjbaa
open Go.RowKit Go.Lib Go.Deep
set_option linter.unusedVariables false
set_option linter.unusedSimpArgs false

theorem Hid.mk' {p : Prop} (h : p) : Hid p := h
/-- n elements of k cells lie where a slice leads: cell j of element i is f i j. -/
structure Lie (w : World) (a : Option Addr) (n k : Nat) (f : Nat → Nat → Value) : Prop where
  at_ : 0 < n → ∃ b off, a = some ⟨b, off, none⟩ ∧ b < w.heap.size ∧ ∀ i, i < n → ∀ j, j < k → w.cell? ⟨b, off + i * k + j, none⟩ = some (f i j)
theorem Lie.kept {w w' : World} {a : Option Addr} {n k : Nat} {f : Nat → Nat → Value} (h : Lie w a n k f) (q : Kept w w' none) : Lie w' a n k f :=
  ⟨fun hp => by
    obtain ⟨b, off, rfl, hb, hc⟩ := h.at_ hp
    exact ⟨b, off, rfl, Nat.lt_of_lt_of_le hb q.size, fun i hi j hj => (World.cell?_of_block (w := w) (a := ⟨b, off + i * k + j, none⟩) (q.block b hb (by simp))).trans (hc i hi j hj)⟩⟩
theorem Lie.congr {w : World} {a : Option Addr} {n k : Nat} {f g : Nat → Nat → Value} (h : Lie w a n k f) (e : ∀ i, i < n → ∀ j, j < k → f i j = g i j) : Lie w a n k g :=
  ⟨fun hp => by
    obtain ⟨b, off, rfl, hb, hc⟩ := h.at_ hp
    exact ⟨b, off, rfl, hb, fun i hi j hj => by rw [hc i hi j hj, e i hi j hj]⟩⟩
theorem Lie.one {w : World} {a : Option Addr} {n : Nat} {f : Nat → Nat → Value} (h : Lie w a n 1 f) (hp : 0 < n) : ∃ b off, a = some ⟨b, off, none⟩ ∧ b < w.heap.size ∧ ∀ i, i < n → w.cell? ⟨b, off + i, none⟩ = some (f i 0) := by
  obtain ⟨b, off, rfl, hb, hc⟩ := h.at_ hp
  exact ⟨b, off, rfl, hb, fun i hi => by have := hc i hi 0 (by omega); simpa using this⟩
/-- What came in, nil or not. -/
structure Cap (a : Option Addr) (n c : Nat) : Prop where
  nil : a = none → n = 0 ∧ c = 0
  room : n ≤ c
  max : c ≤ 9223372036854775807

def grV (g : Gr) (j : Nat) : Value := match j with
  | 0 => .int .u8 (g.kind : Int)
  | 1 => .int .i64 g.min
  | _ => .int .i64 g.yellow
def phV (p : Ph) (j : Nat) : Value := match j with
  | 0 => .int .u32 (p.groups : Int)
  | 1 => .int .i64 p.min
  | 2 => .int .i64 p.max
  | 3 => .int .i64 p.gap
  | _ => .bool p.always
def eyV (e : Ey) (j : Nat) : Value := match j with
  | 0 => .int .i64 e.phase
  | 1 => .int .i64 e.on
  | 2 => .int .i64 e.off
  | _ => .int .i64 e.turns
def plV (p : Pl) (a : Option Addr) (c : Nat) (j : Nat) : Value := match j with
  | 0 => .int .i64 p.cycle
  | 1 => .int .i64 p.offset
  | _ => .slice a p.splits.length c
/-- Numbers lie where a slice leads. -/
structure Ints (w : World) (a : Option Addr) (n c : Nat) (l : List Int) : Prop where
  lie : Lie w a n 1 (fun i _ => .int .i64 (l.getD i 0))
  size : l.length = n
  cap : Cap a n c
  rng : ∀ x ∈ l, -9223372036854775808 ≤ x ∧ x ≤ 9223372036854775807
theorem Ints.kept {w w' : World} {a : Option Addr} {n c : Nat} {l : List Int} (h : Ints w a n c l) (q : Kept w w' none) : Ints w' a n c l := ⟨h.lie.kept q, h.size, h.cap, h.rng⟩
/-- Where a site's lists lie. -/
structure Sa where
  g : Option Addr
  gc : Nat
  a : Option Addr
  ac : Nat
  b : Option Addr
  bc : Nat
  p : Option Addr
  pc : Nat
  e : Option Addr
  ec : Nat
  l : Option Addr
  lc : Nat
abbrev siteV (X : Sa) (S : St) : Value := .agg #[.int .i64 S.id, .slice X.g S.groups.length X.gc, .slice X.a S.apart.length X.ac, .slice X.b S.between.length X.bc, .slice X.p S.phases.length X.pc, .slice X.e S.eyes.length X.ec, .int .i64 S.watch, .int .i64 S.feed, .int .i64 S.heal, .int .i64 S.low, .int .i64 S.high, .slice X.l S.plans.length X.lc]
abbrev planV (p : Pl) (a : Option Addr) (c : Nat) : Value := .agg #[.int .i64 p.cycle, .int .i64 p.offset, .slice a p.splits.length c]
def i64B (x : Int) : Prop := -9223372036854775808 ≤ x ∧ x ≤ 9223372036854775807
/-- A list of plans. -/
structure Plans (w : World) (a : Option Addr) (n c : Nat) (l : List Pl) : Prop where
  ex : ∃ r : Nat → Option Addr × Nat, Lie w a n 3 (fun i j => plV (l.getD i q0) (r i).1 (r i).2 j) ∧ ∀ i, i < n → Ints w (r i).1 (l.getD i q0).splits.length (r i).2 (l.getD i q0).splits
  size : l.length = n
  cap : Cap a n c
  rng : ∀ p ∈ l, i64B p.cycle ∧ i64B p.offset
theorem Plans.kept {w w' : World} {a : Option Addr} {n c : Nat} {l : List Pl} (h : Plans w a n c l) (q : Kept w w' none) : Plans w' a n c l := by
  obtain ⟨⟨r, h1, h2⟩, h3, h4, h5⟩ := h
  exact ⟨⟨r, h1.kept q, fun i hi => (h2 i hi).kept q⟩, h3, h4, h5⟩
/-- A list of lists of numbers. -/
structure Grid (w : World) (a : Option Addr) (n c : Nat) (l : List (List Int)) : Prop where
  ex : ∃ r : Nat → Option Addr × Nat, Lie w a n 1 (fun i _ => .slice (r i).1 (l.getD i []).length (r i).2) ∧ ∀ i, i < n → Ints w (r i).1 (l.getD i []).length (r i).2 (l.getD i [])
  size : l.length = n
  cap : Cap a n c
theorem Grid.kept {w w' : World} {a : Option Addr} {n c : Nat} {l : List (List Int)} (h : Grid w a n c l) (q : Kept w w' none) : Grid w' a n c l := by
  obtain ⟨⟨r, h1, h2⟩, h3, h4⟩ := h
  exact ⟨⟨r, h1.kept q, fun i hi => (h2 i hi).kept q⟩, h3, h4⟩
/-- A site's lists lie where they should. -/
structure Sat (w : World) (X : Sa) (S : St) : Prop where
  g : Lie w X.g S.groups.length 3 (fun i j => grV (S.gr i) j)
  a : Lie w X.a S.apart.length 1 (fun i _ => .int .u32 (S.ap i : Int))
  b : Grid w X.b S.between.length X.bc S.between
  p : Lie w X.p S.phases.length 5 (fun i j => phV (S.ph i) j)
  e : Lie w X.e S.eyes.length 4 (fun i j => eyV (S.ey i) j)
  l : Plans w X.l S.plans.length X.lc S.plans
  gk : Cap X.g S.groups.length X.gc
  ak : Cap X.a S.apart.length X.ac
  pk : Cap X.p S.phases.length X.pc
  ek : Cap X.e S.eyes.length X.ec
  gr : ∀ g ∈ S.groups, g.kind < 256 ∧ i64B g.min ∧ i64B g.yellow
  ar : ∀ x ∈ S.apart, x < 4294967296
  pr : ∀ p ∈ S.phases, p.groups < 4294967296 ∧ i64B p.min ∧ i64B p.max ∧ i64B p.gap
  er : ∀ e ∈ S.eyes, i64B e.phase ∧ i64B e.on ∧ i64B e.off ∧ i64B e.turns
  nr : i64B S.id ∧ i64B S.watch ∧ i64B S.feed ∧ i64B S.heal ∧ i64B S.low ∧ i64B S.high
theorem Sat.kept {w w' : World} {X : Sa} {S : St} (h : Sat w X S) (q : Kept w w' none) : Sat w' X S :=
  ⟨h.g.kept q, h.a.kept q, h.b.kept q, h.p.kept q, h.e.kept q, h.l.kept q, h.gk, h.ak, h.pk, h.ek, h.gr, h.ar, h.pr, h.er, h.nr⟩
/-- A site in block B. -/
structure Sbox (w : World) (B : Nat) (X : Sa) (S : St) : Prop where
  c0 : w.cell? ⟨B, 0, none⟩ = some (.int .i64 S.id)
  c1 : w.cell? ⟨B, 1, none⟩ = some (.slice X.g S.groups.length X.gc)
  c2 : w.cell? ⟨B, 2, none⟩ = some (.slice X.a S.apart.length X.ac)
  c3 : w.cell? ⟨B, 3, none⟩ = some (.slice X.b S.between.length X.bc)
  c4 : w.cell? ⟨B, 4, none⟩ = some (.slice X.p S.phases.length X.pc)
  c5 : w.cell? ⟨B, 5, none⟩ = some (.slice X.e S.eyes.length X.ec)
  c6 : w.cell? ⟨B, 6, none⟩ = some (.int .i64 S.watch)
  c7 : w.cell? ⟨B, 7, none⟩ = some (.int .i64 S.feed)
  c8 : w.cell? ⟨B, 8, none⟩ = some (.int .i64 S.heal)
  c9 : w.cell? ⟨B, 9, none⟩ = some (.int .i64 S.low)
  c10 : w.cell? ⟨B, 10, none⟩ = some (.int .i64 S.high)
  c11 : w.cell? ⟨B, 11, none⟩ = some (.slice X.l S.plans.length X.lc)
  sat : Sat w X S
theorem cell_kept0 {w w' : World} {B j : Nat} {v : Value} (h : w.cell? ⟨B, j, none⟩ = some v) (q : Kept w w' none) : w'.cell? ⟨B, j, none⟩ = some v :=
  (World.cell?_of_block (w := w) (a := ⟨B, j, none⟩) (q.block B (block_lt h) (by simp))).trans h
theorem Sbox.kept {w w' : World} {B : Nat} {X : Sa} {S : St} (h : Sbox w B X S) (q : Kept w w' none) : Sbox w' B X S :=
  ⟨cell_kept0 h.c0 q, cell_kept0 h.c1 q, cell_kept0 h.c2 q, cell_kept0 h.c3 q, cell_kept0 h.c4 q, cell_kept0 h.c5 q, cell_kept0 h.c6 q, cell_kept0 h.c7 q, cell_kept0 h.c8 q, cell_kept0 h.c9 q, cell_kept0 h.c10 q, cell_kept0 h.c11 q, h.sat.kept q⟩
theorem Sbox.lt {w : World} {B : Nat} {X : Sa} {S : St} (h : Sbox w B X S) : B < w.heap.size := block_lt h.c0
theorem sbox_alloc {w : World} {X : Sa} {S : St} (h : Sat w X S) (t : TypeId) : Sbox (w.alloc (.cells #[.int .i64 S.id, .slice X.g S.groups.length X.gc, .slice X.a S.apart.length X.ac, .slice X.b S.between.length X.bc, .slice X.p S.phases.length X.pc, .slice X.e S.eyes.length X.ec, .int .i64 S.watch, .int .i64 S.feed, .int .i64 S.heal, .int .i64 S.low, .int .i64 S.high, .slice X.l S.plans.length X.lc] t)) w.heap.size X S :=
  ⟨by simp [World.cell?_alloc_mark], by simp [World.cell?_alloc_mark], by simp [World.cell?_alloc_mark], by simp [World.cell?_alloc_mark], by simp [World.cell?_alloc_mark], by simp [World.cell?_alloc_mark], by simp [World.cell?_alloc_mark], by simp [World.cell?_alloc_mark], by simp [World.cell?_alloc_mark], by simp [World.cell?_alloc_mark], by simp [World.cell?_alloc_mark], by simp [World.cell?_alloc_mark], h.kept (Kept.alloc _ _ _ _ _)⟩

/-! ### The elements -/
theorem Grid.at_ {w : World} {a : Option Addr} {n c : Nat} {l : List (List Int)} (h : Grid w a n c l) {i : Nat} (hi : i < n) : ∃ b off a' c', a = some ⟨b, off, none⟩ ∧ w.cell? ⟨b, off + i, none⟩ = some (.slice a' (l.getD i []).length c') ∧ Ints w a' (l.getD i []).length c' (l.getD i []) := by
  obtain ⟨r, h1, h2⟩ := h.ex
  obtain ⟨b, off, e, _, hc⟩ := h1.one (by omega)
  exact ⟨b, off, (r i).1, (r i).2, e, hc i hi, h2 i hi⟩
theorem Plans.at_ {w : World} {a : Option Addr} {n c : Nat} {l : List Pl} (h : Plans w a n c l) {i : Nat} (hi : i < n) : ∃ b off a' c', a = some ⟨b, off, none⟩ ∧ w.cell? ⟨b, off + i * 3, none⟩ = some (.int .i64 (l.getD i q0).cycle) ∧ w.cell? ⟨b, off + i * 3 + 1, none⟩ = some (.int .i64 (l.getD i q0).offset) ∧ w.cell? ⟨b, off + i * 3 + 2, none⟩ = some (.slice a' (l.getD i q0).splits.length c') ∧ Ints w a' (l.getD i q0).splits.length c' (l.getD i q0).splits := by
  obtain ⟨r, h1, h2⟩ := h.ex
  obtain ⟨b, off, e, _, hc⟩ := h1.at_ (by omega)
  exact ⟨b, off, (r i).1, (r i).2, e, hc i hi 0 (by omega), hc i hi 1 (by omega), hc i hi 2 (by omega), h2 i hi⟩
theorem Ints.at_ {w : World} {a : Option Addr} {n c : Nat} {l : List Int} (h : Ints w a n c l) (hp : 0 < n) : ∃ b off, a = some ⟨b, off, none⟩ ∧ b < w.heap.size ∧ ∀ i, i < n → w.cell? ⟨b, off + i, none⟩ = some (.int .i64 (l.getD i 0)) := by
  obtain ⟨b, off, e, hb, hc⟩ := h.lie.one hp
  exact ⟨b, off, e, hb, fun i hi => hc i hi⟩

end Go.Proofs.Ytnmfigcemknjbaa
