import Derived.Maps.AppendAt
import Derived.Test.YtfhmfanmnhclfaaDoorP4
import Derived.Test.YtfhmfanmnhclfaaDoorP18
import Derived.Test.YtfhmfanmnhclfaaDoorP12
namespace Go.Proofs.YtfhmfanmnhclfaaDoor
set_option linter.unusedVariables false
set_option linter.unusedSimpArgs false
open Go.RowKit Go.Lib Go.Deep

theorem own_lower {w : World} {base b2 e size n : Nat} {v : Value} {xs : List Value} (h : w.ownsRow base e size v n xs) (hb : b2 ≤ base) : w.ownsRow b2 e size v n xs := by
  refine ⟨h.1, ?_⟩
  rcases h.2 with hn | ⟨g, cap, cur, rfl, hbg, rest⟩
  · exact .inl hn
  · exact .inr ⟨g, cap, cur, rfl, Nat.le_trans hb hbg, rest⟩
theorem Mine.lower {w : World} {base b2 : Nat} {a : Option Addr} {n cap : Nat} {L : List Nat} (h : Mine w base a n cap L) (hb : b2 ≤ base) : Mine w b2 a n cap L := ⟨own_lower h.own hb, h.nil, h.room, h.max⟩
/-- The slice's block is the same, or a new one. -/
abbrev Moved (w : World) (v v' : Value) : Prop := v'.ownBlock = v.ownBlock ∨ ∃ g, v'.ownBlock = some g ∧ w.heap.size ≤ g
theorem own_keptR {w w' : World} {r : Option Nat} {base e size n : Nat} {v : Value} {xs : List Value} (h : w.ownsRow base e size v n xs) (k : Kept w w' r) (hr : ∀ i, v.ownBlock = some i → some i ≠ r) : w'.ownsRow base e size v n xs := by
  refine ⟨h.1, ?_⟩
  rcases h.2 with hn | ⟨g, cap, cur, rfl, hb, hgg, rest⟩
  · exact .inl hn
  · refine .inr ⟨g, cap, cur, rfl, hb, ?_, rest⟩
    rw [k.block g (Array.getElem?_eq_some_iff.1 hgg).1 (hr g rfl)]
    exact hgg
theorem Mine.keptR {w w' : World} {r : Option Nat} {base : Nat} {a : Option Addr} {n cap : Nat} {L : List Nat} (h : Mine w base a n cap L) (k : Kept w w' r) (hr : ∀ i, (Value.slice a n cap).ownBlock = some i → some i ≠ r) : Mine w' base a n cap L := ⟨own_keptR h.own k hr, h.nil, h.room, h.max⟩
theorem Mine.kept {w w' : World} {base : Nat} {a : Option Addr} {n cap : Nat} {L : List Nat} (h : Mine w base a n cap L) (k : Kept w w' none) : Mine w' base a n cap L := h.keptR k (fun _ _ => by simp)
theorem Mine.lt {w : World} {base : Nat} {a : Option Addr} {n cap : Nat} {L : List Nat} (h : Mine w base a n cap L) : ∀ k, (Value.slice a n cap).ownBlock = some k → base ≤ k ∧ k < w.heap.size := fun k hk => h.own.lt k hk
theorem cell_keptR {w w' : World} {r : Option Nat} {B j : Nat} {v : Value} (h : w.cell? ⟨B, j, none⟩ = some v) (q : Kept w w' r) (hr : some B ≠ r) : w'.cell? ⟨B, j, none⟩ = some v :=
  (World.cell?_of_block (w := w) (a := ⟨B, j, none⟩) (q.block B (block_lt h) hr)).trans h
theorem Lie.keptR {w w' : World} {r : Option Nat} {a : Option Addr} {n k : Nat} {f : Nat → Nat → Value} (h : Lie w a n k f) (q : Kept w w' r) (hr : 0 < n → ∀ x, a = some x → some x.block ≠ r) : Lie w' a n k f :=
  ⟨fun hp => by
    obtain ⟨b, off, rfl, hb, hc⟩ := h.at_ hp
    exact ⟨b, off, rfl, Nat.lt_of_lt_of_le hb q.size, fun i hi j hj => (World.cell?_of_block (w := w) (a := ⟨b, off + i * k + j, none⟩) (q.block b hb (hr hp _ rfl))).trans (hc i hi j hj)⟩⟩
theorem Ints.keptR {w w' : World} {r : Option Nat} {a : Option Addr} {n c : Nat} {l : List Int} (h : Ints w a n c l) (q : Kept w w' r) (hr : 0 < n → ∀ x, a = some x → some x.block ≠ r) : Ints w' a n c l := ⟨h.lie.keptR q hr, h.size, h.cap, h.rng⟩
theorem Ints.lt {w : World} {a : Option Addr} {n c : Nat} {l : List Int} (h : Ints w a n c l) (hp : 0 < n) : ∀ x, a = some x → x.block < w.heap.size := fun x hx => by
  obtain ⟨b, off, e, hb, _⟩ := h.at_ hp
  rw [e] at hx
  injection hx with hx
  subst hx
  exact hb
/-- One step more, in the list's own block or in new ones. -/
theorem Kept.step {w w1 w2 : World} {v v1 : Value} (h : Kept w w1 v.ownBlock) (k : Kept w1 w2 v1.ownBlock) (m : Moved w v v1) : Kept w w2 v.ownBlock := by
  refine ⟨k.os.trans h.os, k.tape.trans h.tape, k.output.trans h.output, Nat.le_trans h.size k.size, fun i hi hr => ?_⟩
  refine (k.block i (Nat.lt_of_lt_of_le hi h.size) ?_).trans (h.block i hi hr)
  rcases m with m | ⟨g, m, hg⟩
  · rw [m]; exact hr
  · rw [m]
    intro e
    injection e with e
    omega
theorem Kept.base {w w' : World} {r : Option Nat} (h : Kept w w' r) (hr : ∀ i, r = some i → w.heap.size ≤ i) : Kept w w' none := ⟨h.os, h.tape, h.output, h.size, fun i hi _ => h.block i hi (fun e => by have := hr i e.symm; omega)⟩
theorem Moved.tr {w w1 : World} {v v1 v2 : Value} (h : Moved w v v1) (k : Moved w1 v1 v2) (hs : w.heap.size ≤ w1.heap.size) : Moved w v v2 := by
  rcases k with k | ⟨g, k, hg⟩
  · rcases h with h | ⟨g, h, hg⟩
    · exact .inl (k.trans h)
    · exact .inr ⟨g, k.trans h, hg⟩
  · exact .inr ⟨g, k, by omega⟩

theorem kept_setZ (w : World) (b j : Nat) (v : Value) : Kept w (w.setCell ⟨b, j, none⟩ v) (some b) :=
  ⟨rfl, rfl, rfl, by simp [World.setCell], fun k hk hr => by
    simp only [World.setCell]
    rw [Array.getElem?_modify, if_neg (fun e => hr (by rw [e]))]⟩
structure LtrZ (lo : Nat) (w w' : World) : Prop where
  size : w.heap.size ≤ w'.heap.size
  block : ∀ k, lo ≤ k → k < w.heap.size → w'.heap[k]? = w.heap[k]?
theorem LtrZ.tr {lo : Nat} {a b c : World} (h : LtrZ lo a b) (k : LtrZ lo b c) : LtrZ lo a c := ⟨Nat.le_trans h.size k.size, fun i hi hl => (k.block i hi (Nat.lt_of_lt_of_le hl h.size)).trans (h.block i hi hl)⟩
theorem Kept.ltrZ {w w' : World} {x lo : Nat} (h : Kept w w' (some x)) (hx : x < lo) : LtrZ lo w w' := ⟨h.size, fun k hk hl => h.block k hl (fun e => by have := Option.some.inj e; omega)⟩
theorem LtrZ.set {lo : Nat} (w : World) {g : Nat} (hg : g < lo) (j : Nat) (v : Value) : LtrZ lo w (w.setCell ⟨g, j, none⟩ v) := (kept_setZ w g j v).ltrZ hg
theorem LtrZ.cell {lo : Nat} {w w' : World} {b j : Nat} {v : Value} (q : LtrZ lo w w') (h : w.cell? ⟨b, j, none⟩ = some v) (hb : lo ≤ b) : w'.cell? ⟨b, j, none⟩ = some v :=
  (World.cell?_of_block (w := w) (a := ⟨b, j, none⟩) (q.block b hb (block_lt h))).trans h
end Go.Proofs.YtfhmfanmnhclfaaDoor
