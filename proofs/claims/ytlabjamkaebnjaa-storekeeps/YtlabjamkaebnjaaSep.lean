/-
  WORLDS THAT DIFFER IN NAMED BLOCKS ALONE; a piece in memory.
-/
import Derived.Test.YtlabjamkaebnjaaFrmM
import Derived.Test.YtlabjamkaebnjaaSmallJ
import Derived.Deep.RegionWith
namespace Go.Proofs.Ytlabjamkaebnjaa
open Go.RowKit Go.Lib Go.Deep
set_option linter.unusedVariables false
set_option linter.unusedSimpArgs false

/-- Nothing that was there has turned, but for the blocks S. -/
structure Sep (w w' : World) (S : Nat → Prop) : Prop where
  os : w'.os = w.os
  tape : w'.tape = w.tape
  output : w'.output = w.output
  size : w.heap.size ≤ w'.heap.size
  block : ∀ k, k < w.heap.size → ¬ S k → w'.heap[k]? = w.heap[k]?
theorem Sep.refl (w : World) (S : Nat → Prop) : Sep w w S := ⟨rfl, rfl, rfl, Nat.le_refl _, fun _ _ _ => rfl⟩
theorem Sep.tr {a b c : World} {S T : Nat → Prop} (h : Sep a b S) (k : Sep b c T) (hT : ∀ i, i < a.heap.size → T i → S i) : Sep a c S :=
  ⟨k.os.trans h.os, k.tape.trans h.tape, k.output.trans h.output, Nat.le_trans h.size k.size, fun i hi hS => (k.block i (Nat.lt_of_lt_of_le hi h.size) (fun t => hS (hT i hi t))).trans (h.block i hi hS)⟩
theorem Sep.kept {a b : World} {S : Nat → Prop} (h : Kept a b none) : Sep a b S := ⟨h.os, h.tape, h.output, h.size, fun i hi _ => h.block i hi (by simp)⟩
theorem Sep.row {a b : World} {S : Nat → Prop} {r : Option Nat} (h : Kept a b r) (hr : ∀ i, i < a.heap.size → r = some i → S i) : Sep a b S := ⟨h.os, h.tape, h.output, h.size, fun i hi hS => h.block i hi (fun e => hS (hr i hi e.symm))⟩
theorem Sep.mono {a b : World} {S T : Nat → Prop} (h : Sep a b S) (hT : ∀ i, i < a.heap.size → S i → T i) : Sep a b T := ⟨h.os, h.tape, h.output, h.size, fun i hi hS => h.block i hi (fun s => hS (hT i hi s))⟩
theorem Sep.to_kept {a b : World} {S : Nat → Prop} (h : Sep a b S) (hS : ∀ i, i < a.heap.size → ¬ S i) : Kept a b none := ⟨h.os, h.tape, h.output, h.size, fun i hi _ => h.block i hi (hS i hi)⟩
theorem Sep.set (w : World) (b off : Nat) (v : Value) : Sep w (w.setCell ⟨b, off, none⟩ v) (fun k => k = b) :=
  ⟨rfl, rfl, rfl, by simp [World.setCell], fun k hk hS => by
    simp only [World.setCell]
    rw [Array.getElem?_modify, if_neg (fun e => hS e.symm)]⟩
theorem By.sep {w w' : World} {a : Option Addr} {len : Nat} {L : List Nat} {S : Nat → Prop} (h : By w a len L) (k : Sep w w' S) (hS : ∀ x, a = some x → ¬ S x.block) : By w' a len L := by
  obtain ⟨h1, h2, h3, h4⟩ := h
  refine ⟨h1, h2, h3, fun hp => ?_⟩
  obtain ⟨b, off, rfl, hb, hc⟩ := h4 hp
  exact ⟨b, off, rfl, Nat.lt_of_lt_of_le hb k.size, fun i hi => (World.cell?_of_block (w := w) (a := ⟨b, off + i, none⟩) (k.block b hb (hS _ rfl))).trans (hc i hi)⟩
theorem own_sep {w w' : World} {S : Nat → Prop} {base e size n : Nat} {v : Value} {xs : List Value} (h : w.ownsRow base e size v n xs) (k : Sep w w' S) (hS : ∀ i, v.ownBlock = some i → ¬ S i) : w'.ownsRow base e size v n xs := by
  refine ⟨h.1, ?_⟩
  rcases h.2 with hn | ⟨g, cap, cur, rfl, hb, hgg, rest⟩
  · exact .inl hn
  · refine .inr ⟨g, cap, cur, rfl, hb, ?_, rest⟩
    rw [k.block g (Array.getElem?_eq_some_iff.1 hgg).1 (hS g rfl)]
    exact hgg
theorem row_sep {w w' : World} {b : Nat} {t : TypeId} {n : Nat} {f : Nat → Value} {S : Nat → Prop} (h : w.rowIs b t n f) (k : Sep w w' S) (hS : ¬ S b) : w'.rowIs b t n f := h.of_block (k.block b h.lt hS)

/-! ### A piece in memory -/
abbrev halfV (h : Bool) : Value := .int .u8 (if h = true then 1 else 0)
/-- Block b holds a piece from cell 'off' on; what it tells is the slice v. -/
structure Pce (w : World) (b off : Nat) (T : TypeId) (n : Nat) (v : Value) (s : Pc) (f : Nat → Value) : Prop where
  row : w.rowIs b T n f
  fit : off + 2 < n
  bare : f off = v
  half : f (off + 1) = halfV s.2.1
  lost : f (off + 2) = .bool s.2.2
  own : w.ownsRow 0 5 1 v s.1.length (s.1.map byteV)
  ne : v.ownBlock ≠ some b
/-- The slice's block is the same, or a new one. -/
abbrev Moved (w : World) (v v' : Value) : Prop := v'.ownBlock = v.ownBlock ∨ ∃ g, v'.ownBlock = some g ∧ w.heap.size ≤ g
abbrev PS (b : Nat) (v : Value) : Nat → Prop := fun k => k = b ∨ v.ownBlock = some k
theorem Pce.lt {w : World} {b off : Nat} {T : TypeId} {n : Nat} {v : Value} {s : Pc} {f : Nat → Value} (h : Pce w b off T n v s f) : ∀ k, v.ownBlock = some k → k < w.heap.size := fun k hk => (h.own.lt k hk).2
theorem Pce.sep {w w' : World} {b off : Nat} {T : TypeId} {n : Nat} {v : Value} {s : Pc} {f : Nat → Value} {S : Nat → Prop} (h : Pce w b off T n v s f) (k : Sep w w' S) (hb : ¬ S b) (hv : ∀ i, v.ownBlock = some i → ¬ S i) : Pce w' b off T n v s f :=
  ⟨row_sep h.row k hb, h.fit, h.bare, h.half, h.lost, own_sep h.own k hv, h.ne⟩
theorem Pce.kept {w w' : World} {b off : Nat} {T : TypeId} {n : Nat} {v : Value} {s : Pc} {f : Nat → Value} (h : Pce w b off T n v s f) (k : Kept w w' none) : Pce w' b off T n v s f :=
  h.sep (S := fun _ => False) (Sep.kept k) (fun x => x) (fun _ _ x => x)
/-- The state is another one. -/
theorem Pce.setHalf {w : World} {b off : Nat} {T : TypeId} {n : Nat} {v : Value} {s : Pc} {f : Nat → Value} (h : Pce w b off T n v s f) (x : Bool) : Pce (w.setCell ⟨b, off + 1, none⟩ (halfV x)) b off T n v (s.1, x, s.2.2) (fun j => if j = off + 1 then halfV x else f j) :=
  ⟨h.row.set _ _, h.fit, by simp [h.bare], by simp, by simp [h.lost], own_sep h.own (Sep.set w b (off + 1) _) (fun i hi e => h.ne (by rw [hi, e])), h.ne⟩
theorem Pce.setLost {w : World} {b off : Nat} {T : TypeId} {n : Nat} {v : Value} {s : Pc} {f : Nat → Value} (h : Pce w b off T n v s f) (x : Bool) : Pce (w.setCell ⟨b, off + 2, none⟩ (.bool x)) b off T n v (s.1, s.2.1, x) (fun j => if j = off + 2 then .bool x else f j) :=
  ⟨h.row.set _ _, h.fit, by simp [h.bare], by simp [h.half], by simp, own_sep h.own (Sep.set w b (off + 2) _) (fun i hi e => h.ne (by rw [hi, e])), h.ne⟩
/-- One byte more. -/
theorem Pce.setBare {w w' : World} {b off : Nat} {T : TypeId} {n : Nat} {v : Value} {s : Pc} {f : Nat → Value} (h : Pce w b off T n v s f) {g cap : Nat} {x : Nat}
    (ho : w'.ownsRow 0 5 1 (.slice (some ⟨g, 0, none⟩) (s.1.length + 1) cap) (s.1.length + 1) (s.1.map byteV ++ [byteV x])) (hg : Sep w w' (fun k => v.ownBlock = some k)) (hm : v.ownBlock = some g ∨ w.heap.size ≤ g) :
    Pce (w'.setCell ⟨b, off, none⟩ (.slice (some ⟨g, 0, none⟩) (s.1.length + 1) cap)) b off T n (.slice (some ⟨g, 0, none⟩) (s.1.length + 1) cap) (s.1 ++ [x], s.2.1, s.2.2) (fun j => if j = off then .slice (some ⟨g, 0, none⟩) (s.1.length + 1) cap else f j) := by
  have hne : g ≠ b := by
    intro e
    subst e
    rcases hm with hm | hm
    · exact h.ne hm
    · have := h.row.lt; omega
  refine ⟨(row_sep h.row hg (fun e => h.ne e)).set _ _, h.fit, by simp, by simp [h.half], by simp [h.lost], ?_, fun e => hne (by simpa [Value.ownBlock] using e)⟩
  refine own_sep ?_ (Sep.set w' b off _) (fun i hi e => hne (by simp [Value.ownBlock] at hi; omega))
  simpa using ho

end Go.Proofs.Ytlabjamkaebnjaa
