/-
  MESSAGES IN MEMORY OF THE CALL'S OWN, their bodies too; boxes whose type is known.
-/
import Derived.Test.YtnmfigcemknjbaaLnkM
import Derived.Test.YtnmfigcemknjbaaSep
import Derived.Test.YtnmfigcemknjbaaSTwinB
namespace Go.Proofs.Ytnmfigcemknjbaa
open Go.RowKit Go.Lib Go.Deep
set_option linter.unusedVariables false
set_option linter.unusedSimpArgs false

/-- No byte's block is what may have turned. -/
def NoB (w : World) (T : TypeId) (r : Option Nat) : Prop := ∀ g, r = some g → ∀ cur, w.heap[g]? ≠ some (.cells cur T (0, 0))
theorem NoB.none (w : World) (T : TypeId) : NoB w T none := fun g h => nomatch h
theorem NoB.new (w : World) (T : TypeId) {g : Nat} (h : w.heap.size ≤ g) : NoB w T (some g) := fun g' e cur h' => by
  injection e with e
  subst e
  rw [Array.getElem?_eq_none h] at h'
  cases h'
theorem NoB.own {w : World} {base k n : Nat} {e T : TypeId} {v : Value} {xs : List Value} (h : w.ownsRow base e k v n xs) (hT : e ≠ T) : NoB w T v.ownBlock := fun g hg cur hc => by
  rcases id h.2 with ⟨rfl, _⟩ | ⟨b, cap, cur', rfl, hb, hh, _⟩
  · cases hg
  · injection hg with hg
    subst hg
    rw [hh] at hc
    injection hc with hc
    injection hc with _ hc
    exact hT hc
theorem NoB.row {w : World} {b n : Nat} {e T : TypeId} {f : Nat → Value} (h : w.rowIs b e n f) (hT : e ≠ T) : NoB w T (some b) := fun g hg cur hc => by
  injection hg with hg
  subst hg
  obtain ⟨c, hh, _⟩ := h
  rw [hh] at hc
  injection hc with hc
  injection hc with _ hc
  exact hT hc
theorem kept_rowL {w W W' : World} {r : Option Nat} (h : Kept w W none) (k : Kept W W' r) (hr : ∀ g, r = some g → w.heap.size ≤ g) : Kept w W' none :=
  ⟨k.os.trans h.os, k.tape.trans h.tape, k.output.trans h.output, Nat.le_trans h.size k.size, fun b hb _ => (k.block b (Nat.lt_of_lt_of_le hb h.size) (fun e => by have := hr b e.symm; omega)).trans (h.block b hb (by simp))⟩
theorem row_keptT {w w' : World} {b n : Nat} {T : TypeId} {f : Nat → Value} {r : Option Nat} (h : w.rowIs b T n f) (k : Kept w w' r) (hr : NoB w T r) : w'.rowIs b T n f :=
  row_kept h k (fun e => by obtain ⟨c, hh, _⟩ := h; exact hr b e.symm c hh)
theorem own_keptT {w w' : World} {r : Option Nat} {base n k : Nat} {T : TypeId} {v : Value} {xs : List Value} (h : w.ownsRow base T k v n xs) (q : Kept w w' r) (hr : NoB w T r) : w'.ownsRow base T k v n xs :=
  own_keptR' h q (fun g hg e => by
    rcases id h.2 with ⟨rfl, _⟩ | ⟨b, cap, cur', rfl, hb, hh, _⟩
    · cases hg
    · injection hg with hg
      subst hg
      exact hr b e.symm cur' hh)
theorem Mine.keptT {w w' : World} {r : Option Nat} {base n c : Nat} {a : Option Addr} {L : List Nat} (h : Mine w base a n c L) (q : Kept w w' r) (hr : NoB w 5 r) : Mine w' base a n c L :=
  ⟨own_keptT h.own q hr, h.nil, h.room, h.max⟩
theorem Mine.base {w : World} {base base' n c : Nat} {a : Option Addr} {L : List Nat} (h : Mine w base a n c L) (hb : base' ≤ base) : Mine w base' a n c L := ⟨own_lower h.own hb, h.nil, h.room, h.max⟩
theorem mine_nil (w : World) (base : Nat) : Mine w base none 0 0 [] := ⟨World.ownsRow_nil _ _ _ _, fun _ => ⟨rfl, rfl⟩, Nat.le_refl _, by omega⟩

/-- Messages' cells, their bodies in blocks of H and behind it. -/
def nCells (w : World) (H : Nat) : List Value → List Msg → Prop
  | xs, [] => xs = []
  | xs, m :: l => ∃ a c ys, xs = .int .u8 (m.1 : Int) :: .int .u32 (m.2.1 : Int) :: .slice a m.2.2.length c :: ys ∧ Mine w H a m.2.2.length c m.2.2 ∧ nCells w H ys l
theorem nCells.kept {w w' : World} {H : Nat} {r : Option Nat} (k : Kept w w' r) (hr : NoB w 5 r) : ∀ {xs : List Value} {l : List Msg}, nCells w H xs l → nCells w' H xs l
  | xs, [], h => h
  | xs, m :: l, h => by
    obtain ⟨a, c, ys, h1, h2, h3⟩ := h
    exact ⟨a, c, ys, h1, h2.keptT k hr, nCells.kept k hr h3⟩
theorem nCells.base {w : World} {H H' : Nat} (hH : H' ≤ H) : ∀ {xs : List Value} {l : List Msg}, nCells w H xs l → nCells w H' xs l
  | xs, [], h => h
  | xs, m :: l, h => by
    obtain ⟨a, c, ys, h1, h2, h3⟩ := h
    exact ⟨a, c, ys, h1, h2.base hH, nCells.base hH h3⟩
theorem nCells.append {w : World} {H : Nat} : ∀ {xs ys : List Value} {l k : List Msg}, nCells w H xs l → nCells w H ys k → nCells w H (xs ++ ys) (l ++ k)
  | xs, ys, [], k, h, h' => by have : xs = [] := h; subst this; exact h'
  | xs, ys, m :: l, k, h, h' => by
    obtain ⟨a, c, zs, rfl, h2, h3⟩ := h
    exact ⟨a, c, zs ++ ys, rfl, h2, nCells.append h3 h'⟩
theorem nCells.length {w : World} {H : Nat} : ∀ {xs : List Value} {l : List Msg}, nCells w H xs l → xs.length = l.length * 3
  | xs, [], h => by have : xs = [] := h; subst this; rfl
  | xs, m :: l, h => by
    obtain ⟨a, c, zs, rfl, h2, h3⟩ := h
    have := nCells.length h3
    simp; omega
theorem nCells.at_ {w : World} {H : Nat} : ∀ {xs : List Value} {l : List Msg} (i : Nat) (m : Msg), nCells w H xs l → l[i]? = some m → ∃ a c, xs[i * 3]? = some (.int .u8 (m.1 : Int)) ∧ xs[i * 3 + 1]? = some (.int .u32 (m.2.1 : Int)) ∧ xs[i * 3 + 2]? = some (.slice a m.2.2.length c) ∧ Mine w H a m.2.2.length c m.2.2
  | xs, [], i, m, h, hi => by simp at hi
  | xs, m' :: l, 0, m, h, hi => by
    obtain ⟨a, c, zs, rfl, h2, h3⟩ := h
    have : m' = m := by simpa using hi
    subst this
    exact ⟨a, c, rfl, rfl, rfl, h2⟩
  | xs, m' :: l, i + 1, m, h, hi => by
    obtain ⟨a, c, zs, rfl, h2, h3⟩ := h
    obtain ⟨a', c', k1, k2, k3, k4⟩ := nCells.at_ i m h3 (by simpa using hi)
    exact ⟨a', c', by rw [show (i + 1) * 3 = i * 3 + 3 by omega]; simpa using k1, by rw [show (i + 1) * 3 + 1 = i * 3 + 1 + 3 by omega]; simpa using k2, by rw [show (i + 1) * 3 + 2 = i * 3 + 2 + 3 by omega]; simpa using k3, k4⟩
theorem nCells.one {w : World} {H : Nat} : ∀ {xs : List Value} {l : List Msg}, nCells w H xs l → ∀ u ∈ xs, u.oneCell' = true
  | xs, [], h, u, hu => by have : xs = [] := h; subst this; cases hu
  | xs, m :: l, h, u, hu => by
    obtain ⟨a, c, zs, rfl, h2, h3⟩ := h
    simp only [List.mem_cons] at hu
    rcases hu with rfl | rfl | rfl | hu
    · rfl
    · rfl
    · rfl
    · exact nCells.one h3 u hu
theorem Try.infoMs : (Try.prog.info? 47).map (fun i => (i.zero, i.size, i.bytes)) = some (some (.agg #[.int .u8 0, .int .u32 0, .slice none 0 0]), 3, 32) := by kernel_rfl
theorem Try.uMs : Try.prog.underlying 25 = some (.slice 47) := by kernel_rfl

/-- Messages that lie somewhere. -/
structure Ms (w : World) (la : Option Addr) (n : Nat) (l : List Msg) : Prop where
  size : l.length = n
  max : n ≤ 9223372036854775807
  at_ : 0 < n → ∃ b off, la = some ⟨b, off, none⟩ ∧ b < w.heap.size ∧ ∀ i m, l[i]? = some m → ∃ a c, w.cell? ⟨b, off + i * 3, none⟩ = some (.int .u8 (m.1 : Int)) ∧ w.cell? ⟨b, off + i * 3 + 1, none⟩ = some (.int .u32 (m.2.1 : Int)) ∧ w.cell? ⟨b, off + i * 3 + 2, none⟩ = some (.slice a m.2.2.length c) ∧ Come w a m.2.2.length c m.2.2
theorem cell_kl {w w' : World} (k : Kept w w' none) {b : Nat} {i : Nat} (hb : b < w.heap.size) : w'.cell? ⟨b, i, none⟩ = w.cell? ⟨b, i, none⟩ :=
  World.cell?_of_block (w := w) (a := ⟨b, i, none⟩) (k.block b hb (by simp))
theorem Come.keptL {w w' : World} {a : Option Addr} {n c : Nat} {L : List Nat} (h : Come w a n c L) (k : Kept w w' none) : Come w' a n c L := ⟨h.by_.kept k, h.nil, h.room, h.max⟩
theorem Ms.kept {w w' : World} {la : Option Addr} {n : Nat} {l : List Msg} (h : Ms w la n l) (k : Kept w w' none) : Ms w' la n l := by
  refine ⟨h.size, h.max, fun hp => ?_⟩
  obtain ⟨b, off, rfl, hb, hc⟩ := h.at_ hp
  refine ⟨b, off, rfl, Nat.lt_of_lt_of_le hb k.size, fun i m hm => ?_⟩
  obtain ⟨a, c, h1, h2, h3, h4⟩ := hc i m hm
  exact ⟨a, c, (cell_kl k hb).trans h1, (cell_kl k hb).trans h2, (cell_kl k hb).trans h3, h4.keptL k⟩
theorem Ms.nil (w : World) : Ms w none 0 [] := ⟨rfl, by omega, fun h => absurd h (by omega)⟩

/-- Messages in memory that is newer than w0. -/
structure Mw (w0 w : World) (l : List Msg) (v : Value) : Prop where
  ex : ∃ xs, w.ownsRow w0.heap.size 47 3 v l.length xs ∧ nCells w w0.heap.size xs l
  kept : Kept w0 w none
theorem Mw.nil (w : World) : Mw w w [] (.slice none 0 0) := ⟨⟨[], World.ownsRow_nil _ _ _ _, rfl⟩, Kept.refl _ _⟩
theorem Mw.nil' {w0 w : World} (k : Kept w0 w Option.none) : Mw w0 w [] (.slice Option.none 0 0) := ⟨⟨[], World.ownsRow_nil _ _ _ _, rfl⟩, k⟩
/-- Other memory turned. -/
theorem Mw.kept' {w0 w w' : World} {l : List Msg} {v : Value} {r : Option Nat} (h : Mw w0 w l v) (k : Kept w w' r) (h1 : NoB w 5 r) (h2 : NoB w 47 r) (h3 : ∀ g, r = some g → w0.heap.size ≤ g) : Mw w0 w' l v := by
  obtain ⟨⟨xs, o, n⟩, q⟩ := h
  exact ⟨⟨xs, own_keptT o k h2, n.kept k h1⟩, kept_rowL q k h3⟩
theorem Mw.keptN {w0 w w' : World} {l : List Msg} {v : Value} (h : Mw w0 w l v) (k : Kept w w' Option.none) : Mw w0 w' l v := h.kept' k (NoB.none _ _) (NoB.none _ _) (fun g e => nomatch e)
theorem Mw.of {w0 w1 w : World} {l : List Msg} {v : Value} (h : Mw w1 w l v) (k : Kept w0 w1 Option.none) : Mw w0 w l v := by
  obtain ⟨⟨xs, o, n⟩, q⟩ := h
  exact ⟨⟨xs, own_lower o k.size, n.base k.size⟩, k.tr q⟩
/-- The list as a slice. -/
theorem Mw.slice {w0 w : World} {l : List Msg} {v : Value} (h : Mw w0 w l v) : ∃ a c, v = .slice a l.length c ∧ l.length ≤ c ∧ c ≤ 9223372036854775807 ∧ (a = Option.none → c = 0) := by
  obtain ⟨⟨xs, o, n⟩, q⟩ := h
  rcases id o.2 with ⟨rfl, e⟩ | ⟨b, cap, cur', rfl, hb, hh, h1, h2, h3, h4⟩
  · exact ⟨Option.none, 0, by rw [e], by omega, by omega, fun _ => rfl⟩
  · unfold maxLen at h2
    exact ⟨_, cap, rfl, h1, h2, fun e => nomatch e⟩
theorem Mw.ms {w0 w : World} {l : List Msg} {a : Option Addr} {n c : Nat} (h : Mw w0 w l (.slice a n c)) (hok : ∀ m ∈ l, Mok m) : Ms w a n l := by
  obtain ⟨⟨xs, o, hn⟩, q⟩ := h
  rcases id o.2 with ⟨e, e0⟩ | ⟨b, cap, cur', e, hb, hh, h1, h2, h3, h4⟩
  · injection e with e1 e2 e3
    subst e1 e2
    exact ⟨e0, by omega, fun h => absurd h (by omega)⟩
  · injection e with e1 e2 e3
    subst e1 e2 e3
    unfold maxLen at h2
    refine ⟨rfl, by omega, fun _ => ⟨b, 0, rfl, (o.lt b rfl).2, fun i m hm => ?_⟩⟩
    obtain ⟨a, c, q1, q2, q3, q4⟩ := hn.at_ i m hm
    have hcell : ∀ j u, xs[j]? = some u → w.cell? ⟨b, 0 + j, Option.none⟩ = some u := fun j u hu => by
      have := o.cells (g := b) rfl j u hu
      rw [Addr.add_lit] at this
      exact this
    have hM := hok m (List.mem_of_getElem? hm)
    exact ⟨a, c, hcell _ _ q1, hcell _ _ q2, hcell _ _ q3, q4.by hM.body, fun e => (q4.nil e).2, q4.room, q4.max⟩
/-- Own messages, and other own ones behind them: append. -/
theorem Mw.join {w0 w : World} {l k : List Msg} {v : Value} (h : Mw w0 w l v) {b off c : Nat} {ys : List Value} (hc : ∀ j u, ys[j]? = some u → w.cell? ⟨b, off + j, Option.none⟩ = some u) (hy : nCells w w0.heap.size ys k) (hn : l.length + k.length ≤ 100000) (ty : TypeId) :
    ∃ v' w', (Builtin.append_ #[25, 25] ty #[v, .slice (some ⟨b, off, Option.none⟩) k.length c]).run Try.prog w = .ok v' w' ∧ Mw w0 w' (l ++ k) v' ∧ Kept w w' v.ownBlock ∧ NoB w 5 v.ownBlock ∧ NoB w 24 v.ownBlock := by
  obtain ⟨⟨xs, o, hx⟩, q⟩ := h
  obtain ⟨i0, hi0, hz0, hz1, hz2⟩ := info_parts Try.infoMs
  obtain ⟨v', w', hr, h2, h3, _, h5⟩ := run_append_own_at (P := Try.prog) w w0.heap.size 25 ty 47 i0 _ 3 32 Try.uMs hi0 hz0 hz1 hz2 rfl (by omega) v l.length xs o ⟨b, off, Option.none⟩ k.length c ys (hy.length) (fun j u hu => by rw [Addr.add_lit]; exact hc j u hu) (fun u hu => nCells.one hy u hu) (by unfold maxLen; omega) (by omega) q.size
  have n5 : NoB w 5 v.ownBlock := NoB.own o (by decide)
  have nL : NoB w 24 v.ownBlock := NoB.own o (by decide)
  refine ⟨v', w', hr, ⟨⟨xs ++ ys, by rw [List.length_append]; exact h2, (hx.append hy).kept h3 n5⟩, kept_rowL q h3 (fun g e => (o.lt g e).1)⟩, h3, n5, nL⟩

end Go.Proofs.Ytnmfigcemknjbaa
