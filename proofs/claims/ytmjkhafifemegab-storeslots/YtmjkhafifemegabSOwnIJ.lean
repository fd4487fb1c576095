/-
  Texts joined: some of those that the proofs of this seat stand on.
-/
import Derived.Test.YtmjkhafifemegabWorld
import Derived.Test.YtmjkhafifemegabSTwinB
import Derived.Laws.MakeOwn
/-
  Of the text OwnI: what this stage needs (culled by a program).
-/
namespace Go.Proofs.Ytmjkhafifemegab
open Go.RowKit Go.Lib Go.Deep
set_option linter.unusedVariables false
set_option linter.unusedSimpArgs false

/-- A list of numbers in memory that lies behind a base. -/
def OwI (w : World) (base : Nat) (v : Value) (l : List Int) : Prop := w.ownsRow base 3 1 v l.length (cellsL l.length 1 (fun i _ => .int .i64 (l.getD i 0)))
theorem OwI.nil (w : World) (base : Nat) : OwI w base (.slice none 0 0) [] := World.ownsRow_nil _ _ _ _
theorem OwI.keptR {w w' : World} {r : Option Nat} {base : Nat} {v : Value} {l : List Int} (h : OwI w base v l) (q : Kept w w' r) (hr : ∀ g, v.ownBlock = some g → some g ≠ r) : OwI w' base v l := own_keptR' h q hr
theorem OwI.kept {w w' : World} {base : Nat} {v : Value} {l : List Int} (h : OwI w base v l) (q : Kept w w' none) : OwI w' base v l := h.keptR q (fun g _ => by simp)
theorem OwI.ints {w : World} {base : Nat} {v : Value} {l : List Int} (h : OwI w base v l) (hr : ∀ x ∈ l, -9223372036854775808 ≤ x ∧ x ≤ 9223372036854775807) : ∃ a c, v = .slice a l.length c ∧ Ints w a l.length c l ∧ ∀ b, a = some b → base ≤ b.block ∧ b.block < w.heap.size := by
  obtain ⟨a, cap, e, h1, h2, h3⟩ := lie_own (by omega) h
  exact ⟨a, cap, e, ⟨h1, rfl, h2, hr⟩, h3⟩
theorem getD_snoc (l : List Int) (x : Int) (i : Nat) : (l ++ [x]).getD i 0 = if i = l.length then x else l.getD i 0 := by
  by_cases h : i = l.length
  · subst h; simp
  · rw [if_neg h]
    by_cases h2 : i < l.length
    · simp [h2, List.getElem?_append_left]
    · rw [List.getD_eq_getElem?_getD, List.getD_eq_getElem?_getD, List.getElem?_eq_none (by simp; omega), List.getElem?_eq_none (by omega)]
theorem OwI.grow {w : World} {base : Nat} {v : Value} {l : List Int} (h : OwI w base v l) (x : Int) (hn : l.length ≤ 1000) (hb : base ≤ w.heap.size) :
    ∃ v' w', (Builtin.append_ #[62, 62] 62 #[v, .slice (some ⟨w.heap.size, 0, none⟩) 1 1]).run Try.prog (w.alloc (.cells #[.int .i64 x] 3)) = .ok v' w' ∧ OwI w' base v' (l ++ [x]) ∧ Kept w w' v.ownBlock ∧ (v'.ownBlock = v.ownBlock ∨ v'.ownBlock = some (w.heap.size + 1)) := by
  obtain ⟨i0, hi0, hz0, hz1, hz2⟩ := info_parts Try.infoIn
  have hk : Kept w (w.alloc (.cells #[.int .i64 x] 3)) none := Kept.alloc _ _ _ _ _
  have hz : (w.alloc (.cells #[.int .i64 x] 3)).heap.size = w.heap.size + 1 := by simp
  have hc : ∀ j, j < 1 → (w.alloc (.cells #[.int .i64 x] 3)).cell? ⟨w.heap.size, 0 + j, none⟩ = some (.int .i64 x) := fun j hj => by
    have : j = 0 := by omega
    subst this
    simp [World.cell?_alloc_mark]
  obtain ⟨v', w', hr, g1, g2, g3⟩ := grow_run (t := 62) (ty := 62) (c := 1) (g := fun _ => .int .i64 x) Try.uIns hi0 hz0 hz1 hz2 rfl (by omega) (by omega) (h.kept hk) hc (fun j => rfl) hn (by omega)
  rw [hz] at g3
  refine ⟨v', w', hr, ?_, ?_, g3⟩
  · unfold OwI
    rw [List.length_append]
    have e : (fun (i _ : Nat) => if i = l.length then Value.int .i64 x else .int .i64 (l.getD i 0)) = (fun (i _ : Nat) => Value.int .i64 ((l ++ [x]).getD i 0)) := by
      funext i _
      rw [getD_snoc]
      split <;> rfl
    rw [e] at g1
    exact g1
  · have h2 : Kept (w.alloc (.cells #[.int .i64 x] 3)) w' v.ownBlock := g2
    refine ⟨h2.os.trans hk.os, h2.tape.trans hk.tape, h2.output.trans hk.output, Nat.le_trans hk.size h2.size, fun i hi hne => (h2.block i (Nat.lt_of_lt_of_le hi hk.size) hne).trans (hk.block i hi (by simp))⟩
theorem OwI.lt {w : World} {base : Nat} {v : Value} {l : List Int} (h : OwI w base v l) : ∀ g, v.ownBlock = some g → base ≤ g ∧ g < w.heap.size := own_lt h
theorem OwI.far {w w' : World} {base : Nat} {v : Value} {l : List Int} (h : OwI w base v l) (k : Kept w w' v.ownBlock) {w0 : World} (h0 : Kept w0 w none) (hb : w0.heap.size ≤ base) : Kept w0 w' none :=
  ⟨k.os.trans h0.os, k.tape.trans h0.tape, k.output.trans h0.output, Nat.le_trans h0.size k.size, fun i hi _ => (k.block i (Nat.lt_of_lt_of_le hi h0.size) (fun e => by have := (h.lt i e.symm).1; omega)).trans (h0.block i hi (by simp))⟩
end Go.Proofs.Ytmjkhafifemegab

/-
  Of the text TwinC: what this stage needs (culled by a program).
-/
namespace Go.Proofs.Ytmjkhafifemegab
open Go.RowKit Go.Lib Go.Deep
set_option linter.unusedVariables false
set_option linter.unusedSimpArgs false

theorem Lie.ltrA {lo : Nat} {w w' : World} {a : Option Addr} {n k : Nat} {f : Nat → Nat → Value} (h : Lie w a n k f) (q : LtrZ lo w w') (hl : ∀ b, a = some b → lo ≤ b.block) : Lie w' a n k f :=
  ⟨fun hp => by
    obtain ⟨b, off, rfl, hb, hc⟩ := h.at_ hp
    exact ⟨b, off, rfl, Nat.lt_of_lt_of_le hb q.size, fun i hi j hj => q.cell (hc i hi j hj) (hl _ rfl)⟩⟩
theorem Ints.ltrA {lo : Nat} {w w' : World} {a : Option Addr} {n c : Nat} {l : List Int} (h : Ints w a n c l) (q : LtrZ lo w w') (hl : ∀ b, a = some b → lo ≤ b.block) : Ints w' a n c l := ⟨h.lie.ltrA q hl, h.size, h.cap, h.rng⟩
def TwP (w : World) (l : List Pl) (n : Nat) (e : Ending) (w' : World) : Prop := ∃ a' c', e = .returned (.slice a' n c') ∧ (∀ w'', LtrZ w.heap.size w' w'' → Plans w'' a' n c' l) ∧ Kept w w' none
theorem Tp.start (w : World) (l : List Pl) : Tp w l w 0 (.slice none 0 0) := ⟨⟨fun _ => (none, 0), World.ownsRow_nil _ _ _ _, fun i hi => by omega, fun i hi => by omega⟩, Kept.refl _ _⟩
theorem Tp.done {w wr : World} {l : List Pl} {n : Nat} {v : Value} (h : Tp w l wr n v) (hl : l.length = n) (hr : ∀ p ∈ l, i64B p.cycle ∧ i64B p.offset) : TwP w l n (.returned v) wr := by
  obtain ⟨⟨r, ho, hi, hb⟩, hk⟩ := h
  obtain ⟨a', cap, rfl, h1, h2, h3⟩ := lie_own (by omega) ho
  exact ⟨a', cap, rfl, fun w'' q => ⟨⟨r, h1.ltrA q (fun b e => (h3 b e).1), fun i hin => (hi i hin).ltrA q (fun b e => (hb i hin b e).2.2)⟩, hl, h2, hr⟩, hk⟩
end Go.Proofs.Ytmjkhafifemegab

/-
  Of the text TwinD: what this stage needs (culled by a program).
-/
namespace Go.Proofs.Ytmjkhafifemegab
open Go.RowKit Go.Lib Go.Deep
set_option linter.unusedVariables false
set_option linter.unusedSimpArgs false

theorem Try.infoSl : (Try.prog.info? 62).map (fun i => (i.zero, i.size, i.bytes)) = some (some (.slice none 0 0), 1, 24) := by kernel_rfl
theorem Try.uSls : Try.prog.underlying 68 = some (.slice 62) := by kernel_rfl

/-- The three boxes: the site that came, the answer, the site in new memory. -/
structure Tst (w W : World) (s c : Array Value) : Prop where
  kept : Kept w W none
  sb : W.rowIs w.heap.size 72 12 (fSZ s)
  rb : W.rowIs (w.heap.size + 1) 72 12 (fSZ zSZ)
  tb : W.rowIs (w.heap.size + 1 + 1) 72 12 (fSZ c)
theorem Tst.call {w W W' : World} {s c : Array Value} (h : Tst w W s c) (k : Kept W W' none) : Tst w W' s c := ⟨h.kept.tr k, row_kept h.sb k (by simp), row_kept h.rb k (by simp), row_kept h.tb k (by simp)⟩
theorem Tst.drew {w W : World} {s c : Array Value} (h : Tst w W s c) : Tst w W.drew s c := h.call (Kept.drew _ _)
theorem kept_row {w W W' : World} {r : Option Nat} (h : Kept w W none) (k : Kept W W' r) (hr : ∀ g, r = some g → w.heap.size ≤ g) : Kept w W' none :=
  ⟨k.os.trans h.os, k.tape.trans h.tape, k.output.trans h.output, Nat.le_trans h.size k.size, fun b hb _ => (k.block b (Nat.lt_of_lt_of_le hb h.size) (fun e => by have := hr b e.symm; omega)).trans (h.block b hb (by simp))⟩
theorem Tst.grow {w W W' : World} {s c : Array Value} {r : Option Nat} (h : Tst w W s c) (k : Kept W W' r) (hr : ∀ g, r = some g → w.heap.size + 1 + 1 < g) : Tst w W' s c :=
  ⟨kept_row h.kept k (fun g e => by have := hr g e; omega), row_kept h.sb k (fun e => by have := hr _ e.symm; omega), row_kept h.rb k (fun e => by have := hr _ e.symm; omega), row_kept h.tb k (fun e => by have := hr _ e.symm; omega)⟩
theorem Tst.put {w W : World} {s c : Array Value} (h : Tst w W s c) (j : Nat) (v : Value) (hj : j < c.size) : Tst w (W.setCell ⟨w.heap.size + 1 + 1, j, none⟩ v) s (c.setIfInBounds j v) :=
  ⟨kept_newZ h.kept (by omega) j v, h.sb.setOther (by show _ ≠ w.heap.size + 1 + 1; omega) v, h.rb.setOther (by show _ ≠ w.heap.size + 1 + 1; omega) v, (h.tb.set j v).congr (fun i _ => fSZ_set c j v hj i)⟩
/-- A list in new memory. -/
structure Nl (w W : World) (a : Option Addr) (n k : Nat) (f : Nat → Nat → Value) : Prop where
  lie : Lie W a n k f
  new : ∀ b, a = some b → w.heap.size + 1 + 1 < b.block ∧ b.block < W.heap.size
theorem Nl.kept {w W W' : World} {r : Option Nat} {a : Option Addr} {n k : Nat} {f : Nat → Nat → Value} (h : Nl w W a n k f) (q : Kept W W' r) (hr : ∀ g, r = some g → g = w.heap.size + 1 + 1 ∨ ∀ b, a = some b → b.block ≠ g) : Nl w W' a n k f :=
  ⟨⟨fun hp => by
    obtain ⟨b, off, rfl, hb, hc⟩ := h.lie.at_ hp
    refine ⟨b, off, rfl, Nat.lt_of_lt_of_le hb q.size, fun i hi j hj => cell_keptR (hc i hi j hj) q (fun e => ?_)⟩
    rcases hr b e.symm with h1 | h1
    · have := (h.new _ rfl).1; simp only at this; omega
    · exact h1 _ rfl rfl⟩, fun b e => ⟨(h.new b e).1, Nat.lt_of_lt_of_le (h.new b e).2 q.size⟩⟩
theorem Nl.put {w W : World} {a : Option Addr} {n k : Nat} {f : Nat → Nat → Value} (h : Nl w W a n k f) (j : Nat) (v : Value) : Nl w (W.setCell ⟨w.heap.size + 1 + 1, j, none⟩ v) a n k f := h.kept (kept_setZ _ _ _ _) (fun g e => .inl (by injection e with e; exact e.symm))
theorem wp_app {o : Oper} {act : Act} {K : Act → World → Prop} {Q : Exit → Act → World → Prop} {w w' : World} {v u v' : Value} (s x : Operand) (t : TypeId) (ho : o.op = .call { callee := .builtin .append, args := #[s, x], argTypes := #[t, t] }) (hs : act.eval s = v) (hx : act.eval x = u)
    (hr : (Builtin.append_ #[t, t] o.type #[v, u]).run Try.prog w = .ok v' w') (h : K (act.put o.dst v') w') : o.wp Try.prog act w K Q := by
  unfold Oper.wp execOp
  simp only [ho, resolve, invoke, builtin, Sem.run_bind, Sem.run_pure, Result.andThen_ok, List.map_toArray, List.map_cons, List.map_nil, hs, hx, hr]
  exact h
def Rw (A : Act) (W : World) (e : Exit) (a : Act) (w : World) : Prop := match e with
  | .normal => a = A ∧ w = W
  | _ => False
theorem Rw.out {A : Act} {W w : World} {e : Exit} {a : Act} (h : Rw A W e a w) : e = .normal ∧ a = A ∧ w = W := by
  cases e with
  | normal => exact ⟨rfl, h.1, h.2⟩
  | _ => exact h.elim
/-- As many rows as were met lie in new memory. -/
structure Tg (w W : World) (l : List (List Int)) (k : Nat) (v : Value) : Prop where
  ex : ∃ r : Nat → Option Addr × Nat, W.ownsRow (w.heap.size + 1 + 1 + 1) 62 1 v k (cellsL k 1 (fun i _ => .slice (r i).1 (l.getD i []).length (r i).2)) ∧ (∀ i, i < k → Ints W (r i).1 (l.getD i []).length (r i).2 (l.getD i [])) ∧ (∀ i, i < k → ∀ b, (r i).1 = some b → v.ownBlock ≠ some b.block ∧ b.block < W.heap.size ∧ w.heap.size + 1 + 1 < b.block)
theorem Tg.start (w W : World) (l : List (List Int)) : Tg w W l 0 (.slice none 0 0) := ⟨⟨fun _ => (none, 0), World.ownsRow_nil _ _ _ _, fun i hi => by omega, fun i hi => by omega⟩⟩
theorem Tg.kept {w W W' : World} {l : List (List Int)} {k : Nat} {v : Value} {r : Option Nat} (h : Tg w W l k v) (q : Kept W W' r) (hr : ∀ g, r = some g → g = w.heap.size + 1 + 1) : Tg w W' l k v := by
  obtain ⟨rr, h1, h2, h3⟩ := h
  refine ⟨rr, own_keptR' h1 q (fun g hg e => ?_), fun i hi => (h2 i hi).keptS q (fun b e ec => ?_), fun i hi b e => ⟨(h3 i hi b e).1, Nat.lt_of_lt_of_le (h3 i hi b e).2.1 q.size, (h3 i hi b e).2.2⟩⟩
  · have := (own_lt h1 g hg).1
    have := hr g e.symm
    omega
  · have := (h3 i hi b e).2.2
    have := hr _ ec.symm
    omega
theorem Tg.put {w W : World} {l : List (List Int)} {k : Nat} {v : Value} (h : Tg w W l k v) (j : Nat) (u : Value) : Tg w (W.setCell ⟨w.heap.size + 1 + 1, j, none⟩ u) l k v := h.kept (kept_setZ _ _ _ _) (fun g e => by injection e with e; exact e.symm)
theorem Tg.done {w W W' : World} {l : List (List Int)} {n c : Nat} {a : Option Addr} (h : Tg w W l n (.slice a n c)) (hl : l.length = n) (q : LtrZ (w.heap.size + 1 + 1 + 1) W W') : Grid W' a n c l := by
  obtain ⟨r, ho, hi, hb⟩ := h
  obtain ⟨a', cap, e, h1, h2, h3⟩ := lie_own (by omega) ho
  injection e with e1 e2 e3
  subst e1 e3
  exact ⟨⟨r, h1.ltrA q (fun b e => (h3 b e).1), fun i hin => (hi i hin).ltrA q (fun b e => by have := (hb i hin b e).2.2; omega)⟩, hl, h2⟩
theorem Nl.ltr {w W W' : World} {a : Option Addr} {n k : Nat} {f : Nat → Nat → Value} (h : Nl w W a n k f) (q : LtrZ (w.heap.size + 1 + 1 + 1) W W') : Lie W' a n k f := h.lie.ltrA q (fun b e => by have := (h.new b e).1; omega)
theorem Tg.shape {w W : World} {l : List (List Int)} {n : Nat} {v : Value} (h : Tg w W l n v) : ∃ a c, v = .slice a n c := by
  obtain ⟨r, ho, hi, _⟩ := h
  obtain ⟨a', cap, rfl, h1, h2, _⟩ := lie_own (by omega) ho
  exact ⟨a', cap, rfl⟩
abbrev slB (a : Option Addr) (m c : Nat) : Obj := .cells #[.slice a m c] 62
theorem Tg.step {w W W2 : World} {l : List (List Int)} {k : Nat} {v : Value} {a' : Option Addr} {cap : Nat} (h : Tg w W l k v) (hk : k ≤ 40) (hw : w.heap.size + 1 + 1 < W.heap.size)
    (h2 : Kept W W2 none) (hI : Ints W2 a' (l.getD k []).length cap (l.getD k [])) (hf : ∀ b, a' = some b → W.heap.size ≤ b.block ∧ b.block < W2.heap.size) :
    ∃ v' W5, (Builtin.append_ #[68, 68] 68 #[v, .slice (some ⟨W2.heap.size, 0, none⟩) 1 1]).run Try.prog (W2.alloc (slB a' (l.getD k []).length cap)) = .ok v' W5 ∧ Tg w W5 l (k + 1) v' ∧ Kept (W2.alloc (slB a' (l.getD k []).length cap)) W5 v.ownBlock ∧ (v'.ownBlock = v.ownBlock ∨ v'.ownBlock = some (W2.heap.size + 1)) := by
  obtain ⟨r, ho, hi, hb⟩ := h.ex
  obtain ⟨i0, hi0, hz0, hz1, hz2⟩ := info_parts Try.infoSl
  generalize hp : l.getD k [] = p at *
  have k4 : Kept W2 (W2.alloc (slB a' p.length cap)) none := Kept.alloc _ _ _ _ _
  have z4 : (W2.alloc (slB a' p.length cap)).heap.size = W2.heap.size + 1 := by simp
  have s2 := h2.size
  have q0' : ∀ j, j < 1 → (W2.alloc (slB a' p.length cap)).cell? ⟨W2.heap.size, 0 + j, none⟩ = some (.slice a' p.length cap) := fun j hj => by
    have : j = 0 := by omega
    subst this
    exact alloc_at2 _ _ _ rfl rfl
  generalize (W2.alloc (slB a' p.length cap)) = W4 at *
  have hol := own_lt ho
  have own4 := own_keptR' (own_keptR' ho h2 (fun g _ => by simp)) k4 (fun g _ => by simp)
  obtain ⟨v', W5, hr, g1, g2, g3⟩ := grow_run (t := 68) (ty := 68) (c := 1) Try.uSls hi0 hz0 hz1 hz2 rfl (by omega) (by omega) own4 q0' (fun j => rfl) (by omega) (by omega)
  have vfr : ∀ g, v'.ownBlock = some g → v.ownBlock = some g ∨ g = W4.heap.size := fun g hg => by
    rcases g3 with e | e
    · exact .inl (e.symm.trans hg)
    · rw [e] at hg; injection hg with hg; exact .inr hg.symm
  refine ⟨v', W5, hr, ⟨fun i => if i = k then (a', cap) else r i, ?_, fun i hik => ?_, fun i hik b e => ?_⟩, g2, by rw [← z4]; exact g3⟩
  · have he : cellsL (k + 1) 1 (fun i j => if i = k then .slice a' p.length cap else .slice (r i).1 (l.getD i []).length (r i).2) = cellsL (k + 1) 1 (fun i _ => .slice ((if i = k then (a', cap) else r i) : Option Addr × Nat).1 (l.getD i []).length ((if i = k then (a', cap) else r i) : Option Addr × Nat).2) := by
      unfold cellsL
      refine List.map_congr_left fun q _ => ?_
      show (if q / 1 = k then Value.slice a' p.length cap else .slice (r (q / 1)).1 (l.getD (q / 1) []).length (r (q / 1)).2) = .slice ((if q / 1 = k then (a', cap) else r (q / 1)) : Option Addr × Nat).1 (l.getD (q / 1) []).length ((if q / 1 = k then (a', cap) else r (q / 1)) : Option Addr × Nat).2
      by_cases e : q / 1 = k
      · rw [if_pos e, if_pos e, e, hp]
      · rw [if_neg e, if_neg e]
    rw [← he]
    exact g1
  · show Ints W5 ((if i = k then (a', cap) else r i) : Option Addr × Nat).1 (l.getD i []).length ((if i = k then (a', cap) else r i) : Option Addr × Nat).2 (l.getD i [])
    by_cases e : i = k
    · rw [if_pos e, e, hp]
      refine (hI.kept k4).keptS g2 (fun b eb ec => ?_)
      have := (hf b eb).1
      have h7 := (hol _ ec.symm).2
      omega
    · rw [if_neg e]
      refine (((hi i (by omega)).kept h2).kept k4).keptS g2 (fun b eb ec => ?_)
      exact (hb i (by omega) b eb).1 ec.symm
  · have s5 := g2.size
    change ((if i = k then (a', cap) else r i) : Option Addr × Nat).1 = some b at e
    by_cases ek : i = k
    · rw [if_pos ek] at e
      have h6 := hf b e
      refine ⟨fun ec => ?_, by omega, by omega⟩
      rcases vfr _ ec with h7 | h7
      · have := (hol _ h7).2
        omega
      · omega
    · rw [if_neg ek] at e
      have h6 := hb i (by omega) b e
      refine ⟨fun ec => ?_, by omega, h6.2.2⟩
      rcases vfr _ ec with h7 | h7
      · exact h6.1 h7
      · omega

end Go.Proofs.Ytmjkhafifemegab

