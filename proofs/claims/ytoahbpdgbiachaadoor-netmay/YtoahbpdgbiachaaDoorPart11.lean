/-
  Part 11 of the texts that the proofs of this seat stand on.
-/
import Derived.Test.YtoahbpdgbiachaaDoorPart8
/-
  TwinPlans: plans in new memory are the same plans.
-/
namespace Go.Proofs.YtoahbpdgbiachaaDoor
open Go.RowKit Go.Lib Go.Deep
set_option linter.unusedVariables false
set_option linter.unusedSimpArgs false

theorem Lie.ltrA {lo : Nat} {w w' : World} {a : Option Addr} {n k : Nat} {f : Nat → Nat → Value} (h : Lie w a n k f) (q : LtrZ lo w w') (hl : ∀ b, a = some b → lo ≤ b.block) : Lie w' a n k f :=
  ⟨fun hp => by
    obtain ⟨b, off, rfl, hb, hc⟩ := h.at_ hp
    exact ⟨b, off, rfl, Nat.lt_of_lt_of_le hb q.size, fun i hi j hj => q.cell (hc i hi j hj) (hl _ rfl)⟩⟩
theorem Ints.ltrA {lo : Nat} {w w' : World} {a : Option Addr} {n c : Nat} {l : List Int} (h : Ints w a n c l) (q : LtrZ lo w w') (hl : ∀ b, a = some b → lo ≤ b.block) : Ints w' a n c l := ⟨h.lie.ltrA q hl, h.size, h.cap, h.rng⟩
def TwP (w : World) (l : List Pl) (n : Nat) (e : Ending) (w' : World) : Prop := ∃ a' c', e = .returned (.slice a' n c') ∧ (∀ w'', LtrZ w.heap.size w' w'' → Plans w'' a' n c' l) ∧ Kept w w' none
theorem Tp.start (w : World) (l : List Pl) : Tp w l w 0 (.slice none 0 0) := ⟨⟨fun _ => (none, 0), World.ownsRow_nil _ _ _ _, fun i hi => by omega, fun i hi => by omega⟩, Kept.refl _ _⟩
theorem Tp.done {w wr : World} {l : List Pl} {n : Nat} {v : Value} (h : Tp w l wr n v) (hl : l.length = n) (hr : ∀ p ∈ l, i64B p.cycle ∧ i64B p.offset) : TwP w l n (.returned v) wr := by
  obtain ⟨⟨r, ho, hi, hb⟩, hk⟩ := h
  obtain ⟨a', cap, rfl, h1, h2, h3⟩ := lie_own (by omega) ho
  exact ⟨a', cap, rfl, fun w'' q => ⟨⟨r, h1.ltrA q (fun b e => (h3 b e).1), fun i hin => (hi i hin).ltrA q (fun b e => (hb i hin b e).2.2)⟩, hl, h2, hr⟩, hk⟩
set_option maxRecDepth 100000 in
set_option maxHeartbeats 4000000 in
theorem twinPlans_any {w : World} {a : Option Addr} {n c : Nat} {l : List Pl} (hP : Plans w a n c l) (hn : n ≤ 40) (hs : ∀ i, i < n → (l.getD i q0).splits.length ≤ 40) : Calls Tryd.prog 61 #[.slice a n c] w fun e w' => TwP w l n e w' := by
  have HP := Hid.mk' hP
  have HS := Hid.mk' hs
  have HLN := Hid.mk' hP.size
  have HRG := Hid.mk' hP.rng
  clear hP hs
  go_enter Tryd.func61, Tryd.ntmps61
  go_wp2
  go_loopw [3, 4] (fun v i wr => ∃ k : Nat, k ≤ n ∧ i = .int .i64 k ∧ Hid (Tp w l wr k v)) (fun _ i _ => n - (intOf i).toNat)
  case atStart => exact ⟨0, Nat.zero_le _, rfl, Tp.start w l⟩
  case round =>
    obtain ⟨k, hk, rfl, HT⟩ := hrel
    by_cases hlt : k < n
    case neg =>
      have e : k = n := by omega
      subst e
      go_wp2
      go_ret
      exact HT.out.done HLN.out HRG.out
    obtain ⟨b, off, ar, cr, ea, p0, p1, p2, hI⟩ := (HP.out.kept HT.out.kept).at_ hlt
    subst ea
    have hm := HS.out k hlt
    have hbl := block_lt p0
    obtain ⟨i0, hi0, hz0, hz1, hz2⟩ := info_parts Tryd.infoIn
    obtain ⟨a', cap, W2, hrun, h1, h2, h3, h4⟩ := twin_run (w := wr.alloc (plB (l.getD k q0) ar cr)) (ty := 31) Tryd.uIns hi0 hz0 hz1 hz2 rfl (by omega) (by omega) (hI.kept (Kept.alloc wr _ _ _ _)).lie hI.cap (by omega) (fun i j => rfl)
    have hJ : Ints W2 a' (l.getD k q0).splits.length cap (l.getD k q0).splits := ⟨h1, rfl, h2, hI.rng⟩
    obtain ⟨v', W5, hrun2, hT5⟩ := HT.out.step (by omega) h4 hJ (fun b e => (h3 b e).1) (fun b e => (h3 b e).2)
    have HT5 := Hid.mk' hT5
    have HR1 := Hid.mk' hrun
    have HR2 := Hid.mk' hrun2
    have hk4 := h4
    have z2 : wr.heap.size + 1 ≤ W2.heap.size := by have := h4.size; simpa using this
    have q0' : W2.cell? ⟨wr.heap.size, 0, none⟩ = some (.int .i64 (l.getD k q0).cycle) := cell_kept0 (by simp [World.cell?_alloc_mark]) h4
    have q1' : W2.cell? ⟨wr.heap.size, 1, none⟩ = some (.int .i64 (l.getD k q0).offset) := cell_kept0 (by simp [World.cell?_alloc_mark]) h4
    have q2' : W2.cell? ⟨wr.heap.size, 2, none⟩ = some (.slice ar (l.getD k q0).splits.length cr) := cell_kept0 (by simp [World.cell?_alloc_mark]) h4
    have qf : W2.frozen? ⟨wr.heap.size, 2, none⟩ = false := (frozen_blockZ (h4.block _ (by simp) (by simp))).trans (by go_simp)
    clear hI h1 h2 h3 h4 hJ hT5 hrun hrun2 hk4
    generalize l.getD k q0 = p at *
    go_wp2_with (first
      | (have hgo := hdone; clear hgo; at_builtin; refine wpList_app (by rfl) _ _ _ (by rfl) (by rfl) (by rfl) HR2.out ?_)
      | (at_builtin; refine wpList_app (by rfl) _ _ _ (by rfl) (by rfl) (by rfl) HR1.out ?_; have hdone := trivial))
    go_roundw
    case rel => exact ⟨k + 1, by omega, by go_num, HT5⟩
    case measure => simp [intOf]; omega

end Go.Proofs.YtoahbpdgbiachaaDoor

/-
  A SITE IN NEW MEMORY, what lies where.
-/
namespace Go.Proofs.YtoahbpdgbiachaaDoor
open Go.RowKit Go.Lib Go.Deep
set_option linter.unusedVariables false
set_option linter.unusedSimpArgs false

theorem Tryd.infoGr : (Tryd.prog.info? 64).map (fun i => (i.zero, i.size, i.bytes)) = some (some (.agg #[.int .u8 0, .int .i64 0, .int .i64 0]), 3, 24) := by kernel_rfl
theorem Tryd.infoU3 : (Tryd.prog.info? 65).map (fun i => (i.zero, i.size, i.bytes)) = some (some (.int .u32 0), 1, 4) := by kernel_rfl
theorem Tryd.infoPh : (Tryd.prog.info? 67).map (fun i => (i.zero, i.size, i.bytes)) = some (some (.agg #[.int .u32 0, .int .i64 0, .int .i64 0, .int .i64 0, .bool false]), 5, 40) := by kernel_rfl
theorem Tryd.infoEy : (Tryd.prog.info? 116).map (fun i => (i.zero, i.size, i.bytes)) = some (some (.agg #[.int .i64 0, .int .i64 0, .int .i64 0, .int .i64 0]), 4, 32) := by kernel_rfl
theorem Tryd.infoSl : (Tryd.prog.info? 31).map (fun i => (i.zero, i.size, i.bytes)) = some (some (.slice none 0 0), 1, 24) := by kernel_rfl
theorem Tryd.uGrs : Tryd.prog.underlying 41 = some (.slice 64) := by kernel_rfl
theorem Tryd.uU3s : Tryd.prog.underlying 42 = some (.slice 65) := by kernel_rfl
theorem Tryd.uPhs : Tryd.prog.underlying 44 = some (.slice 67) := by kernel_rfl
theorem Tryd.uEys : Tryd.prog.underlying 45 = some (.slice 116) := by kernel_rfl
theorem Tryd.uSls : Tryd.prog.underlying 43 = some (.slice 31) := by kernel_rfl

abbrev cS (X : Sa) (S : St) : Array Value := #[.int .i64 S.id, .slice X.g S.groups.length X.gc, .slice X.a S.apart.length X.ac, .slice X.b S.between.length X.bc, .slice X.p S.phases.length X.pc, .slice X.e S.eyes.length X.ec, .int .i64 S.watch, .int .i64 S.feed, .int .i64 S.heal, .int .i64 S.low, .int .i64 S.high, .slice X.l S.plans.length X.lc]
/-- The three boxes: the site that came, the answer, the site in new memory. -/
structure Tst (w W : World) (s c : Array Value) : Prop where
  kept : Kept w W none
  sb : W.rowIs w.heap.size 48 12 (fSZ s)
  rb : W.rowIs (w.heap.size + 1) 48 12 (fSZ zSZ)
  tb : W.rowIs (w.heap.size + 1 + 1) 48 12 (fSZ c)
theorem Tst.call {w W W' : World} {s c : Array Value} (h : Tst w W s c) (k : Kept W W' none) : Tst w W' s c := ⟨h.kept.tr k, row_kept h.sb k (by simp), row_kept h.rb k (by simp), row_kept h.tb k (by simp)⟩
theorem Tst.drew {w W : World} {s c : Array Value} (h : Tst w W s c) : Tst w W.drew s c := h.call (Kept.drew _ _)
theorem kept_far {w W W' : World} {g : Nat} (h : Kept w W none) (k : Kept W W' (some g)) (hg : w.heap.size ≤ g) : Kept w W' none :=
  ⟨k.os.trans h.os, k.tape.trans h.tape, k.output.trans h.output, Nat.le_trans h.size k.size, fun b hb _ => (k.block b (Nat.lt_of_lt_of_le hb h.size) (fun e => by injection e with e; omega)).trans (h.block b hb (by simp))⟩
theorem kept_row {w W W' : World} {r : Option Nat} (h : Kept w W none) (k : Kept W W' r) (hr : ∀ g, r = some g → w.heap.size ≤ g) : Kept w W' none :=
  ⟨k.os.trans h.os, k.tape.trans h.tape, k.output.trans h.output, Nat.le_trans h.size k.size, fun b hb _ => (k.block b (Nat.lt_of_lt_of_le hb h.size) (fun e => by have := hr b e.symm; omega)).trans (h.block b hb (by simp))⟩
theorem Tst.grow {w W W' : World} {s c : Array Value} {r : Option Nat} (h : Tst w W s c) (k : Kept W W' r) (hr : ∀ g, r = some g → w.heap.size + 1 + 1 < g) : Tst w W' s c :=
  ⟨kept_row h.kept k (fun g e => by have := hr g e; omega), row_kept h.sb k (fun e => by have := hr _ e.symm; omega), row_kept h.rb k (fun e => by have := hr _ e.symm; omega), row_kept h.tb k (fun e => by have := hr _ e.symm; omega)⟩
theorem Tst.put {w W : World} {s c : Array Value} (h : Tst w W s c) (j : Nat) (v : Value) (hj : j < c.size) : Tst w (W.setCell ⟨w.heap.size + 1 + 1, j, none⟩ v) s (c.setIfInBounds j v) :=
  ⟨kept_newZ h.kept (by omega) j v, h.sb.setOther (by show _ ≠ w.heap.size + 1 + 1; omega) v, h.rb.setOther (by show _ ≠ w.heap.size + 1 + 1; omega) v, (h.tb.set j v).congr (fun i _ => fSZ_set c j v hj i)⟩
/-- A list in new memory. -/
structure Nl (w W : World) (a : Option Addr) (n k : Nat) (f : Nat → Nat → Value) : Prop where
  lie : Lie W a n k f
  new : ∀ b, a = some b → w.heap.size + 1 + 1 < b.block ∧ b.block < W.heap.size
theorem Nl.kept {w W W' : World} {r : Option Nat} {a : Option Addr} {n k : Nat} {f : Nat → Nat → Value} (h : Nl w W a n k f) (q : Kept W W' r) (hr : ∀ g, r = some g → g = w.heap.size + 1 + 1 ∨ ∀ b, a = some b → b.block ≠ g) : Nl w W' a n k f :=
  ⟨⟨fun hp => by
    obtain ⟨b, off, rfl, hb, hc⟩ := h.lie.at_ hp
    refine ⟨b, off, rfl, Nat.lt_of_lt_of_le hb q.size, fun i hi j hj => cell_keptR (hc i hi j hj) q (fun e => ?_)⟩
    rcases hr b e.symm with h1 | h1
    · have := (h.new _ rfl).1; simp only at this; omega
    · exact h1 _ rfl rfl⟩, fun b e => ⟨(h.new b e).1, Nat.lt_of_lt_of_le (h.new b e).2 q.size⟩⟩
theorem Nl.kept0 {w W W' : World} {a : Option Addr} {n k : Nat} {f : Nat → Nat → Value} (h : Nl w W a n k f) (q : Kept W W' none) : Nl w W' a n k f := h.kept q (fun g e => nomatch e)
theorem Nl.put {w W : World} {a : Option Addr} {n k : Nat} {f : Nat → Nat → Value} (h : Nl w W a n k f) (j : Nat) (v : Value) : Nl w (W.setCell ⟨w.heap.size + 1 + 1, j, none⟩ v) a n k f := h.kept (kept_setZ _ _ _ _) (fun g e => .inl (by injection e with e; exact e.symm))
theorem wp_app {o : Oper} {act : Act} {K : Act → World → Prop} {Q : Exit → Act → World → Prop} {w w' : World} {v u v' : Value} (s x : Operand) (t : TypeId) (ho : o.op = .call { callee := .builtin .append, args := #[s, x], argTypes := #[t, t] }) (hs : act.eval s = v) (hx : act.eval x = u)
    (hr : (Builtin.append_ #[t, t] o.type #[v, u]).run Tryd.prog w = .ok v' w') (h : K (act.put o.dst v') w') : o.wp Tryd.prog act w K Q := by
  unfold Oper.wp execOp
  simp only [ho, resolve, invoke, builtin, Sem.run_bind, Sem.run_pure, Result.andThen_ok, List.map_toArray, List.map_cons, List.map_nil, hs, hx, hr]
  exact h
def Rw (A : Act) (W : World) (e : Exit) (a : Act) (w : World) : Prop := match e with
  | .normal => a = A ∧ w = W
  | _ => False
theorem Rw.out {A : Act} {W w : World} {e : Exit} {a : Act} (h : Rw A W e a w) : e = .normal ∧ a = A ∧ w = W := by
  cases e with
  | normal => exact ⟨rfl, h.1, h.2⟩
  | _ => exact h.elim
/-- As many rows as were met lie in new memory. -/
structure Tg (w W : World) (l : List (List Int)) (k : Nat) (v : Value) : Prop where
  ex : ∃ r : Nat → Option Addr × Nat, W.ownsRow (w.heap.size + 1 + 1 + 1) 31 1 v k (cellsL k 1 (fun i _ => .slice (r i).1 (l.getD i []).length (r i).2)) ∧ (∀ i, i < k → Ints W (r i).1 (l.getD i []).length (r i).2 (l.getD i [])) ∧ (∀ i, i < k → ∀ b, (r i).1 = some b → v.ownBlock ≠ some b.block ∧ b.block < W.heap.size ∧ w.heap.size + 1 + 1 < b.block)
theorem Tg.start (w W : World) (l : List (List Int)) : Tg w W l 0 (.slice none 0 0) := ⟨⟨fun _ => (none, 0), World.ownsRow_nil _ _ _ _, fun i hi => by omega, fun i hi => by omega⟩⟩
theorem Tg.kept {w W W' : World} {l : List (List Int)} {k : Nat} {v : Value} {r : Option Nat} (h : Tg w W l k v) (q : Kept W W' r) (hr : ∀ g, r = some g → g = w.heap.size + 1 + 1) : Tg w W' l k v := by
  obtain ⟨rr, h1, h2, h3⟩ := h
  refine ⟨rr, own_keptR' h1 q (fun g hg e => ?_), fun i hi => (h2 i hi).keptS q (fun b e ec => ?_), fun i hi b e => ⟨(h3 i hi b e).1, Nat.lt_of_lt_of_le (h3 i hi b e).2.1 q.size, (h3 i hi b e).2.2⟩⟩
  · have := (own_lt h1 g hg).1
    have := hr g e.symm
    omega
  · have := (h3 i hi b e).2.2
    have := hr _ ec.symm
    omega
theorem Tg.kept0 {w W W' : World} {l : List (List Int)} {k : Nat} {v : Value} (h : Tg w W l k v) (q : Kept W W' none) : Tg w W' l k v := h.kept q (fun g e => nomatch e)
theorem Tg.put {w W : World} {l : List (List Int)} {k : Nat} {v : Value} (h : Tg w W l k v) (j : Nat) (u : Value) : Tg w (W.setCell ⟨w.heap.size + 1 + 1, j, none⟩ u) l k v := h.kept (kept_setZ _ _ _ _) (fun g e => by injection e with e; exact e.symm)
theorem Tg.done {w W W' : World} {l : List (List Int)} {n c : Nat} {a : Option Addr} (h : Tg w W l n (.slice a n c)) (hl : l.length = n) (q : LtrZ (w.heap.size + 1 + 1 + 1) W W') : Grid W' a n c l := by
  obtain ⟨r, ho, hi, hb⟩ := h
  obtain ⟨a', cap, e, h1, h2, h3⟩ := lie_own (by omega) ho
  injection e with e1 e2 e3
  subst e1 e3
  exact ⟨⟨r, h1.ltrA q (fun b e => (h3 b e).1), fun i hin => (hi i hin).ltrA q (fun b e => by have := (hb i hin b e).2.2; omega)⟩, hl, h2⟩
theorem Nl.ltr {w W W' : World} {a : Option Addr} {n k : Nat} {f : Nat → Nat → Value} (h : Nl w W a n k f) (q : LtrZ (w.heap.size + 1 + 1 + 1) W W') : Lie W' a n k f := h.lie.ltrA q (fun b e => by have := (h.new b e).1; omega)
theorem Tg.shape {w W : World} {l : List (List Int)} {n : Nat} {v : Value} (h : Tg w W l n v) : ∃ a c, v = .slice a n c := by
  obtain ⟨r, ho, hi, _⟩ := h
  obtain ⟨a', cap, rfl, h1, h2, _⟩ := lie_own (by omega) ho
  exact ⟨a', cap, rfl⟩
abbrev slB (a : Option Addr) (m c : Nat) : Obj := .cells #[.slice a m c] 31
theorem Tg.step {w W W2 : World} {l : List (List Int)} {k : Nat} {v : Value} {a' : Option Addr} {cap : Nat} (h : Tg w W l k v) (hk : k ≤ 40) (hw : w.heap.size + 1 + 1 < W.heap.size)
    (h2 : Kept W W2 none) (hI : Ints W2 a' (l.getD k []).length cap (l.getD k [])) (hf : ∀ b, a' = some b → W.heap.size ≤ b.block ∧ b.block < W2.heap.size) :
    ∃ v' W5, (Builtin.append_ #[43, 43] 43 #[v, .slice (some ⟨W2.heap.size, 0, none⟩) 1 1]).run Tryd.prog (W2.alloc (slB a' (l.getD k []).length cap)) = .ok v' W5 ∧ Tg w W5 l (k + 1) v' ∧ Kept (W2.alloc (slB a' (l.getD k []).length cap)) W5 v.ownBlock ∧ (v'.ownBlock = v.ownBlock ∨ v'.ownBlock = some (W2.heap.size + 1)) := by
  obtain ⟨r, ho, hi, hb⟩ := h.ex
  obtain ⟨i0, hi0, hz0, hz1, hz2⟩ := info_parts Tryd.infoSl
  generalize hp : l.getD k [] = p at *
  have k4 : Kept W2 (W2.alloc (slB a' p.length cap)) none := Kept.alloc _ _ _ _ _
  have z4 : (W2.alloc (slB a' p.length cap)).heap.size = W2.heap.size + 1 := by simp
  have s2 := h2.size
  have q0' : ∀ j, j < 1 → (W2.alloc (slB a' p.length cap)).cell? ⟨W2.heap.size, 0 + j, none⟩ = some (.slice a' p.length cap) := fun j hj => by
    have : j = 0 := by omega
    subst this
    exact alloc_at2 _ _ _ rfl rfl
  generalize (W2.alloc (slB a' p.length cap)) = W4 at *
  have hol := own_lt ho
  have own4 := own_keptR' (own_keptR' ho h2 (fun g _ => by simp)) k4 (fun g _ => by simp)
  obtain ⟨v', W5, hr, g1, g2, g3⟩ := grow_run (t := 43) (ty := 43) (c := 1) Tryd.uSls hi0 hz0 hz1 hz2 rfl (by omega) (by omega) own4 q0' (fun j => rfl) (by omega) (by omega)
  have vfr : ∀ g, v'.ownBlock = some g → v.ownBlock = some g ∨ g = W4.heap.size := fun g hg => by
    rcases g3 with e | e
    · exact .inl (e.symm.trans hg)
    · rw [e] at hg; injection hg with hg; exact .inr hg.symm
  refine ⟨v', W5, hr, ⟨fun i => if i = k then (a', cap) else r i, ?_, fun i hik => ?_, fun i hik b e => ?_⟩, g2, by rw [← z4]; exact g3⟩
  · have he : cellsL (k + 1) 1 (fun i j => if i = k then .slice a' p.length cap else .slice (r i).1 (l.getD i []).length (r i).2) = cellsL (k + 1) 1 (fun i _ => .slice ((if i = k then (a', cap) else r i) : Option Addr × Nat).1 (l.getD i []).length ((if i = k then (a', cap) else r i) : Option Addr × Nat).2) := by
      unfold cellsL
      refine List.map_congr_left fun q _ => ?_
      show (if q / 1 = k then Value.slice a' p.length cap else .slice (r (q / 1)).1 (l.getD (q / 1) []).length (r (q / 1)).2) = .slice ((if q / 1 = k then (a', cap) else r (q / 1)) : Option Addr × Nat).1 (l.getD (q / 1) []).length ((if q / 1 = k then (a', cap) else r (q / 1)) : Option Addr × Nat).2
      by_cases e : q / 1 = k
      · rw [if_pos e, if_pos e, e, hp]
      · rw [if_neg e, if_neg e]
    rw [← he]
    exact g1
  · show Ints W5 ((if i = k then (a', cap) else r i) : Option Addr × Nat).1 (l.getD i []).length ((if i = k then (a', cap) else r i) : Option Addr × Nat).2 (l.getD i [])
    by_cases e : i = k
    · rw [if_pos e, e, hp]
      refine (hI.kept k4).keptS g2 (fun b eb ec => ?_)
      have := (hf b eb).1
      have h7 := (hol _ ec.symm).2
      omega
    · rw [if_neg e]
      refine (((hi i (by omega)).kept h2).kept k4).keptS g2 (fun b eb ec => ?_)
      exact (hb i (by omega) b eb).1 ec.symm
  · have s5 := g2.size
    change ((if i = k then (a', cap) else r i) : Option Addr × Nat).1 = some b at e
    by_cases ek : i = k
    · rw [if_pos ek] at e
      have h6 := hf b e
      refine ⟨fun ec => ?_, by omega, by omega⟩
      rcases vfr _ ec with h7 | h7
      · have := (hol _ h7).2
        omega
      · omega
    · rw [if_neg ek] at e
      have h6 := hb i (by omega) b e
      refine ⟨fun ec => ?_, by omega, h6.2.2⟩
      rcases vfr _ ec with h7 | h7
      · exact h6.1 h7
      · omega

end Go.Proofs.YtoahbpdgbiachaaDoor

/-
  A SITE IN NEW MEMORY is the same site. (mktwine.py writes this text.)
-/
namespace Go.Proofs.YtoahbpdgbiachaaDoor
open Go.RowKit Go.Lib Go.Deep
set_option linter.unusedVariables false
set_option linter.unusedSimpArgs false

def TwS (w : World) (S : St) (e : Ending) (w' : World) : Prop := ∃ X : Sa, e = .returned (siteV X S) ∧ Sat w' X S ∧ Kept w w' none
/-- The same, and whatever changes below: its lists lie in new memory. -/
def TwL (w : World) (S : St) (e : Ending) (w' : World) : Prop := ∃ X : Sa, e = .returned (siteV X S) ∧ (∀ w'', LtrZ (w.heap.size + 1 + 1 + 1) w' w'' → Sat w'' X S) ∧ Kept w w' none
theorem crow (w : World) (c : Array Value) (hc : c.size = 12) : (w.alloc (.cells c 48)).rowIs w.heap.size 48 12 (fSZ c) := by
  have := World.rowIs_alloc w c 48 (fSZ c) (fun i hi => by unfold fSZ; rw [Array.getElem?_eq_getElem hi]; rfl)
  rw [hc] at this
  exact this
theorem tst_start (w : World) (c : Array Value) (hc : c.size = 12) : Tst w (((w.alloc (.cells c 48)).alloc (.cells zSZ 48)).alloc (.cells c 48)) c c := by
  have k1 : Kept w (w.alloc (.cells c 48)) none := Kept.alloc _ _ _ (0, 0) _
  have k2 : Kept (w.alloc (.cells c 48)) ((w.alloc (.cells c 48)).alloc (.cells zSZ 48)) none := Kept.alloc _ _ _ (0, 0) _
  have k3 : Kept ((w.alloc (.cells c 48)).alloc (.cells zSZ 48)) (((w.alloc (.cells c 48)).alloc (.cells zSZ 48)).alloc (.cells c 48)) none := Kept.alloc _ _ _ (0, 0) _
  have r1 := crow w c hc
  have r2 := crow (w.alloc (.cells c 48)) zSZ rfl
  have r3 := crow ((w.alloc (.cells c 48)).alloc (.cells zSZ 48)) c hc
  rw [show (w.alloc (.cells c 48)).heap.size = w.heap.size + 1 by simp] at r2
  rw [show ((w.alloc (.cells c 48)).alloc (.cells zSZ 48)).heap.size = w.heap.size + 1 + 1 by simp] at r3
  exact ⟨(k1.tr k2).tr k3, row_kept (row_kept r1 k2 (by simp)) k3 (by simp), row_kept r2 k3 (by simp), r3⟩
set_option maxRecDepth 100000 in
set_option maxHeartbeats 8000000 in
theorem twin_new {X : Sa} {S : St} {w : World} (h : Sat w X S) (hg : S.groups.length ≤ 60) (ha : S.apart.length ≤ 60) (hb : S.between.length ≤ 40) (hp : S.phases.length ≤ 60) (he : S.eyes.length ≤ 60) (hl : S.plans.length ≤ 40) (hbr : ∀ i, i < S.between.length → (S.between.getD i []).length ≤ 60) (hlr : ∀ i, i < S.plans.length → (S.plans.getD i q0).splits.length ≤ 40) : Calls Tryd.prog 36 #[siteV X S] w fun e w' => TwL w S e w' := by
  obtain ⟨xg, xgc, xa, xac, xb, xbc, xp, xpc, xe, xec, xl, xlc⟩ := X
  have T0 : Hid (Tst w (((w.alloc (.cells #[.int .i64 S.id, .slice xg S.groups.length xgc, .slice xa S.apart.length xac, .slice xb S.between.length xbc, .slice xp S.phases.length xpc, .slice xe S.eyes.length xec, .int .i64 S.watch, .int .i64 S.feed, .int .i64 S.heal, .int .i64 S.low, .int .i64 S.high, .slice xl S.plans.length xlc] 48)).alloc (.cells #[.int .i64 0, .slice none 0 0, .slice none 0 0, .slice none 0 0, .slice none 0 0, .slice none 0 0, .int .i64 0, .int .i64 0, .int .i64 0, .int .i64 0, .int .i64 0, .slice none 0 0] 48)).alloc (.cells #[.int .i64 S.id, .slice xg S.groups.length xgc, .slice xa S.apart.length xac, .slice xb S.between.length xbc, .slice xp S.phases.length xpc, .slice xe S.eyes.length xec, .int .i64 S.watch, .int .i64 S.feed, .int .i64 S.heal, .int .i64 S.low, .int .i64 S.high, .slice xl S.plans.length xlc] 48)) #[.int .i64 S.id, .slice xg S.groups.length xgc, .slice xa S.apart.length xac, .slice xb S.between.length xbc, .slice xp S.phases.length xpc, .slice xe S.eyes.length xec, .int .i64 S.watch, .int .i64 S.feed, .int .i64 S.heal, .int .i64 S.low, .int .i64 S.high, .slice xl S.plans.length xlc] #[.int .i64 S.id, .slice xg S.groups.length xgc, .slice xa S.apart.length xac, .slice xb S.between.length xbc, .slice xp S.phases.length xpc, .slice xe S.eyes.length xec, .int .i64 S.watch, .int .i64 S.feed, .int .i64 S.heal, .int .i64 S.low, .int .i64 S.high, .slice xl S.plans.length xlc]) := tst_start w #[.int .i64 S.id, .slice xg S.groups.length xgc, .slice xa S.apart.length xac, .slice xb S.between.length xbc, .slice xp S.phases.length xpc, .slice xe S.eyes.length xec, .int .i64 S.watch, .int .i64 S.feed, .int .i64 S.heal, .int .i64 S.low, .int .i64 S.high, .slice xl S.plans.length xlc] rfl
  have HS := Hid.mk' h
  have HBR := Hid.mk' hbr
  have HLR := Hid.mk' hlr
  clear h hbr hlr

  have c1 : ((((w.alloc (.cells #[.int .i64 S.id, .slice xg S.groups.length xgc, .slice xa S.apart.length xac, .slice xb S.between.length xbc, .slice xp S.phases.length xpc, .slice xe S.eyes.length xec, .int .i64 S.watch, .int .i64 S.feed, .int .i64 S.heal, .int .i64 S.low, .int .i64 S.high, .slice xl S.plans.length xlc] 48)).alloc (.cells #[.int .i64 0, .slice none 0 0, .slice none 0 0, .slice none 0 0, .slice none 0 0, .slice none 0 0, .int .i64 0, .int .i64 0, .int .i64 0, .int .i64 0, .int .i64 0, .slice none 0 0] 48)).alloc (.cells #[.int .i64 S.id, .slice xg S.groups.length xgc, .slice xa S.apart.length xac, .slice xb S.between.length xbc, .slice xp S.phases.length xpc, .slice xe S.eyes.length xec, .int .i64 S.watch, .int .i64 S.feed, .int .i64 S.heal, .int .i64 S.low, .int .i64 S.high, .slice xl S.plans.length xlc] 48))).cell? ⟨w.heap.size, 1, none⟩ = some (.slice xg S.groups.length xgc) := T0.out.sb.cell (i := 1) (by omega)
  obtain ⟨i0, hi0, hz0, hz1, hz2⟩ := info_parts Tryd.infoGr
  obtain ⟨ng, ngc, y0, hrun, g1, g2, g3, g4⟩ := twin_run (w := (((w.alloc (.cells #[.int .i64 S.id, .slice xg S.groups.length xgc, .slice xa S.apart.length xac, .slice xb S.between.length xbc, .slice xp S.phases.length xpc, .slice xe S.eyes.length xec, .int .i64 S.watch, .int .i64 S.feed, .int .i64 S.heal, .int .i64 S.low, .int .i64 S.high, .slice xl S.plans.length xlc] 48)).alloc (.cells #[.int .i64 0, .slice none 0 0, .slice none 0 0, .slice none 0 0, .slice none 0 0, .slice none 0 0, .int .i64 0, .int .i64 0, .int .i64 0, .int .i64 0, .int .i64 0, .slice none 0 0] 48)).alloc (.cells #[.int .i64 S.id, .slice xg S.groups.length xgc, .slice xa S.apart.length xac, .slice xb S.between.length xbc, .slice xp S.phases.length xpc, .slice xe S.eyes.length xec, .int .i64 S.watch, .int .i64 S.feed, .int .i64 S.heal, .int .i64 S.low, .int .i64 S.high, .slice xl S.plans.length xlc] 48))) (ty := 41) Tryd.uGrs hi0 hz0 hz1 hz2 rfl (by omega) (by omega) ((HS.out.kept T0.out.kept).g) (HS.out.gk) (by omega) (fun i j => (by unfold grV; split <;> rfl))
  have HR0 := Hid.mk' hrun
  have U0 := Hid.mk' (T0.out.call g4)
  have k0 : y0.cell? ⟨w.heap.size + 1 + 1, 1, none⟩ = some (.slice xg S.groups.length xgc) := U0.out.tb.cell (i := 1) (by omega)
  have z0 : y0.frozen? ⟨w.heap.size + 1 + 1, 1, none⟩ = false := U0.out.tb.frozen 1
  have Lg : Hid (Nl w y0 ng _ 3 _) := ⟨g1, fun b e => ⟨(by have := (g3 b e).1; have := T0.out.tb.lt; omega), (g3 b e).2⟩⟩
  have Gg := Hid.mk' g2
  clear hrun g1 g2 g3 g4 hi0 hz0 hz1 hz2 i0
  go_enter Tryd.func36, Tryd.ntmps36
  go_wp2_with (first
    | (have hgo := HR1; clear hgo; at_builtin; refine wpList_app (by rfl) _ _ _ (by rfl) (by rfl) (by rfl) HR1.out ?_; clear HR1; have T2 : Hid (Tst w (y1.setCell ⟨w.heap.size + 1 + 1, 2, none⟩ (.slice na S.apart.length nac)) #[.int .i64 S.id, .slice xg S.groups.length xgc, .slice xa S.apart.length xac, .slice xb S.between.length xbc, .slice xp S.phases.length xpc, .slice xe S.eyes.length xec, .int .i64 S.watch, .int .i64 S.feed, .int .i64 S.heal, .int .i64 S.low, .int .i64 S.high, .slice xl S.plans.length xlc] #[.int .i64 S.id, .slice ng S.groups.length ngc, .slice na S.apart.length nac, .slice xb S.between.length xbc, .slice xp S.phases.length xpc, .slice xe S.eyes.length xec, .int .i64 S.watch, .int .i64 S.feed, .int .i64 S.heal, .int .i64 S.low, .int .i64 S.high, .slice xl S.plans.length xlc]) := U1.out.put 2 _ (by simp); have Lg := Hid.mk' (Lg.out.put 2 (.slice na S.apart.length nac)); have La := Hid.mk' (La.out.put 2 (.slice na S.apart.length nac)); clear U1; have k3 : (y1.setCell ⟨w.heap.size + 1 + 1, 2, none⟩ (.slice na S.apart.length nac)).cell? ⟨w.heap.size + 1 + 1, 3, none⟩ = some (.slice xb S.between.length xbc) := T2.out.tb.cell (i := 3) (by omega); have z3 : (y1.setCell ⟨w.heap.size + 1 + 1, 2, none⟩ (.slice na S.apart.length nac)).frozen? ⟨w.heap.size + 1 + 1, 3, none⟩ = false := T2.out.tb.frozen 3)
    | (have hgo := HR0; clear hgo; at_builtin; refine wpList_app (by rfl) _ _ _ (by rfl) (by rfl) (by rfl) HR0.out ?_; clear HR0; have T1 : Hid (Tst w (y0.setCell ⟨w.heap.size + 1 + 1, 1, none⟩ (.slice ng S.groups.length ngc)) #[.int .i64 S.id, .slice xg S.groups.length xgc, .slice xa S.apart.length xac, .slice xb S.between.length xbc, .slice xp S.phases.length xpc, .slice xe S.eyes.length xec, .int .i64 S.watch, .int .i64 S.feed, .int .i64 S.heal, .int .i64 S.low, .int .i64 S.high, .slice xl S.plans.length xlc] #[.int .i64 S.id, .slice ng S.groups.length ngc, .slice xa S.apart.length xac, .slice xb S.between.length xbc, .slice xp S.phases.length xpc, .slice xe S.eyes.length xec, .int .i64 S.watch, .int .i64 S.feed, .int .i64 S.heal, .int .i64 S.low, .int .i64 S.high, .slice xl S.plans.length xlc]) := U0.out.put 1 _ (by simp); have Lg := Hid.mk' (Lg.out.put 1 (.slice ng S.groups.length ngc)); clear U0; have c2 : (y0.setCell ⟨w.heap.size + 1 + 1, 1, none⟩ (.slice ng S.groups.length ngc)).cell? ⟨w.heap.size, 2, none⟩ = some (.slice xa S.apart.length xac) := T1.out.sb.cell (i := 2) (by omega); obtain ⟨i0, hi0, hz0, hz1, hz2⟩ := info_parts Tryd.infoU3; obtain ⟨na, nac, y1, hrun, g1, g2, g3, g4⟩ := twin_run (w := y0.setCell ⟨w.heap.size + 1 + 1, 1, none⟩ (.slice ng S.groups.length ngc)) (ty := 42) Tryd.uU3s hi0 hz0 hz1 hz2 rfl (by omega) (by omega) ((HS.out.kept T1.out.kept).a) (HS.out.ak) (by omega) (fun i j => rfl); have HR1 := Hid.mk' hrun; have U1 := Hid.mk' (T1.out.call g4); have k1 : y1.cell? ⟨w.heap.size + 1 + 1, 2, none⟩ = some (.slice xa S.apart.length xac) := U1.out.tb.cell (i := 2) (by omega); have z1 : y1.frozen? ⟨w.heap.size + 1 + 1, 2, none⟩ = false := U1.out.tb.frozen 2; have La : Hid (Nl w y1 na _ 1 _) := ⟨g1, fun b e => ⟨(by have := (g3 b e).1; have := T1.out.tb.lt; omega), (g3 b e).2⟩⟩; have Ga := Hid.mk' g2; have Lg := Hid.mk' (Lg.out.kept0 g4); clear hrun g1 g2 g3 g4 hi0 hz0 hz1 hz2 i0))
  have T3 : Hid (Tst w ((y1.setCell ⟨w.heap.size + 1 + 1, 2, none⟩ (.slice na S.apart.length nac)).setCell ⟨w.heap.size + 1 + 1, 3, none⟩ (.slice none 0 0)) #[.int .i64 S.id, .slice xg S.groups.length xgc, .slice xa S.apart.length xac, .slice xb S.between.length xbc, .slice xp S.phases.length xpc, .slice xe S.eyes.length xec, .int .i64 S.watch, .int .i64 S.feed, .int .i64 S.heal, .int .i64 S.low, .int .i64 S.high, .slice xl S.plans.length xlc] #[.int .i64 S.id, .slice ng S.groups.length ngc, .slice na S.apart.length nac, .slice none 0 0, .slice xp S.phases.length xpc, .slice xe S.eyes.length xec, .int .i64 S.watch, .int .i64 S.feed, .int .i64 S.heal, .int .i64 S.low, .int .i64 S.high, .slice xl S.plans.length xlc]) := T2.out.put 3 _ (by simp)
  have Lg : Hid (Nl w ((y1.setCell ⟨w.heap.size + 1 + 1, 2, none⟩ (.slice na S.apart.length nac)).setCell ⟨w.heap.size + 1 + 1, 3, none⟩ (.slice none 0 0)) ng S.groups.length 3 (fun i j => grV (S.gr i) j)) := Lg.out.put 3 (.slice none 0 0)
  have La : Hid (Nl w ((y1.setCell ⟨w.heap.size + 1 + 1, 2, none⟩ (.slice na S.apart.length nac)).setCell ⟨w.heap.size + 1 + 1, 3, none⟩ (.slice none 0 0)) na S.apart.length 1 (fun i _ => .int .u32 (S.ap i : Int))) := La.out.put 3 (.slice none 0 0)
  clear k3 z3 T2 T1 T0
  generalize ((y1.setCell ⟨w.heap.size + 1 + 1, 2, none⟩ (.slice na S.apart.length nac)).setCell ⟨w.heap.size + 1 + 1, 3, none⟩ (.slice none 0 0)) = x3 at *
  go_loopw [4] (fun i wr => ∃ (k : Nat) (v : Value), k ≤ S.between.length ∧ i = .int .i64 k ∧ Hid (Tst w wr #[.int .i64 S.id, .slice xg S.groups.length xgc, .slice xa S.apart.length xac, .slice xb S.between.length xbc, .slice xp S.phases.length xpc, .slice xe S.eyes.length xec, .int .i64 S.watch, .int .i64 S.feed, .int .i64 S.heal, .int .i64 S.low, .int .i64 S.high, .slice xl S.plans.length xlc] #[.int .i64 S.id, .slice ng S.groups.length ngc, .slice na S.apart.length nac, v, .slice xp S.phases.length xpc, .slice xe S.eyes.length xec, .int .i64 S.watch, .int .i64 S.feed, .int .i64 S.heal, .int .i64 S.low, .int .i64 S.high, .slice xl S.plans.length xlc]) ∧ Hid (Tg w wr S.between k v) ∧ Hid (Nl w wr ng S.groups.length 3 (fun i j => grV (S.gr i) j)) ∧ Hid (Nl w wr na S.apart.length 1 (fun i _ => .int .u32 (S.ap i : Int))) ∧ Hid (∀ b, (ng = some b ∨ na = some b) → v.ownBlock ≠ some b.block)) (fun i _ => S.between.length - (intOf i).toNat)
  case atStart => exact ⟨0, .slice none 0 0, Nat.zero_le _, rfl, T3, Tg.start _ _ _, Lg, La, (fun b _ e => nomatch e)⟩
  case round =>
    clear Lg La T3
    obtain ⟨k, v, hk, rfl, T3, HG, Lg, La, HD⟩ := hrel
    have c3 : wr.cell? ⟨w.heap.size, 3, none⟩ = some (.slice xb S.between.length xbc) := T3.out.sb.cell (i := 3) (by omega)
    by_cases hlt : k < S.between.length
    · obtain ⟨bb, ob, ar, cr, eb, kb, hI⟩ := (HS.out.kept T3.out.kept).b.at_ hlt
      dsimp only at eb
      subst eb
      have hm := HBR.out k hlt
      have Td := Hid.mk' T3.out.drew
      obtain ⟨i0, hi0, hz0, hz1, hz2⟩ := info_parts Tryd.infoIn
      obtain ⟨a', cap, y, hrun, h1, h2, h3, h4⟩ := twin_run (w := wr.drew) (ty := 31) Tryd.uIns hi0 hz0 hz1 hz2 rfl (by omega) (by omega) (hI.kept (Kept.drew wr none)).lie hI.cap (by omega) (fun i j => rfl)
      have hJ : Ints y a' (S.between.getD k []).length cap (S.between.getD k []) := ⟨h1, rfl, h2, hI.rng⟩
      have hlw : w.heap.size + 1 + 1 < wr.drew.heap.size := Td.out.tb.lt
      obtain ⟨v', W5, hrun2, hG5, hk5, hv5⟩ := (HG.out.kept0 (Kept.drew wr none)).step (by omega) hlw h4 hJ h3
      obtain ⟨a5, c5, rfl⟩ := hG5.shape
      have hk4 : Kept y (y.alloc (slB a' (S.between.getD k []).length cap)) none := Kept.alloc _ _ _ (0, 0) _
      obtain ⟨rr, hown, _⟩ := HG.out.ex
      have hol : ∀ g, v.ownBlock = some g → w.heap.size + 1 + 1 < g := fun g e => by have := (own_lt hown g e).1; omega
      have Ty := Hid.mk' (Td.out.call h4)
      have Tz := Hid.mk' (Ty.out.call hk4)
      have T5 := Hid.mk' (Tz.out.grow hk5 hol)
      have hs4 := h4.size
      have hLb : ∀ b, (ng = some b ∨ na = some b) → b.block < wr.drew.heap.size := fun b e => by
        rcases e with e | e
        · exact (Lg.out.new b e).2
        · exact (La.out.new b e).2
      have hNg : ∀ b, ng = some b → ∀ g, v.ownBlock = some g → b.block ≠ g := fun b e g eg eb => HD.out b (.inl e) (by rw [eg, eb])
      have hNa : ∀ b, na = some b → ∀ g, v.ownBlock = some g → b.block ≠ g := fun b e g eg eb => HD.out b (.inr e) (by rw [eg, eb])
      have Lg5 : Hid (Nl w W5 ng S.groups.length 3 (fun i j => grV (S.gr i) j)) := (((Lg.out.kept0 (Kept.drew wr none)).kept0 h4).kept0 hk4).kept hk5 (fun g e => .inr (fun b eb => hNg b eb g e))
      have La5 : Hid (Nl w W5 na S.apart.length 1 (fun i _ => .int .u32 (S.ap i : Int))) := (((La.out.kept0 (Kept.drew wr none)).kept0 h4).kept0 hk4).kept hk5 (fun g e => .inr (fun b eb => hNa b eb g e))
      have HD5 : Hid (∀ b, (ng = some b ∨ na = some b) → (Value.slice a5 (k + 1) c5).ownBlock ≠ some b.block) := fun b e ec => by
        rcases hv5 with q | q
        · exact HD.out b e (q ▸ ec)
        · rw [q] at ec
          injection ec with ec
          have := hLb b e
          omega
      have HG5 := Hid.mk' hG5
      have HR1 := Hid.mk' hrun
      have HR2 := Hid.mk' hrun2
      have d3 : wr.drew.cell? ⟨w.heap.size, 3, none⟩ = some (.slice (some ⟨bb, ob, none⟩) S.between.length xbc) := Td.out.sb.cell (i := 3) (by omega)
      have e3 : y.cell? ⟨w.heap.size, 3, none⟩ = some (.slice (some ⟨bb, ob, none⟩) S.between.length xbc) := Ty.out.sb.cell (i := 3) (by omega)
      have f3 : (y.alloc (slB a' (S.between.getD k []).length cap)).cell? ⟨w.heap.size, 3, none⟩ = some (.slice (some ⟨bb, ob, none⟩) S.between.length xbc) := Tz.out.sb.cell (i := 3) (by omega)
      have g3 : W5.cell? ⟨w.heap.size, 3, none⟩ = some (.slice (some ⟨bb, ob, none⟩) S.between.length xbc) := T5.out.sb.cell (i := 3) (by omega)
      have kd : wr.drew.cell? ⟨bb, ob + k, none⟩ = some (.slice ar (S.between.getD k []).length cr) := cell_kept0 kb (Kept.drew wr none)
      have ky := cell_kept0 kd h4
      have kz := cell_kept0 ky hk4
      have hbs : bb < w.heap.size := by
        obtain ⟨b1, o1, _, _, e1, kb1, _⟩ := HS.out.b.at_ hlt
        dsimp only at e1
        injection e1 with e1; injection e1 with e1 e2
        subst e1
        exact block_lt kb1
      have k5 : W5.cell? ⟨bb, ob + k, none⟩ = some (.slice ar (S.between.getD k []).length cr) := cell_keptR kz hk5 (fun e => by have := hol _ e.symm; omega)
      have t0 : wr.drew.cell? ⟨w.heap.size + 1 + 1, 3, none⟩ = some v := Td.out.tb.cell (i := 3) (by omega)
      have t1 : y.cell? ⟨w.heap.size + 1 + 1, 3, none⟩ = some v := Ty.out.tb.cell (i := 3) (by omega)
      have t2 : (y.alloc (slB a' (S.between.getD k []).length cap)).cell? ⟨w.heap.size + 1 + 1, 3, none⟩ = some v := Tz.out.tb.cell (i := 3) (by omega)
      have t5 : W5.cell? ⟨w.heap.size + 1 + 1, 3, none⟩ = some v := T5.out.tb.cell (i := 3) (by omega)
      have z5 : W5.frozen? ⟨w.heap.size + 1 + 1, 3, none⟩ = false := T5.out.tb.frozen 3
      have T6 : Hid (Tst w (W5.setCell ⟨w.heap.size + 1 + 1, 3, none⟩ (.slice a5 (k + 1) c5)) #[.int .i64 S.id, .slice xg S.groups.length xgc, .slice xa S.apart.length xac, .slice (some ⟨bb, ob, none⟩) S.between.length xbc, .slice xp S.phases.length xpc, .slice xe S.eyes.length xec, .int .i64 S.watch, .int .i64 S.feed, .int .i64 S.heal, .int .i64 S.low, .int .i64 S.high, .slice xl S.plans.length xlc] #[.int .i64 S.id, .slice ng S.groups.length ngc, .slice na S.apart.length nac, .slice a5 (k + 1) c5, .slice xp S.phases.length xpc, .slice xe S.eyes.length xec, .int .i64 S.watch, .int .i64 S.feed, .int .i64 S.heal, .int .i64 S.low, .int .i64 S.high, .slice xl S.plans.length xlc]) := T5.out.put 3 _ (by simp)
      have HG6 : Hid (Tg w (W5.setCell ⟨w.heap.size + 1 + 1, 3, none⟩ (.slice a5 (k + 1) c5)) S.between (k + 1) (.slice a5 (k + 1) c5)) := HG5.out.kept (kept_setZ _ _ _ _) (fun g e => by injection e with e; exact e.symm)
      have Lg6 := Hid.mk' (Lg5.out.put 3 (.slice a5 (k + 1) c5))
      have La6 := Hid.mk' (La5.out.put 3 (.slice a5 (k + 1) c5))
      clear hI h1 h2 h3 hJ hrun hrun2 hG5 hk5 hv5 hown hol hLb hNg hNa hi0 hz0 hz1 hz2 i0 Td Ty Tz T5 h4 hk4
      generalize S.between.getD k [] = row at *
      go_wp2
      refine Code.wp_mono (Q := Rw ?A1 (W5.setCell ⟨w.heap.size + 1 + 1, 3, none⟩ (.slice a5 (k + 1) c5))) ?cont1 ?reg1
      case reg1 =>
        repeat (rename_i hh; clear hh)
        refine wp_region_held_drew (S := fun w' => w'.cell? ⟨w.heap.size, 3, none⟩ = some (.slice (some ⟨bb, ob, none⟩) S.between.length xbc) ∧ w'.cell? ⟨bb, ob + k, none⟩ = some (.slice ar row.length cr)) (by kernel_rfl) ⟨d3, kd⟩ (fun hHeld => ?_)
        refine held_take (i := 0) (v := ?v1) rfl rfl (by kernel_rfl) (by kernel_rfl) (by kernel_rfl) (fun _ _ _ h => h) (Or.inl ⟨by rfl, ?hy1⟩) hHeld ?rest1
        case hy1 => first | (intro w hSw; (try dsimp only at hSw); go_simp; done) | (intro w hSw; (try dsimp only at hSw); go_simp; with_reducible rfl)
        try simp only [List.setIfInBounds_toArray, List.set_cons_zero, List.set_cons_succ]
        refine held_take (i := 2) (v := ?v2) rfl rfl (by kernel_rfl) (by kernel_rfl) (by kernel_rfl) (fun _ _ _ h => h) (Or.inl ⟨by rfl, ?hy2⟩) hHeld ?rest2
        case hy2 => first | (intro w hSw; (try dsimp only at hSw); go_simp; done) | (intro w hSw; (try dsimp only at hSw); go_simp; with_reducible rfl)
        try simp only [List.setIfInBounds_toArray, List.set_cons_zero, List.set_cons_succ]
        refine held_take (i := 3) (v := ?v3) rfl rfl (by kernel_rfl) (by kernel_rfl) (by kernel_rfl) (fun _ _ _ h => h) (Or.inl ⟨by rfl, ?hy3⟩) hHeld ?rest3
        case hy3 => first | (intro w hSw; (try dsimp only at hSw); go_simp; done) | (intro w hSw; (try dsimp only at hSw); go_simp; with_reducible rfl)
        try simp only [List.setIfInBounds_toArray, List.set_cons_zero, List.set_cons_succ]
        refine held_take (i := 4) (v := ?v4) rfl rfl (by kernel_rfl) (by kernel_rfl) (by kernel_rfl) (fun _ _ _ h => h) (Or.inl ⟨by rfl, ?hy4⟩) hHeld ?rest4
        case hy4 => first | (intro w hSw; (try dsimp only at hSw); go_simp; done) | (intro w hSw; (try dsimp only at hSw); go_simp; with_reducible rfl)
        try simp only [List.setIfInBounds_toArray, List.set_cons_zero, List.set_cons_succ]
        refine held_take (i := 5) (v := ?v5) rfl rfl (by kernel_rfl) (by kernel_rfl) (by kernel_rfl) (fun _ _ _ h => h) (Or.inl ⟨by rfl, ?hy5⟩) hHeld ?rest5
        case hy5 => first | (intro w hSw; (try dsimp only at hSw); go_simp; done) | (intro w hSw; (try dsimp only at hSw); go_simp; with_reducible rfl)
        try simp only [List.setIfInBounds_toArray, List.set_cons_zero, List.set_cons_succ]
        refine held_take (i := 6) (v := ?v6) rfl rfl (by kernel_rfl) (by kernel_rfl) (by kernel_rfl) (fun _ _ _ h => h) (Or.inl ⟨by rfl, ?hy6⟩) hHeld ?rest6
        case hy6 => first | (intro w hSw; (try dsimp only at hSw); go_simp; done) | (intro w hSw; (try dsimp only at hSw); go_simp; with_reducible rfl)
        try simp only [List.setIfInBounds_toArray, List.set_cons_zero, List.set_cons_succ]
        refine wpAnyH_ready (rs := [1, 7]) (by kernel_rfl) (by simp) ?_
        refine AllReadyH.cons rfl (fun K hK => ?b1) (AllReadyH.cons rfl (fun K hK => ?b7) AllReadyH.nil)
        case b1 =>
          go_simp
          refine hK.out _ _ ⟨d3, kd⟩ (fun hHeld => ?_)
          clear hK K
          refine wpAnyH_ready (rs := [7]) (by kernel_rfl) (by simp) ?_
          refine AllReadyH.cons rfl (fun K hK => ?_) AllReadyH.nil
          rw [if_pos (by rfl)]
          refine wp_app _ _ _ (by rfl) (by rfl) (by rfl) HR1.out ?_
          try simp only [Act.put, List.setIfInBounds_toArray, List.set_cons_zero, List.set_cons_succ]
          refine hK.out _ _ ⟨e3, ky⟩ (fun hHeld => ?_)
          clear hK K
          refine wpAnyH_ready (rs := [8]) (by kernel_rfl) (by simp) ?_
          refine AllReadyH.cons rfl (fun K hK => ?_) AllReadyH.nil
          go_simp
          refine hK.out _ _ ⟨f3, kz⟩ (fun hHeld => ?_)
          clear hK K
          refine wpAnyH_ready (rs := [9]) (by kernel_rfl) (by simp) ?_
          refine AllReadyH.cons rfl (fun K hK => ?_) AllReadyH.nil
          rw [if_pos (by rfl)]
          refine wp_app _ _ _ (by rfl) (by rfl) (by rfl) HR2.out ?_
          try simp only [Act.put, List.setIfInBounds_toArray, List.set_cons_zero, List.set_cons_succ]
          refine hK.out _ _ ⟨g3, k5⟩ (fun hHeld => ?_)
          clear hK K
          refine held_take (i := 10) (v := ?v7) rfl rfl (by kernel_rfl) (by kernel_rfl) (by kernel_rfl) (fun _ _ _ h => h) (Or.inl ⟨by rfl, ?hy7⟩) hHeld ?rest7
          case hy7 => first | (intro w hSw; (try dsimp only at hSw); go_simp; done) | (intro w hSw; (try dsimp only at hSw); go_simp; with_reducible rfl)
          try simp only [List.setIfInBounds_toArray, List.set_cons_zero, List.set_cons_succ]
          refine wpAnyH_ready (rs := [11]) (by kernel_rfl) (by simp) ?_
          refine AllReadyH.cons rfl (fun K hK => ?_) AllReadyH.nil
          go_simp
          refine hK.out _ _ ⟨T6.out.sb.cell (i := 3) (by omega), cell_keptR k5 (kept_setZ _ _ _ _) (fun e => by injection e with e; omega)⟩ (fun hHeld => ?_)
          clear hK K
          refine wpAnyH_done (by kernel_rfl) ?_ _
          refine And.intro ?_ rfl
          with_reducible rfl
        case b7 =>
          rw [if_pos (by rfl)]
          refine wp_app _ _ _ (by rfl) (by rfl) (by rfl) HR1.out ?_
          try simp only [Act.put, List.setIfInBounds_toArray, List.set_cons_zero, List.set_cons_succ]
          refine hK.out _ _ ⟨e3, ky⟩ (fun hHeld => ?_)
          clear hK K
          refine wpAnyH_ready (rs := [1, 8]) (by kernel_rfl) (by simp) ?_
          refine AllReadyH.cons rfl (fun K hK => ?c1) (AllReadyH.cons rfl (fun K hK => ?c8) AllReadyH.nil)
          case c1 =>
            go_simp
            refine hK.out _ _ ⟨e3, ky⟩ (fun hHeld => ?_)
            clear hK K
            refine wpAnyH_ready (rs := [8]) (by kernel_rfl) (by simp) ?_
            refine AllReadyH.cons rfl (fun K hK => ?_) AllReadyH.nil
            go_simp
            refine hK.out _ _ ⟨f3, kz⟩ (fun hHeld => ?_)
            clear hK K
            refine wpAnyH_ready (rs := [9]) (by kernel_rfl) (by simp) ?_
            refine AllReadyH.cons rfl (fun K hK => ?_) AllReadyH.nil
            rw [if_pos (by rfl)]
            refine wp_app _ _ _ (by rfl) (by rfl) (by rfl) HR2.out ?_
            try simp only [Act.put, List.setIfInBounds_toArray, List.set_cons_zero, List.set_cons_succ]
            refine hK.out _ _ ⟨g3, k5⟩ (fun hHeld => ?_)
            clear hK K
            refine held_take (i := 10) (v := ?v8) rfl rfl (by kernel_rfl) (by kernel_rfl) (by kernel_rfl) (fun _ _ _ h => h) (Or.inl ⟨by rfl, ?hy8⟩) hHeld ?rest8
            case hy8 => first | (intro w hSw; (try dsimp only at hSw); go_simp; done) | (intro w hSw; (try dsimp only at hSw); go_simp; with_reducible rfl)
            try simp only [List.setIfInBounds_toArray, List.set_cons_zero, List.set_cons_succ]
            refine wpAnyH_ready (rs := [11]) (by kernel_rfl) (by simp) ?_
            refine AllReadyH.cons rfl (fun K hK => ?_) AllReadyH.nil
            go_simp
            refine hK.out _ _ ⟨T6.out.sb.cell (i := 3) (by omega), cell_keptR k5 (kept_setZ _ _ _ _) (fun e => by injection e with e; omega)⟩ (fun hHeld => ?_)
            clear hK K
            refine wpAnyH_done (by kernel_rfl) ?_ _
            refine And.intro ?_ rfl
            with_reducible rfl
          case c8 =>
            go_simp
            refine hK.out _ _ ⟨f3, kz⟩ (fun hHeld => ?_)
            clear hK K
            refine wpAnyH_ready (rs := [1]) (by kernel_rfl) (by simp) ?_
            refine AllReadyH.cons rfl (fun K hK => ?_) AllReadyH.nil
            go_simp
            refine hK.out _ _ ⟨f3, kz⟩ (fun hHeld => ?_)
            clear hK K
            refine wpAnyH_ready (rs := [9]) (by kernel_rfl) (by simp) ?_
            refine AllReadyH.cons rfl (fun K hK => ?_) AllReadyH.nil
            rw [if_pos (by rfl)]
            refine wp_app _ _ _ (by rfl) (by rfl) (by rfl) HR2.out ?_
            try simp only [Act.put, List.setIfInBounds_toArray, List.set_cons_zero, List.set_cons_succ]
            refine hK.out _ _ ⟨g3, k5⟩ (fun hHeld => ?_)
            clear hK K
            refine held_take (i := 10) (v := ?v9) rfl rfl (by kernel_rfl) (by kernel_rfl) (by kernel_rfl) (fun _ _ _ h => h) (Or.inl ⟨by rfl, ?hy9⟩) hHeld ?rest9
            case hy9 => first | (intro w hSw; (try dsimp only at hSw); go_simp; done) | (intro w hSw; (try dsimp only at hSw); go_simp; with_reducible rfl)
            try simp only [List.setIfInBounds_toArray, List.set_cons_zero, List.set_cons_succ]
            refine wpAnyH_ready (rs := [11]) (by kernel_rfl) (by simp) ?_
            refine AllReadyH.cons rfl (fun K hK => ?_) AllReadyH.nil
            go_simp
            refine hK.out _ _ ⟨T6.out.sb.cell (i := 3) (by omega), cell_keptR k5 (kept_setZ _ _ _ _) (fun e => by injection e with e; omega)⟩ (fun hHeld => ?_)
            clear hK K
            refine wpAnyH_done (by kernel_rfl) ?_ _
            refine And.intro ?_ rfl
            with_reducible rfl
      case cont1 =>
      intro e a'' w' hq
      obtain ⟨rfl, rfl, rfl⟩ := hq.out
      clear hq
      clear d3 e3 f3 g3 kd ky kz k5 t0 t1 t2 t5 z5
      go_wp2
      go_roundw
      case rel => exact ⟨k + 1, .slice a5 (k + 1) c5, by omega, by go_num, T6, HG6, Lg6, La6, HD5⟩
      case measure => simp [intOf]; omega
    · have e : k = S.between.length := by omega
      subst e
      obtain ⟨nb, nbc, rfl⟩ := HG.out.shape
      clear HD
      have c4 : (wr).cell? ⟨w.heap.size, 4, none⟩ = some (.slice xp S.phases.length xpc) := T3.out.sb.cell (i := 4) (by omega)
      obtain ⟨i0, hi0, hz0, hz1, hz2⟩ := info_parts Tryd.infoPh
      obtain ⟨np, npc, y3, hrun, g1, g2, g3, g4⟩ := twin_run (w := wr) (ty := 44) Tryd.uPhs hi0 hz0 hz1 hz2 rfl (by omega) (by omega) ((HS.out.kept T3.out.kept).p) (HS.out.pk) (by omega) (fun i j => (by unfold phV; split <;> rfl))
      have HR3 := Hid.mk' hrun
      have U3 := Hid.mk' (T3.out.call g4)
      have k3 : y3.cell? ⟨w.heap.size + 1 + 1, 4, none⟩ = some (.slice xp S.phases.length xpc) := U3.out.tb.cell (i := 4) (by omega)
      have z3 : y3.frozen? ⟨w.heap.size + 1 + 1, 4, none⟩ = false := U3.out.tb.frozen 4
      have Lp : Hid (Nl w y3 np _ 5 _) := ⟨g1, fun b e => ⟨(by have := (g3 b e).1; have := T3.out.tb.lt; omega), (g3 b e).2⟩⟩
      have Gp := Hid.mk' g2
      have Lg := Hid.mk' (Lg.out.kept0 g4)
      have La := Hid.mk' (La.out.kept0 g4)
      have HG := Hid.mk' (HG.out.kept0 g4)
      clear hrun g1 g2 g3 g4 hi0 hz0 hz1 hz2 i0
      go_wp2_with (first
        | (have hgo := HC11; clear hgo; go_at_call 61; refine (twinPlans_any (w := y4.setCell ⟨w.heap.size + 1 + 1, 5, none⟩ (.slice ne S.eyes.length nec)) (HS.out.kept T5.out.kept).l hl HLR.out).mono ?_; rintro e y5 ⟨nl, nlc, rfl, hPl, hkl⟩; have HPL := Hid.mk' hPl; have U5 := Hid.mk' (T5.out.call hkl); have Lg := Hid.mk' (Lg.out.kept0 hkl); have La := Hid.mk' (La.out.kept0 hkl); have HG := Hid.mk' (HG.out.kept0 hkl); have Lp := Hid.mk' (Lp.out.kept0 hkl); have Le := Hid.mk' (Le.out.kept0 hkl); clear hPl; have k0 : y5.cell? ⟨w.heap.size + 1 + 1, 0, none⟩ = some (.int .i64 S.id) := U5.out.tb.cell (i := 0) (by omega); have s0 : y5.cell? ⟨w.heap.size + 1, 0, none⟩ = some (.int .i64 0) := U5.out.rb.cell (i := 0) (by omega); have u0 : y5.frozen? ⟨w.heap.size + 1, 0, none⟩ = false := U5.out.rb.frozen 0; have k1 : y5.cell? ⟨w.heap.size + 1 + 1, 1, none⟩ = some (.slice ng S.groups.length ngc) := U5.out.tb.cell (i := 1) (by omega); have s1 : y5.cell? ⟨w.heap.size + 1, 1, none⟩ = some (.slice none 0 0) := U5.out.rb.cell (i := 1) (by omega); have u1 : y5.frozen? ⟨w.heap.size + 1, 1, none⟩ = false := U5.out.rb.frozen 1; have k2 : y5.cell? ⟨w.heap.size + 1 + 1, 2, none⟩ = some (.slice na S.apart.length nac) := U5.out.tb.cell (i := 2) (by omega); have s2 : y5.cell? ⟨w.heap.size + 1, 2, none⟩ = some (.slice none 0 0) := U5.out.rb.cell (i := 2) (by omega); have u2 : y5.frozen? ⟨w.heap.size + 1, 2, none⟩ = false := U5.out.rb.frozen 2; have k3 : y5.cell? ⟨w.heap.size + 1 + 1, 3, none⟩ = some (.slice nb S.between.length nbc) := U5.out.tb.cell (i := 3) (by omega); have s3 : y5.cell? ⟨w.heap.size + 1, 3, none⟩ = some (.slice none 0 0) := U5.out.rb.cell (i := 3) (by omega); have u3 : y5.frozen? ⟨w.heap.size + 1, 3, none⟩ = false := U5.out.rb.frozen 3; have k4 : y5.cell? ⟨w.heap.size + 1 + 1, 4, none⟩ = some (.slice np S.phases.length npc) := U5.out.tb.cell (i := 4) (by omega); have s4 : y5.cell? ⟨w.heap.size + 1, 4, none⟩ = some (.slice none 0 0) := U5.out.rb.cell (i := 4) (by omega); have u4 : y5.frozen? ⟨w.heap.size + 1, 4, none⟩ = false := U5.out.rb.frozen 4; have k5 : y5.cell? ⟨w.heap.size + 1 + 1, 5, none⟩ = some (.slice ne S.eyes.length nec) := U5.out.tb.cell (i := 5) (by omega); have s5 : y5.cell? ⟨w.heap.size + 1, 5, none⟩ = some (.slice none 0 0) := U5.out.rb.cell (i := 5) (by omega); have u5 : y5.frozen? ⟨w.heap.size + 1, 5, none⟩ = false := U5.out.rb.frozen 5; have k6 : y5.cell? ⟨w.heap.size + 1 + 1, 6, none⟩ = some (.int .i64 S.watch) := U5.out.tb.cell (i := 6) (by omega); have s6 : y5.cell? ⟨w.heap.size + 1, 6, none⟩ = some (.int .i64 0) := U5.out.rb.cell (i := 6) (by omega); have u6 : y5.frozen? ⟨w.heap.size + 1, 6, none⟩ = false := U5.out.rb.frozen 6; have k7 : y5.cell? ⟨w.heap.size + 1 + 1, 7, none⟩ = some (.int .i64 S.feed) := U5.out.tb.cell (i := 7) (by omega); have s7 : y5.cell? ⟨w.heap.size + 1, 7, none⟩ = some (.int .i64 0) := U5.out.rb.cell (i := 7) (by omega); have u7 : y5.frozen? ⟨w.heap.size + 1, 7, none⟩ = false := U5.out.rb.frozen 7; have k8 : y5.cell? ⟨w.heap.size + 1 + 1, 8, none⟩ = some (.int .i64 S.heal) := U5.out.tb.cell (i := 8) (by omega); have s8 : y5.cell? ⟨w.heap.size + 1, 8, none⟩ = some (.int .i64 0) := U5.out.rb.cell (i := 8) (by omega); have u8 : y5.frozen? ⟨w.heap.size + 1, 8, none⟩ = false := U5.out.rb.frozen 8; have k9 : y5.cell? ⟨w.heap.size + 1 + 1, 9, none⟩ = some (.int .i64 S.low) := U5.out.tb.cell (i := 9) (by omega); have s9 : y5.cell? ⟨w.heap.size + 1, 9, none⟩ = some (.int .i64 0) := U5.out.rb.cell (i := 9) (by omega); have u9 : y5.frozen? ⟨w.heap.size + 1, 9, none⟩ = false := U5.out.rb.frozen 9; have k10 : y5.cell? ⟨w.heap.size + 1 + 1, 10, none⟩ = some (.int .i64 S.high) := U5.out.tb.cell (i := 10) (by omega); have s10 : y5.cell? ⟨w.heap.size + 1, 10, none⟩ = some (.int .i64 0) := U5.out.rb.cell (i := 10) (by omega); have u10 : y5.frozen? ⟨w.heap.size + 1, 10, none⟩ = false := U5.out.rb.frozen 10; have k11 : y5.cell? ⟨w.heap.size + 1 + 1, 11, none⟩ = some (.slice xl S.plans.length xlc) := U5.out.tb.cell (i := 11) (by omega); have s11 : y5.cell? ⟨w.heap.size + 1, 11, none⟩ = some (.slice none 0 0) := U5.out.rb.cell (i := 11) (by omega); have u11 : y5.frozen? ⟨w.heap.size + 1, 11, none⟩ = false := U5.out.rb.frozen 11; have zz : y5.frozen? ⟨w.heap.size + 1 + 1, 11, none⟩ = false := U5.out.tb.frozen 11)
        | (have hgo := HR4; clear hgo; at_builtin; refine wpList_app (by rfl) _ _ _ (by rfl) (by rfl) (by rfl) HR4.out ?_; clear HR4; have T5 : Hid (Tst w (y4.setCell ⟨w.heap.size + 1 + 1, 5, none⟩ (.slice ne S.eyes.length nec)) #[.int .i64 S.id, .slice xg S.groups.length xgc, .slice xa S.apart.length xac, .slice xb S.between.length xbc, .slice xp S.phases.length xpc, .slice xe S.eyes.length xec, .int .i64 S.watch, .int .i64 S.feed, .int .i64 S.heal, .int .i64 S.low, .int .i64 S.high, .slice xl S.plans.length xlc] #[.int .i64 S.id, .slice ng S.groups.length ngc, .slice na S.apart.length nac, .slice nb S.between.length nbc, .slice np S.phases.length npc, .slice ne S.eyes.length nec, .int .i64 S.watch, .int .i64 S.feed, .int .i64 S.heal, .int .i64 S.low, .int .i64 S.high, .slice xl S.plans.length xlc]) := U4.out.put 5 _ (by simp); have Lg := Hid.mk' (Lg.out.put 5 (.slice ne S.eyes.length nec)); have La := Hid.mk' (La.out.put 5 (.slice ne S.eyes.length nec)); have HG := Hid.mk' (HG.out.put 5 (.slice ne S.eyes.length nec)); have Lp := Hid.mk' (Lp.out.put 5 (.slice ne S.eyes.length nec)); have Le := Hid.mk' (Le.out.put 5 (.slice ne S.eyes.length nec)); clear U4; have c11 : (y4.setCell ⟨w.heap.size + 1 + 1, 5, none⟩ (.slice ne S.eyes.length nec)).cell? ⟨w.heap.size, 11, none⟩ = some (.slice xl S.plans.length xlc) := T5.out.sb.cell (i := 11) (by omega); have HC11 := trivial)
        | (have hgo := HR3; clear hgo; at_builtin; refine wpList_app (by rfl) _ _ _ (by rfl) (by rfl) (by rfl) HR3.out ?_; clear HR3; have T4 : Hid (Tst w (y3.setCell ⟨w.heap.size + 1 + 1, 4, none⟩ (.slice np S.phases.length npc)) #[.int .i64 S.id, .slice xg S.groups.length xgc, .slice xa S.apart.length xac, .slice xb S.between.length xbc, .slice xp S.phases.length xpc, .slice xe S.eyes.length xec, .int .i64 S.watch, .int .i64 S.feed, .int .i64 S.heal, .int .i64 S.low, .int .i64 S.high, .slice xl S.plans.length xlc] #[.int .i64 S.id, .slice ng S.groups.length ngc, .slice na S.apart.length nac, .slice nb S.between.length nbc, .slice np S.phases.length npc, .slice xe S.eyes.length xec, .int .i64 S.watch, .int .i64 S.feed, .int .i64 S.heal, .int .i64 S.low, .int .i64 S.high, .slice xl S.plans.length xlc]) := U3.out.put 4 _ (by simp); have Lg := Hid.mk' (Lg.out.put 4 (.slice np S.phases.length npc)); have La := Hid.mk' (La.out.put 4 (.slice np S.phases.length npc)); have HG := Hid.mk' (HG.out.put 4 (.slice np S.phases.length npc)); have Lp := Hid.mk' (Lp.out.put 4 (.slice np S.phases.length npc)); clear U3; have c5 : (y3.setCell ⟨w.heap.size + 1 + 1, 4, none⟩ (.slice np S.phases.length npc)).cell? ⟨w.heap.size, 5, none⟩ = some (.slice xe S.eyes.length xec) := T4.out.sb.cell (i := 5) (by omega); obtain ⟨i0, hi0, hz0, hz1, hz2⟩ := info_parts Tryd.infoEy; obtain ⟨ne, nec, y4, hrun, g1, g2, g3, g4⟩ := twin_run (w := y3.setCell ⟨w.heap.size + 1 + 1, 4, none⟩ (.slice np S.phases.length npc)) (ty := 45) Tryd.uEys hi0 hz0 hz1 hz2 rfl (by omega) (by omega) ((HS.out.kept T4.out.kept).e) (HS.out.ek) (by omega) (fun i j => (by unfold eyV; split <;> rfl)); have HR4 := Hid.mk' hrun; have U4 := Hid.mk' (T4.out.call g4); have k4 : y4.cell? ⟨w.heap.size + 1 + 1, 5, none⟩ = some (.slice xe S.eyes.length xec) := U4.out.tb.cell (i := 5) (by omega); have z4 : y4.frozen? ⟨w.heap.size + 1 + 1, 5, none⟩ = false := U4.out.tb.frozen 5; have Le : Hid (Nl w y4 ne _ 4 _) := ⟨g1, fun b e => ⟨(by have := (g3 b e).1; have := T4.out.tb.lt; omega), (g3 b e).2⟩⟩; have Ge := Hid.mk' g2; have Lg := Hid.mk' (Lg.out.kept0 g4); have La := Hid.mk' (La.out.kept0 g4); have HG := Hid.mk' (HG.out.kept0 g4); have Lp := Hid.mk' (Lp.out.kept0 g4); clear hrun g1 g2 g3 g4 hi0 hz0 hz1 hz2 i0))
      have T6 : Hid (Tst w (y5.setCell ⟨w.heap.size + 1 + 1, 11, none⟩ (.slice nl S.plans.length nlc)) #[.int .i64 S.id, .slice xg S.groups.length xgc, .slice xa S.apart.length xac, .slice xb S.between.length xbc, .slice xp S.phases.length xpc, .slice xe S.eyes.length xec, .int .i64 S.watch, .int .i64 S.feed, .int .i64 S.heal, .int .i64 S.low, .int .i64 S.high, .slice xl S.plans.length xlc] #[.int .i64 S.id, .slice ng S.groups.length ngc, .slice na S.apart.length nac, .slice nb S.between.length nbc, .slice np S.phases.length npc, .slice ne S.eyes.length nec, .int .i64 S.watch, .int .i64 S.feed, .int .i64 S.heal, .int .i64 S.low, .int .i64 S.high, .slice nl S.plans.length nlc]) := U5.out.put 11 _ (by simp)
      have Lg := Hid.mk' (Lg.out.put 11 (.slice nl S.plans.length nlc))
      have La := Hid.mk' (La.out.put 11 (.slice nl S.plans.length nlc))
      have HG := Hid.mk' (HG.out.put 11 (.slice nl S.plans.length nlc))
      have Lp := Hid.mk' (Lp.out.put 11 (.slice nl S.plans.length nlc))
      have Le := Hid.mk' (Le.out.put 11 (.slice nl S.plans.length nlc))
      have HQ := Hid.mk' (row12Z (lo := w.heap.size + 1 + 1) T6.out.rb T6.out.kept (by omega) (by omega) (.int .i64 S.id) (.slice ng S.groups.length ngc) (.slice na S.apart.length nac) (.slice nb S.between.length nbc) (.slice np S.phases.length npc) (.slice ne S.eyes.length nec) (.int .i64 S.watch) (.int .i64 S.feed) (.int .i64 S.heal) (.int .i64 S.low) (.int .i64 S.high) (.slice nl S.plans.length nlc))
      have hz5 : w.heap.size + 1 + 1 < (y4.setCell ⟨w.heap.size + 1 + 1, 5, none⟩ (.slice ne S.eyes.length nec)).heap.size := T5.out.tb.lt
      have HL5 : Hid (LtrZ (y4.setCell ⟨w.heap.size + 1 + 1, 5, none⟩ (.slice ne S.eyes.length nec)).heap.size y5 (y5.setCell ⟨w.heap.size + 1 + 1, 11, none⟩ (.slice nl S.plans.length nlc))) := LtrZ.set y5 (by omega) 11 _
      have hz6 : w.heap.size + 1 + 1 ≤ (y4.setCell ⟨w.heap.size + 1 + 1, 5, none⟩ (.slice ne S.eyes.length nec)).heap.size := by omega
      clear k0 s0 u0 k1 s1 u1 k2 s2 u2 k3 s3 u3 k4 s4 u4 k5 s5 u5 k6 s6 u6 k7 s7 u7 k8 s8 u8 k9 s9 u9 k10 s10 u10 k11 s11 u11 zz c11 c5 c4
      generalize (((((((((((((y5.setCell ⟨w.heap.size + 1 + 1, 11, none⟩ (.slice nl S.plans.length nlc)).setCell ⟨w.heap.size + 1, 0, none⟩ (.int .i64 S.id)).setCell ⟨w.heap.size + 1, 1, none⟩ (.slice ng S.groups.length ngc)).setCell ⟨w.heap.size + 1, 2, none⟩ (.slice na S.apart.length nac)).setCell ⟨w.heap.size + 1, 3, none⟩ (.slice nb S.between.length nbc)).setCell ⟨w.heap.size + 1, 4, none⟩ (.slice np S.phases.length npc)).setCell ⟨w.heap.size + 1, 5, none⟩ (.slice ne S.eyes.length nec)).setCell ⟨w.heap.size + 1, 6, none⟩ (.int .i64 S.watch)).setCell ⟨w.heap.size + 1, 7, none⟩ (.int .i64 S.feed)).setCell ⟨w.heap.size + 1, 8, none⟩ (.int .i64 S.heal)).setCell ⟨w.heap.size + 1, 9, none⟩ (.int .i64 S.low)).setCell ⟨w.heap.size + 1, 10, none⟩ (.int .i64 S.high)).setCell ⟨w.heap.size + 1, 11, none⟩ (.slice nl S.plans.length nlc)) = WF at *
      generalize (y5.setCell ⟨w.heap.size + 1 + 1, 11, none⟩ (.slice nl S.plans.length nlc)) = x6 at *
      obtain ⟨hkF, hqF, q0, q1, q2, q3, q4, q5, q6, q7, q8, q9, q10, q11⟩ := HQ.out
      refine bodyPost_ret (v := .agg #[.int .i64 S.id, .slice ng S.groups.length ngc, .slice na S.apart.length nac, .slice nb S.between.length nbc, .slice np S.phases.length npc, .slice ne S.eyes.length nec, .int .i64 S.watch, .int .i64 S.feed, .int .i64 S.heal, .int .i64 S.low, .int .i64 S.high, .slice nl S.plans.length nlc]) (by simp [results, Tryd.results36, go_sem, q0, q1, q2, q3, q4, q5, q6, q7, q8, q9, q10, q11]) rfl ?_
      clear q0 q1 q2 q3 q4 q5 q6 q7 q8 q9 q10 q11
      have hqG : LtrZ (w.heap.size + 1 + 1 + 1) x6 WF := hqF.up (by omega)
      refine ⟨⟨ng, ngc, na, nac, nb, nbc, np, npc, ne, nec, nl, nlc⟩, rfl, fun w'' qq => ⟨Lg.out.ltr (hqG.tr qq), La.out.ltr (hqG.tr qq), HG.out.done rfl (hqG.tr qq), Lp.out.ltr (hqG.tr qq), Le.out.ltr (hqG.tr qq), HPL.out w'' (HL5.out.tr ((hqF.up hz6).tr (qq.up (by omega)))), Gg.out, Ga.out, Gp.out, Ge.out, HS.out.gr, HS.out.ar, HS.out.pr, HS.out.er, HS.out.nr⟩, hkF⟩
theorem twin_any {X : Sa} {S : St} {w : World} (h : Sat w X S) (hg : S.groups.length ≤ 60) (ha : S.apart.length ≤ 60) (hb : S.between.length ≤ 40) (hp : S.phases.length ≤ 60) (he : S.eyes.length ≤ 60) (hl : S.plans.length ≤ 40) (hbr : ∀ i, i < S.between.length → (S.between.getD i []).length ≤ 60) (hlr : ∀ i, i < S.plans.length → (S.plans.getD i q0).splits.length ≤ 40) : Calls Tryd.prog 36 #[siteV X S] w fun e w' => TwS w S e w' :=
  (twin_new h hg ha hb hp he hl hbr hlr).mono fun e w' ⟨X, h1, h2, h3⟩ => ⟨X, h1, h2 w' LtrZ.rfl', h3⟩

end Go.Proofs.YtoahbpdgbiachaaDoor

/-
  LISTS IN NEW MEMORY, of which a box tells: one more element behind.
-/
namespace Go.Proofs.YtoahbpdgbiachaaDoor
open Go.RowKit Go.Lib Go.Deep
set_option linter.unusedVariables false
set_option linter.unusedSimpArgs false

/-- Nothing above a box has changed, but a row and what is new. -/
structure Far2 (w w' : World) (B : Nat) (r : Option Nat) : Prop where
  size : w.heap.size ≤ w'.heap.size
  block : ∀ i, i < w.heap.size → B < i → some i ≠ r → w'.heap[i]? = w.heap[i]?
theorem Far2.refl (w : World) (B : Nat) (r : Option Nat) : Far2 w w B r := ⟨Nat.le_refl _, fun _ _ _ _ => rfl⟩
theorem Far2.kept {w w' : World} (k : Kept w w' none) (B : Nat) (r : Option Nat) : Far2 w w' B r := ⟨k.size, fun i hi _ _ => k.block i hi (by simp)⟩
theorem Far2.box {w w' : World} {B R : Nat} (k : Kept w w' (some R)) (hR : R ≤ B) (r : Option Nat) : Far2 w w' B r := ⟨k.size, fun i hi hb _ => k.block i hi (fun e => by have := Option.some.inj e; omega)⟩
theorem Far2.row {w w' : World} {r : Option Nat} (k : Kept w w' r) (B : Nat) : Far2 w w' B r := ⟨k.size, fun i hi _ hr => k.block i hi hr⟩
theorem Far2.tr {a b c : World} {B : Nat} {r : Option Nat} (h : Far2 a b B r) (k : Far2 b c B r) : Far2 a c B r := ⟨Nat.le_trans h.size k.size, fun i hi hb hr => (k.block i (Nat.lt_of_lt_of_le hi h.size) hb hr).trans (h.block i hi hb hr)⟩
theorem Far2.weak {a b : World} {B : Nat} (h : Far2 a b B none) (r : Option Nat) : Far2 a b B r := ⟨h.size, fun i hi hb _ => h.block i hi hb (by simp)⟩
/-- The row is another one, or a new one. -/
theorem Far2.back {a b c : World} {B : Nat} {r r' : Option Nat} (h : Far2 a b B r) (k : Far2 b c B r') (hr : ∀ g, r' = some g → r = some g ∨ a.heap.size ≤ g) : Far2 a c B r :=
  ⟨Nat.le_trans h.size k.size, fun i hi hb hi2 => (k.block i (Nat.lt_of_lt_of_le hi h.size) hb (fun e => by
    rcases hr i e.symm with q | q
    · exact hi2 q.symm
    · omega)).trans (h.block i hi hb hi2)⟩
theorem Far2.lie {w w' : World} {B : Nat} {r : Option Nat} {a : Option Addr} {n k : Nat} {f : Nat → Nat → Value} (h : Lie w a n k f) (q : Far2 w w' B r) (hb : ∀ x, a = some x → B < x.block ∧ some x.block ≠ r) : Lie w' a n k f :=
  ⟨fun hp => by
    obtain ⟨b, off, rfl, hl, hc⟩ := h.at_ hp
    have h1 := hb _ rfl
    exact ⟨b, off, rfl, Nat.lt_of_lt_of_le hl q.size, fun i hi j hj => (World.cell?_of_block (w := w) (a := ⟨b, off + i * k + j, none⟩) (q.block b hl h1.1 h1.2)).trans (hc i hi j hj)⟩⟩
theorem Far2.ints {w w' : World} {B : Nat} {r : Option Nat} {a : Option Addr} {n c : Nat} {l : List Int} (h : Ints w a n c l) (q : Far2 w w' B r) (hb : ∀ x, a = some x → B < x.block ∧ some x.block ≠ r) : Ints w' a n c l := ⟨Far2.lie h.lie q hb, h.size, h.cap, h.rng⟩
/-- A list of one's own, k elements of K cells; what each of them leads to. -/
structure Tl (wr : World) (base B : Nat) (e : TypeId) (K k : Nat) (v : Value) (f : Nat → Nat → Value) (P : Nat → World → Prop) : Prop where
  own : wr.ownsRow base e K v k (cellsL k K f)
  ok : ∀ i, i < k → ∀ w'', Far2 wr w'' B v.ownBlock → P i w''
theorem Tl.start (wr : World) (base B : Nat) (e : TypeId) (K : Nat) (f : Nat → Nat → Value) (P : Nat → World → Prop) : Tl wr base B e K 0 (.slice none 0 0) f P := ⟨by
    have h0 : cellsL 0 K f = [] := by simp [cellsL]
    rw [h0]
    exact World.ownsRow_nil _ _ _ _, fun i hi => by omega⟩
theorem Tl.kept {w w' : World} {base B : Nat} {e : TypeId} {K k : Nat} {v : Value} {f : Nat → Nat → Value} {P : Nat → World → Prop} (h : Tl w base B e K k v f P) (q : Kept w w' none) : Tl w' base B e K k v f P :=
  ⟨own_keptR' h.own q (fun g _ => by simp), fun i hi w'' r => h.ok i hi w'' ((Far2.kept q _ _).tr r)⟩
theorem Tl.shape {w : World} {base B : Nat} {e : TypeId} {K k : Nat} {v : Value} {f : Nat → Nat → Value} {P : Nat → World → Prop} (h : Tl w base B e K k v f P) (hK : 0 < K) : ∃ a c, v = .slice a k c := by
  obtain ⟨a, c, e, _⟩ := lie_own hK h.own
  exact ⟨a, c, e⟩
theorem ite_lt {k : Nat} {p q : Nat → Prop} (h1 : q k) (h2 : ∀ i, i < k → p i) : ∀ i, i < k + 1 → (if i = k then q k else p i) := fun i hi => by
  by_cases e : i = k
  · rw [if_pos e]; exact h1
  · rw [if_neg e]; exact h2 i (by omega)
theorem Tl.step {wr W2 : World} {base B : Nat} {t e : TypeId} {K k : Nat} {v : Value} {f : Nat → Nat → Value} {P : Nat → World → Prop} (T : Tl wr base B e K k v f P) {inf : TypeInfo} {z : Value} {bytes : Nat} (ht : Tryd.prog.underlying t = some (.slice e)) (hi : Tryd.prog.info? e = some inf) (hz : inf.zero = some z) (hsize : inf.size = K) (hby : inf.bytes = bytes) (hzs : z.cells.size = K) (hK : 0 < K) (hbb : bytes ≤ 1000) (hk : k ≤ 1000) (hbase : base ≤ wr.heap.size) (hB : B < base)
    (h2 : Kept wr W2 none) {cs : Array Value} {g : Nat → Value} (hg : ∀ j, j < K → cs[j]? = some (g j)) (h1 : ∀ j, (g j).oneCell' = true) {Pk : World → Prop} (hP : ∀ w'', Far2 W2 w'' B v.ownBlock → Pk w'') :
    ∃ a' c' W5, (Builtin.append_ #[t, t] t #[v, .slice (some ⟨W2.heap.size, 0, none⟩) 1 1]).run Tryd.prog (W2.alloc (.cells cs e)) = .ok (.slice a' (k + 1 : Nat) c') W5 ∧
      (∀ j0, Tl (W5.setCell ⟨B, j0, none⟩ (.slice a' (k + 1 : Nat) c')) base B e K (k + 1) (.slice a' (k + 1 : Nat) c') (fun i j => if i = k then g j else f i j) (fun i w => if i = k then Pk w else P i w)) ∧
      Kept W2 W5 v.ownBlock ∧ (∀ r, (Value.slice a' (k + 1 : Nat) c').ownBlock = some r → v.ownBlock = some r ∨ W2.heap.size ≤ r) := by
  have hk4 : Kept W2 (W2.alloc (.cells cs e)) none := Kept.alloc _ _ _ _ _
  have own4 : (W2.alloc (.cells cs e)).ownsRow base e K v k (cellsL k K f) := own_keptR' (own_keptR' T.own h2 (fun g _ => by simp)) hk4 (fun g _ => by simp)
  have hc : ∀ j, j < K → (W2.alloc (.cells cs e)).cell? ⟨W2.heap.size, 0 + j, none⟩ = some (g j) := fun j hj => by
    rw [Nat.zero_add]
    exact alloc_at2 _ _ _ rfl (hg j hj)
  have hz4 : (W2.alloc (.cells cs e)).heap.size = W2.heap.size + 1 := by simp
  have hs2 := h2.size
  obtain ⟨v', W5, hr, g1, g2, g3⟩ := grow_run (t := t) (ty := t) (c := 1) ht hi hz hsize hby hzs hK hbb own4 hc h1 hk (by omega)
  obtain ⟨a', c', rfl, _⟩ := lie_own hK g1
  rw [hz4] at g3
  have hk5 : Kept (W2.alloc (.cells cs e)) W5 v.ownBlock := g2
  have hk25 : Kept W2 W5 v.ownBlock := ⟨hk5.os.trans hk4.os, hk5.tape.trans hk4.tape, hk5.output.trans hk4.output, Nat.le_trans hk4.size hk5.size, fun i hi hne => (hk5.block i (Nat.lt_of_lt_of_le hi hk4.size) hne).trans (hk4.block i hi (by simp))⟩
  have hob : ∀ r, (Value.slice a' (k + 1 : Nat) c').ownBlock = some r → v.ownBlock = some r ∨ W2.heap.size ≤ r := fun r e => by
    rcases g3 with q | q
    · exact .inl (q.symm.trans e)
    · rw [q] at e; injection e with e; exact .inr (by omega)
  refine ⟨a', c', W5, hr, fun j0 => ⟨own_keptR' g1 (kept_setZ _ _ _ _) (fun g hg e => by have := (own_lt g1 g hg).1; injection e with e; omega), fun i hi w'' q => ?_⟩, hk25, hob⟩
  have hq : Far2 W2 w'' B v.ownBlock := (Far2.row hk25 B).back ((Far2.box (kept_setZ W5 B j0 _) (Nat.le_refl _) _).tr q) hob
  by_cases e : i = k
  · show if i = k then Pk w'' else P i w''
    rw [if_pos e]
    exact hP w'' hq
  · show if i = k then Pk w'' else P i w''
    rw [if_neg e]
    exact T.ok i (by omega) w'' ((Far2.kept h2 _ _).tr hq)
theorem Tl.congr {w : World} {base B : Nat} {e : TypeId} {K k : Nat} {v : Value} {f f' : Nat → Nat → Value} {P P' : Nat → World → Prop} (h : Tl w base B e K k v f P) (hf : ∀ i, i < k → ∀ j, f i j = f' i j) (hp : ∀ i, i < k → ∀ w'', P i w'' → P' i w'') (hK : 0 < K) : Tl w base B e K k v f' P' := by
  refine ⟨?_, fun i hi w'' q => hp i hi w'' (h.ok i hi w'' q)⟩
  have e : cellsL k K f = cellsL k K f' := by
    unfold cellsL
    refine List.map_congr_left fun q hq => ?_
    have h1 : q / K < k := by rw [Nat.div_lt_iff_lt_mul hK]; exact List.mem_range.1 hq
    exact hf _ h1 _
  rw [← e]
  exact h.own
/-- What the list is, while nothing above the box changes. -/
theorem Tl.done {w w' : World} {base B : Nat} {e : TypeId} {K k c : Nat} {a : Option Addr} {f : Nat → Nat → Value} {P : Nat → World → Prop} (h : Tl w base B e K k (.slice a k c) f P) (q : Far2 w w' B none) (hK : 0 < K) (hB : B < base) : Lie w' a k K f ∧ Cap a k c ∧ ∀ i, i < k → P i w' := by
  obtain ⟨a', c', e, h1, h2, h3⟩ := lie_own hK h.own
  injection e with e1 e2 e3
  subst e1 e3
  exact ⟨Far2.lie h1 q (fun x hx => ⟨by have := (h3 x hx).1; omega, by simp⟩), h2, fun i hi => h.ok i hi w' (q.weak _)⟩
/-! ### A region's three boxes -/
abbrev zN : Array Value := #[.slice none 0 0, .slice none 0 0, .slice none 0 0, .int .i64 0, .int .i64 0, .int .i64 0]
structure Tn (w W : World) (s c : Array Value) : Prop where
  kept : Kept w W none
  sb : W.rowIs w.heap.size 26 6 (fSZ s)
  rb : W.rowIs (w.heap.size + 1) 26 6 (fSZ zN)
  tb : W.rowIs (w.heap.size + 1 + 1) 26 6 (fSZ c)
theorem Tn.call {w W W' : World} {s c : Array Value} (h : Tn w W s c) (k : Kept W W' none) : Tn w W' s c := ⟨h.kept.tr k, row_kept h.sb k (by simp), row_kept h.rb k (by simp), row_kept h.tb k (by simp)⟩
theorem Tn.grow {w W W' : World} {s c : Array Value} {r : Option Nat} (h : Tn w W s c) (k : Kept W W' r) (hr : ∀ g, r = some g → w.heap.size + 1 + 1 < g) : Tn w W' s c :=
  ⟨kept_row h.kept k (fun g e => by have := hr g e; omega), row_kept h.sb k (fun e => by have := hr _ e.symm; omega), row_kept h.rb k (fun e => by have := hr _ e.symm; omega), row_kept h.tb k (fun e => by have := hr _ e.symm; omega)⟩
theorem Tn.put {w W : World} {s c : Array Value} (h : Tn w W s c) (j : Nat) (v : Value) (hj : j < c.size) : Tn w (W.setCell ⟨w.heap.size + 1 + 1, j, none⟩ v) s (c.setIfInBounds j v) :=
  ⟨kept_newZ h.kept (by omega) j v, h.sb.setOther (by show _ ≠ w.heap.size + 1 + 1; omega) v, h.rb.setOther (by show _ ≠ w.heap.size + 1 + 1; omega) v, (h.tb.set j v).congr (fun i _ => fSZ_set c j v hj i)⟩
theorem nrow (w : World) (c : Array Value) (hc : c.size = 6) : (w.alloc (.cells c 26)).rowIs w.heap.size 26 6 (fSZ c) := by
  have := World.rowIs_alloc w c 26 (fSZ c) (fun i hi => by unfold fSZ; rw [Array.getElem?_eq_getElem hi]; rfl)
  rw [hc] at this
  exact this
theorem tn_start (w : World) (s c : Array Value) (hs : s.size = 6) (hc : c.size = 6) : Tn w (((w.alloc (.cells s 26)).alloc (.cells zN 26)).alloc (.cells c 26)) s c := by
  have k1 : Kept w (w.alloc (.cells s 26)) none := Kept.alloc _ _ _ (0, 0) _
  have k2 : Kept (w.alloc (.cells s 26)) ((w.alloc (.cells s 26)).alloc (.cells zN 26)) none := Kept.alloc _ _ _ (0, 0) _
  have k3 : Kept ((w.alloc (.cells s 26)).alloc (.cells zN 26)) (((w.alloc (.cells s 26)).alloc (.cells zN 26)).alloc (.cells c 26)) none := Kept.alloc _ _ _ (0, 0) _
  have r1 := nrow w s hs
  have r2 := nrow (w.alloc (.cells s 26)) zN rfl
  have r3 := nrow ((w.alloc (.cells s 26)).alloc (.cells zN 26)) c hc
  rw [show (w.alloc (.cells s 26)).heap.size = w.heap.size + 1 by simp] at r2
  rw [show ((w.alloc (.cells s 26)).alloc (.cells zN 26)).heap.size = w.heap.size + 1 + 1 by simp] at r3
  exact ⟨(k1.tr k2).tr k3, row_kept (row_kept r1 k2 (by simp)) k3 (by simp), row_kept r2 k3 (by simp), r3⟩
theorem set6Z (v0 v1 v2 v3 v4 v5 : Value) : ((((((zN.setIfInBounds 0 v0).setIfInBounds 1 v1).setIfInBounds 2 v2).setIfInBounds 3 v3).setIfInBounds 4 v4).setIfInBounds 5 v5) = #[v0, v1, v2, v3, v4, v5] := by simp only [zN, List.setIfInBounds_toArray, List.set_cons_zero, List.set_cons_succ]
theorem row6Z {w0 wx : World} {R : Nat} (h : wx.rowIs R 26 6 (fSZ zN)) (hk : Kept w0 wx none) (hR : w0.heap.size ≤ R) {B : Nat} (hRB : R ≤ B) (v0 v1 v2 v3 v4 v5 : Value) : let WF := ((((((wx.setCell ⟨R, 0, none⟩ v0).setCell ⟨R, 1, none⟩ v1).setCell ⟨R, 2, none⟩ v2).setCell ⟨R, 3, none⟩ v3).setCell ⟨R, 4, none⟩ v4).setCell ⟨R, 5, none⟩ v5); Kept w0 WF none ∧ Far2 wx WF B none ∧ WF.cell? ⟨R, 0, none⟩ = some v0 ∧ WF.cell? ⟨R, 1, none⟩ = some v1 ∧ WF.cell? ⟨R, 2, none⟩ = some v2 ∧ WF.cell? ⟨R, 3, none⟩ = some v3 ∧ WF.cell? ⟨R, 4, none⟩ = some v4 ∧ WF.cell? ⟨R, 5, none⟩ = some v5 := by
  intro WF
  have e := ((((((((((((h.set 0 v0).congr (fun i _ => fSZ_set _ 0 v0 (by simp [zN]) i)).set 1 v1).congr (fun i _ => fSZ_set _ 1 v1 (by simp [zN]) i)).set 2 v2).congr (fun i _ => fSZ_set _ 2 v2 (by simp [zN]) i)).set 3 v3).congr (fun i _ => fSZ_set _ 3 v3 (by simp [zN]) i)).set 4 v4).congr (fun i _ => fSZ_set _ 4 v4 (by simp [zN]) i)).set 5 v5).congr (fun i _ => fSZ_set _ 5 v5 (by simp [zN]) i))
  rw [set6Z] at e
  exact ⟨kept_newZ (kept_newZ (kept_newZ (kept_newZ (kept_newZ (kept_newZ hk hR 0 v0) hR 1 v1) hR 2 v2) hR 3 v3) hR 4 v4) hR 5 v5, (((((Far2.box (kept_setZ _ _ 0 v0) hRB none).tr (Far2.box (kept_setZ _ _ 1 v1) hRB none)).tr (Far2.box (kept_setZ _ _ 2 v2) hRB none)).tr (Far2.box (kept_setZ _ _ 3 v3) hRB none)).tr (Far2.box (kept_setZ _ _ 4 v4) hRB none)).tr (Far2.box (kept_setZ _ _ 5 v5) hRB none), e.cell (i := 0) (by omega), e.cell (i := 1) (by omega), e.cell (i := 2) (by omega), e.cell (i := 3) (by omega), e.cell (i := 4) (by omega), e.cell (i := 5) (by omega)⟩

end Go.Proofs.YtoahbpdgbiachaaDoor

