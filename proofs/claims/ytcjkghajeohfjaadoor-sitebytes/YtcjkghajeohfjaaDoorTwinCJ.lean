/-
  Texts joined: some of those that the proofs of this seat stand on.
-/
import Derived.Test.YtcjkghajeohfjaaDoorTwinZJ
/-
  TwinPlans: plans in new memory are the same plans.
-/
namespace Go.Proofs.YtcjkghajeohfjaaDoor
open Go.RowKit Go.Lib Go.Deep
set_option linter.unusedVariables false
set_option linter.unusedSimpArgs false

theorem Lie.ltrA {lo : Nat} {w w' : World} {a : Option Addr} {n k : Nat} {f : Nat → Nat → Value} (h : Lie w a n k f) (q : LtrZ lo w w') (hl : ∀ b, a = some b → lo ≤ b.block) : Lie w' a n k f :=
  ⟨fun hp => by
    obtain ⟨b, off, rfl, hb, hc⟩ := h.at_ hp
    exact ⟨b, off, rfl, Nat.lt_of_lt_of_le hb q.size, fun i hi j hj => q.cell (hc i hi j hj) (hl _ rfl)⟩⟩
theorem Ints.ltrA {lo : Nat} {w w' : World} {a : Option Addr} {n c : Nat} {l : List Int} (h : Ints w a n c l) (q : LtrZ lo w w') (hl : ∀ b, a = some b → lo ≤ b.block) : Ints w' a n c l := ⟨h.lie.ltrA q hl, h.size, h.cap, h.rng⟩
def TwP (w : World) (l : List Pl) (n : Nat) (e : Ending) (w' : World) : Prop := ∃ a' c', e = .returned (.slice a' n c') ∧ (∀ w'', LtrZ w.heap.size w' w'' → Plans w'' a' n c' l) ∧ Kept w w' none
theorem Tp.start (w : World) (l : List Pl) : Tp w l w 0 (.slice none 0 0) := ⟨⟨fun _ => (none, 0), World.ownsRow_nil _ _ _ _, fun i hi => by omega, fun i hi => by omega⟩, Kept.refl _ _⟩
theorem Tp.done {w wr : World} {l : List Pl} {n : Nat} {v : Value} (h : Tp w l wr n v) (hl : l.length = n) (hr : ∀ p ∈ l, i64B p.cycle ∧ i64B p.offset) : TwP w l n (.returned v) wr := by
  obtain ⟨⟨r, ho, hi, hb⟩, hk⟩ := h
  obtain ⟨a', cap, rfl, h1, h2, h3⟩ := lie_own (by omega) ho
  exact ⟨a', cap, rfl, fun w'' q => ⟨⟨r, h1.ltrA q (fun b e => (h3 b e).1), fun i hin => (hi i hin).ltrA q (fun b e => (hb i hin b e).2.2)⟩, hl, h2, hr⟩, hk⟩
set_option maxRecDepth 100000 in
set_option maxHeartbeats 4000000 in
theorem twinPlans_any {w : World} {a : Option Addr} {n c : Nat} {l : List Pl} (hP : Plans w a n c l) (hn : n ≤ 40) (hs : ∀ i, i < n → (l.getD i q0).splits.length ≤ 40) : Calls Tryd.prog 11 #[.slice a n c] w fun e w' => TwP w l n e w' := by
  have HP := Hid.mk' hP
  have HS := Hid.mk' hs
  have HLN := Hid.mk' hP.size
  have HRG := Hid.mk' hP.rng
  clear hP hs
  go_enter Tryd.func11, Tryd.ntmps11
  go_wp2
  go_loopw [3, 4] (fun v i wr => ∃ k : Nat, k ≤ n ∧ i = .int .i64 k ∧ Hid (Tp w l wr k v)) (fun _ i _ => n - (intOf i).toNat)
  case atStart => exact ⟨0, Nat.zero_le _, rfl, Tp.start w l⟩
  case round =>
    obtain ⟨k, hk, rfl, HT⟩ := hrel
    by_cases hlt : k < n
    case neg =>
      have e : k = n := by omega
      subst e
      go_wp2
      go_ret
      exact HT.out.done HLN.out HRG.out
    obtain ⟨b, off, ar, cr, ea, p0, p1, p2, hI⟩ := (HP.out.kept HT.out.kept).at_ hlt
    subst ea
    have hm := HS.out k hlt
    have hbl := block_lt p0
    obtain ⟨i0, hi0, hz0, hz1, hz2⟩ := info_parts Tryd.infoIn
    obtain ⟨a', cap, W2, hrun, h1, h2, h3, h4⟩ := twin_run (w := wr.alloc (plB (l.getD k q0) ar cr)) (ty := 52) Tryd.uIns hi0 hz0 hz1 hz2 rfl (by omega) (by omega) (hI.kept (Kept.alloc wr _ _ _ _)).lie hI.cap (by omega) (fun i j => rfl)
    have hJ : Ints W2 a' (l.getD k q0).splits.length cap (l.getD k q0).splits := ⟨h1, rfl, h2, hI.rng⟩
    obtain ⟨v', W5, hrun2, hT5⟩ := HT.out.step (by omega) h4 hJ (fun b e => (h3 b e).1) (fun b e => (h3 b e).2)
    have HT5 := Hid.mk' hT5
    have HR1 := Hid.mk' hrun
    have HR2 := Hid.mk' hrun2
    have hk4 := h4
    have z2 : wr.heap.size + 1 ≤ W2.heap.size := by have := h4.size; simpa using this
    have q0' : W2.cell? ⟨wr.heap.size, 0, none⟩ = some (.int .i64 (l.getD k q0).cycle) := cell_kept0 (by simp [World.cell?_alloc_mark]) h4
    have q1' : W2.cell? ⟨wr.heap.size, 1, none⟩ = some (.int .i64 (l.getD k q0).offset) := cell_kept0 (by simp [World.cell?_alloc_mark]) h4
    have q2' : W2.cell? ⟨wr.heap.size, 2, none⟩ = some (.slice ar (l.getD k q0).splits.length cr) := cell_kept0 (by simp [World.cell?_alloc_mark]) h4
    have qf : W2.frozen? ⟨wr.heap.size, 2, none⟩ = false := (frozen_blockZ (h4.block _ (by simp) (by simp))).trans (by go_simp)
    clear hI h1 h2 h3 h4 hJ hT5 hrun hrun2 hk4
    generalize l.getD k q0 = p at *
    go_wp2_with (first
      | (have hgo := hdone; clear hgo; at_builtin; refine wpList_app (by rfl) _ _ _ (by rfl) (by rfl) (by rfl) HR2.out ?_)
      | (at_builtin; refine wpList_app (by rfl) _ _ _ (by rfl) (by rfl) (by rfl) HR1.out ?_; have hdone := trivial))
    go_roundw
    case rel => exact ⟨k + 1, by omega, by go_num, HT5⟩
    case measure => simp [intOf]; omega

end Go.Proofs.YtcjkghajeohfjaaDoor

/-
  A SITE IN NEW MEMORY, what lies where.
-/
namespace Go.Proofs.YtcjkghajeohfjaaDoor
open Go.RowKit Go.Lib Go.Deep
set_option linter.unusedVariables false
set_option linter.unusedSimpArgs false

theorem Tryd.infoGr : (Tryd.prog.info? 77).map (fun i => (i.zero, i.size, i.bytes)) = some (some (.agg #[.int .u8 0, .int .i64 0, .int .i64 0]), 3, 24) := by kernel_rfl
theorem Tryd.infoU3 : (Tryd.prog.info? 78).map (fun i => (i.zero, i.size, i.bytes)) = some (some (.int .u32 0), 1, 4) := by kernel_rfl
theorem Tryd.infoPh : (Tryd.prog.info? 81).map (fun i => (i.zero, i.size, i.bytes)) = some (some (.agg #[.int .u32 0, .int .i64 0, .int .i64 0, .int .i64 0, .bool false]), 5, 40) := by kernel_rfl
theorem Tryd.infoEy : (Tryd.prog.info? 83).map (fun i => (i.zero, i.size, i.bytes)) = some (some (.agg #[.int .i64 0, .int .i64 0, .int .i64 0, .int .i64 0]), 4, 32) := by kernel_rfl
theorem Tryd.infoSl : (Tryd.prog.info? 52).map (fun i => (i.zero, i.size, i.bytes)) = some (some (.slice none 0 0), 1, 24) := by kernel_rfl
theorem Tryd.uGrs : Tryd.prog.underlying 22 = some (.slice 77) := by kernel_rfl
theorem Tryd.uU3s : Tryd.prog.underlying 23 = some (.slice 78) := by kernel_rfl
theorem Tryd.uPhs : Tryd.prog.underlying 25 = some (.slice 81) := by kernel_rfl
theorem Tryd.uEys : Tryd.prog.underlying 26 = some (.slice 83) := by kernel_rfl
theorem Tryd.uSls : Tryd.prog.underlying 24 = some (.slice 52) := by kernel_rfl

abbrev cS (X : Sa) (S : St) : Array Value := #[.int .i64 S.id, .slice X.g S.groups.length X.gc, .slice X.a S.apart.length X.ac, .slice X.b S.between.length X.bc, .slice X.p S.phases.length X.pc, .slice X.e S.eyes.length X.ec, .int .i64 S.watch, .int .i64 S.feed, .int .i64 S.heal, .int .i64 S.low, .int .i64 S.high, .slice X.l S.plans.length X.lc]
/-- The three boxes: the site that came, the answer, the site in new memory. -/
structure Tst (w W : World) (s c : Array Value) : Prop where
  kept : Kept w W none
  sb : W.rowIs w.heap.size 29 12 (fSZ s)
  rb : W.rowIs (w.heap.size + 1) 29 12 (fSZ zSZ)
  tb : W.rowIs (w.heap.size + 1 + 1) 29 12 (fSZ c)
theorem Tst.call {w W W' : World} {s c : Array Value} (h : Tst w W s c) (k : Kept W W' none) : Tst w W' s c := ⟨h.kept.tr k, row_kept h.sb k (by simp), row_kept h.rb k (by simp), row_kept h.tb k (by simp)⟩
theorem Tst.drew {w W : World} {s c : Array Value} (h : Tst w W s c) : Tst w W.drew s c := h.call (Kept.drew _ _)
theorem kept_far {w W W' : World} {g : Nat} (h : Kept w W none) (k : Kept W W' (some g)) (hg : w.heap.size ≤ g) : Kept w W' none :=
  ⟨k.os.trans h.os, k.tape.trans h.tape, k.output.trans h.output, Nat.le_trans h.size k.size, fun b hb _ => (k.block b (Nat.lt_of_lt_of_le hb h.size) (fun e => by injection e with e; omega)).trans (h.block b hb (by simp))⟩
theorem kept_row {w W W' : World} {r : Option Nat} (h : Kept w W none) (k : Kept W W' r) (hr : ∀ g, r = some g → w.heap.size ≤ g) : Kept w W' none :=
  ⟨k.os.trans h.os, k.tape.trans h.tape, k.output.trans h.output, Nat.le_trans h.size k.size, fun b hb _ => (k.block b (Nat.lt_of_lt_of_le hb h.size) (fun e => by have := hr b e.symm; omega)).trans (h.block b hb (by simp))⟩
theorem Tst.grow {w W W' : World} {s c : Array Value} {r : Option Nat} (h : Tst w W s c) (k : Kept W W' r) (hr : ∀ g, r = some g → w.heap.size + 1 + 1 < g) : Tst w W' s c :=
  ⟨kept_row h.kept k (fun g e => by have := hr g e; omega), row_kept h.sb k (fun e => by have := hr _ e.symm; omega), row_kept h.rb k (fun e => by have := hr _ e.symm; omega), row_kept h.tb k (fun e => by have := hr _ e.symm; omega)⟩
theorem Tst.put {w W : World} {s c : Array Value} (h : Tst w W s c) (j : Nat) (v : Value) (hj : j < c.size) : Tst w (W.setCell ⟨w.heap.size + 1 + 1, j, none⟩ v) s (c.setIfInBounds j v) :=
  ⟨kept_newZ h.kept (by omega) j v, h.sb.setOther (by show _ ≠ w.heap.size + 1 + 1; omega) v, h.rb.setOther (by show _ ≠ w.heap.size + 1 + 1; omega) v, (h.tb.set j v).congr (fun i _ => fSZ_set c j v hj i)⟩
/-- A list in new memory. -/
structure Nl (w W : World) (a : Option Addr) (n k : Nat) (f : Nat → Nat → Value) : Prop where
  lie : Lie W a n k f
  new : ∀ b, a = some b → w.heap.size + 1 + 1 < b.block ∧ b.block < W.heap.size
theorem Nl.kept {w W W' : World} {r : Option Nat} {a : Option Addr} {n k : Nat} {f : Nat → Nat → Value} (h : Nl w W a n k f) (q : Kept W W' r) (hr : ∀ g, r = some g → g = w.heap.size + 1 + 1 ∨ ∀ b, a = some b → b.block ≠ g) : Nl w W' a n k f :=
  ⟨⟨fun hp => by
    obtain ⟨b, off, rfl, hb, hc⟩ := h.lie.at_ hp
    refine ⟨b, off, rfl, Nat.lt_of_lt_of_le hb q.size, fun i hi j hj => cell_keptR (hc i hi j hj) q (fun e => ?_)⟩
    rcases hr b e.symm with h1 | h1
    · have := (h.new _ rfl).1; simp only at this; omega
    · exact h1 _ rfl rfl⟩, fun b e => ⟨(h.new b e).1, Nat.lt_of_lt_of_le (h.new b e).2 q.size⟩⟩
theorem Nl.kept0 {w W W' : World} {a : Option Addr} {n k : Nat} {f : Nat → Nat → Value} (h : Nl w W a n k f) (q : Kept W W' none) : Nl w W' a n k f := h.kept q (fun g e => nomatch e)
theorem Nl.put {w W : World} {a : Option Addr} {n k : Nat} {f : Nat → Nat → Value} (h : Nl w W a n k f) (j : Nat) (v : Value) : Nl w (W.setCell ⟨w.heap.size + 1 + 1, j, none⟩ v) a n k f := h.kept (kept_setZ _ _ _ _) (fun g e => .inl (by injection e with e; exact e.symm))
theorem wp_app {o : Oper} {act : Act} {K : Act → World → Prop} {Q : Exit → Act → World → Prop} {w w' : World} {v u v' : Value} (s x : Operand) (t : TypeId) (ho : o.op = .call { callee := .builtin .append, args := #[s, x], argTypes := #[t, t] }) (hs : act.eval s = v) (hx : act.eval x = u)
    (hr : (Builtin.append_ #[t, t] o.type #[v, u]).run Tryd.prog w = .ok v' w') (h : K (act.put o.dst v') w') : o.wp Tryd.prog act w K Q := by
  unfold Oper.wp execOp
  simp only [ho, resolve, invoke, builtin, Sem.run_bind, Sem.run_pure, Result.andThen_ok, List.map_toArray, List.map_cons, List.map_nil, hs, hx, hr]
  exact h
def Rw (A : Act) (W : World) (e : Exit) (a : Act) (w : World) : Prop := match e with
  | .normal => a = A ∧ w = W
  | _ => False
theorem Rw.out {A : Act} {W w : World} {e : Exit} {a : Act} (h : Rw A W e a w) : e = .normal ∧ a = A ∧ w = W := by
  cases e with
  | normal => exact ⟨rfl, h.1, h.2⟩
  | _ => exact h.elim
/-- As many rows as were met lie in new memory. -/
structure Tg (w W : World) (l : List (List Int)) (k : Nat) (v : Value) : Prop where
  ex : ∃ r : Nat → Option Addr × Nat, W.ownsRow (w.heap.size + 1 + 1 + 1) 52 1 v k (cellsL k 1 (fun i _ => .slice (r i).1 (l.getD i []).length (r i).2)) ∧ (∀ i, i < k → Ints W (r i).1 (l.getD i []).length (r i).2 (l.getD i [])) ∧ (∀ i, i < k → ∀ b, (r i).1 = some b → v.ownBlock ≠ some b.block ∧ b.block < W.heap.size ∧ w.heap.size + 1 + 1 < b.block)
theorem Tg.start (w W : World) (l : List (List Int)) : Tg w W l 0 (.slice none 0 0) := ⟨⟨fun _ => (none, 0), World.ownsRow_nil _ _ _ _, fun i hi => by omega, fun i hi => by omega⟩⟩
theorem Tg.kept {w W W' : World} {l : List (List Int)} {k : Nat} {v : Value} {r : Option Nat} (h : Tg w W l k v) (q : Kept W W' r) (hr : ∀ g, r = some g → g = w.heap.size + 1 + 1) : Tg w W' l k v := by
  obtain ⟨rr, h1, h2, h3⟩ := h
  refine ⟨rr, own_keptR' h1 q (fun g hg e => ?_), fun i hi => (h2 i hi).keptS q (fun b e ec => ?_), fun i hi b e => ⟨(h3 i hi b e).1, Nat.lt_of_lt_of_le (h3 i hi b e).2.1 q.size, (h3 i hi b e).2.2⟩⟩
  · have := (own_lt h1 g hg).1
    have := hr g e.symm
    omega
  · have := (h3 i hi b e).2.2
    have := hr _ ec.symm
    omega
theorem Tg.kept0 {w W W' : World} {l : List (List Int)} {k : Nat} {v : Value} (h : Tg w W l k v) (q : Kept W W' none) : Tg w W' l k v := h.kept q (fun g e => nomatch e)
theorem Tg.put {w W : World} {l : List (List Int)} {k : Nat} {v : Value} (h : Tg w W l k v) (j : Nat) (u : Value) : Tg w (W.setCell ⟨w.heap.size + 1 + 1, j, none⟩ u) l k v := h.kept (kept_setZ _ _ _ _) (fun g e => by injection e with e; exact e.symm)
theorem Tg.done {w W W' : World} {l : List (List Int)} {n c : Nat} {a : Option Addr} (h : Tg w W l n (.slice a n c)) (hl : l.length = n) (q : LtrZ (w.heap.size + 1 + 1 + 1) W W') : Grid W' a n c l := by
  obtain ⟨r, ho, hi, hb⟩ := h
  obtain ⟨a', cap, e, h1, h2, h3⟩ := lie_own (by omega) ho
  injection e with e1 e2 e3
  subst e1 e3
  exact ⟨⟨r, h1.ltrA q (fun b e => (h3 b e).1), fun i hin => (hi i hin).ltrA q (fun b e => by have := (hb i hin b e).2.2; omega)⟩, hl, h2⟩
theorem Nl.ltr {w W W' : World} {a : Option Addr} {n k : Nat} {f : Nat → Nat → Value} (h : Nl w W a n k f) (q : LtrZ (w.heap.size + 1 + 1 + 1) W W') : Lie W' a n k f := h.lie.ltrA q (fun b e => by have := (h.new b e).1; omega)
theorem Tg.shape {w W : World} {l : List (List Int)} {n : Nat} {v : Value} (h : Tg w W l n v) : ∃ a c, v = .slice a n c := by
  obtain ⟨r, ho, hi, _⟩ := h
  obtain ⟨a', cap, rfl, h1, h2, _⟩ := lie_own (by omega) ho
  exact ⟨a', cap, rfl⟩
abbrev slB (a : Option Addr) (m c : Nat) : Obj := .cells #[.slice a m c] 52
theorem Tg.step {w W W2 : World} {l : List (List Int)} {k : Nat} {v : Value} {a' : Option Addr} {cap : Nat} (h : Tg w W l k v) (hk : k ≤ 40) (hw : w.heap.size + 1 + 1 < W.heap.size)
    (h2 : Kept W W2 none) (hI : Ints W2 a' (l.getD k []).length cap (l.getD k [])) (hf : ∀ b, a' = some b → W.heap.size ≤ b.block ∧ b.block < W2.heap.size) :
    ∃ v' W5, (Builtin.append_ #[24, 24] 24 #[v, .slice (some ⟨W2.heap.size, 0, none⟩) 1 1]).run Tryd.prog (W2.alloc (slB a' (l.getD k []).length cap)) = .ok v' W5 ∧ Tg w W5 l (k + 1) v' ∧ Kept (W2.alloc (slB a' (l.getD k []).length cap)) W5 v.ownBlock ∧ (v'.ownBlock = v.ownBlock ∨ v'.ownBlock = some (W2.heap.size + 1)) := by
  obtain ⟨r, ho, hi, hb⟩ := h.ex
  obtain ⟨i0, hi0, hz0, hz1, hz2⟩ := info_parts Tryd.infoSl
  generalize hp : l.getD k [] = p at *
  have k4 : Kept W2 (W2.alloc (slB a' p.length cap)) none := Kept.alloc _ _ _ _ _
  have z4 : (W2.alloc (slB a' p.length cap)).heap.size = W2.heap.size + 1 := by simp
  have s2 := h2.size
  have q0' : ∀ j, j < 1 → (W2.alloc (slB a' p.length cap)).cell? ⟨W2.heap.size, 0 + j, none⟩ = some (.slice a' p.length cap) := fun j hj => by
    have : j = 0 := by omega
    subst this
    exact alloc_at2 _ _ _ rfl rfl
  generalize (W2.alloc (slB a' p.length cap)) = W4 at *
  have hol := own_lt ho
  have own4 := own_keptR' (own_keptR' ho h2 (fun g _ => by simp)) k4 (fun g _ => by simp)
  obtain ⟨v', W5, hr, g1, g2, g3⟩ := grow_run (t := 24) (ty := 24) (c := 1) Tryd.uSls hi0 hz0 hz1 hz2 rfl (by omega) (by omega) own4 q0' (fun j => rfl) (by omega) (by omega)
  have vfr : ∀ g, v'.ownBlock = some g → v.ownBlock = some g ∨ g = W4.heap.size := fun g hg => by
    rcases g3 with e | e
    · exact .inl (e.symm.trans hg)
    · rw [e] at hg; injection hg with hg; exact .inr hg.symm
  refine ⟨v', W5, hr, ⟨fun i => if i = k then (a', cap) else r i, ?_, fun i hik => ?_, fun i hik b e => ?_⟩, g2, by rw [← z4]; exact g3⟩
  · have he : cellsL (k + 1) 1 (fun i j => if i = k then .slice a' p.length cap else .slice (r i).1 (l.getD i []).length (r i).2) = cellsL (k + 1) 1 (fun i _ => .slice ((if i = k then (a', cap) else r i) : Option Addr × Nat).1 (l.getD i []).length ((if i = k then (a', cap) else r i) : Option Addr × Nat).2) := by
      unfold cellsL
      refine List.map_congr_left fun q _ => ?_
      show (if q / 1 = k then Value.slice a' p.length cap else .slice (r (q / 1)).1 (l.getD (q / 1) []).length (r (q / 1)).2) = .slice ((if q / 1 = k then (a', cap) else r (q / 1)) : Option Addr × Nat).1 (l.getD (q / 1) []).length ((if q / 1 = k then (a', cap) else r (q / 1)) : Option Addr × Nat).2
      by_cases e : q / 1 = k
      · rw [if_pos e, if_pos e, e, hp]
      · rw [if_neg e, if_neg e]
    rw [← he]
    exact g1
  · show Ints W5 ((if i = k then (a', cap) else r i) : Option Addr × Nat).1 (l.getD i []).length ((if i = k then (a', cap) else r i) : Option Addr × Nat).2 (l.getD i [])
    by_cases e : i = k
    · rw [if_pos e, e, hp]
      refine (hI.kept k4).keptS g2 (fun b eb ec => ?_)
      have := (hf b eb).1
      have h7 := (hol _ ec.symm).2
      omega
    · rw [if_neg e]
      refine (((hi i (by omega)).kept h2).kept k4).keptS g2 (fun b eb ec => ?_)
      exact (hb i (by omega) b eb).1 ec.symm
  · have s5 := g2.size
    change ((if i = k then (a', cap) else r i) : Option Addr × Nat).1 = some b at e
    by_cases ek : i = k
    · rw [if_pos ek] at e
      have h6 := hf b e
      refine ⟨fun ec => ?_, by omega, by omega⟩
      rcases vfr _ ec with h7 | h7
      · have := (hol _ h7).2
        omega
      · omega
    · rw [if_neg ek] at e
      have h6 := hb i (by omega) b e
      refine ⟨fun ec => ?_, by omega, h6.2.2⟩
      rcases vfr _ ec with h7 | h7
      · exact h6.1 h7
      · omega

end Go.Proofs.YtcjkghajeohfjaaDoor

