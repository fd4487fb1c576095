/-
  A RANGE OVER A FUNCTION WHOSE ITERATOR WRITES CELLS OF ITS OWN: what the loop's body knows lies below the world in which the loop began, so the iterator's own cells do not touch it; what the iterator knows of cells the body leaves as they are, but for named blocks.
-/
import Derived.Test.YtbgnllpgogbmfaaPulD
import Derived.RangeFuncNested
import Derived.RangeFuncBound
import Derived.RangeFuncCalls
import Derived.RangeFuncLeaves
import Derived.Shelf.Abstract
import Derived.Shelf.RegionOpen
import Derived.OwnWalkIn
import Derived.TacticsInMore
import Derived.LoopNIn
import Derived.LoopIn
namespace Go.Proofs.Ytbgnllpgogbmfaa
open Go.RowKit Go.Lib Go.Deep Go.Shelf
set_option linter.unusedVariables false
set_option linter.unusedSimpArgs false

/-- Cells are as they were, but for the blocks T. -/
structure KpC (T : Nat → Prop) (A B : World) : Prop where
  size : A.heap.size ≤ B.heap.size
  same : ∀ k o, A.heap[k]? = some o → o.isCells = true → ¬ T k → B.heap[k]? = some o
theorem KpC.refl (T : Nat → Prop) (A : World) : KpC T A A := ⟨Nat.le_refl _, fun _ _ h _ _ => h⟩
theorem KpC.tr {T : Nat → Prop} {A B C : World} (h : KpC T A B) (k : KpC T B C) : KpC T A C := ⟨Nat.le_trans h.size k.size, fun i o hi ho ht => k.same i o (h.same i o hi ho ht) ho ht⟩
theorem KpC.kept {T : Nat → Prop} {A B : World} {r : Option Nat} (h : Kept A B r) (hr : ∀ i, r = some i → T i) : KpC T A B := ⟨h.size, fun i o hi ho ht => (h.block i (Array.getElem?_eq_some_iff.1 hi).1 (fun e => ht (hr i e.symm))).trans hi⟩
theorem KpC.set {T : Nat → Prop} (A : World) {p : Addr} (v : Value) (hp : T p.block) : KpC T A (A.setCell p v) := ⟨by simp [World.setCell], fun i o hi ho ht => (Below.heap_setCell _ _ _ _ (fun e => ht (by rw [e]; exact hp))).trans hi⟩
theorem KpC.put {T : Nat → Prop} (W : World) (l : Nat) (o o' : Obj) (hl : W.heap[l]? = some o) (ho : o.isCells = false) : KpC T W (W.putObj l o') :=
  ⟨(grownBy_putObj' W l o').size, fun k x hk hx _ => ((grownBy_putObj' W l o').block k (Array.getElem?_eq_some_iff.1 hk).1 (fun e => by injection e with e; subst e; rw [hk] at hl; injection hl with hl; rw [hl, ho] at hx; cases hx)).trans hk⟩
theorem cells_of {w : World} {b i : Nat} {v : Value} (h : w.cell? ⟨b, i, none⟩ = some v) : ∃ o, w.heap[b]? = some o ∧ o.isCells = true := by
  unfold World.cell? at h
  dsimp only at h
  split at h
  · rename_i e; exact ⟨_, e, rfl⟩
  · cases h
theorem KpC.cell {T : Nat → Prop} {A B : World} (h : KpC T A B) {b i : Nat} {v : Value} (hc : A.cell? ⟨b, i, none⟩ = some v) (ht : ¬ T b) : B.cell? ⟨b, i, none⟩ = some v := by
  obtain ⟨o, h1, h2⟩ := cells_of hc
  rw [World.cell?_of_block (w := A) (a := ⟨b, i, none⟩) ((h.same b o h1 h2 ht).trans h1.symm)]
  exact hc
theorem KpC.bo {T : Nat → Prop} {A B : World} (h : KpC T A B) {a : Option Addr} {n : Nat} {L : List Bool} (hb : Bo A a n L) (ht : ∀ x, a = some x → 0 < n → ¬ T x.block) : Bo B a n L := by
  obtain ⟨h1, h2, h3⟩ := hb
  refine ⟨h1, h2, fun hp => ?_⟩
  obtain ⟨b, off, rfl, hb, hc⟩ := h3 hp
  exact ⟨b, off, rfl, Nat.lt_of_lt_of_le hb h.size, fun i hi => h.cell (hc i hi) (ht ⟨b, off, none⟩ rfl hp)⟩
theorem KpC.box {T : Nat → Prop} {A B : World} (h : KpC T A B) {b : Nat} {v0 v1 v2 : Value} (hb : Box A b v0 v1 v2) (ht : ¬ T b) : Box B b v0 v1 v2 := by
  obtain ⟨o, h1, h2⟩ := cells_of hb.c0
  have e := (h.same b o h1 h2 ht).trans h1.symm
  exact ⟨h.cell hb.c0 ht, h.cell hb.c1 ht, h.cell hb.c2 ht, (World.frozen?_of_block (w := A) (a := ⟨b, 0, none⟩) e).trans hb.f0, (World.frozen?_of_block (w := A) (a := ⟨b, 1, none⟩) e).trans hb.f1, (World.frozen?_of_block (w := A) (a := ⟨b, 2, none⟩) e).trans hb.f2, Nat.lt_of_lt_of_le hb.lt h.size⟩

/-- What is known lies below B. -/
def Lies {β : Type} (B : Nat) (J : β → World → Prop) : Prop := ∀ s X Y, J s X → Below B X Y → J s Y
theorem Lies.put {β : Type} {B : Nat} {J : β → World → Prop} (h : Lies B J) {s : β} {W : World} {l : Nat} (o : Obj) (hs : J s W) (hl : B ≤ l) : J s (W.putObj l o) :=
  h s W _ hs ⟨rfl, rfl, rfl, (grownBy_putObj' W l o).size, fun k hk => by
    by_cases hw : k < W.heap.size
    · exact (grownBy_putObj' W l o).block k hw (by simp; omega)
    · have e : (W.putObj l o).heap.size = W.heap.size := by simp [World.putObj]
      rw [Array.getElem?_eq_none (by omega), Array.getElem?_eq_none (by omega)]⟩
/-- The contract of an iterator that writes cells of its own; its rounds all go on. -/
def SeqC {α : Type} (F : Fence) (n : Nat) (P : Program) (g : Nat) (lb : Array Value) (encs : α → Array Value) (Kp : World → World → Prop) (S : List α → Prop) (N : Nat) (w : World) : Prop :=
  ∀ (l : Nat) (J : List α → World → Prop) (W : World), Below w.heap.size w W → Lies W.heap.size J →
    (∀ pre x W1, J pre W1 → pre.length < N → YieldAt F (n - 1) P l (encs x) W1 fun e W' => e = .returned (.bool true) ∧ J (pre ++ [x]) W' ∧ Kp W1 W') →
    J [] W → CallsIn F n P g (#[.func (.yield l) #[] #[]] ++ lb) W fun e W' => (∃ v, e = .returned v) ∧ ∃ xs, S xs ∧ J xs W'
def roundP {α : Type} (B : Nat) (Kp : World → World → Prop) (I : List α → World → Prop) (xs : List α) (W : World) : Exit → Act → World → Prop
  | .normal, _, W' => KeepsFrom B W W' ∧ Kp W W' ∧ I xs W'
  | _, _, _ => False
theorem range_cells {F : Fence} {n : Nat} {P : Program} {α : Type} {g : Operand} {ps : Array Tmp} {assign body : Code} {Q : Exit → Act → World → Prop} {a : Act} {w : World}
    (hro : F.round = none) (h1 : 1 ≤ n) {gf : Nat} {lb : Array Value} (hg : a.eval g = .func (.func gf) #[] lb) (hFg : F.fn gf) (eg : ∀ args w, (callFunc gf args).run P w = .ok (.enter gf args) w)
    {encs : α → Array Value} {Kp : World → World → Prop} {S : List α → Prop} {N : Nat} (hseq : SeqC F (n - 1) P gf lb encs Kp S N w)
    (hKt : ∀ {A B C : World}, Kp A B → Kp B C → Kp A C) (hKb : ∀ (W : World) (l : Nat) (o o' : Obj), W.heap[l]? = some o → o.isCells = false → Kp W (W.putObj l o')) (hps : ∀ x, (encs x).size = ps.size)
    (I : List α → World → Prop) (hI : Lies w.heap.size I) (h0 : I [] w) (Ax : α → Act → World → Prop) (hAx : ∀ x a', OwnFrom w.heap.size (fun (_ : Unit) W => Ax x a' W))
    (hassign : ∀ (l : Nat) (pre : List α) (x : α) (W : World) (K : Act → World → Prop), I pre W → w.heap.size ≤ W.heap.size → (∀ a' W', KeepsFrom w.heap.size W W' → Kp W W' → I pre W' → Ax x a' W' → K a' W') →
      assign.wpIn (F.inRound l) (n - 1 - 1) P (Exit.then K (fun _ _ _ => False)) { tmps := (ps.zip (encs x)).foldl (fun t (p, v) => t.setIfInBounds p v) a.tmps, defers := [] } W)
    (hbody : ∀ (l : Nat) (pre : List α) (x : α) (a' : Act) (W : World), I pre W → Ax x a' W → pre.length < N → body.wpIn (F.inRound l) (n - 1 - 1) P (roundP w.heap.size Kp I (pre ++ [x]) W) a' W)
    (hdone : ∀ (D : Nat) (xs : List α) (W : World), w.heap.size ≤ D → S xs → I xs W → W.heap[D]? = some (.deferred (some [])) → Q .normal { a with defers := { target := .collected D, args := #[] } :: a.defers } W) :
    (Code.rangeFunc g ps assign body).wpIn F n P Q a w := by
  refine wpIn_rangeFunc fun fn hfn => ?_
  rw [hro]
  -- the loop's record, ready and busy; the world in which the iterator is called
  obtain ⟨R, hR⟩ : ∃ R : LoopState → Loop, R = fun st => { state := st, pending := none, fn, tmps := a.tmps, params := ps, assign, body, defers := w.heap.size } := ⟨_, rfl⟩
  obtain ⟨V, hV⟩ : ∃ V, (w.alloc (.deferred (some []))).alloc (.loop (R .ready)) = V := ⟨_, rfl⟩
  have vs : V.heap.size = w.heap.size + 2 := by rw [← hV]; simp
  have vl : V.heap[w.heap.size + 1]? = some (.loop (R .ready)) := by
    have := World.alloc_heap_new (w.alloc (.deferred (some []))) (.loop (R .ready))
    rw [World.size_alloc, hV] at this
    exact this
  have vd : V.heap[w.heap.size]? = some (.deferred (some [])) := by
    rw [← hV]
    exact (Below.heap_alloc _ _ _ (by simp)).trans (World.alloc_heap_new w _)
  have vb : Below w.heap.size w V := by rw [← hV]; exact ((Below.refl _ w).alloc (Nat.le_refl _) _).alloc (by simp) _
  refine ⟨w.heap.size + 1, [{ target := .collected w.heap.size, args := #[] }], V, { target := .fn (.func gf) lb, args := #[.func (.yield (w.heap.size + 1)) #[] #[]] }, V, gf, #[.func (.yield (w.heap.size + 1)) #[] #[]] ++ lb, V, ?_, ?_, ?_, ?_, fun _ => h1, ?_⟩
  · rw [← hV, hR]; exact run_enterLoop_outer _ _ _ _ _
  · simp only [resolve, hg]
    simp [go_sem]
  · intro f' hf'
    simp [Target.leads] at hf'
    subst hf'
    exact hFg
  · simp [invoke, go_sem, eg]
  have hJ : Lies V.heap.size (fun (pre : List α) W => I pre W ∧ W.heap[w.heap.size + 1]? = some (.loop (R .ready)) ∧ W.heap[w.heap.size]? = some (.deferred (some []))) := fun s X Y hs hb =>
    ⟨hI s X Y hs.1 (hb.mono (by omega)), (hb.block _ (by omega)).trans hs.2.1, (hb.block _ (by omega)).trans hs.2.2⟩
  refine (hseq (w.heap.size + 1) _ V vb hJ ?_ ⟨hI _ _ _ h0 vb, vl, vd⟩).mono ?_
  · rintro pre x W ⟨hi, hl, hd⟩ hlen
    have hy := run_yield (P := P) (args := encs x) hl (by rw [hR]; exact hps x)
    rw [hR] at hy
    have hws : w.heap.size ≤ W.heap.size := by have := (Array.getElem?_eq_some_iff.1 hl).1; omega
    refine ⟨fn, _, assign, body, hy, roundIn_of_wpIn hfn (hassign _ pre x W _ hi hws fun a' X hkf hkp hix hax => ?_)⟩
    clear hy
    have xl := hkf.same _ _ (by omega) hl rfl
    have xd := hkf.same _ _ (Nat.le_refl _) hd rfl
    refine ⟨_, run_beginRound xl (by rw [hR]), ?_⟩
    have yl : (X.putObj (w.heap.size + 1) (.loop { R .ready with state := .busy })).heap[w.heap.size + 1]? = some (.loop { R .ready with state := .busy }) := World.putObj_heap_same (Array.getElem?_eq_some_iff.1 xl).1
    have yd : (X.putObj (w.heap.size + 1) (.loop { R .ready with state := .busy })).heap[w.heap.size]? = some (.deferred (some [])) := (World.putObj_heap_other (by omega)).trans xd
    refine wpIn_mono (hbody _ pre x a' _ (hI.put _ hix (by omega)) ((hAx x a').putObj (s := ()) _ hax (by omega) xl rfl) hlen) fun e a3 Z hp => ?_
    cases e with
    | normal =>
      obtain ⟨zk, zp, zi⟩ := hp
      have zl := zk.same _ _ (by omega) yl rfl
      have zd := zk.same _ _ (Nat.le_refl _) yd rfl
      have hr := run_endRound (P := P) none zl
      rw [hR] at hr zl
      refine ⟨_, _, hr, rfl, ⟨hI.put _ zi (by omega), ?_, (World.putObj_heap_other (by omega)).trans zd⟩, hKt hkp (hKt (hKt (hKb _ _ _ _ xl rfl) zp) (hKb _ _ _ _ zl rfl))⟩
      rw [hR]
      exact World.putObj_heap_same (Array.getElem?_eq_some_iff.1 zl).1
    | _ => exact hp.elim
  · rintro e Z ⟨⟨v, rfl⟩, xs, hS, hi, hl, hd⟩
    have hr := run_endLoop (P := P) hl (by rw [hR]; simp)
    rw [hR] at hr
    exact ⟨none, _, hr, hdone _ xs _ (Nat.le_refl _) hS (hI.put _ hi (by omega)) ((World.putObj_heap_other (by omega)).trans hd)⟩

end Go.Proofs.Ytbgnllpgogbmfaa
