/-
  Texts joined: some of those that the proofs of this seat stand on.
-/
import Derived.Test.YtlabjamkaebnjaaMathsJ
import Derived.Test.YtlabjamkaebnjaaSto3J
import Derived.Test.YtlabjamkaebnjaaRefReadJ
import Derived.Test.YtlabjamkaebnjaaSFitsJ
import Derived.Laws.MakeOwn
import Derived.Test.YtlabjamkaebnjaaSStMJ
import Derived.Deep.RegionHeld
/-
  Of the text PlG: what this stage needs (culled by a program).
-/
namespace Go.Proofs.Ytlabjamkaebnjaa
open Go.RowKit Go.Lib Go.Deep
set_option linter.unusedVariables false
set_option linter.unusedSimpArgs false

/-- Nothing between two places has changed. -/
structure Stay (base : Nat) (w w' : World) : Prop where
  size : w.heap.size ≤ w'.heap.size
  block : ∀ i, base ≤ i → i < w.heap.size → w'.heap[i]? = w.heap[i]?
theorem Stay.refl (base : Nat) (w : World) : Stay base w w := ⟨Nat.le_refl _, fun _ _ _ => rfl⟩
/-- One more step: a row below the base, or behind the first world. -/
theorem Stay.step {base : Nat} {a w w' : World} {r : Option Nat} (h : Stay base a w) (k : Kept w w' r) (hr : ∀ g, r = some g → g < base ∨ a.heap.size ≤ g) : Stay base a w' :=
  ⟨Nat.le_trans h.size k.size, fun i hb hi => (k.block i (Nat.lt_of_lt_of_le hi h.size) (fun e => by rcases hr i e.symm with q | q <;> omega)).trans (h.block i hb hi)⟩
theorem own_stay {w w' : World} {base n k : Nat} {e : TypeId} {v : Value} {xs : List Value} (h : w.ownsRow base e k v n xs) (q : Stay base w w') : w'.ownsRow base e k v n xs := by
  refine ⟨h.1, ?_⟩
  rcases id h.2 with ⟨rfl, h0⟩ | ⟨b, cap, cur, rfl, hb, hh, h4⟩
  · exact .inl ⟨rfl, h0⟩
  · exact .inr ⟨b, cap, cur, rfl, hb, (q.block b hb (Array.getElem?_eq_some_iff.1 hh).1).trans hh, h4⟩
theorem Ints.stay {w w' : World} {base : Nat} {a : Option Addr} {n c : Nat} {l : List Int} (h : Ints w a n c l) (q : Stay base w w') (hb : ∀ b, a = some b → base ≤ b.block) : Ints w' a n c l :=
  ⟨⟨fun hp => by
    obtain ⟨b, off, rfl, hl, hc⟩ := h.lie.at_ hp
    exact ⟨b, off, rfl, Nat.lt_of_lt_of_le hl q.size, fun i hi j hj => (World.cell?_of_block (w := w) (a := ⟨b, off + i * 1 + j, none⟩) (q.block b (hb _ rfl) hl)).trans (hc i hi j hj)⟩⟩, h.size, h.cap, h.rng⟩
/-- A list of plans of one's own. -/
structure PlS (wr : World) (base : Nat) (v : Value) (l : List Pl) : Prop where
  ex : ∃ r : Nat → Option Addr × Nat, wr.ownsRow base 63 3 v l.length (cellsL l.length 3 (fun i j => plV (l.getD i q0) (r i).1 (r i).2 j)) ∧ (∀ i, i < l.length → Ints wr (r i).1 (l.getD i q0).splits.length (r i).2 (l.getD i q0).splits) ∧ (∀ i, i < l.length → ∀ b, (r i).1 = some b → v.ownBlock ≠ some b.block ∧ b.block < wr.heap.size ∧ base ≤ b.block)
theorem PlS.nil (w : World) (base : Nat) : PlS w base (.slice none 0 0) [] := ⟨⟨fun _ => (none, 0), World.ownsRow_nil _ _ _ _, fun i hi => by simp at hi, fun i hi => by simp at hi⟩⟩
theorem PlS.stay {w w' : World} {base : Nat} {v : Value} {l : List Pl} (h : PlS w base v l) (q : Stay base w w') : PlS w' base v l := by
  obtain ⟨r, h1, h2, h3⟩ := h.ex
  exact ⟨⟨r, own_stay h1 q, fun i hi => (h2 i hi).stay q (fun b e => (h3 i hi b e).2.2), fun i hi b e => ⟨(h3 i hi b e).1, Nat.lt_of_lt_of_le (h3 i hi b e).2.1 q.size, (h3 i hi b e).2.2⟩⟩⟩
theorem PlS.lt {w : World} {base : Nat} {v : Value} {l : List Pl} (h : PlS w base v l) : ∀ g, v.ownBlock = some g → base ≤ g ∧ g < w.heap.size := by
  obtain ⟨r, h1, _, _⟩ := h.ex
  exact own_lt h1
theorem PlS.shape {w : World} {base : Nat} {v : Value} {l : List Pl} (h : PlS w base v l) : ∃ a c, v = .slice a l.length c := by
  obtain ⟨r, h1, _, _⟩ := h.ex
  obtain ⟨a, c, e, _⟩ := lie_own (by omega) h1
  exact ⟨a, c, e⟩
theorem PlS.plans {w : World} {base : Nat} {v : Value} {l : List Pl} (h : PlS w base v l) (hr : ∀ p ∈ l, i64B p.cycle ∧ i64B p.offset) : ∃ a c, v = .slice a l.length c ∧ Plans w a l.length c l := by
  obtain ⟨r, h1, h2, _⟩ := h.ex
  obtain ⟨a, c, e, hl, hc, _⟩ := lie_own (by omega) h1
  exact ⟨a, c, e, ⟨⟨r, hl, h2⟩, rfl, hc, hr⟩⟩
theorem getD_snocP (l : List Pl) (p : Pl) (i : Nat) : (l ++ [p]).getD i q0 = if i = l.length then p else l.getD i q0 := by
  by_cases h : i = l.length
  · subst h; simp
  · rw [if_neg h]
    by_cases h2 : i < l.length
    · simp [h2, List.getElem?_append_left]
    · rw [List.getD_eq_getElem?_getD, List.getD_eq_getElem?_getD, List.getElem?_eq_none (by simp; omega), List.getElem?_eq_none (by omega)]
theorem PlS.grow {W : World} {base : Nat} {v : Value} {l : List Pl} {p : Pl} {a' : Option Addr} {cap : Nat} (h : PlS W base v l) (hI : Ints W a' p.splits.length cap p.splits) (hb : ∀ b, a' = some b → v.ownBlock ≠ some b.block ∧ b.block < W.heap.size ∧ base ≤ b.block) (hk : l.length ≤ 40) (hbase : base ≤ W.heap.size) :
    ∃ v' W5, (Builtin.append_ #[25, 25] 25 #[v, .slice (some ⟨W.heap.size, 0, none⟩) 1 1]).run Try.prog (W.alloc (plB p a' cap)) = .ok v' W5 ∧ PlS W5 base v' (l ++ [p]) ∧ Kept W W5 v.ownBlock := by
  obtain ⟨r, ho, hi, hbb⟩ := h.ex
  obtain ⟨i0, hi0, hz0, hz1, hz2⟩ := info_parts Try.infoPl
  have k4 : Kept W (W.alloc (plB p a' cap)) none := Kept.alloc _ _ _ _ _
  have z4 : (W.alloc (plB p a' cap)).heap.size = W.heap.size + 1 := by simp
  have q0' : ∀ j, j < 3 → (W.alloc (plB p a' cap)).cell? ⟨W.heap.size, 0 + j, none⟩ = some (plV p a' cap j) := fun j hj => by
    have : j = 0 ∨ j = 1 ∨ j = 2 := by omega
    rw [Nat.zero_add]
    refine alloc_at2 _ _ _ rfl ?_
    rcases this with rfl | rfl | rfl <;> rfl
  generalize W.alloc (plB p a' cap) = W4 at *
  have own4 := own_keptR' ho k4 (fun g _ => by simp)
  obtain ⟨v', W5, hr, g1, g2, g3⟩ := grow_run (t := 25) (ty := 25) (c := 1) Try.uPls hi0 hz0 hz1 hz2 rfl (by omega) (by omega) own4 q0' (fun j => by unfold plV; split <;> rfl) (by omega) (by omega)
  have g2' : Kept W4 W5 v.ownBlock := g2
  have hk45 : Kept W W5 v.ownBlock := ⟨g2'.os.trans k4.os, g2'.tape.trans k4.tape, g2'.output.trans k4.output, Nat.le_trans k4.size g2'.size, fun i hi hne => (g2'.block i (Nat.lt_of_lt_of_le hi k4.size) hne).trans (k4.block i hi (by simp))⟩
  have vfr : ∀ g, v'.ownBlock = some g → v.ownBlock = some g ∨ W.heap.size ≤ g := fun g hg => by
    rcases g3 with e | e
    · exact .inl (e.symm.trans hg)
    · rw [e] at hg; injection hg with hg; exact .inr (by omega)
  refine ⟨v', W5, hr, ⟨⟨fun i => if i = l.length then (a', cap) else r i, ?_, fun i hik => ?_, fun i hik b e => ?_⟩⟩, hk45⟩
  · rw [List.length_append]
    have he : cellsL (l.length + 1) 3 (fun i j => if i = l.length then plV p a' cap j else plV (l.getD i q0) (r i).1 (r i).2 j) = cellsL (l.length + [p].length) 3 (fun i j => plV ((l ++ [p]).getD i q0) ((if i = l.length then (a', cap) else r i) : Option Addr × Nat).1 ((if i = l.length then (a', cap) else r i) : Option Addr × Nat).2 j) := by
      show cellsL (l.length + 1) 3 _ = cellsL (l.length + 1) 3 _
      unfold cellsL
      refine List.map_congr_left fun q _ => ?_
      show (if q / 3 = l.length then plV p a' cap (q % 3) else plV (l.getD (q / 3) q0) (r (q / 3)).1 (r (q / 3)).2 (q % 3)) = plV ((l ++ [p]).getD (q / 3) q0) ((if q / 3 = l.length then (a', cap) else r (q / 3)) : Option Addr × Nat).1 ((if q / 3 = l.length then (a', cap) else r (q / 3)) : Option Addr × Nat).2 (q % 3)
      rw [getD_snocP]
      by_cases e : q / 3 = l.length
      · rw [if_pos e, if_pos e, if_pos e]
      · rw [if_neg e, if_neg e, if_neg e]
    rw [← he]
    exact g1
  · rw [getD_snocP]
    by_cases e : i = l.length
    · rw [if_pos e]
      simp only [if_pos e]
      exact hI.keptS hk45 (fun b eb ec => (hb b eb).1 ec.symm)
    · rw [if_neg e]
      simp only [if_neg e]
      have hil : i < l.length := by rw [List.length_append] at hik; simp at hik; omega
      exact (hi i hil).keptS hk45 (fun b eb ec => (hbb i hil b eb).1 ec.symm)
  · have hs5 := hk45.size
    by_cases ei : i = l.length
    · simp only [if_pos ei] at e
      obtain ⟨p1, p2, p3⟩ := hb b e
      exact ⟨fun ec => by rcases vfr _ ec with q | q; exact p1 q; omega, by omega, p3⟩
    · simp only [if_neg ei] at e
      have hil : i < l.length := by rw [List.length_append] at hik; simp at hik; omega
      obtain ⟨p1, p2, p3⟩ := hbb i hil b e
      exact ⟨fun ec => by rcases vfr _ ec with q | q; exact p1 q; omega, by omega, p3⟩
/-- A number is read as it was written. -/
theorem dn_fwd {most n : Nat} (hm : most < 18446744073709551616) (hn : n ≤ most) (T : List Nat) : dnM most (sml n ++ T, false) = (n, (T, false)) := by
  have h := (upC hm).fwd n T hn
  unfold upM at h
  unfold dnM
  split at h
  · rename_i hc
    simp only [Bool.not_false, Bool.true_and] at hc
    rw [if_pos hc]
    exact h
  · injection h with h1 h2
    injection h2 with h3 h4
    cases h4
theorem kept_two {a w w' : World} {r r' : Option Nat} (h : Kept a w r) (k : Kept w w' r') (hr : ∀ g, r' = some g → r = some g ∨ a.heap.size ≤ g) : Kept a w' r :=
  ⟨k.os.trans h.os, k.tape.trans h.tape, k.output.trans h.output, Nat.le_trans h.size k.size, fun i hi hne => (k.block i (Nat.lt_of_lt_of_le hi h.size) (fun e => by
    rcases hr i e.symm with q | q
    · exact hne q.symm
    · omega)).trans (h.block i hi hne)⟩

end Go.Proofs.Ytlabjamkaebnjaa

/-
  Of the text OwnI: what this stage needs (culled by a program).
-/
namespace Go.Proofs.Ytlabjamkaebnjaa
open Go.RowKit Go.Lib Go.Deep
set_option linter.unusedVariables false
set_option linter.unusedSimpArgs false

/-- A list of numbers in memory that lies behind a base. -/
def OwI (w : World) (base : Nat) (v : Value) (l : List Int) : Prop := w.ownsRow base 3 1 v l.length (cellsL l.length 1 (fun i _ => .int .i64 (l.getD i 0)))
theorem OwI.nil (w : World) (base : Nat) : OwI w base (.slice none 0 0) [] := World.ownsRow_nil _ _ _ _
theorem OwI.keptR {w w' : World} {r : Option Nat} {base : Nat} {v : Value} {l : List Int} (h : OwI w base v l) (q : Kept w w' r) (hr : ∀ g, v.ownBlock = some g → some g ≠ r) : OwI w' base v l := own_keptR' h q hr
theorem OwI.kept {w w' : World} {base : Nat} {v : Value} {l : List Int} (h : OwI w base v l) (q : Kept w w' none) : OwI w' base v l := h.keptR q (fun g _ => by simp)
theorem OwI.ints {w : World} {base : Nat} {v : Value} {l : List Int} (h : OwI w base v l) (hr : ∀ x ∈ l, -9223372036854775808 ≤ x ∧ x ≤ 9223372036854775807) : ∃ a c, v = .slice a l.length c ∧ Ints w a l.length c l ∧ ∀ b, a = some b → base ≤ b.block ∧ b.block < w.heap.size := by
  obtain ⟨a, cap, e, h1, h2, h3⟩ := lie_own (by omega) h
  exact ⟨a, cap, e, ⟨h1, rfl, h2, hr⟩, h3⟩
theorem getD_snoc (l : List Int) (x : Int) (i : Nat) : (l ++ [x]).getD i 0 = if i = l.length then x else l.getD i 0 := by
  by_cases h : i = l.length
  · subst h; simp
  · rw [if_neg h]
    by_cases h2 : i < l.length
    · simp [h2, List.getElem?_append_left]
    · rw [List.getD_eq_getElem?_getD, List.getD_eq_getElem?_getD, List.getElem?_eq_none (by simp; omega), List.getElem?_eq_none (by omega)]
theorem OwI.grow {w : World} {base : Nat} {v : Value} {l : List Int} (h : OwI w base v l) (x : Int) (hn : l.length ≤ 1000) (hb : base ≤ w.heap.size) :
    ∃ v' w', (Builtin.append_ #[61, 61] 61 #[v, .slice (some ⟨w.heap.size, 0, none⟩) 1 1]).run Try.prog (w.alloc (.cells #[.int .i64 x] 3)) = .ok v' w' ∧ OwI w' base v' (l ++ [x]) ∧ Kept w w' v.ownBlock ∧ (v'.ownBlock = v.ownBlock ∨ v'.ownBlock = some (w.heap.size + 1)) := by
  obtain ⟨i0, hi0, hz0, hz1, hz2⟩ := info_parts Try.infoIn
  have hk : Kept w (w.alloc (.cells #[.int .i64 x] 3)) none := Kept.alloc _ _ _ _ _
  have hz : (w.alloc (.cells #[.int .i64 x] 3)).heap.size = w.heap.size + 1 := by simp
  have hc : ∀ j, j < 1 → (w.alloc (.cells #[.int .i64 x] 3)).cell? ⟨w.heap.size, 0 + j, none⟩ = some (.int .i64 x) := fun j hj => by
    have : j = 0 := by omega
    subst this
    simp [World.cell?_alloc_mark]
  obtain ⟨v', w', hr, g1, g2, g3⟩ := grow_run (t := 61) (ty := 61) (c := 1) (g := fun _ => .int .i64 x) Try.uIns hi0 hz0 hz1 hz2 rfl (by omega) (by omega) (h.kept hk) hc (fun j => rfl) hn (by omega)
  rw [hz] at g3
  refine ⟨v', w', hr, ?_, ?_, g3⟩
  · unfold OwI
    rw [List.length_append]
    have e : (fun (i _ : Nat) => if i = l.length then Value.int .i64 x else .int .i64 (l.getD i 0)) = (fun (i _ : Nat) => Value.int .i64 ((l ++ [x]).getD i 0)) := by
      funext i _
      rw [getD_snoc]
      split <;> rfl
    rw [e] at g1
    exact g1
  · have h2 : Kept (w.alloc (.cells #[.int .i64 x] 3)) w' v.ownBlock := g2
    refine ⟨h2.os.trans hk.os, h2.tape.trans hk.tape, h2.output.trans hk.output, Nat.le_trans hk.size h2.size, fun i hi hne => (h2.block i (Nat.lt_of_lt_of_le hi hk.size) hne).trans (hk.block i hi (by simp))⟩
theorem OwI.lt {w : World} {base : Nat} {v : Value} {l : List Int} (h : OwI w base v l) : ∀ g, v.ownBlock = some g → base ≤ g ∧ g < w.heap.size := own_lt h
theorem OwI.far {w w' : World} {base : Nat} {v : Value} {l : List Int} (h : OwI w base v l) (k : Kept w w' v.ownBlock) {w0 : World} (h0 : Kept w0 w none) (hb : w0.heap.size ≤ base) : Kept w0 w' none :=
  ⟨k.os.trans h0.os, k.tape.trans h0.tape, k.output.trans h0.output, Nat.le_trans h0.size k.size, fun i hi _ => (k.block i (Nat.lt_of_lt_of_le hi h0.size) (fun e => by have := (h.lt i e.symm).1; omega)).trans (h0.block i hi (by simp))⟩
end Go.Proofs.Ytlabjamkaebnjaa

/-
  Of the text TwinC: what this stage needs (culled by a program).
-/
namespace Go.Proofs.Ytlabjamkaebnjaa
open Go.RowKit Go.Lib Go.Deep
set_option linter.unusedVariables false
set_option linter.unusedSimpArgs false

theorem Lie.ltrA {lo : Nat} {w w' : World} {a : Option Addr} {n k : Nat} {f : Nat → Nat → Value} (h : Lie w a n k f) (q : LtrZ lo w w') (hl : ∀ b, a = some b → lo ≤ b.block) : Lie w' a n k f :=
  ⟨fun hp => by
    obtain ⟨b, off, rfl, hb, hc⟩ := h.at_ hp
    exact ⟨b, off, rfl, Nat.lt_of_lt_of_le hb q.size, fun i hi j hj => q.cell (hc i hi j hj) (hl _ rfl)⟩⟩
theorem Ints.ltrA {lo : Nat} {w w' : World} {a : Option Addr} {n c : Nat} {l : List Int} (h : Ints w a n c l) (q : LtrZ lo w w') (hl : ∀ b, a = some b → lo ≤ b.block) : Ints w' a n c l := ⟨h.lie.ltrA q hl, h.size, h.cap, h.rng⟩
def TwP (w : World) (l : List Pl) (n : Nat) (e : Ending) (w' : World) : Prop := ∃ a' c', e = .returned (.slice a' n c') ∧ (∀ w'', LtrZ w.heap.size w' w'' → Plans w'' a' n c' l) ∧ Kept w w' none
theorem Tp.start (w : World) (l : List Pl) : Tp w l w 0 (.slice none 0 0) := ⟨⟨fun _ => (none, 0), World.ownsRow_nil _ _ _ _, fun i hi => by omega, fun i hi => by omega⟩, Kept.refl _ _⟩
theorem Tp.done {w wr : World} {l : List Pl} {n : Nat} {v : Value} (h : Tp w l wr n v) (hl : l.length = n) (hr : ∀ p ∈ l, i64B p.cycle ∧ i64B p.offset) : TwP w l n (.returned v) wr := by
  obtain ⟨⟨r, ho, hi, hb⟩, hk⟩ := h
  obtain ⟨a', cap, rfl, h1, h2, h3⟩ := lie_own (by omega) ho
  exact ⟨a', cap, rfl, fun w'' q => ⟨⟨r, h1.ltrA q (fun b e => (h3 b e).1), fun i hin => (hi i hin).ltrA q (fun b e => (hb i hin b e).2.2)⟩, hl, h2, hr⟩, hk⟩
set_option maxRecDepth 100000 in
set_option maxHeartbeats 4000000 in
theorem twinPlans_any {w : World} {a : Option Addr} {n c : Nat} {l : List Pl} (hP : Plans w a n c l) (hn : n ≤ 40) (hs : ∀ i, i < n → (l.getD i q0).splits.length ≤ 40) : Calls Try.prog 6 #[.slice a n c] w fun e w' => TwP w l n e w' := by
  have HP := Hid.mk' hP
  have HS := Hid.mk' hs
  have HLN := Hid.mk' hP.size
  have HRG := Hid.mk' hP.rng
  clear hP hs
  go_enter Try.func6, Try.ntmps6
  go_wp2
  go_loopw [3, 4] (fun v i wr => ∃ k : Nat, k ≤ n ∧ i = .int .i64 k ∧ Hid (Tp w l wr k v)) (fun _ i _ => n - (intOf i).toNat)
  case atStart => exact ⟨0, Nat.zero_le _, rfl, Tp.start w l⟩
  case round =>
    obtain ⟨k, hk, rfl, HT⟩ := hrel
    by_cases hlt : k < n
    case neg =>
      have e : k = n := by omega
      subst e
      go_wp2
      go_ret
      exact HT.out.done HLN.out HRG.out
    obtain ⟨b, off, ar, cr, ea, p0, p1, p2, hI⟩ := (HP.out.kept HT.out.kept).at_ hlt
    subst ea
    have hm := HS.out k hlt
    have hbl := block_lt p0
    obtain ⟨i0, hi0, hz0, hz1, hz2⟩ := info_parts Try.infoIn
    obtain ⟨a', cap, W2, hrun, h1, h2, h3, h4⟩ := twin_run (w := wr.alloc (plB (l.getD k q0) ar cr)) (ty := 61) Try.uIns hi0 hz0 hz1 hz2 rfl (by omega) (by omega) (hI.kept (Kept.alloc wr _ _ _ _)).lie hI.cap (by omega) (fun i j => rfl)
    have hJ : Ints W2 a' (l.getD k q0).splits.length cap (l.getD k q0).splits := ⟨h1, rfl, h2, hI.rng⟩
    obtain ⟨v', W5, hrun2, hT5⟩ := HT.out.step (by omega) h4 hJ (fun b e => (h3 b e).1) (fun b e => (h3 b e).2)
    have HT5 := Hid.mk' hT5
    have HR1 := Hid.mk' hrun
    have HR2 := Hid.mk' hrun2
    have hk4 := h4
    have z2 : wr.heap.size + 1 ≤ W2.heap.size := by have := h4.size; simpa using this
    have q0' : W2.cell? ⟨wr.heap.size, 0, none⟩ = some (.int .i64 (l.getD k q0).cycle) := cell_kept0 (by simp [World.cell?_alloc_mark]) h4
    have q1' : W2.cell? ⟨wr.heap.size, 1, none⟩ = some (.int .i64 (l.getD k q0).offset) := cell_kept0 (by simp [World.cell?_alloc_mark]) h4
    have q2' : W2.cell? ⟨wr.heap.size, 2, none⟩ = some (.slice ar (l.getD k q0).splits.length cr) := cell_kept0 (by simp [World.cell?_alloc_mark]) h4
    have qf : W2.frozen? ⟨wr.heap.size, 2, none⟩ = false := (frozen_blockZ (h4.block _ (by simp) (by simp))).trans (by go_simp)
    clear hI h1 h2 h3 h4 hJ hT5 hrun hrun2 hk4
    generalize l.getD k q0 = p at *
    go_wp2_with (first
      | (have hgo := hdone; clear hgo; at_builtin; refine wpList_app (by rfl) _ _ _ (by rfl) (by rfl) (by rfl) HR2.out ?_)
      | (at_builtin; refine wpList_app (by rfl) _ _ _ (by rfl) (by rfl) (by rfl) HR1.out ?_; have hdone := trivial))
    go_roundw
    case rel => exact ⟨k + 1, by omega, by go_num, HT5⟩
    case measure => simp [intOf]; omega

end Go.Proofs.Ytlabjamkaebnjaa

/-
  Of the text TwinD: what this stage needs (culled by a program).
-/
namespace Go.Proofs.Ytlabjamkaebnjaa
open Go.RowKit Go.Lib Go.Deep
set_option linter.unusedVariables false
set_option linter.unusedSimpArgs false

theorem Try.infoSl : (Try.prog.info? 61).map (fun i => (i.zero, i.size, i.bytes)) = some (some (.slice none 0 0), 1, 24) := by kernel_rfl
theorem Try.uSls : Try.prog.underlying 56 = some (.slice 61) := by kernel_rfl

/-- The three boxes: the site that came, the answer, the site in new memory. -/
structure Tst (w W : World) (s c : Array Value) : Prop where
  kept : Kept w W none
  sb : W.rowIs w.heap.size 60 12 (fSZ s)
  rb : W.rowIs (w.heap.size + 1) 60 12 (fSZ zSZ)
  tb : W.rowIs (w.heap.size + 1 + 1) 60 12 (fSZ c)
theorem Tst.call {w W W' : World} {s c : Array Value} (h : Tst w W s c) (k : Kept W W' none) : Tst w W' s c := ⟨h.kept.tr k, row_kept h.sb k (by simp), row_kept h.rb k (by simp), row_kept h.tb k (by simp)⟩
theorem Tst.drew {w W : World} {s c : Array Value} (h : Tst w W s c) : Tst w W.drew s c := h.call (Kept.drew _ _)
theorem kept_row {w W W' : World} {r : Option Nat} (h : Kept w W none) (k : Kept W W' r) (hr : ∀ g, r = some g → w.heap.size ≤ g) : Kept w W' none :=
  ⟨k.os.trans h.os, k.tape.trans h.tape, k.output.trans h.output, Nat.le_trans h.size k.size, fun b hb _ => (k.block b (Nat.lt_of_lt_of_le hb h.size) (fun e => by have := hr b e.symm; omega)).trans (h.block b hb (by simp))⟩
theorem Tst.grow {w W W' : World} {s c : Array Value} {r : Option Nat} (h : Tst w W s c) (k : Kept W W' r) (hr : ∀ g, r = some g → w.heap.size + 1 + 1 < g) : Tst w W' s c :=
  ⟨kept_row h.kept k (fun g e => by have := hr g e; omega), row_kept h.sb k (fun e => by have := hr _ e.symm; omega), row_kept h.rb k (fun e => by have := hr _ e.symm; omega), row_kept h.tb k (fun e => by have := hr _ e.symm; omega)⟩
theorem Tst.put {w W : World} {s c : Array Value} (h : Tst w W s c) (j : Nat) (v : Value) (hj : j < c.size) : Tst w (W.setCell ⟨w.heap.size + 1 + 1, j, none⟩ v) s (c.setIfInBounds j v) :=
  ⟨kept_newZ h.kept (by omega) j v, h.sb.setOther (by show _ ≠ w.heap.size + 1 + 1; omega) v, h.rb.setOther (by show _ ≠ w.heap.size + 1 + 1; omega) v, (h.tb.set j v).congr (fun i _ => fSZ_set c j v hj i)⟩
/-- A list in new memory. -/
structure Nl (w W : World) (a : Option Addr) (n k : Nat) (f : Nat → Nat → Value) : Prop where
  lie : Lie W a n k f
  new : ∀ b, a = some b → w.heap.size + 1 + 1 < b.block ∧ b.block < W.heap.size
theorem Nl.kept {w W W' : World} {r : Option Nat} {a : Option Addr} {n k : Nat} {f : Nat → Nat → Value} (h : Nl w W a n k f) (q : Kept W W' r) (hr : ∀ g, r = some g → g = w.heap.size + 1 + 1 ∨ ∀ b, a = some b → b.block ≠ g) : Nl w W' a n k f :=
  ⟨⟨fun hp => by
    obtain ⟨b, off, rfl, hb, hc⟩ := h.lie.at_ hp
    refine ⟨b, off, rfl, Nat.lt_of_lt_of_le hb q.size, fun i hi j hj => cell_keptR (hc i hi j hj) q (fun e => ?_)⟩
    rcases hr b e.symm with h1 | h1
    · have := (h.new _ rfl).1; simp only at this; omega
    · exact h1 _ rfl rfl⟩, fun b e => ⟨(h.new b e).1, Nat.lt_of_lt_of_le (h.new b e).2 q.size⟩⟩
theorem Nl.put {w W : World} {a : Option Addr} {n k : Nat} {f : Nat → Nat → Value} (h : Nl w W a n k f) (j : Nat) (v : Value) : Nl w (W.setCell ⟨w.heap.size + 1 + 1, j, none⟩ v) a n k f := h.kept (kept_setZ _ _ _ _) (fun g e => .inl (by injection e with e; exact e.symm))
theorem wp_app {o : Oper} {act : Act} {K : Act → World → Prop} {Q : Exit → Act → World → Prop} {w w' : World} {v u v' : Value} (s x : Operand) (t : TypeId) (ho : o.op = .call { callee := .builtin .append, args := #[s, x], argTypes := #[t, t] }) (hs : act.eval s = v) (hx : act.eval x = u)
    (hr : (Builtin.append_ #[t, t] o.type #[v, u]).run Try.prog w = .ok v' w') (h : K (act.put o.dst v') w') : o.wp Try.prog act w K Q := by
  unfold Oper.wp execOp
  simp only [ho, resolve, invoke, builtin, Sem.run_bind, Sem.run_pure, Result.andThen_ok, List.map_toArray, List.map_cons, List.map_nil, hs, hx, hr]
  exact h
def Rw (A : Act) (W : World) (e : Exit) (a : Act) (w : World) : Prop := match e with
  | .normal => a = A ∧ w = W
  | _ => False
theorem Rw.out {A : Act} {W w : World} {e : Exit} {a : Act} (h : Rw A W e a w) : e = .normal ∧ a = A ∧ w = W := by
  cases e with
  | normal => exact ⟨rfl, h.1, h.2⟩
  | _ => exact h.elim
/-- As many rows as were met lie in new memory. -/
structure Tg (w W : World) (l : List (List Int)) (k : Nat) (v : Value) : Prop where
  ex : ∃ r : Nat → Option Addr × Nat, W.ownsRow (w.heap.size + 1 + 1 + 1) 61 1 v k (cellsL k 1 (fun i _ => .slice (r i).1 (l.getD i []).length (r i).2)) ∧ (∀ i, i < k → Ints W (r i).1 (l.getD i []).length (r i).2 (l.getD i [])) ∧ (∀ i, i < k → ∀ b, (r i).1 = some b → v.ownBlock ≠ some b.block ∧ b.block < W.heap.size ∧ w.heap.size + 1 + 1 < b.block)
theorem Tg.start (w W : World) (l : List (List Int)) : Tg w W l 0 (.slice none 0 0) := ⟨⟨fun _ => (none, 0), World.ownsRow_nil _ _ _ _, fun i hi => by omega, fun i hi => by omega⟩⟩
theorem Tg.kept {w W W' : World} {l : List (List Int)} {k : Nat} {v : Value} {r : Option Nat} (h : Tg w W l k v) (q : Kept W W' r) (hr : ∀ g, r = some g → g = w.heap.size + 1 + 1) : Tg w W' l k v := by
  obtain ⟨rr, h1, h2, h3⟩ := h
  refine ⟨rr, own_keptR' h1 q (fun g hg e => ?_), fun i hi => (h2 i hi).keptS q (fun b e ec => ?_), fun i hi b e => ⟨(h3 i hi b e).1, Nat.lt_of_lt_of_le (h3 i hi b e).2.1 q.size, (h3 i hi b e).2.2⟩⟩
  · have := (own_lt h1 g hg).1
    have := hr g e.symm
    omega
  · have := (h3 i hi b e).2.2
    have := hr _ ec.symm
    omega
theorem Tg.put {w W : World} {l : List (List Int)} {k : Nat} {v : Value} (h : Tg w W l k v) (j : Nat) (u : Value) : Tg w (W.setCell ⟨w.heap.size + 1 + 1, j, none⟩ u) l k v := h.kept (kept_setZ _ _ _ _) (fun g e => by injection e with e; exact e.symm)
theorem Tg.done {w W W' : World} {l : List (List Int)} {n c : Nat} {a : Option Addr} (h : Tg w W l n (.slice a n c)) (hl : l.length = n) (q : LtrZ (w.heap.size + 1 + 1 + 1) W W') : Grid W' a n c l := by
  obtain ⟨r, ho, hi, hb⟩ := h
  obtain ⟨a', cap, e, h1, h2, h3⟩ := lie_own (by omega) ho
  injection e with e1 e2 e3
  subst e1 e3
  exact ⟨⟨r, h1.ltrA q (fun b e => (h3 b e).1), fun i hin => (hi i hin).ltrA q (fun b e => by have := (hb i hin b e).2.2; omega)⟩, hl, h2⟩
theorem Nl.ltr {w W W' : World} {a : Option Addr} {n k : Nat} {f : Nat → Nat → Value} (h : Nl w W a n k f) (q : LtrZ (w.heap.size + 1 + 1 + 1) W W') : Lie W' a n k f := h.lie.ltrA q (fun b e => by have := (h.new b e).1; omega)
theorem Tg.shape {w W : World} {l : List (List Int)} {n : Nat} {v : Value} (h : Tg w W l n v) : ∃ a c, v = .slice a n c := by
  obtain ⟨r, ho, hi, _⟩ := h
  obtain ⟨a', cap, rfl, h1, h2, _⟩ := lie_own (by omega) ho
  exact ⟨a', cap, rfl⟩
abbrev slB (a : Option Addr) (m c : Nat) : Obj := .cells #[.slice a m c] 61
theorem Tg.step {w W W2 : World} {l : List (List Int)} {k : Nat} {v : Value} {a' : Option Addr} {cap : Nat} (h : Tg w W l k v) (hk : k ≤ 40) (hw : w.heap.size + 1 + 1 < W.heap.size)
    (h2 : Kept W W2 none) (hI : Ints W2 a' (l.getD k []).length cap (l.getD k [])) (hf : ∀ b, a' = some b → W.heap.size ≤ b.block ∧ b.block < W2.heap.size) :
    ∃ v' W5, (Builtin.append_ #[56, 56] 56 #[v, .slice (some ⟨W2.heap.size, 0, none⟩) 1 1]).run Try.prog (W2.alloc (slB a' (l.getD k []).length cap)) = .ok v' W5 ∧ Tg w W5 l (k + 1) v' ∧ Kept (W2.alloc (slB a' (l.getD k []).length cap)) W5 v.ownBlock ∧ (v'.ownBlock = v.ownBlock ∨ v'.ownBlock = some (W2.heap.size + 1)) := by
  obtain ⟨r, ho, hi, hb⟩ := h.ex
  obtain ⟨i0, hi0, hz0, hz1, hz2⟩ := info_parts Try.infoSl
  generalize hp : l.getD k [] = p at *
  have k4 : Kept W2 (W2.alloc (slB a' p.length cap)) none := Kept.alloc _ _ _ _ _
  have z4 : (W2.alloc (slB a' p.length cap)).heap.size = W2.heap.size + 1 := by simp
  have s2 := h2.size
  have q0' : ∀ j, j < 1 → (W2.alloc (slB a' p.length cap)).cell? ⟨W2.heap.size, 0 + j, none⟩ = some (.slice a' p.length cap) := fun j hj => by
    have : j = 0 := by omega
    subst this
    exact alloc_at2 _ _ _ rfl rfl
  generalize (W2.alloc (slB a' p.length cap)) = W4 at *
  have hol := own_lt ho
  have own4 := own_keptR' (own_keptR' ho h2 (fun g _ => by simp)) k4 (fun g _ => by simp)
  obtain ⟨v', W5, hr, g1, g2, g3⟩ := grow_run (t := 56) (ty := 56) (c := 1) Try.uSls hi0 hz0 hz1 hz2 rfl (by omega) (by omega) own4 q0' (fun j => rfl) (by omega) (by omega)
  have vfr : ∀ g, v'.ownBlock = some g → v.ownBlock = some g ∨ g = W4.heap.size := fun g hg => by
    rcases g3 with e | e
    · exact .inl (e.symm.trans hg)
    · rw [e] at hg; injection hg with hg; exact .inr hg.symm
  refine ⟨v', W5, hr, ⟨fun i => if i = k then (a', cap) else r i, ?_, fun i hik => ?_, fun i hik b e => ?_⟩, g2, by rw [← z4]; exact g3⟩
  · have he : cellsL (k + 1) 1 (fun i j => if i = k then .slice a' p.length cap else .slice (r i).1 (l.getD i []).length (r i).2) = cellsL (k + 1) 1 (fun i _ => .slice ((if i = k then (a', cap) else r i) : Option Addr × Nat).1 (l.getD i []).length ((if i = k then (a', cap) else r i) : Option Addr × Nat).2) := by
      unfold cellsL
      refine List.map_congr_left fun q _ => ?_
      show (if q / 1 = k then Value.slice a' p.length cap else .slice (r (q / 1)).1 (l.getD (q / 1) []).length (r (q / 1)).2) = .slice ((if q / 1 = k then (a', cap) else r (q / 1)) : Option Addr × Nat).1 (l.getD (q / 1) []).length ((if q / 1 = k then (a', cap) else r (q / 1)) : Option Addr × Nat).2
      by_cases e : q / 1 = k
      · rw [if_pos e, if_pos e, e, hp]
      · rw [if_neg e, if_neg e]
    rw [← he]
    exact g1
  · show Ints W5 ((if i = k then (a', cap) else r i) : Option Addr × Nat).1 (l.getD i []).length ((if i = k then (a', cap) else r i) : Option Addr × Nat).2 (l.getD i [])
    by_cases e : i = k
    · rw [if_pos e, e, hp]
      refine (hI.kept k4).keptS g2 (fun b eb ec => ?_)
      have := (hf b eb).1
      have h7 := (hol _ ec.symm).2
      omega
    · rw [if_neg e]
      refine (((hi i (by omega)).kept h2).kept k4).keptS g2 (fun b eb ec => ?_)
      exact (hb i (by omega) b eb).1 ec.symm
  · have s5 := g2.size
    change ((if i = k then (a', cap) else r i) : Option Addr × Nat).1 = some b at e
    by_cases ek : i = k
    · rw [if_pos ek] at e
      have h6 := hf b e
      refine ⟨fun ec => ?_, by omega, by omega⟩
      rcases vfr _ ec with h7 | h7
      · have := (hol _ h7).2
        omega
      · omega
    · rw [if_neg ek] at e
      have h6 := hb i (by omega) b e
      refine ⟨fun ec => ?_, by omega, h6.2.2⟩
      rcases vfr _ ec with h7 | h7
      · exact h6.1 h7
      · omega

end Go.Proofs.Ytlabjamkaebnjaa

/-
  Of the text RefO: what this stage needs (culled by a program).
-/
namespace Go.Proofs.Ytlabjamkaebnjaa
open Go.RowKit Go.Lib Go.Deep
set_option linter.unusedVariables false
set_option linter.unusedSimpArgs false

/-- A struct of three cells. -/
structure Bx3 (w : World) (b : Nat) (v0 v1 v2 : Value) : Prop where
  c0 : w.cell? ⟨b, 0, none⟩ = some v0
  c1 : w.cell? ⟨b, 1, none⟩ = some v1
  c2 : w.cell? ⟨b, 2, none⟩ = some v2
  f0 : w.frozen? ⟨b, 0, none⟩ = false
  f1 : w.frozen? ⟨b, 1, none⟩ = false
  f2 : w.frozen? ⟨b, 2, none⟩ = false
theorem bx3_alloc (w : World) (v0 v1 v2 : Value) (t : TypeId) : Bx3 (w.alloc (.cells #[v0, v1, v2] t)) w.heap.size v0 v1 v2 := by
  have h := heap_alloc_new w (.cells #[v0, v1, v2] t)
  exact ⟨World.cell?_alloc_mark .., World.cell?_alloc_mark .., World.cell?_alloc_mark .., by simp only [World.frozen?, h]; rfl, by simp only [World.frozen?, h]; rfl, by simp only [World.frozen?, h]; rfl⟩
theorem Bx3.kept {w w' : World} {b : Nat} {v0 v1 v2 : Value} {r : Option Nat} (h : Bx3 w b v0 v1 v2) (k : Kept w w' r) (hr : r ≠ some b) : Bx3 w' b v0 v1 v2 := by
  have hb := block_lt h.c0
  have hk := k.block b hb (fun e => hr e.symm)
  exact ⟨(World.cell?_of_block (w := w) (a := ⟨b, 0, none⟩) hk).trans h.c0, (World.cell?_of_block (w := w) (a := ⟨b, 1, none⟩) hk).trans h.c1, (World.cell?_of_block (w := w) (a := ⟨b, 2, none⟩) hk).trans h.c2, (dfrozen_block hk).trans h.f0, (dfrozen_block hk).trans h.f1, (dfrozen_block hk).trans h.f2⟩
theorem Bx3.s1 {w : World} {b : Nat} {v0 v1 v2 : Value} (h : Bx3 w b v0 v1 v2) (u : Value) : Bx3 (w.setCell ⟨b, 1, none⟩ u) b v0 u v2 :=
  ⟨(World.cell?_setCell_other _ _ _ _ (by simp)).trans h.c0, World.cell?_setCell_same' _ _ _ (by rw [h.c1]; rfl), (World.cell?_setCell_other _ _ _ _ (by simp)).trans h.c2, (dfrozen_set _ _ _ _).trans h.f0, (dfrozen_set _ _ _ _).trans h.f1, (dfrozen_set _ _ _ _).trans h.f2⟩
theorem Bx3.s2 {w : World} {b : Nat} {v0 v1 v2 : Value} (h : Bx3 w b v0 v1 v2) (u : Value) : Bx3 (w.setCell ⟨b, 2, none⟩ u) b v0 v1 u :=
  ⟨(World.cell?_setCell_other _ _ _ _ (by simp)).trans h.c0, (World.cell?_setCell_other _ _ _ _ (by simp)).trans h.c1, World.cell?_setCell_same' _ _ _ (by rw [h.c2]; rfl), (dfrozen_set _ _ _ _).trans h.f0, (dfrozen_set _ _ _ _).trans h.f1, (dfrozen_set _ _ _ _).trans h.f2⟩
theorem rnum_at {w : World} {H b : Nat} {s s' : Rd} {n : Nat} {M : Int} (h : Drd w H b s) (most : Nat) (hM : M = (most : Int)) (hm : most ≤ 1099511627776) (he : dnM most s = (n, s')) : Calls Try.prog 83 #[.pointer (some ⟨b, 0, none⟩), .int .i64 M] w fun e w' => e = .returned (.int .i64 (n : Int)) ∧ Drd w' H b s' ∧ Kept w w' (some b) := by
  subst hM
  have := rnum_any h most hm
  rw [he] at this
  exact this
def DPok (x : List Pl) : Prop := x.length ≤ 8 ∧ ∀ p ∈ x, tickP p.cycle ∧ tickP p.offset ∧ p.splits.length ≤ 8 ∧ ∀ y ∈ p.splits, tickP y
/-- What is known between two plans, of bytes that plans make. -/
def DG (s : Rd) (n i : Nat) (l : List Pl) (s' : Rd) : Prop := ∀ x T, DPok x → s = (smlI (plansI x) ++ T, false) → n = x.length ∧ l = x.take i ∧ s' = ((x.drop i).flatMap (fun p => smlI (plI p)) ++ T, false)
/-- And within one. -/
def DG2 (s : Rd) (i cv ov mv k : Nat) (sp : List Int) (s' : Rd) : Prop := ∀ x T, DPok x → s = (smlI (plansI x) ++ T, false) → i < x.length ∧ (cv : Int) = (x.getD i q0).cycle ∧ (ov : Int) = (x.getD i q0).offset ∧ mv = (x.getD i q0).splits.length ∧ sp = (x.getD i q0).splits.take k ∧ s' = (smlI ((x.getD i q0).splits.drop k) ++ ((x.drop (i + 1)).flatMap (fun p => smlI (plI p)) ++ T), false)
theorem getD_memP {x : List Pl} {i : Nat} (h : i < x.length) : x.getD i q0 ∈ x := by
  have : x.getD i q0 = x[i] := by simp [h]
  rw [this]; exact List.getElem_mem h
theorem drop_consP {x : List Pl} {i : Nat} (h : i < x.length) : x.drop i = x.getD i q0 :: x.drop (i + 1) := by
  rw [List.drop_eq_getElem_cons h]
  simp [h]
theorem DG.start {s s1 : Rd} {n : Nat} (he : dnM 8 s = (n, s1)) : DG s n 0 [] s1 := by
  intro x T hx hs
  have e : smlI (plansI x) ++ T = sml x.length ++ (x.flatMap (fun p => smlI (plI p)) ++ T) := by
    unfold plansI
    simp [smlI, List.flatMap_assoc]
  rw [hs, e, dn_fwd (by omega) hx.1] at he
  injection he with h1 h2
  exact ⟨h1.symm, rfl, by rw [← h2]; simp⟩
theorem DG.step {s s' s1 s2 s3 : Rd} {n i cv ov mv : Nat} {l : List Pl} (h : DG s n i l s') (hi : i < n) (e1 : dnM 1048576 s' = (cv, s1)) (e2 : dnM 1048576 s1 = (ov, s2)) (e3 : dnM 8 s2 = (mv, s3)) : DG2 s i cv ov mv 0 [] s3 := by
  intro x T hx hs
  obtain ⟨h1, h2, h3⟩ := h x T hx hs
  have hix : i < x.length := by omega
  obtain ⟨p1, p2, p3, p4⟩ := hx.2 _ (getD_memP hix)
  unfold tickP at p1 p2
  have e : (x.drop i).flatMap (fun p => smlI (plI p)) ++ T = sml (x.getD i q0).cycle.toNat ++ (sml (x.getD i q0).offset.toNat ++ (sml (x.getD i q0).splits.length ++ (smlI (x.getD i q0).splits ++ ((x.drop (i + 1)).flatMap (fun p => smlI (plI p)) ++ T)))) := by
    rw [drop_consP hix, List.flatMap_cons]
    unfold plI
    simp [smlI]
  rw [e] at h3
  rw [h3, dn_fwd (by omega) (by omega)] at e1
  injection e1 with a1 a2
  rw [← a2, dn_fwd (by omega) (by omega)] at e2
  injection e2 with b1 b2
  rw [← b2, dn_fwd (by omega) (by omega)] at e3
  injection e3 with c1 c2
  refine ⟨hix, by omega, by omega, c1.symm, rfl, ?_⟩
  rw [← c2]
  simp
theorem DG2.step {s s4 s5 : Rd} {i cv ov mv k y : Nat} {sp : List Int} (h : DG2 s i cv ov mv k sp s4) (hk : k < mv) (e : dnM 1048576 s4 = (y, s5)) : DG2 s i cv ov mv (k + 1) (sp ++ [(y : Int)]) s5 := by
  intro x T hx hs
  obtain ⟨h1, h2, h3, h4, h5, h6⟩ := h x T hx hs
  obtain ⟨p1, p2, p3, p4⟩ := hx.2 _ (getD_memP h1)
  generalize (x.getD i q0) = p at *
  have hkp : k < p.splits.length := by omega
  have hmem : p.splits[k] ∈ p.splits := List.getElem_mem hkp
  have ht := p4 _ hmem
  unfold tickP at ht
  have ed : p.splits.drop k = p.splits[k] :: p.splits.drop (k + 1) := List.drop_eq_getElem_cons hkp
  rw [h6, ed] at e
  have e' : smlI (p.splits[k] :: p.splits.drop (k + 1)) = sml (p.splits[k]).toNat ++ smlI (p.splits.drop (k + 1)) := by unfold smlI; rw [List.flatMap_cons]
  rw [e', List.append_assoc, dn_fwd (by omega) (by omega)] at e
  injection e with a1 a2
  refine ⟨h1, h2, h3, h4, ?_, a2.symm⟩
  rw [List.take_succ_eq_append_getElem hkp, ← h5, ← a1]
  have hy : ((p.splits[k].toNat : Nat) : Int) = p.splits[k] := by omega
  rw [hy]
theorem DG2.out {s s4 : Rd} {n i cv ov mv k : Nat} {l : List Pl} {s' : Rd} {sp : List Int} (h : DG2 s i cv ov mv k sp s4) (h0 : DG s n i l s') (hk : k = mv ∨ s4.2 = true) : DG s n (i + 1) (l ++ [⟨(cv : Int), (ov : Int), sp⟩]) s4 := by
  intro x T hx hs
  obtain ⟨h1, h2, h3, h4, h5, h6⟩ := h x T hx hs
  obtain ⟨g1, g2, g3⟩ := h0 x T hx hs
  have hkm : k = mv := by
    rcases hk with q | q
    · exact q
    · rw [h6] at q; cases q
  refine ⟨g1, ?_, ?_⟩
  · have e : x.take (i + 1) = x.take i ++ [x.getD i q0] := by
      rw [List.take_succ_eq_append_getElem h1]
      simp [h1]
    rw [e, ← g2, h2, h3, h5, hkm, h4, List.take_length]
  · rw [h6, hkm, h4, List.drop_length]
    simp [smlI]
theorem DG.out {s s' : Rd} {n i : Nat} {l : List Pl} (h : DG s n i l s') (hi : i = n ∨ s'.2 = true) : ∀ x T, DPok x → s = (smlI (plansI x) ++ T, false) → l = x ∧ s' = (T, false) := by
  intro x T hx hs
  obtain ⟨h1, h2, h3⟩ := h x T hx hs
  have hin : i = x.length := by
    rcases hi with q | q
    · omega
    · rw [h3] at q; cases q
  refine ⟨by rw [h2, hin, List.take_length], ?_⟩
  rw [h3, hin, List.drop_length]
  simp

end Go.Proofs.Ytlabjamkaebnjaa

