/-
  Texts joined: some of those that the proofs of this seat stand on.
-/
import Derived.Test.YtabikoipjaggbaaWorld
import Derived.Test.YtabikoipjaggbaaCrcJ
import Derived.Test.YtabikoipjaggbaaMaths
import Derived.Test.YtabikoipjaggbaaSPlanLJ
import Derived.Test.YtabikoipjaggbaaSmallJ
import Derived.Test.YtabikoipjaggbaaSWholeJ
import Derived.Test.YtabikoipjaggbaaSSiteBJ
/-
  Of the text SiteR0: what this stage needs (culled by a program).
-/
namespace Go.Proofs.Ytabikoipjaggbaa
open Go.RowKit Go.Lib Go.Deep
set_option linter.unusedVariables false
set_option linter.unusedSimpArgs false

abbrev zS : Array Value := #[.int .i64 0, .slice none 0 0, .slice none 0 0, .slice none 0 0, .slice none 0 0, .slice none 0 0, .int .i64 0, .int .i64 0, .int .i64 0, .int .i64 0, .int .i64 0, .slice none 0 0]
def fS (c : Array Value) (i : Nat) : Value := c[i]?.getD undef
theorem fS_set (c : Array Value) (j : Nat) (v : Value) (hj : j < c.size) (i : Nat) : (if i = j then v else fS c i) = fS (c.setIfInBounds j v) i := by
  unfold fS
  rw [Array.getElem?_setIfInBounds]
  by_cases h : i = j
  · subst h; simp [hj]
  · rw [if_neg h, if_neg (fun e => h e.symm)]
/-- The boxes and the reader. -/
structure Sit (w wx : World) (H b g : Nat) (c : Array Value) (s : Rd) : Prop where
  rd : Rdr wx H b s
  bx : wx.cell? ⟨w.heap.size, 0, none⟩ = some (.pointer (some ⟨b, 0, none⟩))
  res : wx.rowIs (w.heap.size + 1) 81 12 (fS zS)
  box : wx.rowIs g 81 12 (fS c)
  gt : w.heap.size + 1 < g
  kept : Kept w wx (some b)
  hi : H ≤ w.heap.size
theorem Sit.lt {w wx : World} {H b g : Nat} {c : Array Value} {s : Rd} (h : Sit w wx H b g c s) : b < w.heap.size := by have := h.rd.lt; have := h.hi; omega
theorem Sit.up {w wx : World} {H b g : Nat} {c : Array Value} {s : Rd} (h : Sit w wx H b g c s) : H ≤ wx.heap.size := by have := h.hi; have := h.kept.size; omega
theorem Sit.call {w wx w' : World} {H b g : Nat} {c : Array Value} {s s' : Rd} (h : Sit w wx H b g c s) (hk : Kept wx w' (some b)) (hr : Rdr w' H b s') : Sit w w' H b g c s' := by
  have hb := h.lt
  have hg := h.gt
  exact ⟨hr, cell_keptR h.bx hk (fun e => by have := Option.some.inj e; omega), row_kept h.res hk (fun e => by have := Option.some.inj e; omega), row_kept h.box hk (fun e => by have := Option.some.inj e; omega), h.gt, h.kept.tr hk, h.hi⟩
theorem Sit.drew {w wx : World} {H b g : Nat} {c : Array Value} {s : Rd} (h : Sit w wx H b g c s) : Sit w wx.drew H b g c s := h.call (Kept.drew _ _) h.rd.drew
theorem Sit.alloc {w wx : World} {H b g : Nat} {c : Array Value} {s : Rd} (h : Sit w wx H b g c s) (d : Array Value) (t : TypeId) : Sit w (wx.alloc (.cells d t)) H b g c s := h.call (Kept.alloc _ _ _ (0, 0) _) (h.rd.alloc _ _)
theorem Sit.put {w wx : World} {H b g : Nat} {c : Array Value} {s : Rd} (h : Sit w wx H b g c s) (j : Nat) (v : Value) (hj : j < c.size) : Sit w (wx.setCell ⟨g, j, none⟩ v) H b g (c.setIfInBounds j v) s := by
  have hg := h.gt
  have hi := h.hi
  refine ⟨h.rd.setNew (by omega) j v, (World.cell?_setCell_other _ _ _ _ (by intro e; injection e with e1; omega)).trans h.bx, h.res.setOther (by show _ ≠ g; omega) v, (h.box.set j v).congr (fun i _ => fS_set c j v hj i), h.gt, kept_new h.kept (by omega) j v, h.hi⟩
/-- What leaves the blocks from lo on as they are. -/
structure Ltr (lo : Nat) (w w' : World) : Prop where
  size : w.heap.size ≤ w'.heap.size
  block : ∀ k, lo ≤ k → k < w.heap.size → w'.heap[k]? = w.heap[k]?
theorem Ltr.tr {lo : Nat} {a b c : World} (h : Ltr lo a b) (k : Ltr lo b c) : Ltr lo a c := ⟨Nat.le_trans h.size k.size, fun i hi hl => (k.block i hi (Nat.lt_of_lt_of_le hl h.size)).trans (h.block i hi hl)⟩
theorem Ltr.up {lo lo' : Nat} {a b : World} (h : Ltr lo a b) (q : lo ≤ lo') : Ltr lo' a b := ⟨h.size, fun i hi hl => h.block i (Nat.le_trans q hi) hl⟩
theorem Kept.ltr {w w' : World} {x lo : Nat} (h : Kept w w' (some x)) (hx : x < lo) : Ltr lo w w' := ⟨h.size, fun k hk hl => h.block k hl (fun e => by have := Option.some.inj e; omega)⟩
theorem Ltr.set {lo : Nat} (w : World) {g : Nat} (hg : g < lo) (j : Nat) (v : Value) : Ltr lo w (w.setCell ⟨g, j, none⟩ v) := (kept_set w g j v).ltr hg
theorem Ltr.cell {lo : Nat} {w w' : World} {b j : Nat} {v : Value} (q : Ltr lo w w') (h : w.cell? ⟨b, j, none⟩ = some v) (hb : lo ≤ b) : w'.cell? ⟨b, j, none⟩ = some v :=
  (World.cell?_of_block (w := w) (a := ⟨b, j, none⟩) (q.block b hb (block_lt h))).trans h
/-- A list in a new block. -/
structure LieN (w : World) (lo a n k : Nat) (f : Nat → Nat → Value) : Prop where
  lie : Lie w (some ⟨a, 0, none⟩) n k f
  lo : lo ≤ a
theorem Lie.ltr {lo : Nat} {w w' : World} {a n k : Nat} {f : Nat → Nat → Value} (h : Lie w (some ⟨a, 0, none⟩) n k f) (q : Ltr lo w w') (hl : lo ≤ a) : Lie w' (some ⟨a, 0, none⟩) n k f :=
  ⟨fun hp => by
    obtain ⟨b, off, e, hb, hc⟩ := h.at_ hp
    injection e with e
    injection e with e1 e2
    subst e1 e2
    exact ⟨a, 0, rfl, Nat.lt_of_lt_of_le hb q.size, fun i hi j hj => q.cell (hc i hi j hj) hl⟩⟩
theorem LieN.ltr {lo : Nat} {w w' : World} {a n k : Nat} {f : Nat → Nat → Value} (h : LieN w lo a n k f) (q : Ltr lo w w') : LieN w' lo a n k f := ⟨h.lie.ltr q h.lo, h.lo⟩
theorem GrN.ltr {lo : Nat} {w w' : World} {a n : Nat} {l : List (List Int)} (h : GrN w lo a n l) (q : Ltr lo w w') : GrN w' lo a n l := by
  obtain ⟨⟨r, h1, h2⟩, h3⟩ := h
  exact ⟨⟨r, h1.ltr q h3, fun i hi => ⟨(h2 i hi).1, (h2 i hi).2.ltr q (h2 i hi).1⟩⟩, h3⟩
theorem PlN.ltr {lo : Nat} {w w' : World} {a n : Nat} {l : List Pl} (h : PlN w lo a n l) (q : Ltr lo w w') : PlN w' lo a n l := by
  obtain ⟨⟨r, h1, h2⟩, h3⟩ := h
  exact ⟨⟨r, h1.ltr q h3, fun i hi => ⟨(h2 i hi).1, (h2 i hi).2.ltr q (h2 i hi).1⟩⟩, h3⟩
/-- The result's cells, one after another. -/
structure Fin12 (w wb wx : World) (H b g : Nat) (c : Array Value) (s : Rd) : Prop where
  rd : Rdr wx H b s
  row : wx.rowIs (w.heap.size + 1) 81 12 (fS c)
  kept : Kept w wx (some b)
  ltr : Ltr (g + 1) wb wx
  gt : w.heap.size + 1 < g
  hi : H ≤ w.heap.size
theorem Fin12.put {w wb wx : World} {H b g : Nat} {c : Array Value} {s : Rd} (h : Fin12 w wb wx H b g c s) (j : Nat) (v : Value) (hj : j < c.size) : Fin12 w wb (wx.setCell ⟨w.heap.size + 1, j, none⟩ v) H b g (c.setIfInBounds j v) s := by
  have hi := h.hi
  have hg := h.gt
  exact ⟨h.rd.setNew (by omega) j v, (h.row.set j v).congr (fun i _ => fS_set c j v hj i), kept_new h.kept (by omega) j v, h.ltr.tr (Ltr.set wx (by omega) j v), h.gt, h.hi⟩
theorem Fin12.cells {w wb wx : World} {H b g : Nat} {v0 v1 v2 v3 v4 v5 v6 v7 v8 v9 v10 v11 : Value} {s : Rd} (h : Fin12 w wb wx H b g #[v0, v1, v2, v3, v4, v5, v6, v7, v8, v9, v10, v11] s) : wx.cell? ⟨w.heap.size + 1, 0, none⟩ = some v0 ∧ wx.cell? ⟨w.heap.size + 1, 1, none⟩ = some v1 ∧ wx.cell? ⟨w.heap.size + 1, 2, none⟩ = some v2 ∧ wx.cell? ⟨w.heap.size + 1, 3, none⟩ = some v3 ∧ wx.cell? ⟨w.heap.size + 1, 4, none⟩ = some v4 ∧ wx.cell? ⟨w.heap.size + 1, 5, none⟩ = some v5 ∧ wx.cell? ⟨w.heap.size + 1, 6, none⟩ = some v6 ∧ wx.cell? ⟨w.heap.size + 1, 7, none⟩ = some v7 ∧ wx.cell? ⟨w.heap.size + 1, 8, none⟩ = some v8 ∧ wx.cell? ⟨w.heap.size + 1, 9, none⟩ = some v9 ∧ wx.cell? ⟨w.heap.size + 1, 10, none⟩ = some v10 ∧ wx.cell? ⟨w.heap.size + 1, 11, none⟩ = some v11 :=
  ⟨h.row.cell (i := 0) (by omega), h.row.cell (i := 1) (by omega), h.row.cell (i := 2) (by omega), h.row.cell (i := 3) (by omega), h.row.cell (i := 4) (by omega), h.row.cell (i := 5) (by omega), h.row.cell (i := 6) (by omega), h.row.cell (i := 7) (by omega), h.row.cell (i := 8) (by omega), h.row.cell (i := 9) (by omega), h.row.cell (i := 10) (by omega), h.row.cell (i := 11) (by omega)⟩

/-! ### What is read keeps within bounds -/
theorem listM_all {α : Type} {f : Rd → α × Rd} {P : α → Prop} (h : ∀ s, P (f s).1) : ∀ n s, ∀ x ∈ (listM f n s).1, P x
  | 0, s, x, hx => by simp [listM] at hx
  | n + 1, s, x, hx => by
    rw [listM, List.mem_cons] at hx
    rcases hx with rfl | hx
    · exact h s
    · exact listM_all h n _ x hx
theorem numM_le (s : Rd) : 0 ≤ (numM s).1 ∧ (numM s).1 ≤ 1048576 := by
  have := upM_le 1048576 s
  unfold numM
  dsimp only
  omega
theorem numM_i64 (s : Rd) : i64B (numM s).1 := by have := numM_le s; unfold i64B; omega
theorem plM_r (s : Rd) : (i64B (plM s).1.cycle ∧ i64B (plM s).1.offset) ∧ (plM s).1.splits.length ≤ 8 ∧ ∀ x ∈ (plM s).1.splits, i64B x :=
  ⟨⟨numM_i64 _, numM_i64 _⟩, by
    show (listM numM (upM 8 _).1 _).1.length ≤ 8
    rw [listM_len]
    exact upM_le _ _, listM_all numM_i64 _ _⟩
theorem plansM_r (s : Rd) : (plansM s).1.length ≤ 8 ∧ ∀ p ∈ (plansM s).1, (i64B p.cycle ∧ i64B p.offset) ∧ p.splits.length ≤ 8 ∧ ∀ x ∈ p.splits, i64B x :=
  ⟨by show (listM plM (upM 8 s).1 _).1.length ≤ 8; rw [listM_len]; exact upM_le _ _, listM_all (P := fun p : Pl => (i64B p.cycle ∧ i64B p.offset) ∧ p.splits.length ≤ 8 ∧ ∀ x ∈ p.splits, i64B x) plM_r _ _⟩
theorem cap_some {a : Addr} {n : Nat} (h : n ≤ 1000) : Cap (some a) n n := ⟨fun e => (nomatch e), Nat.le_refl _, by omega⟩
theorem PlN.plans {lo : Nat} {w : World} {a n : Nat} {l : List Pl} (h : PlN w lo a n l) (hn : l.length = n) (h8 : n ≤ 1000) (hr : ∀ p ∈ l, (i64B p.cycle ∧ i64B p.offset) ∧ p.splits.length ≤ 8 ∧ ∀ x ∈ p.splits, i64B x) : Plans w (some ⟨a, 0, none⟩) n n l := by
  obtain ⟨⟨r, h1, h2⟩, h3⟩ := h
  refine ⟨⟨fun i => (some ⟨r i, 0, none⟩, (l.getD i q0).splits.length), h1, fun i hi => ?_⟩, hn, cap_some h8, fun p hp => (hr p hp).1⟩
  have hm := hr _ (getD_mem (d := q0) (show i < l.length by omega))
  exact ⟨(h2 i hi).2, rfl, cap_some (by omega), hm.2.2⟩
end Go.Proofs.Ytabikoipjaggbaa

/-
  Of the text PartsR: what this stage needs (culled by a program).
-/
namespace Go.Proofs.Ytabikoipjaggbaa
open Go.RowKit Go.Lib Go.Deep
set_option linter.unusedVariables false
set_option linter.unusedSimpArgs false

theorem textOf_inj {L M : List Nat} (hL : ∀ x ∈ L, x < 256) (hM : ∀ x ∈ M, x < 256) (h : textOf L = textOf M) : L = M := by
  unfold textOf at h
  have h1 : L.map UInt8.ofNat = M.map UInt8.ofNat := by injection h with h; simpa using h
  have h2 : ∀ N : List Nat, (∀ x ∈ N, x < 256) → (N.map UInt8.ofNat).map UInt8.toNat = N := by
    intro N hN
    rw [List.map_map]
    conv => rhs; rw [← List.map_id N]
    apply List.map_congr_left
    intro x hx
    have := hN x hx
    simp; omega
  rw [← h2 L hL, ← h2 M hM, h1]
theorem textOf_eq {L M : List Nat} (hL : ∀ x ∈ L, x < 256) (hM : ∀ x ∈ M, x < 256) : ((textOf L).toList == (textOf M).toList) = decide (L = M) := by
  rw [ByteArray.toList_eq, ByteArray.toList_eq]
  by_cases e : L = M
  · subst e; simp
  · have : ¬ (textOf L).data.toList = (textOf M).data.toList := fun e2 => e (textOf_inj hL hM (by
      have : (textOf L).data = (textOf M).data := Array.toList_inj.1 e2
      show ByteArray.mk (textOf L).data = ByteArray.mk (textOf M).data
      rw [this]))
    rw [decide_eq_false e]
    exact beq_eq_false_iff_ne.2 this
theorem equal_any {w : World} {a a' : Option Addr} {n n' c c' : Nat} {L M : List Nat} (hL : By w a n L) (hM : By w a' n' M) : Calls Try.prog 82 #[.slice a n c, .slice a' n' c'] w fun e w' => e = .returned (.bool (decide (L = M))) ∧ w' = w := by
  have t1 := run_text hL c
  have t2 := run_text hM c'
  have HE := Hid.mk' (textOf_eq hL.lt hM.lt)
  generalize hd : decide (L = M) = d at *
  clear hd hL hM
  go_enter Try.func82, Try.ntmps82
  go_wp2
  go_ret
  exact ⟨by rw [← HE.out]; simp, rfl⟩
theorem readerOf_any {w : World} {a : Option Addr} {n c : Nat} : Calls Try.prog 95 #[.slice a n c] w fun e w' => e = .returned (.agg #[.slice a n c, .bool false]) ∧ Kept w w' none := by
  go_enter Try.func95, Try.ntmps95
  go_wp2
  refine bodyPost_ret (v := .agg #[.slice a n c, .bool false]) (by simp [results, Try.results95, go_sem]) rfl ⟨rfl, ?_⟩
  exact Kept.alloc _ _ _ (0, 0) _
/-- A reader that has just been made. -/
theorem rdr_new {w : World} {a : Option Addr} {n c : Nat} {L : List Nat} (h : Come w a n c L) (t : TypeId) (v : Value) : Rdr (w.alloc (.cells #[.slice a n c, .bool false, v] t)) (w.heap.size + 1) w.heap.size (L, false) := by
  refine ⟨⟨a, n, c, by go_simp, h.keptR (Kept.alloc _ _ _ (0, 0) none) (fun _ _ _ => by simp), fun hp x hx => ?_⟩, by go_simp, by go_simp, by go_simp, ⟨v, by go_simp⟩, by go_simp, by omega⟩
  obtain ⟨b, off, e, hb, _⟩ := h.by_.at_ hp
  rw [hx] at e
  injection e with e
  subst e
  dsimp only
  omega
theorem kept_own {w W w' : World} (h : Kept w W none) (k : Kept W w' (some w.heap.size)) : Kept w w' none :=
  ⟨k.os.trans h.os, k.tape.trans h.tape, k.output.trans h.output, Nat.le_trans h.size k.size, fun i hi _ => (k.block i (Nat.lt_of_lt_of_le hi h.size) (fun e => by have := Option.some.inj e; omega)).trans (h.block i hi (by simp))⟩
def partsB (L : List Nat) : Bool := doneB (plansM (L, false)).2 && allB (plansM (L, false)).1.length (fun k => mayB ((plansM (L, false)).1.getD k q0))
set_option maxRecDepth 100000 in
set_option maxHeartbeats 1000000 in
theorem parts_any {w : World} {a : Option Addr} {n c : Nat} {L : List Nat} (h : Come w a n c L) : Calls Try.prog 90 #[.slice a n c] w fun e w' => Kept w w' none ∧ ((partsB L = true ∧ ∃ g, e = .returned (.tuple #[.slice (some ⟨g, 0, none⟩) (plansM (L, false)).1.length (plansM (L, false)).1.length, .int .i64 0]) ∧ Plans w' (some ⟨g, 0, none⟩) (plansM (L, false)).1.length (plansM (L, false)).1.length (plansM (L, false)).1) ∨ (partsB L = false ∧ e = .returned (.tuple #[.slice none 0 0, .int .i64 8]))) := by
  have hcall := fun (v : World) (hv : Kept w v none) => readPlans_any (rdr_new (h.keptR hv (fun _ _ _ => by simp)) 154 (.slice none 0 0)) (by simp)
  have HB : Hid (partsB L = (doneB (plansM (L, false)).2 && allB (plansM (L, false)).1.length (fun k => mayB ((plansM (L, false)).1.getD k q0)))) := rfl
  have hR := plansM_r (L, false)
  rw [HB.out]
  clear HB
  generalize plansM (L, false) = u at *
  obtain ⟨l, s'⟩ := u
  dsimp only at *
  have HC := Hid.mk' hcall
  have HR := Hid.mk' hR
  clear hcall hR h
  generalize hm : allB l.length (fun k => mayB (l.getD k q0)) = m
  have HM := Hid.mk' hm
  clear hm
  generalize hd : doneB s' = d
  have HD := Hid.mk' hd
  clear hd
  cases d <;> cases m <;>
    go_enter Try.func90, Try.ntmps90 <;>
    go_wp2_with (first
      | (have hgo := P2; clear hgo; go_at_call 67; have hn := allMay_any P2.out; rw [HM.out] at hn; refine hn.mono ?_; rintro e w3 ⟨rfl, hk3⟩; have P3 := Hid.mk' (P2.out.kept hk3); have c3 := cell_kept0 c2 hk3)
      | (have hgo := R1; clear hgo; go_at_call 97; have hn := done_any R1.out; rw [HD.out] at hn; refine hn.mono ?_; rintro e w2 ⟨rfl, rfl⟩)
      | (go_at_call 96; refine (HC.out _ hk0).mono ?_; rintro e w1 ⟨rfl, g, c2, hl1, hr1, hk1⟩; have R1 := Hid.mk' hr1; have P2 := Hid.mk' (hl1.plans rfl (by have := HR.out.1; omega) HR.out.2); have K1 := Hid.mk' (hk0.tr (kept_own (Kept.alloc w0 #[.slice a n c, .bool false, .slice none 0 0] 154 (0, 0) none) hk1)); clear hr1 hl1 hk1)
      | (go_at_call 95; refine readerOf_any.mono ?_; rintro e w0 ⟨rfl, hk0⟩))
  all_goals go_ret2
  · exact ⟨K1.out, .inr ⟨rfl, rfl⟩⟩
  · exact ⟨K1.out, .inr ⟨rfl, rfl⟩⟩
  · exact ⟨K1.out.tr hk3, .inr ⟨rfl, rfl⟩⟩
  · exact ⟨K1.out.tr hk3, .inl ⟨rfl, g, rfl, P3.out⟩⟩

end Go.Proofs.Ytabikoipjaggbaa

/-
  Of the text BackM: what this stage needs (culled by a program).
-/
namespace Go.Proofs.Ytabikoipjaggbaa
open Go.RowKit Go.Lib Go.Deep
set_option linter.unusedVariables false
set_option linter.unusedSimpArgs false

theorem mayL_all {l : List Pl} : mayL l = allB l.length (fun k => mayB (l.getD k q0)) := by
  rw [Bool.eq_iff_iff, allB_iff, mayL_iff]
  constructor
  · exact fun h i hi => h _ (getD_mem hi)
  · intro h p hp
    obtain ⟨i, hi, rfl⟩ := List.mem_iff_getElem.1 hp
    have := h i hi
    rwa [List.getD_eq_getElem?_getD, List.getElem?_eq_getElem hi] at this
theorem parts_whole {l : List Pl} (h : wholeE l = 0) : partsB (wholeL l) = true ∧ (plansM (wholeL l, false)).1 = l := by
  have h8 : l.length ≤ 8 := by
    unfold wholeE at h
    split at h
    · omega
    · omega
  have hm : mayL l = true := by
    unfold wholeE at h
    rw [if_neg (by omega)] at h
    split at h
    · assumption
    · omega
  have hw : wholeL l = smlI (plansI l) := by unfold wholeL; rw [if_pos h]
  have hp := plansC.fwd l [] ⟨h8, fun p hp => by
    obtain ⟨h1, h2, h3, h4⟩ := may_parts (mayL_iff.1 hm p hp)
    exact ⟨by omega, by omega, by omega, fun x hx => h4 x hx⟩⟩
  rw [List.append_nil, ← hw] at hp
  unfold partsB
  rw [hp]
  exact ⟨by rw [← mayL_all, hm]; rfl, rfl⟩
theorem whole_parts {L : List Nat} (hL : ∀ x ∈ L, x < 256) (h : partsB L = true) : wholeE (plansM (L, false)).1 = 0 ∧ wholeL (plansM (L, false)).1 = L := by
  unfold partsB doneB at h
  simp only [Bool.and_eq_true, decide_eq_true_eq, Bool.not_eq_true'] at h
  obtain ⟨⟨h1, h2⟩, h3⟩ := h
  have hb := plansC.bwd L hL h1
  rw [h2, List.append_nil] at hb
  rw [← mayL_all] at h3
  have h0 : wholeE (plansM (L, false)).1 = 0 := by unfold wholeE; rw [if_neg (by have := hb.2.1; omega), if_pos h3]
  refine ⟨h0, ?_⟩
  unfold wholeL
  rw [if_pos h0]
  exact hb.1.symm

end Go.Proofs.Ytabikoipjaggbaa

