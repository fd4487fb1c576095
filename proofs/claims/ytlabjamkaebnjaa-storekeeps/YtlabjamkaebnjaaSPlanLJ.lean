/-
  Texts joined: some of those that the proofs of this seat stand on.
-/
import Derived.Test.YtlabjamkaebnjaaMathsJ
import Derived.Test.YtlabjamkaebnjaaSPlanR
import Derived.Test.YtlabjamkaebnjaaCrcJ
import Derived.Test.YtlabjamkaebnjaaSmallJ
import Derived.Test.YtlabjamkaebnjaaSFitsJ
import Derived.Test.YtlabjamkaebnjaaSSiteBJ
/-
  Of the text PlanL: what this stage needs (culled by a program).
-/
namespace Go.Proofs.Ytlabjamkaebnjaa
open Go.RowKit Go.Lib Go.Deep
set_option linter.unusedVariables false
set_option linter.unusedSimpArgs false

/-- Plans in new blocks. -/
structure PlN (w : World) (lo a n : Nat) (l : List Pl) : Prop where
  ex : ∃ r : Nat → Nat, Lie w (some ⟨a, 0, none⟩) n 3 (fun i j => plV (l.getD i q0) (some ⟨r i, 0, none⟩) (l.getD i q0).splits.length j) ∧ ∀ i, i < n → lo ≤ r i ∧ Lie w (some ⟨r i, 0, none⟩) (l.getD i q0).splits.length 1 (fun q _ => .int .i64 ((l.getD i q0).splits.getD q 0))
  lo : lo ≤ a
theorem PlN.keptR {w w' : World} {lo a n x : Nat} {l : List Pl} (h : PlN w lo a n l) (q : Kept w w' (some x)) (hx : x < lo) : PlN w' lo a n l := by
  obtain ⟨⟨r, h1, h2⟩, h3⟩ := h
  exact ⟨⟨r, h1.keptR q (fun _ y e f => by cases e; have f := Option.some.inj f; dsimp only at f; omega), fun i hi => ⟨(h2 i hi).1, (h2 i hi).2.keptR q (fun _ y e f => by cases e; have f := Option.some.inj f; dsimp only at f; have := (h2 i hi).1; omega)⟩⟩, h3⟩
set_option maxRecDepth 100000 in
set_option maxHeartbeats 1000000 in
theorem list_plan {w : World} {H b : Nat} {s : Rd} (h : Rdr w H b s) (hH : H ≤ w.heap.size) (n : Nat) (hn : n ≤ 24) : Calls Try.prog 90 #[.int .i64 n, .func (.func 92) #[.pointer (some ⟨b, 0, none⟩)] #[]] w fun e w' => e = .returned (.slice (some ⟨w.heap.size, 0, none⟩) n n) ∧ PlN w' w.heap.size w.heap.size n (listM plM n s).1 ∧ Rdr w' H b (listM plM n s).2 ∧ Kept w w' (some b) := by
  obtain ⟨i0, hi0, hz0, hz1, hz2⟩ := info_parts (show (Try.prog.info? 63).map (fun i => (i.zero, i.size, i.bytes)) = some (some (.agg #[.int .i64 0, .int .i64 0, .slice none 0 0]), 3, 40) from by kernel_rfl)
  have hmk := run_make (P := Try.prog) w 25 63 i0 _ (by kernel_rfl) hi0 hz0 .i64 .i64 n n (by omega) (Int.le_refl _) (by rw [hz2]; omega) (by omega)
  rw [hz1, Int.toNat_natCast] at hmk
  have hrow0 := madeRow w (Value.cells (.agg #[.int .i64 0, .int .i64 0, .slice none 0 0])) (n * 3) 63
  have hr0 := h.kept (Kept.alloc w (madeCells (Value.cells (.agg #[.int .i64 0, .int .i64 0, .slice none 0 0])) (n * 3)) 63 (0, 0) none) (fun i e => by cases e)
  have hk0 : Kept w (w.alloc (.cells (madeCells (Value.cells (.agg #[.int .i64 0, .int .i64 0, .slice none 0 0])) (n * 3)) 63)) (some b) := Kept.alloc _ _ _ _ _
  have hbl := h.lt
  have hbs : some w.heap.size ≠ some b := fun e => by injection e; omega
  generalize hW0 : w.alloc (.cells (madeCells (Value.cells (.agg #[.int .i64 0, .int .i64 0, .slice none 0 0])) (n * 3)) 63) = W0 at *
  have HR0 := Hid.mk' hr0
  have HRow0 := Hid.mk' hrow0
  clear h hr0 hrow0 hW0
  go_enter Try.func90, Try.ntmps90
  go_wp2
  clear hmk
  go_loopw [11] (fun i wr => ∃ k : Nat, k ≤ n ∧ i = .int .i64 k ∧ (∃ f, ∃ r : Nat → Nat, wr.rowIs w.heap.size 63 (n * 3) f ∧ (∀ i, i < k → ∀ j, j < 3 → f (i * 3 + j) = plV ((listM plM k s).1.getD i q0) (some ⟨r i, 0, none⟩) ((listM plM k s).1.getD i q0).splits.length j) ∧ ∀ i, i < k → w.heap.size + 1 ≤ r i ∧ Lie wr (some ⟨r i, 0, none⟩) ((listM plM k s).1.getD i q0).splits.length 1 (fun q _ => .int .i64 (((listM plM k s).1.getD i q0).splits.getD q 0))) ∧ Rdr wr H b (listM plM k s).2 ∧ Kept w wr (some b)) (fun i _ => n - (intOf i).toNat)
  case atStart => exact ⟨0, Nat.zero_le _, rfl, ⟨_, fun _ => 0, HRow0.out, fun i hi => by omega, fun i hi => by omega⟩, HR0.out, hk0⟩
  case round =>
    obtain ⟨k, hk, rfl, ⟨f, r, hrow, hf, hL⟩, hr, hkw⟩ := hrel
    by_cases hlt : k < n
    · have hgw := hrow.lt
      have hcall := plan_rd hr (by omega)
      have hsn := listM_snoc plM k s
      have hlen := listM_len plM k s
      have HF := Hid.mk' hf
      have HL := Hid.mk' hL
      have HROW := Hid.mk' hrow
      have HSN := Hid.mk' hsn
      have HLEN := Hid.mk' hlen
      have HCALL := Hid.mk' hcall
      clear hf hL hrow hsn hlen hcall hr
      generalize hx : (plM (listM plM k s).2).1 = x at *
      clear hx
      go_wp2_with (refine HCALL.out.mono ?_; rintro e w2 ⟨g2, hg2, rfl, hl2, hr2, hk2⟩; have hrow2 := row_kept HROW.out hk2 hbs; have k0 := hrow2.cell (i := k * 3) (by have := idx_lt (j := 0) hlt (show 0 < 3 by omega); omega); have z0 := hrow2.frozen (k * 3); have k1 := hrow2.cell (i := k * 3 + 1) (by have := idx_lt (j := 1) hlt (show 1 < 3 by omega); omega); have z1 := hrow2.frozen (k * 3 + 1); have k2 := hrow2.cell (i := k * 3 + 2) (by have := idx_lt (j := 2) hlt (show 2 < 3 by omega); omega); have z2 := hrow2.frozen (k * 3 + 2); have HL2 := Hid.mk' hl2; clear hl2)
      go_roundw
      case rel =>
        refine ⟨k + 1, by omega, by go_num, ⟨_, fun i => if i = k then g2 else r i, World.rowIs.set (World.rowIs.set (World.rowIs.set hrow2 (k * 3) (.int .i64 x.cycle)) (k * 3 + 1) (.int .i64 x.offset)) (k * 3 + 2) (.slice (some ⟨g2, 0, none⟩) x.splits.length x.splits.length), fun i hi j hj => ?_, fun i hi => ?_⟩, by rw [HSN.out]; exact ((hr2.setNew hH (k * 3) _).setNew hH (k * 3 + 1) _).setNew hH (k * 3 + 2) _, kept_new (kept_new (kept_new (hkw.tr hk2) (Nat.le_refl _) (k * 3) _) (Nat.le_refl _) (k * 3 + 1) _) (Nat.le_refl _) (k * 3 + 2) _⟩
        · rw [HSN.out]
          by_cases hik : i = k
          · subst hik
            have : j = 0 ∨ j = 1 ∨ j = 2 := by omega
            dsimp only
            rw [getD_snoc_eq HLEN.out.symm]
            rcases this with rfl | rfl | rfl <;> simp [plV]
          · have hne := fun q => idx_ne (q := q) (show i < k by omega) hj
            dsimp only
            rw [getD_snoc_lt (by rw [HLEN.out]; omega), if_neg hik]
            have h0 := HF.out i (by omega) j hj
            rw [← h0]
            rw [if_neg (by have := hne 2; omega), if_neg (by have := hne 1; omega), if_neg (by have := hne 0; omega)]
        · rw [HSN.out]
          have hset : ∀ (W : World) (y m q : Nat) (v : Value) (F : Nat → Nat → Value), w.heap.size + 1 ≤ y → Lie W (some ⟨y, 0, none⟩) m 1 F → Lie (W.setCell ⟨w.heap.size, q, none⟩ v) (some ⟨y, 0, none⟩) m 1 F := fun W y m q v F hy hl => hl.keptR (kept_set _ _ _ _) (fun _ x e f => by cases e; have f := Option.some.inj f; dsimp only at f; omega)
          by_cases hik : i = k
          · subst hik
            dsimp only
            rw [getD_snoc_eq HLEN.out.symm, if_pos rfl]
            exact ⟨by omega, hset _ _ _ _ _ _ (by omega) (hset _ _ _ _ _ _ (by omega) (hset _ _ _ _ _ _ (by omega) HL2.out))⟩
          · dsimp only
            rw [getD_snoc_lt (by rw [HLEN.out]; omega), if_neg hik]
            obtain ⟨hr1, hl1⟩ := HL.out i (by omega)
            have hl1 := hl1.keptR hk2 (fun _ x e f => by cases e; have f := Option.some.inj f; dsimp only at f; omega)
            exact ⟨hr1, hset _ _ _ _ _ _ hr1 (hset _ _ _ _ _ _ hr1 (hset _ _ _ _ _ _ hr1 hl1))⟩
      case measure => simp [intOf]; omega
    · have hkk : k = n := by omega
      subst hkk
      have HL := Hid.mk' (PlN.mk ⟨r, lie_row hrow hf, fun i hi => ⟨by have := (hL i hi).1; omega, (hL i hi).2⟩⟩ (Nat.le_refl w.heap.size))
      clear hf hrow hL
      go_wp2
      go_ret
      exact ⟨rfl, HL.out, hr, hkw⟩

end Go.Proofs.Ytlabjamkaebnjaa

/-
  Of the text PlanS: what this stage needs (culled by a program).
-/
namespace Go.Proofs.Ytlabjamkaebnjaa
open Go.RowKit Go.Lib Go.Deep
set_option linter.unusedVariables false
set_option linter.unusedSimpArgs false

set_option maxRecDepth 100000 in
set_option maxHeartbeats 1000000 in
theorem readPlans_any {w : World} {H b : Nat} {s : Rd} (h : Rdr w H b s) (hH : H ≤ w.heap.size) : Calls Try.prog 88 #[.pointer (some ⟨b, 0, none⟩)] w fun e w' => e = .returned (.tuple #[]) ∧ ∃ a, w'.cell? ⟨b, 2, none⟩ = some (.slice (some ⟨a, 0, none⟩) (plansM s).1.length (plansM s).1.length) ∧ PlN w' w.heap.size a (plansM s).1.length (plansM s).1 ∧ Rdr w' H b (plansM s).2 ∧ Kept w w' (some b) := by
  have hbl := h.lt
  have HE : Hid (plansM s = listM plM (upM 8 s).1 (upM 8 s).2) := rfl
  have hlen := listM_len plM (upM 8 s).1 (upM 8 s).2
  have hle := upM_le 8 s
  rw [HE.out, hlen]
  clear HE hlen
  generalize hu2 : upM 8 s = u2 at *
  have HU2 := Hid.mk' hu2
  clear hu2
  obtain ⟨v2, s2⟩ := u2
  dsimp only at *
  have H0 := Hid.mk' h
  clear h
  go_enter Try.func88, Try.ntmps88
  go_wp2_with (first
    | (have hgo := R2; clear hgo; go_at_call 90; refine (list_plan R2.out (by have h2 := hk2.size; omega) v2 (by omega)).mono ?_; rintro e w3 ⟨rfl, hl3, hr3, hk3⟩; obtain ⟨vc, k2⟩ := hr3.c2; have z2 := hr3.f2; have R3 := Hid.mk' hr3; have L3 := Hid.mk' hl3; clear hr3 hl3)
    | (go_at_call 91; have hn := many_any H0.out 8 (by omega); rw [HU2.out] at hn; refine hn.mono ?_; rintro e w2 ⟨rfl, hr2, hk2⟩; have R2 := Hid.mk' hr2; clear hr2))
  have hsz := hk2.size
  go_end0
  exact ⟨rfl, w2.heap.size, World.cell?_setCell_same' _ _ _ (by rw [k2]; rfl), by
    obtain ⟨⟨r, h1, h2⟩, h3⟩ := L3.out
    exact PlN.keptR ⟨⟨r, h1, fun i hi => ⟨by have := (h2 i hi).1; omega, (h2 i hi).2⟩⟩, by omega⟩ (kept_set _ _ _ _) (by omega), R3.out.put _, (hk2.tr hk3).tr (kept_set _ _ _ _)⟩
/-- Rows in new blocks. -/
structure GrN (w : World) (lo a n : Nat) (l : List (List Int)) : Prop where
  ex : ∃ r : Nat → Nat, Lie w (some ⟨a, 0, none⟩) n 1 (fun i j => .slice (some ⟨r i, 0, none⟩) (l.getD i []).length (l.getD i []).length) ∧ ∀ i, i < n → lo ≤ r i ∧ Lie w (some ⟨r i, 0, none⟩) (l.getD i []).length 1 (fun q _ => .int .i64 ((l.getD i []).getD q 0))
  lo : lo ≤ a
theorem GrN.keptR {w w' : World} {lo a n x : Nat} {l : List (List Int)} (h : GrN w lo a n l) (q : Kept w w' (some x)) (hx : x < lo) : GrN w' lo a n l := by
  obtain ⟨⟨r, h1, h2⟩, h3⟩ := h
  exact ⟨⟨r, h1.keptR q (fun _ y e f => by cases e; have f := Option.some.inj f; dsimp only at f; omega), fun i hi => ⟨(h2 i hi).1, (h2 i hi).2.keptR q (fun _ y e f => by cases e; have f := Option.some.inj f; dsimp only at f; have := (h2 i hi).1; omega)⟩⟩, h3⟩
end Go.Proofs.Ytlabjamkaebnjaa

/-
  Of the text SiteR0: what this stage needs (culled by a program).
-/
namespace Go.Proofs.Ytlabjamkaebnjaa
open Go.RowKit Go.Lib Go.Deep
set_option linter.unusedVariables false
set_option linter.unusedSimpArgs false

abbrev zS : Array Value := #[.int .i64 0, .slice none 0 0, .slice none 0 0, .slice none 0 0, .slice none 0 0, .slice none 0 0, .int .i64 0, .int .i64 0, .int .i64 0, .int .i64 0, .int .i64 0, .slice none 0 0]
def fS (c : Array Value) (i : Nat) : Value := c[i]?.getD undef
theorem fS_set (c : Array Value) (j : Nat) (v : Value) (hj : j < c.size) (i : Nat) : (if i = j then v else fS c i) = fS (c.setIfInBounds j v) i := by
  unfold fS
  rw [Array.getElem?_setIfInBounds]
  by_cases h : i = j
  · subst h; simp [hj]
  · rw [if_neg h, if_neg (fun e => h e.symm)]
/-- The boxes and the reader. -/
structure Sit (w wx : World) (H b g : Nat) (c : Array Value) (s : Rd) : Prop where
  rd : Rdr wx H b s
  bx : wx.cell? ⟨w.heap.size, 0, none⟩ = some (.pointer (some ⟨b, 0, none⟩))
  res : wx.rowIs (w.heap.size + 1) 60 12 (fS zS)
  box : wx.rowIs g 60 12 (fS c)
  gt : w.heap.size + 1 < g
  kept : Kept w wx (some b)
  hi : H ≤ w.heap.size
theorem Sit.lt {w wx : World} {H b g : Nat} {c : Array Value} {s : Rd} (h : Sit w wx H b g c s) : b < w.heap.size := by have := h.rd.lt; have := h.hi; omega
theorem Sit.up {w wx : World} {H b g : Nat} {c : Array Value} {s : Rd} (h : Sit w wx H b g c s) : H ≤ wx.heap.size := by have := h.hi; have := h.kept.size; omega
theorem Sit.call {w wx w' : World} {H b g : Nat} {c : Array Value} {s s' : Rd} (h : Sit w wx H b g c s) (hk : Kept wx w' (some b)) (hr : Rdr w' H b s') : Sit w w' H b g c s' := by
  have hb := h.lt
  have hg := h.gt
  exact ⟨hr, cell_keptR h.bx hk (fun e => by have := Option.some.inj e; omega), row_kept h.res hk (fun e => by have := Option.some.inj e; omega), row_kept h.box hk (fun e => by have := Option.some.inj e; omega), h.gt, h.kept.tr hk, h.hi⟩
theorem Sit.drew {w wx : World} {H b g : Nat} {c : Array Value} {s : Rd} (h : Sit w wx H b g c s) : Sit w wx.drew H b g c s := h.call (Kept.drew _ _) h.rd.drew
theorem Sit.alloc {w wx : World} {H b g : Nat} {c : Array Value} {s : Rd} (h : Sit w wx H b g c s) (d : Array Value) (t : TypeId) : Sit w (wx.alloc (.cells d t)) H b g c s := h.call (Kept.alloc _ _ _ (0, 0) _) (h.rd.alloc _ _)
theorem Sit.put {w wx : World} {H b g : Nat} {c : Array Value} {s : Rd} (h : Sit w wx H b g c s) (j : Nat) (v : Value) (hj : j < c.size) : Sit w (wx.setCell ⟨g, j, none⟩ v) H b g (c.setIfInBounds j v) s := by
  have hg := h.gt
  have hi := h.hi
  refine ⟨h.rd.setNew (by omega) j v, (World.cell?_setCell_other _ _ _ _ (by intro e; injection e with e1; omega)).trans h.bx, h.res.setOther (by show _ ≠ g; omega) v, (h.box.set j v).congr (fun i _ => fS_set c j v hj i), h.gt, kept_new h.kept (by omega) j v, h.hi⟩
/-- What leaves the blocks from lo on as they are. -/
structure Ltr (lo : Nat) (w w' : World) : Prop where
  size : w.heap.size ≤ w'.heap.size
  block : ∀ k, lo ≤ k → k < w.heap.size → w'.heap[k]? = w.heap[k]?
theorem Ltr.tr {lo : Nat} {a b c : World} (h : Ltr lo a b) (k : Ltr lo b c) : Ltr lo a c := ⟨Nat.le_trans h.size k.size, fun i hi hl => (k.block i hi (Nat.lt_of_lt_of_le hl h.size)).trans (h.block i hi hl)⟩
theorem Ltr.up {lo lo' : Nat} {a b : World} (h : Ltr lo a b) (q : lo ≤ lo') : Ltr lo' a b := ⟨h.size, fun i hi hl => h.block i (Nat.le_trans q hi) hl⟩
theorem Kept.ltr {w w' : World} {x lo : Nat} (h : Kept w w' (some x)) (hx : x < lo) : Ltr lo w w' := ⟨h.size, fun k hk hl => h.block k hl (fun e => by have := Option.some.inj e; omega)⟩
theorem Ltr.set {lo : Nat} (w : World) {g : Nat} (hg : g < lo) (j : Nat) (v : Value) : Ltr lo w (w.setCell ⟨g, j, none⟩ v) := (kept_set w g j v).ltr hg
theorem Ltr.cell {lo : Nat} {w w' : World} {b j : Nat} {v : Value} (q : Ltr lo w w') (h : w.cell? ⟨b, j, none⟩ = some v) (hb : lo ≤ b) : w'.cell? ⟨b, j, none⟩ = some v :=
  (World.cell?_of_block (w := w) (a := ⟨b, j, none⟩) (q.block b hb (block_lt h))).trans h
/-- A list in a new block. -/
structure LieN (w : World) (lo a n k : Nat) (f : Nat → Nat → Value) : Prop where
  lie : Lie w (some ⟨a, 0, none⟩) n k f
  lo : lo ≤ a
theorem Lie.ltr {lo : Nat} {w w' : World} {a n k : Nat} {f : Nat → Nat → Value} (h : Lie w (some ⟨a, 0, none⟩) n k f) (q : Ltr lo w w') (hl : lo ≤ a) : Lie w' (some ⟨a, 0, none⟩) n k f :=
  ⟨fun hp => by
    obtain ⟨b, off, e, hb, hc⟩ := h.at_ hp
    injection e with e
    injection e with e1 e2
    subst e1 e2
    exact ⟨a, 0, rfl, Nat.lt_of_lt_of_le hb q.size, fun i hi j hj => q.cell (hc i hi j hj) hl⟩⟩
theorem LieN.ltr {lo : Nat} {w w' : World} {a n k : Nat} {f : Nat → Nat → Value} (h : LieN w lo a n k f) (q : Ltr lo w w') : LieN w' lo a n k f := ⟨h.lie.ltr q h.lo, h.lo⟩
theorem GrN.ltr {lo : Nat} {w w' : World} {a n : Nat} {l : List (List Int)} (h : GrN w lo a n l) (q : Ltr lo w w') : GrN w' lo a n l := by
  obtain ⟨⟨r, h1, h2⟩, h3⟩ := h
  exact ⟨⟨r, h1.ltr q h3, fun i hi => ⟨(h2 i hi).1, (h2 i hi).2.ltr q (h2 i hi).1⟩⟩, h3⟩
theorem PlN.ltr {lo : Nat} {w w' : World} {a n : Nat} {l : List Pl} (h : PlN w lo a n l) (q : Ltr lo w w') : PlN w' lo a n l := by
  obtain ⟨⟨r, h1, h2⟩, h3⟩ := h
  exact ⟨⟨r, h1.ltr q h3, fun i hi => ⟨(h2 i hi).1, (h2 i hi).2.ltr q (h2 i hi).1⟩⟩, h3⟩
/-- The result's cells, one after another. -/
structure Fin12 (w wb wx : World) (H b g : Nat) (c : Array Value) (s : Rd) : Prop where
  rd : Rdr wx H b s
  row : wx.rowIs (w.heap.size + 1) 60 12 (fS c)
  kept : Kept w wx (some b)
  ltr : Ltr (g + 1) wb wx
  gt : w.heap.size + 1 < g
  hi : H ≤ w.heap.size
theorem Fin12.put {w wb wx : World} {H b g : Nat} {c : Array Value} {s : Rd} (h : Fin12 w wb wx H b g c s) (j : Nat) (v : Value) (hj : j < c.size) : Fin12 w wb (wx.setCell ⟨w.heap.size + 1, j, none⟩ v) H b g (c.setIfInBounds j v) s := by
  have hi := h.hi
  have hg := h.gt
  exact ⟨h.rd.setNew (by omega) j v, (h.row.set j v).congr (fun i _ => fS_set c j v hj i), kept_new h.kept (by omega) j v, h.ltr.tr (Ltr.set wx (by omega) j v), h.gt, h.hi⟩
theorem Fin12.cells {w wb wx : World} {H b g : Nat} {v0 v1 v2 v3 v4 v5 v6 v7 v8 v9 v10 v11 : Value} {s : Rd} (h : Fin12 w wb wx H b g #[v0, v1, v2, v3, v4, v5, v6, v7, v8, v9, v10, v11] s) : wx.cell? ⟨w.heap.size + 1, 0, none⟩ = some v0 ∧ wx.cell? ⟨w.heap.size + 1, 1, none⟩ = some v1 ∧ wx.cell? ⟨w.heap.size + 1, 2, none⟩ = some v2 ∧ wx.cell? ⟨w.heap.size + 1, 3, none⟩ = some v3 ∧ wx.cell? ⟨w.heap.size + 1, 4, none⟩ = some v4 ∧ wx.cell? ⟨w.heap.size + 1, 5, none⟩ = some v5 ∧ wx.cell? ⟨w.heap.size + 1, 6, none⟩ = some v6 ∧ wx.cell? ⟨w.heap.size + 1, 7, none⟩ = some v7 ∧ wx.cell? ⟨w.heap.size + 1, 8, none⟩ = some v8 ∧ wx.cell? ⟨w.heap.size + 1, 9, none⟩ = some v9 ∧ wx.cell? ⟨w.heap.size + 1, 10, none⟩ = some v10 ∧ wx.cell? ⟨w.heap.size + 1, 11, none⟩ = some v11 :=
  ⟨h.row.cell (i := 0) (by omega), h.row.cell (i := 1) (by omega), h.row.cell (i := 2) (by omega), h.row.cell (i := 3) (by omega), h.row.cell (i := 4) (by omega), h.row.cell (i := 5) (by omega), h.row.cell (i := 6) (by omega), h.row.cell (i := 7) (by omega), h.row.cell (i := 8) (by omega), h.row.cell (i := 9) (by omega), h.row.cell (i := 10) (by omega), h.row.cell (i := 11) (by omega)⟩

/-! ### What is read keeps within bounds -/
theorem listM_all {α : Type} {f : Rd → α × Rd} {P : α → Prop} (h : ∀ s, P (f s).1) : ∀ n s, ∀ x ∈ (listM f n s).1, P x
  | 0, s, x, hx => by simp [listM] at hx
  | n + 1, s, x, hx => by
    rw [listM, List.mem_cons] at hx
    rcases hx with rfl | hx
    · exact h s
    · exact listM_all h n _ x hx
theorem numM_le (s : Rd) : 0 ≤ (numM s).1 ∧ (numM s).1 ≤ 1048576 := by
  have := upM_le 1048576 s
  unfold numM
  dsimp only
  omega
theorem numM_i64 (s : Rd) : i64B (numM s).1 := by have := numM_le s; unfold i64B; omega
theorem plM_r (s : Rd) : (i64B (plM s).1.cycle ∧ i64B (plM s).1.offset) ∧ (plM s).1.splits.length ≤ 8 ∧ ∀ x ∈ (plM s).1.splits, i64B x :=
  ⟨⟨numM_i64 _, numM_i64 _⟩, by
    show (listM numM (upM 8 _).1 _).1.length ≤ 8
    rw [listM_len]
    exact upM_le _ _, listM_all numM_i64 _ _⟩
theorem plansM_r (s : Rd) : (plansM s).1.length ≤ 8 ∧ ∀ p ∈ (plansM s).1, (i64B p.cycle ∧ i64B p.offset) ∧ p.splits.length ≤ 8 ∧ ∀ x ∈ p.splits, i64B x :=
  ⟨by show (listM plM (upM 8 s).1 _).1.length ≤ 8; rw [listM_len]; exact upM_le _ _, listM_all (P := fun p : Pl => (i64B p.cycle ∧ i64B p.offset) ∧ p.splits.length ≤ 8 ∧ ∀ x ∈ p.splits, i64B x) plM_r _ _⟩
theorem cap_some {a : Addr} {n : Nat} (h : n ≤ 1000) : Cap (some a) n n := ⟨fun e => (nomatch e), Nat.le_refl _, by omega⟩
theorem PlN.plans {lo : Nat} {w : World} {a n : Nat} {l : List Pl} (h : PlN w lo a n l) (hn : l.length = n) (h8 : n ≤ 1000) (hr : ∀ p ∈ l, (i64B p.cycle ∧ i64B p.offset) ∧ p.splits.length ≤ 8 ∧ ∀ x ∈ p.splits, i64B x) : Plans w (some ⟨a, 0, none⟩) n n l := by
  obtain ⟨⟨r, h1, h2⟩, h3⟩ := h
  refine ⟨⟨fun i => (some ⟨r i, 0, none⟩, (l.getD i q0).splits.length), h1, fun i hi => ?_⟩, hn, cap_some h8, fun p hp => (hr p hp).1⟩
  have hm := hr _ (getD_mem (d := q0) (show i < l.length by omega))
  exact ⟨(h2 i hi).2, rfl, cap_some (by omega), hm.2.2⟩
end Go.Proofs.Ytlabjamkaebnjaa

/-
  Of the text PartsR: what this stage needs (culled by a program).
-/
namespace Go.Proofs.Ytlabjamkaebnjaa
open Go.RowKit Go.Lib Go.Deep
set_option linter.unusedVariables false
set_option linter.unusedSimpArgs false

theorem textOf_inj {L M : List Nat} (hL : ∀ x ∈ L, x < 256) (hM : ∀ x ∈ M, x < 256) (h : textOf L = textOf M) : L = M := by
  unfold textOf at h
  have h1 : L.map UInt8.ofNat = M.map UInt8.ofNat := by injection h with h; simpa using h
  have h2 : ∀ N : List Nat, (∀ x ∈ N, x < 256) → (N.map UInt8.ofNat).map UInt8.toNat = N := by
    intro N hN
    rw [List.map_map]
    conv => rhs; rw [← List.map_id N]
    apply List.map_congr_left
    intro x hx
    have := hN x hx
    simp; omega
  rw [← h2 L hL, ← h2 M hM, h1]
theorem textOf_eq {L M : List Nat} (hL : ∀ x ∈ L, x < 256) (hM : ∀ x ∈ M, x < 256) : ((textOf L).toList == (textOf M).toList) = decide (L = M) := by
  rw [ByteArray.toList_eq, ByteArray.toList_eq]
  by_cases e : L = M
  · subst e; simp
  · have : ¬ (textOf L).data.toList = (textOf M).data.toList := fun e2 => e (textOf_inj hL hM (by
      have : (textOf L).data = (textOf M).data := Array.toList_inj.1 e2
      show ByteArray.mk (textOf L).data = ByteArray.mk (textOf M).data
      rw [this]))
    rw [decide_eq_false e]
    exact beq_eq_false_iff_ne.2 this
theorem equal_any {w : World} {a a' : Option Addr} {n n' c c' : Nat} {L M : List Nat} (hL : By w a n L) (hM : By w a' n' M) : Calls Try.prog 77 #[.slice a n c, .slice a' n' c'] w fun e w' => e = .returned (.bool (decide (L = M))) ∧ w' = w := by
  have t1 := run_text hL c
  have t2 := run_text hM c'
  have HE := Hid.mk' (textOf_eq hL.lt hM.lt)
  generalize hd : decide (L = M) = d at *
  clear hd hL hM
  go_enter Try.func77, Try.ntmps77
  go_wp2
  go_ret
  exact ⟨by rw [← HE.out]; simp, rfl⟩
theorem readerOf_any {w : World} {a : Option Addr} {n c : Nat} : Calls Try.prog 87 #[.slice a n c] w fun e w' => e = .returned (.agg #[.slice a n c, .bool false]) ∧ Kept w w' none := by
  go_enter Try.func87, Try.ntmps87
  go_wp2
  refine bodyPost_ret (v := .agg #[.slice a n c, .bool false]) (by simp [results, Try.results87, go_sem]) rfl ⟨rfl, ?_⟩
  exact Kept.alloc _ _ _ (0, 0) _
/-- A reader that has just been made. -/
theorem rdr_new {w : World} {a : Option Addr} {n c : Nat} {L : List Nat} (h : Come w a n c L) (t : TypeId) (v : Value) : Rdr (w.alloc (.cells #[.slice a n c, .bool false, v] t)) (w.heap.size + 1) w.heap.size (L, false) := by
  refine ⟨⟨a, n, c, by go_simp, h.keptR (Kept.alloc _ _ _ (0, 0) none) (fun _ _ _ => by simp), fun hp x hx => ?_⟩, by go_simp, by go_simp, by go_simp, ⟨v, by go_simp⟩, by go_simp, by omega⟩
  obtain ⟨b, off, e, hb, _⟩ := h.by_.at_ hp
  rw [hx] at e
  injection e with e
  subst e
  dsimp only
  omega
theorem kept_own {w W w' : World} (h : Kept w W none) (k : Kept W w' (some w.heap.size)) : Kept w w' none :=
  ⟨k.os.trans h.os, k.tape.trans h.tape, k.output.trans h.output, Nat.le_trans h.size k.size, fun i hi _ => (k.block i (Nat.lt_of_lt_of_le hi h.size) (fun e => by have := Option.some.inj e; omega)).trans (h.block i hi (by simp))⟩
def partsB (L : List Nat) : Bool := doneB (plansM (L, false)).2 && allB (plansM (L, false)).1.length (fun k => mayB ((plansM (L, false)).1.getD k q0))
set_option maxRecDepth 100000 in
set_option maxHeartbeats 1000000 in
theorem parts_any {w : World} {a : Option Addr} {n c : Nat} {L : List Nat} (h : Come w a n c L) : Calls Try.prog 82 #[.slice a n c] w fun e w' => Kept w w' none ∧ ((partsB L = true ∧ ∃ g, e = .returned (.tuple #[.slice (some ⟨g, 0, none⟩) (plansM (L, false)).1.length (plansM (L, false)).1.length, .int .i64 0]) ∧ Plans w' (some ⟨g, 0, none⟩) (plansM (L, false)).1.length (plansM (L, false)).1.length (plansM (L, false)).1) ∨ (partsB L = false ∧ e = .returned (.tuple #[.slice none 0 0, .int .i64 8]))) := by
  have hcall := fun (v : World) (hv : Kept w v none) => readPlans_any (rdr_new (h.keptR hv (fun _ _ _ => by simp)) 149 (.slice none 0 0)) (by simp)
  have HB : Hid (partsB L = (doneB (plansM (L, false)).2 && allB (plansM (L, false)).1.length (fun k => mayB ((plansM (L, false)).1.getD k q0)))) := rfl
  have hR := plansM_r (L, false)
  rw [HB.out]
  clear HB
  generalize plansM (L, false) = u at *
  obtain ⟨l, s'⟩ := u
  dsimp only at *
  have HC := Hid.mk' hcall
  have HR := Hid.mk' hR
  clear hcall hR h
  generalize hm : allB l.length (fun k => mayB (l.getD k q0)) = m
  have HM := Hid.mk' hm
  clear hm
  generalize hd : doneB s' = d
  have HD := Hid.mk' hd
  clear hd
  cases d <;> cases m <;>
    go_enter Try.func82, Try.ntmps82 <;>
    go_wp2_with (first
      | (have hgo := P2; clear hgo; go_at_call 60; have hn := allMay_any P2.out; rw [HM.out] at hn; refine hn.mono ?_; rintro e w3 ⟨rfl, hk3⟩; have P3 := Hid.mk' (P2.out.kept hk3); have c3 := cell_kept0 c2 hk3)
      | (have hgo := R1; clear hgo; go_at_call 89; have hn := done_any R1.out; rw [HD.out] at hn; refine hn.mono ?_; rintro e w2 ⟨rfl, rfl⟩)
      | (go_at_call 88; refine (HC.out _ hk0).mono ?_; rintro e w1 ⟨rfl, g, c2, hl1, hr1, hk1⟩; have R1 := Hid.mk' hr1; have P2 := Hid.mk' (hl1.plans rfl (by have := HR.out.1; omega) HR.out.2); have K1 := Hid.mk' (hk0.tr (kept_own (Kept.alloc w0 #[.slice a n c, .bool false, .slice none 0 0] 149 (0, 0) none) hk1)); clear hr1 hl1 hk1)
      | (go_at_call 87; refine readerOf_any.mono ?_; rintro e w0 ⟨rfl, hk0⟩))
  all_goals go_ret2
  · exact ⟨K1.out, .inr ⟨rfl, rfl⟩⟩
  · exact ⟨K1.out, .inr ⟨rfl, rfl⟩⟩
  · exact ⟨K1.out.tr hk3, .inr ⟨rfl, rfl⟩⟩
  · exact ⟨K1.out.tr hk3, .inl ⟨rfl, g, rfl, P3.out⟩⟩

end Go.Proofs.Ytlabjamkaebnjaa

/-
  Of the text BackM: what this stage needs (culled by a program).
-/
namespace Go.Proofs.Ytlabjamkaebnjaa
open Go.RowKit Go.Lib Go.Deep
set_option linter.unusedVariables false
set_option linter.unusedSimpArgs false

theorem mayL_all {l : List Pl} : mayL l = allB l.length (fun k => mayB (l.getD k q0)) := by
  rw [Bool.eq_iff_iff, allB_iff, mayL_iff]
  constructor
  · exact fun h i hi => h _ (getD_mem hi)
  · intro h p hp
    obtain ⟨i, hi, rfl⟩ := List.mem_iff_getElem.1 hp
    have := h i hi
    rwa [List.getD_eq_getElem?_getD, List.getElem?_eq_getElem hi] at this
theorem parts_whole {l : List Pl} (h : wholeE l = 0) : partsB (wholeL l) = true ∧ (plansM (wholeL l, false)).1 = l := by
  have h8 : l.length ≤ 8 := by
    unfold wholeE at h
    split at h
    · omega
    · omega
  have hm : mayL l = true := by
    unfold wholeE at h
    rw [if_neg (by omega)] at h
    split at h
    · assumption
    · omega
  have hw : wholeL l = smlI (plansI l) := by unfold wholeL; rw [if_pos h]
  have hp := plansC.fwd l [] ⟨h8, fun p hp => by
    obtain ⟨h1, h2, h3, h4⟩ := may_parts (mayL_iff.1 hm p hp)
    exact ⟨by omega, by omega, by omega, fun x hx => h4 x hx⟩⟩
  rw [List.append_nil, ← hw] at hp
  unfold partsB
  rw [hp]
  exact ⟨by rw [← mayL_all, hm]; rfl, rfl⟩
theorem whole_parts {L : List Nat} (hL : ∀ x ∈ L, x < 256) (h : partsB L = true) : wholeE (plansM (L, false)).1 = 0 ∧ wholeL (plansM (L, false)).1 = L := by
  unfold partsB doneB at h
  simp only [Bool.and_eq_true, decide_eq_true_eq, Bool.not_eq_true'] at h
  obtain ⟨⟨h1, h2⟩, h3⟩ := h
  have hb := plansC.bwd L hL h1
  rw [h2, List.append_nil] at hb
  rw [← mayL_all] at h3
  have h0 : wholeE (plansM (L, false)).1 = 0 := by unfold wholeE; rw [if_neg (by have := hb.2.1; omega), if_pos h3]
  refine ⟨h0, ?_⟩
  unfold wholeL
  rw [if_pos h0]
  exact hb.1.symm

end Go.Proofs.Ytlabjamkaebnjaa

/-
  DEVICES, in numbers: writes that are whole, or torn.
-/
namespace Go.Proofs.Ytlabjamkaebnjaa
set_option linter.unusedVariables false
set_option linter.unusedSimpArgs false

/-- The first t bytes of b stand in block n, the others stay. -/
def wrD (d b : List Nat) (n t : Nat) : List Nat := d.take (64 * n) ++ (b.take t ++ d.drop (64 * n + t))
/-- Block n. -/
def blD (d : List Nat) (n : Nat) : List Nat := (d.drop (64 * n)).take 64
/-- A write. -/
structure Pw where
  n : Int
  data : List Nat
/-- It may be on a device of so many bytes. -/
def okP (m : Nat) (p : Pw) : Prop := 0 ≤ p.n ∧ 64 * p.n + 64 ≤ (m : Int) ∧ p.data.length = 64
theorem wrD_len {d b : List Nat} {n t : Nat} (h : 64 * n + 64 ≤ d.length) (hb : b.length = 64) (ht : t ≤ 64) : (wrD d b n t).length = d.length := by
  unfold wrD
  simp only [List.length_append, List.length_take, List.length_drop]
  omega
theorem wrD_none (d b : List Nat) (n : Nat) : wrD d b n 0 = d := by
  unfold wrD
  simp
theorem wrD_get {d b : List Nat} {n t : Nat} (h : 64 * n + 64 ≤ d.length) (hb : b.length = 64) (ht : t ≤ 64) (i : Nat) : (wrD d b n t).getD i 0 = if 64 * n ≤ i ∧ i < 64 * n + t then b.getD (i - 64 * n) 0 else d.getD i 0 := by
  unfold wrD
  simp only [List.getD_eq_getElem?_getD]
  by_cases h1 : i < 64 * n
  · rw [List.getElem?_append_left (by rw [List.length_take]; omega), if_neg (by omega), List.getElem?_take, if_pos h1]
  · rw [List.getElem?_append_right (by rw [List.length_take]; omega)]
    have e : (List.take (64 * n) d).length = 64 * n := by rw [List.length_take]; omega
    rw [e]
    by_cases h2 : i < 64 * n + t
    · rw [if_pos (by omega), List.getElem?_append_left (by rw [List.length_take]; omega), List.getElem?_take, if_pos (by omega)]
    · have e2 : (List.take t b).length = t := by rw [List.length_take]; omega
      rw [if_neg (by omega), List.getElem?_append_right (by rw [e2]; omega), e2, List.getElem?_drop, show 64 * n + t + (i - 64 * n - t) = i by omega]
theorem blD_len {d : List Nat} {n : Nat} (h : 64 * n + 64 ≤ d.length) : (blD d n).length = 64 := by
  unfold blD
  rw [List.length_take, List.length_drop]
  omega
theorem blD_get {d : List Nat} {n j : Nat} (hj : j < 64) : (blD d n).getD j 0 = d.getD (64 * n + j) 0 := by
  unfold blD
  simp only [List.getD_eq_getElem?_getD]
  rw [List.getElem?_take, if_pos hj, List.getElem?_drop]
/-- Two lists of one length that have the same numbers. -/
theorem ext_getD {a b : List Nat} (hl : a.length = b.length) (h : ∀ i, i < a.length → a.getD i 0 = b.getD i 0) : a = b := by
  refine List.ext_getElem hl (fun i h1 h2 => ?_)
  have := h i h1
  rw [List.getD_eq_getElem?_getD, List.getD_eq_getElem?_getD, List.getElem?_eq_getElem h1, List.getElem?_eq_getElem h2] at this
  exact this
/-- What was written is read. -/
theorem blD_same {d b : List Nat} {n : Nat} (h : 64 * n + 64 ≤ d.length) (hb : b.length = 64) : blD (wrD d b n 64) n = b := by
  refine ext_getD ?_ (fun i hi => ?_)
  · rw [blD_len (by rw [wrD_len h hb (by omega)]; exact h), hb]
  · have hi' : i < 64 := by rw [blD_len (by rw [wrD_len h hb (by omega)]; exact h)] at hi; exact hi
    rw [blD_get hi', wrD_get h hb (by omega), if_pos (by omega), show 64 * n + i - 64 * n = i by omega]
/-- All other blocks are as they were. -/
theorem blD_other {d b : List Nat} {n m t : Nat} (h : 64 * n + 64 ≤ d.length) (hb : b.length = 64) (ht : t ≤ 64) (hm : 64 * m + 64 ≤ d.length) (hne : m ≠ n) : blD (wrD d b n t) m = blD d m := by
  have hl := wrD_len h hb ht
  refine ext_getD (by rw [blD_len (by omega), blD_len hm]) (fun i hi => ?_)
  have hi' : i < 64 := by rw [blD_len (by omega)] at hi; exact hi
  rw [blD_get hi', blD_get hi', wrD_get h hb ht, if_neg ?_]
  rintro ⟨a, b⟩
  by_cases q : m < n
  · omega
  · omega
/-- Writes, one by one: so many whole, of the next one the first t bytes. -/
def doD : List Pw → Nat → Nat → List Nat → List Nat
  | [], _, _, d => d
  | p :: l, 0, t, d => wrD d p.data p.n.toNat t
  | p :: l, w + 1, t, d => doD l w t (wrD d p.data p.n.toNat 64)
theorem okP_to {m : Nat} {p : Pw} (h : okP m p) : 64 * p.n.toNat + 64 ≤ m ∧ p.data.length = 64 := by
  obtain ⟨a, b, c⟩ := h
  exact ⟨by omega, c⟩
theorem doD_len : ∀ (l : List Pw) (w t : Nat) (d : List Nat), (∀ p ∈ l, okP d.length p) → t ≤ 64 → (doD l w t d).length = d.length
  | [], _, _, _, _, _ => rfl
  | p :: l, 0, t, d, h, ht => by
    obtain ⟨a, b⟩ := okP_to (h p (by simp))
    exact wrD_len a b ht
  | p :: l, w + 1, t, d, h, ht => by
    obtain ⟨a, b⟩ := okP_to (h p (by simp))
    have hl := wrD_len a b (Nat.le_refl 64)
    show (doD l w t (wrD d p.data p.n.toNat 64)).length = _
    rw [doD_len l w t _ (fun q hq => by rw [hl]; exact h q (by simp [hq])) ht, hl]
/-- In pieces. -/
theorem doD_split : ∀ (l : List Pw) (k : Nat) (d : List Nat), k ≤ l.length → doD (l.drop k) (l.length - k) 0 (doD l k 0 d) = doD l l.length 0 d
  | [], k, d, hk => by
    have : k = 0 := by simpa using hk
    subst this
    rfl
  | p :: l, 0, d, hk => by
    show doD (p :: l) (l.length + 1) 0 (wrD d p.data p.n.toNat 0) = _
    rw [wrD_none]
    rfl
  | p :: l, k + 1, d, hk => by
    show doD (l.drop k) (l.length + 1 - (k + 1)) 0 (doD l k 0 (wrD d p.data p.n.toNat 64)) = doD l l.length 0 (wrD d p.data p.n.toNat 64)
    rw [show l.length + 1 - (k + 1) = l.length - k by omega]
    exact doD_split l k _ (by simpa using hk)
/-- A torn one of all bytes is whole. -/
theorem doD_full : ∀ (l : List Pw) (k : Nat) (d : List Nat), k < l.length → doD l k 64 d = doD l (k + 1) 0 d
  | [], k, d, hk => absurd hk (by simp)
  | [p], 0, d, hk => rfl
  | p :: q :: l, 0, d, hk => by
    show wrD d p.data p.n.toNat 64 = wrD (wrD d p.data p.n.toNat 64) q.data q.n.toNat 0
    rw [wrD_none]
  | p :: l, k + 1, d, hk => by
    show doD l k 64 (wrD d p.data p.n.toNat 64) = doD l (k + 1) 0 (wrD d p.data p.n.toNat 64)
    exact doD_full l k _ (by simpa using hk)
/-- How many bytes of write i are done. -/
def dnW (w t i : Nat) : Nat := if i < w then 64 else if i = w then t else 0
/-- A byte in no block that is written stays. -/
theorem doD_stays : ∀ (l : List Pw) (w t : Nat) (d : List Nat) (x : Nat), (∀ p ∈ l, okP d.length p) → t ≤ 64 → (∀ p ∈ l, ¬ (64 * p.n.toNat ≤ x ∧ x < 64 * p.n.toNat + 64)) → (doD l w t d).getD x 0 = d.getD x 0
  | [], _, _, _, _, _, _, _ => rfl
  | p :: l, 0, t, d, x, h, ht, hn => by
    obtain ⟨a, b⟩ := okP_to (h p (by simp))
    show (wrD d p.data p.n.toNat t).getD x 0 = _
    have := hn p (by simp)
    rw [wrD_get a b ht, if_neg (by omega)]
  | p :: l, w + 1, t, d, x, h, ht, hn => by
    obtain ⟨a, b⟩ := okP_to (h p (by simp))
    have hl := wrD_len a b (Nat.le_refl 64)
    show (doD l w t (wrD d p.data p.n.toNat 64)).getD x 0 = _
    have := hn p (by simp)
    rw [doD_stays l w t _ x (fun q hq => by rw [hl]; exact h q (by simp [hq])) ht (fun q hq => hn q (by simp [hq])), wrD_get a b (Nat.le_refl _), if_neg (by omega)]
/-- Of writes on blocks that are all other ones: the first bytes of each that are done are its own, the others as they were. -/
theorem doD_torn : ∀ (l : List Pw) (w t : Nat) (d : List Nat), (∀ p ∈ l, okP d.length p) → t ≤ 64 → (l.Pairwise fun p q => p.n ≠ q.n) → ∀ i (hi : i < l.length) j, j < 64 → (doD l w t d).getD (64 * l[i].n.toNat + j) 0 = if j < dnW w t i then l[i].data.getD j 0 else d.getD (64 * l[i].n.toNat + j) 0
  | [], _, _, _, _, _, _, i, hi, _, _ => absurd hi (by simp)
  | p :: l, 0, t, d, h, ht, hp, i, hi, j, hj => by
    obtain ⟨a, b⟩ := okP_to (h p (by simp))
    have hp1 := (List.pairwise_cons.1 hp).1
    show (wrD d p.data p.n.toNat t).getD _ 0 = _
    rw [wrD_get a b ht]
    cases i with
    | zero =>
      simp only [List.getElem_cons_zero]
      have e : dnW 0 t 0 = t := rfl
      rw [e]
      by_cases q : j < t
      · rw [if_pos (by omega), if_pos q, show 64 * p.n.toNat + j - 64 * p.n.toNat = j by omega]
      · rw [if_neg (by omega), if_neg q]
    | succ i =>
      have hil : i < l.length := by simpa using hi
      have hne := hp1 l[i] (List.getElem_mem hil)
      have hok := h l[i] (by simp [List.getElem_mem hil])
      have hok0 := h p (by simp)
      have e : dnW 0 t (i + 1) = 0 := by unfold dnW; rw [if_neg (by omega), if_neg (by omega)]
      simp only [List.getElem_cons_succ]
      have h2 := hok.1
      have h3 := hok0.1
      rw [e, if_neg (c := 64 * p.n.toNat ≤ 64 * l[i].n.toNat + j ∧ 64 * l[i].n.toNat + j < 64 * p.n.toNat + t) (by omega), if_neg (by omega)]
  | p :: l, w + 1, t, d, h, ht, hp, i, hi, j, hj => by
    obtain ⟨a, b⟩ := okP_to (h p (by simp))
    have hp1 := (List.pairwise_cons.1 hp).1
    have hp2 := (List.pairwise_cons.1 hp).2
    have hl := wrD_len a b (Nat.le_refl 64)
    have hok0 := h p (by simp)
    have h' : ∀ q ∈ l, okP (wrD d p.data p.n.toNat 64).length q := fun q hq => by rw [hl]; exact h q (by simp [hq])
    show (doD l w t (wrD d p.data p.n.toNat 64)).getD _ 0 = _
    cases i with
    | zero =>
      show (doD l w t (wrD d p.data p.n.toNat 64)).getD (64 * p.n.toNat + j) 0 = if j < dnW (w + 1) t 0 then p.data.getD j 0 else _
      have e : dnW (w + 1) t 0 = 64 := rfl
      rw [e, if_pos hj, doD_stays l w t _ _ h' ht (fun q hq => by
        have h1 := hp1 q hq
        have h2 := (h q (by simp [hq])).1
        have h3 := hok0.1
        omega), wrD_get a b (Nat.le_refl _), if_pos (by omega), show 64 * p.n.toNat + j - 64 * p.n.toNat = j by omega]
    | succ i =>
      have hil : i < l.length := by simpa using hi
      have hne := hp1 l[i] (List.getElem_mem hil)
      have hok := h l[i] (by simp [List.getElem_mem hil])
      have e : dnW (w + 1) t (i + 1) = dnW w t i := by
        unfold dnW
        by_cases q1 : i < w
        · rw [if_pos q1, if_pos (by omega)]
        · rw [if_neg q1, if_neg (by omega)]
          by_cases q2 : i = w
          · rw [if_pos q2, if_pos (by omega)]
          · rw [if_neg q2, if_neg (by omega)]
      show (doD l w t (wrD d p.data p.n.toNat 64)).getD (64 * l[i].n.toNat + j) 0 = if j < dnW (w + 1) t (i + 1) then l[i].data.getD j 0 else d.getD (64 * l[i].n.toNat + j) 0
      rw [e, doD_torn l w t _ h' ht hp2 i hil j hj, wrD_get a b (Nat.le_refl _)]
      have h2 := hok.1
      have h3 := hok0.1
      rw [if_neg (c := 64 * p.n.toNat ≤ 64 * l[i].n.toNat + j ∧ _) (by omega)]

end Go.Proofs.Ytlabjamkaebnjaa

