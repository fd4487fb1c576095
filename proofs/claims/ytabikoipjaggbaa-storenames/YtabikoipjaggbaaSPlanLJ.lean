/-
  Texts joined: some of those that the proofs of this seat stand on.
-/
import Derived.Test.YtabikoipjaggbaaWorld
import Derived.Test.YtabikoipjaggbaaSPlanR
/-
  Of the text PlanL: what this stage needs (culled by a program).
-/
namespace Go.Proofs.Ytabikoipjaggbaa
open Go.RowKit Go.Lib Go.Deep
set_option linter.unusedVariables false
set_option linter.unusedSimpArgs false

/-- Plans in new blocks. -/
structure PlN (w : World) (lo a n : Nat) (l : List Pl) : Prop where
  ex : ∃ r : Nat → Nat, Lie w (some ⟨a, 0, none⟩) n 3 (fun i j => plV (l.getD i q0) (some ⟨r i, 0, none⟩) (l.getD i q0).splits.length j) ∧ ∀ i, i < n → lo ≤ r i ∧ Lie w (some ⟨r i, 0, none⟩) (l.getD i q0).splits.length 1 (fun q _ => .int .i64 ((l.getD i q0).splits.getD q 0))
  lo : lo ≤ a
theorem PlN.keptR {w w' : World} {lo a n x : Nat} {l : List Pl} (h : PlN w lo a n l) (q : Kept w w' (some x)) (hx : x < lo) : PlN w' lo a n l := by
  obtain ⟨⟨r, h1, h2⟩, h3⟩ := h
  exact ⟨⟨r, h1.keptR q (fun _ y e f => by cases e; have f := Option.some.inj f; dsimp only at f; omega), fun i hi => ⟨(h2 i hi).1, (h2 i hi).2.keptR q (fun _ y e f => by cases e; have f := Option.some.inj f; dsimp only at f; have := (h2 i hi).1; omega)⟩⟩, h3⟩
set_option maxRecDepth 100000 in
set_option maxHeartbeats 1000000 in
theorem list_plan {w : World} {H b : Nat} {s : Rd} (h : Rdr w H b s) (hH : H ≤ w.heap.size) (n : Nat) (hn : n ≤ 24) : Calls Try.prog 98 #[.int .i64 n, .func (.func 100) #[.pointer (some ⟨b, 0, none⟩)] #[]] w fun e w' => e = .returned (.slice (some ⟨w.heap.size, 0, none⟩) n n) ∧ PlN w' w.heap.size w.heap.size n (listM plM n s).1 ∧ Rdr w' H b (listM plM n s).2 ∧ Kept w w' (some b) := by
  obtain ⟨i0, hi0, hz0, hz1, hz2⟩ := info_parts (show (Try.prog.info? 44).map (fun i => (i.zero, i.size, i.bytes)) = some (some (.agg #[.int .i64 0, .int .i64 0, .slice none 0 0]), 3, 40) from by kernel_rfl)
  have hmk := run_make (P := Try.prog) w 28 44 i0 _ (by kernel_rfl) hi0 hz0 .i64 .i64 n n (by omega) (Int.le_refl _) (by rw [hz2]; omega) (by omega)
  rw [hz1, Int.toNat_natCast] at hmk
  have hrow0 := madeRow w (Value.cells (.agg #[.int .i64 0, .int .i64 0, .slice none 0 0])) (n * 3) 44
  have hr0 := h.kept (Kept.alloc w (madeCells (Value.cells (.agg #[.int .i64 0, .int .i64 0, .slice none 0 0])) (n * 3)) 44 (0, 0) none) (fun i e => by cases e)
  have hk0 : Kept w (w.alloc (.cells (madeCells (Value.cells (.agg #[.int .i64 0, .int .i64 0, .slice none 0 0])) (n * 3)) 44)) (some b) := Kept.alloc _ _ _ _ _
  have hbl := h.lt
  have hbs : some w.heap.size ≠ some b := fun e => by injection e; omega
  generalize hW0 : w.alloc (.cells (madeCells (Value.cells (.agg #[.int .i64 0, .int .i64 0, .slice none 0 0])) (n * 3)) 44) = W0 at *
  have HR0 := Hid.mk' hr0
  have HRow0 := Hid.mk' hrow0
  clear h hr0 hrow0 hW0
  go_enter Try.func98, Try.ntmps98
  go_wp2
  clear hmk
  go_loopw [11] (fun i wr => ∃ k : Nat, k ≤ n ∧ i = .int .i64 k ∧ (∃ f, ∃ r : Nat → Nat, wr.rowIs w.heap.size 44 (n * 3) f ∧ (∀ i, i < k → ∀ j, j < 3 → f (i * 3 + j) = plV ((listM plM k s).1.getD i q0) (some ⟨r i, 0, none⟩) ((listM plM k s).1.getD i q0).splits.length j) ∧ ∀ i, i < k → w.heap.size + 1 ≤ r i ∧ Lie wr (some ⟨r i, 0, none⟩) ((listM plM k s).1.getD i q0).splits.length 1 (fun q _ => .int .i64 (((listM plM k s).1.getD i q0).splits.getD q 0))) ∧ Rdr wr H b (listM plM k s).2 ∧ Kept w wr (some b)) (fun i _ => n - (intOf i).toNat)
  case atStart => exact ⟨0, Nat.zero_le _, rfl, ⟨_, fun _ => 0, HRow0.out, fun i hi => by omega, fun i hi => by omega⟩, HR0.out, hk0⟩
  case round =>
    obtain ⟨k, hk, rfl, ⟨f, r, hrow, hf, hL⟩, hr, hkw⟩ := hrel
    by_cases hlt : k < n
    · have hgw := hrow.lt
      have hcall := plan_rd hr (by omega)
      have hsn := listM_snoc plM k s
      have hlen := listM_len plM k s
      have HF := Hid.mk' hf
      have HL := Hid.mk' hL
      have HROW := Hid.mk' hrow
      have HSN := Hid.mk' hsn
      have HLEN := Hid.mk' hlen
      have HCALL := Hid.mk' hcall
      clear hf hL hrow hsn hlen hcall hr
      generalize hx : (plM (listM plM k s).2).1 = x at *
      clear hx
      go_wp2_with (refine HCALL.out.mono ?_; rintro e w2 ⟨g2, hg2, rfl, hl2, hr2, hk2⟩; have hrow2 := row_kept HROW.out hk2 hbs; have k0 := hrow2.cell (i := k * 3) (by have := idx_lt (j := 0) hlt (show 0 < 3 by omega); omega); have z0 := hrow2.frozen (k * 3); have k1 := hrow2.cell (i := k * 3 + 1) (by have := idx_lt (j := 1) hlt (show 1 < 3 by omega); omega); have z1 := hrow2.frozen (k * 3 + 1); have k2 := hrow2.cell (i := k * 3 + 2) (by have := idx_lt (j := 2) hlt (show 2 < 3 by omega); omega); have z2 := hrow2.frozen (k * 3 + 2); have HL2 := Hid.mk' hl2; clear hl2)
      go_roundw
      case rel =>
        refine ⟨k + 1, by omega, by go_num, ⟨_, fun i => if i = k then g2 else r i, World.rowIs.set (World.rowIs.set (World.rowIs.set hrow2 (k * 3) (.int .i64 x.cycle)) (k * 3 + 1) (.int .i64 x.offset)) (k * 3 + 2) (.slice (some ⟨g2, 0, none⟩) x.splits.length x.splits.length), fun i hi j hj => ?_, fun i hi => ?_⟩, by rw [HSN.out]; exact ((hr2.setNew hH (k * 3) _).setNew hH (k * 3 + 1) _).setNew hH (k * 3 + 2) _, kept_new (kept_new (kept_new (hkw.tr hk2) (Nat.le_refl _) (k * 3) _) (Nat.le_refl _) (k * 3 + 1) _) (Nat.le_refl _) (k * 3 + 2) _⟩
        · rw [HSN.out]
          by_cases hik : i = k
          · subst hik
            have : j = 0 ∨ j = 1 ∨ j = 2 := by omega
            dsimp only
            rw [getD_snoc_eq HLEN.out.symm]
            rcases this with rfl | rfl | rfl <;> simp [plV]
          · have hne := fun q => idx_ne (q := q) (show i < k by omega) hj
            dsimp only
            rw [getD_snoc_lt (by rw [HLEN.out]; omega), if_neg hik]
            have h0 := HF.out i (by omega) j hj
            rw [← h0]
            rw [if_neg (by have := hne 2; omega), if_neg (by have := hne 1; omega), if_neg (by have := hne 0; omega)]
        · rw [HSN.out]
          have hset : ∀ (W : World) (y m q : Nat) (v : Value) (F : Nat → Nat → Value), w.heap.size + 1 ≤ y → Lie W (some ⟨y, 0, none⟩) m 1 F → Lie (W.setCell ⟨w.heap.size, q, none⟩ v) (some ⟨y, 0, none⟩) m 1 F := fun W y m q v F hy hl => hl.keptR (kept_set _ _ _ _) (fun _ x e f => by cases e; have f := Option.some.inj f; dsimp only at f; omega)
          by_cases hik : i = k
          · subst hik
            dsimp only
            rw [getD_snoc_eq HLEN.out.symm, if_pos rfl]
            exact ⟨by omega, hset _ _ _ _ _ _ (by omega) (hset _ _ _ _ _ _ (by omega) (hset _ _ _ _ _ _ (by omega) HL2.out))⟩
          · dsimp only
            rw [getD_snoc_lt (by rw [HLEN.out]; omega), if_neg hik]
            obtain ⟨hr1, hl1⟩ := HL.out i (by omega)
            have hl1 := hl1.keptR hk2 (fun _ x e f => by cases e; have f := Option.some.inj f; dsimp only at f; omega)
            exact ⟨hr1, hset _ _ _ _ _ _ hr1 (hset _ _ _ _ _ _ hr1 (hset _ _ _ _ _ _ hr1 hl1))⟩
      case measure => simp [intOf]; omega
    · have hkk : k = n := by omega
      subst hkk
      have HL := Hid.mk' (PlN.mk ⟨r, lie_row hrow hf, fun i hi => ⟨by have := (hL i hi).1; omega, (hL i hi).2⟩⟩ (Nat.le_refl w.heap.size))
      clear hf hrow hL
      go_wp2
      go_ret
      exact ⟨rfl, HL.out, hr, hkw⟩

end Go.Proofs.Ytabikoipjaggbaa

/-
  Of the text PlanS: what this stage needs (culled by a program).
-/
namespace Go.Proofs.Ytabikoipjaggbaa
open Go.RowKit Go.Lib Go.Deep
set_option linter.unusedVariables false
set_option linter.unusedSimpArgs false

set_option maxRecDepth 100000 in
set_option maxHeartbeats 1000000 in
theorem readPlans_any {w : World} {H b : Nat} {s : Rd} (h : Rdr w H b s) (hH : H ≤ w.heap.size) : Calls Try.prog 96 #[.pointer (some ⟨b, 0, none⟩)] w fun e w' => e = .returned (.tuple #[]) ∧ ∃ a, w'.cell? ⟨b, 2, none⟩ = some (.slice (some ⟨a, 0, none⟩) (plansM s).1.length (plansM s).1.length) ∧ PlN w' w.heap.size a (plansM s).1.length (plansM s).1 ∧ Rdr w' H b (plansM s).2 ∧ Kept w w' (some b) := by
  have hbl := h.lt
  have HE : Hid (plansM s = listM plM (upM 8 s).1 (upM 8 s).2) := rfl
  have hlen := listM_len plM (upM 8 s).1 (upM 8 s).2
  have hle := upM_le 8 s
  rw [HE.out, hlen]
  clear HE hlen
  generalize hu2 : upM 8 s = u2 at *
  have HU2 := Hid.mk' hu2
  clear hu2
  obtain ⟨v2, s2⟩ := u2
  dsimp only at *
  have H0 := Hid.mk' h
  clear h
  go_enter Try.func96, Try.ntmps96
  go_wp2_with (first
    | (have hgo := R2; clear hgo; go_at_call 98; refine (list_plan R2.out (by have h2 := hk2.size; omega) v2 (by omega)).mono ?_; rintro e w3 ⟨rfl, hl3, hr3, hk3⟩; obtain ⟨vc, k2⟩ := hr3.c2; have z2 := hr3.f2; have R3 := Hid.mk' hr3; have L3 := Hid.mk' hl3; clear hr3 hl3)
    | (go_at_call 99; have hn := many_any H0.out 8 (by omega); rw [HU2.out] at hn; refine hn.mono ?_; rintro e w2 ⟨rfl, hr2, hk2⟩; have R2 := Hid.mk' hr2; clear hr2))
  have hsz := hk2.size
  go_end0
  exact ⟨rfl, w2.heap.size, World.cell?_setCell_same' _ _ _ (by rw [k2]; rfl), by
    obtain ⟨⟨r, h1, h2⟩, h3⟩ := L3.out
    exact PlN.keptR ⟨⟨r, h1, fun i hi => ⟨by have := (h2 i hi).1; omega, (h2 i hi).2⟩⟩, by omega⟩ (kept_set _ _ _ _) (by omega), R3.out.put _, (hk2.tr hk3).tr (kept_set _ _ _ _)⟩
/-- Rows in new blocks. -/
structure GrN (w : World) (lo a n : Nat) (l : List (List Int)) : Prop where
  ex : ∃ r : Nat → Nat, Lie w (some ⟨a, 0, none⟩) n 1 (fun i j => .slice (some ⟨r i, 0, none⟩) (l.getD i []).length (l.getD i []).length) ∧ ∀ i, i < n → lo ≤ r i ∧ Lie w (some ⟨r i, 0, none⟩) (l.getD i []).length 1 (fun q _ => .int .i64 ((l.getD i []).getD q 0))
  lo : lo ≤ a
theorem GrN.keptR {w w' : World} {lo a n x : Nat} {l : List (List Int)} (h : GrN w lo a n l) (q : Kept w w' (some x)) (hx : x < lo) : GrN w' lo a n l := by
  obtain ⟨⟨r, h1, h2⟩, h3⟩ := h
  exact ⟨⟨r, h1.keptR q (fun _ y e f => by cases e; have f := Option.some.inj f; dsimp only at f; omega), fun i hi => ⟨(h2 i hi).1, (h2 i hi).2.keptR q (fun _ y e f => by cases e; have f := Option.some.inj f; dsimp only at f; have := (h2 i hi).1; omega)⟩⟩, h3⟩
end Go.Proofs.Ytabikoipjaggbaa

