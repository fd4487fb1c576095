/-
  THE CONTRACTS of readPlans, of the function in site that reads a row, of listOf over rows.
-/
import Derived.Test.YtpajefkfnhibnaaDoorPlanL
namespace Go.Proofs.YtpajefkfnhibnaaDoor
open Go.RowKit Go.Lib Go.Deep
set_option linter.unusedVariables false
set_option linter.unusedSimpArgs false

set_option maxRecDepth 100000 in
set_option maxHeartbeats 1000000 in
theorem readPlans_any {w : World} {H b : Nat} {s : Rd} (h : Rdr w H b s) (hH : H ≤ w.heap.size) : Calls Tryd.prog 45 #[.pointer (some ⟨b, 0, none⟩)] w fun e w' => e = .returned (.tuple #[]) ∧ ∃ a, w'.cell? ⟨b, 2, none⟩ = some (.slice (some ⟨a, 0, none⟩) (plansM s).1.length (plansM s).1.length) ∧ PlN w' w.heap.size a (plansM s).1.length (plansM s).1 ∧ Rdr w' H b (plansM s).2 ∧ Kept w w' (some b) := by
  have hbl := h.lt
  have HE : Hid (plansM s = listM plM (upM 8 s).1 (upM 8 s).2) := rfl
  have hlen := listM_len plM (upM 8 s).1 (upM 8 s).2
  have hle := upM_le 8 s
  rw [HE.out, hlen]
  clear HE hlen
  generalize hu2 : upM 8 s = u2 at *
  have HU2 := Hid.mk' hu2
  clear hu2
  obtain ⟨v2, s2⟩ := u2
  dsimp only at *
  have H0 := Hid.mk' h
  clear h
  go_enter Tryd.func45, Tryd.ntmps45
  go_wp2_with (first
    | (have hgo := R2; clear hgo; go_at_call 71; refine (list_plan R2.out (by have h2 := hk2.size; omega) v2 (by omega)).mono ?_; rintro e w3 ⟨rfl, hl3, hr3, hk3⟩; obtain ⟨vc, k2⟩ := hr3.c2; have z2 := hr3.f2; have R3 := Hid.mk' hr3; have L3 := Hid.mk' hl3; clear hr3 hl3)
    | (go_at_call 72; have hn := many_any H0.out 8 (by omega); rw [HU2.out] at hn; refine hn.mono ?_; rintro e w2 ⟨rfl, hr2, hk2⟩; have R2 := Hid.mk' hr2; clear hr2))
  have hsz := hk2.size
  go_end0
  exact ⟨rfl, w2.heap.size, World.cell?_setCell_same' _ _ _ (by rw [k2]; rfl), by
    obtain ⟨⟨r, h1, h2⟩, h3⟩ := L3.out
    exact PlN.keptR ⟨⟨r, h1, fun i hi => ⟨by have := (h2 i hi).1; omega, (h2 i hi).2⟩⟩, by omega⟩ (kept_set _ _ _ _) (by omega), R3.out.put _, (hk2.tr hk3).tr (kept_set _ _ _ _)⟩
set_option maxRecDepth 100000 in
set_option maxHeartbeats 1000000 in
theorem row_rd {w : World} {H b gb rb n : Nat} {s : Rd} (h : Rdr w H b s) (hH : H ≤ w.heap.size) (hn : n ≤ 24) (hg : w.cell? ⟨gb, 0, none⟩ = some (.int .i64 (n : Int))) (hr : w.cell? ⟨rb, 0, none⟩ = some (.pointer (some ⟨b, 0, none⟩))) (hgb : gb ≠ b) (hrb : rb ≠ b) : Calls Tryd.prog 96 #[.pointer (some ⟨gb, 0, none⟩), .pointer (some ⟨rb, 0, none⟩)] w fun e w' => e = .returned (.slice (some ⟨w.heap.size, 0, none⟩) n n) ∧ Lie w' (some ⟨w.heap.size, 0, none⟩) n 1 (fun i j => .int .i64 ((listM numM n s).1.getD i 0)) ∧ Rdr w' H b (listM numM n s).2 ∧ Kept w w' (some b) := by
  have H0 := Hid.mk' h
  clear h
  go_enter Tryd.func96, Tryd.ntmps96
  go_wp2
  refine wp_region_held_drew (S := fun w' => w'.cell? ⟨gb, 0, none⟩ = some (.int .i64 (n : Int)) ∧ w'.cell? ⟨rb, 0, none⟩ = some (.pointer (some ⟨b, 0, none⟩))) (by kernel_rfl) ⟨hg, hr⟩ (fun hHeld => ?_)
  refine held_take (i := 0) (v := ?vh1x0) rfl rfl (by kernel_rfl) (by kernel_rfl) (by kernel_rfl) (fun _ _ _ h => h) (Or.inl ⟨by rfl, ?hyh1x0⟩) hHeld ?resth1x0
  case hyh1x0 => first | (intro w hSw; go_simp; done) | (intro w hSw; go_simp; with_reducible rfl)
  try simp only [List.setIfInBounds_toArray, List.set_cons_zero, List.set_cons_succ]
  refine held_take (i := 1) (v := ?vh1x1) rfl rfl (by kernel_rfl) (by kernel_rfl) (by kernel_rfl) (fun _ _ _ h => h) (Or.inl ⟨by rfl, ?hyh1x1⟩) hHeld ?resth1x1
  case hyh1x1 => first | (intro w hSw; go_simp; done) | (intro w hSw; go_simp; with_reducible rfl)
  try simp only [List.setIfInBounds_toArray, List.set_cons_zero, List.set_cons_succ]
  refine held_take (i := 2) (v := ?vh1x2) rfl rfl (by kernel_rfl) (by kernel_rfl) (by kernel_rfl) (fun _ _ _ h => h) (Or.inl ⟨by rfl, ?hyh1x2⟩) hHeld ?resth1x2
  case hyh1x2 => first | (intro w hSw; go_simp; done) | (intro w hSw; go_simp; with_reducible rfl)
  try simp only [List.setIfInBounds_toArray, List.set_cons_zero, List.set_cons_succ]
  refine held_take (i := 3) (v := ?vh1x3) rfl rfl (by kernel_rfl) (by kernel_rfl) (by kernel_rfl) (fun _ _ _ h => h) (Or.inl ⟨by rfl, ?hyh1x3⟩) hHeld ?resth1x3
  case hyh1x3 => first | (intro w hSw; go_simp; done) | (intro w hSw; go_simp; with_reducible rfl)
  try simp only [List.setIfInBounds_toArray, List.set_cons_zero, List.set_cons_succ]
  refine held_take (i := 4) (v := ?vh1x4) rfl rfl (by kernel_rfl) (by kernel_rfl) (by kernel_rfl) (fun _ _ _ h => h) (Or.inl ⟨by rfl, ?hyh1x4⟩) hHeld ?resth1x4
  case hyh1x4 => first | (intro w hSw; go_simp; done) | (intro w hSw; go_simp; with_reducible rfl)
  try simp only [List.setIfInBounds_toArray, List.set_cons_zero, List.set_cons_succ]
  refine wpAnyH_ready (rs := [5]) (by kernel_rfl) (by simp) ?_
  refine AllReadyH.cons rfl (fun K hK => ?_) AllReadyH.nil
  go_simp
  go_wp2_with (go_at_call 97; refine (list_int H0.out.drew hH n hn).mono ?_; rintro e w3 ⟨rfl, hl3, hr3, hk3⟩)
  refine hK.out _ _ ⟨cell_keptR hHeld.1 hk3 (fun e => hgb (Option.some.inj e)), cell_keptR hHeld.2 hk3 (fun e => hrb (Option.some.inj e))⟩ (fun hHeld2 => ?_)
  clear hK K
  refine wpAnyH_ready (rs := [6]) (by kernel_rfl) (by simp) ?_
  refine AllReadyH.cons rfl (fun K hK => ?_) AllReadyH.nil
  go_simp
  refine hK.out _ _ hHeld2 (fun hHeld3 => ?_)
  clear hK K
  refine wpAnyH_done (by kernel_rfl) ?_ _
  go_wp2_with fail
  go_ret
  exact ⟨rfl, hl3, hr3, (Kept.drew _ _).tr hk3⟩
/-- Rows in new blocks. -/
structure GrN (w : World) (lo a n : Nat) (l : List (List Int)) : Prop where
  ex : ∃ r : Nat → Nat, Lie w (some ⟨a, 0, none⟩) n 1 (fun i j => .slice (some ⟨r i, 0, none⟩) (l.getD i []).length (l.getD i []).length) ∧ ∀ i, i < n → lo ≤ r i ∧ Lie w (some ⟨r i, 0, none⟩) (l.getD i []).length 1 (fun q _ => .int .i64 ((l.getD i []).getD q 0))
  lo : lo ≤ a
theorem GrN.keptR {w w' : World} {lo a n x : Nat} {l : List (List Int)} (h : GrN w lo a n l) (q : Kept w w' (some x)) (hx : x < lo) : GrN w' lo a n l := by
  obtain ⟨⟨r, h1, h2⟩, h3⟩ := h
  exact ⟨⟨r, h1.keptR q (fun _ y e f => by cases e; have f := Option.some.inj f; dsimp only at f; omega), fun i hi => ⟨(h2 i hi).1, (h2 i hi).2.keptR q (fun _ y e f => by cases e; have f := Option.some.inj f; dsimp only at f; have := (h2 i hi).1; omega)⟩⟩, h3⟩
set_option maxRecDepth 100000 in
set_option maxHeartbeats 1000000 in
theorem list_row {w : World} {H b gb rb : Nat} {s : Rd} (h : Rdr w H b s) (hH : H ≤ w.heap.size) (n : Nat) (hn : n ≤ 24) (hg : w.cell? ⟨gb, 0, none⟩ = some (.int .i64 (n : Int))) (hr : w.cell? ⟨rb, 0, none⟩ = some (.pointer (some ⟨b, 0, none⟩))) (hgb : gb ≠ b) (hrb : rb ≠ b) : Calls Tryd.prog 95 #[.int .i64 n, .func (.func 96) #[] #[.pointer (some ⟨gb, 0, none⟩), .pointer (some ⟨rb, 0, none⟩)]] w fun e w' => e = .returned (.slice (some ⟨w.heap.size, 0, none⟩) n n) ∧ GrN w' w.heap.size w.heap.size n (listM (listM numM n) n s).1 ∧ Rdr w' H b (listM (listM numM n) n s).2 ∧ Kept w w' (some b) := by
  obtain ⟨i0, hi0, hz0, hz1, hz2⟩ := info_parts (show (Tryd.prog.info? 31).map (fun i => (i.zero, i.size, i.bytes)) = some (some (.slice none 0 0), 1, 24) from by kernel_rfl)
  have hmk := run_make (P := Tryd.prog) w 24 31 i0 _ (by kernel_rfl) hi0 hz0 .i64 .i64 n n (by omega) (Int.le_refl _) (by rw [hz2]; omega) (by omega)
  rw [hz1, Int.toNat_natCast] at hmk
  have hrow0 := madeRow w (Value.cells (.slice none 0 0)) (n * 1) 31
  have hr0 := h.kept (Kept.alloc w (madeCells (Value.cells (.slice none 0 0)) (n * 1)) 31 (0, 0) none) (fun i e => by cases e)
  have hk0 : Kept w (w.alloc (.cells (madeCells (Value.cells (.slice none 0 0)) (n * 1)) 31)) (some b) := Kept.alloc _ _ _ _ _
  have hbl := h.lt
  have hbs : some w.heap.size ≠ some b := fun e => by injection e; omega
  have hgl := block_lt hg
  have hrl := block_lt hr
  generalize hW0 : w.alloc (.cells (madeCells (Value.cells (.slice none 0 0)) (n * 1)) 31) = W0 at *
  have HR0 := Hid.mk' hr0
  have HRow0 := Hid.mk' hrow0
  have HG := Hid.mk' hg
  have HRB := Hid.mk' hr
  clear h hr0 hrow0 hW0 hg hr
  go_enter Tryd.func95, Tryd.ntmps95
  go_wp2
  clear hmk
  go_loopw [11] (fun i wr => ∃ k : Nat, k ≤ n ∧ i = .int .i64 k ∧ (∃ f, ∃ r : Nat → Nat, wr.rowIs w.heap.size 31 (n * 1) f ∧ (∀ i, i < k → ∀ j, j < 1 → f (i * 1 + j) = .slice (some ⟨r i, 0, none⟩) ((listM (listM numM n) k s).1.getD i []).length ((listM (listM numM n) k s).1.getD i []).length) ∧ ∀ i, i < k → w.heap.size + 1 ≤ r i ∧ Lie wr (some ⟨r i, 0, none⟩) ((listM (listM numM n) k s).1.getD i []).length 1 (fun q _ => .int .i64 (((listM (listM numM n) k s).1.getD i []).getD q 0))) ∧ Rdr wr H b (listM (listM numM n) k s).2 ∧ Kept w wr (some b)) (fun i _ => n - (intOf i).toNat)
  case atStart => exact ⟨0, Nat.zero_le _, rfl, ⟨_, fun _ => 0, HRow0.out, fun i hi => by omega, fun i hi => by omega⟩, HR0.out, hk0⟩
  case round =>
    obtain ⟨k, hk, rfl, ⟨f, r, hrow, hf, hL⟩, hr, hkw⟩ := hrel
    by_cases hlt : k < n
    · have hgw := hrow.lt
      have hcall := row_rd hr (by omega) hn (cell_keptR HG.out hkw (fun e => hgb (Option.some.inj e))) (cell_keptR HRB.out hkw (fun e => hrb (Option.some.inj e))) hgb hrb
      have hsn := listM_snoc (listM numM n) k s
      have hlen := listM_len (listM numM n) k s
      have hxl := listM_len numM n (listM (listM numM n) k s).2
      have HF := Hid.mk' hf
      have HL := Hid.mk' hL
      have HROW := Hid.mk' hrow
      have HSN := Hid.mk' hsn
      have HLEN := Hid.mk' hlen
      have HCALL := Hid.mk' hcall
      clear hf hL hrow hsn hlen hcall hr
      generalize hx : (listM numM n (listM (listM numM n) k s).2).1 = x at *
      have HXL := Hid.mk' hxl
      clear hx hxl
      go_wp2_with (refine HCALL.out.mono ?_; rintro e w2 ⟨rfl, hl2, hr2, hk2⟩; have hrow2 := row_kept HROW.out hk2 hbs; have k0 := hrow2.cell (i := k) (by omega); have z0 := hrow2.frozen k; have HL2 := Hid.mk' hl2; clear hl2)
      go_roundw
      case rel =>
        refine ⟨k + 1, by omega, by go_num, ⟨_, fun i => if i = k then wr.heap.size else r i, World.rowIs.set hrow2 k (.slice (some ⟨wr.heap.size, 0, none⟩) n n), fun i hi j hj => ?_, fun i hi => ?_⟩, by rw [HSN.out]; exact hr2.setNew hH k _, kept_new (hkw.tr hk2) (Nat.le_refl _) k _⟩
        · rw [HSN.out]
          by_cases hik : i = k
          · subst hik
            have : j = 0 := by omega
            subst this
            dsimp only
            rw [getD_snoc_eq HLEN.out.symm]
            simp [HXL.out]
          · dsimp only
            rw [getD_snoc_lt (by rw [HLEN.out]; omega), if_neg hik]
            have h0 := HF.out i (by omega) j hj
            rw [← h0]
            rw [if_neg (by omega)]
        · rw [HSN.out]
          have hset : ∀ (W : World) (y m q : Nat) (v : Value) (F : Nat → Nat → Value), w.heap.size + 1 ≤ y → Lie W (some ⟨y, 0, none⟩) m 1 F → Lie (W.setCell ⟨w.heap.size, q, none⟩ v) (some ⟨y, 0, none⟩) m 1 F := fun W y m q v F hy hl => hl.keptR (kept_set _ _ _ _) (fun _ x e f => by cases e; have f := Option.some.inj f; dsimp only at f; omega)
          by_cases hik : i = k
          · subst hik
            dsimp only
            rw [getD_snoc_eq HLEN.out.symm, if_pos rfl, HXL.out]
            exact ⟨by omega, hset _ _ _ _ _ _ (by omega) HL2.out⟩
          · dsimp only
            rw [getD_snoc_lt (by rw [HLEN.out]; omega), if_neg hik]
            obtain ⟨hr1, hl1⟩ := HL.out i (by omega)
            have hl1 := hl1.keptR hk2 (fun _ x e f => by cases e; have f := Option.some.inj f; dsimp only at f; omega)
            exact ⟨hr1, hset _ _ _ _ _ _ hr1 hl1⟩
      case measure => simp [intOf]; omega
    · have hkk : k = n := by omega
      subst hkk
      have HL := Hid.mk' (GrN.mk ⟨r, lie_row hrow hf, fun i hi => ⟨by have := (hL i hi).1; omega, (hL i hi).2⟩⟩ (Nat.le_refl w.heap.size))
      clear hf hrow hL
      go_wp2
      go_ret
      exact ⟨rfl, HL.out, hr, hkw⟩

end Go.Proofs.YtpajefkfnhibnaaDoor
