/-
  THE CONTRACTS of listOf over plain elements.
-/
import Derived.Test.YtpajefkfnhibnaaDoorLists
import Derived.Laws.MakeOwn
namespace Go.Proofs.YtpajefkfnhibnaaDoor
open Go.RowKit Go.Lib Go.Deep
set_option linter.unusedVariables false
set_option linter.unusedSimpArgs false

set_option maxRecDepth 100000 in
set_option maxHeartbeats 1000000 in
theorem list_int {w : World} {H b : Nat} {s : Rd} (h : Rdr w H b s) (hH : H ≤ w.heap.size) (n : Nat) (hn : n ≤ 24) : Calls Tryd.prog 97 #[.int .i64 n, .func (.func 90) #[.pointer (some ⟨b, 0, none⟩)] #[]] w fun e w' => e = .returned (.slice (some ⟨w.heap.size, 0, none⟩) n n) ∧ Lie w' (some ⟨w.heap.size, 0, none⟩) n 1 (fun i j => .int .i64 ((listM numM n s).1.getD i 0)) ∧ Rdr w' H b (listM numM n s).2 ∧ Kept w w' (some b) := by
  obtain ⟨i0, hi0, hz0, hz1, hz2⟩ := info_parts (show (Tryd.prog.info? 3).map (fun i => (i.zero, i.size, i.bytes)) = some (some (.int .i64 0), 1, 8) from by kernel_rfl)
  have hmk := run_make (P := Tryd.prog) w 31 3 i0 _ (by kernel_rfl) hi0 hz0 .i64 .i64 n n (by omega) (Int.le_refl _) (by rw [hz2]; omega) (by omega)
  rw [hz1, Int.toNat_natCast] at hmk
  have hrow0 := madeRow w (Value.cells (.int .i64 0)) (n * 1) 3
  have hr0 := h.kept (Kept.alloc w (madeCells (Value.cells (.int .i64 0)) (n * 1)) 3 (0, 0) none) (fun i e => by cases e)
  have hk0 : Kept w (w.alloc (.cells (madeCells (Value.cells (.int .i64 0)) (n * 1)) 3)) (some b) := Kept.alloc _ _ _ _ _
  have hbl := h.lt
  have hbs : some w.heap.size ≠ some b := fun e => by injection e; omega
  generalize hW0 : w.alloc (.cells (madeCells (Value.cells (.int .i64 0)) (n * 1)) 3) = W0 at *
  have HR0 := Hid.mk' hr0
  have HRow0 := Hid.mk' hrow0
  clear h hr0 hrow0 hW0
  go_enter Tryd.func97, Tryd.ntmps97
  go_wp2
  clear hmk
  go_loopw [11] (fun i wr => ∃ k : Nat, k ≤ n ∧ i = .int .i64 k ∧ (∃ f, wr.rowIs w.heap.size 3 (n * 1) f ∧ ∀ i, i < k → ∀ j, j < 1 → f (i * 1 + j) = (fun i j => .int .i64 ((listM numM k s).1.getD i 0)) i j) ∧ Rdr wr H b (listM numM k s).2 ∧ Kept w wr (some b)) (fun i _ => n - (intOf i).toNat)
  case atStart => exact ⟨0, Nat.zero_le _, rfl, ⟨_, HRow0.out, fun i hi => by omega⟩, HR0.out, hk0⟩
  case round =>
    obtain ⟨k, hk, rfl, ⟨f, hrow, hf⟩, hr, hkw⟩ := hrel
    by_cases hlt : k < n
    · have hcall := number_any hr
      have hsn := listM_snoc numM k s
      have hlen := listM_len numM k s
      have HF := Hid.mk' hf
      have HROW := Hid.mk' hrow
      have HSN := Hid.mk' hsn
      have HLEN := Hid.mk' hlen
      have HCALL := Hid.mk' hcall
      clear hf hrow hsn hlen hcall hr
      generalize hx : (numM (listM numM k s).2).1 = x at *
      clear hx
      go_wp2_with (refine HCALL.out.mono ?_; rintro e w2 ⟨rfl, hr2, hk2⟩; have hrow2 := row_kept HROW.out hk2 hbs; have k0 := hrow2.cell (i := k) (by have := idx_lt (j := 0) hlt (show 0 < 1 by omega); omega); have z0 := hrow2.frozen (k))
      go_roundw
      case rel =>
        refine ⟨k + 1, by omega, by go_num, ⟨_, (World.rowIs.set hrow2 (k) (.int .i64 x)), fun i hi j hj => ?_⟩, by rw [HSN.out]; exact (hr2.setNew hH (k) _), (kept_new (hkw.tr hk2) (Nat.le_refl _) (k) _)⟩
        rw [HSN.out]
        by_cases hik : i = k
        · subst hik
          have : j = 0 := by omega
          try dsimp only
          rw [getD_snoc_eq HLEN.out.symm]
          subst this; simp
        · have hne := fun q => idx_ne (q := q) (show i < k by omega) hj
          try dsimp only
          rw [getD_snoc_lt (by rw [HLEN.out]; omega)]
          have h0 := HF.out i (by omega) j hj
          try dsimp only at h0
          rw [← h0]
          rw [if_neg (by have := hne 0; omega)]
      case measure => simp [intOf]; omega
    · have hkk : k = n := by omega
      subst hkk
      have HL := Hid.mk' (lie_row hrow hf)
      clear hf hrow
      go_wp2
      go_ret
      exact ⟨rfl, HL.out, hr, hkw⟩
set_option maxRecDepth 100000 in
set_option maxHeartbeats 1000000 in
theorem list_set {w : World} {H b : Nat} {s : Rd} (h : Rdr w H b s) (hH : H ≤ w.heap.size) (n : Nat) (hn : n ≤ 24) : Calls Tryd.prog 93 #[.int .i64 n, .func (.func 94) #[.pointer (some ⟨b, 0, none⟩)] #[]] w fun e w' => e = .returned (.slice (some ⟨w.heap.size, 0, none⟩) n n) ∧ Lie w' (some ⟨w.heap.size, 0, none⟩) n 1 (fun i j => .int .u32 ((listM (upM 4294967295) n s).1.getD i 0 : Int)) ∧ Rdr w' H b (listM (upM 4294967295) n s).2 ∧ Kept w w' (some b) := by
  obtain ⟨i0, hi0, hz0, hz1, hz2⟩ := info_parts (show (Tryd.prog.info? 32).map (fun i => (i.zero, i.size, i.bytes)) = some (some (.int .u32 0), 1, 4) from by kernel_rfl)
  have hmk := run_make (P := Tryd.prog) w 23 32 i0 _ (by kernel_rfl) hi0 hz0 .i64 .i64 n n (by omega) (Int.le_refl _) (by rw [hz2]; omega) (by omega)
  rw [hz1, Int.toNat_natCast] at hmk
  have hrow0 := madeRow w (Value.cells (.int .u32 0)) (n * 1) 32
  have hr0 := h.kept (Kept.alloc w (madeCells (Value.cells (.int .u32 0)) (n * 1)) 32 (0, 0) none) (fun i e => by cases e)
  have hk0 : Kept w (w.alloc (.cells (madeCells (Value.cells (.int .u32 0)) (n * 1)) 32)) (some b) := Kept.alloc _ _ _ _ _
  have hbl := h.lt
  have hbs : some w.heap.size ≠ some b := fun e => by injection e; omega
  generalize hW0 : w.alloc (.cells (madeCells (Value.cells (.int .u32 0)) (n * 1)) 32) = W0 at *
  have HR0 := Hid.mk' hr0
  have HRow0 := Hid.mk' hrow0
  clear h hr0 hrow0 hW0
  go_enter Tryd.func93, Tryd.ntmps93
  go_wp2
  clear hmk
  go_loopw [11] (fun i wr => ∃ k : Nat, k ≤ n ∧ i = .int .i64 k ∧ (∃ f, wr.rowIs w.heap.size 32 (n * 1) f ∧ ∀ i, i < k → ∀ j, j < 1 → f (i * 1 + j) = (fun i j => .int .u32 ((listM (upM 4294967295) k s).1.getD i 0 : Int)) i j) ∧ Rdr wr H b (listM (upM 4294967295) k s).2 ∧ Kept w wr (some b)) (fun i _ => n - (intOf i).toNat)
  case atStart => exact ⟨0, Nat.zero_le _, rfl, ⟨_, HRow0.out, fun i hi => by omega⟩, HR0.out, hk0⟩
  case round =>
    obtain ⟨k, hk, rfl, ⟨f, hrow, hf⟩, hr, hkw⟩ := hrel
    by_cases hlt : k < n
    · have hcall := set_any hr
      have hsn := listM_snoc (upM 4294967295) k s
      have hlen := listM_len (upM 4294967295) k s
      have HF := Hid.mk' hf
      have HROW := Hid.mk' hrow
      have HSN := Hid.mk' hsn
      have HLEN := Hid.mk' hlen
      have HCALL := Hid.mk' hcall
      clear hf hrow hsn hlen hcall hr
      generalize hx : ((upM 4294967295) (listM (upM 4294967295) k s).2).1 = x at *
      clear hx
      go_wp2_with (refine HCALL.out.mono ?_; rintro e w2 ⟨rfl, hr2, hk2⟩; have hrow2 := row_kept HROW.out hk2 hbs; have k0 := hrow2.cell (i := k) (by have := idx_lt (j := 0) hlt (show 0 < 1 by omega); omega); have z0 := hrow2.frozen (k))
      go_roundw
      case rel =>
        refine ⟨k + 1, by omega, by go_num, ⟨_, (World.rowIs.set hrow2 (k) (.int .u32 (x : Int))), fun i hi j hj => ?_⟩, by rw [HSN.out]; exact (hr2.setNew hH (k) _), (kept_new (hkw.tr hk2) (Nat.le_refl _) (k) _)⟩
        rw [HSN.out]
        by_cases hik : i = k
        · subst hik
          have : j = 0 := by omega
          try dsimp only
          rw [getD_snoc_eq HLEN.out.symm]
          subst this; simp
        · have hne := fun q => idx_ne (q := q) (show i < k by omega) hj
          try dsimp only
          rw [getD_snoc_lt (by rw [HLEN.out]; omega)]
          have h0 := HF.out i (by omega) j hj
          try dsimp only at h0
          rw [← h0]
          rw [if_neg (by have := hne 0; omega)]
      case measure => simp [intOf]; omega
    · have hkk : k = n := by omega
      subst hkk
      have HL := Hid.mk' (lie_row hrow hf)
      clear hf hrow
      go_wp2
      go_ret
      exact ⟨rfl, HL.out, hr, hkw⟩
set_option maxRecDepth 100000 in
set_option maxHeartbeats 1000000 in
theorem list_group {w : World} {H b : Nat} {s : Rd} (h : Rdr w H b s) (hH : H ≤ w.heap.size) (n : Nat) (hn : n ≤ 24) : Calls Tryd.prog 91 #[.int .i64 n, .func (.func 92) #[.pointer (some ⟨b, 0, none⟩)] #[]] w fun e w' => e = .returned (.slice (some ⟨w.heap.size, 0, none⟩) n n) ∧ Lie w' (some ⟨w.heap.size, 0, none⟩) n 3 (fun i j => grV ((listM grM n s).1.getD i g0) j) ∧ Rdr w' H b (listM grM n s).2 ∧ Kept w w' (some b) := by
  obtain ⟨i0, hi0, hz0, hz1, hz2⟩ := info_parts (show (Tryd.prog.info? 75).map (fun i => (i.zero, i.size, i.bytes)) = some (some (.agg #[.int .u8 0, .int .i64 0, .int .i64 0]), 3, 24) from by kernel_rfl)
  have hmk := run_make (P := Tryd.prog) w 22 75 i0 _ (by kernel_rfl) hi0 hz0 .i64 .i64 n n (by omega) (Int.le_refl _) (by rw [hz2]; omega) (by omega)
  rw [hz1, Int.toNat_natCast] at hmk
  have hrow0 := madeRow w (Value.cells (.agg #[.int .u8 0, .int .i64 0, .int .i64 0])) (n * 3) 75
  have hr0 := h.kept (Kept.alloc w (madeCells (Value.cells (.agg #[.int .u8 0, .int .i64 0, .int .i64 0])) (n * 3)) 75 (0, 0) none) (fun i e => by cases e)
  have hk0 : Kept w (w.alloc (.cells (madeCells (Value.cells (.agg #[.int .u8 0, .int .i64 0, .int .i64 0])) (n * 3)) 75)) (some b) := Kept.alloc _ _ _ _ _
  have hbl := h.lt
  have hbs : some w.heap.size ≠ some b := fun e => by injection e; omega
  generalize hW0 : w.alloc (.cells (madeCells (Value.cells (.agg #[.int .u8 0, .int .i64 0, .int .i64 0])) (n * 3)) 75) = W0 at *
  have HR0 := Hid.mk' hr0
  have HRow0 := Hid.mk' hrow0
  clear h hr0 hrow0 hW0
  go_enter Tryd.func91, Tryd.ntmps91
  go_wp2
  clear hmk
  go_loopw [11] (fun i wr => ∃ k : Nat, k ≤ n ∧ i = .int .i64 k ∧ (∃ f, wr.rowIs w.heap.size 75 (n * 3) f ∧ ∀ i, i < k → ∀ j, j < 3 → f (i * 3 + j) = (fun i j => grV ((listM grM k s).1.getD i g0) j) i j) ∧ Rdr wr H b (listM grM k s).2 ∧ Kept w wr (some b)) (fun i _ => n - (intOf i).toNat)
  case atStart => exact ⟨0, Nat.zero_le _, rfl, ⟨_, HRow0.out, fun i hi => by omega⟩, HR0.out, hk0⟩
  case round =>
    obtain ⟨k, hk, rfl, ⟨f, hrow, hf⟩, hr, hkw⟩ := hrel
    by_cases hlt : k < n
    · have hcall := group_rd hr (by have := hkw.size; omega)
      have hsn := listM_snoc grM k s
      have hlen := listM_len grM k s
      have HF := Hid.mk' hf
      have HROW := Hid.mk' hrow
      have HSN := Hid.mk' hsn
      have HLEN := Hid.mk' hlen
      have HCALL := Hid.mk' hcall
      clear hf hrow hsn hlen hcall hr
      generalize hx : (grM (listM grM k s).2).1 = x at *
      clear hx
      go_wp2_with (refine HCALL.out.mono ?_; rintro e w2 ⟨rfl, hr2, hk2⟩; have hrow2 := row_kept HROW.out hk2 hbs; have k0 := hrow2.cell (i := k * 3) (by have := idx_lt (j := 0) hlt (show 0 < 3 by omega); omega); have z0 := hrow2.frozen (k * 3); have k1 := hrow2.cell (i := k * 3 + 1) (by have := idx_lt (j := 1) hlt (show 1 < 3 by omega); omega); have z1 := hrow2.frozen (k * 3 + 1); have k2 := hrow2.cell (i := k * 3 + 2) (by have := idx_lt (j := 2) hlt (show 2 < 3 by omega); omega); have z2 := hrow2.frozen (k * 3 + 2))
      go_roundw
      case rel =>
        refine ⟨k + 1, by omega, by go_num, ⟨_, (World.rowIs.set (World.rowIs.set (World.rowIs.set hrow2 (k * 3) (.int .u8 (x.kind : Int))) (k * 3 + 1) (.int .i64 x.min)) (k * 3 + 2) (.int .i64 x.yellow)), fun i hi j hj => ?_⟩, by rw [HSN.out]; exact (((hr2.setNew hH (k * 3) _).setNew hH (k * 3 + 1) _).setNew hH (k * 3 + 2) _), (kept_new (kept_new (kept_new (hkw.tr hk2) (Nat.le_refl _) (k * 3) _) (Nat.le_refl _) (k * 3 + 1) _) (Nat.le_refl _) (k * 3 + 2) _)⟩
        rw [HSN.out]
        by_cases hik : i = k
        · subst hik
          have : j = 0 ∨ j = 1 ∨ j = 2 := by omega
          try dsimp only
          rw [getD_snoc_eq HLEN.out.symm]
          rcases this with rfl | rfl | rfl <;> simp [grV]
        · have hne := fun q => idx_ne (q := q) (show i < k by omega) hj
          try dsimp only
          rw [getD_snoc_lt (by rw [HLEN.out]; omega)]
          have h0 := HF.out i (by omega) j hj
          try dsimp only at h0
          rw [← h0]
          rw [if_neg (by have := hne 2; omega)]; rw [if_neg (by have := hne 1; omega)]; rw [if_neg (by have := hne 0; omega)]
      case measure => simp [intOf]; omega
    · have hkk : k = n := by omega
      subst hkk
      have HL := Hid.mk' (lie_row hrow hf)
      clear hf hrow
      go_wp2
      go_ret
      exact ⟨rfl, HL.out, hr, hkw⟩
set_option maxRecDepth 100000 in
set_option maxHeartbeats 1000000 in
theorem list_phase {w : World} {H b : Nat} {s : Rd} (h : Rdr w H b s) (hH : H ≤ w.heap.size) (n : Nat) (hn : n ≤ 24) : Calls Tryd.prog 98 #[.int .i64 n, .func (.func 99) #[.pointer (some ⟨b, 0, none⟩)] #[]] w fun e w' => e = .returned (.slice (some ⟨w.heap.size, 0, none⟩) n n) ∧ Lie w' (some ⟨w.heap.size, 0, none⟩) n 5 (fun i j => phV ((listM phM n s).1.getD i p0) j) ∧ Rdr w' H b (listM phM n s).2 ∧ Kept w w' (some b) := by
  obtain ⟨i0, hi0, hz0, hz1, hz2⟩ := info_parts (show (Tryd.prog.info? 34).map (fun i => (i.zero, i.size, i.bytes)) = some (some (.agg #[.int .u32 0, .int .i64 0, .int .i64 0, .int .i64 0, .bool false]), 5, 40) from by kernel_rfl)
  have hmk := run_make (P := Tryd.prog) w 25 34 i0 _ (by kernel_rfl) hi0 hz0 .i64 .i64 n n (by omega) (Int.le_refl _) (by rw [hz2]; omega) (by omega)
  rw [hz1, Int.toNat_natCast] at hmk
  have hrow0 := madeRow w (Value.cells (.agg #[.int .u32 0, .int .i64 0, .int .i64 0, .int .i64 0, .bool false])) (n * 5) 34
  have hr0 := h.kept (Kept.alloc w (madeCells (Value.cells (.agg #[.int .u32 0, .int .i64 0, .int .i64 0, .int .i64 0, .bool false])) (n * 5)) 34 (0, 0) none) (fun i e => by cases e)
  have hk0 : Kept w (w.alloc (.cells (madeCells (Value.cells (.agg #[.int .u32 0, .int .i64 0, .int .i64 0, .int .i64 0, .bool false])) (n * 5)) 34)) (some b) := Kept.alloc _ _ _ _ _
  have hbl := h.lt
  have hbs : some w.heap.size ≠ some b := fun e => by injection e; omega
  generalize hW0 : w.alloc (.cells (madeCells (Value.cells (.agg #[.int .u32 0, .int .i64 0, .int .i64 0, .int .i64 0, .bool false])) (n * 5)) 34) = W0 at *
  have HR0 := Hid.mk' hr0
  have HRow0 := Hid.mk' hrow0
  clear h hr0 hrow0 hW0
  go_enter Tryd.func98, Tryd.ntmps98
  go_wp2
  clear hmk
  go_loopw [11] (fun i wr => ∃ k : Nat, k ≤ n ∧ i = .int .i64 k ∧ (∃ f, wr.rowIs w.heap.size 34 (n * 5) f ∧ ∀ i, i < k → ∀ j, j < 5 → f (i * 5 + j) = (fun i j => phV ((listM phM k s).1.getD i p0) j) i j) ∧ Rdr wr H b (listM phM k s).2 ∧ Kept w wr (some b)) (fun i _ => n - (intOf i).toNat)
  case atStart => exact ⟨0, Nat.zero_le _, rfl, ⟨_, HRow0.out, fun i hi => by omega⟩, HR0.out, hk0⟩
  case round =>
    obtain ⟨k, hk, rfl, ⟨f, hrow, hf⟩, hr, hkw⟩ := hrel
    by_cases hlt : k < n
    · have hcall := phase_rd hr (by have := hkw.size; omega)
      have hsn := listM_snoc phM k s
      have hlen := listM_len phM k s
      have HF := Hid.mk' hf
      have HROW := Hid.mk' hrow
      have HSN := Hid.mk' hsn
      have HLEN := Hid.mk' hlen
      have HCALL := Hid.mk' hcall
      clear hf hrow hsn hlen hcall hr
      generalize hx : (phM (listM phM k s).2).1 = x at *
      clear hx
      go_wp2_with (refine HCALL.out.mono ?_; rintro e w2 ⟨rfl, hr2, hk2⟩; have hrow2 := row_kept HROW.out hk2 hbs; have k0 := hrow2.cell (i := k * 5) (by have := idx_lt (j := 0) hlt (show 0 < 5 by omega); omega); have z0 := hrow2.frozen (k * 5); have k1 := hrow2.cell (i := k * 5 + 1) (by have := idx_lt (j := 1) hlt (show 1 < 5 by omega); omega); have z1 := hrow2.frozen (k * 5 + 1); have k2 := hrow2.cell (i := k * 5 + 2) (by have := idx_lt (j := 2) hlt (show 2 < 5 by omega); omega); have z2 := hrow2.frozen (k * 5 + 2); have k3 := hrow2.cell (i := k * 5 + 3) (by have := idx_lt (j := 3) hlt (show 3 < 5 by omega); omega); have z3 := hrow2.frozen (k * 5 + 3); have k4 := hrow2.cell (i := k * 5 + 4) (by have := idx_lt (j := 4) hlt (show 4 < 5 by omega); omega); have z4 := hrow2.frozen (k * 5 + 4))
      go_roundw
      case rel =>
        refine ⟨k + 1, by omega, by go_num, ⟨_, (World.rowIs.set (World.rowIs.set (World.rowIs.set (World.rowIs.set (World.rowIs.set hrow2 (k * 5) (.int .u32 (x.groups : Int))) (k * 5 + 1) (.int .i64 x.min)) (k * 5 + 2) (.int .i64 x.max)) (k * 5 + 3) (.int .i64 x.gap)) (k * 5 + 4) (.bool x.always)), fun i hi j hj => ?_⟩, by rw [HSN.out]; exact (((((hr2.setNew hH (k * 5) _).setNew hH (k * 5 + 1) _).setNew hH (k * 5 + 2) _).setNew hH (k * 5 + 3) _).setNew hH (k * 5 + 4) _), (kept_new (kept_new (kept_new (kept_new (kept_new (hkw.tr hk2) (Nat.le_refl _) (k * 5) _) (Nat.le_refl _) (k * 5 + 1) _) (Nat.le_refl _) (k * 5 + 2) _) (Nat.le_refl _) (k * 5 + 3) _) (Nat.le_refl _) (k * 5 + 4) _)⟩
        rw [HSN.out]
        by_cases hik : i = k
        · subst hik
          have : j = 0 ∨ j = 1 ∨ j = 2 ∨ j = 3 ∨ j = 4 := by omega
          try dsimp only
          rw [getD_snoc_eq HLEN.out.symm]
          rcases this with rfl | rfl | rfl | rfl | rfl <;> simp [phV]
        · have hne := fun q => idx_ne (q := q) (show i < k by omega) hj
          try dsimp only
          rw [getD_snoc_lt (by rw [HLEN.out]; omega)]
          have h0 := HF.out i (by omega) j hj
          try dsimp only at h0
          rw [← h0]
          rw [if_neg (by have := hne 4; omega)]; rw [if_neg (by have := hne 3; omega)]; rw [if_neg (by have := hne 2; omega)]; rw [if_neg (by have := hne 1; omega)]; rw [if_neg (by have := hne 0; omega)]
      case measure => simp [intOf]; omega
    · have hkk : k = n := by omega
      subst hkk
      have HL := Hid.mk' (lie_row hrow hf)
      clear hf hrow
      go_wp2
      go_ret
      exact ⟨rfl, HL.out, hr, hkw⟩
set_option maxRecDepth 100000 in
set_option maxHeartbeats 1000000 in
theorem list_eye {w : World} {H b : Nat} {s : Rd} (h : Rdr w H b s) (hH : H ≤ w.heap.size) (n : Nat) (hn : n ≤ 24) : Calls Tryd.prog 100 #[.int .i64 n, .func (.func 101) #[.pointer (some ⟨b, 0, none⟩)] #[]] w fun e w' => e = .returned (.slice (some ⟨w.heap.size, 0, none⟩) n n) ∧ Lie w' (some ⟨w.heap.size, 0, none⟩) n 4 (fun i j => eyV ((listM eyM n s).1.getD i e0) j) ∧ Rdr w' H b (listM eyM n s).2 ∧ Kept w w' (some b) := by
  obtain ⟨i0, hi0, hz0, hz1, hz2⟩ := info_parts (show (Tryd.prog.info? 97).map (fun i => (i.zero, i.size, i.bytes)) = some (some (.agg #[.int .i64 0, .int .i64 0, .int .i64 0, .int .i64 0]), 4, 32) from by kernel_rfl)
  have hmk := run_make (P := Tryd.prog) w 26 97 i0 _ (by kernel_rfl) hi0 hz0 .i64 .i64 n n (by omega) (Int.le_refl _) (by rw [hz2]; omega) (by omega)
  rw [hz1, Int.toNat_natCast] at hmk
  have hrow0 := madeRow w (Value.cells (.agg #[.int .i64 0, .int .i64 0, .int .i64 0, .int .i64 0])) (n * 4) 97
  have hr0 := h.kept (Kept.alloc w (madeCells (Value.cells (.agg #[.int .i64 0, .int .i64 0, .int .i64 0, .int .i64 0])) (n * 4)) 97 (0, 0) none) (fun i e => by cases e)
  have hk0 : Kept w (w.alloc (.cells (madeCells (Value.cells (.agg #[.int .i64 0, .int .i64 0, .int .i64 0, .int .i64 0])) (n * 4)) 97)) (some b) := Kept.alloc _ _ _ _ _
  have hbl := h.lt
  have hbs : some w.heap.size ≠ some b := fun e => by injection e; omega
  generalize hW0 : w.alloc (.cells (madeCells (Value.cells (.agg #[.int .i64 0, .int .i64 0, .int .i64 0, .int .i64 0])) (n * 4)) 97) = W0 at *
  have HR0 := Hid.mk' hr0
  have HRow0 := Hid.mk' hrow0
  clear h hr0 hrow0 hW0
  go_enter Tryd.func100, Tryd.ntmps100
  go_wp2
  clear hmk
  go_loopw [11] (fun i wr => ∃ k : Nat, k ≤ n ∧ i = .int .i64 k ∧ (∃ f, wr.rowIs w.heap.size 97 (n * 4) f ∧ ∀ i, i < k → ∀ j, j < 4 → f (i * 4 + j) = (fun i j => eyV ((listM eyM k s).1.getD i e0) j) i j) ∧ Rdr wr H b (listM eyM k s).2 ∧ Kept w wr (some b)) (fun i _ => n - (intOf i).toNat)
  case atStart => exact ⟨0, Nat.zero_le _, rfl, ⟨_, HRow0.out, fun i hi => by omega⟩, HR0.out, hk0⟩
  case round =>
    obtain ⟨k, hk, rfl, ⟨f, hrow, hf⟩, hr, hkw⟩ := hrel
    by_cases hlt : k < n
    · have hcall := eye_rd hr (by have := hkw.size; omega)
      have hsn := listM_snoc eyM k s
      have hlen := listM_len eyM k s
      have HF := Hid.mk' hf
      have HROW := Hid.mk' hrow
      have HSN := Hid.mk' hsn
      have HLEN := Hid.mk' hlen
      have HCALL := Hid.mk' hcall
      clear hf hrow hsn hlen hcall hr
      generalize hx : (eyM (listM eyM k s).2).1 = x at *
      clear hx
      go_wp2_with (refine HCALL.out.mono ?_; rintro e w2 ⟨rfl, hr2, hk2⟩; have hrow2 := row_kept HROW.out hk2 hbs; have k0 := hrow2.cell (i := k * 4) (by have := idx_lt (j := 0) hlt (show 0 < 4 by omega); omega); have z0 := hrow2.frozen (k * 4); have k1 := hrow2.cell (i := k * 4 + 1) (by have := idx_lt (j := 1) hlt (show 1 < 4 by omega); omega); have z1 := hrow2.frozen (k * 4 + 1); have k2 := hrow2.cell (i := k * 4 + 2) (by have := idx_lt (j := 2) hlt (show 2 < 4 by omega); omega); have z2 := hrow2.frozen (k * 4 + 2); have k3 := hrow2.cell (i := k * 4 + 3) (by have := idx_lt (j := 3) hlt (show 3 < 4 by omega); omega); have z3 := hrow2.frozen (k * 4 + 3))
      go_roundw
      case rel =>
        refine ⟨k + 1, by omega, by go_num, ⟨_, (World.rowIs.set (World.rowIs.set (World.rowIs.set (World.rowIs.set hrow2 (k * 4) (.int .i64 x.phase)) (k * 4 + 1) (.int .i64 x.on)) (k * 4 + 2) (.int .i64 x.off)) (k * 4 + 3) (.int .i64 x.turns)), fun i hi j hj => ?_⟩, by rw [HSN.out]; exact ((((hr2.setNew hH (k * 4) _).setNew hH (k * 4 + 1) _).setNew hH (k * 4 + 2) _).setNew hH (k * 4 + 3) _), (kept_new (kept_new (kept_new (kept_new (hkw.tr hk2) (Nat.le_refl _) (k * 4) _) (Nat.le_refl _) (k * 4 + 1) _) (Nat.le_refl _) (k * 4 + 2) _) (Nat.le_refl _) (k * 4 + 3) _)⟩
        rw [HSN.out]
        by_cases hik : i = k
        · subst hik
          have : j = 0 ∨ j = 1 ∨ j = 2 ∨ j = 3 := by omega
          try dsimp only
          rw [getD_snoc_eq HLEN.out.symm]
          rcases this with rfl | rfl | rfl | rfl <;> simp [eyV]
        · have hne := fun q => idx_ne (q := q) (show i < k by omega) hj
          try dsimp only
          rw [getD_snoc_lt (by rw [HLEN.out]; omega)]
          have h0 := HF.out i (by omega) j hj
          try dsimp only at h0
          rw [← h0]
          rw [if_neg (by have := hne 3; omega)]; rw [if_neg (by have := hne 2; omega)]; rw [if_neg (by have := hne 1; omega)]; rw [if_neg (by have := hne 0; omega)]
      case measure => simp [intOf]; omega
    · have hkk : k = n := by omega
      subst hkk
      have HL := Hid.mk' (lie_row hrow hf)
      clear hf hrow
      go_wp2
      go_ret
      exact ⟨rfl, HL.out, hr, hkw⟩

end Go.Proofs.YtpajefkfnhibnaaDoor
