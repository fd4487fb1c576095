/-
  THE CONTRACTS of group, phase, eye, and of listOf over plain elements.
-/
import Derived.Test.YtpajefkfnhibnaaDoorRdr
import Derived.Laws.MakeOwn
namespace Go.Proofs.YtpajefkfnhibnaaDoor
open Go.RowKit Go.Lib Go.Deep
set_option linter.unusedVariables false
set_option linter.unusedSimpArgs false

theorem lie_row {w : World} {g t n K : Nat} {f : Nat → Value} {F : Nat → Nat → Value} (h : w.rowIs g t (n * K) f) (hf : ∀ i, i < n → ∀ j, j < K → f (i * K + j) = F i j) : Lie w (some ⟨g, 0, none⟩) n K F :=
  ⟨fun hp => ⟨g, 0, rfl, h.lt, fun i hi j hj => by
    have hlt : i * K + j < n * K := by
      have : (i + 1) * K ≤ n * K := Nat.mul_le_mul_right K hi
      rw [Nat.add_mul] at this
      omega
    rw [Nat.zero_add, h.cell hlt, hf i hi j hj]⟩⟩
theorem madeRow (w : World) (z : Array Value) (n : Nat) (t : TypeId) : (w.alloc (.cells (madeCells z n) t)).rowIs w.heap.size t n (fun i => (madeCells z n)[i]?.getD undef) :=
  ⟨_, blk_alloc_new _ _, size_madeCells _ _, fun i hi => by
    have : i < (madeCells z n).size := by rw [size_madeCells]; exact hi
    simp [this]⟩
theorem idx_lt {i j n K : Nat} (hi : i < n) (hj : j < K) : i * K + j < n * K := by
  have : (i + 1) * K ≤ n * K := Nat.mul_le_mul_right K hi
  rw [Nat.add_mul] at this
  omega
theorem idx_ne {i j k q K : Nat} (hi : i < k) (hj : j < K) : i * K + j ≠ k * K + q := by
  have : (i + 1) * K ≤ k * K := Nat.mul_le_mul_right K hi
  rw [Nat.add_mul] at this
  omega
theorem Rdr.setNew {w : World} {H b : Nat} {s : Rd} (h : Rdr w H b s) {g : Nat} (hg : H ≤ g) (j : Nat) (v : Value) : Rdr (w.setCell ⟨g, j, none⟩ v) H b s := h.kept (kept_set _ _ _ _) (fun i e => by cases e; exact hg)
theorem kept_new {w w' : World} {r : Option Nat} (h : Kept w w' r) {g : Nat} (hg : w.heap.size ≤ g) (j : Nat) (v : Value) : Kept w (w'.setCell ⟨g, j, none⟩ v) r :=
  ⟨h.os, h.tape, h.output, by simpa [World.setCell] using h.size, fun k hk hr => (Below.heap_setCell _ _ _ _ (by show k ≠ g; omega)).trans (h.block k hk hr)⟩
theorem one_eq (n : Nat) : ((n : Int) == 1) = decide (n = 1) := by
  rw [Bool.eq_iff_iff]; simp; omega
theorem getD_snoc_lt {α : Type} {l : List α} {x d : α} {i : Nat} (h : i < l.length) : (l ++ [x]).getD i d = l.getD i d := by
  simp [List.getElem?_append, h]
theorem getD_snoc_eq {α : Type} {l : List α} {x d : α} {i : Nat} (h : i = l.length) : (l ++ [x]).getD i d = x := by
  subst h; simp
set_option maxRecDepth 100000 in
set_option maxHeartbeats 1000000 in
theorem group_rd {w : World} {H b : Nat} {s : Rd} (h : Rdr w H b s) (hH : H ≤ w.heap.size) : Calls Tryd.prog 92 #[.pointer (some ⟨b, 0, none⟩)] w fun e w' => e = .returned (.agg #[.int .u8 ((grM s).1.kind : Int), .int .i64 (grM s).1.min, .int .i64 (grM s).1.yellow]) ∧ Rdr w' H b (grM s).2 ∧ Kept w w' (some b) := by
  have hbl := h.lt
  have HE : Hid (grM s = (⟨(upM 255 s).1, (numM (upM 255 s).2).1, (numM (numM (upM 255 s).2).2).1⟩, (numM (numM (upM 255 s).2).2).2)) := rfl
  have hle := upM_le 255 s
  have h0 := h.kept ((Kept.alloc w #[.int .u8 0, .int .i64 0, .int .i64 0] 75 (0, 0) none).tr (Kept.drew _ none)) (fun i e => by cases e)
  have H0 := Hid.mk' h0
  have hrw0 : (w.alloc (.cells #[.int .u8 0, .int .i64 0, .int .i64 0] 75)).rowIs w.heap.size 75 3 (fun i => #[.int .u8 0, .int .i64 0, .int .i64 0][i]?.getD undef) := World.rowIs_alloc w #[.int .u8 0, .int .i64 0, .int .i64 0] 75 _ (fun i hi => by simp at hi; simp [hi])
  have HRW := Hid.mk' hrw0
  clear h h0 hrw0
  generalize hu0 : upM 255 s = u0 at *
  have HU0 := Hid.mk' hu0
  clear hu0
  obtain ⟨v0, s0⟩ := u0
  dsimp only at *
  generalize hu1 : numM s0 = u1 at *
  have HU1 := Hid.mk' hu1
  clear hu1
  obtain ⟨v1, s1⟩ := u1
  dsimp only at *
  generalize hu2 : numM s1 = u2 at *
  have HU2 := Hid.mk' hu2
  clear hu2
  obtain ⟨v2, s2⟩ := u2
  dsimp only at *
  rw [HE.out]
  clear HE
  have hbs : some w.heap.size ≠ some b := fun e => by injection e; omega
  go_enter Tryd.func92, Tryd.ntmps92
  go_wp2
  refine wp_region_held_drew (S := fun _ => True) (by kernel_rfl) trivial (fun _ => ?_)
  refine held_take (i := 0) (v := ?vp1x0) rfl rfl (by kernel_rfl) (by kernel_rfl) (by kernel_rfl) (fun _ _ _ h => h) (Or.inl ⟨by rfl, ?hyp1x0⟩) trivial ?restp1x0
  case hyp1x0 => first | (intro w hSw; go_simp; done) | (intro w hSw; go_simp; with_reducible rfl)
  try simp only [List.setIfInBounds_toArray, List.set_cons_zero, List.set_cons_succ]
  refine held_take (i := 1) (v := ?vp1x1) rfl rfl (by kernel_rfl) (by kernel_rfl) (by kernel_rfl) (fun _ _ _ h => h) (Or.inl ⟨by rfl, ?hyp1x1⟩) trivial ?restp1x1
  case hyp1x1 => first | (intro w hSw; go_simp; done) | (intro w hSw; go_simp; with_reducible rfl)
  try simp only [List.setIfInBounds_toArray, List.set_cons_zero, List.set_cons_succ]
  refine held_take (i := 2) (v := ?vp1x2) rfl rfl (by kernel_rfl) (by kernel_rfl) (by kernel_rfl) (fun _ _ _ h => h) (Or.inl ⟨by rfl, ?hyp1x2⟩) trivial ?restp1x2
  case hyp1x2 => first | (intro w hSw; go_simp; done) | (intro w hSw; go_simp; with_reducible rfl)
  try simp only [List.setIfInBounds_toArray, List.set_cons_zero, List.set_cons_succ]
  refine held_take (i := 5) (v := ?vp1x5) rfl rfl (by kernel_rfl) (by kernel_rfl) (by kernel_rfl) (fun _ _ _ h => h) (Or.inl ⟨by rfl, ?hyp1x5⟩) trivial ?restp1x5
  case hyp1x5 => first | (intro w hSw; go_simp; done) | (intro w hSw; go_simp; with_reducible rfl)
  try simp only [List.setIfInBounds_toArray, List.set_cons_zero, List.set_cons_succ]
  refine held_take (i := 6) (v := ?vp1x6) rfl rfl (by kernel_rfl) (by kernel_rfl) (by kernel_rfl) (fun _ _ _ h => h) (Or.inl ⟨by rfl, ?hyp1x6⟩) trivial ?restp1x6
  case hyp1x6 => first | (intro w hSw; go_simp; done) | (intro w hSw; go_simp; with_reducible rfl)
  try simp only [List.setIfInBounds_toArray, List.set_cons_zero, List.set_cons_succ]
  refine held_take (i := 7) (v := ?vp1x7) rfl rfl (by kernel_rfl) (by kernel_rfl) (by kernel_rfl) (fun _ _ _ h => h) (Or.inl ⟨by rfl, ?hyp1x7⟩) trivial ?restp1x7
  case hyp1x7 => first | (intro w hSw; go_simp; done) | (intro w hSw; go_simp; with_reducible rfl)
  try simp only [List.setIfInBounds_toArray, List.set_cons_zero, List.set_cons_succ]
  refine held_take (i := 9) (v := ?vp1x9) rfl rfl (by kernel_rfl) (by kernel_rfl) (by kernel_rfl) (fun _ _ _ h => h) (Or.inl ⟨by rfl, ?hyp1x9⟩) trivial ?restp1x9
  case hyp1x9 => first | (intro w hSw; go_simp; done) | (intro w hSw; go_simp; with_reducible rfl)
  try simp only [List.setIfInBounds_toArray, List.set_cons_zero, List.set_cons_succ]
  refine held_take (i := 10) (v := ?vp1x10) rfl rfl (by kernel_rfl) (by kernel_rfl) (by kernel_rfl) (fun _ _ _ h => h) (Or.inl ⟨by rfl, ?hyp1x10⟩) trivial ?restp1x10
  case hyp1x10 => first | (intro w hSw; go_simp; done) | (intro w hSw; go_simp; with_reducible rfl)
  try simp only [List.setIfInBounds_toArray, List.set_cons_zero, List.set_cons_succ]
  refine held_take (i := 11) (v := ?vp1x11) rfl rfl (by kernel_rfl) (by kernel_rfl) (by kernel_rfl) (fun _ _ _ h => h) (Or.inl ⟨by rfl, ?hyp1x11⟩) trivial ?restp1x11
  case hyp1x11 => first | (intro w hSw; go_simp; done) | (intro w hSw; go_simp; with_reducible rfl)
  try simp only [List.setIfInBounds_toArray, List.set_cons_zero, List.set_cons_succ]
  refine wpAnyH_ready (rs := [3]) (by kernel_rfl) (by simp) ?_
  refine AllReadyH.cons rfl (fun K hK => ?_) AllReadyH.nil
  go_simp
  go_wp2_with (go_at_call 109; have hn := upTo_any H0.out 255 (by omega); rw [HU0.out] at hn; refine hn.mono ?_; rintro e w0 ⟨rfl, hr0, hk0⟩)
  refine hK.out _ _ trivial (fun _ => ?_)
  clear hK K
  have Q0 := Hid.mk' (row_kept (HRW.out.drew) hk0 hbs)
  refine held_take (i := 4) (v := ?vp2x4) rfl rfl (by kernel_rfl) (by kernel_rfl) (by kernel_rfl) (fun _ _ _ h => h) (Or.inl ⟨by rfl, ?hyp2x4⟩) trivial ?restp2x4
  case hyp2x4 => first | (intro w hSw; go_simp; done) | (intro w hSw; go_simp; with_reducible rfl)
  try simp only [List.setIfInBounds_toArray, List.set_cons_zero, List.set_cons_succ]
  refine wpAnyH_ready (rs := [8]) (by kernel_rfl) (by simp) ?_
  refine AllReadyH.cons rfl (fun K hK => ?_) AllReadyH.nil
  go_simp
  go_wp2_with (go_at_call 90; have hn := number_any hr0; rw [HU1.out] at hn; refine hn.mono ?_; rintro e w1 ⟨rfl, hr1, hk1⟩)
  refine hK.out _ _ trivial (fun _ => ?_)
  clear hK K
  have Q1 := Hid.mk' (row_kept (Q0.out) hk1 hbs)
  refine wpAnyH_ready (rs := [12]) (by kernel_rfl) (by simp) ?_
  refine AllReadyH.cons rfl (fun K hK => ?_) AllReadyH.nil
  go_simp
  go_wp2_with (go_at_call 90; have hn := number_any hr1; rw [HU2.out] at hn; refine hn.mono ?_; rintro e w2 ⟨rfl, hr2, hk2⟩)
  refine hK.out _ _ trivial (fun _ => ?_)
  clear hK K
  have Q2 := Hid.mk' (row_kept (Q1.out) hk2 hbs)
  refine held_take (i := 13) (v := ?vp3x13) rfl rfl (by kernel_rfl) (by kernel_rfl) (by kernel_rfl) (fun _ _ _ h => h) (Or.inl ⟨by rfl, ?hyp3x13⟩) trivial ?restp3x13
  case hyp3x13 => first | (intro w hSw; go_simp; done) | (intro w hSw; go_simp; with_reducible rfl)
  try simp only [List.setIfInBounds_toArray, List.set_cons_zero, List.set_cons_succ]
  have k0 := Q2.out.cell (i := 0) (by omega)
  have z0 := Q2.out.frozen 0
  have k1 := Q2.out.cell (i := 1) (by omega)
  have z1 := Q2.out.frozen 1
  have k2 := Q2.out.cell (i := 2) (by omega)
  have z2 := Q2.out.frozen 2
  refine wpAnyH_ready (rs := [14]) (by kernel_rfl) (by simp) ?_
  refine AllReadyH.cons rfl (fun K hK => ?_) AllReadyH.nil
  go_simp
  refine hK.out _ _ trivial (fun _ => ?_)
  clear hK K
  refine wpAnyH_done (by kernel_rfl) ?_ _
  go_wp2
  have hw8 : IntKind.u8.wrap (v0 : Int) = v0 := by
    simp [IntKind.wrap, IntKind.bits, IntKind.signed]
    omega
  rw [hw8]
  have hrw := (World.rowIs.set (World.rowIs.set (World.rowIs.set Q2.out 0 (.int .u8 (v0 : Int))) 1 (.int .i64 v1)) 2 (.int .i64 v2))
  have q0 := hrw.cell (i := 0) (by omega)
  have q1 := hrw.cell (i := 1) (by omega)
  have q2 := hrw.cell (i := 2) (by omega)
  exact bodyPost_ret (v := .agg #[.int .u8 (v0 : Int), .int .i64 v1, .int .i64 v2]) (by simp [results, Tryd.results92, go_sem, q0, q1, q2]) rfl ⟨by first | rfl | rw [one_eq], (((hr2.setNew hH 0 _).setNew hH 1 _).setNew hH 2 _), (kept_new (kept_new (kept_new (((((Kept.alloc w _ _ _ _ : Kept w _ (some b)).tr (Kept.drew _ _)).tr hk0).tr hk1).tr hk2) (Nat.le_refl _) 0 _) (Nat.le_refl _) 1 _) (Nat.le_refl _) 2 _)⟩
set_option maxRecDepth 100000 in
set_option maxHeartbeats 1000000 in
theorem phase_rd {w : World} {H b : Nat} {s : Rd} (h : Rdr w H b s) (hH : H ≤ w.heap.size) : Calls Tryd.prog 99 #[.pointer (some ⟨b, 0, none⟩)] w fun e w' => e = .returned (.agg #[.int .u32 ((phM s).1.groups : Int), .int .i64 (phM s).1.min, .int .i64 (phM s).1.max, .int .i64 (phM s).1.gap, .bool (phM s).1.always]) ∧ Rdr w' H b (phM s).2 ∧ Kept w w' (some b) := by
  have hbl := h.lt
  have HE : Hid (phM s = (⟨(upM 4294967295 s).1, (numM (upM 4294967295 s).2).1, (numM (numM (upM 4294967295 s).2).2).1, (numM (numM (numM (upM 4294967295 s).2).2).2).1, decide ((upM 1 (numM (numM (numM (upM 4294967295 s).2).2).2).2).1 = 1)⟩, (upM 1 (numM (numM (numM (upM 4294967295 s).2).2).2).2).2)) := rfl
  have h0 := h.kept ((Kept.alloc w #[.int .u32 0, .int .i64 0, .int .i64 0, .int .i64 0, .bool false] 34 (0, 0) none).tr (Kept.drew _ none)) (fun i e => by cases e)
  have H0 := Hid.mk' h0
  have hrw0 : (w.alloc (.cells #[.int .u32 0, .int .i64 0, .int .i64 0, .int .i64 0, .bool false] 34)).rowIs w.heap.size 34 5 (fun i => #[.int .u32 0, .int .i64 0, .int .i64 0, .int .i64 0, .bool false][i]?.getD undef) := World.rowIs_alloc w #[.int .u32 0, .int .i64 0, .int .i64 0, .int .i64 0, .bool false] 34 _ (fun i hi => by simp at hi; simp [hi])
  have HRW := Hid.mk' hrw0
  clear h h0 hrw0
  generalize hu0 : upM 4294967295 s = u0 at *
  have HU0 := Hid.mk' hu0
  clear hu0
  obtain ⟨v0, s0⟩ := u0
  dsimp only at *
  generalize hu1 : numM s0 = u1 at *
  have HU1 := Hid.mk' hu1
  clear hu1
  obtain ⟨v1, s1⟩ := u1
  dsimp only at *
  generalize hu2 : numM s1 = u2 at *
  have HU2 := Hid.mk' hu2
  clear hu2
  obtain ⟨v2, s2⟩ := u2
  dsimp only at *
  generalize hu3 : numM s2 = u3 at *
  have HU3 := Hid.mk' hu3
  clear hu3
  obtain ⟨v3, s3⟩ := u3
  dsimp only at *
  generalize hu4 : upM 1 s3 = u4 at *
  have HU4 := Hid.mk' hu4
  clear hu4
  obtain ⟨v4, s4⟩ := u4
  dsimp only at *
  rw [HE.out]
  clear HE
  have hbs : some w.heap.size ≠ some b := fun e => by injection e; omega
  go_enter Tryd.func99, Tryd.ntmps99
  go_wp2
  refine wp_region_held_drew (S := fun _ => True) (by kernel_rfl) trivial (fun _ => ?_)
  refine held_take (i := 0) (v := ?vp4x0) rfl rfl (by kernel_rfl) (by kernel_rfl) (by kernel_rfl) (fun _ _ _ h => h) (Or.inl ⟨by rfl, ?hyp4x0⟩) trivial ?restp4x0
  case hyp4x0 => first | (intro w hSw; go_simp; done) | (intro w hSw; go_simp; with_reducible rfl)
  try simp only [List.setIfInBounds_toArray, List.set_cons_zero, List.set_cons_succ]
  refine held_take (i := 2) (v := ?vp4x2) rfl rfl (by kernel_rfl) (by kernel_rfl) (by kernel_rfl) (fun _ _ _ h => h) (Or.inl ⟨by rfl, ?hyp4x2⟩) trivial ?restp4x2
  case hyp4x2 => first | (intro w hSw; go_simp; done) | (intro w hSw; go_simp; with_reducible rfl)
  try simp only [List.setIfInBounds_toArray, List.set_cons_zero, List.set_cons_succ]
  refine held_take (i := 3) (v := ?vp4x3) rfl rfl (by kernel_rfl) (by kernel_rfl) (by kernel_rfl) (fun _ _ _ h => h) (Or.inl ⟨by rfl, ?hyp4x3⟩) trivial ?restp4x3
  case hyp4x3 => first | (intro w hSw; go_simp; done) | (intro w hSw; go_simp; with_reducible rfl)
  try simp only [List.setIfInBounds_toArray, List.set_cons_zero, List.set_cons_succ]
  refine held_take (i := 4) (v := ?vp4x4) rfl rfl (by kernel_rfl) (by kernel_rfl) (by kernel_rfl) (fun _ _ _ h => h) (Or.inl ⟨by rfl, ?hyp4x4⟩) trivial ?restp4x4
  case hyp4x4 => first | (intro w hSw; go_simp; done) | (intro w hSw; go_simp; with_reducible rfl)
  try simp only [List.setIfInBounds_toArray, List.set_cons_zero, List.set_cons_succ]
  refine held_take (i := 6) (v := ?vp4x6) rfl rfl (by kernel_rfl) (by kernel_rfl) (by kernel_rfl) (fun _ _ _ h => h) (Or.inl ⟨by rfl, ?hyp4x6⟩) trivial ?restp4x6
  case hyp4x6 => first | (intro w hSw; go_simp; done) | (intro w hSw; go_simp; with_reducible rfl)
  try simp only [List.setIfInBounds_toArray, List.set_cons_zero, List.set_cons_succ]
  refine held_take (i := 7) (v := ?vp4x7) rfl rfl (by kernel_rfl) (by kernel_rfl) (by kernel_rfl) (fun _ _ _ h => h) (Or.inl ⟨by rfl, ?hyp4x7⟩) trivial ?restp4x7
  case hyp4x7 => first | (intro w hSw; go_simp; done) | (intro w hSw; go_simp; with_reducible rfl)
  try simp only [List.setIfInBounds_toArray, List.set_cons_zero, List.set_cons_succ]
  refine held_take (i := 8) (v := ?vp4x8) rfl rfl (by kernel_rfl) (by kernel_rfl) (by kernel_rfl) (fun _ _ _ h => h) (Or.inl ⟨by rfl, ?hyp4x8⟩) trivial ?restp4x8
  case hyp4x8 => first | (intro w hSw; go_simp; done) | (intro w hSw; go_simp; with_reducible rfl)
  try simp only [List.setIfInBounds_toArray, List.set_cons_zero, List.set_cons_succ]
  refine held_take (i := 10) (v := ?vp4x10) rfl rfl (by kernel_rfl) (by kernel_rfl) (by kernel_rfl) (fun _ _ _ h => h) (Or.inl ⟨by rfl, ?hyp4x10⟩) trivial ?restp4x10
  case hyp4x10 => first | (intro w hSw; go_simp; done) | (intro w hSw; go_simp; with_reducible rfl)
  try simp only [List.setIfInBounds_toArray, List.set_cons_zero, List.set_cons_succ]
  refine held_take (i := 11) (v := ?vp4x11) rfl rfl (by kernel_rfl) (by kernel_rfl) (by kernel_rfl) (fun _ _ _ h => h) (Or.inl ⟨by rfl, ?hyp4x11⟩) trivial ?restp4x11
  case hyp4x11 => first | (intro w hSw; go_simp; done) | (intro w hSw; go_simp; with_reducible rfl)
  try simp only [List.setIfInBounds_toArray, List.set_cons_zero, List.set_cons_succ]
  refine held_take (i := 12) (v := ?vp4x12) rfl rfl (by kernel_rfl) (by kernel_rfl) (by kernel_rfl) (fun _ _ _ h => h) (Or.inl ⟨by rfl, ?hyp4x12⟩) trivial ?restp4x12
  case hyp4x12 => first | (intro w hSw; go_simp; done) | (intro w hSw; go_simp; with_reducible rfl)
  try simp only [List.setIfInBounds_toArray, List.set_cons_zero, List.set_cons_succ]
  refine held_take (i := 14) (v := ?vp4x14) rfl rfl (by kernel_rfl) (by kernel_rfl) (by kernel_rfl) (fun _ _ _ h => h) (Or.inl ⟨by rfl, ?hyp4x14⟩) trivial ?restp4x14
  case hyp4x14 => first | (intro w hSw; go_simp; done) | (intro w hSw; go_simp; with_reducible rfl)
  try simp only [List.setIfInBounds_toArray, List.set_cons_zero, List.set_cons_succ]
  refine held_take (i := 15) (v := ?vp4x15) rfl rfl (by kernel_rfl) (by kernel_rfl) (by kernel_rfl) (fun _ _ _ h => h) (Or.inl ⟨by rfl, ?hyp4x15⟩) trivial ?restp4x15
  case hyp4x15 => first | (intro w hSw; go_simp; done) | (intro w hSw; go_simp; with_reducible rfl)
  try simp only [List.setIfInBounds_toArray, List.set_cons_zero, List.set_cons_succ]
  refine held_take (i := 16) (v := ?vp4x16) rfl rfl (by kernel_rfl) (by kernel_rfl) (by kernel_rfl) (fun _ _ _ h => h) (Or.inl ⟨by rfl, ?hyp4x16⟩) trivial ?restp4x16
  case hyp4x16 => first | (intro w hSw; go_simp; done) | (intro w hSw; go_simp; with_reducible rfl)
  try simp only [List.setIfInBounds_toArray, List.set_cons_zero, List.set_cons_succ]
  refine wpAnyH_ready (rs := [1]) (by kernel_rfl) (by simp) ?_
  refine AllReadyH.cons rfl (fun K hK => ?_) AllReadyH.nil
  go_simp
  go_wp2_with (go_at_call 94; have hn := set_any H0.out; rw [HU0.out] at hn; refine hn.mono ?_; rintro e w0 ⟨rfl, hr0, hk0⟩)
  refine hK.out _ _ trivial (fun _ => ?_)
  clear hK K
  have Q0 := Hid.mk' (row_kept (HRW.out.drew) hk0 hbs)
  refine wpAnyH_ready (rs := [5]) (by kernel_rfl) (by simp) ?_
  refine AllReadyH.cons rfl (fun K hK => ?_) AllReadyH.nil
  go_simp
  go_wp2_with (go_at_call 90; have hn := number_any hr0; rw [HU1.out] at hn; refine hn.mono ?_; rintro e w1 ⟨rfl, hr1, hk1⟩)
  refine hK.out _ _ trivial (fun _ => ?_)
  clear hK K
  have Q1 := Hid.mk' (row_kept (Q0.out) hk1 hbs)
  refine wpAnyH_ready (rs := [9]) (by kernel_rfl) (by simp) ?_
  refine AllReadyH.cons rfl (fun K hK => ?_) AllReadyH.nil
  go_simp
  go_wp2_with (go_at_call 90; have hn := number_any hr1; rw [HU2.out] at hn; refine hn.mono ?_; rintro e w2 ⟨rfl, hr2, hk2⟩)
  refine hK.out _ _ trivial (fun _ => ?_)
  clear hK K
  have Q2 := Hid.mk' (row_kept (Q1.out) hk2 hbs)
  refine wpAnyH_ready (rs := [13]) (by kernel_rfl) (by simp) ?_
  refine AllReadyH.cons rfl (fun K hK => ?_) AllReadyH.nil
  go_simp
  go_wp2_with (go_at_call 90; have hn := number_any hr2; rw [HU3.out] at hn; refine hn.mono ?_; rintro e w3 ⟨rfl, hr3, hk3⟩)
  refine hK.out _ _ trivial (fun _ => ?_)
  clear hK K
  have Q3 := Hid.mk' (row_kept (Q2.out) hk3 hbs)
  refine wpAnyH_ready (rs := [17]) (by kernel_rfl) (by simp) ?_
  refine AllReadyH.cons rfl (fun K hK => ?_) AllReadyH.nil
  go_simp
  go_wp2_with (go_at_call 109; have hn := upTo_any hr3 1 (by omega); rw [HU4.out] at hn; refine hn.mono ?_; rintro e w4 ⟨rfl, hr4, hk4⟩)
  refine hK.out _ _ trivial (fun _ => ?_)
  clear hK K
  have Q4 := Hid.mk' (row_kept (Q3.out) hk4 hbs)
  refine held_take (i := 18) (v := ?vp5x18) rfl rfl (by kernel_rfl) (by kernel_rfl) (by kernel_rfl) (fun _ _ _ h => h) (Or.inl ⟨by rfl, ?hyp5x18⟩) trivial ?restp5x18
  case hyp5x18 => first | (intro w hSw; go_simp; done) | (intro w hSw; go_simp; with_reducible rfl)
  try simp only [List.setIfInBounds_toArray, List.set_cons_zero, List.set_cons_succ]
  refine held_take (i := 19) (v := ?vp5x19) rfl rfl (by kernel_rfl) (by kernel_rfl) (by kernel_rfl) (fun _ _ _ h => h) (Or.inl ⟨by rfl, ?hyp5x19⟩) trivial ?restp5x19
  case hyp5x19 => first | (intro w hSw; go_simp; done) | (intro w hSw; go_simp; with_reducible rfl)
  try simp only [List.setIfInBounds_toArray, List.set_cons_zero, List.set_cons_succ]
  have k0 := Q4.out.cell (i := 0) (by omega)
  have z0 := Q4.out.frozen 0
  have k1 := Q4.out.cell (i := 1) (by omega)
  have z1 := Q4.out.frozen 1
  have k2 := Q4.out.cell (i := 2) (by omega)
  have z2 := Q4.out.frozen 2
  have k3 := Q4.out.cell (i := 3) (by omega)
  have z3 := Q4.out.frozen 3
  have k4 := Q4.out.cell (i := 4) (by omega)
  have z4 := Q4.out.frozen 4
  refine wpAnyH_ready (rs := [20]) (by kernel_rfl) (by simp) ?_
  refine AllReadyH.cons rfl (fun K hK => ?_) AllReadyH.nil
  go_simp
  refine hK.out _ _ trivial (fun _ => ?_)
  clear hK K
  refine wpAnyH_done (by kernel_rfl) ?_ _
  go_wp2
  have hrw := (World.rowIs.set (World.rowIs.set (World.rowIs.set (World.rowIs.set (World.rowIs.set Q4.out 0 (.int .u32 (v0 : Int))) 1 (.int .i64 v1)) 2 (.int .i64 v2)) 3 (.int .i64 v3)) 4 (.bool ((v4 : Int) == 1)))
  have q0 := hrw.cell (i := 0) (by omega)
  have q1 := hrw.cell (i := 1) (by omega)
  have q2 := hrw.cell (i := 2) (by omega)
  have q3 := hrw.cell (i := 3) (by omega)
  have q4 := hrw.cell (i := 4) (by omega)
  exact bodyPost_ret (v := .agg #[.int .u32 (v0 : Int), .int .i64 v1, .int .i64 v2, .int .i64 v3, .bool ((v4 : Int) == 1)]) (by simp [results, Tryd.results99, go_sem, q0, q1, q2, q3, q4]) rfl ⟨by first | rfl | rw [one_eq], (((((hr4.setNew hH 0 _).setNew hH 1 _).setNew hH 2 _).setNew hH 3 _).setNew hH 4 _), (kept_new (kept_new (kept_new (kept_new (kept_new (((((((Kept.alloc w _ _ _ _ : Kept w _ (some b)).tr (Kept.drew _ _)).tr hk0).tr hk1).tr hk2).tr hk3).tr hk4) (Nat.le_refl _) 0 _) (Nat.le_refl _) 1 _) (Nat.le_refl _) 2 _) (Nat.le_refl _) 3 _) (Nat.le_refl _) 4 _)⟩
set_option maxRecDepth 100000 in
set_option maxHeartbeats 1000000 in
theorem eye_rd {w : World} {H b : Nat} {s : Rd} (h : Rdr w H b s) (hH : H ≤ w.heap.size) : Calls Tryd.prog 101 #[.pointer (some ⟨b, 0, none⟩)] w fun e w' => e = .returned (.agg #[.int .i64 (eyM s).1.phase, .int .i64 (eyM s).1.on, .int .i64 (eyM s).1.off, .int .i64 (eyM s).1.turns]) ∧ Rdr w' H b (eyM s).2 ∧ Kept w w' (some b) := by
  have hbl := h.lt
  have HE : Hid (eyM s = (⟨(numM s).1, (numM (numM s).2).1, (numM (numM (numM s).2).2).1, (numM (numM (numM (numM s).2).2).2).1⟩, (numM (numM (numM (numM s).2).2).2).2)) := rfl
  have h0 := h.kept ((Kept.alloc w #[.int .i64 0, .int .i64 0, .int .i64 0, .int .i64 0] 97 (0, 0) none).tr (Kept.drew _ none)) (fun i e => by cases e)
  have H0 := Hid.mk' h0
  have hrw0 : (w.alloc (.cells #[.int .i64 0, .int .i64 0, .int .i64 0, .int .i64 0] 97)).rowIs w.heap.size 97 4 (fun i => #[.int .i64 0, .int .i64 0, .int .i64 0, .int .i64 0][i]?.getD undef) := World.rowIs_alloc w #[.int .i64 0, .int .i64 0, .int .i64 0, .int .i64 0] 97 _ (fun i hi => by simp at hi; simp [hi])
  have HRW := Hid.mk' hrw0
  clear h h0 hrw0
  generalize hu0 : numM s = u0 at *
  have HU0 := Hid.mk' hu0
  clear hu0
  obtain ⟨v0, s0⟩ := u0
  dsimp only at *
  generalize hu1 : numM s0 = u1 at *
  have HU1 := Hid.mk' hu1
  clear hu1
  obtain ⟨v1, s1⟩ := u1
  dsimp only at *
  generalize hu2 : numM s1 = u2 at *
  have HU2 := Hid.mk' hu2
  clear hu2
  obtain ⟨v2, s2⟩ := u2
  dsimp only at *
  generalize hu3 : numM s2 = u3 at *
  have HU3 := Hid.mk' hu3
  clear hu3
  obtain ⟨v3, s3⟩ := u3
  dsimp only at *
  rw [HE.out]
  clear HE
  have hbs : some w.heap.size ≠ some b := fun e => by injection e; omega
  go_enter Tryd.func101, Tryd.ntmps101
  go_wp2
  refine wp_region_held_drew (S := fun _ => True) (by kernel_rfl) trivial (fun _ => ?_)
  refine held_take (i := 0) (v := ?vp6x0) rfl rfl (by kernel_rfl) (by kernel_rfl) (by kernel_rfl) (fun _ _ _ h => h) (Or.inl ⟨by rfl, ?hyp6x0⟩) trivial ?restp6x0
  case hyp6x0 => first | (intro w hSw; go_simp; done) | (intro w hSw; go_simp; with_reducible rfl)
  try simp only [List.setIfInBounds_toArray, List.set_cons_zero, List.set_cons_succ]
  refine held_take (i := 1) (v := ?vp6x1) rfl rfl (by kernel_rfl) (by kernel_rfl) (by kernel_rfl) (fun _ _ _ h => h) (Or.inl ⟨by rfl, ?hyp6x1⟩) trivial ?restp6x1
  case hyp6x1 => first | (intro w hSw; go_simp; done) | (intro w hSw; go_simp; with_reducible rfl)
  try simp only [List.setIfInBounds_toArray, List.set_cons_zero, List.set_cons_succ]
  refine held_take (i := 2) (v := ?vp6x2) rfl rfl (by kernel_rfl) (by kernel_rfl) (by kernel_rfl) (fun _ _ _ h => h) (Or.inl ⟨by rfl, ?hyp6x2⟩) trivial ?restp6x2
  case hyp6x2 => first | (intro w hSw; go_simp; done) | (intro w hSw; go_simp; with_reducible rfl)
  try simp only [List.setIfInBounds_toArray, List.set_cons_zero, List.set_cons_succ]
  refine held_take (i := 4) (v := ?vp6x4) rfl rfl (by kernel_rfl) (by kernel_rfl) (by kernel_rfl) (fun _ _ _ h => h) (Or.inl ⟨by rfl, ?hyp6x4⟩) trivial ?restp6x4
  case hyp6x4 => first | (intro w hSw; go_simp; done) | (intro w hSw; go_simp; with_reducible rfl)
  try simp only [List.setIfInBounds_toArray, List.set_cons_zero, List.set_cons_succ]
  refine held_take (i := 5) (v := ?vp6x5) rfl rfl (by kernel_rfl) (by kernel_rfl) (by kernel_rfl) (fun _ _ _ h => h) (Or.inl ⟨by rfl, ?hyp6x5⟩) trivial ?restp6x5
  case hyp6x5 => first | (intro w hSw; go_simp; done) | (intro w hSw; go_simp; with_reducible rfl)
  try simp only [List.setIfInBounds_toArray, List.set_cons_zero, List.set_cons_succ]
  refine held_take (i := 6) (v := ?vp6x6) rfl rfl (by kernel_rfl) (by kernel_rfl) (by kernel_rfl) (fun _ _ _ h => h) (Or.inl ⟨by rfl, ?hyp6x6⟩) trivial ?restp6x6
  case hyp6x6 => first | (intro w hSw; go_simp; done) | (intro w hSw; go_simp; with_reducible rfl)
  try simp only [List.setIfInBounds_toArray, List.set_cons_zero, List.set_cons_succ]
  refine held_take (i := 8) (v := ?vp6x8) rfl rfl (by kernel_rfl) (by kernel_rfl) (by kernel_rfl) (fun _ _ _ h => h) (Or.inl ⟨by rfl, ?hyp6x8⟩) trivial ?restp6x8
  case hyp6x8 => first | (intro w hSw; go_simp; done) | (intro w hSw; go_simp; with_reducible rfl)
  try simp only [List.setIfInBounds_toArray, List.set_cons_zero, List.set_cons_succ]
  refine held_take (i := 9) (v := ?vp6x9) rfl rfl (by kernel_rfl) (by kernel_rfl) (by kernel_rfl) (fun _ _ _ h => h) (Or.inl ⟨by rfl, ?hyp6x9⟩) trivial ?restp6x9
  case hyp6x9 => first | (intro w hSw; go_simp; done) | (intro w hSw; go_simp; with_reducible rfl)
  try simp only [List.setIfInBounds_toArray, List.set_cons_zero, List.set_cons_succ]
  refine held_take (i := 10) (v := ?vp6x10) rfl rfl (by kernel_rfl) (by kernel_rfl) (by kernel_rfl) (fun _ _ _ h => h) (Or.inl ⟨by rfl, ?hyp6x10⟩) trivial ?restp6x10
  case hyp6x10 => first | (intro w hSw; go_simp; done) | (intro w hSw; go_simp; with_reducible rfl)
  try simp only [List.setIfInBounds_toArray, List.set_cons_zero, List.set_cons_succ]
  refine held_take (i := 12) (v := ?vp6x12) rfl rfl (by kernel_rfl) (by kernel_rfl) (by kernel_rfl) (fun _ _ _ h => h) (Or.inl ⟨by rfl, ?hyp6x12⟩) trivial ?restp6x12
  case hyp6x12 => first | (intro w hSw; go_simp; done) | (intro w hSw; go_simp; with_reducible rfl)
  try simp only [List.setIfInBounds_toArray, List.set_cons_zero, List.set_cons_succ]
  refine held_take (i := 13) (v := ?vp6x13) rfl rfl (by kernel_rfl) (by kernel_rfl) (by kernel_rfl) (fun _ _ _ h => h) (Or.inl ⟨by rfl, ?hyp6x13⟩) trivial ?restp6x13
  case hyp6x13 => first | (intro w hSw; go_simp; done) | (intro w hSw; go_simp; with_reducible rfl)
  try simp only [List.setIfInBounds_toArray, List.set_cons_zero, List.set_cons_succ]
  refine held_take (i := 14) (v := ?vp6x14) rfl rfl (by kernel_rfl) (by kernel_rfl) (by kernel_rfl) (fun _ _ _ h => h) (Or.inl ⟨by rfl, ?hyp6x14⟩) trivial ?restp6x14
  case hyp6x14 => first | (intro w hSw; go_simp; done) | (intro w hSw; go_simp; with_reducible rfl)
  try simp only [List.setIfInBounds_toArray, List.set_cons_zero, List.set_cons_succ]
  refine wpAnyH_ready (rs := [3]) (by kernel_rfl) (by simp) ?_
  refine AllReadyH.cons rfl (fun K hK => ?_) AllReadyH.nil
  go_simp
  go_wp2_with (go_at_call 90; have hn := number_any H0.out; rw [HU0.out] at hn; refine hn.mono ?_; rintro e w0 ⟨rfl, hr0, hk0⟩)
  refine hK.out _ _ trivial (fun _ => ?_)
  clear hK K
  have Q0 := Hid.mk' (row_kept (HRW.out.drew) hk0 hbs)
  refine wpAnyH_ready (rs := [7]) (by kernel_rfl) (by simp) ?_
  refine AllReadyH.cons rfl (fun K hK => ?_) AllReadyH.nil
  go_simp
  go_wp2_with (go_at_call 90; have hn := number_any hr0; rw [HU1.out] at hn; refine hn.mono ?_; rintro e w1 ⟨rfl, hr1, hk1⟩)
  refine hK.out _ _ trivial (fun _ => ?_)
  clear hK K
  have Q1 := Hid.mk' (row_kept (Q0.out) hk1 hbs)
  refine wpAnyH_ready (rs := [11]) (by kernel_rfl) (by simp) ?_
  refine AllReadyH.cons rfl (fun K hK => ?_) AllReadyH.nil
  go_simp
  go_wp2_with (go_at_call 90; have hn := number_any hr1; rw [HU2.out] at hn; refine hn.mono ?_; rintro e w2 ⟨rfl, hr2, hk2⟩)
  refine hK.out _ _ trivial (fun _ => ?_)
  clear hK K
  have Q2 := Hid.mk' (row_kept (Q1.out) hk2 hbs)
  refine wpAnyH_ready (rs := [15]) (by kernel_rfl) (by simp) ?_
  refine AllReadyH.cons rfl (fun K hK => ?_) AllReadyH.nil
  go_simp
  go_wp2_with (go_at_call 90; have hn := number_any hr2; rw [HU3.out] at hn; refine hn.mono ?_; rintro e w3 ⟨rfl, hr3, hk3⟩)
  refine hK.out _ _ trivial (fun _ => ?_)
  clear hK K
  have Q3 := Hid.mk' (row_kept (Q2.out) hk3 hbs)
  refine held_take (i := 16) (v := ?vp7x16) rfl rfl (by kernel_rfl) (by kernel_rfl) (by kernel_rfl) (fun _ _ _ h => h) (Or.inl ⟨by rfl, ?hyp7x16⟩) trivial ?restp7x16
  case hyp7x16 => first | (intro w hSw; go_simp; done) | (intro w hSw; go_simp; with_reducible rfl)
  try simp only [List.setIfInBounds_toArray, List.set_cons_zero, List.set_cons_succ]
  have k0 := Q3.out.cell (i := 0) (by omega)
  have z0 := Q3.out.frozen 0
  have k1 := Q3.out.cell (i := 1) (by omega)
  have z1 := Q3.out.frozen 1
  have k2 := Q3.out.cell (i := 2) (by omega)
  have z2 := Q3.out.frozen 2
  have k3 := Q3.out.cell (i := 3) (by omega)
  have z3 := Q3.out.frozen 3
  refine wpAnyH_ready (rs := [17]) (by kernel_rfl) (by simp) ?_
  refine AllReadyH.cons rfl (fun K hK => ?_) AllReadyH.nil
  go_simp
  refine hK.out _ _ trivial (fun _ => ?_)
  clear hK K
  refine wpAnyH_done (by kernel_rfl) ?_ _
  go_wp2
  have hrw := (World.rowIs.set (World.rowIs.set (World.rowIs.set (World.rowIs.set Q3.out 0 (.int .i64 v0)) 1 (.int .i64 v1)) 2 (.int .i64 v2)) 3 (.int .i64 v3))
  have q0 := hrw.cell (i := 0) (by omega)
  have q1 := hrw.cell (i := 1) (by omega)
  have q2 := hrw.cell (i := 2) (by omega)
  have q3 := hrw.cell (i := 3) (by omega)
  exact bodyPost_ret (v := .agg #[.int .i64 v0, .int .i64 v1, .int .i64 v2, .int .i64 v3]) (by simp [results, Tryd.results101, go_sem, q0, q1, q2, q3]) rfl ⟨by first | rfl | rw [one_eq], ((((hr3.setNew hH 0 _).setNew hH 1 _).setNew hH 2 _).setNew hH 3 _), (kept_new (kept_new (kept_new (kept_new ((((((Kept.alloc w _ _ _ _ : Kept w _ (some b)).tr (Kept.drew _ _)).tr hk0).tr hk1).tr hk2).tr hk3) (Nat.le_refl _) 0 _) (Nat.le_refl _) 1 _) (Nat.le_refl _) 2 _) (Nat.le_refl _) 3 _)⟩

end Go.Proofs.YtpajefkfnhibnaaDoor
