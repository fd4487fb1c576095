/-
  Part 5 of the texts that the proofs of this seat stand on.
-/
import Derived.Test.YtoahbpdgbiachaaDoorPart4
import Derived.Deep.RegionWith
import Derived.Deep.DeepCutAuto
/-
  THE CONTRACTS of plan, and of listOf over plans; of readPlans.
-/
namespace Go.Proofs.YtoahbpdgbiachaaDoor
open Go.RowKit Go.Lib Go.Deep
set_option linter.unusedVariables false
set_option linter.unusedSimpArgs false

/-- The zero cells of a plan. -/
abbrev z3 : Array Value := #[.int .i64 0, .int .i64 0, .slice none 0 0]
abbrev f3 (a b c : Value) (i : Nat) : Value := #[a, b, c][i]?.getD undef
theorem row3 (w : World) (a b c : Value) (t : TypeId) : (w.alloc (.cells #[a, b, c] t)).rowIs w.heap.size t 3 (f3 a b c) := World.rowIs_alloc w #[a, b, c] t _ (fun i hi => by simp at hi; simp [f3, hi])
theorem row3_set {w : World} {g : Nat} {t : TypeId} {f : Nat → Value} (h : w.rowIs g t 3 f) (a b c : Value) : (((w.setCell ⟨g, 0, none⟩ a).setCell ⟨g, 1, none⟩ b).setCell ⟨g, 2, none⟩ c).rowIs g t 3 (f3 a b c) :=
  (((h.set 0 a).set 1 b).set 2 c).congr (fun i hi => by
    have : i = 0 ∨ i = 1 ∨ i = 2 := by omega
    rcases this with rfl | rfl | rfl <;> simp [f3])
/-- How it stands behind the first numbers. -/
structure Mid (w wx : World) (H b g : Nat) (s : Rd) (u v x : Value) : Prop where
  rd : Rdr wx H b s
  res : wx.rowIs w.heap.size 113 3 (f3 (.int .i64 0) (.int .i64 0) (.slice none 0 0))
  box : wx.rowIs g 113 3 (f3 u v x)
  gt : w.heap.size < g
  kept : Kept w wx (some b)
theorem Rdr.drew {w : World} {H b : Nat} {s : Rd} (h : Rdr w H b s) : Rdr w.drew H b s := h.kept (Kept.drew _ none) (fun i e => by cases e)
theorem Rdr.alloc {w : World} {H b : Nat} {s : Rd} (h : Rdr w H b s) (c : Array Value) (t : TypeId) : Rdr (w.alloc (.cells c t)) H b s := h.kept (Kept.alloc _ _ _ (0, 0) none) (fun i e => by cases e)
set_option maxRecDepth 100000 in
set_option maxHeartbeats 1000000 in
theorem plan_rd {w : World} {H b : Nat} {s : Rd} (h : Rdr w H b s) (hH : H ≤ w.heap.size) : Calls Tryd.prog 130 #[.pointer (some ⟨b, 0, none⟩)] w fun e w' => ∃ g, w.heap.size ≤ g ∧ e = .returned (.agg #[.int .i64 (plM s).1.cycle, .int .i64 (plM s).1.offset, .slice (some ⟨g, 0, none⟩) (plM s).1.splits.length (plM s).1.splits.length]) ∧ Lie w' (some ⟨g, 0, none⟩) (plM s).1.splits.length 1 (fun i _ => .int .i64 ((plM s).1.splits.getD i 0)) ∧ Rdr w' H b (plM s).2 ∧ Kept w w' (some b) := by
  have hbl := h.lt
  have hrw0 := row3 w (.int .i64 0) (.int .i64 0) (.slice none 0 0) 113
  have h0 := h.kept (Kept.alloc w #[.int .i64 0, .int .i64 0, .slice none 0 0] 113 (0, 0) none) (fun i e => by cases e)
  have H0 := Hid.mk' (h0.kept (Kept.drew _ none) (fun i e => by cases e))
  have HRW := Hid.mk' hrw0
  have HB0 := Hid.mk' ((h0.alloc #[.int .i64 0, .int .i64 0, .slice none 0 0] 113).drew)
  have HE : Hid (plM s = (⟨(numM s).1, (numM (numM s).2).1, (listM numM (upM 8 (numM (numM s).2).2).1 (upM 8 (numM (numM s).2).2).2).1⟩, (listM numM (upM 8 (numM (numM s).2).2).1 (upM 8 (numM (numM s).2).2).2).2)) := rfl
  have hlen := listM_len numM (upM 8 (numM (numM s).2).2).1 (upM 8 (numM (numM s).2).2).2
  have hle := upM_le 8 (numM (numM s).2).2
  clear h h0 hrw0
  generalize hu0 : numM s = u0 at *
  have HU0 := Hid.mk' hu0
  clear hu0
  obtain ⟨v0, s0⟩ := u0
  dsimp only at *
  generalize hu1 : numM s0 = u1 at *
  have HU1 := Hid.mk' hu1
  clear hu1
  obtain ⟨v1, s1⟩ := u1
  dsimp only at *
  generalize hu2 : upM 8 s1 = u2 at *
  have HU2 := Hid.mk' hu2
  clear hu2
  obtain ⟨v2, s2⟩ := u2
  dsimp only at *
  generalize hu3 : listM numM v2 s2 = u3 at *
  have HU3 := Hid.mk' hu3
  clear hu3
  obtain ⟨l3, s3⟩ := u3
  dsimp only at *
  rw [HE.out]
  clear HE
  dsimp only
  rw [hlen]
  have HLEN := Hid.mk' hlen
  clear hlen
  have hbs : some w.heap.size ≠ some b := fun e => by injection e; omega
  have HNE : Hid (∀ g, w.heap.size ≤ g → some g ≠ some b) := fun g hg e => by injection e; omega
  have HP0 : Hid (∀ w', Kept ((w.alloc (.cells #[.int .i64 0, .int .i64 0, .slice none 0 0] 113)).alloc (.cells #[.int .i64 0, .int .i64 0, .slice none 0 0] 113)).drew w' (some b) → w'.rowIs (w.heap.size + 1) 113 3 (f3 (.int .i64 0) (.int .i64 0) (.slice none 0 0))) := fun w' hk => by
    have h1 := row3 (w.alloc (.cells #[.int .i64 0, .int .i64 0, .slice none 0 0] 113)) (.int .i64 0) (.int .i64 0) (.slice none 0 0) 113
    rw [World.size_alloc] at h1
    exact row_kept h1.drew hk (HNE.out _ (by omega))
  have HP1 : Hid (∀ v w' : World, w.heap.size ≤ v.heap.size → Kept (v.alloc (.cells #[.int .i64 0, .int .i64 0, .slice none 0 0] 113)) w' (some b) → w'.rowIs v.heap.size 113 3 (f3 (.int .i64 0) (.int .i64 0) (.slice none 0 0))) := fun v w' hv hk =>
    row_kept (row3 v (.int .i64 0) (.int .i64 0) (.slice none 0 0) 113) hk (HNE.out _ hv)
  go_enter Tryd.func130, Tryd.ntmps130
  go_wp2
  go_cut [3] (fun p wx => ∃ g, p = .pointer (some ⟨g, 0, none⟩) ∧ Mid w wx H b g s1 (.int .i64 v0) (.int .i64 v1) (.slice none 0 0))
  case first =>
    refine wp_region_held_drew (S := fun _ => True) (by kernel_rfl) trivial (fun _ => ?_)
    refine held_take (i := 0) (v := ?vp1x0) rfl rfl (by kernel_rfl) (by kernel_rfl) (by kernel_rfl) (fun _ _ _ h => h) (Or.inl ⟨by rfl, ?hyp1x0⟩) trivial ?restp1x0
    case hyp1x0 => first | (intro w hSw; go_simp; done) | (intro w hSw; go_simp; with_reducible rfl)
    try simp only [List.setIfInBounds_toArray, List.set_cons_zero, List.set_cons_succ]
    refine held_take (i := 1) (v := ?vp1x1) rfl rfl (by kernel_rfl) (by kernel_rfl) (by kernel_rfl) (fun _ _ _ h => h) (Or.inl ⟨by rfl, ?hyp1x1⟩) trivial ?restp1x1
    case hyp1x1 => first | (intro w hSw; go_simp; done) | (intro w hSw; go_simp; with_reducible rfl)
    try simp only [List.setIfInBounds_toArray, List.set_cons_zero, List.set_cons_succ]
    refine held_take (i := 2) (v := ?vp1x2) rfl rfl (by kernel_rfl) (by kernel_rfl) (by kernel_rfl) (fun _ _ _ h => h) (Or.inl ⟨by rfl, ?hyp1x2⟩) trivial ?restp1x2
    case hyp1x2 => first | (intro w hSw; go_simp; done) | (intro w hSw; go_simp; with_reducible rfl)
    try simp only [List.setIfInBounds_toArray, List.set_cons_zero, List.set_cons_succ]
    refine held_take (i := 4) (v := ?vp1x4) rfl rfl (by kernel_rfl) (by kernel_rfl) (by kernel_rfl) (fun _ _ _ h => h) (Or.inl ⟨by rfl, ?hyp1x4⟩) trivial ?restp1x4
    case hyp1x4 => first | (intro w hSw; go_simp; done) | (intro w hSw; go_simp; with_reducible rfl)
    try simp only [List.setIfInBounds_toArray, List.set_cons_zero, List.set_cons_succ]
    refine held_take (i := 5) (v := ?vp1x5) rfl rfl (by kernel_rfl) (by kernel_rfl) (by kernel_rfl) (fun _ _ _ h => h) (Or.inl ⟨by rfl, ?hyp1x5⟩) trivial ?restp1x5
    case hyp1x5 => first | (intro w hSw; go_simp; done) | (intro w hSw; go_simp; with_reducible rfl)
    try simp only [List.setIfInBounds_toArray, List.set_cons_zero, List.set_cons_succ]
    refine held_take (i := 6) (v := ?vp1x6) rfl rfl (by kernel_rfl) (by kernel_rfl) (by kernel_rfl) (fun _ _ _ h => h) (Or.inl ⟨by rfl, ?hyp1x6⟩) trivial ?restp1x6
    case hyp1x6 => first | (intro w hSw; go_simp; done) | (intro w hSw; go_simp; with_reducible rfl)
    try simp only [List.setIfInBounds_toArray, List.set_cons_zero, List.set_cons_succ]
    refine wpAnyH_ready (rs := [3, 9]) (by kernel_rfl) (by simp) ?_
    refine AllReadyH.cons rfl (fun K hK => ?brA) (AllReadyH.cons rfl (fun K hK => ?brB) AllReadyH.nil)
    case brA =>
      go_simp
      go_wp2_with (go_at_call 53; have hn := number_any H0.out; rw [HU0.out] at hn; refine hn.mono ?_; rintro e w0 ⟨rfl, hr0, hk0⟩)
      refine hK.out _ _ trivial (fun _ => ?_)
      clear hK K
      refine wpAnyH_ready (rs := [7, 9]) (by kernel_rfl) (by simp) ?_
      refine AllReadyH.cons rfl (fun K hK => ?brA1) (AllReadyH.cons rfl (fun K hK => ?brA2) AllReadyH.nil)
      case brA1 =>
        go_simp
        go_wp2_with (go_at_call 53; have hn := number_any hr0; rw [HU1.out] at hn; refine hn.mono ?_; rintro e w1 ⟨rfl, hr1, hk1⟩)
        refine hK.out _ _ trivial (fun _ => ?_)
        clear hK K
        refine held_take (i := 8) (v := ?vp2x8) rfl rfl (by kernel_rfl) (by kernel_rfl) (by kernel_rfl) (fun _ _ _ h => h) (Or.inl ⟨by rfl, ?hyp2x8⟩) trivial ?restp2x8
        case hyp2x8 => first | (intro w hSw; go_simp; done) | (intro w hSw; go_simp; with_reducible rfl)
        try simp only [List.setIfInBounds_toArray, List.set_cons_zero, List.set_cons_succ]
        refine wpAnyH_ready (rs := [9]) (by kernel_rfl) (by simp) ?_
        refine AllReadyH.cons rfl (fun K hK => ?_) AllReadyH.nil
        go_simp
        refine hK.out _ _ trivial (fun _ => ?_)
        clear hK K
        refine wpAnyH_ready (rs := [10]) (by kernel_rfl) (by simp) ?_
        refine AllReadyH.cons rfl (fun K hK => ?_) AllReadyH.nil
        go_simp
        refine hK.out _ _ trivial (fun _ => ?_)
        clear hK K
        refine wpAnyH_done (by kernel_rfl) ?_ _
        go_wp2_with fail
        go_meet
        have e1 : w.heap.size < w1.heap.size := by have h1 := hk0.size; have h2 := hk1.size; simp at h1; omega
        exact ⟨_, rfl, hr1.alloc _ _, World.rowIs.alloc (row_kept (row_kept HRW.out.drew hk0 hbs) hk1 hbs) _, row3 w1 _ _ _ _, e1, ((((Kept.alloc w _ _ _ _ : Kept w _ (some b)).tr (Kept.drew _ _)).tr hk0).tr hk1).tr (Kept.alloc _ _ _ (0, 0) _)⟩
      case brA2 =>
        go_simp
        refine hK.out _ _ trivial (fun _ => ?_)
        clear hK K
        refine wpAnyH_ready (rs := [7]) (by kernel_rfl) (by simp) ?_
        refine AllReadyH.cons rfl (fun K hK => ?_) AllReadyH.nil
        go_simp
        go_wp2_with (go_at_call 53; have hn := number_any (hr0.alloc #[.int .i64 0, .int .i64 0, .slice none 0 0] 113); rw [HU1.out] at hn; refine hn.mono ?_; rintro e w1 ⟨rfl, hr1, hk1⟩)
        refine hK.out _ _ trivial (fun _ => ?_)
        clear hK K
        refine held_take (i := 8) (v := ?vp3x8) rfl rfl (by kernel_rfl) (by kernel_rfl) (by kernel_rfl) (fun _ _ _ h => h) (Or.inl ⟨by rfl, ?hyp3x8⟩) trivial ?restp3x8
        case hyp3x8 => first | (intro w hSw; go_simp; done) | (intro w hSw; go_simp; with_reducible rfl)
        try simp only [List.setIfInBounds_toArray, List.set_cons_zero, List.set_cons_succ]
        have P1 := HP1.out w0 w1 (by have := hk0.size; simp at this; omega) hk1
        have k0 := P1.cell (i := 0) (by omega)
        have k1 := P1.cell (i := 1) (by omega)
        have k2 := P1.cell (i := 2) (by omega)
        have zz0 := P1.frozen 0
        have zz1 := P1.frozen 1
        have zz2 := P1.frozen 2
        refine wpAnyH_ready (rs := [10]) (by kernel_rfl) (by simp) ?_
        refine AllReadyH.cons rfl (fun K hK => ?_) AllReadyH.nil
        go_simp
        refine hK.out _ _ trivial (fun _ => ?_)
        clear hK K
        refine wpAnyH_done (by kernel_rfl) ?_ _
        go_wp2_with fail
        go_meet
        have e1 : w.heap.size < w0.heap.size := by have h1 := hk0.size; simp at h1; omega
        have e2 : w.heap.size ≠ w0.heap.size := by omega
        have P2 := row_kept (World.rowIs.alloc (row_kept HRW.out.drew hk0 hbs) (.cells #[.int .i64 0, .int .i64 0, .slice none 0 0] 113)) hk1 hbs
        have K2 : Kept w w1 (some b) := ((((Kept.alloc w _ _ _ _ : Kept w _ (some b)).tr (Kept.drew _ _)).tr hk0).tr (Kept.alloc _ _ _ (0, 0) _)).tr hk1
        exact ⟨_, rfl, ((hr1.setNew (by omega) 0 _).setNew (by omega) 1 _).setNew (by omega) 2 _, ((P2.setOther e2 _).setOther e2 _).setOther e2 _, row3_set P1 _ _ _, e1, kept_new (kept_new (kept_new K2 (by omega) 0 _) (by omega) 1 _) (by omega) 2 _⟩
    case brB =>
      go_simp
      refine hK.out _ _ trivial (fun _ => ?_)
      clear hK K
      refine wpAnyH_ready (rs := [3]) (by kernel_rfl) (by simp) ?_
      refine AllReadyH.cons rfl (fun K hK => ?_) AllReadyH.nil
      go_simp
      go_wp2_with (go_at_call 53; have hn := number_any HB0.out; rw [HU0.out] at hn; refine hn.mono ?_; rintro e w0 ⟨rfl, hr0, hk0⟩)
      refine hK.out _ _ trivial (fun _ => ?_)
      clear hK K
      refine wpAnyH_ready (rs := [7]) (by kernel_rfl) (by simp) ?_
      refine AllReadyH.cons rfl (fun K hK => ?_) AllReadyH.nil
      go_simp
      go_wp2_with (go_at_call 53; have hn := number_any hr0; rw [HU1.out] at hn; refine hn.mono ?_; rintro e w1 ⟨rfl, hr1, hk1⟩)
      refine hK.out _ _ trivial (fun _ => ?_)
      clear hK K
      refine held_take (i := 8) (v := ?vp4x8) rfl rfl (by kernel_rfl) (by kernel_rfl) (by kernel_rfl) (fun _ _ _ h => h) (Or.inl ⟨by rfl, ?hyp4x8⟩) trivial ?restp4x8
      case hyp4x8 => first | (intro w hSw; go_simp; done) | (intro w hSw; go_simp; with_reducible rfl)
      try simp only [List.setIfInBounds_toArray, List.set_cons_zero, List.set_cons_succ]
      have P1 := row_kept (HP0.out w0 hk0) hk1 (HNE.out _ (by omega))
      have k0 := P1.cell (i := 0) (by omega)
      have k1 := P1.cell (i := 1) (by omega)
      have k2 := P1.cell (i := 2) (by omega)
      have zz0 := P1.frozen 0
      have zz1 := P1.frozen 1
      have zz2 := P1.frozen 2
      refine wpAnyH_ready (rs := [10]) (by kernel_rfl) (by simp) ?_
      refine AllReadyH.cons rfl (fun K hK => ?_) AllReadyH.nil
      go_simp
      refine hK.out _ _ trivial (fun _ => ?_)
      clear hK K
      refine wpAnyH_done (by kernel_rfl) ?_ _
      go_wp2_with fail
      go_meet
      have e2 : w.heap.size ≠ w.heap.size + 1 := by omega
      have P2 := row_kept (row_kept (World.rowIs.drew (World.rowIs.alloc HRW.out (.cells #[.int .i64 0, .int .i64 0, .slice none 0 0] 113))) hk0 hbs) hk1 hbs
      have K2 : Kept w w1 (some b) := ((((Kept.alloc w _ _ _ _ : Kept w _ (some b)).tr (Kept.alloc _ _ _ (0, 0) _)).tr (Kept.drew _ _)).tr hk0).tr hk1
      exact ⟨_, rfl, ((hr1.setNew (by omega) 0 _).setNew (by omega) 1 _).setNew (by omega) 2 _, ((P2.setOther e2 _).setOther e2 _).setOther e2 _, row3_set P1 _ _ _, by omega, kept_new (kept_new (kept_new K2 (by omega) 0 _) (by omega) 1 _) (by omega) 2 _⟩
  case rest =>
    obtain ⟨g, rfl, hm⟩ := hcut
    have HM := Hid.mk' hm
    have hgt := hm.gt
    have HSZ := Hid.mk' hm.kept.size
    have hbg : some g ≠ some b := HNE.out _ (by omega)
    clear hm H0 HRW HB0 HP0 HP1
    go_wp2_with fail
    refine wp_region_held_drew (S := fun _ => True) (by kernel_rfl) trivial (fun _ => ?_)
    refine held_take (i := 0) (v := ?vp5x0) rfl rfl (by kernel_rfl) (by kernel_rfl) (by kernel_rfl) (fun _ _ _ h => h) (Or.inl ⟨by rfl, ?hyp5x0⟩) trivial ?restp5x0
    case hyp5x0 => first | (intro w hSw; go_simp; done) | (intro w hSw; go_simp; with_reducible rfl)
    try simp only [List.setIfInBounds_toArray, List.set_cons_zero, List.set_cons_succ]
    refine held_take (i := 1) (v := ?vp5x1) rfl rfl (by kernel_rfl) (by kernel_rfl) (by kernel_rfl) (fun _ _ _ h => h) (Or.inl ⟨by rfl, ?hyp5x1⟩) trivial ?restp5x1
    case hyp5x1 => first | (intro w hSw; go_simp; done) | (intro w hSw; go_simp; with_reducible rfl)
    try simp only [List.setIfInBounds_toArray, List.set_cons_zero, List.set_cons_succ]
    refine held_take (i := 2) (v := ?vp5x2) rfl rfl (by kernel_rfl) (by kernel_rfl) (by kernel_rfl) (fun _ _ _ h => h) (Or.inl ⟨by rfl, ?hyp5x2⟩) trivial ?restp5x2
    case hyp5x2 => first | (intro w hSw; go_simp; done) | (intro w hSw; go_simp; with_reducible rfl)
    try simp only [List.setIfInBounds_toArray, List.set_cons_zero, List.set_cons_succ]
    refine held_take (i := 4) (v := ?vp5x4) rfl rfl (by kernel_rfl) (by kernel_rfl) (by kernel_rfl) (fun _ _ _ h => h) (Or.inl ⟨by rfl, ?hyp5x4⟩) trivial ?restp5x4
    case hyp5x4 => first | (intro w hSw; go_simp; done) | (intro w hSw; go_simp; with_reducible rfl)
    try simp only [List.setIfInBounds_toArray, List.set_cons_zero, List.set_cons_succ]
    refine held_take (i := 5) (v := ?vp5x5) rfl rfl (by kernel_rfl) (by kernel_rfl) (by kernel_rfl) (fun _ _ _ h => h) (Or.inl ⟨by rfl, ?hyp5x5⟩) trivial ?restp5x5
    case hyp5x5 => first | (intro w hSw; go_simp; done) | (intro w hSw; go_simp; with_reducible rfl)
    try simp only [List.setIfInBounds_toArray, List.set_cons_zero, List.set_cons_succ]
    refine held_take (i := 6) (v := ?vp5x6) rfl rfl (by kernel_rfl) (by kernel_rfl) (by kernel_rfl) (fun _ _ _ h => h) (Or.inl ⟨by rfl, ?hyp5x6⟩) trivial ?restp5x6
    case hyp5x6 => first | (intro w hSw; go_simp; done) | (intro w hSw; go_simp; with_reducible rfl)
    try simp only [List.setIfInBounds_toArray, List.set_cons_zero, List.set_cons_succ]
    refine held_take (i := 7) (v := ?vp5x7) rfl rfl (by kernel_rfl) (by kernel_rfl) (by kernel_rfl) (fun _ _ _ h => h) (Or.inl ⟨by rfl, ?hyp5x7⟩) trivial ?restp5x7
    case hyp5x7 => first | (intro w hSw; go_simp; done) | (intro w hSw; go_simp; with_reducible rfl)
    try simp only [List.setIfInBounds_toArray, List.set_cons_zero, List.set_cons_succ]
    refine wpAnyH_ready (rs := [3]) (by kernel_rfl) (by simp) ?_
    refine AllReadyH.cons rfl (fun K hK => ?_) AllReadyH.nil
    go_simp
    go_wp2_with (go_at_call 49; have hn := many_any HM.out.rd.drew 8 (by omega); rw [HU2.out] at hn; refine hn.mono ?_; rintro e w2 ⟨rfl, hr2, hk2⟩)
    have R2 := Hid.mk' hr2
    have Q2 := Hid.mk' (row_kept HM.out.box.drew hk2 hbg)
    have T2 := Hid.mk' (row_kept HM.out.res.drew hk2 hbs)
    clear hr2
    refine hK.out _ _ trivial (fun _ => ?_)
    clear hK K
    refine wpAnyH_ready (rs := [8]) (by kernel_rfl) (by simp) ?_
    refine AllReadyH.cons rfl (fun K hK => ?_) AllReadyH.nil
    go_simp
    go_wp2_with (go_at_call 85; have hn := list_int R2.out (by have h1 := HSZ.out; have h2 := hk2.size; simp at h2; omega) v2 (by omega); rw [HU3.out] at hn; refine hn.mono ?_; rintro e w3 ⟨rfl, hl3, hr3, hk3⟩)
    have Q3 := row_kept Q2.out hk3 hbg
    have T3 := row_kept T2.out hk3 hbs
    have k2 := Q3.cell (i := 2) (by omega)
    have z2 := Q3.frozen 2
    refine hK.out _ _ trivial (fun _ => ?_)
    clear hK K
    refine held_take (i := 9) (v := ?vp6x9) rfl rfl (by kernel_rfl) (by kernel_rfl) (by kernel_rfl) (fun _ _ _ h => h) (Or.inl ⟨by rfl, ?hyp6x9⟩) trivial ?restp6x9
    case hyp6x9 => first | (intro w hSw; go_simp; done) | (intro w hSw; go_simp; with_reducible rfl)
    try simp only [List.setIfInBounds_toArray, List.set_cons_zero, List.set_cons_succ]
    refine wpAnyH_ready (rs := [10]) (by kernel_rfl) (by simp) ?_
    refine AllReadyH.cons rfl (fun K hK => ?_) AllReadyH.nil
    go_simp
    refine hK.out _ _ trivial (fun _ => ?_)
    clear hK K
    refine wpAnyH_done (by kernel_rfl) ?_ _
    clear k2 z2
    have hsz2 : w.heap.size ≤ w2.heap.size := by have h1 := HSZ.out; have h2 := hk2.size; simp at h2; omega
    have hg2 : g < w2.heap.size := Q2.out.lt
    have Q4 := (World.rowIs.set Q3 2 (.slice (some ⟨w2.heap.size, 0, none⟩) v2 v2)).congr (g := f3 (.int .i64 v0) (.int .i64 v1) (.slice (some ⟨w2.heap.size, 0, none⟩) v2 v2)) (fun i hi => by
      have : i = 0 ∨ i = 1 ∨ i = 2 := by omega
      rcases this with rfl | rfl | rfl <;> simp [f3])
    have T4 := World.rowIs.setOther T3 (show w.heap.size ≠ (⟨g, 2, none⟩ : Addr).block by show _ ≠ g; omega) (.slice (some ⟨w2.heap.size, 0, none⟩) v2 v2)
    have K3 : Kept w w3 (some b) := ((HM.out.kept.tr (Kept.drew _ _)).tr hk2).tr hk3
    have K4 := kept_new K3 (show w.heap.size ≤ g by omega) 2 (.slice (some ⟨w2.heap.size, 0, none⟩) v2 v2)
    have R4 := hr3.setNew (show H ≤ g by omega) 2 (.slice (some ⟨w2.heap.size, 0, none⟩) v2 v2)
    have L4 := hl3.keptR (kept_set w3 g 2 (.slice (some ⟨w2.heap.size, 0, none⟩) v2 v2)) (fun _ x e f => by cases e; have f := Option.some.inj f; dsimp only at f; omega)
    clear Q3 T3 hl3 hr3 hk3 hn
    generalize w3.setCell ⟨g, 2, none⟩ (.slice (some ⟨w2.heap.size, 0, none⟩) v2 v2) = w4 at *
    have k0 := Q4.cell (i := 0) (by omega)
    have k1 := Q4.cell (i := 1) (by omega)
    have k2 := Q4.cell (i := 2) (by omega)
    have t0 := T4.cell (i := 0) (by omega)
    have t1 := T4.cell (i := 1) (by omega)
    have t2 := T4.cell (i := 2) (by omega)
    have y0 := T4.frozen 0
    have y1 := T4.frozen 1
    have y2 := T4.frozen 2
    simp [f3] at k0 k1 k2 t0 t1 t2
    go_wp2_with fail
    have hrw := row3_set T4 (.int .i64 v0) (.int .i64 v1) (.slice (some ⟨w2.heap.size, 0, none⟩) v2 v2)
    have q0 := hrw.cell (i := 0) (by omega)
    have q1 := hrw.cell (i := 1) (by omega)
    have q2 := hrw.cell (i := 2) (by omega)
    simp [f3] at q0 q1 q2
    have hne : w2.heap.size ≠ w.heap.size := by omega
    refine bodyPost_ret (v := .agg #[.int .i64 v0, .int .i64 v1, .slice (some ⟨w2.heap.size, 0, none⟩) v2 v2]) (by simp [results, Tryd.results130, go_sem, q0, q1, q2]) rfl ⟨_, hsz2, rfl, ?_, ((R4.setNew hH 0 _).setNew hH 1 _).setNew hH 2 _, kept_new (kept_new (kept_new K4 (Nat.le_refl _) 0 _) (Nat.le_refl _) 1 _) (Nat.le_refl _) 2 _⟩
    exact ((L4.keptR (kept_set _ w.heap.size 0 _) (fun _ x e f => by cases e; have f := Option.some.inj f; dsimp only at f; omega)).keptR (kept_set _ w.heap.size 1 _) (fun _ x e f => by cases e; have f := Option.some.inj f; dsimp only at f; omega)).keptR (kept_set _ w.heap.size 2 _) (fun _ x e f => by cases e; have f := Option.some.inj f; dsimp only at f; omega)

end Go.Proofs.YtoahbpdgbiachaaDoor

/-
  THE CONTRACT of listOf over plans.
-/
namespace Go.Proofs.YtoahbpdgbiachaaDoor
open Go.RowKit Go.Lib Go.Deep
set_option linter.unusedVariables false
set_option linter.unusedSimpArgs false

/-- Plans in new blocks. -/
structure PlN (w : World) (lo a n : Nat) (l : List Pl) : Prop where
  ex : ∃ r : Nat → Nat, Lie w (some ⟨a, 0, none⟩) n 3 (fun i j => plV (l.getD i q0) (some ⟨r i, 0, none⟩) (l.getD i q0).splits.length j) ∧ ∀ i, i < n → lo ≤ r i ∧ Lie w (some ⟨r i, 0, none⟩) (l.getD i q0).splits.length 1 (fun q _ => .int .i64 ((l.getD i q0).splits.getD q 0))
  lo : lo ≤ a
theorem PlN.keptR {w w' : World} {lo a n x : Nat} {l : List Pl} (h : PlN w lo a n l) (q : Kept w w' (some x)) (hx : x < lo) : PlN w' lo a n l := by
  obtain ⟨⟨r, h1, h2⟩, h3⟩ := h
  exact ⟨⟨r, h1.keptR q (fun _ y e f => by cases e; have f := Option.some.inj f; dsimp only at f; omega), fun i hi => ⟨(h2 i hi).1, (h2 i hi).2.keptR q (fun _ y e f => by cases e; have f := Option.some.inj f; dsimp only at f; have := (h2 i hi).1; omega)⟩⟩, h3⟩
theorem plV_snoc {l : List Pl} {x d : Pl} {i : Nat} (h : i < l.length) : (l ++ [x]).getD i d = l.getD i d := getD_snoc_lt h
set_option maxRecDepth 100000 in
set_option maxHeartbeats 1000000 in
theorem list_plan {w : World} {H b : Nat} {s : Rd} (h : Rdr w H b s) (hH : H ≤ w.heap.size) (n : Nat) (hn : n ≤ 24) : Calls Tryd.prog 129 #[.int .i64 n, .func (.func 130) #[.pointer (some ⟨b, 0, none⟩)] #[]] w fun e w' => e = .returned (.slice (some ⟨w.heap.size, 0, none⟩) n n) ∧ PlN w' w.heap.size w.heap.size n (listM plM n s).1 ∧ Rdr w' H b (listM plM n s).2 ∧ Kept w w' (some b) := by
  obtain ⟨i0, hi0, hz0, hz1, hz2⟩ := info_parts (show (Tryd.prog.info? 113).map (fun i => (i.zero, i.size, i.bytes)) = some (some (.agg #[.int .i64 0, .int .i64 0, .slice none 0 0]), 3, 40) from by kernel_rfl)
  have hmk := run_make (P := Tryd.prog) w 46 113 i0 _ (by kernel_rfl) hi0 hz0 .i64 .i64 n n (by omega) (Int.le_refl _) (by rw [hz2]; omega) (by omega)
  rw [hz1, Int.toNat_natCast] at hmk
  have hrow0 := madeRow w (Value.cells (.agg #[.int .i64 0, .int .i64 0, .slice none 0 0])) (n * 3) 113
  have hr0 := h.kept (Kept.alloc w (madeCells (Value.cells (.agg #[.int .i64 0, .int .i64 0, .slice none 0 0])) (n * 3)) 113 (0, 0) none) (fun i e => by cases e)
  have hk0 : Kept w (w.alloc (.cells (madeCells (Value.cells (.agg #[.int .i64 0, .int .i64 0, .slice none 0 0])) (n * 3)) 113)) (some b) := Kept.alloc _ _ _ _ _
  have hbl := h.lt
  have hbs : some w.heap.size ≠ some b := fun e => by injection e; omega
  generalize hW0 : w.alloc (.cells (madeCells (Value.cells (.agg #[.int .i64 0, .int .i64 0, .slice none 0 0])) (n * 3)) 113) = W0 at *
  have HR0 := Hid.mk' hr0
  have HRow0 := Hid.mk' hrow0
  clear h hr0 hrow0 hW0
  go_enter Tryd.func129, Tryd.ntmps129
  go_wp2
  clear hmk
  go_loopw [11] (fun i wr => ∃ k : Nat, k ≤ n ∧ i = .int .i64 k ∧ (∃ f, ∃ r : Nat → Nat, wr.rowIs w.heap.size 113 (n * 3) f ∧ (∀ i, i < k → ∀ j, j < 3 → f (i * 3 + j) = plV ((listM plM k s).1.getD i q0) (some ⟨r i, 0, none⟩) ((listM plM k s).1.getD i q0).splits.length j) ∧ ∀ i, i < k → w.heap.size + 1 ≤ r i ∧ Lie wr (some ⟨r i, 0, none⟩) ((listM plM k s).1.getD i q0).splits.length 1 (fun q _ => .int .i64 (((listM plM k s).1.getD i q0).splits.getD q 0))) ∧ Rdr wr H b (listM plM k s).2 ∧ Kept w wr (some b)) (fun i _ => n - (intOf i).toNat)
  case atStart => exact ⟨0, Nat.zero_le _, rfl, ⟨_, fun _ => 0, HRow0.out, fun i hi => by omega, fun i hi => by omega⟩, HR0.out, hk0⟩
  case round =>
    obtain ⟨k, hk, rfl, ⟨f, r, hrow, hf, hL⟩, hr, hkw⟩ := hrel
    by_cases hlt : k < n
    · have hgw := hrow.lt
      have hcall := plan_rd hr (by omega)
      have hsn := listM_snoc plM k s
      have hlen := listM_len plM k s
      have HF := Hid.mk' hf
      have HL := Hid.mk' hL
      have HROW := Hid.mk' hrow
      have HSN := Hid.mk' hsn
      have HLEN := Hid.mk' hlen
      have HCALL := Hid.mk' hcall
      clear hf hL hrow hsn hlen hcall hr
      generalize hx : (plM (listM plM k s).2).1 = x at *
      clear hx
      go_wp2_with (refine HCALL.out.mono ?_; rintro e w2 ⟨g2, hg2, rfl, hl2, hr2, hk2⟩; have hrow2 := row_kept HROW.out hk2 hbs; have k0 := hrow2.cell (i := k * 3) (by have := idx_lt (j := 0) hlt (show 0 < 3 by omega); omega); have z0 := hrow2.frozen (k * 3); have k1 := hrow2.cell (i := k * 3 + 1) (by have := idx_lt (j := 1) hlt (show 1 < 3 by omega); omega); have z1 := hrow2.frozen (k * 3 + 1); have k2 := hrow2.cell (i := k * 3 + 2) (by have := idx_lt (j := 2) hlt (show 2 < 3 by omega); omega); have z2 := hrow2.frozen (k * 3 + 2); have HL2 := Hid.mk' hl2; clear hl2)
      go_roundw
      case rel =>
        refine ⟨k + 1, by omega, by go_num, ⟨_, fun i => if i = k then g2 else r i, World.rowIs.set (World.rowIs.set (World.rowIs.set hrow2 (k * 3) (.int .i64 x.cycle)) (k * 3 + 1) (.int .i64 x.offset)) (k * 3 + 2) (.slice (some ⟨g2, 0, none⟩) x.splits.length x.splits.length), fun i hi j hj => ?_, fun i hi => ?_⟩, by rw [HSN.out]; exact ((hr2.setNew hH (k * 3) _).setNew hH (k * 3 + 1) _).setNew hH (k * 3 + 2) _, kept_new (kept_new (kept_new (hkw.tr hk2) (Nat.le_refl _) (k * 3) _) (Nat.le_refl _) (k * 3 + 1) _) (Nat.le_refl _) (k * 3 + 2) _⟩
        · rw [HSN.out]
          by_cases hik : i = k
          · subst hik
            have : j = 0 ∨ j = 1 ∨ j = 2 := by omega
            dsimp only
            rw [getD_snoc_eq HLEN.out.symm]
            rcases this with rfl | rfl | rfl <;> simp [plV]
          · have hne := fun q => idx_ne (q := q) (show i < k by omega) hj
            dsimp only
            rw [getD_snoc_lt (by rw [HLEN.out]; omega), if_neg hik]
            have h0 := HF.out i (by omega) j hj
            rw [← h0]
            rw [if_neg (by have := hne 2; omega), if_neg (by have := hne 1; omega), if_neg (by have := hne 0; omega)]
        · rw [HSN.out]
          have hset : ∀ (W : World) (y m q : Nat) (v : Value) (F : Nat → Nat → Value), w.heap.size + 1 ≤ y → Lie W (some ⟨y, 0, none⟩) m 1 F → Lie (W.setCell ⟨w.heap.size, q, none⟩ v) (some ⟨y, 0, none⟩) m 1 F := fun W y m q v F hy hl => hl.keptR (kept_set _ _ _ _) (fun _ x e f => by cases e; have f := Option.some.inj f; dsimp only at f; omega)
          by_cases hik : i = k
          · subst hik
            dsimp only
            rw [getD_snoc_eq HLEN.out.symm, if_pos rfl]
            exact ⟨by omega, hset _ _ _ _ _ _ (by omega) (hset _ _ _ _ _ _ (by omega) (hset _ _ _ _ _ _ (by omega) HL2.out))⟩
          · dsimp only
            rw [getD_snoc_lt (by rw [HLEN.out]; omega), if_neg hik]
            obtain ⟨hr1, hl1⟩ := HL.out i (by omega)
            have hl1 := hl1.keptR hk2 (fun _ x e f => by cases e; have f := Option.some.inj f; dsimp only at f; omega)
            exact ⟨hr1, hset _ _ _ _ _ _ hr1 (hset _ _ _ _ _ _ hr1 (hset _ _ _ _ _ _ hr1 hl1))⟩
      case measure => simp [intOf]; omega
    · have hkk : k = n := by omega
      subst hkk
      have HL := Hid.mk' (PlN.mk ⟨r, lie_row hrow hf, fun i hi => ⟨by have := (hL i hi).1; omega, (hL i hi).2⟩⟩ (Nat.le_refl w.heap.size))
      clear hf hrow hL
      go_wp2
      go_ret
      exact ⟨rfl, HL.out, hr, hkw⟩

end Go.Proofs.YtoahbpdgbiachaaDoor

/-
  THE CONTRACTS of readPlans, of the function in site that reads a row, of listOf over rows.
-/
namespace Go.Proofs.YtoahbpdgbiachaaDoor
open Go.RowKit Go.Lib Go.Deep
set_option linter.unusedVariables false
set_option linter.unusedSimpArgs false

set_option maxRecDepth 100000 in
set_option maxHeartbeats 1000000 in
theorem readPlans_any {w : World} {H b : Nat} {s : Rd} (h : Rdr w H b s) (hH : H ≤ w.heap.size) : Calls Tryd.prog 127 #[.pointer (some ⟨b, 0, none⟩)] w fun e w' => e = .returned (.tuple #[]) ∧ ∃ a, w'.cell? ⟨b, 2, none⟩ = some (.slice (some ⟨a, 0, none⟩) (plansM s).1.length (plansM s).1.length) ∧ PlN w' w.heap.size a (plansM s).1.length (plansM s).1 ∧ Rdr w' H b (plansM s).2 ∧ Kept w w' (some b) := by
  have hbl := h.lt
  have HE : Hid (plansM s = listM plM (upM 8 s).1 (upM 8 s).2) := rfl
  have hlen := listM_len plM (upM 8 s).1 (upM 8 s).2
  have hle := upM_le 8 s
  rw [HE.out, hlen]
  clear HE hlen
  generalize hu2 : upM 8 s = u2 at *
  have HU2 := Hid.mk' hu2
  clear hu2
  obtain ⟨v2, s2⟩ := u2
  dsimp only at *
  have H0 := Hid.mk' h
  clear h
  go_enter Tryd.func127, Tryd.ntmps127
  go_wp2_with (first
    | (have hgo := R2; clear hgo; go_at_call 129; refine (list_plan R2.out (by have h2 := hk2.size; omega) v2 (by omega)).mono ?_; rintro e w3 ⟨rfl, hl3, hr3, hk3⟩; obtain ⟨vc, k2⟩ := hr3.c2; have z2 := hr3.f2; have R3 := Hid.mk' hr3; have L3 := Hid.mk' hl3; clear hr3 hl3)
    | (go_at_call 49; have hn := many_any H0.out 8 (by omega); rw [HU2.out] at hn; refine hn.mono ?_; rintro e w2 ⟨rfl, hr2, hk2⟩; have R2 := Hid.mk' hr2; clear hr2))
  have hsz := hk2.size
  go_end0
  exact ⟨rfl, w2.heap.size, World.cell?_setCell_same' _ _ _ (by rw [k2]; rfl), by
    obtain ⟨⟨r, h1, h2⟩, h3⟩ := L3.out
    exact PlN.keptR ⟨⟨r, h1, fun i hi => ⟨by have := (h2 i hi).1; omega, (h2 i hi).2⟩⟩, by omega⟩ (kept_set _ _ _ _) (by omega), R3.out.put _, (hk2.tr hk3).tr (kept_set _ _ _ _)⟩
set_option maxRecDepth 100000 in
set_option maxHeartbeats 1000000 in
theorem row_rd {w : World} {H b gb rb n : Nat} {s : Rd} (h : Rdr w H b s) (hH : H ≤ w.heap.size) (hn : n ≤ 24) (hg : w.cell? ⟨gb, 0, none⟩ = some (.int .i64 (n : Int))) (hr : w.cell? ⟨rb, 0, none⟩ = some (.pointer (some ⟨b, 0, none⟩))) (hgb : gb ≠ b) (hrb : rb ≠ b) : Calls Tryd.prog 122 #[.pointer (some ⟨gb, 0, none⟩), .pointer (some ⟨rb, 0, none⟩)] w fun e w' => e = .returned (.slice (some ⟨w.heap.size, 0, none⟩) n n) ∧ Lie w' (some ⟨w.heap.size, 0, none⟩) n 1 (fun i j => .int .i64 ((listM numM n s).1.getD i 0)) ∧ Rdr w' H b (listM numM n s).2 ∧ Kept w w' (some b) := by
  have H0 := Hid.mk' h
  clear h
  go_enter Tryd.func122, Tryd.ntmps122
  go_wp2
  refine wp_region_held_drew (S := fun w' => w'.cell? ⟨gb, 0, none⟩ = some (.int .i64 (n : Int)) ∧ w'.cell? ⟨rb, 0, none⟩ = some (.pointer (some ⟨b, 0, none⟩))) (by kernel_rfl) ⟨hg, hr⟩ (fun hHeld => ?_)
  refine held_take (i := 0) (v := ?vh1x0) rfl rfl (by kernel_rfl) (by kernel_rfl) (by kernel_rfl) (fun _ _ _ h => h) (Or.inl ⟨by rfl, ?hyh1x0⟩) hHeld ?resth1x0
  case hyh1x0 => first | (intro w hSw; go_simp; done) | (intro w hSw; go_simp; with_reducible rfl)
  try simp only [List.setIfInBounds_toArray, List.set_cons_zero, List.set_cons_succ]
  refine held_take (i := 1) (v := ?vh1x1) rfl rfl (by kernel_rfl) (by kernel_rfl) (by kernel_rfl) (fun _ _ _ h => h) (Or.inl ⟨by rfl, ?hyh1x1⟩) hHeld ?resth1x1
  case hyh1x1 => first | (intro w hSw; go_simp; done) | (intro w hSw; go_simp; with_reducible rfl)
  try simp only [List.setIfInBounds_toArray, List.set_cons_zero, List.set_cons_succ]
  refine held_take (i := 2) (v := ?vh1x2) rfl rfl (by kernel_rfl) (by kernel_rfl) (by kernel_rfl) (fun _ _ _ h => h) (Or.inl ⟨by rfl, ?hyh1x2⟩) hHeld ?resth1x2
  case hyh1x2 => first | (intro w hSw; go_simp; done) | (intro w hSw; go_simp; with_reducible rfl)
  try simp only [List.setIfInBounds_toArray, List.set_cons_zero, List.set_cons_succ]
  refine held_take (i := 3) (v := ?vh1x3) rfl rfl (by kernel_rfl) (by kernel_rfl) (by kernel_rfl) (fun _ _ _ h => h) (Or.inl ⟨by rfl, ?hyh1x3⟩) hHeld ?resth1x3
  case hyh1x3 => first | (intro w hSw; go_simp; done) | (intro w hSw; go_simp; with_reducible rfl)
  try simp only [List.setIfInBounds_toArray, List.set_cons_zero, List.set_cons_succ]
  refine held_take (i := 4) (v := ?vh1x4) rfl rfl (by kernel_rfl) (by kernel_rfl) (by kernel_rfl) (fun _ _ _ h => h) (Or.inl ⟨by rfl, ?hyh1x4⟩) hHeld ?resth1x4
  case hyh1x4 => first | (intro w hSw; go_simp; done) | (intro w hSw; go_simp; with_reducible rfl)
  try simp only [List.setIfInBounds_toArray, List.set_cons_zero, List.set_cons_succ]
  refine wpAnyH_ready (rs := [5]) (by kernel_rfl) (by simp) ?_
  refine AllReadyH.cons rfl (fun K hK => ?_) AllReadyH.nil
  go_simp
  go_wp2_with (go_at_call 85; refine (list_int H0.out.drew hH n hn).mono ?_; rintro e w3 ⟨rfl, hl3, hr3, hk3⟩)
  refine hK.out _ _ ⟨cell_keptR hHeld.1 hk3 (fun e => hgb (Option.some.inj e)), cell_keptR hHeld.2 hk3 (fun e => hrb (Option.some.inj e))⟩ (fun hHeld2 => ?_)
  clear hK K
  refine wpAnyH_ready (rs := [6]) (by kernel_rfl) (by simp) ?_
  refine AllReadyH.cons rfl (fun K hK => ?_) AllReadyH.nil
  go_simp
  refine hK.out _ _ hHeld2 (fun hHeld3 => ?_)
  clear hK K
  refine wpAnyH_done (by kernel_rfl) ?_ _
  go_wp2_with fail
  go_ret
  exact ⟨rfl, hl3, hr3, (Kept.drew _ _).tr hk3⟩
/-- Rows in new blocks. -/
structure GrN (w : World) (lo a n : Nat) (l : List (List Int)) : Prop where
  ex : ∃ r : Nat → Nat, Lie w (some ⟨a, 0, none⟩) n 1 (fun i j => .slice (some ⟨r i, 0, none⟩) (l.getD i []).length (l.getD i []).length) ∧ ∀ i, i < n → lo ≤ r i ∧ Lie w (some ⟨r i, 0, none⟩) (l.getD i []).length 1 (fun q _ => .int .i64 ((l.getD i []).getD q 0))
  lo : lo ≤ a
theorem GrN.keptR {w w' : World} {lo a n x : Nat} {l : List (List Int)} (h : GrN w lo a n l) (q : Kept w w' (some x)) (hx : x < lo) : GrN w' lo a n l := by
  obtain ⟨⟨r, h1, h2⟩, h3⟩ := h
  exact ⟨⟨r, h1.keptR q (fun _ y e f => by cases e; have f := Option.some.inj f; dsimp only at f; omega), fun i hi => ⟨(h2 i hi).1, (h2 i hi).2.keptR q (fun _ y e f => by cases e; have f := Option.some.inj f; dsimp only at f; have := (h2 i hi).1; omega)⟩⟩, h3⟩
set_option maxRecDepth 100000 in
set_option maxHeartbeats 1000000 in
theorem list_row {w : World} {H b gb rb : Nat} {s : Rd} (h : Rdr w H b s) (hH : H ≤ w.heap.size) (n : Nat) (hn : n ≤ 24) (hg : w.cell? ⟨gb, 0, none⟩ = some (.int .i64 (n : Int))) (hr : w.cell? ⟨rb, 0, none⟩ = some (.pointer (some ⟨b, 0, none⟩))) (hgb : gb ≠ b) (hrb : rb ≠ b) : Calls Tryd.prog 121 #[.int .i64 n, .func (.func 122) #[] #[.pointer (some ⟨gb, 0, none⟩), .pointer (some ⟨rb, 0, none⟩)]] w fun e w' => e = .returned (.slice (some ⟨w.heap.size, 0, none⟩) n n) ∧ GrN w' w.heap.size w.heap.size n (listM (listM numM n) n s).1 ∧ Rdr w' H b (listM (listM numM n) n s).2 ∧ Kept w w' (some b) := by
  obtain ⟨i0, hi0, hz0, hz1, hz2⟩ := info_parts (show (Tryd.prog.info? 31).map (fun i => (i.zero, i.size, i.bytes)) = some (some (.slice none 0 0), 1, 24) from by kernel_rfl)
  have hmk := run_make (P := Tryd.prog) w 43 31 i0 _ (by kernel_rfl) hi0 hz0 .i64 .i64 n n (by omega) (Int.le_refl _) (by rw [hz2]; omega) (by omega)
  rw [hz1, Int.toNat_natCast] at hmk
  have hrow0 := madeRow w (Value.cells (.slice none 0 0)) (n * 1) 31
  have hr0 := h.kept (Kept.alloc w (madeCells (Value.cells (.slice none 0 0)) (n * 1)) 31 (0, 0) none) (fun i e => by cases e)
  have hk0 : Kept w (w.alloc (.cells (madeCells (Value.cells (.slice none 0 0)) (n * 1)) 31)) (some b) := Kept.alloc _ _ _ _ _
  have hbl := h.lt
  have hbs : some w.heap.size ≠ some b := fun e => by injection e; omega
  have hgl := block_lt hg
  have hrl := block_lt hr
  generalize hW0 : w.alloc (.cells (madeCells (Value.cells (.slice none 0 0)) (n * 1)) 31) = W0 at *
  have HR0 := Hid.mk' hr0
  have HRow0 := Hid.mk' hrow0
  have HG := Hid.mk' hg
  have HRB := Hid.mk' hr
  clear h hr0 hrow0 hW0 hg hr
  go_enter Tryd.func121, Tryd.ntmps121
  go_wp2
  clear hmk
  go_loopw [11] (fun i wr => ∃ k : Nat, k ≤ n ∧ i = .int .i64 k ∧ (∃ f, ∃ r : Nat → Nat, wr.rowIs w.heap.size 31 (n * 1) f ∧ (∀ i, i < k → ∀ j, j < 1 → f (i * 1 + j) = .slice (some ⟨r i, 0, none⟩) ((listM (listM numM n) k s).1.getD i []).length ((listM (listM numM n) k s).1.getD i []).length) ∧ ∀ i, i < k → w.heap.size + 1 ≤ r i ∧ Lie wr (some ⟨r i, 0, none⟩) ((listM (listM numM n) k s).1.getD i []).length 1 (fun q _ => .int .i64 (((listM (listM numM n) k s).1.getD i []).getD q 0))) ∧ Rdr wr H b (listM (listM numM n) k s).2 ∧ Kept w wr (some b)) (fun i _ => n - (intOf i).toNat)
  case atStart => exact ⟨0, Nat.zero_le _, rfl, ⟨_, fun _ => 0, HRow0.out, fun i hi => by omega, fun i hi => by omega⟩, HR0.out, hk0⟩
  case round =>
    obtain ⟨k, hk, rfl, ⟨f, r, hrow, hf, hL⟩, hr, hkw⟩ := hrel
    by_cases hlt : k < n
    · have hgw := hrow.lt
      have hcall := row_rd hr (by omega) hn (cell_keptR HG.out hkw (fun e => hgb (Option.some.inj e))) (cell_keptR HRB.out hkw (fun e => hrb (Option.some.inj e))) hgb hrb
      have hsn := listM_snoc (listM numM n) k s
      have hlen := listM_len (listM numM n) k s
      have hxl := listM_len numM n (listM (listM numM n) k s).2
      have HF := Hid.mk' hf
      have HL := Hid.mk' hL
      have HROW := Hid.mk' hrow
      have HSN := Hid.mk' hsn
      have HLEN := Hid.mk' hlen
      have HCALL := Hid.mk' hcall
      clear hf hL hrow hsn hlen hcall hr
      generalize hx : (listM numM n (listM (listM numM n) k s).2).1 = x at *
      have HXL := Hid.mk' hxl
      clear hx hxl
      go_wp2_with (refine HCALL.out.mono ?_; rintro e w2 ⟨rfl, hl2, hr2, hk2⟩; have hrow2 := row_kept HROW.out hk2 hbs; have k0 := hrow2.cell (i := k) (by omega); have z0 := hrow2.frozen k; have HL2 := Hid.mk' hl2; clear hl2)
      go_roundw
      case rel =>
        refine ⟨k + 1, by omega, by go_num, ⟨_, fun i => if i = k then wr.heap.size else r i, World.rowIs.set hrow2 k (.slice (some ⟨wr.heap.size, 0, none⟩) n n), fun i hi j hj => ?_, fun i hi => ?_⟩, by rw [HSN.out]; exact hr2.setNew hH k _, kept_new (hkw.tr hk2) (Nat.le_refl _) k _⟩
        · rw [HSN.out]
          by_cases hik : i = k
          · subst hik
            have : j = 0 := by omega
            subst this
            dsimp only
            rw [getD_snoc_eq HLEN.out.symm]
            simp [HXL.out]
          · dsimp only
            rw [getD_snoc_lt (by rw [HLEN.out]; omega), if_neg hik]
            have h0 := HF.out i (by omega) j hj
            rw [← h0]
            rw [if_neg (by omega)]
        · rw [HSN.out]
          have hset : ∀ (W : World) (y m q : Nat) (v : Value) (F : Nat → Nat → Value), w.heap.size + 1 ≤ y → Lie W (some ⟨y, 0, none⟩) m 1 F → Lie (W.setCell ⟨w.heap.size, q, none⟩ v) (some ⟨y, 0, none⟩) m 1 F := fun W y m q v F hy hl => hl.keptR (kept_set _ _ _ _) (fun _ x e f => by cases e; have f := Option.some.inj f; dsimp only at f; omega)
          by_cases hik : i = k
          · subst hik
            dsimp only
            rw [getD_snoc_eq HLEN.out.symm, if_pos rfl, HXL.out]
            exact ⟨by omega, hset _ _ _ _ _ _ (by omega) HL2.out⟩
          · dsimp only
            rw [getD_snoc_lt (by rw [HLEN.out]; omega), if_neg hik]
            obtain ⟨hr1, hl1⟩ := HL.out i (by omega)
            have hl1 := hl1.keptR hk2 (fun _ x e f => by cases e; have f := Option.some.inj f; dsimp only at f; omega)
            exact ⟨hr1, hset _ _ _ _ _ _ hr1 hl1⟩
      case measure => simp [intOf]; omega
    · have hkk : k = n := by omega
      subst hkk
      have HL := Hid.mk' (GrN.mk ⟨r, lie_row hrow hf, fun i hi => ⟨by have := (hL i hi).1; omega, (hL i hi).2⟩⟩ (Nat.le_refl w.heap.size))
      clear hf hrow hL
      go_wp2
      go_ret
      exact ⟨rfl, HL.out, hr, hkw⟩

end Go.Proofs.YtoahbpdgbiachaaDoor

/-
  HOW IT STANDS WHILE A SITE IS READ: the boxes, the reader, the lists that have been read.
-/
namespace Go.Proofs.YtoahbpdgbiachaaDoor
open Go.RowKit Go.Lib Go.Deep
set_option linter.unusedVariables false
set_option linter.unusedSimpArgs false

abbrev zS : Array Value := #[.int .i64 0, .slice none 0 0, .slice none 0 0, .slice none 0 0, .slice none 0 0, .slice none 0 0, .int .i64 0, .int .i64 0, .int .i64 0, .int .i64 0, .int .i64 0, .slice none 0 0]
def fS (c : Array Value) (i : Nat) : Value := c[i]?.getD undef
theorem fS_set (c : Array Value) (j : Nat) (v : Value) (hj : j < c.size) (i : Nat) : (if i = j then v else fS c i) = fS (c.setIfInBounds j v) i := by
  unfold fS
  rw [Array.getElem?_setIfInBounds]
  by_cases h : i = j
  · subst h; simp [hj]
  · rw [if_neg h, if_neg (fun e => h e.symm)]
/-- The boxes and the reader. -/
structure Sit (w wx : World) (H b g : Nat) (c : Array Value) (s : Rd) : Prop where
  rd : Rdr wx H b s
  bx : wx.cell? ⟨w.heap.size, 0, none⟩ = some (.pointer (some ⟨b, 0, none⟩))
  res : wx.rowIs (w.heap.size + 1) 48 12 (fS zS)
  box : wx.rowIs g 48 12 (fS c)
  gt : w.heap.size + 1 < g
  kept : Kept w wx (some b)
  hi : H ≤ w.heap.size
theorem Sit.lt {w wx : World} {H b g : Nat} {c : Array Value} {s : Rd} (h : Sit w wx H b g c s) : b < w.heap.size := by have := h.rd.lt; have := h.hi; omega
theorem Sit.up {w wx : World} {H b g : Nat} {c : Array Value} {s : Rd} (h : Sit w wx H b g c s) : H ≤ wx.heap.size := by have := h.hi; have := h.kept.size; omega
theorem Sit.call {w wx w' : World} {H b g : Nat} {c : Array Value} {s s' : Rd} (h : Sit w wx H b g c s) (hk : Kept wx w' (some b)) (hr : Rdr w' H b s') : Sit w w' H b g c s' := by
  have hb := h.lt
  have hg := h.gt
  exact ⟨hr, cell_keptR h.bx hk (fun e => by have := Option.some.inj e; omega), row_kept h.res hk (fun e => by have := Option.some.inj e; omega), row_kept h.box hk (fun e => by have := Option.some.inj e; omega), h.gt, h.kept.tr hk, h.hi⟩
theorem Sit.drew {w wx : World} {H b g : Nat} {c : Array Value} {s : Rd} (h : Sit w wx H b g c s) : Sit w wx.drew H b g c s := h.call (Kept.drew _ _) h.rd.drew
theorem Sit.alloc {w wx : World} {H b g : Nat} {c : Array Value} {s : Rd} (h : Sit w wx H b g c s) (d : Array Value) (t : TypeId) : Sit w (wx.alloc (.cells d t)) H b g c s := h.call (Kept.alloc _ _ _ (0, 0) _) (h.rd.alloc _ _)
theorem Sit.put {w wx : World} {H b g : Nat} {c : Array Value} {s : Rd} (h : Sit w wx H b g c s) (j : Nat) (v : Value) (hj : j < c.size) : Sit w (wx.setCell ⟨g, j, none⟩ v) H b g (c.setIfInBounds j v) s := by
  have hg := h.gt
  have hi := h.hi
  refine ⟨h.rd.setNew (by omega) j v, (World.cell?_setCell_other _ _ _ _ (by intro e; injection e with e1; omega)).trans h.bx, h.res.setOther (by show _ ≠ g; omega) v, (h.box.set j v).congr (fun i _ => fS_set c j v hj i), h.gt, kept_new h.kept (by omega) j v, h.hi⟩
/-- What leaves the blocks from lo on as they are. -/
structure Ltr (lo : Nat) (w w' : World) : Prop where
  size : w.heap.size ≤ w'.heap.size
  block : ∀ k, lo ≤ k → k < w.heap.size → w'.heap[k]? = w.heap[k]?
theorem Ltr.tr {lo : Nat} {a b c : World} (h : Ltr lo a b) (k : Ltr lo b c) : Ltr lo a c := ⟨Nat.le_trans h.size k.size, fun i hi hl => (k.block i hi (Nat.lt_of_lt_of_le hl h.size)).trans (h.block i hi hl)⟩
theorem Ltr.up {lo lo' : Nat} {a b : World} (h : Ltr lo a b) (q : lo ≤ lo') : Ltr lo' a b := ⟨h.size, fun i hi hl => h.block i (Nat.le_trans q hi) hl⟩
theorem Ltr.rfl' {lo : Nat} {a : World} : Ltr lo a a := ⟨Nat.le_refl _, fun _ _ _ => rfl⟩
theorem Ltr.of_none {lo : Nat} {w w' : World} (h : Kept w w' none) : Ltr lo w w' := ⟨h.size, fun k _ hl => h.block k hl (by simp)⟩
theorem Kept.ltr {w w' : World} {x lo : Nat} (h : Kept w w' (some x)) (hx : x < lo) : Ltr lo w w' := ⟨h.size, fun k hk hl => h.block k hl (fun e => by have := Option.some.inj e; omega)⟩
theorem Ltr.set {lo : Nat} (w : World) {g : Nat} (hg : g < lo) (j : Nat) (v : Value) : Ltr lo w (w.setCell ⟨g, j, none⟩ v) := (kept_set w g j v).ltr hg
theorem Ltr.cell {lo : Nat} {w w' : World} {b j : Nat} {v : Value} (q : Ltr lo w w') (h : w.cell? ⟨b, j, none⟩ = some v) (hb : lo ≤ b) : w'.cell? ⟨b, j, none⟩ = some v :=
  (World.cell?_of_block (w := w) (a := ⟨b, j, none⟩) (q.block b hb (block_lt h))).trans h
/-- A list in a new block. -/
structure LieN (w : World) (lo a n k : Nat) (f : Nat → Nat → Value) : Prop where
  lie : Lie w (some ⟨a, 0, none⟩) n k f
  lo : lo ≤ a
theorem Lie.ltr {lo : Nat} {w w' : World} {a n k : Nat} {f : Nat → Nat → Value} (h : Lie w (some ⟨a, 0, none⟩) n k f) (q : Ltr lo w w') (hl : lo ≤ a) : Lie w' (some ⟨a, 0, none⟩) n k f :=
  ⟨fun hp => by
    obtain ⟨b, off, e, hb, hc⟩ := h.at_ hp
    injection e with e
    injection e with e1 e2
    subst e1 e2
    exact ⟨a, 0, rfl, Nat.lt_of_lt_of_le hb q.size, fun i hi j hj => q.cell (hc i hi j hj) hl⟩⟩
theorem LieN.ltr {lo : Nat} {w w' : World} {a n k : Nat} {f : Nat → Nat → Value} (h : LieN w lo a n k f) (q : Ltr lo w w') : LieN w' lo a n k f := ⟨h.lie.ltr q h.lo, h.lo⟩
theorem GrN.ltr {lo : Nat} {w w' : World} {a n : Nat} {l : List (List Int)} (h : GrN w lo a n l) (q : Ltr lo w w') : GrN w' lo a n l := by
  obtain ⟨⟨r, h1, h2⟩, h3⟩ := h
  exact ⟨⟨r, h1.ltr q h3, fun i hi => ⟨(h2 i hi).1, (h2 i hi).2.ltr q (h2 i hi).1⟩⟩, h3⟩
theorem PlN.ltr {lo : Nat} {w w' : World} {a n : Nat} {l : List Pl} (h : PlN w lo a n l) (q : Ltr lo w w') : PlN w' lo a n l := by
  obtain ⟨⟨r, h1, h2⟩, h3⟩ := h
  exact ⟨⟨r, h1.ltr q h3, fun i hi => ⟨(h2 i hi).1, (h2 i hi).2.ltr q (h2 i hi).1⟩⟩, h3⟩
theorem GrN.down {lo lo' : Nat} {w : World} {a n : Nat} {l : List (List Int)} (h : GrN w lo a n l) (q : lo' ≤ lo) : GrN w lo' a n l := by
  obtain ⟨⟨r, h1, h2⟩, h3⟩ := h
  exact ⟨⟨r, h1, fun i hi => ⟨Nat.le_trans q (h2 i hi).1, (h2 i hi).2⟩⟩, Nat.le_trans q h3⟩
theorem PlN.down {lo lo' : Nat} {w : World} {a n : Nat} {l : List Pl} (h : PlN w lo a n l) (q : lo' ≤ lo) : PlN w lo' a n l := by
  obtain ⟨⟨r, h1, h2⟩, h3⟩ := h
  exact ⟨⟨r, h1, fun i hi => ⟨Nat.le_trans q (h2 i hi).1, (h2 i hi).2⟩⟩, Nat.le_trans q h3⟩
/-- The result's cells, one after another. -/
structure Fin12 (w wb wx : World) (H b g : Nat) (c : Array Value) (s : Rd) : Prop where
  rd : Rdr wx H b s
  row : wx.rowIs (w.heap.size + 1) 48 12 (fS c)
  kept : Kept w wx (some b)
  ltr : Ltr (g + 1) wb wx
  gt : w.heap.size + 1 < g
  hi : H ≤ w.heap.size
theorem Sit.fin {w wx : World} {H b g : Nat} {c : Array Value} {s : Rd} (h : Sit w wx H b g c s) (j : Nat) (v : Value) (hj : j < c.size) : Fin12 w wx (wx.setCell ⟨g, j, none⟩ v) H b g zS s :=
  ⟨(h.put j v hj).rd, (h.put j v hj).res, (h.put j v hj).kept, Ltr.set wx (Nat.lt_succ_self g) j v, h.gt, h.hi⟩
theorem Fin12.put {w wb wx : World} {H b g : Nat} {c : Array Value} {s : Rd} (h : Fin12 w wb wx H b g c s) (j : Nat) (v : Value) (hj : j < c.size) : Fin12 w wb (wx.setCell ⟨w.heap.size + 1, j, none⟩ v) H b g (c.setIfInBounds j v) s := by
  have hi := h.hi
  have hg := h.gt
  exact ⟨h.rd.setNew (by omega) j v, (h.row.set j v).congr (fun i _ => fS_set c j v hj i), kept_new h.kept (by omega) j v, h.ltr.tr (Ltr.set wx (by omega) j v), h.gt, h.hi⟩
theorem set12 (v0 v1 v2 v3 v4 v5 v6 v7 v8 v9 v10 v11 : Value) : ((((((((((((zS.setIfInBounds 0 v0).setIfInBounds 1 v1).setIfInBounds 2 v2).setIfInBounds 3 v3).setIfInBounds 4 v4).setIfInBounds 5 v5).setIfInBounds 6 v6).setIfInBounds 7 v7).setIfInBounds 8 v8).setIfInBounds 9 v9).setIfInBounds 10 v10).setIfInBounds 11 v11) = #[v0, v1, v2, v3, v4, v5, v6, v7, v8, v9, v10, v11] := by simp only [zS, List.setIfInBounds_toArray, List.set_cons_zero, List.set_cons_succ]
theorem row12 {w0 wx : World} {B lo : Nat} (h : wx.rowIs B 48 12 (fS zS)) (hk : Kept w0 wx none) (hB : w0.heap.size ≤ B) (hl : B < lo) (v0 v1 v2 v3 v4 v5 v6 v7 v8 v9 v10 v11 : Value) : Kept w0 ((((((((((((wx.setCell ⟨B, 0, none⟩ v0).setCell ⟨B, 1, none⟩ v1).setCell ⟨B, 2, none⟩ v2).setCell ⟨B, 3, none⟩ v3).setCell ⟨B, 4, none⟩ v4).setCell ⟨B, 5, none⟩ v5).setCell ⟨B, 6, none⟩ v6).setCell ⟨B, 7, none⟩ v7).setCell ⟨B, 8, none⟩ v8).setCell ⟨B, 9, none⟩ v9).setCell ⟨B, 10, none⟩ v10).setCell ⟨B, 11, none⟩ v11) none ∧ Ltr lo wx ((((((((((((wx.setCell ⟨B, 0, none⟩ v0).setCell ⟨B, 1, none⟩ v1).setCell ⟨B, 2, none⟩ v2).setCell ⟨B, 3, none⟩ v3).setCell ⟨B, 4, none⟩ v4).setCell ⟨B, 5, none⟩ v5).setCell ⟨B, 6, none⟩ v6).setCell ⟨B, 7, none⟩ v7).setCell ⟨B, 8, none⟩ v8).setCell ⟨B, 9, none⟩ v9).setCell ⟨B, 10, none⟩ v10).setCell ⟨B, 11, none⟩ v11) ∧ ((((((((((((wx.setCell ⟨B, 0, none⟩ v0).setCell ⟨B, 1, none⟩ v1).setCell ⟨B, 2, none⟩ v2).setCell ⟨B, 3, none⟩ v3).setCell ⟨B, 4, none⟩ v4).setCell ⟨B, 5, none⟩ v5).setCell ⟨B, 6, none⟩ v6).setCell ⟨B, 7, none⟩ v7).setCell ⟨B, 8, none⟩ v8).setCell ⟨B, 9, none⟩ v9).setCell ⟨B, 10, none⟩ v10).setCell ⟨B, 11, none⟩ v11).cell? ⟨B, 0, none⟩ = some v0 ∧ ((((((((((((wx.setCell ⟨B, 0, none⟩ v0).setCell ⟨B, 1, none⟩ v1).setCell ⟨B, 2, none⟩ v2).setCell ⟨B, 3, none⟩ v3).setCell ⟨B, 4, none⟩ v4).setCell ⟨B, 5, none⟩ v5).setCell ⟨B, 6, none⟩ v6).setCell ⟨B, 7, none⟩ v7).setCell ⟨B, 8, none⟩ v8).setCell ⟨B, 9, none⟩ v9).setCell ⟨B, 10, none⟩ v10).setCell ⟨B, 11, none⟩ v11).cell? ⟨B, 1, none⟩ = some v1 ∧ ((((((((((((wx.setCell ⟨B, 0, none⟩ v0).setCell ⟨B, 1, none⟩ v1).setCell ⟨B, 2, none⟩ v2).setCell ⟨B, 3, none⟩ v3).setCell ⟨B, 4, none⟩ v4).setCell ⟨B, 5, none⟩ v5).setCell ⟨B, 6, none⟩ v6).setCell ⟨B, 7, none⟩ v7).setCell ⟨B, 8, none⟩ v8).setCell ⟨B, 9, none⟩ v9).setCell ⟨B, 10, none⟩ v10).setCell ⟨B, 11, none⟩ v11).cell? ⟨B, 2, none⟩ = some v2 ∧ ((((((((((((wx.setCell ⟨B, 0, none⟩ v0).setCell ⟨B, 1, none⟩ v1).setCell ⟨B, 2, none⟩ v2).setCell ⟨B, 3, none⟩ v3).setCell ⟨B, 4, none⟩ v4).setCell ⟨B, 5, none⟩ v5).setCell ⟨B, 6, none⟩ v6).setCell ⟨B, 7, none⟩ v7).setCell ⟨B, 8, none⟩ v8).setCell ⟨B, 9, none⟩ v9).setCell ⟨B, 10, none⟩ v10).setCell ⟨B, 11, none⟩ v11).cell? ⟨B, 3, none⟩ = some v3 ∧ ((((((((((((wx.setCell ⟨B, 0, none⟩ v0).setCell ⟨B, 1, none⟩ v1).setCell ⟨B, 2, none⟩ v2).setCell ⟨B, 3, none⟩ v3).setCell ⟨B, 4, none⟩ v4).setCell ⟨B, 5, none⟩ v5).setCell ⟨B, 6, none⟩ v6).setCell ⟨B, 7, none⟩ v7).setCell ⟨B, 8, none⟩ v8).setCell ⟨B, 9, none⟩ v9).setCell ⟨B, 10, none⟩ v10).setCell ⟨B, 11, none⟩ v11).cell? ⟨B, 4, none⟩ = some v4 ∧ ((((((((((((wx.setCell ⟨B, 0, none⟩ v0).setCell ⟨B, 1, none⟩ v1).setCell ⟨B, 2, none⟩ v2).setCell ⟨B, 3, none⟩ v3).setCell ⟨B, 4, none⟩ v4).setCell ⟨B, 5, none⟩ v5).setCell ⟨B, 6, none⟩ v6).setCell ⟨B, 7, none⟩ v7).setCell ⟨B, 8, none⟩ v8).setCell ⟨B, 9, none⟩ v9).setCell ⟨B, 10, none⟩ v10).setCell ⟨B, 11, none⟩ v11).cell? ⟨B, 5, none⟩ = some v5 ∧ ((((((((((((wx.setCell ⟨B, 0, none⟩ v0).setCell ⟨B, 1, none⟩ v1).setCell ⟨B, 2, none⟩ v2).setCell ⟨B, 3, none⟩ v3).setCell ⟨B, 4, none⟩ v4).setCell ⟨B, 5, none⟩ v5).setCell ⟨B, 6, none⟩ v6).setCell ⟨B, 7, none⟩ v7).setCell ⟨B, 8, none⟩ v8).setCell ⟨B, 9, none⟩ v9).setCell ⟨B, 10, none⟩ v10).setCell ⟨B, 11, none⟩ v11).cell? ⟨B, 6, none⟩ = some v6 ∧ ((((((((((((wx.setCell ⟨B, 0, none⟩ v0).setCell ⟨B, 1, none⟩ v1).setCell ⟨B, 2, none⟩ v2).setCell ⟨B, 3, none⟩ v3).setCell ⟨B, 4, none⟩ v4).setCell ⟨B, 5, none⟩ v5).setCell ⟨B, 6, none⟩ v6).setCell ⟨B, 7, none⟩ v7).setCell ⟨B, 8, none⟩ v8).setCell ⟨B, 9, none⟩ v9).setCell ⟨B, 10, none⟩ v10).setCell ⟨B, 11, none⟩ v11).cell? ⟨B, 7, none⟩ = some v7 ∧ ((((((((((((wx.setCell ⟨B, 0, none⟩ v0).setCell ⟨B, 1, none⟩ v1).setCell ⟨B, 2, none⟩ v2).setCell ⟨B, 3, none⟩ v3).setCell ⟨B, 4, none⟩ v4).setCell ⟨B, 5, none⟩ v5).setCell ⟨B, 6, none⟩ v6).setCell ⟨B, 7, none⟩ v7).setCell ⟨B, 8, none⟩ v8).setCell ⟨B, 9, none⟩ v9).setCell ⟨B, 10, none⟩ v10).setCell ⟨B, 11, none⟩ v11).cell? ⟨B, 8, none⟩ = some v8 ∧ ((((((((((((wx.setCell ⟨B, 0, none⟩ v0).setCell ⟨B, 1, none⟩ v1).setCell ⟨B, 2, none⟩ v2).setCell ⟨B, 3, none⟩ v3).setCell ⟨B, 4, none⟩ v4).setCell ⟨B, 5, none⟩ v5).setCell ⟨B, 6, none⟩ v6).setCell ⟨B, 7, none⟩ v7).setCell ⟨B, 8, none⟩ v8).setCell ⟨B, 9, none⟩ v9).setCell ⟨B, 10, none⟩ v10).setCell ⟨B, 11, none⟩ v11).cell? ⟨B, 9, none⟩ = some v9 ∧ ((((((((((((wx.setCell ⟨B, 0, none⟩ v0).setCell ⟨B, 1, none⟩ v1).setCell ⟨B, 2, none⟩ v2).setCell ⟨B, 3, none⟩ v3).setCell ⟨B, 4, none⟩ v4).setCell ⟨B, 5, none⟩ v5).setCell ⟨B, 6, none⟩ v6).setCell ⟨B, 7, none⟩ v7).setCell ⟨B, 8, none⟩ v8).setCell ⟨B, 9, none⟩ v9).setCell ⟨B, 10, none⟩ v10).setCell ⟨B, 11, none⟩ v11).cell? ⟨B, 10, none⟩ = some v10 ∧ ((((((((((((wx.setCell ⟨B, 0, none⟩ v0).setCell ⟨B, 1, none⟩ v1).setCell ⟨B, 2, none⟩ v2).setCell ⟨B, 3, none⟩ v3).setCell ⟨B, 4, none⟩ v4).setCell ⟨B, 5, none⟩ v5).setCell ⟨B, 6, none⟩ v6).setCell ⟨B, 7, none⟩ v7).setCell ⟨B, 8, none⟩ v8).setCell ⟨B, 9, none⟩ v9).setCell ⟨B, 10, none⟩ v10).setCell ⟨B, 11, none⟩ v11).cell? ⟨B, 11, none⟩ = some v11 := by
  have e := ((((((((((((((((((((((((h.set 0 v0).congr (fun i _ => fS_set _ 0 v0 (by simp [zS]) i)).set 1 v1).congr (fun i _ => fS_set _ 1 v1 (by simp [zS]) i)).set 2 v2).congr (fun i _ => fS_set _ 2 v2 (by simp [zS]) i)).set 3 v3).congr (fun i _ => fS_set _ 3 v3 (by simp [zS]) i)).set 4 v4).congr (fun i _ => fS_set _ 4 v4 (by simp [zS]) i)).set 5 v5).congr (fun i _ => fS_set _ 5 v5 (by simp [zS]) i)).set 6 v6).congr (fun i _ => fS_set _ 6 v6 (by simp [zS]) i)).set 7 v7).congr (fun i _ => fS_set _ 7 v7 (by simp [zS]) i)).set 8 v8).congr (fun i _ => fS_set _ 8 v8 (by simp [zS]) i)).set 9 v9).congr (fun i _ => fS_set _ 9 v9 (by simp [zS]) i)).set 10 v10).congr (fun i _ => fS_set _ 10 v10 (by simp [zS]) i)).set 11 v11).congr (fun i _ => fS_set _ 11 v11 (by simp [zS]) i))
  rw [set12] at e
  exact ⟨(kept_new (kept_new (kept_new (kept_new (kept_new (kept_new (kept_new (kept_new (kept_new (kept_new (kept_new (kept_new hk hB 0 v0) hB 1 v1) hB 2 v2) hB 3 v3) hB 4 v4) hB 5 v5) hB 6 v6) hB 7 v7) hB 8 v8) hB 9 v9) hB 10 v10) hB 11 v11), ((((((((((((Ltr.rfl'.tr (Ltr.set _ hl 0 v0)).tr (Ltr.set _ hl 1 v1)).tr (Ltr.set _ hl 2 v2)).tr (Ltr.set _ hl 3 v3)).tr (Ltr.set _ hl 4 v4)).tr (Ltr.set _ hl 5 v5)).tr (Ltr.set _ hl 6 v6)).tr (Ltr.set _ hl 7 v7)).tr (Ltr.set _ hl 8 v8)).tr (Ltr.set _ hl 9 v9)).tr (Ltr.set _ hl 10 v10)).tr (Ltr.set _ hl 11 v11)), e.cell (i := 0) (by omega), e.cell (i := 1) (by omega), e.cell (i := 2) (by omega), e.cell (i := 3) (by omega), e.cell (i := 4) (by omega), e.cell (i := 5) (by omega), e.cell (i := 6) (by omega), e.cell (i := 7) (by omega), e.cell (i := 8) (by omega), e.cell (i := 9) (by omega), e.cell (i := 10) (by omega), e.cell (i := 11) (by omega)⟩
theorem Sit.fin12 {w wx : World} {H b g : Nat} {c : Array Value} {s : Rd} (h : Sit w wx H b g c s) (hc : c.size = 12) (p v0 v1 v2 v3 v4 v5 v6 v7 v8 v9 v10 v11 : Value) : Fin12 w wx (((((((((((((wx.setCell ⟨g, 11, none⟩ p).setCell ⟨w.heap.size + 1, 0, none⟩ v0).setCell ⟨w.heap.size + 1, 1, none⟩ v1).setCell ⟨w.heap.size + 1, 2, none⟩ v2).setCell ⟨w.heap.size + 1, 3, none⟩ v3).setCell ⟨w.heap.size + 1, 4, none⟩ v4).setCell ⟨w.heap.size + 1, 5, none⟩ v5).setCell ⟨w.heap.size + 1, 6, none⟩ v6).setCell ⟨w.heap.size + 1, 7, none⟩ v7).setCell ⟨w.heap.size + 1, 8, none⟩ v8).setCell ⟨w.heap.size + 1, 9, none⟩ v9).setCell ⟨w.heap.size + 1, 10, none⟩ v10).setCell ⟨w.heap.size + 1, 11, none⟩ v11) H b g #[v0, v1, v2, v3, v4, v5, v6, v7, v8, v9, v10, v11] s := by
  have e := (((((((((((((h.fin 11 p (by omega)).put 0 v0 (by simp)).put 1 v1 (by simp)).put 2 v2 (by simp)).put 3 v3 (by simp)).put 4 v4 (by simp)).put 5 v5 (by simp)).put 6 v6 (by simp)).put 7 v7 (by simp)).put 8 v8 (by simp)).put 9 v9 (by simp)).put 10 v10 (by simp)).put 11 v11 (by simp))
  rw [set12] at e
  exact e
theorem Fin12.cells {w wb wx : World} {H b g : Nat} {v0 v1 v2 v3 v4 v5 v6 v7 v8 v9 v10 v11 : Value} {s : Rd} (h : Fin12 w wb wx H b g #[v0, v1, v2, v3, v4, v5, v6, v7, v8, v9, v10, v11] s) : wx.cell? ⟨w.heap.size + 1, 0, none⟩ = some v0 ∧ wx.cell? ⟨w.heap.size + 1, 1, none⟩ = some v1 ∧ wx.cell? ⟨w.heap.size + 1, 2, none⟩ = some v2 ∧ wx.cell? ⟨w.heap.size + 1, 3, none⟩ = some v3 ∧ wx.cell? ⟨w.heap.size + 1, 4, none⟩ = some v4 ∧ wx.cell? ⟨w.heap.size + 1, 5, none⟩ = some v5 ∧ wx.cell? ⟨w.heap.size + 1, 6, none⟩ = some v6 ∧ wx.cell? ⟨w.heap.size + 1, 7, none⟩ = some v7 ∧ wx.cell? ⟨w.heap.size + 1, 8, none⟩ = some v8 ∧ wx.cell? ⟨w.heap.size + 1, 9, none⟩ = some v9 ∧ wx.cell? ⟨w.heap.size + 1, 10, none⟩ = some v10 ∧ wx.cell? ⟨w.heap.size + 1, 11, none⟩ = some v11 :=
  ⟨h.row.cell (i := 0) (by omega), h.row.cell (i := 1) (by omega), h.row.cell (i := 2) (by omega), h.row.cell (i := 3) (by omega), h.row.cell (i := 4) (by omega), h.row.cell (i := 5) (by omega), h.row.cell (i := 6) (by omega), h.row.cell (i := 7) (by omega), h.row.cell (i := 8) (by omega), h.row.cell (i := 9) (by omega), h.row.cell (i := 10) (by omega), h.row.cell (i := 11) (by omega)⟩

/-! ### What is read keeps within bounds -/
theorem listM_all {α : Type} {f : Rd → α × Rd} {P : α → Prop} (h : ∀ s, P (f s).1) : ∀ n s, ∀ x ∈ (listM f n s).1, P x
  | 0, s, x, hx => by simp [listM] at hx
  | n + 1, s, x, hx => by
    rw [listM, List.mem_cons] at hx
    rcases hx with rfl | hx
    · exact h s
    · exact listM_all h n _ x hx
theorem numM_le (s : Rd) : 0 ≤ (numM s).1 ∧ (numM s).1 ≤ 1048576 := by
  have := upM_le 1048576 s
  unfold numM
  dsimp only
  omega
theorem numM_i64 (s : Rd) : i64B (numM s).1 := by have := numM_le s; unfold i64B; omega
theorem grM_r (s : Rd) : (grM s).1.kind < 256 ∧ i64B (grM s).1.min ∧ i64B (grM s).1.yellow := ⟨by have := upM_le 255 s; show (upM 255 s).1 < 256; omega, numM_i64 _, numM_i64 _⟩
theorem phM_r (s : Rd) : (phM s).1.groups < 4294967296 ∧ i64B (phM s).1.min ∧ i64B (phM s).1.max ∧ i64B (phM s).1.gap := ⟨by have := upM_le 4294967295 s; show (upM 4294967295 s).1 < _; omega, numM_i64 _, numM_i64 _, numM_i64 _⟩
theorem eyM_r (s : Rd) : i64B (eyM s).1.phase ∧ i64B (eyM s).1.on ∧ i64B (eyM s).1.off ∧ i64B (eyM s).1.turns := ⟨numM_i64 _, numM_i64 _, numM_i64 _, numM_i64 _⟩
theorem plM_r (s : Rd) : (i64B (plM s).1.cycle ∧ i64B (plM s).1.offset) ∧ (plM s).1.splits.length ≤ 8 ∧ ∀ x ∈ (plM s).1.splits, i64B x :=
  ⟨⟨numM_i64 _, numM_i64 _⟩, by
    show (listM numM (upM 8 _).1 _).1.length ≤ 8
    rw [listM_len]
    exact upM_le _ _, listM_all numM_i64 _ _⟩
theorem plansM_r (s : Rd) : (plansM s).1.length ≤ 8 ∧ ∀ p ∈ (plansM s).1, (i64B p.cycle ∧ i64B p.offset) ∧ p.splits.length ≤ 8 ∧ ∀ x ∈ p.splits, i64B x :=
  ⟨by show (listM plM (upM 8 s).1 _).1.length ≤ 8; rw [listM_len]; exact upM_le _ _, listM_all (P := fun p : Pl => (i64B p.cycle ∧ i64B p.offset) ∧ p.splits.length ≤ 8 ∧ ∀ x ∈ p.splits, i64B x) plM_r _ _⟩
theorem cap_some {a : Addr} {n : Nat} (h : n ≤ 1000) : Cap (some a) n n := ⟨fun e => (nomatch e), Nat.le_refl _, by omega⟩
theorem PlN.plans {lo : Nat} {w : World} {a n : Nat} {l : List Pl} (h : PlN w lo a n l) (hn : l.length = n) (h8 : n ≤ 1000) (hr : ∀ p ∈ l, (i64B p.cycle ∧ i64B p.offset) ∧ p.splits.length ≤ 8 ∧ ∀ x ∈ p.splits, i64B x) : Plans w (some ⟨a, 0, none⟩) n n l := by
  obtain ⟨⟨r, h1, h2⟩, h3⟩ := h
  refine ⟨⟨fun i => (some ⟨r i, 0, none⟩, (l.getD i q0).splits.length), h1, fun i hi => ?_⟩, hn, cap_some h8, fun p hp => (hr p hp).1⟩
  have hm := hr _ (getD_mem (d := q0) (show i < l.length by omega))
  exact ⟨(h2 i hi).2, rfl, cap_some (by omega), hm.2.2⟩
theorem GrN.grid {lo : Nat} {w : World} {a n : Nat} {l : List (List Int)} (h : GrN w lo a n l) (hn : l.length = n) (h8 : n ≤ 1000) (hr : ∀ p ∈ l, p.length ≤ 1000 ∧ ∀ x ∈ p, i64B x) : Grid w (some ⟨a, 0, none⟩) n n l := by
  obtain ⟨⟨r, h1, h2⟩, h3⟩ := h
  refine ⟨⟨fun i => (some ⟨r i, 0, none⟩, (l.getD i []).length), h1, fun i hi => ?_⟩, hn, cap_some h8⟩
  have hm := hr _ (getD_mem (d := []) (show i < l.length by omega))
  exact ⟨(h2 i hi).2, rfl, cap_some hm.1, hm.2⟩

end Go.Proofs.YtoahbpdgbiachaaDoor

