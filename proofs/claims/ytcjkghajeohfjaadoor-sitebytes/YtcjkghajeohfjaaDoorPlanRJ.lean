/-
  Texts joined: some of those that the proofs of this seat stand on.
-/
import Derived.Test.YtcjkghajeohfjaaDoorRdrJ
import Derived.Deep.RegionWith
import Derived.Deep.DeepCutAuto
/-
  THE CONTRACTS of plan, and of listOf over plans; of readPlans.
-/
namespace Go.Proofs.YtcjkghajeohfjaaDoor
open Go.RowKit Go.Lib Go.Deep
set_option linter.unusedVariables false
set_option linter.unusedSimpArgs false

/-- The zero cells of a plan. -/
abbrev z3 : Array Value := #[.int .i64 0, .int .i64 0, .slice none 0 0]
abbrev f3 (a b c : Value) (i : Nat) : Value := #[a, b, c][i]?.getD undef
theorem row3 (w : World) (a b c : Value) (t : TypeId) : (w.alloc (.cells #[a, b, c] t)).rowIs w.heap.size t 3 (f3 a b c) := World.rowIs_alloc w #[a, b, c] t _ (fun i hi => by simp at hi; simp [f3, hi])
theorem row3_set {w : World} {g : Nat} {t : TypeId} {f : Nat → Value} (h : w.rowIs g t 3 f) (a b c : Value) : (((w.setCell ⟨g, 0, none⟩ a).setCell ⟨g, 1, none⟩ b).setCell ⟨g, 2, none⟩ c).rowIs g t 3 (f3 a b c) :=
  (((h.set 0 a).set 1 b).set 2 c).congr (fun i hi => by
    have : i = 0 ∨ i = 1 ∨ i = 2 := by omega
    rcases this with rfl | rfl | rfl <;> simp [f3])
/-- How it stands behind the first numbers. -/
structure Mid (w wx : World) (H b g : Nat) (s : Rd) (u v x : Value) : Prop where
  rd : Rdr wx H b s
  res : wx.rowIs w.heap.size 54 3 (f3 (.int .i64 0) (.int .i64 0) (.slice none 0 0))
  box : wx.rowIs g 54 3 (f3 u v x)
  gt : w.heap.size < g
  kept : Kept w wx (some b)
theorem Rdr.drew {w : World} {H b : Nat} {s : Rd} (h : Rdr w H b s) : Rdr w.drew H b s := h.kept (Kept.drew _ none) (fun i e => by cases e)
theorem Rdr.alloc {w : World} {H b : Nat} {s : Rd} (h : Rdr w H b s) (c : Array Value) (t : TypeId) : Rdr (w.alloc (.cells c t)) H b s := h.kept (Kept.alloc _ _ _ (0, 0) none) (fun i e => by cases e)
set_option maxRecDepth 100000 in
set_option maxHeartbeats 1000000 in
theorem plan_rd {w : World} {H b : Nat} {s : Rd} (h : Rdr w H b s) (hH : H ≤ w.heap.size) : Calls Tryd.prog 63 #[.pointer (some ⟨b, 0, none⟩)] w fun e w' => ∃ g, w.heap.size ≤ g ∧ e = .returned (.agg #[.int .i64 (plM s).1.cycle, .int .i64 (plM s).1.offset, .slice (some ⟨g, 0, none⟩) (plM s).1.splits.length (plM s).1.splits.length]) ∧ Lie w' (some ⟨g, 0, none⟩) (plM s).1.splits.length 1 (fun i _ => .int .i64 ((plM s).1.splits.getD i 0)) ∧ Rdr w' H b (plM s).2 ∧ Kept w w' (some b) := by
  have hbl := h.lt
  have hrw0 := row3 w (.int .i64 0) (.int .i64 0) (.slice none 0 0) 54
  have h0 := h.kept (Kept.alloc w #[.int .i64 0, .int .i64 0, .slice none 0 0] 54 (0, 0) none) (fun i e => by cases e)
  have H0 := Hid.mk' (h0.kept (Kept.drew _ none) (fun i e => by cases e))
  have HRW := Hid.mk' hrw0
  have HB0 := Hid.mk' ((h0.alloc #[.int .i64 0, .int .i64 0, .slice none 0 0] 54).drew)
  have HE : Hid (plM s = (⟨(numM s).1, (numM (numM s).2).1, (listM numM (upM 8 (numM (numM s).2).2).1 (upM 8 (numM (numM s).2).2).2).1⟩, (listM numM (upM 8 (numM (numM s).2).2).1 (upM 8 (numM (numM s).2).2).2).2)) := rfl
  have hlen := listM_len numM (upM 8 (numM (numM s).2).2).1 (upM 8 (numM (numM s).2).2).2
  have hle := upM_le 8 (numM (numM s).2).2
  clear h h0 hrw0
  generalize hu0 : numM s = u0 at *
  have HU0 := Hid.mk' hu0
  clear hu0
  obtain ⟨v0, s0⟩ := u0
  dsimp only at *
  generalize hu1 : numM s0 = u1 at *
  have HU1 := Hid.mk' hu1
  clear hu1
  obtain ⟨v1, s1⟩ := u1
  dsimp only at *
  generalize hu2 : upM 8 s1 = u2 at *
  have HU2 := Hid.mk' hu2
  clear hu2
  obtain ⟨v2, s2⟩ := u2
  dsimp only at *
  generalize hu3 : listM numM v2 s2 = u3 at *
  have HU3 := Hid.mk' hu3
  clear hu3
  obtain ⟨l3, s3⟩ := u3
  dsimp only at *
  rw [HE.out]
  clear HE
  dsimp only
  rw [hlen]
  have HLEN := Hid.mk' hlen
  clear hlen
  have hbs : some w.heap.size ≠ some b := fun e => by injection e; omega
  have HNE : Hid (∀ g, w.heap.size ≤ g → some g ≠ some b) := fun g hg e => by injection e; omega
  have HP0 : Hid (∀ w', Kept ((w.alloc (.cells #[.int .i64 0, .int .i64 0, .slice none 0 0] 54)).alloc (.cells #[.int .i64 0, .int .i64 0, .slice none 0 0] 54)).drew w' (some b) → w'.rowIs (w.heap.size + 1) 54 3 (f3 (.int .i64 0) (.int .i64 0) (.slice none 0 0))) := fun w' hk => by
    have h1 := row3 (w.alloc (.cells #[.int .i64 0, .int .i64 0, .slice none 0 0] 54)) (.int .i64 0) (.int .i64 0) (.slice none 0 0) 54
    rw [World.size_alloc] at h1
    exact row_kept h1.drew hk (HNE.out _ (by omega))
  have HP1 : Hid (∀ v w' : World, w.heap.size ≤ v.heap.size → Kept (v.alloc (.cells #[.int .i64 0, .int .i64 0, .slice none 0 0] 54)) w' (some b) → w'.rowIs v.heap.size 54 3 (f3 (.int .i64 0) (.int .i64 0) (.slice none 0 0))) := fun v w' hv hk =>
    row_kept (row3 v (.int .i64 0) (.int .i64 0) (.slice none 0 0) 54) hk (HNE.out _ hv)
  go_enter Tryd.func63, Tryd.ntmps63
  go_wp2
  go_cut [3] (fun p wx => ∃ g, p = .pointer (some ⟨g, 0, none⟩) ∧ Mid w wx H b g s1 (.int .i64 v0) (.int .i64 v1) (.slice none 0 0))
  case first =>
    refine wp_region_held_drew (S := fun _ => True) (by kernel_rfl) trivial (fun _ => ?_)
    refine held_take (i := 0) (v := ?vp1x0) rfl rfl (by kernel_rfl) (by kernel_rfl) (by kernel_rfl) (fun _ _ _ h => h) (Or.inl ⟨by rfl, ?hyp1x0⟩) trivial ?restp1x0
    case hyp1x0 => first | (intro w hSw; go_simp; done) | (intro w hSw; go_simp; with_reducible rfl)
    try simp only [List.setIfInBounds_toArray, List.set_cons_zero, List.set_cons_succ]
    refine held_take (i := 1) (v := ?vp1x1) rfl rfl (by kernel_rfl) (by kernel_rfl) (by kernel_rfl) (fun _ _ _ h => h) (Or.inl ⟨by rfl, ?hyp1x1⟩) trivial ?restp1x1
    case hyp1x1 => first | (intro w hSw; go_simp; done) | (intro w hSw; go_simp; with_reducible rfl)
    try simp only [List.setIfInBounds_toArray, List.set_cons_zero, List.set_cons_succ]
    refine held_take (i := 2) (v := ?vp1x2) rfl rfl (by kernel_rfl) (by kernel_rfl) (by kernel_rfl) (fun _ _ _ h => h) (Or.inl ⟨by rfl, ?hyp1x2⟩) trivial ?restp1x2
    case hyp1x2 => first | (intro w hSw; go_simp; done) | (intro w hSw; go_simp; with_reducible rfl)
    try simp only [List.setIfInBounds_toArray, List.set_cons_zero, List.set_cons_succ]
    refine held_take (i := 4) (v := ?vp1x4) rfl rfl (by kernel_rfl) (by kernel_rfl) (by kernel_rfl) (fun _ _ _ h => h) (Or.inl ⟨by rfl, ?hyp1x4⟩) trivial ?restp1x4
    case hyp1x4 => first | (intro w hSw; go_simp; done) | (intro w hSw; go_simp; with_reducible rfl)
    try simp only [List.setIfInBounds_toArray, List.set_cons_zero, List.set_cons_succ]
    refine held_take (i := 5) (v := ?vp1x5) rfl rfl (by kernel_rfl) (by kernel_rfl) (by kernel_rfl) (fun _ _ _ h => h) (Or.inl ⟨by rfl, ?hyp1x5⟩) trivial ?restp1x5
    case hyp1x5 => first | (intro w hSw; go_simp; done) | (intro w hSw; go_simp; with_reducible rfl)
    try simp only [List.setIfInBounds_toArray, List.set_cons_zero, List.set_cons_succ]
    refine held_take (i := 6) (v := ?vp1x6) rfl rfl (by kernel_rfl) (by kernel_rfl) (by kernel_rfl) (fun _ _ _ h => h) (Or.inl ⟨by rfl, ?hyp1x6⟩) trivial ?restp1x6
    case hyp1x6 => first | (intro w hSw; go_simp; done) | (intro w hSw; go_simp; with_reducible rfl)
    try simp only [List.setIfInBounds_toArray, List.set_cons_zero, List.set_cons_succ]
    refine wpAnyH_ready (rs := [3, 9]) (by kernel_rfl) (by simp) ?_
    refine AllReadyH.cons rfl (fun K hK => ?brA) (AllReadyH.cons rfl (fun K hK => ?brB) AllReadyH.nil)
    case brA =>
      go_simp
      go_wp2_with (go_at_call 46; have hn := number_any H0.out; rw [HU0.out] at hn; refine hn.mono ?_; rintro e w0 ⟨rfl, hr0, hk0⟩)
      refine hK.out _ _ trivial (fun _ => ?_)
      clear hK K
      refine wpAnyH_ready (rs := [7, 9]) (by kernel_rfl) (by simp) ?_
      refine AllReadyH.cons rfl (fun K hK => ?brA1) (AllReadyH.cons rfl (fun K hK => ?brA2) AllReadyH.nil)
      case brA1 =>
        go_simp
        go_wp2_with (go_at_call 46; have hn := number_any hr0; rw [HU1.out] at hn; refine hn.mono ?_; rintro e w1 ⟨rfl, hr1, hk1⟩)
        refine hK.out _ _ trivial (fun _ => ?_)
        clear hK K
        refine held_take (i := 8) (v := ?vp2x8) rfl rfl (by kernel_rfl) (by kernel_rfl) (by kernel_rfl) (fun _ _ _ h => h) (Or.inl ⟨by rfl, ?hyp2x8⟩) trivial ?restp2x8
        case hyp2x8 => first | (intro w hSw; go_simp; done) | (intro w hSw; go_simp; with_reducible rfl)
        try simp only [List.setIfInBounds_toArray, List.set_cons_zero, List.set_cons_succ]
        refine wpAnyH_ready (rs := [9]) (by kernel_rfl) (by simp) ?_
        refine AllReadyH.cons rfl (fun K hK => ?_) AllReadyH.nil
        go_simp
        refine hK.out _ _ trivial (fun _ => ?_)
        clear hK K
        refine wpAnyH_ready (rs := [10]) (by kernel_rfl) (by simp) ?_
        refine AllReadyH.cons rfl (fun K hK => ?_) AllReadyH.nil
        go_simp
        refine hK.out _ _ trivial (fun _ => ?_)
        clear hK K
        refine wpAnyH_done (by kernel_rfl) ?_ _
        go_wp2_with fail
        go_meet
        have e1 : w.heap.size < w1.heap.size := by have h1 := hk0.size; have h2 := hk1.size; simp at h1; omega
        exact ⟨_, rfl, hr1.alloc _ _, World.rowIs.alloc (row_kept (row_kept HRW.out.drew hk0 hbs) hk1 hbs) _, row3 w1 _ _ _ _, e1, ((((Kept.alloc w _ _ _ _ : Kept w _ (some b)).tr (Kept.drew _ _)).tr hk0).tr hk1).tr (Kept.alloc _ _ _ (0, 0) _)⟩
      case brA2 =>
        go_simp
        refine hK.out _ _ trivial (fun _ => ?_)
        clear hK K
        refine wpAnyH_ready (rs := [7]) (by kernel_rfl) (by simp) ?_
        refine AllReadyH.cons rfl (fun K hK => ?_) AllReadyH.nil
        go_simp
        go_wp2_with (go_at_call 46; have hn := number_any (hr0.alloc #[.int .i64 0, .int .i64 0, .slice none 0 0] 54); rw [HU1.out] at hn; refine hn.mono ?_; rintro e w1 ⟨rfl, hr1, hk1⟩)
        refine hK.out _ _ trivial (fun _ => ?_)
        clear hK K
        refine held_take (i := 8) (v := ?vp3x8) rfl rfl (by kernel_rfl) (by kernel_rfl) (by kernel_rfl) (fun _ _ _ h => h) (Or.inl ⟨by rfl, ?hyp3x8⟩) trivial ?restp3x8
        case hyp3x8 => first | (intro w hSw; go_simp; done) | (intro w hSw; go_simp; with_reducible rfl)
        try simp only [List.setIfInBounds_toArray, List.set_cons_zero, List.set_cons_succ]
        have P1 := HP1.out w0 w1 (by have := hk0.size; simp at this; omega) hk1
        have k0 := P1.cell (i := 0) (by omega)
        have k1 := P1.cell (i := 1) (by omega)
        have k2 := P1.cell (i := 2) (by omega)
        have zz0 := P1.frozen 0
        have zz1 := P1.frozen 1
        have zz2 := P1.frozen 2
        refine wpAnyH_ready (rs := [10]) (by kernel_rfl) (by simp) ?_
        refine AllReadyH.cons rfl (fun K hK => ?_) AllReadyH.nil
        go_simp
        refine hK.out _ _ trivial (fun _ => ?_)
        clear hK K
        refine wpAnyH_done (by kernel_rfl) ?_ _
        go_wp2_with fail
        go_meet
        have e1 : w.heap.size < w0.heap.size := by have h1 := hk0.size; simp at h1; omega
        have e2 : w.heap.size ≠ w0.heap.size := by omega
        have P2 := row_kept (World.rowIs.alloc (row_kept HRW.out.drew hk0 hbs) (.cells #[.int .i64 0, .int .i64 0, .slice none 0 0] 54)) hk1 hbs
        have K2 : Kept w w1 (some b) := ((((Kept.alloc w _ _ _ _ : Kept w _ (some b)).tr (Kept.drew _ _)).tr hk0).tr (Kept.alloc _ _ _ (0, 0) _)).tr hk1
        exact ⟨_, rfl, ((hr1.setNew (by omega) 0 _).setNew (by omega) 1 _).setNew (by omega) 2 _, ((P2.setOther e2 _).setOther e2 _).setOther e2 _, row3_set P1 _ _ _, e1, kept_new (kept_new (kept_new K2 (by omega) 0 _) (by omega) 1 _) (by omega) 2 _⟩
    case brB =>
      go_simp
      refine hK.out _ _ trivial (fun _ => ?_)
      clear hK K
      refine wpAnyH_ready (rs := [3]) (by kernel_rfl) (by simp) ?_
      refine AllReadyH.cons rfl (fun K hK => ?_) AllReadyH.nil
      go_simp
      go_wp2_with (go_at_call 46; have hn := number_any HB0.out; rw [HU0.out] at hn; refine hn.mono ?_; rintro e w0 ⟨rfl, hr0, hk0⟩)
      refine hK.out _ _ trivial (fun _ => ?_)
      clear hK K
      refine wpAnyH_ready (rs := [7]) (by kernel_rfl) (by simp) ?_
      refine AllReadyH.cons rfl (fun K hK => ?_) AllReadyH.nil
      go_simp
      go_wp2_with (go_at_call 46; have hn := number_any hr0; rw [HU1.out] at hn; refine hn.mono ?_; rintro e w1 ⟨rfl, hr1, hk1⟩)
      refine hK.out _ _ trivial (fun _ => ?_)
      clear hK K
      refine held_take (i := 8) (v := ?vp4x8) rfl rfl (by kernel_rfl) (by kernel_rfl) (by kernel_rfl) (fun _ _ _ h => h) (Or.inl ⟨by rfl, ?hyp4x8⟩) trivial ?restp4x8
      case hyp4x8 => first | (intro w hSw; go_simp; done) | (intro w hSw; go_simp; with_reducible rfl)
      try simp only [List.setIfInBounds_toArray, List.set_cons_zero, List.set_cons_succ]
      have P1 := row_kept (HP0.out w0 hk0) hk1 (HNE.out _ (by omega))
      have k0 := P1.cell (i := 0) (by omega)
      have k1 := P1.cell (i := 1) (by omega)
      have k2 := P1.cell (i := 2) (by omega)
      have zz0 := P1.frozen 0
      have zz1 := P1.frozen 1
      have zz2 := P1.frozen 2
      refine wpAnyH_ready (rs := [10]) (by kernel_rfl) (by simp) ?_
      refine AllReadyH.cons rfl (fun K hK => ?_) AllReadyH.nil
      go_simp
      refine hK.out _ _ trivial (fun _ => ?_)
      clear hK K
      refine wpAnyH_done (by kernel_rfl) ?_ _
      go_wp2_with fail
      go_meet
      have e2 : w.heap.size ≠ w.heap.size + 1 := by omega
      have P2 := row_kept (row_kept (World.rowIs.drew (World.rowIs.alloc HRW.out (.cells #[.int .i64 0, .int .i64 0, .slice none 0 0] 54))) hk0 hbs) hk1 hbs
      have K2 : Kept w w1 (some b) := ((((Kept.alloc w _ _ _ _ : Kept w _ (some b)).tr (Kept.alloc _ _ _ (0, 0) _)).tr (Kept.drew _ _)).tr hk0).tr hk1
      exact ⟨_, rfl, ((hr1.setNew (by omega) 0 _).setNew (by omega) 1 _).setNew (by omega) 2 _, ((P2.setOther e2 _).setOther e2 _).setOther e2 _, row3_set P1 _ _ _, by omega, kept_new (kept_new (kept_new K2 (by omega) 0 _) (by omega) 1 _) (by omega) 2 _⟩
  case rest =>
    obtain ⟨g, rfl, hm⟩ := hcut
    have HM := Hid.mk' hm
    have hgt := hm.gt
    have HSZ := Hid.mk' hm.kept.size
    have hbg : some g ≠ some b := HNE.out _ (by omega)
    clear hm H0 HRW HB0 HP0 HP1
    go_wp2_with fail
    refine wp_region_held_drew (S := fun _ => True) (by kernel_rfl) trivial (fun _ => ?_)
    refine held_take (i := 0) (v := ?vp5x0) rfl rfl (by kernel_rfl) (by kernel_rfl) (by kernel_rfl) (fun _ _ _ h => h) (Or.inl ⟨by rfl, ?hyp5x0⟩) trivial ?restp5x0
    case hyp5x0 => first | (intro w hSw; go_simp; done) | (intro w hSw; go_simp; with_reducible rfl)
    try simp only [List.setIfInBounds_toArray, List.set_cons_zero, List.set_cons_succ]
    refine held_take (i := 1) (v := ?vp5x1) rfl rfl (by kernel_rfl) (by kernel_rfl) (by kernel_rfl) (fun _ _ _ h => h) (Or.inl ⟨by rfl, ?hyp5x1⟩) trivial ?restp5x1
    case hyp5x1 => first | (intro w hSw; go_simp; done) | (intro w hSw; go_simp; with_reducible rfl)
    try simp only [List.setIfInBounds_toArray, List.set_cons_zero, List.set_cons_succ]
    refine held_take (i := 2) (v := ?vp5x2) rfl rfl (by kernel_rfl) (by kernel_rfl) (by kernel_rfl) (fun _ _ _ h => h) (Or.inl ⟨by rfl, ?hyp5x2⟩) trivial ?restp5x2
    case hyp5x2 => first | (intro w hSw; go_simp; done) | (intro w hSw; go_simp; with_reducible rfl)
    try simp only [List.setIfInBounds_toArray, List.set_cons_zero, List.set_cons_succ]
    refine held_take (i := 4) (v := ?vp5x4) rfl rfl (by kernel_rfl) (by kernel_rfl) (by kernel_rfl) (fun _ _ _ h => h) (Or.inl ⟨by rfl, ?hyp5x4⟩) trivial ?restp5x4
    case hyp5x4 => first | (intro w hSw; go_simp; done) | (intro w hSw; go_simp; with_reducible rfl)
    try simp only [List.setIfInBounds_toArray, List.set_cons_zero, List.set_cons_succ]
    refine held_take (i := 5) (v := ?vp5x5) rfl rfl (by kernel_rfl) (by kernel_rfl) (by kernel_rfl) (fun _ _ _ h => h) (Or.inl ⟨by rfl, ?hyp5x5⟩) trivial ?restp5x5
    case hyp5x5 => first | (intro w hSw; go_simp; done) | (intro w hSw; go_simp; with_reducible rfl)
    try simp only [List.setIfInBounds_toArray, List.set_cons_zero, List.set_cons_succ]
    refine held_take (i := 6) (v := ?vp5x6) rfl rfl (by kernel_rfl) (by kernel_rfl) (by kernel_rfl) (fun _ _ _ h => h) (Or.inl ⟨by rfl, ?hyp5x6⟩) trivial ?restp5x6
    case hyp5x6 => first | (intro w hSw; go_simp; done) | (intro w hSw; go_simp; with_reducible rfl)
    try simp only [List.setIfInBounds_toArray, List.set_cons_zero, List.set_cons_succ]
    refine held_take (i := 7) (v := ?vp5x7) rfl rfl (by kernel_rfl) (by kernel_rfl) (by kernel_rfl) (fun _ _ _ h => h) (Or.inl ⟨by rfl, ?hyp5x7⟩) trivial ?restp5x7
    case hyp5x7 => first | (intro w hSw; go_simp; done) | (intro w hSw; go_simp; with_reducible rfl)
    try simp only [List.setIfInBounds_toArray, List.set_cons_zero, List.set_cons_succ]
    refine wpAnyH_ready (rs := [3]) (by kernel_rfl) (by simp) ?_
    refine AllReadyH.cons rfl (fun K hK => ?_) AllReadyH.nil
    go_simp
    go_wp2_with (go_at_call 48; have hn := many_any HM.out.rd.drew 8 (by omega); rw [HU2.out] at hn; refine hn.mono ?_; rintro e w2 ⟨rfl, hr2, hk2⟩)
    have R2 := Hid.mk' hr2
    have Q2 := Hid.mk' (row_kept HM.out.box.drew hk2 hbg)
    have T2 := Hid.mk' (row_kept HM.out.res.drew hk2 hbs)
    clear hr2
    refine hK.out _ _ trivial (fun _ => ?_)
    clear hK K
    refine wpAnyH_ready (rs := [8]) (by kernel_rfl) (by simp) ?_
    refine AllReadyH.cons rfl (fun K hK => ?_) AllReadyH.nil
    go_simp
    go_wp2_with (go_at_call 54; have hn := list_int R2.out (by have h1 := HSZ.out; have h2 := hk2.size; simp at h2; omega) v2 (by omega); rw [HU3.out] at hn; refine hn.mono ?_; rintro e w3 ⟨rfl, hl3, hr3, hk3⟩)
    have Q3 := row_kept Q2.out hk3 hbg
    have T3 := row_kept T2.out hk3 hbs
    have k2 := Q3.cell (i := 2) (by omega)
    have z2 := Q3.frozen 2
    refine hK.out _ _ trivial (fun _ => ?_)
    clear hK K
    refine held_take (i := 9) (v := ?vp6x9) rfl rfl (by kernel_rfl) (by kernel_rfl) (by kernel_rfl) (fun _ _ _ h => h) (Or.inl ⟨by rfl, ?hyp6x9⟩) trivial ?restp6x9
    case hyp6x9 => first | (intro w hSw; go_simp; done) | (intro w hSw; go_simp; with_reducible rfl)
    try simp only [List.setIfInBounds_toArray, List.set_cons_zero, List.set_cons_succ]
    refine wpAnyH_ready (rs := [10]) (by kernel_rfl) (by simp) ?_
    refine AllReadyH.cons rfl (fun K hK => ?_) AllReadyH.nil
    go_simp
    refine hK.out _ _ trivial (fun _ => ?_)
    clear hK K
    refine wpAnyH_done (by kernel_rfl) ?_ _
    clear k2 z2
    have hsz2 : w.heap.size ≤ w2.heap.size := by have h1 := HSZ.out; have h2 := hk2.size; simp at h2; omega
    have hg2 : g < w2.heap.size := Q2.out.lt
    have Q4 := (World.rowIs.set Q3 2 (.slice (some ⟨w2.heap.size, 0, none⟩) v2 v2)).congr (g := f3 (.int .i64 v0) (.int .i64 v1) (.slice (some ⟨w2.heap.size, 0, none⟩) v2 v2)) (fun i hi => by
      have : i = 0 ∨ i = 1 ∨ i = 2 := by omega
      rcases this with rfl | rfl | rfl <;> simp [f3])
    have T4 := World.rowIs.setOther T3 (show w.heap.size ≠ (⟨g, 2, none⟩ : Addr).block by show _ ≠ g; omega) (.slice (some ⟨w2.heap.size, 0, none⟩) v2 v2)
    have K3 : Kept w w3 (some b) := ((HM.out.kept.tr (Kept.drew _ _)).tr hk2).tr hk3
    have K4 := kept_new K3 (show w.heap.size ≤ g by omega) 2 (.slice (some ⟨w2.heap.size, 0, none⟩) v2 v2)
    have R4 := hr3.setNew (show H ≤ g by omega) 2 (.slice (some ⟨w2.heap.size, 0, none⟩) v2 v2)
    have L4 := hl3.keptR (kept_set w3 g 2 (.slice (some ⟨w2.heap.size, 0, none⟩) v2 v2)) (fun _ x e f => by cases e; have f := Option.some.inj f; dsimp only at f; omega)
    clear Q3 T3 hl3 hr3 hk3 hn
    generalize w3.setCell ⟨g, 2, none⟩ (.slice (some ⟨w2.heap.size, 0, none⟩) v2 v2) = w4 at *
    have k0 := Q4.cell (i := 0) (by omega)
    have k1 := Q4.cell (i := 1) (by omega)
    have k2 := Q4.cell (i := 2) (by omega)
    have t0 := T4.cell (i := 0) (by omega)
    have t1 := T4.cell (i := 1) (by omega)
    have t2 := T4.cell (i := 2) (by omega)
    have y0 := T4.frozen 0
    have y1 := T4.frozen 1
    have y2 := T4.frozen 2
    simp [f3] at k0 k1 k2 t0 t1 t2
    go_wp2_with fail
    have hrw := row3_set T4 (.int .i64 v0) (.int .i64 v1) (.slice (some ⟨w2.heap.size, 0, none⟩) v2 v2)
    have q0 := hrw.cell (i := 0) (by omega)
    have q1 := hrw.cell (i := 1) (by omega)
    have q2 := hrw.cell (i := 2) (by omega)
    simp [f3] at q0 q1 q2
    have hne : w2.heap.size ≠ w.heap.size := by omega
    refine bodyPost_ret (v := .agg #[.int .i64 v0, .int .i64 v1, .slice (some ⟨w2.heap.size, 0, none⟩) v2 v2]) (by simp [results, Tryd.results63, go_sem, q0, q1, q2]) rfl ⟨_, hsz2, rfl, ?_, ((R4.setNew hH 0 _).setNew hH 1 _).setNew hH 2 _, kept_new (kept_new (kept_new K4 (Nat.le_refl _) 0 _) (Nat.le_refl _) 1 _) (Nat.le_refl _) 2 _⟩
    exact ((L4.keptR (kept_set _ w.heap.size 0 _) (fun _ x e f => by cases e; have f := Option.some.inj f; dsimp only at f; omega)).keptR (kept_set _ w.heap.size 1 _) (fun _ x e f => by cases e; have f := Option.some.inj f; dsimp only at f; omega)).keptR (kept_set _ w.heap.size 2 _) (fun _ x e f => by cases e; have f := Option.some.inj f; dsimp only at f; omega)

end Go.Proofs.YtcjkghajeohfjaaDoor

/-
  THE CONTRACT of listOf over plans.
-/
namespace Go.Proofs.YtcjkghajeohfjaaDoor
open Go.RowKit Go.Lib Go.Deep
set_option linter.unusedVariables false
set_option linter.unusedSimpArgs false

/-- Plans in new blocks. -/
structure PlN (w : World) (lo a n : Nat) (l : List Pl) : Prop where
  ex : ∃ r : Nat → Nat, Lie w (some ⟨a, 0, none⟩) n 3 (fun i j => plV (l.getD i q0) (some ⟨r i, 0, none⟩) (l.getD i q0).splits.length j) ∧ ∀ i, i < n → lo ≤ r i ∧ Lie w (some ⟨r i, 0, none⟩) (l.getD i q0).splits.length 1 (fun q _ => .int .i64 ((l.getD i q0).splits.getD q 0))
  lo : lo ≤ a
theorem PlN.keptR {w w' : World} {lo a n x : Nat} {l : List Pl} (h : PlN w lo a n l) (q : Kept w w' (some x)) (hx : x < lo) : PlN w' lo a n l := by
  obtain ⟨⟨r, h1, h2⟩, h3⟩ := h
  exact ⟨⟨r, h1.keptR q (fun _ y e f => by cases e; have f := Option.some.inj f; dsimp only at f; omega), fun i hi => ⟨(h2 i hi).1, (h2 i hi).2.keptR q (fun _ y e f => by cases e; have f := Option.some.inj f; dsimp only at f; have := (h2 i hi).1; omega)⟩⟩, h3⟩
theorem plV_snoc {l : List Pl} {x d : Pl} {i : Nat} (h : i < l.length) : (l ++ [x]).getD i d = l.getD i d := getD_snoc_lt h
set_option maxRecDepth 100000 in
set_option maxHeartbeats 1000000 in
theorem list_plan {w : World} {H b : Nat} {s : Rd} (h : Rdr w H b s) (hH : H ≤ w.heap.size) (n : Nat) (hn : n ≤ 24) : Calls Tryd.prog 62 #[.int .i64 n, .func (.func 63) #[.pointer (some ⟨b, 0, none⟩)] #[]] w fun e w' => e = .returned (.slice (some ⟨w.heap.size, 0, none⟩) n n) ∧ PlN w' w.heap.size w.heap.size n (listM plM n s).1 ∧ Rdr w' H b (listM plM n s).2 ∧ Kept w w' (some b) := by
  obtain ⟨i0, hi0, hz0, hz1, hz2⟩ := info_parts (show (Tryd.prog.info? 54).map (fun i => (i.zero, i.size, i.bytes)) = some (some (.agg #[.int .i64 0, .int .i64 0, .slice none 0 0]), 3, 40) from by kernel_rfl)
  have hmk := run_make (P := Tryd.prog) w 27 54 i0 _ (by kernel_rfl) hi0 hz0 .i64 .i64 n n (by omega) (Int.le_refl _) (by rw [hz2]; omega) (by omega)
  rw [hz1, Int.toNat_natCast] at hmk
  have hrow0 := madeRow w (Value.cells (.agg #[.int .i64 0, .int .i64 0, .slice none 0 0])) (n * 3) 54
  have hr0 := h.kept (Kept.alloc w (madeCells (Value.cells (.agg #[.int .i64 0, .int .i64 0, .slice none 0 0])) (n * 3)) 54 (0, 0) none) (fun i e => by cases e)
  have hk0 : Kept w (w.alloc (.cells (madeCells (Value.cells (.agg #[.int .i64 0, .int .i64 0, .slice none 0 0])) (n * 3)) 54)) (some b) := Kept.alloc _ _ _ _ _
  have hbl := h.lt
  have hbs : some w.heap.size ≠ some b := fun e => by injection e; omega
  generalize hW0 : w.alloc (.cells (madeCells (Value.cells (.agg #[.int .i64 0, .int .i64 0, .slice none 0 0])) (n * 3)) 54) = W0 at *
  have HR0 := Hid.mk' hr0
  have HRow0 := Hid.mk' hrow0
  clear h hr0 hrow0 hW0
  go_enter Tryd.func62, Tryd.ntmps62
  go_wp2
  clear hmk
  go_loopw [11] (fun i wr => ∃ k : Nat, k ≤ n ∧ i = .int .i64 k ∧ (∃ f, ∃ r : Nat → Nat, wr.rowIs w.heap.size 54 (n * 3) f ∧ (∀ i, i < k → ∀ j, j < 3 → f (i * 3 + j) = plV ((listM plM k s).1.getD i q0) (some ⟨r i, 0, none⟩) ((listM plM k s).1.getD i q0).splits.length j) ∧ ∀ i, i < k → w.heap.size + 1 ≤ r i ∧ Lie wr (some ⟨r i, 0, none⟩) ((listM plM k s).1.getD i q0).splits.length 1 (fun q _ => .int .i64 (((listM plM k s).1.getD i q0).splits.getD q 0))) ∧ Rdr wr H b (listM plM k s).2 ∧ Kept w wr (some b)) (fun i _ => n - (intOf i).toNat)
  case atStart => exact ⟨0, Nat.zero_le _, rfl, ⟨_, fun _ => 0, HRow0.out, fun i hi => by omega, fun i hi => by omega⟩, HR0.out, hk0⟩
  case round =>
    obtain ⟨k, hk, rfl, ⟨f, r, hrow, hf, hL⟩, hr, hkw⟩ := hrel
    by_cases hlt : k < n
    · have hgw := hrow.lt
      have hcall := plan_rd hr (by omega)
      have hsn := listM_snoc plM k s
      have hlen := listM_len plM k s
      have HF := Hid.mk' hf
      have HL := Hid.mk' hL
      have HROW := Hid.mk' hrow
      have HSN := Hid.mk' hsn
      have HLEN := Hid.mk' hlen
      have HCALL := Hid.mk' hcall
      clear hf hL hrow hsn hlen hcall hr
      generalize hx : (plM (listM plM k s).2).1 = x at *
      clear hx
      go_wp2_with (refine HCALL.out.mono ?_; rintro e w2 ⟨g2, hg2, rfl, hl2, hr2, hk2⟩; have hrow2 := row_kept HROW.out hk2 hbs; have k0 := hrow2.cell (i := k * 3) (by have := idx_lt (j := 0) hlt (show 0 < 3 by omega); omega); have z0 := hrow2.frozen (k * 3); have k1 := hrow2.cell (i := k * 3 + 1) (by have := idx_lt (j := 1) hlt (show 1 < 3 by omega); omega); have z1 := hrow2.frozen (k * 3 + 1); have k2 := hrow2.cell (i := k * 3 + 2) (by have := idx_lt (j := 2) hlt (show 2 < 3 by omega); omega); have z2 := hrow2.frozen (k * 3 + 2); have HL2 := Hid.mk' hl2; clear hl2)
      go_roundw
      case rel =>
        refine ⟨k + 1, by omega, by go_num, ⟨_, fun i => if i = k then g2 else r i, World.rowIs.set (World.rowIs.set (World.rowIs.set hrow2 (k * 3) (.int .i64 x.cycle)) (k * 3 + 1) (.int .i64 x.offset)) (k * 3 + 2) (.slice (some ⟨g2, 0, none⟩) x.splits.length x.splits.length), fun i hi j hj => ?_, fun i hi => ?_⟩, by rw [HSN.out]; exact ((hr2.setNew hH (k * 3) _).setNew hH (k * 3 + 1) _).setNew hH (k * 3 + 2) _, kept_new (kept_new (kept_new (hkw.tr hk2) (Nat.le_refl _) (k * 3) _) (Nat.le_refl _) (k * 3 + 1) _) (Nat.le_refl _) (k * 3 + 2) _⟩
        · rw [HSN.out]
          by_cases hik : i = k
          · subst hik
            have : j = 0 ∨ j = 1 ∨ j = 2 := by omega
            dsimp only
            rw [getD_snoc_eq HLEN.out.symm]
            rcases this with rfl | rfl | rfl <;> simp [plV]
          · have hne := fun q => idx_ne (q := q) (show i < k by omega) hj
            dsimp only
            rw [getD_snoc_lt (by rw [HLEN.out]; omega), if_neg hik]
            have h0 := HF.out i (by omega) j hj
            rw [← h0]
            rw [if_neg (by have := hne 2; omega), if_neg (by have := hne 1; omega), if_neg (by have := hne 0; omega)]
        · rw [HSN.out]
          have hset : ∀ (W : World) (y m q : Nat) (v : Value) (F : Nat → Nat → Value), w.heap.size + 1 ≤ y → Lie W (some ⟨y, 0, none⟩) m 1 F → Lie (W.setCell ⟨w.heap.size, q, none⟩ v) (some ⟨y, 0, none⟩) m 1 F := fun W y m q v F hy hl => hl.keptR (kept_set _ _ _ _) (fun _ x e f => by cases e; have f := Option.some.inj f; dsimp only at f; omega)
          by_cases hik : i = k
          · subst hik
            dsimp only
            rw [getD_snoc_eq HLEN.out.symm, if_pos rfl]
            exact ⟨by omega, hset _ _ _ _ _ _ (by omega) (hset _ _ _ _ _ _ (by omega) (hset _ _ _ _ _ _ (by omega) HL2.out))⟩
          · dsimp only
            rw [getD_snoc_lt (by rw [HLEN.out]; omega), if_neg hik]
            obtain ⟨hr1, hl1⟩ := HL.out i (by omega)
            have hl1 := hl1.keptR hk2 (fun _ x e f => by cases e; have f := Option.some.inj f; dsimp only at f; omega)
            exact ⟨hr1, hset _ _ _ _ _ _ hr1 (hset _ _ _ _ _ _ hr1 (hset _ _ _ _ _ _ hr1 hl1))⟩
      case measure => simp [intOf]; omega
    · have hkk : k = n := by omega
      subst hkk
      have HL := Hid.mk' (PlN.mk ⟨r, lie_row hrow hf, fun i hi => ⟨by have := (hL i hi).1; omega, (hL i hi).2⟩⟩ (Nat.le_refl w.heap.size))
      clear hf hrow hL
      go_wp2
      go_ret
      exact ⟨rfl, HL.out, hr, hkw⟩

end Go.Proofs.YtcjkghajeohfjaaDoor

/-
  THE CONTRACTS of readPlans, of the function in site that reads a row, of listOf over rows.
-/
namespace Go.Proofs.YtcjkghajeohfjaaDoor
open Go.RowKit Go.Lib Go.Deep
set_option linter.unusedVariables false
set_option linter.unusedSimpArgs false

set_option maxRecDepth 100000 in
set_option maxHeartbeats 1000000 in
theorem readPlans_any {w : World} {H b : Nat} {s : Rd} (h : Rdr w H b s) (hH : H ≤ w.heap.size) : Calls Tryd.prog 32 #[.pointer (some ⟨b, 0, none⟩)] w fun e w' => e = .returned (.tuple #[]) ∧ ∃ a, w'.cell? ⟨b, 2, none⟩ = some (.slice (some ⟨a, 0, none⟩) (plansM s).1.length (plansM s).1.length) ∧ PlN w' w.heap.size a (plansM s).1.length (plansM s).1 ∧ Rdr w' H b (plansM s).2 ∧ Kept w w' (some b) := by
  have hbl := h.lt
  have HE : Hid (plansM s = listM plM (upM 8 s).1 (upM 8 s).2) := rfl
  have hlen := listM_len plM (upM 8 s).1 (upM 8 s).2
  have hle := upM_le 8 s
  rw [HE.out, hlen]
  clear HE hlen
  generalize hu2 : upM 8 s = u2 at *
  have HU2 := Hid.mk' hu2
  clear hu2
  obtain ⟨v2, s2⟩ := u2
  dsimp only at *
  have H0 := Hid.mk' h
  clear h
  go_enter Tryd.func32, Tryd.ntmps32
  go_wp2_with (first
    | (have hgo := R2; clear hgo; go_at_call 62; refine (list_plan R2.out (by have h2 := hk2.size; omega) v2 (by omega)).mono ?_; rintro e w3 ⟨rfl, hl3, hr3, hk3⟩; obtain ⟨vc, k2⟩ := hr3.c2; have z2 := hr3.f2; have R3 := Hid.mk' hr3; have L3 := Hid.mk' hl3; clear hr3 hl3)
    | (go_at_call 48; have hn := many_any H0.out 8 (by omega); rw [HU2.out] at hn; refine hn.mono ?_; rintro e w2 ⟨rfl, hr2, hk2⟩; have R2 := Hid.mk' hr2; clear hr2))
  have hsz := hk2.size
  go_end0
  exact ⟨rfl, w2.heap.size, World.cell?_setCell_same' _ _ _ (by rw [k2]; rfl), by
    obtain ⟨⟨r, h1, h2⟩, h3⟩ := L3.out
    exact PlN.keptR ⟨⟨r, h1, fun i hi => ⟨by have := (h2 i hi).1; omega, (h2 i hi).2⟩⟩, by omega⟩ (kept_set _ _ _ _) (by omega), R3.out.put _, (hk2.tr hk3).tr (kept_set _ _ _ _)⟩
set_option maxRecDepth 100000 in
set_option maxHeartbeats 1000000 in
theorem row_rd {w : World} {H b gb rb n : Nat} {s : Rd} (h : Rdr w H b s) (hH : H ≤ w.heap.size) (hn : n ≤ 24) (hg : w.cell? ⟨gb, 0, none⟩ = some (.int .i64 (n : Int))) (hr : w.cell? ⟨rb, 0, none⟩ = some (.pointer (some ⟨b, 0, none⟩))) (hgb : gb ≠ b) (hrb : rb ≠ b) : Calls Tryd.prog 53 #[.pointer (some ⟨gb, 0, none⟩), .pointer (some ⟨rb, 0, none⟩)] w fun e w' => e = .returned (.slice (some ⟨w.heap.size, 0, none⟩) n n) ∧ Lie w' (some ⟨w.heap.size, 0, none⟩) n 1 (fun i j => .int .i64 ((listM numM n s).1.getD i 0)) ∧ Rdr w' H b (listM numM n s).2 ∧ Kept w w' (some b) := by
  have H0 := Hid.mk' h
  clear h
  go_enter Tryd.func53, Tryd.ntmps53
  go_wp2
  refine wp_region_held_drew (S := fun w' => w'.cell? ⟨gb, 0, none⟩ = some (.int .i64 (n : Int)) ∧ w'.cell? ⟨rb, 0, none⟩ = some (.pointer (some ⟨b, 0, none⟩))) (by kernel_rfl) ⟨hg, hr⟩ (fun hHeld => ?_)
  refine held_take (i := 0) (v := ?vh1x0) rfl rfl (by kernel_rfl) (by kernel_rfl) (by kernel_rfl) (fun _ _ _ h => h) (Or.inl ⟨by rfl, ?hyh1x0⟩) hHeld ?resth1x0
  case hyh1x0 => first | (intro w hSw; go_simp; done) | (intro w hSw; go_simp; with_reducible rfl)
  try simp only [List.setIfInBounds_toArray, List.set_cons_zero, List.set_cons_succ]
  refine held_take (i := 1) (v := ?vh1x1) rfl rfl (by kernel_rfl) (by kernel_rfl) (by kernel_rfl) (fun _ _ _ h => h) (Or.inl ⟨by rfl, ?hyh1x1⟩) hHeld ?resth1x1
  case hyh1x1 => first | (intro w hSw; go_simp; done) | (intro w hSw; go_simp; with_reducible rfl)
  try simp only [List.setIfInBounds_toArray, List.set_cons_zero, List.set_cons_succ]
  refine held_take (i := 2) (v := ?vh1x2) rfl rfl (by kernel_rfl) (by kernel_rfl) (by kernel_rfl) (fun _ _ _ h => h) (Or.inl ⟨by rfl, ?hyh1x2⟩) hHeld ?resth1x2
  case hyh1x2 => first | (intro w hSw; go_simp; done) | (intro w hSw; go_simp; with_reducible rfl)
  try simp only [List.setIfInBounds_toArray, List.set_cons_zero, List.set_cons_succ]
  refine held_take (i := 3) (v := ?vh1x3) rfl rfl (by kernel_rfl) (by kernel_rfl) (by kernel_rfl) (fun _ _ _ h => h) (Or.inl ⟨by rfl, ?hyh1x3⟩) hHeld ?resth1x3
  case hyh1x3 => first | (intro w hSw; go_simp; done) | (intro w hSw; go_simp; with_reducible rfl)
  try simp only [List.setIfInBounds_toArray, List.set_cons_zero, List.set_cons_succ]
  refine held_take (i := 4) (v := ?vh1x4) rfl rfl (by kernel_rfl) (by kernel_rfl) (by kernel_rfl) (fun _ _ _ h => h) (Or.inl ⟨by rfl, ?hyh1x4⟩) hHeld ?resth1x4
  case hyh1x4 => first | (intro w hSw; go_simp; done) | (intro w hSw; go_simp; with_reducible rfl)
  try simp only [List.setIfInBounds_toArray, List.set_cons_zero, List.set_cons_succ]
  refine wpAnyH_ready (rs := [5]) (by kernel_rfl) (by simp) ?_
  refine AllReadyH.cons rfl (fun K hK => ?_) AllReadyH.nil
  go_simp
  go_wp2_with (go_at_call 54; refine (list_int H0.out.drew hH n hn).mono ?_; rintro e w3 ⟨rfl, hl3, hr3, hk3⟩)
  refine hK.out _ _ ⟨cell_keptR hHeld.1 hk3 (fun e => hgb (Option.some.inj e)), cell_keptR hHeld.2 hk3 (fun e => hrb (Option.some.inj e))⟩ (fun hHeld2 => ?_)
  clear hK K
  refine wpAnyH_ready (rs := [6]) (by kernel_rfl) (by simp) ?_
  refine AllReadyH.cons rfl (fun K hK => ?_) AllReadyH.nil
  go_simp
  refine hK.out _ _ hHeld2 (fun hHeld3 => ?_)
  clear hK K
  refine wpAnyH_done (by kernel_rfl) ?_ _
  go_wp2_with fail
  go_ret
  exact ⟨rfl, hl3, hr3, (Kept.drew _ _).tr hk3⟩
/-- Rows in new blocks. -/
structure GrN (w : World) (lo a n : Nat) (l : List (List Int)) : Prop where
  ex : ∃ r : Nat → Nat, Lie w (some ⟨a, 0, none⟩) n 1 (fun i j => .slice (some ⟨r i, 0, none⟩) (l.getD i []).length (l.getD i []).length) ∧ ∀ i, i < n → lo ≤ r i ∧ Lie w (some ⟨r i, 0, none⟩) (l.getD i []).length 1 (fun q _ => .int .i64 ((l.getD i []).getD q 0))
  lo : lo ≤ a
theorem GrN.keptR {w w' : World} {lo a n x : Nat} {l : List (List Int)} (h : GrN w lo a n l) (q : Kept w w' (some x)) (hx : x < lo) : GrN w' lo a n l := by
  obtain ⟨⟨r, h1, h2⟩, h3⟩ := h
  exact ⟨⟨r, h1.keptR q (fun _ y e f => by cases e; have f := Option.some.inj f; dsimp only at f; omega), fun i hi => ⟨(h2 i hi).1, (h2 i hi).2.keptR q (fun _ y e f => by cases e; have f := Option.some.inj f; dsimp only at f; have := (h2 i hi).1; omega)⟩⟩, h3⟩
set_option maxRecDepth 100000 in
set_option maxHeartbeats 1000000 in
theorem list_row {w : World} {H b gb rb : Nat} {s : Rd} (h : Rdr w H b s) (hH : H ≤ w.heap.size) (n : Nat) (hn : n ≤ 24) (hg : w.cell? ⟨gb, 0, none⟩ = some (.int .i64 (n : Int))) (hr : w.cell? ⟨rb, 0, none⟩ = some (.pointer (some ⟨b, 0, none⟩))) (hgb : gb ≠ b) (hrb : rb ≠ b) : Calls Tryd.prog 52 #[.int .i64 n, .func (.func 53) #[] #[.pointer (some ⟨gb, 0, none⟩), .pointer (some ⟨rb, 0, none⟩)]] w fun e w' => e = .returned (.slice (some ⟨w.heap.size, 0, none⟩) n n) ∧ GrN w' w.heap.size w.heap.size n (listM (listM numM n) n s).1 ∧ Rdr w' H b (listM (listM numM n) n s).2 ∧ Kept w w' (some b) := by
  obtain ⟨i0, hi0, hz0, hz1, hz2⟩ := info_parts (show (Tryd.prog.info? 52).map (fun i => (i.zero, i.size, i.bytes)) = some (some (.slice none 0 0), 1, 24) from by kernel_rfl)
  have hmk := run_make (P := Tryd.prog) w 24 52 i0 _ (by kernel_rfl) hi0 hz0 .i64 .i64 n n (by omega) (Int.le_refl _) (by rw [hz2]; omega) (by omega)
  rw [hz1, Int.toNat_natCast] at hmk
  have hrow0 := madeRow w (Value.cells (.slice none 0 0)) (n * 1) 52
  have hr0 := h.kept (Kept.alloc w (madeCells (Value.cells (.slice none 0 0)) (n * 1)) 52 (0, 0) none) (fun i e => by cases e)
  have hk0 : Kept w (w.alloc (.cells (madeCells (Value.cells (.slice none 0 0)) (n * 1)) 52)) (some b) := Kept.alloc _ _ _ _ _
  have hbl := h.lt
  have hbs : some w.heap.size ≠ some b := fun e => by injection e; omega
  have hgl := block_lt hg
  have hrl := block_lt hr
  generalize hW0 : w.alloc (.cells (madeCells (Value.cells (.slice none 0 0)) (n * 1)) 52) = W0 at *
  have HR0 := Hid.mk' hr0
  have HRow0 := Hid.mk' hrow0
  have HG := Hid.mk' hg
  have HRB := Hid.mk' hr
  clear h hr0 hrow0 hW0 hg hr
  go_enter Tryd.func52, Tryd.ntmps52
  go_wp2
  clear hmk
  go_loopw [11] (fun i wr => ∃ k : Nat, k ≤ n ∧ i = .int .i64 k ∧ (∃ f, ∃ r : Nat → Nat, wr.rowIs w.heap.size 52 (n * 1) f ∧ (∀ i, i < k → ∀ j, j < 1 → f (i * 1 + j) = .slice (some ⟨r i, 0, none⟩) ((listM (listM numM n) k s).1.getD i []).length ((listM (listM numM n) k s).1.getD i []).length) ∧ ∀ i, i < k → w.heap.size + 1 ≤ r i ∧ Lie wr (some ⟨r i, 0, none⟩) ((listM (listM numM n) k s).1.getD i []).length 1 (fun q _ => .int .i64 (((listM (listM numM n) k s).1.getD i []).getD q 0))) ∧ Rdr wr H b (listM (listM numM n) k s).2 ∧ Kept w wr (some b)) (fun i _ => n - (intOf i).toNat)
  case atStart => exact ⟨0, Nat.zero_le _, rfl, ⟨_, fun _ => 0, HRow0.out, fun i hi => by omega, fun i hi => by omega⟩, HR0.out, hk0⟩
  case round =>
    obtain ⟨k, hk, rfl, ⟨f, r, hrow, hf, hL⟩, hr, hkw⟩ := hrel
    by_cases hlt : k < n
    · have hgw := hrow.lt
      have hcall := row_rd hr (by omega) hn (cell_keptR HG.out hkw (fun e => hgb (Option.some.inj e))) (cell_keptR HRB.out hkw (fun e => hrb (Option.some.inj e))) hgb hrb
      have hsn := listM_snoc (listM numM n) k s
      have hlen := listM_len (listM numM n) k s
      have hxl := listM_len numM n (listM (listM numM n) k s).2
      have HF := Hid.mk' hf
      have HL := Hid.mk' hL
      have HROW := Hid.mk' hrow
      have HSN := Hid.mk' hsn
      have HLEN := Hid.mk' hlen
      have HCALL := Hid.mk' hcall
      clear hf hL hrow hsn hlen hcall hr
      generalize hx : (listM numM n (listM (listM numM n) k s).2).1 = x at *
      have HXL := Hid.mk' hxl
      clear hx hxl
      go_wp2_with (refine HCALL.out.mono ?_; rintro e w2 ⟨rfl, hl2, hr2, hk2⟩; have hrow2 := row_kept HROW.out hk2 hbs; have k0 := hrow2.cell (i := k) (by omega); have z0 := hrow2.frozen k; have HL2 := Hid.mk' hl2; clear hl2)
      go_roundw
      case rel =>
        refine ⟨k + 1, by omega, by go_num, ⟨_, fun i => if i = k then wr.heap.size else r i, World.rowIs.set hrow2 k (.slice (some ⟨wr.heap.size, 0, none⟩) n n), fun i hi j hj => ?_, fun i hi => ?_⟩, by rw [HSN.out]; exact hr2.setNew hH k _, kept_new (hkw.tr hk2) (Nat.le_refl _) k _⟩
        · rw [HSN.out]
          by_cases hik : i = k
          · subst hik
            have : j = 0 := by omega
            subst this
            dsimp only
            rw [getD_snoc_eq HLEN.out.symm]
            simp [HXL.out]
          · dsimp only
            rw [getD_snoc_lt (by rw [HLEN.out]; omega), if_neg hik]
            have h0 := HF.out i (by omega) j hj
            rw [← h0]
            rw [if_neg (by omega)]
        · rw [HSN.out]
          have hset : ∀ (W : World) (y m q : Nat) (v : Value) (F : Nat → Nat → Value), w.heap.size + 1 ≤ y → Lie W (some ⟨y, 0, none⟩) m 1 F → Lie (W.setCell ⟨w.heap.size, q, none⟩ v) (some ⟨y, 0, none⟩) m 1 F := fun W y m q v F hy hl => hl.keptR (kept_set _ _ _ _) (fun _ x e f => by cases e; have f := Option.some.inj f; dsimp only at f; omega)
          by_cases hik : i = k
          · subst hik
            dsimp only
            rw [getD_snoc_eq HLEN.out.symm, if_pos rfl, HXL.out]
            exact ⟨by omega, hset _ _ _ _ _ _ (by omega) HL2.out⟩
          · dsimp only
            rw [getD_snoc_lt (by rw [HLEN.out]; omega), if_neg hik]
            obtain ⟨hr1, hl1⟩ := HL.out i (by omega)
            have hl1 := hl1.keptR hk2 (fun _ x e f => by cases e; have f := Option.some.inj f; dsimp only at f; omega)
            exact ⟨hr1, hset _ _ _ _ _ _ hr1 hl1⟩
      case measure => simp [intOf]; omega
    · have hkk : k = n := by omega
      subst hkk
      have HL := Hid.mk' (GrN.mk ⟨r, lie_row hrow hf, fun i hi => ⟨by have := (hL i hi).1; omega, (hL i hi).2⟩⟩ (Nat.le_refl w.heap.size))
      clear hf hrow hL
      go_wp2
      go_ret
      exact ⟨rfl, HL.out, hr, hkw⟩

end Go.Proofs.YtcjkghajeohfjaaDoor

