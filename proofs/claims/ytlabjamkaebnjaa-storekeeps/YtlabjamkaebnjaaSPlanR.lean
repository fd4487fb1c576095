/-
  Of the text PlanR: what this stage needs (culled by a program).
-/
import Derived.Test.YtlabjamkaebnjaaMathsJ
import Derived.Test.YtlabjamkaebnjaaSSiteBJ
import Derived.Deep.RegionWith
import Derived.Deep.DeepCutAuto
namespace Go.Proofs.Ytlabjamkaebnjaa
open Go.RowKit Go.Lib Go.Deep
set_option linter.unusedVariables false
set_option linter.unusedSimpArgs false

/-- The zero cells of a plan. -/
abbrev z3 : Array Value := #[.int .i64 0, .int .i64 0, .slice none 0 0]
abbrev f3 (a b c : Value) (i : Nat) : Value := #[a, b, c][i]?.getD undef
theorem row3 (w : World) (a b c : Value) (t : TypeId) : (w.alloc (.cells #[a, b, c] t)).rowIs w.heap.size t 3 (f3 a b c) := World.rowIs_alloc w #[a, b, c] t _ (fun i hi => by simp at hi; simp [f3, hi])
theorem row3_set {w : World} {g : Nat} {t : TypeId} {f : Nat → Value} (h : w.rowIs g t 3 f) (a b c : Value) : (((w.setCell ⟨g, 0, none⟩ a).setCell ⟨g, 1, none⟩ b).setCell ⟨g, 2, none⟩ c).rowIs g t 3 (f3 a b c) :=
  (((h.set 0 a).set 1 b).set 2 c).congr (fun i hi => by
    have : i = 0 ∨ i = 1 ∨ i = 2 := by omega
    rcases this with rfl | rfl | rfl <;> simp [f3])
/-- How it stands behind the first numbers. -/
structure Mid (w wx : World) (H b g : Nat) (s : Rd) (u v x : Value) : Prop where
  rd : Rdr wx H b s
  res : wx.rowIs w.heap.size 63 3 (f3 (.int .i64 0) (.int .i64 0) (.slice none 0 0))
  box : wx.rowIs g 63 3 (f3 u v x)
  gt : w.heap.size < g
  kept : Kept w wx (some b)
theorem Rdr.drew {w : World} {H b : Nat} {s : Rd} (h : Rdr w H b s) : Rdr w.drew H b s := h.kept (Kept.drew _ none) (fun i e => by cases e)
theorem Rdr.alloc {w : World} {H b : Nat} {s : Rd} (h : Rdr w H b s) (c : Array Value) (t : TypeId) : Rdr (w.alloc (.cells c t)) H b s := h.kept (Kept.alloc _ _ _ (0, 0) none) (fun i e => by cases e)
set_option maxRecDepth 100000 in
set_option maxHeartbeats 1000000 in
theorem plan_rd {w : World} {H b : Nat} {s : Rd} (h : Rdr w H b s) (hH : H ≤ w.heap.size) : Calls Try.prog 92 #[.pointer (some ⟨b, 0, none⟩)] w fun e w' => ∃ g, w.heap.size ≤ g ∧ e = .returned (.agg #[.int .i64 (plM s).1.cycle, .int .i64 (plM s).1.offset, .slice (some ⟨g, 0, none⟩) (plM s).1.splits.length (plM s).1.splits.length]) ∧ Lie w' (some ⟨g, 0, none⟩) (plM s).1.splits.length 1 (fun i _ => .int .i64 ((plM s).1.splits.getD i 0)) ∧ Rdr w' H b (plM s).2 ∧ Kept w w' (some b) := by
  have hbl := h.lt
  have hrw0 := row3 w (.int .i64 0) (.int .i64 0) (.slice none 0 0) 63
  have h0 := h.kept (Kept.alloc w #[.int .i64 0, .int .i64 0, .slice none 0 0] 63 (0, 0) none) (fun i e => by cases e)
  have H0 := Hid.mk' (h0.kept (Kept.drew _ none) (fun i e => by cases e))
  have HRW := Hid.mk' hrw0
  have HB0 := Hid.mk' ((h0.alloc #[.int .i64 0, .int .i64 0, .slice none 0 0] 63).drew)
  have HE : Hid (plM s = (⟨(numM s).1, (numM (numM s).2).1, (listM numM (upM 8 (numM (numM s).2).2).1 (upM 8 (numM (numM s).2).2).2).1⟩, (listM numM (upM 8 (numM (numM s).2).2).1 (upM 8 (numM (numM s).2).2).2).2)) := rfl
  have hlen := listM_len numM (upM 8 (numM (numM s).2).2).1 (upM 8 (numM (numM s).2).2).2
  have hle := upM_le 8 (numM (numM s).2).2
  clear h h0 hrw0
  generalize hu0 : numM s = u0 at *
  have HU0 := Hid.mk' hu0
  clear hu0
  obtain ⟨v0, s0⟩ := u0
  dsimp only at *
  generalize hu1 : numM s0 = u1 at *
  have HU1 := Hid.mk' hu1
  clear hu1
  obtain ⟨v1, s1⟩ := u1
  dsimp only at *
  generalize hu2 : upM 8 s1 = u2 at *
  have HU2 := Hid.mk' hu2
  clear hu2
  obtain ⟨v2, s2⟩ := u2
  dsimp only at *
  generalize hu3 : listM numM v2 s2 = u3 at *
  have HU3 := Hid.mk' hu3
  clear hu3
  obtain ⟨l3, s3⟩ := u3
  dsimp only at *
  rw [HE.out]
  clear HE
  dsimp only
  rw [hlen]
  have HLEN := Hid.mk' hlen
  clear hlen
  have hbs : some w.heap.size ≠ some b := fun e => by injection e; omega
  have HNE : Hid (∀ g, w.heap.size ≤ g → some g ≠ some b) := fun g hg e => by injection e; omega
  have HP0 : Hid (∀ w', Kept ((w.alloc (.cells #[.int .i64 0, .int .i64 0, .slice none 0 0] 63)).alloc (.cells #[.int .i64 0, .int .i64 0, .slice none 0 0] 63)).drew w' (some b) → w'.rowIs (w.heap.size + 1) 63 3 (f3 (.int .i64 0) (.int .i64 0) (.slice none 0 0))) := fun w' hk => by
    have h1 := row3 (w.alloc (.cells #[.int .i64 0, .int .i64 0, .slice none 0 0] 63)) (.int .i64 0) (.int .i64 0) (.slice none 0 0) 63
    rw [World.size_alloc] at h1
    exact row_kept h1.drew hk (HNE.out _ (by omega))
  have HP1 : Hid (∀ v w' : World, w.heap.size ≤ v.heap.size → Kept (v.alloc (.cells #[.int .i64 0, .int .i64 0, .slice none 0 0] 63)) w' (some b) → w'.rowIs v.heap.size 63 3 (f3 (.int .i64 0) (.int .i64 0) (.slice none 0 0))) := fun v w' hv hk =>
    row_kept (row3 v (.int .i64 0) (.int .i64 0) (.slice none 0 0) 63) hk (HNE.out _ hv)
  go_enter Try.func92, Try.ntmps92
  go_wp2
  go_cut [3] (fun p wx => ∃ g, p = .pointer (some ⟨g, 0, none⟩) ∧ Mid w wx H b g s1 (.int .i64 v0) (.int .i64 v1) (.slice none 0 0))
  case first =>
    refine wp_region_held_drew (S := fun _ => True) (by kernel_rfl) trivial (fun _ => ?_)
    refine held_take (i := 0) (v := ?vp1x0) rfl rfl (by kernel_rfl) (by kernel_rfl) (by kernel_rfl) (fun _ _ _ h => h) (Or.inl ⟨by rfl, ?hyp1x0⟩) trivial ?restp1x0
    case hyp1x0 => first | (intro w hSw; go_simp; done) | (intro w hSw; go_simp; with_reducible rfl)
    try simp only [List.setIfInBounds_toArray, List.set_cons_zero, List.set_cons_succ]
    refine held_take (i := 1) (v := ?vp1x1) rfl rfl (by kernel_rfl) (by kernel_rfl) (by kernel_rfl) (fun _ _ _ h => h) (Or.inl ⟨by rfl, ?hyp1x1⟩) trivial ?restp1x1
    case hyp1x1 => first | (intro w hSw; go_simp; done) | (intro w hSw; go_simp; with_reducible rfl)
    try simp only [List.setIfInBounds_toArray, List.set_cons_zero, List.set_cons_succ]
    refine held_take (i := 2) (v := ?vp1x2) rfl rfl (by kernel_rfl) (by kernel_rfl) (by kernel_rfl) (fun _ _ _ h => h) (Or.inl ⟨by rfl, ?hyp1x2⟩) trivial ?restp1x2
    case hyp1x2 => first | (intro w hSw; go_simp; done) | (intro w hSw; go_simp; with_reducible rfl)
    try simp only [List.setIfInBounds_toArray, List.set_cons_zero, List.set_cons_succ]
    refine held_take (i := 4) (v := ?vp1x4) rfl rfl (by kernel_rfl) (by kernel_rfl) (by kernel_rfl) (fun _ _ _ h => h) (Or.inl ⟨by rfl, ?hyp1x4⟩) trivial ?restp1x4
    case hyp1x4 => first | (intro w hSw; go_simp; done) | (intro w hSw; go_simp; with_reducible rfl)
    try simp only [List.setIfInBounds_toArray, List.set_cons_zero, List.set_cons_succ]
    refine held_take (i := 5) (v := ?vp1x5) rfl rfl (by kernel_rfl) (by kernel_rfl) (by kernel_rfl) (fun _ _ _ h => h) (Or.inl ⟨by rfl, ?hyp1x5⟩) trivial ?restp1x5
    case hyp1x5 => first | (intro w hSw; go_simp; done) | (intro w hSw; go_simp; with_reducible rfl)
    try simp only [List.setIfInBounds_toArray, List.set_cons_zero, List.set_cons_succ]
    refine held_take (i := 6) (v := ?vp1x6) rfl rfl (by kernel_rfl) (by kernel_rfl) (by kernel_rfl) (fun _ _ _ h => h) (Or.inl ⟨by rfl, ?hyp1x6⟩) trivial ?restp1x6
    case hyp1x6 => first | (intro w hSw; go_simp; done) | (intro w hSw; go_simp; with_reducible rfl)
    try simp only [List.setIfInBounds_toArray, List.set_cons_zero, List.set_cons_succ]
    refine wpAnyH_ready (rs := [3, 9]) (by kernel_rfl) (by simp) ?_
    refine AllReadyH.cons rfl (fun K hK => ?brA) (AllReadyH.cons rfl (fun K hK => ?brB) AllReadyH.nil)
    case brA =>
      go_simp
      go_wp2_with (go_at_call 94; have hn := number_any H0.out; rw [HU0.out] at hn; refine hn.mono ?_; rintro e w0 ⟨rfl, hr0, hk0⟩)
      refine hK.out _ _ trivial (fun _ => ?_)
      clear hK K
      refine wpAnyH_ready (rs := [7, 9]) (by kernel_rfl) (by simp) ?_
      refine AllReadyH.cons rfl (fun K hK => ?brA1) (AllReadyH.cons rfl (fun K hK => ?brA2) AllReadyH.nil)
      case brA1 =>
        go_simp
        go_wp2_with (go_at_call 94; have hn := number_any hr0; rw [HU1.out] at hn; refine hn.mono ?_; rintro e w1 ⟨rfl, hr1, hk1⟩)
        refine hK.out _ _ trivial (fun _ => ?_)
        clear hK K
        refine held_take (i := 8) (v := ?vp2x8) rfl rfl (by kernel_rfl) (by kernel_rfl) (by kernel_rfl) (fun _ _ _ h => h) (Or.inl ⟨by rfl, ?hyp2x8⟩) trivial ?restp2x8
        case hyp2x8 => first | (intro w hSw; go_simp; done) | (intro w hSw; go_simp; with_reducible rfl)
        try simp only [List.setIfInBounds_toArray, List.set_cons_zero, List.set_cons_succ]
        refine wpAnyH_ready (rs := [9]) (by kernel_rfl) (by simp) ?_
        refine AllReadyH.cons rfl (fun K hK => ?_) AllReadyH.nil
        go_simp
        refine hK.out _ _ trivial (fun _ => ?_)
        clear hK K
        refine wpAnyH_ready (rs := [10]) (by kernel_rfl) (by simp) ?_
        refine AllReadyH.cons rfl (fun K hK => ?_) AllReadyH.nil
        go_simp
        refine hK.out _ _ trivial (fun _ => ?_)
        clear hK K
        refine wpAnyH_done (by kernel_rfl) ?_ _
        go_wp2_with fail
        go_meet
        have e1 : w.heap.size < w1.heap.size := by have h1 := hk0.size; have h2 := hk1.size; simp at h1; omega
        exact ⟨_, rfl, hr1.alloc _ _, World.rowIs.alloc (row_kept (row_kept HRW.out.drew hk0 hbs) hk1 hbs) _, row3 w1 _ _ _ _, e1, ((((Kept.alloc w _ _ _ _ : Kept w _ (some b)).tr (Kept.drew _ _)).tr hk0).tr hk1).tr (Kept.alloc _ _ _ (0, 0) _)⟩
      case brA2 =>
        go_simp
        refine hK.out _ _ trivial (fun _ => ?_)
        clear hK K
        refine wpAnyH_ready (rs := [7]) (by kernel_rfl) (by simp) ?_
        refine AllReadyH.cons rfl (fun K hK => ?_) AllReadyH.nil
        go_simp
        go_wp2_with (go_at_call 94; have hn := number_any (hr0.alloc #[.int .i64 0, .int .i64 0, .slice none 0 0] 63); rw [HU1.out] at hn; refine hn.mono ?_; rintro e w1 ⟨rfl, hr1, hk1⟩)
        refine hK.out _ _ trivial (fun _ => ?_)
        clear hK K
        refine held_take (i := 8) (v := ?vp3x8) rfl rfl (by kernel_rfl) (by kernel_rfl) (by kernel_rfl) (fun _ _ _ h => h) (Or.inl ⟨by rfl, ?hyp3x8⟩) trivial ?restp3x8
        case hyp3x8 => first | (intro w hSw; go_simp; done) | (intro w hSw; go_simp; with_reducible rfl)
        try simp only [List.setIfInBounds_toArray, List.set_cons_zero, List.set_cons_succ]
        have P1 := HP1.out w0 w1 (by have := hk0.size; simp at this; omega) hk1
        have k0 := P1.cell (i := 0) (by omega)
        have k1 := P1.cell (i := 1) (by omega)
        have k2 := P1.cell (i := 2) (by omega)
        have zz0 := P1.frozen 0
        have zz1 := P1.frozen 1
        have zz2 := P1.frozen 2
        refine wpAnyH_ready (rs := [10]) (by kernel_rfl) (by simp) ?_
        refine AllReadyH.cons rfl (fun K hK => ?_) AllReadyH.nil
        go_simp
        refine hK.out _ _ trivial (fun _ => ?_)
        clear hK K
        refine wpAnyH_done (by kernel_rfl) ?_ _
        go_wp2_with fail
        go_meet
        have e1 : w.heap.size < w0.heap.size := by have h1 := hk0.size; simp at h1; omega
        have e2 : w.heap.size ≠ w0.heap.size := by omega
        have P2 := row_kept (World.rowIs.alloc (row_kept HRW.out.drew hk0 hbs) (.cells #[.int .i64 0, .int .i64 0, .slice none 0 0] 63)) hk1 hbs
        have K2 : Kept w w1 (some b) := ((((Kept.alloc w _ _ _ _ : Kept w _ (some b)).tr (Kept.drew _ _)).tr hk0).tr (Kept.alloc _ _ _ (0, 0) _)).tr hk1
        exact ⟨_, rfl, ((hr1.setNew (by omega) 0 _).setNew (by omega) 1 _).setNew (by omega) 2 _, ((P2.setOther e2 _).setOther e2 _).setOther e2 _, row3_set P1 _ _ _, e1, kept_new (kept_new (kept_new K2 (by omega) 0 _) (by omega) 1 _) (by omega) 2 _⟩
    case brB =>
      go_simp
      refine hK.out _ _ trivial (fun _ => ?_)
      clear hK K
      refine wpAnyH_ready (rs := [3]) (by kernel_rfl) (by simp) ?_
      refine AllReadyH.cons rfl (fun K hK => ?_) AllReadyH.nil
      go_simp
      go_wp2_with (go_at_call 94; have hn := number_any HB0.out; rw [HU0.out] at hn; refine hn.mono ?_; rintro e w0 ⟨rfl, hr0, hk0⟩)
      refine hK.out _ _ trivial (fun _ => ?_)
      clear hK K
      refine wpAnyH_ready (rs := [7]) (by kernel_rfl) (by simp) ?_
      refine AllReadyH.cons rfl (fun K hK => ?_) AllReadyH.nil
      go_simp
      go_wp2_with (go_at_call 94; have hn := number_any hr0; rw [HU1.out] at hn; refine hn.mono ?_; rintro e w1 ⟨rfl, hr1, hk1⟩)
      refine hK.out _ _ trivial (fun _ => ?_)
      clear hK K
      refine held_take (i := 8) (v := ?vp4x8) rfl rfl (by kernel_rfl) (by kernel_rfl) (by kernel_rfl) (fun _ _ _ h => h) (Or.inl ⟨by rfl, ?hyp4x8⟩) trivial ?restp4x8
      case hyp4x8 => first | (intro w hSw; go_simp; done) | (intro w hSw; go_simp; with_reducible rfl)
      try simp only [List.setIfInBounds_toArray, List.set_cons_zero, List.set_cons_succ]
      have P1 := row_kept (HP0.out w0 hk0) hk1 (HNE.out _ (by omega))
      have k0 := P1.cell (i := 0) (by omega)
      have k1 := P1.cell (i := 1) (by omega)
      have k2 := P1.cell (i := 2) (by omega)
      have zz0 := P1.frozen 0
      have zz1 := P1.frozen 1
      have zz2 := P1.frozen 2
      refine wpAnyH_ready (rs := [10]) (by kernel_rfl) (by simp) ?_
      refine AllReadyH.cons rfl (fun K hK => ?_) AllReadyH.nil
      go_simp
      refine hK.out _ _ trivial (fun _ => ?_)
      clear hK K
      refine wpAnyH_done (by kernel_rfl) ?_ _
      go_wp2_with fail
      go_meet
      have e2 : w.heap.size ≠ w.heap.size + 1 := by omega
      have P2 := row_kept (row_kept (World.rowIs.drew (World.rowIs.alloc HRW.out (.cells #[.int .i64 0, .int .i64 0, .slice none 0 0] 63))) hk0 hbs) hk1 hbs
      have K2 : Kept w w1 (some b) := ((((Kept.alloc w _ _ _ _ : Kept w _ (some b)).tr (Kept.alloc _ _ _ (0, 0) _)).tr (Kept.drew _ _)).tr hk0).tr hk1
      exact ⟨_, rfl, ((hr1.setNew (by omega) 0 _).setNew (by omega) 1 _).setNew (by omega) 2 _, ((P2.setOther e2 _).setOther e2 _).setOther e2 _, row3_set P1 _ _ _, by omega, kept_new (kept_new (kept_new K2 (by omega) 0 _) (by omega) 1 _) (by omega) 2 _⟩
  case rest =>
    obtain ⟨g, rfl, hm⟩ := hcut
    have HM := Hid.mk' hm
    have hgt := hm.gt
    have HSZ := Hid.mk' hm.kept.size
    have hbg : some g ≠ some b := HNE.out _ (by omega)
    clear hm H0 HRW HB0 HP0 HP1
    go_wp2_with fail
    refine wp_region_held_drew (S := fun _ => True) (by kernel_rfl) trivial (fun _ => ?_)
    refine held_take (i := 0) (v := ?vp5x0) rfl rfl (by kernel_rfl) (by kernel_rfl) (by kernel_rfl) (fun _ _ _ h => h) (Or.inl ⟨by rfl, ?hyp5x0⟩) trivial ?restp5x0
    case hyp5x0 => first | (intro w hSw; go_simp; done) | (intro w hSw; go_simp; with_reducible rfl)
    try simp only [List.setIfInBounds_toArray, List.set_cons_zero, List.set_cons_succ]
    refine held_take (i := 1) (v := ?vp5x1) rfl rfl (by kernel_rfl) (by kernel_rfl) (by kernel_rfl) (fun _ _ _ h => h) (Or.inl ⟨by rfl, ?hyp5x1⟩) trivial ?restp5x1
    case hyp5x1 => first | (intro w hSw; go_simp; done) | (intro w hSw; go_simp; with_reducible rfl)
    try simp only [List.setIfInBounds_toArray, List.set_cons_zero, List.set_cons_succ]
    refine held_take (i := 2) (v := ?vp5x2) rfl rfl (by kernel_rfl) (by kernel_rfl) (by kernel_rfl) (fun _ _ _ h => h) (Or.inl ⟨by rfl, ?hyp5x2⟩) trivial ?restp5x2
    case hyp5x2 => first | (intro w hSw; go_simp; done) | (intro w hSw; go_simp; with_reducible rfl)
    try simp only [List.setIfInBounds_toArray, List.set_cons_zero, List.set_cons_succ]
    refine held_take (i := 4) (v := ?vp5x4) rfl rfl (by kernel_rfl) (by kernel_rfl) (by kernel_rfl) (fun _ _ _ h => h) (Or.inl ⟨by rfl, ?hyp5x4⟩) trivial ?restp5x4
    case hyp5x4 => first | (intro w hSw; go_simp; done) | (intro w hSw; go_simp; with_reducible rfl)
    try simp only [List.setIfInBounds_toArray, List.set_cons_zero, List.set_cons_succ]
    refine held_take (i := 5) (v := ?vp5x5) rfl rfl (by kernel_rfl) (by kernel_rfl) (by kernel_rfl) (fun _ _ _ h => h) (Or.inl ⟨by rfl, ?hyp5x5⟩) trivial ?restp5x5
    case hyp5x5 => first | (intro w hSw; go_simp; done) | (intro w hSw; go_simp; with_reducible rfl)
    try simp only [List.setIfInBounds_toArray, List.set_cons_zero, List.set_cons_succ]
    refine held_take (i := 6) (v := ?vp5x6) rfl rfl (by kernel_rfl) (by kernel_rfl) (by kernel_rfl) (fun _ _ _ h => h) (Or.inl ⟨by rfl, ?hyp5x6⟩) trivial ?restp5x6
    case hyp5x6 => first | (intro w hSw; go_simp; done) | (intro w hSw; go_simp; with_reducible rfl)
    try simp only [List.setIfInBounds_toArray, List.set_cons_zero, List.set_cons_succ]
    refine held_take (i := 7) (v := ?vp5x7) rfl rfl (by kernel_rfl) (by kernel_rfl) (by kernel_rfl) (fun _ _ _ h => h) (Or.inl ⟨by rfl, ?hyp5x7⟩) trivial ?restp5x7
    case hyp5x7 => first | (intro w hSw; go_simp; done) | (intro w hSw; go_simp; with_reducible rfl)
    try simp only [List.setIfInBounds_toArray, List.set_cons_zero, List.set_cons_succ]
    refine wpAnyH_ready (rs := [3]) (by kernel_rfl) (by simp) ?_
    refine AllReadyH.cons rfl (fun K hK => ?_) AllReadyH.nil
    go_simp
    go_wp2_with (go_at_call 91; have hn := many_any HM.out.rd.drew 8 (by omega); rw [HU2.out] at hn; refine hn.mono ?_; rintro e w2 ⟨rfl, hr2, hk2⟩)
    have R2 := Hid.mk' hr2
    have Q2 := Hid.mk' (row_kept HM.out.box.drew hk2 hbg)
    have T2 := Hid.mk' (row_kept HM.out.res.drew hk2 hbs)
    clear hr2
    refine hK.out _ _ trivial (fun _ => ?_)
    clear hK K
    refine wpAnyH_ready (rs := [8]) (by kernel_rfl) (by simp) ?_
    refine AllReadyH.cons rfl (fun K hK => ?_) AllReadyH.nil
    go_simp
    go_wp2_with (go_at_call 95; have hn := list_int R2.out (by have h1 := HSZ.out; have h2 := hk2.size; simp at h2; omega) v2 (by omega); rw [HU3.out] at hn; refine hn.mono ?_; rintro e w3 ⟨rfl, hl3, hr3, hk3⟩)
    have Q3 := row_kept Q2.out hk3 hbg
    have T3 := row_kept T2.out hk3 hbs
    have k2 := Q3.cell (i := 2) (by omega)
    have z2 := Q3.frozen 2
    refine hK.out _ _ trivial (fun _ => ?_)
    clear hK K
    refine held_take (i := 9) (v := ?vp6x9) rfl rfl (by kernel_rfl) (by kernel_rfl) (by kernel_rfl) (fun _ _ _ h => h) (Or.inl ⟨by rfl, ?hyp6x9⟩) trivial ?restp6x9
    case hyp6x9 => first | (intro w hSw; go_simp; done) | (intro w hSw; go_simp; with_reducible rfl)
    try simp only [List.setIfInBounds_toArray, List.set_cons_zero, List.set_cons_succ]
    refine wpAnyH_ready (rs := [10]) (by kernel_rfl) (by simp) ?_
    refine AllReadyH.cons rfl (fun K hK => ?_) AllReadyH.nil
    go_simp
    refine hK.out _ _ trivial (fun _ => ?_)
    clear hK K
    refine wpAnyH_done (by kernel_rfl) ?_ _
    clear k2 z2
    have hsz2 : w.heap.size ≤ w2.heap.size := by have h1 := HSZ.out; have h2 := hk2.size; simp at h2; omega
    have hg2 : g < w2.heap.size := Q2.out.lt
    have Q4 := (World.rowIs.set Q3 2 (.slice (some ⟨w2.heap.size, 0, none⟩) v2 v2)).congr (g := f3 (.int .i64 v0) (.int .i64 v1) (.slice (some ⟨w2.heap.size, 0, none⟩) v2 v2)) (fun i hi => by
      have : i = 0 ∨ i = 1 ∨ i = 2 := by omega
      rcases this with rfl | rfl | rfl <;> simp [f3])
    have T4 := World.rowIs.setOther T3 (show w.heap.size ≠ (⟨g, 2, none⟩ : Addr).block by show _ ≠ g; omega) (.slice (some ⟨w2.heap.size, 0, none⟩) v2 v2)
    have K3 : Kept w w3 (some b) := ((HM.out.kept.tr (Kept.drew _ _)).tr hk2).tr hk3
    have K4 := kept_new K3 (show w.heap.size ≤ g by omega) 2 (.slice (some ⟨w2.heap.size, 0, none⟩) v2 v2)
    have R4 := hr3.setNew (show H ≤ g by omega) 2 (.slice (some ⟨w2.heap.size, 0, none⟩) v2 v2)
    have L4 := hl3.keptR (kept_set w3 g 2 (.slice (some ⟨w2.heap.size, 0, none⟩) v2 v2)) (fun _ x e f => by cases e; have f := Option.some.inj f; dsimp only at f; omega)
    clear Q3 T3 hl3 hr3 hk3 hn
    generalize w3.setCell ⟨g, 2, none⟩ (.slice (some ⟨w2.heap.size, 0, none⟩) v2 v2) = w4 at *
    have k0 := Q4.cell (i := 0) (by omega)
    have k1 := Q4.cell (i := 1) (by omega)
    have k2 := Q4.cell (i := 2) (by omega)
    have t0 := T4.cell (i := 0) (by omega)
    have t1 := T4.cell (i := 1) (by omega)
    have t2 := T4.cell (i := 2) (by omega)
    have y0 := T4.frozen 0
    have y1 := T4.frozen 1
    have y2 := T4.frozen 2
    simp [f3] at k0 k1 k2 t0 t1 t2
    go_wp2_with fail
    have hrw := row3_set T4 (.int .i64 v0) (.int .i64 v1) (.slice (some ⟨w2.heap.size, 0, none⟩) v2 v2)
    have q0 := hrw.cell (i := 0) (by omega)
    have q1 := hrw.cell (i := 1) (by omega)
    have q2 := hrw.cell (i := 2) (by omega)
    simp [f3] at q0 q1 q2
    have hne : w2.heap.size ≠ w.heap.size := by omega
    refine bodyPost_ret (v := .agg #[.int .i64 v0, .int .i64 v1, .slice (some ⟨w2.heap.size, 0, none⟩) v2 v2]) (by simp [results, Try.results92, go_sem, q0, q1, q2]) rfl ⟨_, hsz2, rfl, ?_, ((R4.setNew hH 0 _).setNew hH 1 _).setNew hH 2 _, kept_new (kept_new (kept_new K4 (Nat.le_refl _) 0 _) (Nat.le_refl _) 1 _) (Nat.le_refl _) 2 _⟩
    exact ((L4.keptR (kept_set _ w.heap.size 0 _) (fun _ x e f => by cases e; have f := Option.some.inj f; dsimp only at f; omega)).keptR (kept_set _ w.heap.size 1 _) (fun _ x e f => by cases e; have f := Option.some.inj f; dsimp only at f; omega)).keptR (kept_set _ w.heap.size 2 _) (fun _ x e f => by cases e; have f := Option.some.inj f; dsimp only at f; omega)

end Go.Proofs.Ytlabjamkaebnjaa
