/-
  THE WALK of LinkTakes (made by a program).
-/
import Derived.Test.YtnmfigcemknjbaaLTakA
namespace Go.Proofs.Ytnmfigcemknjbaa
open Go.RowKit Go.Lib Go.Deep
set_option linter.unusedVariables false
set_option linter.unusedSimpArgs false

theorem Lb.nx {w w' : World} {b : Nat} {s : Lk} (h : Lb w b s) (k : Kept w w' none) : Lb w' b s := row_kept h k (by simp)
set_option maxRecDepth 100000 in
set_option maxHeartbeats 16000000 in
theorem ltakes_any (s : Lk) (hs : s.last < 4294967296) {w : World} {la : Option Addr} {n c : Nat} {l : List Msg} (hM : Ms w la n l) (hok : ∀ m ∈ l, Mok m) (hbd : ∀ m ∈ l, m.2.2.length ≤ 140737488351232) (watch : Int) (q : Nat) (hq : q < 4294967296) : Calls Try.prog 4 #[lkV s, .slice la n c, .int .i64 watch, .int .u32 (q : Int)] w fun e w' => e = .returned (.bool true) ∧ Kept w w' none := by
  obtain rfl := hM.size
  have HM := Hid.mk' hM
  have HO := Hid.mk' hok
  have HBD := Hid.mk' hbd
  have HQ := Hid.mk' hq
  have hmx := hM.max
  clear hM hok hbd hq
  by_cases hh : hevB l = true
  · go_enter Try.func4, Try.ntmps4
    go_wp2_with (go_at_call 17; refine (heavy_any (HM.out.kept (Kept.alloc _ _ _ _ _))).mono ?_; rintro e w1 ⟨rfl, hk1⟩; rw [hh])
    go_ret
    exact ⟨rfl, (Kept.alloc _ _ _ _ _).tr hk1⟩
  have hh' : hevB l = false := by simpa using hh
  have hl11 := hev_len hh'
  have HH := Hid.mk' hh'
  clear hh hh'
  obtain ⟨qz, hqz⟩ : ∃ qz, nxL s l = qz := ⟨_, rfl⟩
  obtain ⟨T, hT⟩ : ∃ T, nxT s l = T := ⟨_, rfl⟩
  obtain ⟨E, hE⟩ : ∃ E, nxE s l = E := ⟨_, rfl⟩
  obtain ⟨QA, QL, QG⟩ := qz
  have HNX := Hid.mk' (show nxL s l = ⟨QA, QL, QG⟩ ∧ nxT s l = T ∧ nxE s l = E from ⟨hqz, hT, hE⟩)
  have HTO : Hid (∀ m ∈ T, Mok m) := Hid.mk' (fun m hm => HO.out m (nxT_mem m (by rw [hT]; exact hm)))
  have HTB : Hid (∀ m ∈ T, m.2.2.length ≤ 140737488351232) := Hid.mk' (fun m hm => HBD.out m (nxT_mem m (by rw [hT]; exact hm)))
  clear hqz hT hE
  go_enter Try.func4, Try.ntmps4
  go_wp2_with (first
    | (have hgo := P7; clear hgo; go_at_call 22; refine (rsameM_yes (T1.out.ms HTO.out) (T2.out.ms HTO.out)).mono ?_; rintro e w9 ⟨rfl, hk9⟩; dsimp only; have P8 := Hid.mk' trivial; have IN := Hid.mk' (IN.out.keptN hk9); have T1 := Hid.mk' (T1.out.keptN hk9); have K8 := Hid.mk' (K8.out.tr hk9); clear P7 a0 a1 a2 b0 b1 b2)
    | (have hgo := P6; clear hgo; go_at_call 21; refine (rsend20_any q HQ.out _).mono ?_; rintro e w8 ⟨rfl, hk8⟩; dsimp only; have P7 := Hid.mk' trivial; have IN := Hid.mk' (IN.out.keptN hk8); have T1 := Hid.mk' (T1.out.keptN hk8); have T2 := Hid.mk' (T2.out.keptN hk8); have K8 := Hid.mk' (K7.out.tr hk8); obtain ⟨a0, a1, a2, _, _, _, _⟩ := Lb.lc (A1.out.nx hk8); obtain ⟨b0, b1, b2, _, _, _, _⟩ := Lb.lc (A2.out.nx hk8); clear A1 A2 P6 K7)
    | (have hgo := P5; clear hgo; go_at_call 12; refine (lsend_any q HQ.out _).mono ?_; rintro e w7 ⟨rfl, hk7⟩; dsimp only; have P6 := Hid.mk' trivial; have IN := Hid.mk' (IN.out.keptN hk7); have T1 := Hid.mk' (T1.out.keptN hk7); have T2 := Hid.mk' (T2.out.keptN hk7); have A1 := Hid.mk' (A1.out.nx hk7); have A2 := Hid.mk' (A2.out.nx hk7); have K7 := Hid.mk' (K6.out.tr hk7); clear P5 K6)
    | (have hgo := P4; clear hgo; go_at_call 20; refine (rfresh20_any s watch _).mono ?_; rintro e w6 ⟨rfl, hk6⟩; dsimp only; have P5 := Hid.mk' trivial; have IN := Hid.mk' (IN.out.keptN hk6); have T1 := Hid.mk' (T1.out.keptN hk6); have T2 := Hid.mk' (T2.out.keptN hk6); have A1 := Hid.mk' (A1.out.nx hk6); have A2 := Hid.mk' (A2.out.nx hk6); have K6 := Hid.mk' (K5.out.tr hk6); clear P4 K5 c0 c1 c2 LB)
    | (have hgo := P3; clear hgo; go_at_call 11; refine (lfresh_any s watch _).mono ?_; rintro e w5 ⟨rfl, hk5⟩; dsimp only; have P4 := Hid.mk' trivial; have hka := (Kept.alloc w4 #[.bool QA, .int .u32 (QL : Int), .int .i64 QG] 24 (0, 0) none).tr hk5; have IN := Hid.mk' (IN.out.keptN hka); have T1 := Hid.mk' (T1.out.keptN hka); have T2 := Hid.mk' (T2.out.keptN hka); have A1 := Hid.mk' (A1.out.nx hka); have A2 := Hid.mk' (Lb.nx (lb_alloc w4 ⟨QA, QL, QG⟩) hk5); have LB := Hid.mk' (LB.out.nx hka); have K5 := Hid.mk' (K4.out.tr hka); clear P3 K4 c0 c1 c2; obtain ⟨c0, c1, c2, _, _, _, _⟩ := Lb.lc LB.out)
    | (have hgo := P2; clear hgo; go_at_call 19; have hka := Kept.alloc w3 #[.bool QA, .int .u32 (QL : Int), .int .i64 QG] 24 (0, 0) none; have HN4 := Hid.mk' (rnext20_any (c := c) s (HM.out.kept (K3.out.tr hka))); unfold NxP at HN4; rw [HNX.out.1, HNX.out.2.1, HNX.out.2.2] at HN4; refine HN4.out.mono ?_; rintro e w4 ⟨v4, rfl, hM4⟩; dsimp only; obtain ⟨a4, c4, rfl, _⟩ := hM4.slice; have P3 := Hid.mk' trivial; have hkb := hka.tr hM4.kw; have IN := Hid.mk' (IN.out.keptN hkb); have T1 := Hid.mk' (T1.out.keptN hkb); have T2 := Hid.mk' hM4; have A1 := Hid.mk' (Lb.nx (lb_alloc w3 ⟨QA, QL, QG⟩) hM4.kw); have LB := Hid.mk' (LB.out.nx hkb); have K4 := Hid.mk' (K3.out.tr hkb); clear P2 K3 HN4 hM4 c0 c1 c2; obtain ⟨c0, c1, c2, _, _, _, _⟩ := Lb.lc LB.out)
    | (have hgo := P1; clear hgo; go_at_call 9; have HN3 := Hid.mk' (lnext_any (c := ci) s (IN.out.ms HO.out)); unfold NxP at HN3; rw [HNX.out.1, HNX.out.2.1, HNX.out.2.2] at HN3; refine HN3.out.mono ?_; rintro e w3 ⟨v3, rfl, hM3⟩; dsimp only; obtain ⟨a3, c3, rfl, _⟩ := hM3.slice; have P2 := Hid.mk' trivial; have IN := Hid.mk' (IN.out.keptN hM3.kw); have T1 := Hid.mk' hM3; have LB := Hid.mk' (LB.out.nx hM3.kw); have K3 := Hid.mk' (K2.out.tr hM3.kw); have HW2 := Hid.mk' hM3.kw; clear P1 HN3 hM3 c0 c1 c2; obtain ⟨c0, c1, c2, _, _, _, _⟩ := Lb.lc LB.out)
    | (have hgo := P0; clear hgo; go_at_call 18; refine (twinM_any (HM.out.kept K1.out) hl11 HBD.out).mono ?_; rintro e w2 ⟨vi, rfl, hI⟩; dsimp only; obtain ⟨ai, ci, rfl, _⟩ := hI.slice; have P1 := Hid.mk' trivial; have IN0 := Hid.mk' (hI.ms HO.out); have IN := Hid.mk' hI; have LB := Hid.mk' (LB.out.nx hI.kw); have K2 := Hid.mk' (K1.out.tr hI.kw); clear P0 hI c0 c1 c2; obtain ⟨c0, c1, c2, _, _, _, _⟩ := Lb.lc LB.out)
    | (go_at_call 17; refine (heavy_any (HM.out.kept (Kept.alloc _ _ _ _ _))).mono ?_; rintro e w1 ⟨rfl, hk1⟩; rw [HH.out]; have P0 := Hid.mk' trivial; have K1 := Hid.mk' ((Kept.alloc _ _ _ _ _).tr hk1); have LB := Hid.mk' (Lb.nx (lb_alloc w s) hk1); obtain ⟨c0, c1, c2, _, _, _, _⟩ := Lb.lc LB.out; clear hk1))
  have HOV := Hid.mk' (wov_of T1.out HTO.out)
  have HTL : Hid (T.length ≤ 1100) := Hid.mk' (by have h1 := nxT_len s l; rw [HNX.out.2.1] at h1; omega)
  have htl := HTL.out
  clear T1 T2 IN K8 P8
  go_loopw [24] (fun i wr => ∃ k : Nat, k ≤ T.length ∧ i = .int .i64 k ∧ Hid (Wov w2 wr T (.slice a3 T.length c3))) (fun i _ => T.length - (intOf i).toNat)
  case atStart => exact ⟨0, Nat.zero_le _, rfl, HOV⟩
  case round =>
    obtain ⟨k, hk, rfl, HX⟩ := hrel
    by_cases hlt : k < T.length
    case neg =>
      go_wp2_with (go_at_call 22; refine (rsameM_yes (IN0.out.kept HX.out.kept) (HM.out.kept (K2.out.tr HX.out.kept))).mono ?_; rintro e wz ⟨rfl, hkz⟩)
      go_ret
      exact ⟨rfl, (K2.out.tr HX.out.kept).tr hkz⟩
    obtain ⟨m, hm⟩ : ∃ m, T[k]? = some m := ⟨_, List.getElem?_eq_getElem hlt⟩
    have hml := HTB.out m (List.mem_of_getElem? hm)
    have HMM := Hid.mk' hm
    clear hm
    obtain ⟨g0, am0, cm0, e0, _⟩ := HX.out.at_ HMM.out
    subst e0
    go_wp2
    go_loopw [25] (fun i wr => ∃ z : Nat, z ≤ m.2.2.length ∧ i = .int .i64 z ∧ Hid (Wov w2 wr T (.slice (some ⟨g0, 0, none⟩) T.length c3))) (fun i _ => m.2.2.length - (intOf i).toNat)
    case atStart => exact ⟨0, Nat.zero_le _, rfl, HX⟩
    case round =>
      obtain ⟨z, hz, rfl, HY⟩ := hrel
      obtain ⟨g, a, cc, e1, hg, ⟨cur, hcur⟩, p2, hov⟩ := HY.out.at_ HMM.out
      injection e1 with e1
      injection e1 with e1
      subst e1
      rw [Nat.zero_add] at p2
      by_cases hlz : z < m.2.2.length
      case pos =>
        obtain ⟨gb, cap, f, rfl, hlb, hcap, hrow, hf⟩ := hov.at_ (by omega)
        obtain ⟨x, hx, hfx⟩ := hf z hlz
        have hne : g0 ≠ gb := fun q => by
          subst q
          obtain ⟨cr, hcr, _⟩ := hrow
          rw [hcur] at hcr
          injection hcr with hcr
          injection hcr with _ hcr
          exact absurd hcr (by decide)
        have y0 : ∀ w', Kept wr w' (some gb) → w'.cell? ⟨g0, k * 3 + 2, none⟩ = some (.slice (some ⟨gb, 0, none⟩) m.2.2.length cc) := fun w' hk => cell_keptR p2 hk (by simp [hne])
        have y1 : wr.drew.cell? ⟨gb, z, none⟩ = some (.int .u8 (x : Int)) := by have := hrow.cell (i := z) (by omega); rw [hfx] at this; exact this
        have y2 : wr.drew.frozen? ⟨gb, z, none⟩ = false := hrow.frozen z
        have HOV2 : Hid (Wov w2 (wr.drew.setCell ⟨gb, z, none⟩ (.int .u8 (IntKind.u8.wrap ((x : Int) + 1)))) T (.slice (some ⟨g0, 0, none⟩) T.length c3)) := Hid.mk' ((HY.out.keptN (kept_drl wr none)).set (b := gb) (cap := cap) (f := f) hrow hlb z (wrap8L _))
        clear hov hf hfx hcur hrow hx
        go_wp2
        refine Code.wp_mono (Q := RsL ?A1 (fun w' => Hid (Wov w2 w' T (.slice (some ⟨g0, 0, none⟩) T.length c3)))) ?cont1 ?reg1
        case reg1 =>
            repeat (rename_i hh; clear hh)
            refine wp_region_held_drew (S := fun w' => Kept wr w' (some gb)) (by kernel_rfl) (kept_drl _ _) (fun hHeld => ?_)
            refine held_take (i := 0) (v := ?rv1) rfl rfl (by kernel_rfl) (by kernel_rfl) (by kernel_rfl) (fun _ _ _ h => h) (Or.inl ⟨by rfl, ?rhy1⟩) hHeld ?rrest1
            case rhy1 => first | (intro w hSw; (try dsimp only at hSw); go_simp; done) | (intro w hSw; (try dsimp only at hSw); go_simp; with_reducible rfl)
            try simp only [List.setIfInBounds_toArray, List.set_cons_zero, List.set_cons_succ]
            refine held_take (i := 1) (v := ?rv2) rfl rfl (by kernel_rfl) (by kernel_rfl) (by kernel_rfl) (fun _ _ _ h => h) (Or.inl ⟨by rfl, ?rhy2⟩) hHeld ?rrest2
            case rhy2 => first | (intro w hSw; (try dsimp only at hSw); go_simp; done) | (intro w hSw; (try dsimp only at hSw); go_simp; with_reducible rfl)
            try simp only [List.setIfInBounds_toArray, List.set_cons_zero, List.set_cons_succ]
            refine held_take (i := 2) (v := ?rv3) rfl rfl (by kernel_rfl) (by kernel_rfl) (by kernel_rfl) (fun _ _ _ h => h) (Or.inl ⟨by rfl, ?rhy3⟩) hHeld ?rrest3
            case rhy3 => first | (intro w hSw; (try dsimp only at hSw); go_simp; done) | (intro w hSw; (try dsimp only at hSw); go_simp; with_reducible rfl)
            try simp only [List.setIfInBounds_toArray, List.set_cons_zero, List.set_cons_succ]
            refine held_take (i := 3) (v := ?rv4) rfl rfl (by kernel_rfl) (by kernel_rfl) (by kernel_rfl) (fun _ _ _ h => h) (Or.inl ⟨by rfl, ?rhy4⟩) hHeld ?rrest4
            case rhy4 => first | (intro w hSw; (try dsimp only at hSw); go_simp; done) | (intro w hSw; (try dsimp only at hSw); go_simp; with_reducible rfl)
            try simp only [List.setIfInBounds_toArray, List.set_cons_zero, List.set_cons_succ]
            refine held_take (i := 4) (v := ?rv5) rfl rfl (by kernel_rfl) (by kernel_rfl) (by kernel_rfl) (fun _ _ _ h => h) (Or.inl ⟨by rfl, ?rhy5⟩) hHeld ?rrest5
            case rhy5 => first | (intro w hSw; (try dsimp only at hSw); go_simp; done) | (intro w hSw; (try dsimp only at hSw); go_simp; with_reducible rfl)
            try simp only [List.setIfInBounds_toArray, List.set_cons_zero, List.set_cons_succ]
            refine held_take (i := 5) (v := ?rv6) rfl rfl (by kernel_rfl) (by kernel_rfl) (by kernel_rfl) (fun _ _ _ h => h) (Or.inl ⟨by rfl, ?rhy6⟩) hHeld ?rrest6
            case rhy6 => first | (intro w hSw; (try dsimp only at hSw); go_simp; done) | (intro w hSw; (try dsimp only at hSw); go_simp; with_reducible rfl)
            try simp only [List.setIfInBounds_toArray, List.set_cons_zero, List.set_cons_succ]
            refine held_take (i := 6) (v := ?rv7) rfl rfl (by kernel_rfl) (by kernel_rfl) (by kernel_rfl) (fun _ _ _ h => h) (Or.inl ⟨by rfl, ?rhy7⟩) hHeld ?rrest7
            case rhy7 => first | (intro w hSw; (try dsimp only at hSw); go_simp; done) | (intro w hSw; (try dsimp only at hSw); go_simp; with_reducible rfl)
            try simp only [List.setIfInBounds_toArray, List.set_cons_zero, List.set_cons_succ]
            refine held_take (i := 7) (v := ?rv8) rfl rfl (by kernel_rfl) (by kernel_rfl) (by kernel_rfl) (fun _ _ _ h => h) (Or.inl ⟨by rfl, ?rhy8⟩) hHeld ?rrest8
            case rhy8 => first | (intro w hSw; (try dsimp only at hSw); go_simp; done) | (intro w hSw; (try dsimp only at hSw); go_simp; with_reducible rfl)
            try simp only [List.setIfInBounds_toArray, List.set_cons_zero, List.set_cons_succ]
            refine held_take (i := 8) (v := ?rv9) rfl rfl (by kernel_rfl) (by kernel_rfl) (by kernel_rfl) (fun _ _ _ h => h) (Or.inl ⟨by rfl, ?rhy9⟩) hHeld ?rrest9
            case rhy9 => first | (intro w hSw; (try dsimp only at hSw); go_simp; done) | (intro w hSw; (try dsimp only at hSw); go_simp; with_reducible rfl)
            try simp only [List.setIfInBounds_toArray, List.set_cons_zero, List.set_cons_succ]
            refine held_take (i := 9) (v := ?rv10) rfl rfl (by kernel_rfl) (by kernel_rfl) (by kernel_rfl) (fun _ _ _ h => h) (Or.inl ⟨by rfl, ?rhy10⟩) hHeld ?rrest10
            case rhy10 => first | (intro w hSw; (try dsimp only at hSw); go_simp; done) | (intro w hSw; (try dsimp only at hSw); go_simp; with_reducible rfl)
            try simp only [List.setIfInBounds_toArray, List.set_cons_zero, List.set_cons_succ]
            refine held_take (i := 10) (v := ?rv11) rfl rfl (by kernel_rfl) (by kernel_rfl) (by kernel_rfl) (fun _ _ _ h => h) (Or.inl ⟨by rfl, ?rhy11⟩) hHeld ?rrest11
            case rhy11 => first | (intro w hSw; (try dsimp only at hSw); go_simp; done) | (intro w hSw; (try dsimp only at hSw); go_simp; with_reducible rfl)
            try simp only [List.setIfInBounds_toArray, List.set_cons_zero, List.set_cons_succ]
            refine held_take (i := 11) (v := ?rv12) rfl rfl (by kernel_rfl) (by kernel_rfl) (by kernel_rfl) (fun _ _ _ h => h) (Or.inl ⟨by rfl, ?rhy12⟩) hHeld ?rrest12
            case rhy12 => first | (intro w hSw; (try dsimp only at hSw); go_simp; done) | (intro w hSw; (try dsimp only at hSw); go_simp; with_reducible rfl)
            try simp only [List.setIfInBounds_toArray, List.set_cons_zero, List.set_cons_succ]
            refine held_take (i := 12) (v := ?rv13) rfl rfl (by kernel_rfl) (by kernel_rfl) (by kernel_rfl) (fun _ _ _ h => h) (Or.inl ⟨by rfl, ?rhy13⟩) hHeld ?rrest13
            case rhy13 => first | (intro w hSw; (try dsimp only at hSw); go_simp; done) | (intro w hSw; (try dsimp only at hSw); go_simp; with_reducible rfl)
            try simp only [List.setIfInBounds_toArray, List.set_cons_zero, List.set_cons_succ]
            refine wpAnyH_ready (rs := [13]) (by kernel_rfl) (by simp) ?_
            refine AllReadyH.cons rfl (fun K hK => ?_) AllReadyH.nil
            go_simp
            refine hK.out _ _ hHeld (fun hHeld => ?_)
            clear hK K
            refine held_take (i := 14) (v := ?rv14) rfl rfl (by kernel_rfl) (by kernel_rfl) (by kernel_rfl) (fun _ _ _ h => h) (Or.inl ⟨by rfl, ?rhy14⟩) hHeld ?rrest14
            case rhy14 => first | (intro w hSw; (try dsimp only at hSw); go_simp; done) | (intro w hSw; (try dsimp only at hSw); go_simp; with_reducible rfl)
            try simp only [List.setIfInBounds_toArray, List.set_cons_zero, List.set_cons_succ]
            refine held_take (i := 15) (v := ?rv15) rfl rfl (by kernel_rfl) (by kernel_rfl) (by kernel_rfl) (fun _ _ _ h => h) (Or.inl ⟨by rfl, ?rhy15⟩) hHeld ?rrest15
            case rhy15 => first | (intro w hSw; (try dsimp only at hSw); go_simp; done) | (intro w hSw; (try dsimp only at hSw); go_simp; with_reducible rfl)
            try simp only [List.setIfInBounds_toArray, List.set_cons_zero, List.set_cons_succ]
            refine wpAnyH_ready (rs := [16]) (by kernel_rfl) (by simp) ?_
            refine AllReadyH.cons rfl (fun K hK => ?_) AllReadyH.nil
            go_simp
            have hnew : Kept wr _ (some gb) := hHeld.tr (kept_setZ wr.drew gb z (.int .u8 (IntKind.u8.wrap ((x : Int) + 1))))
            refine hK.out _ _ hnew (fun hHeld => ?_)
            clear hK K hnew
            refine wpAnyH_done (by kernel_rfl) ?_ _
            refine RsL.mk ?_ HOV2
            with_reducible rfl
        case cont1 =>
        intro e act w5 hq5
        obtain ⟨rfl, rfl, HX5⟩ := hq5.out
        go_wp2
        go_roundw
        case rel => exact ⟨z + 1, by omega, by go_num, HX5⟩
        case measure => simp [intOf]; omega
      case neg =>
        clear hov hcur
        go_wp2
        go_roundw
        case rel => exact ⟨k + 1, by omega, by go_num, HY⟩
        case measure => simp [intOf]; omega

end Go.Proofs.Ytnmfigcemknjbaa
