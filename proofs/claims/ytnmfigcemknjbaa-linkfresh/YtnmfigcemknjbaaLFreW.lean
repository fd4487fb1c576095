/-
  THE WALK of LinkFresh.
-/
import Derived.Test.YtnmfigcemknjbaaLnkE
namespace Go.Proofs.Ytnmfigcemknjbaa
open Go.RowKit Go.Lib Go.Deep
set_option linter.unusedVariables false
set_option linter.unusedSimpArgs false

theorem ms_oneL (w : World) (m : Msg) (a : Option Addr) (c : Nat) (hC : Come w a m.2.2.length c m.2.2) : Ms (w.alloc (.cells (msC m a c) 47)) (some ⟨w.heap.size, 0, none⟩) 1 [m] := by
  refine ⟨rfl, by omega, fun _ => ⟨w.heap.size, 0, rfl, by simp, fun i m' hm => ?_⟩⟩
  have hi : i = 0 := by
    cases i with
    | zero => rfl
    | succ i => simp at hm
  subst hi
  have : m = m' := by simpa using hm
  subst this
  exact ⟨a, c, World.cell?_alloc_mark .., World.cell?_alloc_mark .., World.cell?_alloc_mark .., hC.keptL (Kept.alloc _ _ _ _ _)⟩
theorem one_new {s : Lk} {m : Msg} (h : nxE s [m] = 0) (hT : nxT s [m] ≠ []) : nxL s [m] = ⟨true, m.2.1, 0⟩ ∧ nxT s [m] = [m] := by
  unfold nxT at hT
  rw [if_pos h] at hT
  unfold nxL nxT
  rw [if_pos h, if_pos h]
  have e : ruK (ageK s) [m] = stK (ageK s, []) m := rfl
  rw [e] at hT ⊢
  by_cases q : oldK (ageK s) m
  · rw [stK_old (p := (ageK s, [])) q] at hT
    exact absurd rfl hT
  · rw [stK_new (p := (ageK s, [])) q]
    exact ⟨rfl, rfl⟩
theorem one_old (m : Msg) (k : Nat) (hk : k ≤ 200) (hm : m.2.2.length ≤ 512) : nxE ⟨true, m.2.1, (k : Int)⟩ [m] = 0 ∧ nxL ⟨true, m.2.1, (k : Int)⟩ [m] = ⟨true, m.2.1, ((k + 1 : Nat) : Int)⟩ ∧ nxT ⟨true, m.2.1, (k : Int)⟩ [m] = [] := by
  have h : nxE ⟨true, m.2.1, (k : Int)⟩ [m] = 0 := nx_ok ⟨⟨by show (0 : Int) ≤ k; omega, by show (k : Int) ≤ 1048576; omega⟩, .inl rfl⟩ (by simp) (long_no (fun x hx => by rw [List.mem_singleton.1 hx]; exact hm))
  unfold nxL nxT
  rw [if_pos h, if_pos h]
  have e : ruK (ageK ⟨true, m.2.1, (k : Int)⟩) [m] = stK (ageK ⟨true, m.2.1, (k : Int)⟩, []) m := rfl
  rw [e, stK_old (p := (ageK ⟨true, m.2.1, (k : Int)⟩, [])) ⟨rfl, Nat.le_refl _⟩]
  refine ⟨h, ?_, rfl⟩
  have h2 : min ((k : Int) + 1) 1048576 = ((k + 1 : Nat) : Int) := by omega
  show (⟨true, m.2.1, min ((k : Int) + 1) 1048576⟩ : Lk) = ⟨true, m.2.1, ((k + 1 : Nat) : Int)⟩
  rw [h2]
/-- How the ticks' loop stands. -/
structure Fre (w wr : World) (bx : Nat) (m : Msg) (a : Option Addr) (c k : Nat) : Prop where
  lb : Lb wr bx ⟨true, m.2.1, (k : Int)⟩
  mb : Mb wr (w.heap.size + 1) m a c
  kept : Kept w wr none
  le : w.heap.size + 1 < bx
theorem Fre.keptN {w wr w' : World} {bx : Nat} {m : Msg} {a : Option Addr} {c k : Nat} (h : Fre w wr bx m a c k) (q : Kept wr w' none) : Fre w w' bx m a c k := ⟨row_kept h.lb q (by simp), row_kept h.mb q (by simp), h.kept.tr q, h.le⟩
theorem Fre.set3 {w wr : World} {bx : Nat} {m : Msg} {a : Option Addr} {c k : Nat} (h : Fre w wr bx m a c k) (j : Nat) : Fre w (((wr.setCell ⟨bx, 0, none⟩ (.bool true)).setCell ⟨bx, 1, none⟩ (.int .u32 (m.2.1 : Int))).setCell ⟨bx, 2, none⟩ (.int .i64 (j : Int))) bx m a c j := by
  have hle := h.le
  exact ⟨Lb.set3 h.lb ⟨true, m.2.1, (j : Int)⟩, ((h.mb.setOther (by show w.heap.size + 1 ≠ bx; omega) _).setOther (by show w.heap.size + 1 ≠ bx; omega) _).setOther (by show w.heap.size + 1 ≠ bx; omega) _, kept_rowL h.kept (Lb.set3K wr bx ⟨true, m.2.1, (j : Int)⟩) (fun g e => by cases e; omega), h.le⟩
theorem fr_at (k : Nat) (hk : k ≤ 200) (q : Nat) (t : Int) (h1 : 1 ≤ t) (h2 : t ≤ 1048576) : frE ⟨true, q, (k : Int)⟩ t = 0 ∧ frB ⟨true, q, (k : Int)⟩ t = decide ((k : Int) < t) := by
  have hm : mayK ⟨true, q, (k : Int)⟩ := ⟨⟨by show (0 : Int) ≤ k; omega, by show (k : Int) ≤ 1048576; omega⟩, .inl rfl⟩
  have h : frE ⟨true, q, (k : Int)⟩ t = 0 := by unfold frE; rw [if_neg (fun x => x hm), if_pos ⟨h1, h2⟩]
  refine ⟨h, ?_⟩
  unfold frB
  rw [h]
  simp
theorem fr_no (k : Nat) (hk : k ≤ 200) (q : Nat) (t : Int) (h1 : ¬ (1 ≤ t ∧ t ≤ 1048576)) : frE ⟨true, q, (k : Int)⟩ t = 2 ∧ frB ⟨true, q, (k : Int)⟩ t = false := by
  have hm : mayK ⟨true, q, (k : Int)⟩ := ⟨⟨by show (0 : Int) ≤ k; omega, by show (k : Int) ≤ 1048576; omega⟩, .inl rfl⟩
  have h : frE ⟨true, q, (k : Int)⟩ t = 2 := by unfold frE; rw [if_neg (fun x => x hm), if_neg h1]
  refine ⟨h, ?_⟩
  unfold frB
  rw [h]
  simp
theorem mb_alloc1 (w : World) (s : Lk) (m : Msg) (a : Option Addr) (c : Nat) : Mb ((w.alloc (.cells #[.bool s.any, .int .u32 (s.last : Int), .int .i64 s.age] 24)).alloc (.cells (msC m a c) 47)) (w.heap.size + 1) m a c := by
  have := mb_alloc (w.alloc (.cells #[.bool s.any, .int .u32 (s.last : Int), .int .i64 s.age] 24)) m a c
  rw [World.size_alloc] at this
  exact this
set_option maxRecDepth 100000 in
set_option maxHeartbeats 8000000 in
theorem lfre_any (s : Lk) (hs : s.last < 4294967296) (m : Msg) {a : Option Addr} {c : Nat} {w : World} (hC : Come w a m.2.2.length c m.2.2) (hok : Mok m) (t watch : Int) : Calls Try.prog 8 #[lkV s, .agg (msC m a c), .int .i64 t, .int .i64 watch] w fun e w' => e = .returned (.bool true) ∧ Kept w w' none := by
  have HC := Hid.mk' hC
  have HO := Hid.mk' hok
  have hml := hC.by_.max
  clear hC hok
  by_cases h1 : t < 0
  · go_enter Try.func8, Try.ntmps8
    go_wp2_with (go_at_call 16; refine (alive_any _).mono ?_; rintro e w1 ⟨rfl, hk1⟩)
    go_ret
    exact ⟨rfl, ((Kept.alloc _ _ _ _ _).tr (Kept.alloc _ _ _ _ _)).tr hk1⟩
  by_cases h2 : 200 < t
  · go_enter Try.func8, Try.ntmps8
    go_wp2_with (go_at_call 16; refine (alive_any _).mono ?_; rintro e w1 ⟨rfl, hk1⟩)
    go_ret
    exact ⟨rfl, ((Kept.alloc _ _ _ _ _).tr (Kept.alloc _ _ _ _ _)).tr hk1⟩
  obtain ⟨tn, rfl⟩ : ∃ tn : Nat, t = tn := ⟨t.toNat, by omega⟩
  have htn : tn ≤ 200 := by omega
  clear h1
  by_cases h3 : 512 < m.2.2.length
  · go_enter Try.func8, Try.ntmps8
    go_wp2_with (go_at_call 16; refine (alive_any _).mono ?_; rintro e w1 ⟨rfl, hk1⟩; have hM1 := row_kept (mb_alloc1 w s m a c) hk1 (by simp); have x2 := Mb.c2 hM1)
    go_ret
    exact ⟨rfl, ((Kept.alloc _ _ _ _ _).tr (Kept.alloc _ _ _ _ _)).tr hk1⟩
  obtain ⟨q, hq⟩ : ∃ q, nxL s [m] = q := ⟨_, rfl⟩
  obtain ⟨T, hT⟩ : ∃ T, nxT s [m] = T := ⟨_, rfl⟩
  obtain ⟨E, hE⟩ : ∃ E, nxE s [m] = E := ⟨_, rfl⟩
  obtain ⟨QA, QL, QG⟩ := q
  have HQ := Hid.mk' hq
  have HTT := Hid.mk' hT
  have HEE := Hid.mk' hE
  clear hq hT hE
  go_enter Try.func8, Try.ntmps8
  go_wp2_with (first
    | (have hgo := M1; clear hgo; go_at_call 9; have HNX := Hid.mk' (lnext_any (c := 1) s (ms_oneL w1 m a c (HC.out.keptL K1.out))); unfold NxP at HNX; rw [HQ.out, HTT.out, HEE.out] at HNX; refine HNX.out.mono ?_; rintro e w2 ⟨v2, rfl, hM2⟩; dsimp only; obtain ⟨a2, c2, rfl, _⟩ := hM2.slice; have K2 := Hid.mk' (K1.out.tr ((Kept.alloc w1 (msC m a c) 47 (0, 0) none).tr hM2.kw)); have M2 := Hid.mk' (row_kept M1.out ((Kept.alloc w1 (msC m a c) 47 (0, 0) none).tr hM2.kw) (by simp)); have z2 := World.rowIs.lt M2.out; clear HNX hM2)
    | (go_at_call 16; refine (alive_any _).mono ?_; rintro e w1 ⟨rfl, hk1⟩; have hM1 := row_kept (mb_alloc1 w s m a c) hk1 (by simp); have hR := row_kept ((lb_alloc w s).alloc (.cells (msC m a c) 47)) hk1 (by simp); obtain ⟨c0, c1, c2, f0, f1, f2, lt⟩ := Lb.lc hR; have x0 := Mb.c0 hM1; have x1 := Mb.c1 hM1; have x2 := Mb.c2 hM1; have M1 := Hid.mk' hM1; have K1 := Hid.mk' (((Kept.alloc _ _ _ _ _).tr (Kept.alloc _ _ _ _ _)).tr hk1); clear hM1 hR hk1))
  all_goals first
    | (go_ret; exact ⟨rfl, K2.out.tr (Kept.alloc _ _ _ _ _)⟩)
    | skip
  rename_i hE0 hTn KK aa
  subst hE0
  have hTne : T ≠ [] := fun q => by rw [q] at hTn; simp at hTn
  have hnew := one_new HEE.out (by rw [HTT.out]; exact hTne)
  rw [HQ.out, HTT.out] at hnew
  obtain ⟨hq, rfl⟩ := hnew
  injection hq with e1 e2 e3
  subst e1 e2 e3
  have HF : Hid (Fre w (w2.alloc (.cells #[.bool true, .int .u32 (m.2.1 : Int), .int .i64 0] 24)) w2.heap.size m a c 0) := Hid.mk' ⟨lb_alloc w2 ⟨true, m.2.1, 0⟩, M2.out.alloc _, K2.out.tr (Kept.alloc _ _ _ _ _), z2⟩
  clear c0 c1 f0 f1 f2 lt x0 x1 x2 hTn M1 K1 K2 M2
  generalize (w2.alloc (.cells #[.bool true, .int .u32 (m.2.1 : Int), .int .i64 0] 24)) = W at HF ⊢
  generalize w2.heap.size = bx at HF ⊢
  go_loopw [13] (fun i wr => ∃ k : Nat, k ≤ tn + 1 ∧ i = .int .i64 k ∧ Hid (Fre w wr bx m a c k)) (fun i _ => tn + 1 - (intOf i).toNat)
  case atStart => exact ⟨0, Nat.zero_le _, rfl, HF⟩
  case round =>
    obtain ⟨k, hk, rfl, HX⟩ := hrel
    by_cases hlt : k ≤ tn
    case neg =>
      go_wp2
      go_ret
      exact ⟨rfl, HX.out.kept⟩
    have HON := Hid.mk' (one_old m k (by omega) (by omega))
    obtain ⟨c0, c1, c2, f0, f1, f2, lt⟩ := Lb.lc HX.out.lb
    dsimp only at c0 c1 c2
    by_cases hw : 1 ≤ watch ∧ watch ≤ 1048576
    · by_cases hkw : (k : Int) < watch
      ·
        have HFB := Hid.mk' (fr_at k (by omega) m.2.1 watch hw.1 hw.2)
        rw [decide_eq_true hkw] at HFB
        go_wp2_with (first
          | (have hgo := HX4; clear hgo; go_at_call 9; have HNX := Hid.mk' (lnext_any (c := 1) ⟨true, m.2.1, (k : Int)⟩ (ms_oneL w3 m a c (HC.out.keptL HX4.out.kept))); unfold NxP at HNX; rw [HON.out.1, HON.out.2.1, HON.out.2.2] at HNX; refine HNX.out.mono ?_; rintro e w4 ⟨v4, rfl, hM4⟩; dsimp only; obtain ⟨a4, c4, rfl, _⟩ := hM4.slice; have HX5 := Hid.mk' (HX4.out.keptN ((Kept.alloc w3 (msC m a c) 47 (0, 0) none).tr hM4.kw)); obtain ⟨d0, d1, d2, g0, g1, g2, dlt⟩ := Lb.lc HX5.out.lb; clear HNX hM4)
          | (go_at_call 11; refine (lfresh_any ⟨true, m.2.1, (k : Int)⟩ watch _).mono ?_; rw [HFB.out.1, HFB.out.2]; rintro e w3 ⟨rfl, hk3⟩; have HX4 := Hid.mk' (HX.out.keptN hk3); obtain ⟨d0, d1, d2, g0, g1, g2, dlt⟩ := Lb.lc HX4.out.lb; have y0 := Mb.c0 HX4.out.mb; have y1 := Mb.c1 HX4.out.mb; have y2 := Mb.c2 HX4.out.mb; clear hk3))
        have hX6 := (HX5.out.set3 (k + 1)).keptN (Kept.alloc _ #[.bool true, .int .u32 (m.2.1 : Int), .int .i64 ((k + 1 : Nat) : Int)] 24 (0, 0) none)
        rw [show ((k + 1 : Nat) : Int) = (k : Int) + 1 by omega] at hX6
        have HX6 := Hid.mk' hX6
        clear hX6
        go_roundw
        case rel => exact ⟨k + 1, by omega, by go_num, HX6⟩
        case measure => simp [intOf]; omega
      ·
        have HFB := Hid.mk' (fr_at k (by omega) m.2.1 watch hw.1 hw.2)
        rw [decide_eq_false hkw] at HFB
        go_wp2_with (first
          | (have hgo := HX4; clear hgo; go_at_call 9; have HNX := Hid.mk' (lnext_any (c := 1) ⟨true, m.2.1, (k : Int)⟩ (ms_oneL w3 m a c (HC.out.keptL HX4.out.kept))); unfold NxP at HNX; rw [HON.out.1, HON.out.2.1, HON.out.2.2] at HNX; refine HNX.out.mono ?_; rintro e w4 ⟨v4, rfl, hM4⟩; dsimp only; obtain ⟨a4, c4, rfl, _⟩ := hM4.slice; have HX5 := Hid.mk' (HX4.out.keptN ((Kept.alloc w3 (msC m a c) 47 (0, 0) none).tr hM4.kw)); obtain ⟨d0, d1, d2, g0, g1, g2, dlt⟩ := Lb.lc HX5.out.lb; clear HNX hM4)
          | (go_at_call 11; refine (lfresh_any ⟨true, m.2.1, (k : Int)⟩ watch _).mono ?_; rw [HFB.out.1, HFB.out.2]; rintro e w3 ⟨rfl, hk3⟩; have HX4 := Hid.mk' (HX.out.keptN hk3); obtain ⟨d0, d1, d2, g0, g1, g2, dlt⟩ := Lb.lc HX4.out.lb; have y0 := Mb.c0 HX4.out.mb; have y1 := Mb.c1 HX4.out.mb; have y2 := Mb.c2 HX4.out.mb; clear hk3))
        have hX6 := (HX5.out.set3 (k + 1)).keptN (Kept.alloc _ #[.bool true, .int .u32 (m.2.1 : Int), .int .i64 ((k + 1 : Nat) : Int)] 24 (0, 0) none)
        rw [show ((k + 1 : Nat) : Int) = (k : Int) + 1 by omega] at hX6
        have HX6 := Hid.mk' hX6
        clear hX6
        go_roundw
        case rel => exact ⟨k + 1, by omega, by go_num, HX6⟩
        case measure => simp [intOf]; omega
    · have HFB := Hid.mk' (fr_no k (by omega) m.2.1 watch hw)
      by_cases hw1 : watch < 1
      · go_wp2_with (go_at_call 11; refine (lfresh_any ⟨true, m.2.1, (k : Int)⟩ watch _).mono ?_; rw [HFB.out.1, HFB.out.2]; rintro e w3 ⟨rfl, hk3⟩)
        go_ret
        exact ⟨rfl, HX.out.kept.tr hk3⟩
      · have hw2 : 1048576 < watch := by omega
        go_wp2_with (go_at_call 11; refine (lfresh_any ⟨true, m.2.1, (k : Int)⟩ watch _).mono ?_; rw [HFB.out.1, HFB.out.2]; rintro e w3 ⟨rfl, hk3⟩)
        go_ret
        exact ⟨rfl, HX.out.kept.tr hk3⟩

end Go.Proofs.Ytnmfigcemknjbaa
