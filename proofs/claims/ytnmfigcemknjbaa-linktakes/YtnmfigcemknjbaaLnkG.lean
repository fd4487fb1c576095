/-
  THE CONTRACTS of the document's Next, SameMessages (made by a program).
-/
import Derived.Test.YtnmfigcemknjbaaLnkF
namespace Go.Proofs.Ytnmfigcemknjbaa
open Go.RowKit Go.Lib Go.Deep
set_option linter.unusedVariables false
set_option linter.unusedSimpArgs false

theorem run_textG {w : World} {a : Option Addr} {len : Nat} {L : List Nat} (h : By w a len L) (cap : Nat) : ∀ q, (convert 34 9 (.slice a len cap)).run Try.prog (w.drewN q) = .ok (.string (textOf L)) (w.drewN q) := fun q => run_text (h.drewN q) cap
set_option maxRecDepth 100000 in
set_option maxHeartbeats 4000000 in
theorem rsameM_yes {w : World} {la lb : Option Addr} {n c d : Nat} {l : List Msg} (h : Ms w la n l) (k : Ms w lb n l) :
    Calls Try.prog 22 #[.slice la n c, .slice lb n d] w fun e w' => e = .returned (.bool true) ∧ Kept w w' none := by
  have HA : Hid (Ms w la n l) := h
  have HB : Hid (Ms w lb n l) := k
  have hmx := h.max
  clear h k
  go_enter Try.func22, Try.ntmps22
  go_wp2
  go_loopw [5] (fun i wr => ∃ k : Nat, k ≤ n ∧ i = .int .i64 k ∧ ∃ q, wr = w.drewN q) (fun i _ => n - (intOf i).toNat)
  case atStart => exact ⟨0, Nat.zero_le _, rfl, 0, rfl⟩
  case round =>
    obtain ⟨k, hk, rfl, q, rfl⟩ := hrel
    by_cases hlt : k < n
    · obtain ⟨b, off, rfl, hb, hc⟩ := HA.out.at_ (by omega)
      obtain ⟨b', off', rfl, hb', hc'⟩ := HB.out.at_ (by omega)
      obtain ⟨m, hm⟩ : ∃ m, l[k]? = some m := ⟨_, List.getElem?_eq_getElem (by rw [HA.out.size]; exact hlt)⟩
      obtain ⟨a1, c1, p1, p2, p3, p4⟩ := hc k m hm
      obtain ⟨a2, c2, r1, r2, r3, r4⟩ := hc' k m hm
      have t1 := run_textG p4.by_ c1
      have t2 := run_textG r4.by_ c2
      have g1 : (0 : Int) ≤ (k : Int) := by omega
      have g2 : (k : Int) < (n : Int) := by omega
      clear hc hc' hm
      obtain ⟨mk, mq, mb⟩ := m
      have d1 : ((mk : Int) != (mk : Int)) = false := by simp
      have d2 : ((mq : Int) != (mq : Int)) = false := by simp
      go_wp2
      go_quiet (fail)
      go_wp2
      go_roundw
      case rel => exact ⟨k + 1, by omega, by go_num, _, rfl⟩
      case measure => simp [intOf]; omega
    · go_wp2
      go_ret
      exact ⟨rfl, Kept.drewN _ _ _⟩
set_option maxRecDepth 100000 in
set_option maxHeartbeats 4000000 in
theorem rnext_bad {w : World} {la : Option Addr} {n c : Nat} {l : List Msg} (s : Lk) (hm : ¬ mayK s) : Calls Try.prog 19 #[lkV s, .slice la n c] w fun e w' => NxP w s l e w' := by
  have HE := Hid.mk' (nxE_no (l := l) hm)
  have HMY := Hid.mk' hm
  clear hm
  go_enter Try.func19, Try.ntmps19
  go_wp2_with (go_at_call 43; refine (rmay_is _ _ false (decide_eq_false HMY.out)).mono ?_; rintro e w1 ⟨rfl, hk1⟩; have hN := (nxi_start w s).keptN hk1; have HP := Hid.mk' (hN.put3 lk0).kept; obtain ⟨c0, c1, c2, f0, f1, f2, lt⟩ := Lb.lc hN.rb; clear hN hk1)
  refine bodyPost_ret (v := .tuple #[lkV lk0, .slice none 0 0, .int .i64 8]) (by simp [results, Try.results19, go_sem, *]; done) rfl ?_
  exact NxP.no (E := 8) HE.out (by decide) HP.out
set_option maxRecDepth 100000 in
set_option maxHeartbeats 4000000 in
theorem rnext_many {w : World} {la : Option Addr} {n c : Nat} {l : List Msg} (s : Lk) (h : Ms w la n l) (hm : mayK s) (hn : 1024 < n) : Calls Try.prog 19 #[lkV s, .slice la n c] w fun e w' => NxP w s l e w' := by
  have HE : Hid (nxE s l = 4) := Hid.mk' ((nxE_ck (l := l) hm).trans (if_pos (by rw [h.size]; exact hn)))
  have HMY := Hid.mk' hm
  have hmx := h.max
  clear hm h
  go_enter Try.func19, Try.ntmps19
  go_wp2_with (go_at_call 43; refine (rmay_is _ _ true (decide_eq_true HMY.out)).mono ?_; rintro e w1 ⟨rfl, hk1⟩; have hN := (nxi_start w s).keptN hk1; have HP := Hid.mk' (hN.put3 lk0).kept; obtain ⟨c0, c1, c2, f0, f1, f2, lt⟩ := Lb.lc hN.rb; clear hN hk1)
  refine bodyPost_ret (v := .tuple #[lkV lk0, .slice none 0 0, .int .i64 4]) (by simp [results, Try.results19, go_sem, *]; done) rfl ?_
  exact NxP.no (E := 4) HE.out (by decide) HP.out
theorem fLk_two (s t : Lk) (h : t.age = s.age) (i : Nat) (hi : i < 3) : (if i = 1 then Value.int .u32 (t.last : Int) else if i = 0 then .bool t.any else fLk s i) = fLk t i := by
  have : i = 0 ∨ i = 1 ∨ i = 2 := by omega
  rcases this with rfl | rfl | rfl
  · rfl
  · rfl
  · show Value.int .i64 s.age = .int .i64 t.age; rw [h]
theorem Nxi.set2 {w W : World} {s : Lk} {l : List Msg} {v : Value} (h : Nxi w W s l v) (q : Nat) : Nxi w ((W.setCell ⟨w.heap.size, 0, none⟩ (.bool true)).setCell ⟨w.heap.size, 1, none⟩ (.int .u32 (q : Int))) ⟨true, q, s.age⟩ l v := by
  have k0 : Kept W (W.setCell ⟨w.heap.size, 0, none⟩ (.bool true)) (some w.heap.size) := kept_setZ _ _ _ _
  have k1 : Kept (W.setCell ⟨w.heap.size, 0, none⟩ (.bool true)) ((W.setCell ⟨w.heap.size, 0, none⟩ (.bool true)).setCell ⟨w.heap.size, 1, none⟩ (.int .u32 (q : Int))) (some w.heap.size) := kept_setZ _ _ _ _
  exact ⟨h.mw.kept' (k0.tr k1) (NoB.row h.lb (by decide)) (NoB.row h.lb (by decide)) (fun g e => by injection e with e; omega), ((h.lb.set 0 _).set 1 _).congr (fun i hi => fLk_two s ⟨true, q, s.age⟩ rfl i hi), row_kept h.rb (k0.tr k1) (by simp)⟩
set_option maxRecDepth 100000 in
set_option maxHeartbeats 16000000 in
theorem rnext_go {w : World} {la : Option Addr} {n c : Nat} {l : List Msg} (s : Lk) (h : Ms w la n l) (hm : mayK s) (hn : n ≤ 1024) : Calls Try.prog 19 #[lkV s, .slice la n c] w fun e w' => NxP w s l e w' := by
  have HM := Hid.mk' h
  have HCK : Hid (∀ E, ckE l = E → nxE s l = E) := Hid.mk' (fun E e => (nxE_ck (l := l) hm).trans e)
  have HMY := Hid.mk' hm
  have ha0 : 0 ≤ s.age := hm.1.1
  have ha1 : s.age ≤ 1048576 := hm.1.2
  have hw1 : IntKind.i64.wrap (s.age + 1) = s.age + 1 := by simp [IntKind.wrap, IntKind.bits, IntKind.signed]; omega
  have HT : Hid (∀ k, k ≤ n → (ruK (ageK s) (l.take k)).2.length ≤ 2000) := Hid.mk' (fun k hk => by have := ru_len (ageK s) (l.take k); rw [List.length_take] at this; omega)
  have HN : Hid (¬ 1024 < l.length) := Hid.mk' (by rw [h.size]; omega)
  clear h hm
  go_enter Try.func19, Try.ntmps19
  go_wp2_with (go_at_call 43; refine (rmay_is _ _ true (decide_eq_true HMY.out)).mono ?_; rintro e w1 ⟨rfl, hk1⟩; have HX0 := Hid.mk' ((nxi_start w s).keptN hk1); clear hk1)
  go_loopw [7] (fun i wr => ∃ k : Nat, k ≤ n ∧ i = .int .i64 k ∧ Hid (∀ m ∈ l.take k, m.2.2.length ≤ 512) ∧ Hid (Nxi w wr s [] (.slice none 0 0))) (fun i _ => n - (intOf i).toNat)
  case atStart => exact ⟨0, Nat.zero_le _, rfl, Hid.mk' (by simp), HX0⟩
  case round =>
    obtain ⟨k, hk, rfl, HL, HX⟩ := hrel
    by_cases hlt : k < n
    case pos =>
      obtain ⟨b, off, m, a, cc, rfl, hb, hm, p1', p2', p3', p4⟩ := HM.out.at_is hlt
      have p1 := (cell_kl HX.out.mw.kept hb).trans p1'
      have p2 := (cell_kl HX.out.mw.kept hb).trans p2'
      have p3 := (cell_kl HX.out.mw.kept hb).trans p3'
      have hp := p4.by_.max
      by_cases hl : 512 < m.2.2.length
      · have HE : Hid (nxE s l = 3) := Hid.mk' (HCK.out 3 (by unfold ckE; rw [if_neg HN.out, if_pos (long_yes hm hl)]))
        have HP := Hid.mk' (HX.out.put3 lk0).kept
        obtain ⟨c0, c1, c2, f0, f1, f2, lt⟩ := Lb.lc HX.out.rb
        clear hm p4 p1' p2' p3'
        go_wp2
        refine bodyPost_ret (v := .tuple #[lkV lk0, .slice none 0 0, .int .i64 3]) (by simp [results, Try.results19, go_sem, *]; done) rfl ?_
        exact NxP.no (E := 3) HE.out (by decide) HP.out
      · have HL2 := Hid.mk' (long_step hm HL.out (by omega))
        clear hm p4 p1' p2' p3'
        go_wp2
        go_roundw
        case rel => exact ⟨k + 1, by omega, by go_num, HL2, HX⟩
        case measure => simp [intOf]; omega
    case neg =>
      have e : k = n := by omega
      subst e
      have hlf : longB l = false := long_no (by have := HL.out; rwa [List.take_of_length_le (by rw [HM.out.size]; exact Nat.le_refl _)] at this)
      have HE : Hid (nxE s l = 0) := Hid.mk' (HCK.out 0 (by unfold ckE; rw [if_neg HN.out, hlf]; simp))
      have HLG := Hid.mk' hlf
      clear hlf HL hlt
      go_wp2
      go_loopw [8, 9] (fun v i wr => ∃ j : Nat, j ≤ k ∧ i = .int .i64 j ∧ Hid (Nxi w wr ⟨(ruK (ageK s) (l.take j)).1.any, (ruK (ageK s) (l.take j)).1.last, s.age⟩ (ruK (ageK s) (l.take j)).2 v)) (fun _ i _ => k - (intOf i).toNat)
      case atStart => exact ⟨0, Nat.zero_le _, rfl, HX⟩
      case round =>
        obtain ⟨j, hj, rfl, HY⟩ := hrel
        by_cases hlj : j < k
        case pos =>
          obtain ⟨b, off, m, a, cc, rfl, hb, hm, p1', p2', p3', p4⟩ := HM.out.at_is hlj
          have p1 := (cell_kl HY.out.mw.kept hb).trans p1'
          have p2 := (cell_kl HY.out.mw.kept hb).trans p2'
          have p3 := (cell_kl HY.out.mw.kept hb).trans p3'
          have HP4 := Hid.mk' p4
          have HBN : Hid (a = none → cc = 0) := Hid.mk' p4.nil
          have hml := long_at HLG.out hm
          have hvl := Hid.mk' HY.out.mw.lt
          have HTk := HT.out j hj
          have HST := Hid.mk' (ru_step (ageK s) hm)
          have hBz := HY.out.rb.lt
          generalize ruK (ageK s) (l.take j) = P at *
          clear p1' p2' p3' p4 hm
          obtain ⟨⟨any, last, age⟩, T⟩ := P
          dsimp only at HY HTk
          obtain ⟨c0, c1, c2, f0, f1, f2, lt⟩ := Lb.lc HY.out.lb
          dsimp only at c0 c1 c2
          obtain ⟨mk, mq, mb⟩ := m
          dsimp only at hml p1 p2 p3
          have hz0 : ((wr.setCell ⟨w.heap.size, 0, none⟩ (.bool true)).setCell ⟨w.heap.size, 1, none⟩ (.int .u32 (mq : Int))).heap.size = wr.heap.size := by simp [World.setCell]
          have hMb0 := mb_alloc ((wr.setCell ⟨w.heap.size, 0, none⟩ (.bool true)).setCell ⟨w.heap.size, 1, none⟩ (.int .u32 (mq : Int))) (mk, mq, mb) a cc
          rw [hz0] at hMb0
          have hX1 := (HY.out.set2 mq).keptN (Kept.alloc _ (msC (mk, mq, mb) a cc) 47 (0, 0) none)
          dsimp only at hX1
          have HX1 := Hid.mk' hX1
          have HMb := Hid.mk' hMb0
          clear hX1 hMb0 hz0
          cases any with
          | true =>
            by_cases hq : mq ≤ last
            · rw [stK_old (m := (mk, mq, mb)) ⟨rfl, hq⟩] at HST
              go_wp2
              go_roundw
              case rel => exact ⟨j + 1, by omega, by go_num, by rw [HST.out]; exact Hid.mk' (HY.out.keptN (Kept.alloc _ _ _ _ _))⟩
              case measure => simp [intOf]; omega
            · rw [stK_new (m := (mk, mq, mb)) (fun q => hq q.2)] at HST
              go_wp2
              obtain ⟨W, hW⟩ : ∃ W, ((wr.setCell ⟨w.heap.size, 0, none⟩ (.bool true)).setCell ⟨w.heap.size, 1, none⟩ (.int .u32 (mq : Int))).alloc (.cells (msC (mk, mq, mb) a cc) 47) = W := ⟨_, rfl⟩
              have HX2 := HX1
              have HMb2 := HMb
              rw [hW] at HX2 HMb2
              unfold msC at hW
              dsimp only at hW
              rw [hW]
              clear hW
              obtain ⟨bm, hbm⟩ : ∃ bm, wr.heap.size = bm := ⟨_, rfl⟩
              rw [hbm] at HMb2 hvl
              rw [hbm]
              clear hbm
              obtain ⟨R, hR⟩ : ∃ R, u8.ownBlock = R := ⟨_, rfl⟩
              have hbR : some bm ≠ R := fun e => by rw [← hR] at e; have := (hvl.out bm e.symm).2; omega
              have x0 : ∀ w', Kept W w' R → w'.cell? ⟨bm, 0, none⟩ = some (.int .u8 (mk : Int)) := fun w' hk => cell_keptR (Mb.c0 HMb2.out) hk hbR
              have x1 : ∀ w', Kept W w' R → w'.cell? ⟨bm, 1, none⟩ = some (.int .u32 (mq : Int)) := fun w' hk => cell_keptR (Mb.c1 HMb2.out) hk hbR
              have x2 : ∀ w', Kept W w' R → w'.cell? ⟨bm, 2, none⟩ = some (.slice a mb.length cc) := fun w' hk => cell_keptR (Mb.c2 HMb2.out) hk hbR
              have HRR := Hid.mk' hR
              have C4 := Hid.mk' (HP4.out.keptL HX2.out.mw.kept)
              clear hR hbR HMb2
              refine Code.wp_mono (Q := Rm ?A1 (fun v w' => Hid (Nxi w w' ⟨true, mq, s.age⟩ (T ++ [(mk, mq, mb)]) v))) ?cont1 ?reg1
              case reg1 =>
                repeat (rename_i hh; clear hh)
                refine wp_region_held_drew (S := fun w' => Kept W w' R) (by kernel_rfl) (kept_drl _ _) (fun hHeld => ?_)
                refine held_take (i := 0) (v := ?rv1) rfl rfl (by kernel_rfl) (by kernel_rfl) (by kernel_rfl) (fun _ _ _ h => h) (Or.inl ⟨by rfl, ?rhy1⟩) hHeld ?rrest1
                case rhy1 => first | (intro w hSw; (try dsimp only at hSw); go_simp; done) | (intro w hSw; (try dsimp only at hSw); go_simp; with_reducible rfl)
                try simp only [List.setIfInBounds_toArray, List.set_cons_zero, List.set_cons_succ]
                refine held_take (i := 1) (v := ?rv2) rfl rfl (by kernel_rfl) (by kernel_rfl) (by kernel_rfl) (fun _ _ _ h => h) (Or.inl ⟨by rfl, ?rhy2⟩) hHeld ?rrest2
                case rhy2 => first | (intro w hSw; (try dsimp only at hSw); go_simp; done) | (intro w hSw; (try dsimp only at hSw); go_simp; with_reducible rfl)
                try simp only [List.setIfInBounds_toArray, List.set_cons_zero, List.set_cons_succ]
                refine held_take (i := 2) (v := ?rv3) rfl rfl (by kernel_rfl) (by kernel_rfl) (by kernel_rfl) (fun _ _ _ h => h) (Or.inl ⟨by rfl, ?rhy3⟩) hHeld ?rrest3
                case rhy3 => first | (intro w hSw; (try dsimp only at hSw); go_simp; done) | (intro w hSw; (try dsimp only at hSw); go_simp; with_reducible rfl)
                try simp only [List.setIfInBounds_toArray, List.set_cons_zero, List.set_cons_succ]
                refine held_take (i := 3) (v := ?rv4) rfl rfl (by kernel_rfl) (by kernel_rfl) (by kernel_rfl) (fun _ _ _ h => h) (Or.inl ⟨by rfl, ?rhy4⟩) hHeld ?rrest4
                case rhy4 => first | (intro w hSw; (try dsimp only at hSw); go_simp; done) | (intro w hSw; (try dsimp only at hSw); go_simp; with_reducible rfl)
                try simp only [List.setIfInBounds_toArray, List.set_cons_zero, List.set_cons_succ]
                refine held_take (i := 4) (v := ?rv5) rfl rfl (by kernel_rfl) (by kernel_rfl) (by kernel_rfl) (fun _ _ _ h => h) (Or.inl ⟨by rfl, ?rhy5⟩) hHeld ?rrest5
                case rhy5 => first | (intro w hSw; (try dsimp only at hSw); go_simp; done) | (intro w hSw; (try dsimp only at hSw); go_simp; with_reducible rfl)
                try simp only [List.setIfInBounds_toArray, List.set_cons_zero, List.set_cons_succ]
                refine held_take (i := 5) (v := ?rv6) rfl rfl (by kernel_rfl) (by kernel_rfl) (by kernel_rfl) (fun _ _ _ h => h) (Or.inl ⟨by rfl, ?rhy6⟩) hHeld ?rrest6
                case rhy6 => first | (intro w hSw; (try dsimp only at hSw); go_simp; done) | (intro w hSw; (try dsimp only at hSw); go_simp; with_reducible rfl)
                try simp only [List.setIfInBounds_toArray, List.set_cons_zero, List.set_cons_succ]
                refine held_take (i := 6) (v := ?rv7) rfl rfl (by kernel_rfl) (by kernel_rfl) (by kernel_rfl) (fun _ _ _ h => h) (Or.inl ⟨by rfl, ?rhy7⟩) hHeld ?rrest7
                case rhy7 => first | (intro w hSw; (try dsimp only at hSw); go_simp; done) | (intro w hSw; (try dsimp only at hSw); go_simp; with_reducible rfl)
                try simp only [List.setIfInBounds_toArray, List.set_cons_zero, List.set_cons_succ]
                refine wpAnyH_ready (rs := [7]) (by kernel_rfl) (by simp) ?_
                refine AllReadyH.cons rfl (fun K hK => ?_) AllReadyH.nil
                replace hK := hK.out
                refine step_join0L (by rfl) _ _ (by rfl) W.heap.size (by rfl) _ _ _ _ (by rfl) (C4.out.keptL (kept_drl W none)).by_ HBN.out (by omega) hHeld.size ?_
                intro a3 c3 w3 hm3 hk3
                have hnew : Kept W w3 R := hHeld.tr (kept_sm hk3 _)
                have HM3 := Hid.mk' hm3
                have K3 := Hid.mk' ((kept_drl W none).tr hk3)
                refine hK _ _ hnew (fun hHeld => ?_)
                clear hK K hnew hm3 hk3
                refine held_take (i := 8) (v := ?rv8) rfl rfl (by kernel_rfl) (by kernel_rfl) (by kernel_rfl) (fun _ _ _ h => h) (Or.inl ⟨by rfl, ?rhy8⟩) hHeld ?rrest8
                case rhy8 => first | (intro w hSw; (try dsimp only at hSw); go_simp; done) | (intro w hSw; (try dsimp only at hSw); go_simp; with_reducible rfl)
                try simp only [List.setIfInBounds_toArray, List.set_cons_zero, List.set_cons_succ]
                refine wpAnyH_ready (rs := [9]) (by kernel_rfl) (by simp) ?_
                refine AllReadyH.cons rfl (fun K hK => ?_) AllReadyH.nil
                replace hK := hK.out
                go_simp
                have hnew : Kept W (w3.alloc (.cells (msC (mk, mq, mb) a3 c3) 47)) R := hHeld.tr (Kept.alloc _ _ _ _ _)
                refine hK _ _ hnew (fun hHeld => ?_)
                clear hK K hnew
                refine wpAnyH_ready (rs := [10]) (by kernel_rfl) (by simp) ?_
                refine AllReadyH.cons rfl (fun K hK => ?_) AllReadyH.nil
                replace hK := hK.out
                obtain ⟨v', w5, hr5, hX5, hk5⟩ := HX2.out.appT (m := (mk, mq, mb)) K3.out HM3.out HTk 25
                have hnew : Kept W w5 R := hHeld.tr (by rw [HRR.out] at hk5; exact hk5)
                refine step_appL (by rfl) _ _ 25 (by rfl) (by rfl) (by rfl) hr5 ?_
                refine hK _ _ hnew (fun hHeld => ?_)
                clear hK K hnew
                refine held_take (i := 11) (v := ?rv9) rfl rfl (by kernel_rfl) (by kernel_rfl) (by kernel_rfl) (fun _ _ _ h => h) (Or.inl ⟨by rfl, ?rhy9⟩) hHeld ?rrest9
                case rhy9 => first | (intro w hSw; (try dsimp only at hSw); go_simp; done) | (intro w hSw; (try dsimp only at hSw); go_simp; with_reducible rfl)
                try simp only [List.setIfInBounds_toArray, List.set_cons_zero, List.set_cons_succ]
                refine wpAnyH_done (by kernel_rfl) ?_ _
                obtain ⟨gz, hgz⟩ : ∃ gz, w3.heap.size = gz := ⟨_, rfl⟩
                rw [hgz]
                refine Rm.mk (x := a3) (c := c3) (g := gz) (v := v') ?_ (Hid.mk' hX5)
                with_reducible rfl
              case cont1 =>
              intro e act w5 hq5
              obtain ⟨rfl, ax, cx, gx, vx, rfl, HX5⟩ := hq5.out
              go_wp2
              go_roundw
              case rel => exact ⟨j + 1, by omega, by go_num, by rw [HST.out]; exact HX5⟩
              case measure => simp [intOf]; omega
          | false =>
            rw [stK_new (m := (mk, mq, mb)) (fun q => by have := q.1; cases this)] at HST
            go_wp2
            obtain ⟨W, hW⟩ : ∃ W, ((wr.setCell ⟨w.heap.size, 0, none⟩ (.bool true)).setCell ⟨w.heap.size, 1, none⟩ (.int .u32 (mq : Int))).alloc (.cells (msC (mk, mq, mb) a cc) 47) = W := ⟨_, rfl⟩
            have HX2 := HX1
            have HMb2 := HMb
            rw [hW] at HX2 HMb2
            unfold msC at hW
            dsimp only at hW
            rw [hW]
            clear hW
            obtain ⟨bm, hbm⟩ : ∃ bm, wr.heap.size = bm := ⟨_, rfl⟩
            rw [hbm] at HMb2 hvl
            rw [hbm]
            clear hbm
            obtain ⟨R, hR⟩ : ∃ R, u8.ownBlock = R := ⟨_, rfl⟩
            have hbR : some bm ≠ R := fun e => by rw [← hR] at e; have := (hvl.out bm e.symm).2; omega
            have x0 : ∀ w', Kept W w' R → w'.cell? ⟨bm, 0, none⟩ = some (.int .u8 (mk : Int)) := fun w' hk => cell_keptR (Mb.c0 HMb2.out) hk hbR
            have x1 : ∀ w', Kept W w' R → w'.cell? ⟨bm, 1, none⟩ = some (.int .u32 (mq : Int)) := fun w' hk => cell_keptR (Mb.c1 HMb2.out) hk hbR
            have x2 : ∀ w', Kept W w' R → w'.cell? ⟨bm, 2, none⟩ = some (.slice a mb.length cc) := fun w' hk => cell_keptR (Mb.c2 HMb2.out) hk hbR
            have HRR := Hid.mk' hR
            have C4 := Hid.mk' (HP4.out.keptL HX2.out.mw.kept)
            clear hR hbR HMb2
            refine Code.wp_mono (Q := Rm ?A2 (fun v w' => Hid (Nxi w w' ⟨true, mq, s.age⟩ (T ++ [(mk, mq, mb)]) v))) ?cont2 ?reg2
            case reg2 =>
              repeat (rename_i hh; clear hh)
              refine wp_region_held_drew (S := fun w' => Kept W w' R) (by kernel_rfl) (kept_drl _ _) (fun hHeld => ?_)
              refine held_take (i := 0) (v := ?rv10) rfl rfl (by kernel_rfl) (by kernel_rfl) (by kernel_rfl) (fun _ _ _ h => h) (Or.inl ⟨by rfl, ?rhy10⟩) hHeld ?rrest10
              case rhy10 => first | (intro w hSw; (try dsimp only at hSw); go_simp; done) | (intro w hSw; (try dsimp only at hSw); go_simp; with_reducible rfl)
              try simp only [List.setIfInBounds_toArray, List.set_cons_zero, List.set_cons_succ]
              refine held_take (i := 1) (v := ?rv11) rfl rfl (by kernel_rfl) (by kernel_rfl) (by kernel_rfl) (fun _ _ _ h => h) (Or.inl ⟨by rfl, ?rhy11⟩) hHeld ?rrest11
              case rhy11 => first | (intro w hSw; (try dsimp only at hSw); go_simp; done) | (intro w hSw; (try dsimp only at hSw); go_simp; with_reducible rfl)
              try simp only [List.setIfInBounds_toArray, List.set_cons_zero, List.set_cons_succ]
              refine held_take (i := 2) (v := ?rv12) rfl rfl (by kernel_rfl) (by kernel_rfl) (by kernel_rfl) (fun _ _ _ h => h) (Or.inl ⟨by rfl, ?rhy12⟩) hHeld ?rrest12
              case rhy12 => first | (intro w hSw; (try dsimp only at hSw); go_simp; done) | (intro w hSw; (try dsimp only at hSw); go_simp; with_reducible rfl)
              try simp only [List.setIfInBounds_toArray, List.set_cons_zero, List.set_cons_succ]
              refine held_take (i := 3) (v := ?rv13) rfl rfl (by kernel_rfl) (by kernel_rfl) (by kernel_rfl) (fun _ _ _ h => h) (Or.inl ⟨by rfl, ?rhy13⟩) hHeld ?rrest13
              case rhy13 => first | (intro w hSw; (try dsimp only at hSw); go_simp; done) | (intro w hSw; (try dsimp only at hSw); go_simp; with_reducible rfl)
              try simp only [List.setIfInBounds_toArray, List.set_cons_zero, List.set_cons_succ]
              refine held_take (i := 4) (v := ?rv14) rfl rfl (by kernel_rfl) (by kernel_rfl) (by kernel_rfl) (fun _ _ _ h => h) (Or.inl ⟨by rfl, ?rhy14⟩) hHeld ?rrest14
              case rhy14 => first | (intro w hSw; (try dsimp only at hSw); go_simp; done) | (intro w hSw; (try dsimp only at hSw); go_simp; with_reducible rfl)
              try simp only [List.setIfInBounds_toArray, List.set_cons_zero, List.set_cons_succ]
              refine held_take (i := 5) (v := ?rv15) rfl rfl (by kernel_rfl) (by kernel_rfl) (by kernel_rfl) (fun _ _ _ h => h) (Or.inl ⟨by rfl, ?rhy15⟩) hHeld ?rrest15
              case rhy15 => first | (intro w hSw; (try dsimp only at hSw); go_simp; done) | (intro w hSw; (try dsimp only at hSw); go_simp; with_reducible rfl)
              try simp only [List.setIfInBounds_toArray, List.set_cons_zero, List.set_cons_succ]
              refine held_take (i := 6) (v := ?rv16) rfl rfl (by kernel_rfl) (by kernel_rfl) (by kernel_rfl) (fun _ _ _ h => h) (Or.inl ⟨by rfl, ?rhy16⟩) hHeld ?rrest16
              case rhy16 => first | (intro w hSw; (try dsimp only at hSw); go_simp; done) | (intro w hSw; (try dsimp only at hSw); go_simp; with_reducible rfl)
              try simp only [List.setIfInBounds_toArray, List.set_cons_zero, List.set_cons_succ]
              refine wpAnyH_ready (rs := [7]) (by kernel_rfl) (by simp) ?_
              refine AllReadyH.cons rfl (fun K hK => ?_) AllReadyH.nil
              replace hK := hK.out
              refine step_join0L (by rfl) _ _ (by rfl) W.heap.size (by rfl) _ _ _ _ (by rfl) (C4.out.keptL (kept_drl W none)).by_ HBN.out (by omega) hHeld.size ?_
              intro a3 c3 w3 hm3 hk3
              have hnew : Kept W w3 R := hHeld.tr (kept_sm hk3 _)
              have HM3 := Hid.mk' hm3
              have K3 := Hid.mk' ((kept_drl W none).tr hk3)
              refine hK _ _ hnew (fun hHeld => ?_)
              clear hK K hnew hm3 hk3
              refine held_take (i := 8) (v := ?rv17) rfl rfl (by kernel_rfl) (by kernel_rfl) (by kernel_rfl) (fun _ _ _ h => h) (Or.inl ⟨by rfl, ?rhy17⟩) hHeld ?rrest17
              case rhy17 => first | (intro w hSw; (try dsimp only at hSw); go_simp; done) | (intro w hSw; (try dsimp only at hSw); go_simp; with_reducible rfl)
              try simp only [List.setIfInBounds_toArray, List.set_cons_zero, List.set_cons_succ]
              refine wpAnyH_ready (rs := [9]) (by kernel_rfl) (by simp) ?_
              refine AllReadyH.cons rfl (fun K hK => ?_) AllReadyH.nil
              replace hK := hK.out
              go_simp
              have hnew : Kept W (w3.alloc (.cells (msC (mk, mq, mb) a3 c3) 47)) R := hHeld.tr (Kept.alloc _ _ _ _ _)
              refine hK _ _ hnew (fun hHeld => ?_)
              clear hK K hnew
              refine wpAnyH_ready (rs := [10]) (by kernel_rfl) (by simp) ?_
              refine AllReadyH.cons rfl (fun K hK => ?_) AllReadyH.nil
              replace hK := hK.out
              obtain ⟨v', w5, hr5, hX5, hk5⟩ := HX2.out.appT (m := (mk, mq, mb)) K3.out HM3.out HTk 25
              have hnew : Kept W w5 R := hHeld.tr (by rw [HRR.out] at hk5; exact hk5)
              refine step_appL (by rfl) _ _ 25 (by rfl) (by rfl) (by rfl) hr5 ?_
              refine hK _ _ hnew (fun hHeld => ?_)
              clear hK K hnew
              refine held_take (i := 11) (v := ?rv18) rfl rfl (by kernel_rfl) (by kernel_rfl) (by kernel_rfl) (fun _ _ _ h => h) (Or.inl ⟨by rfl, ?rhy18⟩) hHeld ?rrest18
              case rhy18 => first | (intro w hSw; (try dsimp only at hSw); go_simp; done) | (intro w hSw; (try dsimp only at hSw); go_simp; with_reducible rfl)
              try simp only [List.setIfInBounds_toArray, List.set_cons_zero, List.set_cons_succ]
              refine wpAnyH_done (by kernel_rfl) ?_ _
              obtain ⟨gz, hgz⟩ : ∃ gz, w3.heap.size = gz := ⟨_, rfl⟩
              rw [hgz]
              refine Rm.mk (x := a3) (c := c3) (g := gz) (v := v') ?_ (Hid.mk' hX5)
              with_reducible rfl
            case cont2 =>
            intro e act w5 hq5
            obtain ⟨rfl, ax, cx, gx, vx, rfl, HX5⟩ := hq5.out
            go_wp2
            go_roundw
            case rel => exact ⟨j + 1, by omega, by go_num, by rw [HST.out]; exact HX5⟩
            case measure => simp [intOf]; omega
        case neg =>
          have e : j = k := by omega
          subst e
          have hR : ruK (ageK s) (l.take j) = ruK (ageK s) l := ru_all _ (by rw [HM.out.size]; exact Nat.le_refl _)
          rw [hR] at HY
          have HAG := Hid.mk' (ru_age (ageK s) l)
          clear hR
          obtain ⟨c0, c1, c2, f0, f1, f2, lt⟩ := Lb.lc HY.out.lb
          obtain ⟨d0, d1, d2, g0, g1, g2, lt2⟩ := Lb.lc HY.out.rb
          dsimp only at c0 c1 c2
          obtain ⟨av, cv, hv, _⟩ := HY.out.mw.slice
          subst hv
          have HRU : Hid (∃ q, ruK (ageK s) l = q) := Hid.mk' ⟨_, rfl⟩
          obtain ⟨q, hq⟩ := HRU.out
          have HQ := Hid.mk' hq
          rw [hq] at HY HAG c0 c1
          clear hq HRU
          obtain ⟨⟨QA, QL, QG⟩, T⟩ := q
          dsimp only at HY HAG c0 c1
          rw [HQ.out]
          dsimp only
          by_cases hT : T = []
          · subst hT
            have hQG : QG = (ageK s).age := by have := HAG.out; simpa using this
            have hQ2 : QG = min (s.age + 1) 1048576 := hQG
            by_cases hA : s.age + 1 ≤ 1048576
            · have hQ3 : QG = s.age + 1 := by omega
              have HX3 := Hid.mk' (HY.out.age (t := ⟨QA, QL, QG⟩) rfl rfl hQ3)
              have HP := Hid.mk' (HX3.out.put3 ⟨QA, QL, QG⟩)
              dsimp only at HP
              subst hQ3
              clear hQG hQ2
              go_wp2
              refine bodyPost_ret (v := .tuple #[lkV ⟨QA, QL, s.age + 1⟩, .slice av ([] : List Msg).length cv, .int .i64 0]) (by simp [results, Try.results19, go_sem, *]; done) rfl ?_
              have hY := NxP.yes HE.out (v := .slice av ([] : List Msg).length cv) (by rw [HQ.out]; exact HP.out)
              rw [HQ.out] at hY
              exact hY
            · have hQ3 : QG = 1048576 := by omega
              have HX3 := Hid.mk' (HY.out.age (t := ⟨QA, QL, QG⟩) rfl rfl hQ3)
              have HP := Hid.mk' (HX3.out.put3 ⟨QA, QL, QG⟩)
              dsimp only at HP
              subst hQ3
              clear hQG hQ2
              go_wp2
              refine bodyPost_ret (v := .tuple #[lkV ⟨QA, QL, 1048576⟩, .slice av ([] : List Msg).length cv, .int .i64 0]) (by simp [results, Try.results19, go_sem, *]; done) rfl ?_
              have hY := NxP.yes HE.out (v := .slice av ([] : List Msg).length cv) (by rw [HQ.out]; exact HP.out)
              rw [HQ.out] at hY
              exact hY
          · have hQ3 : QG = 0 := by have := HAG.out; rw [if_neg hT] at this; exact this
            subst hQ3
            have ht0 : 0 < T.length := List.length_pos_iff.2 hT
            have ht1 : (0 : Int) < (T.length : Int) := by omega
            have hLm := HY.out.mw.slice
            by_cases hA : s.age + 1 ≤ 1048576
            · have HX3 := Hid.mk' ((HY.out.age (t := ⟨QA, QL, s.age + 1⟩) rfl rfl rfl).age (t := ⟨QA, QL, 0⟩) rfl rfl rfl)
              have HP := Hid.mk' (HX3.out.put3 ⟨QA, QL, 0⟩)
              dsimp only at HP
              clear hLm
              go_wp2
              refine bodyPost_ret (v := .tuple #[lkV ⟨QA, QL, 0⟩, .slice av T.length cv, .int .i64 0]) (by simp [results, Try.results19, go_sem, *]; done) rfl ?_
              have hY := NxP.yes HE.out (v := .slice av T.length cv) (by rw [HQ.out]; exact HP.out)
              rw [HQ.out] at hY
              exact hY
            · have HX3 := Hid.mk' ((HY.out.age (t := ⟨QA, QL, 1048576⟩) rfl rfl rfl).age (t := ⟨QA, QL, 0⟩) rfl rfl rfl)
              have HP := Hid.mk' (HX3.out.put3 ⟨QA, QL, 0⟩)
              dsimp only at HP
              clear hLm
              go_wp2
              refine bodyPost_ret (v := .tuple #[lkV ⟨QA, QL, 0⟩, .slice av T.length cv, .int .i64 0]) (by simp [results, Try.results19, go_sem, *]; done) rfl ?_
              have hY := NxP.yes HE.out (v := .slice av T.length cv) (by rw [HQ.out]; exact HP.out)
              rw [HQ.out] at hY
              exact hY
theorem rnext20_any {w : World} {la : Option Addr} {n c : Nat} {l : List Msg} (s : Lk) (h : Ms w la n l) : Calls Try.prog 19 #[lkV s, .slice la n c] w fun e w' => NxP w s l e w' := by
  by_cases hm : mayK s
  · by_cases hn : 1024 < n
    · exact rnext_many s h hm hn
    · exact rnext_go s h hm (by omega)
  · exact rnext_bad s hm

end Go.Proofs.Ytnmfigcemknjbaa
