/-
  PulseParts' walk, the main way (made by a program).
-/
import Derived.Test.YtbgnllpgogbmfaaPParV
namespace Go.Proofs.Ytbgnllpgogbmfaa
open Go.RowKit Go.Lib Go.Deep
set_option linter.unusedVariables false
set_option linter.unusedSimpArgs false

set_option maxRecDepth 100000 in
set_option maxHeartbeats 8000000 in
theorem pparts_mid (p : Pu) (h : Int) {b off n c k : Nat} {L : List Bool} {w : World} (hA : Bo w (some ⟨b, off, none⟩) n L) (hp : mayP p = true) (hh : holB h = true) (hl : n ≤ 400) (hk : k < n) (hc : n ≤ c) (hcm : c ≤ 9223372036854775807) : Calls Try.prog 7 #[puV p, .slice (some ⟨b, off, none⟩) n c, .int .i64 (k : Int), .int .i64 h] w fun e w' => e = .returned (.bool true) ∧ Kept w w' none := by
  have hkn : k ≤ n := by omega
  have hmx := hA.max
  have HA := Hid.mk' hA
  have HL := Hid.mk' hA.size
  have HP := Hid.mk' hp
  have HH := Hid.mk' hh
  have hkc : k ≤ c := by omega
  have hkc' : ¬ c < k := by omega
  have hkL : k ≤ L.length := by have := hA.size; omega
  have HKL := Hid.mk' hkL
  have hpt : mayP (runP h p (L.take k)) = true := may_run hp
  have HRUN6 := Hid.mk' (fun (w' : World) (hb : Bo w' (some ⟨b, off, none⟩) n L) => runp_ok (c := c) hb hp hl hh)
  have HRUN7 := Hid.mk' (fun (w' : World) (hb : Bo w' (some ⟨b, off, none⟩) n L) => runp_ok (c := c) (hb.take k hkn) hp (by omega) hh)
  have HRUN8 := Hid.mk' (fun (w' : World) (x' : Option Addr) (c' : Nat) (hb : Bo w' x' (n - k) (L.drop k)) => runp_ok (c := c') hb hpt (by omega) hh)
  have hcat := runP_append h p (L.take k) (L.drop k)
  rw [List.take_append_drop] at hcat
  have HCAT := Hid.mk' hcat
  clear hA hp hh hpt hkL hcat
  rw [← HCAT.out] at HRUN8
  obtain ⟨R, hR⟩ : ∃ R, R = runP h p L := ⟨_, rfl⟩
  obtain ⟨T, hT⟩ : ∃ T, T = runP h p (L.take k) := ⟨_, rfl⟩
  have HR := Hid.mk' hR
  have HT := Hid.mk' hT
  rw [← hR] at HRUN6 HRUN8
  rw [← hT] at HRUN7 HRUN8
  have hprt := saidP_parts h p HKL.out
  rw [← hT] at hprt
  have HPRT := Hid.mk' hprt
  clear hprt
  clear hR hT HCAT
  obtain ⟨u, q, s⟩ := p
  obtain ⟨Ru, Rq', Rs⟩ := R
  obtain ⟨Tu, Tq, Ts⟩ := T
  go_enter Try.func7, Try.ntmps7
  go_wp2_with (first
    | (go_at_call 9; refine (HRUN6.out _ HA1.out).mono ?_; rintro e w2 ⟨a2, c2, rfl, hb2, hk2⟩; have BP2 := BP1.kept hk2; have p20 := BP2.c0; have p21 := BP2.c1; have p22 := BP2.c2; have l2 := BP2.lt; have HA2 := Hid.mk' (HA1.out.kept hk2); have HB2 := Hid.mk' hb2; clear p10 p11 p12 hb2)
    | (go_at_call 10; refine (alive_any _).mono ?_; rintro e1 w1 ⟨rfl, hk1⟩; have BP1 := (box_alloc w (.bool u) (.bool q) (.int .i64 s) 23).kept hk1; have l1 := BP1.lt; have p10 := BP1.c0; have p11 := BP1.c1; have p12 := BP1.c2; have HA1 := Hid.mk' ((HA.out.kept (Kept.alloc _ _ _ _ _)).kept hk1)))
  have BPW := BP2.kept (Kept.alloc w2 #[.bool Ru, .bool Rq', .int .i64 Rs] 23 (0, 0) none)
  have BAW := box_alloc w2 (.bool Ru) (.bool Rq') (.int .i64 Rs) 23
  have HAW := Hid.mk' (HA2.out.kept (Kept.alloc w2 #[.bool Ru, .bool Rq', .int .i64 Rs] 23 (0, 0) none))
  have HBW := Hid.mk' (HB2.out.kept (Kept.alloc w2 #[.bool Ru, .bool Rq', .int .i64 Rs] 23 (0, 0) none))
  have hKW : Kept w (w2.alloc (.cells #[.bool Ru, .bool Rq', .int .i64 Rs] 23)) none := (((Kept.alloc _ _ _ _ _).tr hk1).tr hk2).tr (Kept.alloc _ _ _ _ _)
  have HKW := Hid.mk' hKW
  obtain ⟨W, hW⟩ : ∃ W, w2.alloc (.cells #[.bool Ru, .bool Rq', .int .i64 Rs] 23) = W := ⟨_, rfl⟩
  rw [hW] at BPW BAW HAW HBW HKW ⊢
  clear hW hKW BP1 BP2 p20 p21 p22 hk1 hk2
  refine Code.wp_mono (Q := Rq ?A7 (fun B x c7 w' => Kept W w' none ∧ W.heap.size ≤ B ∧ Box w' B (.bool Tu) (.bool Tq) (.int .i64 Ts) ∧ Bow w' W.heap.size x k c7 (saidP h ⟨u, q, s⟩ (L.take k)))) ?cont7 ?reg7
  case reg7 =>
    (repeat (rename_i hh; clear hh))
    have q0 := BPW.c0
    have q1 := BPW.c1
    have q2 := BPW.c2
    have lW := BPW.lt
    go_region_with (go_at_call 9; refine (HRUN7.out _ (HAW.out.kept (by first | exact Kept.drew _ _ | exact (Kept.drew _ _).tr (Kept.alloc _ _ _ _ _) | exact (Kept.alloc _ _ _ _ _).tr (Kept.drew _ _) | exact Kept.alloc _ _ _ _ _))).mono ?_; rintro e w3 ⟨a3, c3, rfl, hb3, hk3⟩; have hb3' := Hid.mk' hb3; clear hb3; (try have ZB7 : Box w3 W.heap.size (.bool false) (.bool false) (.int .i64 0) := (box_alloc W.drew (.bool false) (.bool false) (.int .i64 0) 23).kept hk3); (try have z70 := ZB7.c0); (try have y70 := ZB7.f0); (try have z71 := ZB7.c1); (try have y71 := ZB7.f1); (try have z72 := ZB7.c2); (try have y72 := ZB7.f2))
    all_goals simp only [Rq, Act.put, List.getElem_toArray, List.getElem_cons_zero, List.getElem_cons_succ, List.setIfInBounds_toArray, List.set_cons_zero, List.set_cons_succ]
    · refine ⟨w3.heap.size, a3, c3, ?_, ((Kept.drew _ _).tr hk3).tr (Kept.alloc _ _ _ _ _), hk3.size, box_alloc _ _ _ _ _, hb3'.out.kept (Kept.alloc _ _ _ _ _)⟩
      generalize w3.heap.size = B
      with_reducible rfl
    all_goals
      refine ⟨W.heap.size, a3, c3, ?_, kept_set3 (((Kept.drew _ _).tr (Kept.alloc _ _ _ _ _)).tr hk3) (Nat.le_refl _) _ _ _, Nat.le_refl _, ZB7.set _ _ _, ?_⟩
      · generalize W.heap.size = B
        with_reducible rfl
      · have h5 := bow_base (base' := W.heap.size + 1) hb3'.out (by show _ ≤ (World.alloc _ _).heap.size; simp)
        have h6 := kept_off h5 (b := W.heap.size) (Nat.lt_succ_self _) (.bool Tu) (.bool Tq) (.int .i64 Ts)
        exact bow_base h6 (Nat.le_succ _)
  case cont7 =>
    intro e7 act7 w7 hq7
    obtain ⟨rfl, B7, x7, c7, rfl, hk7, hB7, bx7, bw7⟩ := Rq.out hq7
    clear hq7
    have BW7 := Hid.mk' bw7
    have BX7 := Hid.mk' bx7
    clear bw7 bx7
    have HD7 : Hid (Bo w7 (some ⟨b, off + k, none⟩) (n - k) (L.drop k)) := (HAW.out.kept hk7).drop k (by omega)
    have hck : ¬ c = k := by omega
    have b70 := BX7.out.c0
    have b71 := BX7.out.c1
    have b72 := BX7.out.c2
    go_wp2
    refine Code.wp_mono (Q := Rq ?A8 (fun B x c7 w' => Kept w7 w' none ∧ w7.heap.size ≤ B ∧ Box w' B (.bool Ru) (.bool Rq') (.int .i64 Rs) ∧ Bow w' w7.heap.size x (n - k) c7 (saidP h ⟨Tu, Tq, Ts⟩ (L.drop k)))) ?cont8 ?reg8
    case reg8 =>
      (repeat (rename_i hh; clear hh))
      have q0 := BX7.out.c0
      have q1 := BX7.out.c1
      have q2 := BX7.out.c2
      have lW := BX7.out.lt
      go_region_with (go_at_call 9; refine (HRUN8.out _ _ _ (HD7.out.kept (by first | exact Kept.drew _ _ | exact (Kept.drew _ _).tr (Kept.alloc _ _ _ _ _) | exact (Kept.alloc _ _ _ _ _).tr (Kept.drew _ _) | exact Kept.alloc _ _ _ _ _))).mono ?_; rintro e w3 ⟨a3, c3, rfl, hb3, hk3⟩; have hb3' := Hid.mk' hb3; clear hb3; (try have ZB8 : Box w3 w7.heap.size (.bool false) (.bool false) (.int .i64 0) := (box_alloc w7.drew (.bool false) (.bool false) (.int .i64 0) 23).kept hk3); (try have z80 := ZB8.c0); (try have y80 := ZB8.f0); (try have z81 := ZB8.c1); (try have y81 := ZB8.f1); (try have z82 := ZB8.c2); (try have y82 := ZB8.f2))
      all_goals simp only [Rq, Act.put, List.getElem_toArray, List.getElem_cons_zero, List.getElem_cons_succ, List.setIfInBounds_toArray, List.set_cons_zero, List.set_cons_succ]
      · refine ⟨w3.heap.size, a3, c3, ?_, ((Kept.drew _ _).tr hk3).tr (Kept.alloc _ _ _ _ _), hk3.size, box_alloc _ _ _ _ _, hb3'.out.kept (Kept.alloc _ _ _ _ _)⟩
        generalize w3.heap.size = B
        with_reducible rfl
      all_goals
        refine ⟨w7.heap.size, a3, c3, ?_, kept_set3 (((Kept.drew _ _).tr (Kept.alloc _ _ _ _ _)).tr hk3) (Nat.le_refl _) _ _ _, Nat.le_refl _, ZB8.set _ _ _, ?_⟩
        · generalize w7.heap.size = B
          with_reducible rfl
        · have h5 := bow_base (base' := w7.heap.size + 1) hb3'.out (by show _ ≤ (World.alloc _ _).heap.size; simp)
          have h6 := kept_off h5 (b := w7.heap.size) (Nat.lt_succ_self _) (.bool Ru) (.bool Rq') (.int .i64 Rs)
          exact bow_base h6 (Nat.le_succ _)
    case cont8 =>
      intro e8 act8 w8 hq8
      obtain ⟨rfl, B8, x8, c8, rfl, hk8, hB8, bx8, bw8⟩ := Rq.out hq8
      clear hq8
      have BW8 := Hid.mk' bw8
      have BX8 := Hid.mk' bx8
      clear bw8 bx8
      have k78 := hk7.tr hk8
      have BA8 := BAW.kept k78
      have a80 := BA8.c0
      have a81 := BA8.c1
      have a82 := BA8.c2
      have c80 := BX8.out.c0
      have c81 := BX8.out.c1
      have c82 := BX8.out.c2
      have BP8 := BPW.kept k78
      have hwW := BPW.lt
      have HM8 := Hid.mk' (BW7.out.bo.kept hk8)
      have HS8 := Hid.mk' (HBW.out.bo.kept k78)
      clear b70 b71 b72
      go_wp2_with (first
        | (go_at_call 14; refine (same_any (L := saidP h ⟨u, q, s⟩ L) (M := saidP h ⟨u, q, s⟩ L) (HS8.out.kept hk10) (by have h9 := hbA.out.bo; rw [HPRT.out, show k + (n - k) = n by omega] at h9; exact h9)).mono ?_; rintro e w11 ⟨rfl, hk11⟩; rw [decide_eq_true rfl])
        | (have hgo := hk9; clear hgo; at_builtin; refine wpList_gjoin (by rfl) _ _ (by rfl) w8.heap.size (.slice a9 k c9) k (saidP h ⟨u, q, s⟩ (L.take k)) (by rfl) hb9.out.own x8 (n - k) c8 (saidP h ⟨Tu, Tq, Ts⟩ (L.drop k)) (by rfl) (BW8.out.bo.kept hk9) (fun e => (BW8.out.nil e).2) (by omega) hk9.size ?_; intro a10 c10 w10 hb10 hg10; have hbA := Hid.mk' hb10; have hk10 : Kept w8 w10 none := hk9.newRow hg10 (fun i e => (hb9.out.own.lt i e).1); clear hb10)
        | (at_builtin; refine wpList_gjoin0 (by rfl) _ _ (by rfl) w8.heap.size (by rfl) x7 k c7 (saidP h ⟨u, q, s⟩ (L.take k)) (by rfl) HM8.out (fun e => (BW7.out.nil e).2) (by omega) (Nat.le_refl _) ?_; intro a9 c9 w9 hb9' hk9; have hb9 := Hid.mk' hb9'; clear hb9'))
      have k11 : Kept W w11 none := (k78.tr hk10).tr hk11
      have hPl : Pls w h ⟨u, q, s⟩ L (some ⟨b, off, none⟩) a2 n w2.heap.size ⟨Ru, Rq', Rs⟩ 0 w11 :=
        ⟨BPW.kept k11, BAW.kept k11, HAW.out.kept k11, HBW.out.bo.kept k11, HKW.out.tr k11, l2, fun x' hx h0 => HA.out.block h0 hx, fun x' hx h0 => by have := (HBW.out.new x' hx).1; omega⟩
      have HPL := Hid.mk' hPl
      clear hPl
      go_loopw [19, 20, 21] (fun iv _ _ wr => ∃ i : Nat, iv = .int .i64 i ∧ i ≤ n ∧ Pls w h ⟨u, q, s⟩ L (some ⟨b, off, none⟩) a2 n w2.heap.size ⟨Ru, Rq', Rs⟩ i wr) (fun iv _ _ _ => n - (intOf iv).toNat)
      case atStart => exact ⟨0, rfl, by omega, HPL.out⟩
      case round =>
        obtain ⟨i, rfl, hin, hpl⟩ := hrel
        have HPR := Hid.mk' hpl
        clear hpl HPL a80 a81 a82 c80 c81 c82
        by_cases hlt : i < n
        · have hiL : i < L.length := by have := HL.out; omega
          have HIL := Hid.mk' hiL
          obtain ⟨Q, hQ⟩ : ∃ Q, Q = atP h ⟨u, q, s⟩ L i := ⟨_, rfl⟩
          obtain ⟨Q', hQ'⟩ : ∃ Q', Q' = atP h ⟨u, q, s⟩ L (i + 1) := ⟨_, rfl⟩
          have hs : Q' = stepP h Q (tr L i) := by rw [hQ', hQ]; exact atP_succ h ⟨u, q, s⟩ hiL
          have hm : mayP Q = true := by rw [hQ]; exact may_at HP.out
          have hNX := fun w' => nextp_ok (tr L i) w' hm HH.out
          rw [← hs] at hNX
          have HNX := Hid.mk' hNX
          have HQ' := Hid.mk' hQ'
          have bq := HPR.out.box
          rw [← hQ] at bq
          obtain ⟨b3, o3, e3, _, hc3⟩ := HPR.out.raw.at_ (by omega)
          have kc := hc3 i hlt
          obtain ⟨b4, o4, e4, _, hc4⟩ := HPR.out.said.at_ (by omega)
          have kd := hc4 i hlt
          rw [tr_said h ⟨u, q, s⟩ hiL, ← hQ'] at kd
          clear hc3 hc4 hs hm hNX hQ hQ' hiL
          injection e3 with e3; injection e3 with e3 e5; subst e3 e5
          subst e4
          generalize tr L i = y at *
          obtain ⟨q0', q1', q2'⟩ := Q
          obtain ⟨r0', r1', r2'⟩ := Q'
          go_wp2
          refine Code.wp_mono (Q := Rr ?A16 (fun B w' => Kept wr w' none ∧ wr.heap.size ≤ B ∧ Box w' B (.bool r0') (.bool r1') (.int .i64 r2'))) ?cont16 ?reg16
          case reg16 =>
            (repeat (rename_i hh; clear hh))
            have q0 := bq.c0
            have q1 := bq.c1
            have q2 := bq.c2
            have lW := bq.lt
            have lb3 := block_lt kc
            go_region_with (go_at_call 8; refine (HNX.out _).mono ?_; rintro e w3 ⟨rfl, hk3⟩; (try have ZB : Box w3 wr.heap.size (.bool false) (.bool false) (.int .i64 0) := (box_alloc wr.drew (.bool false) (.bool false) (.int .i64 0) 23).kept hk3); (try have z0 := ZB.c0); (try have z1 := ZB.c1); (try have z2 := ZB.c2); (try have y0 := ZB.f0); (try have y1 := ZB.f1); (try have y2 := ZB.f2))
            all_goals simp only [Rr, Act.put, List.getElem_toArray, List.getElem_cons_zero, List.getElem_cons_succ, List.setIfInBounds_toArray, List.set_cons_zero, List.set_cons_succ]
            all_goals first
              | (refine ⟨w3.heap.size, ?_, ((Kept.drew _ _).tr hk3).tr (Kept.alloc _ _ _ _ _), hk3.size, box_alloc _ _ _ _ _⟩; generalize w3.heap.size = B; with_reducible rfl)
              | (refine ⟨wr.heap.size, ?_, kept_set3 (((Kept.drew _ _).tr (Kept.alloc _ _ _ _ _)).tr hk3) (Nat.le_refl _) _ _ _, Nat.le_refl _, ZB.set _ _ _⟩; generalize wr.heap.size = B; with_reducible rfl)
          case cont16 =>
            intro e16 act16 w16 hq16
            obtain ⟨rfl, B, rfl, hk16, hB16, bx16⟩ := Rr.out hq16
            clear hq16
            have HP16 := Hid.mk' (HPR.out.tr hk16)
            have g0 := bx16.c0
            have g1 := bx16.c1
            have g2 := bx16.c2
            have v0 := HP16.out.box.c0
            have v1 := HP16.out.box.c1
            have v2 := HP16.out.box.c2
            have f0 := HP16.out.box.f0
            have f1 := HP16.out.box.f1
            have f2 := HP16.out.box.f2
            have kd16 : w16.cell? ⟨b4, o4 + i, none⟩ = some (.bool r0') := (cell_kept' hk16 (block_lt kd)).trans kd
            go_wp2
            go_quiet (fail)
            go_wp2
            exact ⟨⟨i + 1, by go_num, by omega, (HP16.out.tr (Kept.drewN _ _ _)).set HQ'.out⟩, by simp [intOf]; omega⟩
        · have e : atP h ⟨u, q, s⟩ L i = ⟨Ru, Rq', Rs⟩ := by rw [HR.out, show i = L.length by have := HL.out; omega]; exact atP_all _ _ _
          have v0 := HPR.out.box.c0
          have v1 := HPR.out.box.c1
          have v2 := HPR.out.box.c2
          rw [e] at v0 v1 v2
          have g0 := HPR.out.ans.c0
          have g1 := HPR.out.ans.c1
          have g2 := HPR.out.ans.c2
          clear e
          go_wp2
          go_ret
          exact ⟨by simp, HPR.out.kept⟩

end Go.Proofs.Ytbgnllpgogbmfaa
