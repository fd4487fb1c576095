/-
  THE DOCUMENT'S OWN Read, put, Write (made by a program).
-/
import Derived.Test.YtpfbdandhdapcaaBlkR
namespace Go.Proofs.Ytpfbdandhdapcaa
open Go.RowKit Go.Lib Go.Deep
set_option linter.unusedVariables false
set_option linter.unusedSimpArgs false

theorem rread_any {a : Option Addr} {n c : Nat} {L : List Nat} (i : Int) (w : World) (hC : Come w a n c L) : Calls Try.prog 19 #[dvV a n c, .int .i64 i] w fun e w' => ∃ a2 c2, e = slR a2 (brL L i).length c2 (brE n i) ∧ Hid (Come w' a2 (brL L i).length c2 (brL L i)) ∧ Kept w w' none := by
  have hs := hC.by_.size
  have hn := hC.by_.max
  rcases chk_cases n with ⟨h, g1, g2, g3⟩ | h
  · have HC := Hid.mk' h
    by_cases h0 : i < 0
    · have e1 : brE n i = 2 := by unfold brE hasV; rw [if_pos h, decide_eq_false (p := 0 ≤ i) (by omega)]; rfl
      have e2 : brL L i = [] := by unfold brL; rw [hs, e1]; rfl
      rw [e1, e2]
      clear h hC g1 g2 g3 hs e1 e2
      go_enter Try.func19, Try.ntmps19
      go_wp2_with (go_at_call 22; refine (rchk_any a n c _ hn).mono ?_; rw [HC.out]; rintro e w1 ⟨rfl, hk1⟩)
      go_ret2
      exact ⟨none, 0, rfl, Hid.mk' (Dv.none w _).come, (Kept.alloc _ _ _ _ _).tr hk1⟩
    · by_cases h1 : ((n / 64 : Nat) : Int) ≤ i
      · have e1 : brE n i = 2 := by unfold brE hasV; rw [if_pos h, decide_eq_false (p := i < ((n / 64 : Nat) : Int)) (by omega), Bool.and_false]; rfl
        have e2 : brL L i = [] := by unfold brL; rw [hs, e1]; rfl
        rw [e1, e2]
        have h1' : (n : Int) / 64 ≤ i := by omega
        clear h hC g1 g2 g3 hs e1 e2 h1
        go_enter Try.func19, Try.ntmps19
        go_wp2_with (first | (go_at_call 24; refine (rman_any a n c _ hn).mono ?_; rintro e w2 ⟨rfl, hk2⟩) | (go_at_call 22; refine (rchk_any a n c _ hn).mono ?_; rw [HC.out]; rintro e w1 ⟨rfl, hk1⟩; have c1 := ((db_alloc w a n c 24).kept hk1).c0))
        go_ret2
        exact ⟨none, 0, rfl, Hid.mk' (Dv.none w _).come, ((Kept.alloc _ _ _ _ _).tr hk1).tr hk2⟩
      · have hh : hasV n i = true := by unfold hasV; simp; omega
        have e1 : brE n i = 0 := by unfold brE; rw [if_pos h, if_pos hh]
        have e2 : brL L i = blD L i.toNat := by unfold brL; rw [hs, if_pos e1]
        have q1 := (has_iff g1).1 hh
        have el : (blD L i.toNat).length = 64 := blD_len (by omega)
        rw [e1, e2, el]
        have h1' : ¬ (n : Int) / 64 ≤ i := by omega
        obtain ⟨b, off, rfl, _⟩ := hC.by_.at_ (by omega)
        have HCo := Hid.mk' hC
        have HQ := Hid.mk' (And.intro q1 g3)
        clear h hC g1 g2 g3 hs e1 e2 h1 hh q1 el
        go_enter Try.func19, Try.ntmps19
        go_wp2_with (first | (go_at_call 33; refine (rblock_any w2 (HCo.out.kpt (((Kept.alloc _ _ _ _ _).tr hk1).tr hk2)) HQ.out.1.1 HQ.out.1.2 HQ.out.2).mono ?_; rintro e w3 ⟨a3, c3, rfl, hc3, hk3⟩) | (go_at_call 24; refine (rman_any _ n c _ hn).mono ?_; rintro e w2 ⟨rfl, hk2⟩; have c2 := (((db_alloc w (some ⟨b, off, none⟩) n c 24).kept hk1).kept hk2).c0) | (go_at_call 22; refine (rchk_any _ n c _ hn).mono ?_; rw [HC.out]; rintro e w1 ⟨rfl, hk1⟩; have c1 := ((db_alloc w (some ⟨b, off, none⟩) n c 24).kept hk1).c0))
        go_ret2
        exact ⟨a3, c3, rfl, hc3, (((Kept.alloc _ _ _ _ _).tr hk1).tr hk2).tr hk3⟩
  · have e1 : brE n i = 180 := by unfold brE; rw [if_neg (by rw [h]; decide)]
    have e2 : brL L i = [] := by unfold brL; rw [hs, e1]; rfl
    rw [e1, e2]
    have HC := Hid.mk' h
    clear h hC hs e1 e2
    go_enter Try.func19, Try.ntmps19
    go_wp2_with (go_at_call 22; refine (rchk_any a n c _ hn).mono ?_; rw [HC.out]; rintro e w1 ⟨rfl, hk1⟩)
    go_ret2
    exact ⟨none, 0, rfl, Hid.mk' (Dv.none w _).come, (Kept.alloc _ _ _ _ _).tr hk1⟩

/-! ### put -/
theorem wrD_step {L B : List Nat} {z k : Nat} (h : 64 * z + 64 ≤ L.length) (hB : B.length = 64) (hk : k < 64) : (wrD L B z k).set (z * 64 + k) (B.getD k 0) = wrD L B z (k + 1) := by
  refine ext_getD (by rw [List.length_set, wrD_len h hB (by omega), wrD_len h hB (by omega)]) (fun j hj => ?_)
  rw [List.length_set, wrD_len h hB (by omega)] at hj
  rw [wrD_get h hB (by omega)]
  by_cases e : j = z * 64 + k
  · subst e
    rw [if_pos (by omega)]
    simp only [List.getD_eq_getElem?_getD]
    rw [List.getElem?_set_self (by rw [wrD_len h hB (by omega)]; omega), show z * 64 + k - 64 * z = k by omega]
    rfl
  · have e2 : ((wrD L B z k).set (z * 64 + k) (B.getD k 0)).getD j 0 = (wrD L B z k).getD j 0 := by
      simp only [List.getD_eq_getElem?_getD]
      rw [List.getElem?_set_ne (fun q => e q.symm)]
    rw [e2, wrD_get h hB (by omega)]
    by_cases q : 64 * z ≤ j ∧ j < 64 * z + k
    · rw [if_pos q, if_pos (by omega)]
    · rw [if_neg q, if_neg (by omega)]
structure Pq (w wr : World) (g c B n : Nat) (D : List Nat) : Prop where
  kept : Kept w wr none
  row : RowC wr g c D
  bo : Db wr B (some ⟨g, 0, none⟩) n c
  br : Db wr (w.heap.size + 1) none 0 0
theorem Kept.setRow {a w : World} {g : Nat} (h : Kept a w (some g)) (i : Nat) (v : Value) : Kept a (w.setCell ⟨g, i, none⟩ v) (some g) :=
  ⟨h.os, h.tape, h.output, by simpa [World.setCell] using h.size, fun k hk hr => by
    have hne : g ≠ k := fun e => hr (by rw [e])
    rw [← h.block k hk hr]
    simp only [World.setCell]
    rw [Array.getElem?_modify, if_neg hne]⟩
set_option maxHeartbeats 1000000 in
theorem rput_any {a : Option Addr} {n c : Nat} {L : List Nat} {b : Option Addr} {d : Nat} {B : List Nat} (z t : Nat) (w : World) (hC : Come w a n c L) (hB : Come w b 64 d B) (hn : n ≤ 4096) (hz : 64 * z + 64 ≤ n) (ht : t ≤ 64) : Calls Try.prog 35 #[dvV a n c, .int .i64 (z : Int), .slice b 64 d, .int .i64 (t : Int)] w fun e w' => ∃ a' c', e = .returned (dvV a' n c') ∧ Rv w w' a' n c' (wrD L B z t) ∧ Kept w w' none := by
  have hk0 : Kept w ((w.alloc (.cells (dvC a n c) 24)).alloc (.cells (dvC none 0 0) 24)) none := (Kept.alloc _ _ _ _ _).tr (Kept.alloc _ _ _ _ _)
  have hR := (db_alloc (w.alloc (.cells (dvC a n c) 24)) none 0 0 24)
  simp only [World.size_alloc] at hR
  have HTw := Hid.mk' (rtwin_any ((w.alloc (.cells (dvC a n c) 24)).alloc (.cells (dvC none 0 0) 24)) (hC.kpt hk0) (show n ≤ 10000 by omega))
  have HR := Hid.mk' hR
  have HK := Hid.mk' hk0
  have HL := Hid.mk' hC.by_.size
  have HLt := Hid.mk' hC.by_.lt
  have HBl := Hid.mk' hB.by_.size
  have HBt := Hid.mk' hB.by_.lt
  obtain ⟨gb, offb, rfl, hgb, hcb⟩ := hB.by_.at_ (by omega)
  have HCB := Hid.mk' hcb
  have hdm := hB.max
  clear hC hB hk0 hR hcb
  go_enter Try.func35, Try.ntmps35
  go_wp2_with (go_at_call 17; refine HTw.out.mono ?_; rintro e w2 ⟨a', c', rfl, hv, hk2⟩)
  obtain ⟨g, rfl, hg, hrow⟩ : ∃ g, a' = some ⟨g, 0, none⟩ ∧ w.heap.size + 2 ≤ g ∧ RowC w2 g c' L := by
    rcases hv.at_ with ⟨_, e, _⟩ | ⟨g, e, hg, hr⟩
    · omega
    · exact ⟨g, e, by simpa using hg, hr⟩
  have hc1 := hv.room
  have hc2 := hv.max
  obtain ⟨W2, HW2⟩ : ∃ W2, Hid (W2 = w2.alloc (.cells (dvC (some ⟨g, 0, none⟩) n c') 24)) := ⟨_, Hid.mk' rfl⟩
  have hkC : Kept w2 W2 none := by rw [HW2.out]; exact Kept.alloc _ _ _ _ _
  have hLC : Pq w W2 g c' w2.heap.size n (wrD L B z 0) := ⟨(HK.out.tr hk2).tr hkC, by rw [wrD_none]; exact hrow.kept hkC (by simp), by rw [HW2.out]; exact db_alloc _ _ _ _ _, (HR.out.kept hk2).kept hkC⟩
  rw [← HW2.out]
  have hgl := hrow.lt
  clear hkC hrow hv hk2 HW2
  generalize w2.heap.size = bo at hLC hgl ⊢
  go_loopw [10] (fun i wr => ∃ k : Nat, k ≤ t ∧ i = .int .i64 k ∧ Hid (Pq w wr g c' bo n (wrD L B z k))) (fun i _ => t - (intOf i).toNat)
  case atStart => exact ⟨0, Nat.zero_le _, rfl, Hid.mk' hLC⟩
  case round =>
    obtain ⟨k, hk, rfl, hP⟩ := hrel
    by_cases hlt : k < t
    · have HRC := Hid.mk' hP.out.row
      have HWl : Hid ((wrD L B z k).length = n) := Hid.mk' (by rw [wrD_len (by rw [HL.out]; exact hz) HBl.out (by omega), HL.out])
      have HStep : Hid ((wrD L B z k).set (z * 64 + k) (B.getD k 0) = wrD L B z (k + 1)) := Hid.mk' (wrD_step (by rw [HL.out]; exact hz) HBl.out (by omega))
      have hbox : ∀ w', Kept wr w' (some g) → w'.cell? ⟨bo, 0, none⟩ = some (.slice (some ⟨g, 0, none⟩) n c') := fun w' hq => (hP.out.bo.row hq (by omega)).c0
      have hcel : ∀ w', Kept wr w' (some g) → w'.cell? ⟨gb, offb + k, none⟩ = some (.int .u8 ((B.getD k 0 : Nat) : Int)) := fun w' hq => (World.cell?_of_block (w := wr) (a := ⟨gb, offb + k, none⟩) (hq.block gb (by have := hP.out.kept.size; omega) (fun e => by have := Option.some.inj e; omega))).trans ((cell_kpt hP.out.kept hgb).trans (HCB.out k (by omega)))
      have hw1 : IntKind.i64.wrap ((z : Int) * 64) = (z : Int) * 64 := wr_i (by omega) (by omega)
      have hw2 : IntKind.i64.wrap ((z : Int) * 64 + k) = (z : Int) * 64 + k := wr_i (by omega) (by omega)
      have hx0 : (0 : Int) ≤ (z : Int) * 64 + k := by omega
      have hx1 : (z : Int) * 64 + k < n := by omega
      have hx2 : ((z : Int) * 64 + k).toNat = z * 64 + k := by omega
      have hk64 : (k : Int) < 64 := by omega
      go_wp2
      refine Code.wp_mono (Q := Rbq ?A1 (fun w' => RowC w' g c' (wrD L B z (k + 1)) ∧ Kept wr w' (some g))) ?cont1 ?reg1
      case reg1 =>
        repeat (rename_i hh; clear hh)
        refine wp_region_held_drew (S := fun w' => Kept wr w' (some g)) (by kernel_rfl) (kept_drw _ _) (fun hHeld => ?_)
        refine hold_take (i := 0) (v := ?rv1) rfl rfl (by kernel_rfl) (by kernel_rfl) (by kernel_rfl) (fun _ _ _ h => h) (Or.inl ⟨by rfl, ?rhy1⟩) hHeld ?rrest1
        case rhy1 => first | (intro w hSw; (try dsimp only at hSw); go_simp; done) | (intro w hSw; (try dsimp only at hSw); go_simp; with_reducible rfl)
        try simp only [List.setIfInBounds_toArray, List.set_cons_zero, List.set_cons_succ]
        refine hold_take (i := 1) (v := ?rv2) rfl rfl (by kernel_rfl) (by kernel_rfl) (by kernel_rfl) (fun _ _ _ h => h) (Or.inl ⟨by rfl, ?rhy2⟩) hHeld ?rrest2
        case rhy2 => first | (intro w hSw; (try dsimp only at hSw); go_simp; done) | (intro w hSw; (try dsimp only at hSw); go_simp; with_reducible rfl)
        try simp only [List.setIfInBounds_toArray, List.set_cons_zero, List.set_cons_succ]
        refine hold_take (i := 2) (v := ?rv3) rfl rfl (by kernel_rfl) (by kernel_rfl) (by kernel_rfl) (fun _ _ _ h => h) (Or.inl ⟨by rfl, ?rhy3⟩) hHeld ?rrest3
        case rhy3 => first | (intro w hSw; (try dsimp only at hSw); go_simp; done) | (intro w hSw; (try dsimp only at hSw); go_simp; with_reducible rfl)
        try simp only [List.setIfInBounds_toArray, List.set_cons_zero, List.set_cons_succ]
        refine hold_take (i := 3) (v := ?rv4) rfl rfl (by kernel_rfl) (by kernel_rfl) (by kernel_rfl) (fun _ _ _ h => h) (Or.inl ⟨by rfl, ?rhy4⟩) hHeld ?rrest4
        case rhy4 => first | (intro w hSw; (try dsimp only at hSw); go_simp; done) | (intro w hSw; (try dsimp only at hSw); go_simp; with_reducible rfl)
        try simp only [List.setIfInBounds_toArray, List.set_cons_zero, List.set_cons_succ]
        refine hold_take (i := 4) (v := ?rv5) rfl rfl (by kernel_rfl) (by kernel_rfl) (by kernel_rfl) (fun _ _ _ h => h) (Or.inl ⟨by rfl, ?rhy5⟩) hHeld ?rrest5
        case rhy5 => first | (intro w hSw; (try dsimp only at hSw); go_simp; done) | (intro w hSw; (try dsimp only at hSw); go_simp; with_reducible rfl)
        try simp only [List.setIfInBounds_toArray, List.set_cons_zero, List.set_cons_succ]
        refine hold_take (i := 5) (v := ?rv6) rfl rfl (by kernel_rfl) (by kernel_rfl) (by kernel_rfl) (fun _ _ _ h => h) (Or.inl ⟨by rfl, ?rhy6⟩) hHeld ?rrest6
        case rhy6 => first | (intro w hSw; (try dsimp only at hSw); go_simp; done) | (intro w hSw; (try dsimp only at hSw); go_simp; with_reducible rfl)
        try simp only [List.setIfInBounds_toArray, List.set_cons_zero, List.set_cons_succ]
        refine hold_take (i := 6) (v := ?rv7) rfl rfl (by kernel_rfl) (by kernel_rfl) (by kernel_rfl) (fun _ _ _ h => h) (Or.inl ⟨by rfl, ?rhy7⟩) hHeld ?rrest7
        case rhy7 => first | (intro w hSw; (try dsimp only at hSw); go_simp; done) | (intro w hSw; (try dsimp only at hSw); go_simp; with_reducible rfl)
        try simp only [List.setIfInBounds_toArray, List.set_cons_zero, List.set_cons_succ]
        refine hold_take (i := 7) (v := ?rv8) rfl rfl (by kernel_rfl) (by kernel_rfl) (by kernel_rfl) (fun _ _ _ h => h) (Or.inl ⟨by rfl, ?rhy8⟩) hHeld ?rrest8
        case rhy8 => first | (intro w hSw; (try dsimp only at hSw); go_simp; done) | (intro w hSw; (try dsimp only at hSw); go_simp; with_reducible rfl)
        try simp only [List.setIfInBounds_toArray, List.set_cons_zero, List.set_cons_succ]
        refine hold_take (i := 8) (v := ?rv9) rfl rfl (by kernel_rfl) (by kernel_rfl) (by kernel_rfl) (fun _ _ _ h => h) (Or.inl ⟨by rfl, ?rhy9⟩) hHeld ?rrest9
        case rhy9 => first | (intro w hSw; (try dsimp only at hSw); go_simp; done) | (intro w hSw; (try dsimp only at hSw); go_simp; with_reducible rfl)
        try simp only [List.setIfInBounds_toArray, List.set_cons_zero, List.set_cons_succ]
        refine hold_take (i := 9) (v := ?rv10) rfl rfl (by kernel_rfl) (by kernel_rfl) (by kernel_rfl) (fun _ _ _ h => h) (Or.inl ⟨by rfl, ?rhy10⟩) hHeld ?rrest10
        case rhy10 => first | (intro w hSw; (try dsimp only at hSw); go_simp; done) | (intro w hSw; (try dsimp only at hSw); go_simp; with_reducible rfl)
        try simp only [List.setIfInBounds_toArray, List.set_cons_zero, List.set_cons_succ]
        refine hold_take (i := 10) (v := ?rv11) rfl rfl (by kernel_rfl) (by kernel_rfl) (by kernel_rfl) (fun _ _ _ h => h) (Or.inl ⟨by rfl, ?rhy11⟩) hHeld ?rrest11
        case rhy11 => first | (intro w hSw; (try dsimp only at hSw); go_simp; done) | (intro w hSw; (try dsimp only at hSw); go_simp; with_reducible rfl)
        try simp only [List.setIfInBounds_toArray, List.set_cons_zero, List.set_cons_succ]
        refine wpAnyH_ready (rs := [11]) (by kernel_rfl) (by simp) ?_
        refine (AllReadyH.cons rfl (fun K hK => ?rz12x11) AllReadyH.nil)
        case rz12x11 =>
          have d0 := (HRC.out.kept (r := none) (kept_drw wr none) (by simp)).cell (i := z * 64 + k) (by rw [HWl.out]; omega)
          have e0 := (HRC.out.kept (r := none) (kept_drw wr none) (by simp)).frozen (z * 64 + k)
          go_simp
          have hnew : Kept wr _ (some g) := hHeld.tr (Kept.setRow (Kept.refl wr.drew (some g)) (z * 64 + k) (byteV (B.getD k 0)))
          have hfin := (HRC.out.kept (r := none) (kept_drw wr none) (by simp)).set (i := z * 64 + k) (by rw [HWl.out]; omega) (B.getD k 0)
          rw [HStep.out] at hfin
          refine hK.out _ _ hnew (fun hHeld => ?_)
          clear hK K hnew
          refine wpAnyH_done (by kernel_rfl) ?_ _
          refine And.intro ?_ ⟨hfin, hHeld⟩
          with_reducible rfl
      case cont1 =>
      intro e a' w5 hq
      obtain ⟨rfl, rfl, hr5, hk5⟩ := hq.out
      have HP5 : Hid (Pq w w5 g c' bo n (wrD L B z (k + 1))) := Hid.mk' ⟨hP.out.kept.newRow hk5 (fun i e => by cases e; omega), hr5, hP.out.bo.row hk5 (by omega), hP.out.br.row hk5 (by omega)⟩
      clear hr5 hk5
      go_wp2
      go_roundw
      case rel => exact ⟨k + 1, by omega, by go_num, HP5⟩
      case measure => simp [intOf]; omega
    · have hkt : k = t := by omega
      subst hkt
      have c0 := hP.out.bo.c0
      have c1 := hP.out.bo.lt
      have d0 := hP.out.br.c0
      have d1 := hP.out.br.f0
      have d2 := hP.out.br.lt
      go_wp2
      refine bodyPost_ret (v := dvV (some ⟨g, 0, none⟩) n c') (by simp [results, Try.results35, go_sem, *]; done) rfl ⟨some ⟨g, 0, none⟩, c', rfl, ?_, ?_⟩
      · refine ⟨by rw [wrD_len (by rw [HL.out]; exact hz) HBl.out (by omega), HL.out], hc1, hc2, wrD_lt HLt.out HBt.out _ _, .inr ⟨g, rfl, by omega, hP.out.row.far (b := w.heap.size + 1) (by omega) 0 _⟩⟩
      · exact hP.out.kept.setNew (p := ⟨w.heap.size + 1, 0, none⟩) (show w.heap.size ≤ w.heap.size + 1 by omega) _

/-! ### Write -/
theorem one_doE (n : Nat) (i : Int) (B : List Nat) : doE n [⟨i, B⟩] 1 0 = if chkE n = 0 then asE n i B.length else 180 := by
  unfold doE cwE wrE asE
  by_cases h : chkE n = 0
  · rw [if_pos h, if_pos h]
    by_cases h1 : hasV n i = true
    · rw [if_pos h1, if_pos h1]
      by_cases h2 : B.length = 64
      · rw [if_pos h2, if_pos h2]
        simp [wrE]
      · rw [if_neg h2, if_neg h2]
        rw [if_neg (by decide)]
    · rw [if_neg h1, if_neg h1]
      rw [if_neg (by decide)]
  · rw [if_neg h, if_neg h, if_neg (by decide)]
/-- What is answered: a device, or none, with its error. -/
abbrev DcP (w w' : World) (e : Ending) (E : Int) (M : List Nat) : Prop := ∃ a2 c2, e = dvR a2 M.length c2 E ∧ Hid (Come w' a2 M.length c2 M) ∧ Kept w w' none
theorem rwr_bad {a : Option Addr} {n c : Nat} {L : List Nat} {b : Option Addr} {q d : Nat} {B : List Nat} (i : Int) (w : World) (hC : Come w a n c L) (hB : Come w b q d B) (h : chkE n = 180) : Calls Try.prog 20 #[dvV a n c, .int .i64 i, .slice b q d] w fun e w' => e = dvR none 0 0 180 ∧ Kept w w' none := by
  have HC := Hid.mk' hC
  have HB := Hid.mk' hB
  have hn := hC.by_.max
  have hq := hB.by_.max
  clear hC hB
  have HCh := Hid.mk' h
  clear h
  go_enter Try.func20, Try.ntmps20
  go_wp2_with ((go_at_call 22; refine (rchk_any a n c _ hn).mono ?_; rw [HCh.out]; rintro e w1 ⟨rfl, hk1⟩; have hkA : Kept w w1 none := ((Kept.alloc _ _ _ _ _).tr (Kept.alloc _ _ _ _ _)).tr hk1; have hRr := (db_alloc (w.alloc (.cells (dvC a n c) 24)) none 0 0 24).kept hk1; simp only [World.size_alloc] at hRr; have hIr := (((db_alloc w a n c 24).kept (Kept.alloc _ (dvC none 0 0) 24 (0, 0) none)).kept hk1); have c1 := hIr.c0; have r0 := hRr.c0; have r1 := hRr.f0; have r2 := hRr.lt; have HRr := Hid.mk' hRr; have HIr := Hid.mk' hIr; clear hRr hIr))
  refine bodyPost_ret (v := .tuple #[dvV _ _ _, .int .i64 _]) (by simp [results, Try.results20, go_sem, *]; done) rfl ⟨rfl, ?_⟩
  exact hkA.setNew (p := ⟨w.heap.size + 1, 0, none⟩) (show w.heap.size ≤ w.heap.size + 1 by omega) _
theorem rwr_no {a : Option Addr} {n c : Nat} {L : List Nat} {b : Option Addr} {q d : Nat} {B : List Nat} (i : Int) (w : World) (hC : Come w a n c L) (hB : Come w b q d B) (h : chkE n = 0) {E : Int} (hE : asE n i q = E) (h0 : ¬ E = 0) : Calls Try.prog 20 #[dvV a n c, .int .i64 i, .slice b q d] w fun e w' => e = dvR none 0 0 E ∧ Kept w w' none := by
  have HC := Hid.mk' hC
  have HB := Hid.mk' hB
  have hn := hC.by_.max
  have hq := hB.by_.max
  clear hC hB
  have HCh := Hid.mk' h
  have HAs := Hid.mk' hE
  clear h hE
  go_enter Try.func20, Try.ntmps20
  go_wp2_with (first | (go_at_call 34; refine (rasked_any a n c i b q d _ hn hq).mono ?_; rw [HAs.out]; rintro e w2 ⟨rfl, hk2⟩; have hkB := hkA.tr hk2; have HR2 := Hid.mk' (HRr.out.kept hk2); have HI2 := Hid.mk' (HIr.out.kept hk2); have c2 := HI2.out.c0; have s0 := HR2.out.c0; have s1 := HR2.out.f0; have s2 := HR2.out.lt; clear c1 r0 r1 r2) | (go_at_call 22; refine (rchk_any a n c _ hn).mono ?_; rw [HCh.out]; rintro e w1 ⟨rfl, hk1⟩; have hkA : Kept w w1 none := ((Kept.alloc _ _ _ _ _).tr (Kept.alloc _ _ _ _ _)).tr hk1; have hRr := (db_alloc (w.alloc (.cells (dvC a n c) 24)) none 0 0 24).kept hk1; simp only [World.size_alloc] at hRr; have hIr := (((db_alloc w a n c 24).kept (Kept.alloc _ (dvC none 0 0) 24 (0, 0) none)).kept hk1); have c1 := hIr.c0; have r0 := hRr.c0; have r1 := hRr.f0; have r2 := hRr.lt; have HRr := Hid.mk' hRr; have HIr := Hid.mk' hIr; clear hRr hIr))
  refine bodyPost_ret (v := .tuple #[dvV _ _ _, .int .i64 _]) (by simp [results, Try.results20, go_sem, *]; done) rfl ⟨rfl, ?_⟩
  exact hkB.setNew (p := ⟨w.heap.size + 1, 0, none⟩) (show w.heap.size ≤ w.heap.size + 1 by omega) _
theorem rwr_yes {a : Option Addr} {n c : Nat} {L : List Nat} {b : Option Addr} {q d : Nat} {B : List Nat} (i : Int) (w : World) (hC : Come w a n c L) (hB : Come w b q d B) (h : chkE n = 0) (hE : asE n i q = 0) (hq64 : q = 64) (z : Nat) (hz : i = (z : Int)) (hzn : 64 * z + 64 ≤ n) (hn4 : n ≤ 4096) : Calls Try.prog 20 #[dvV a n c, .int .i64 i, .slice b q d] w fun e w' => ∃ a' c', e = dvR a' n c' 0 ∧ Hid (Come w' a' n c' (wrD L B z 64)) ∧ Kept w w' none := by
  have HC := Hid.mk' hC
  have HB := Hid.mk' hB
  have hn := hC.by_.max
  have hq := hB.by_.max
  clear hC hB
  have HCh := Hid.mk' h
  have HAs := Hid.mk' hE
  subst hq64
  subst hz
  have HZ := Hid.mk' hzn
  have HN4 := Hid.mk' hn4
  clear h hE hzn hn4
  go_enter Try.func20, Try.ntmps20
  go_wp2_with (first | (go_at_call 35; refine (rput_any z 64 w2 (HC.out.kpt hkB) (HB.out.kpt hkB) HN4.out HZ.out (Nat.le_refl _)).mono ?_; rintro e w3 ⟨a3, c3, rfl, hv3, hk3⟩; have HV3 := Hid.mk' hv3; have HK3 := Hid.mk' (hkB.tr hk3); have HR3 := Hid.mk' (HR2.out.kept hk3); have t0 := HR3.out.c0; have t1 := HR3.out.f0; have t2 := HR3.out.lt; clear hv3 c2 s0 s1) | (go_at_call 34; refine (rasked_any a n c _ b _ d _ hn hq).mono ?_; rw [HAs.out]; rintro e w2 ⟨rfl, hk2⟩; have hkB := hkA.tr hk2; have HR2 := Hid.mk' (HRr.out.kept hk2); have HI2 := Hid.mk' (HIr.out.kept hk2); have c2 := HI2.out.c0; have s0 := HR2.out.c0; have s1 := HR2.out.f0; have s2 := HR2.out.lt; clear c1 r0 r1 r2) | (go_at_call 22; refine (rchk_any a n c _ hn).mono ?_; rw [HCh.out]; rintro e w1 ⟨rfl, hk1⟩; have hkA : Kept w w1 none := ((Kept.alloc _ _ _ _ _).tr (Kept.alloc _ _ _ _ _)).tr hk1; have hRr := (db_alloc (w.alloc (.cells (dvC a n c) 24)) none 0 0 24).kept hk1; simp only [World.size_alloc] at hRr; have hIr := (((db_alloc w a n c 24).kept (Kept.alloc _ (dvC none 0 0) 24 (0, 0) none)).kept hk1); have c1 := hIr.c0; have r0 := hRr.c0; have r1 := hRr.f0; have r2 := hRr.lt; have HRr := Hid.mk' hRr; have HIr := Hid.mk' hIr; clear hRr hIr))
  refine bodyPost_ret (v := .tuple #[dvV a3 n c3, .int .i64 0]) (by simp [results, Try.results20, go_sem, *]; done) rfl ⟨a3, c3, rfl, ?_, ?_⟩
  · exact Hid.mk' ((HV3.out.far (b := w.heap.size + 1) s2 0 _).come)
  · exact HK3.out.setNew (p := ⟨w.heap.size + 1, 0, none⟩) (show w.heap.size ≤ w.heap.size + 1 by omega) _
theorem rwrite_any {a : Option Addr} {n c : Nat} {L : List Nat} {b : Option Addr} {q d : Nat} {B : List Nat} (i : Int) (w : World) (hC : Come w a n c L) (hB : Come w b q d B) : Calls Try.prog 20 #[dvV a n c, .int .i64 i, .slice b q d] w fun e w' => DcP w w' e (doE n [⟨i, B⟩] 1 0) (doL L [⟨i, B⟩] 1 0) := by
  have hl := hC.by_.size
  have hlB := hB.by_.size
  have ho := one_doE n i B
  rw [hlB] at ho
  rcases chk_cases n with ⟨h, g1, g2, g3⟩ | h
  · rw [if_pos h] at ho
    by_cases h0 : asE n i q = 0
    · rw [h0] at ho
      have hh : hasV n i = true := by
        unfold asE at h0
        by_cases x : hasV n i = true
        · exact x
        · rw [if_neg x] at h0; exact absurd h0 (by decide)
      have hq : q = 64 := by
        unfold asE at h0
        rw [if_pos hh] at h0
        by_cases x : q = 64
        · exact x
        · rw [if_neg x] at h0; exact absurd h0 (by decide)
      obtain ⟨q1, q2⟩ := (has_iff g1).1 hh
      obtain ⟨z, hz⟩ := Int.eq_ofNat_of_zero_le q1
      have y := doL_yes hl ho
      have e1 : doL L [⟨i, B⟩] 1 0 = wrD L B z 64 := by rw [y.1, hz]; rfl
      refine (rwr_yes i w hC hB h h0 hq z hz (by omega) g3).mono ?_
      rintro e w' ⟨a', c', rfl, hc, hk⟩
      have e2 := y.2
      rw [e1] at e2
      rw [ho, e1]
      exact ⟨a', c', by rw [e2], by rw [e2]; exact hc, hk⟩
    · refine (rwr_no i w hC hB h rfl h0).mono ?_
      rintro e w' ⟨rfl, hk⟩
      have hne : ¬ doE n [⟨i, B⟩] 1 0 = 0 := by rw [ho]; exact h0
      rw [doL_no hl hne, ho]
      exact ⟨none, 0, rfl, Hid.mk' (Dv.none w _).come, hk⟩
  · rw [if_neg (by rw [h]; decide)] at ho
    refine (rwr_bad i w hC hB h).mono ?_
    rintro e w' ⟨rfl, hk⟩
    have hne : ¬ doE n [⟨i, B⟩] 1 0 = 0 := by rw [ho]; decide
    rw [doL_no hl hne, ho]
    exact ⟨none, 0, rfl, Hid.mk' (Dv.none w _).come, hk⟩

end Go.Proofs.Ytpfbdandhdapcaa
