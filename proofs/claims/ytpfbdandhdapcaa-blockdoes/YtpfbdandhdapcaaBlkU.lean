/-
  THE DOCUMENT'S OWN Do, where it goes (made by a program).
-/
import Derived.Test.YtpfbdandhdapcaaBlkT
namespace Go.Proofs.Ytpfbdandhdapcaa
open Go.RowKit Go.Lib Go.Deep
set_option linter.unusedVariables false
set_option linter.unusedSimpArgs false

structure Ddq (w wr w' : World) (n bo : Nat) (M : List Nat) (o : Option Addr) (c : Nat) : Prop where
  kept : Kept wr w' (some bo)
  come : Come w' o n c M
  bx : Db w' bo o n c
  ne : ∀ x, o = some x → w.heap.size + 2 ≤ x.block
set_option maxRecDepth 100000 in
set_option maxHeartbeats 2000000 in
theorem rdo_mid {a : Option Addr} {n c : Nat} {L : List Nat} {la : Option Addr} {m : Nat} (lc : Nat) {l : List Pw} (wh to : Nat) (w : World) (hC : Come w a n c L) (hP : Plw w la m l) (hF : cwE n l = 0) (b2 : wh < m) (b4 : to ≤ 64) : Calls Try.prog 21 #[dvV a n c, .slice la m lc, .int .i64 wh, .int .i64 to] w fun e w' => ∃ a' c', e = dvR a' n c' 0 ∧ Hid (Come w' a' n c' (doD l wh to L)) ∧ Kept w w' none := by
  have HC := Hid.mk' hC
  have HP := Hid.mk' hP
  have hn := hC.by_.max
  have hm := hP.max
  have HS := Hid.mk' hP.size
  clear hC hP
  have HF := Hid.mk' hF
  have HCh : Hid (chkE n = 0) := Hid.mk' (by have := Ek_zero n l; rw [Ek_ok hF 0] at this; exact this.symm)
  clear hF
  have b1 : ¬ (wh : Int) < 0 := by omega
  have b2' : ¬ (m : Int) < wh := by omega
  have b3 : ¬ (to : Int) < 0 := by omega
  have b4' : ¬ (64 : Int) < to := by omega
  have hq9 : (n % 64 = 0 ∧ 64 ≤ n ∧ n ≤ 4096) ∧ wrE n l = 0 := by
    have z := HF.out
    unfold cwE at z
    rw [if_pos HCh.out] at z
    refine ⟨?_, z⟩
    rcases chk_cases n with ⟨_, x⟩ | x
    · exact x
    · rw [HCh.out] at x; exact absurd x (by decide)
  have HOK := Hid.mk' (wr_ok hq9.1.1 hq9.2)
  have hn4 : n ≤ 4096 := hq9.1.2.2
  clear hq9
  go_enter Try.func21, Try.ntmps21
  go_wp2_with (go_at_call 22; refine (rchk_any a n c _ hn).mono ?_; (try rw [HCh.out]); rintro e w1 ⟨rfl, hk1⟩; have hkA : Kept w w1 none := ((Kept.alloc _ _ _ _ _).tr (Kept.alloc _ _ _ _ _)).tr hk1; have hRr := (db_alloc (w.alloc (.cells (dvC a n c) 24)) none 0 0 24).kept hk1; simp only [World.size_alloc] at hRr; have hIr := (((db_alloc w a n c 24).kept (Kept.alloc _ (dvC none 0 0) 24 (0, 0) none)).kept hk1); have HRr := Hid.mk' hRr; have HIr := Hid.mk' hIr; have HKA := Hid.mk' hkA; clear hRr hIr hk1 hkA)
  go_loopw [10, 11] (fun e i wr => ∃ k : Nat, k ≤ m ∧ i = .int .i64 k ∧ e = .int .i64 0 ∧ Hid (Kept w1 wr none)) (fun _ i _ => m - (intOf i).toNat)
  case atStart => exact ⟨0, Nat.zero_le _, rfl, rfl, Hid.mk' (Kept.refl _ _)⟩
  case round =>
    obtain ⟨k, hk, rfl, rfl, hkr⟩ := hrel
    by_cases hlt : k < m
    · have hE0 := Hid.mk' (Ek_ok HF.out k)
      obtain ⟨b, off, rfl, _⟩ := HP.out.at_ (by omega)
      have hkl : k < l.length := by rw [HS.out]; exact hlt
      obtain ⟨ak, ck, hn0, hn1, hcm⟩ := (HP.out.kept (HKA.out.tr hkr.out)).get hkl
      have hqm := hcm.out.by_.max
      have hEn := Ek_next hkl hE0.out
      have hbx : ∀ w', Kept wr w' none → w'.cell? ⟨w.heap.size, 0, none⟩ = some (.slice a n c) := fun w' hq => ((HIr.out.kept hkr.out).kept hq).c0
      clear hcm
      generalize l[k].n = z at *
      generalize l[k].data.length = q at *
      clear hkl
      have HEn := Hid.mk' hEn
      clear hEn
      obtain ⟨E2, hE2⟩ : ∃ E2, asE n z q = E2 := ⟨_, rfl⟩
      have HAS := Hid.mk' (fun w' => hE2 ▸ rasked_any a n c z ak q ck w' hn hqm)
      rw [hE2] at HEn
      clear hE2
      have hkm : (k : Int) < m := by omega
      go_wp2
      refine Code.wp_mono (Q := Rbq ?A1 (fun w' => Kept wr w' none)) ?cont1 ?reg1
      case reg1 =>
        repeat (rename_i hh; clear hh)
        refine wp_region_held_drew (S := fun w' => Kept wr w' none) (by kernel_rfl) (kept_drw _ _) (fun hHeld => ?_)
        refine hold_take (i := 0) (v := ?rv110) rfl rfl (by kernel_rfl) (by kernel_rfl) (by kernel_rfl) (fun _ _ _ h => h) (Or.inl ⟨by rfl, ?rhy110⟩) hHeld ?rrest110
        case rhy110 => first | (intro w hSw; (try dsimp only at hSw); go_simp; done) | (intro w hSw; (try dsimp only at hSw); go_simp; with_reducible rfl)
        try simp only [List.setIfInBounds_toArray, List.set_cons_zero, List.set_cons_succ]
        refine hold_take (i := 1) (v := ?rv111) rfl rfl (by kernel_rfl) (by kernel_rfl) (by kernel_rfl) (fun _ _ _ h => h) (Or.inl ⟨by rfl, ?rhy111⟩) hHeld ?rrest111
        case rhy111 => first | (intro w hSw; (try dsimp only at hSw); go_simp; done) | (intro w hSw; (try dsimp only at hSw); go_simp; with_reducible rfl)
        try simp only [List.setIfInBounds_toArray, List.set_cons_zero, List.set_cons_succ]
        refine hold_take (i := 2) (v := ?rv112) rfl rfl (by kernel_rfl) (by kernel_rfl) (by kernel_rfl) (fun _ _ _ h => h) (Or.inl ⟨by rfl, ?rhy112⟩) hHeld ?rrest112
        case rhy112 => first | (intro w hSw; (try dsimp only at hSw); go_simp; done) | (intro w hSw; (try dsimp only at hSw); go_simp; with_reducible rfl)
        try simp only [List.setIfInBounds_toArray, List.set_cons_zero, List.set_cons_succ]
        refine hold_take (i := 3) (v := ?rv113) rfl rfl (by kernel_rfl) (by kernel_rfl) (by kernel_rfl) (fun _ _ _ h => h) (Or.inl ⟨by rfl, ?rhy113⟩) hHeld ?rrest113
        case rhy113 => first | (intro w hSw; (try dsimp only at hSw); go_simp; done) | (intro w hSw; (try dsimp only at hSw); go_simp; with_reducible rfl)
        try simp only [List.setIfInBounds_toArray, List.set_cons_zero, List.set_cons_succ]
        refine hold_take (i := 4) (v := ?rv114) rfl rfl (by kernel_rfl) (by kernel_rfl) (by kernel_rfl) (fun _ _ _ h => h) (Or.inl ⟨by rfl, ?rhy114⟩) hHeld ?rrest114
        case rhy114 => first | (intro w hSw; (try dsimp only at hSw); go_simp; done) | (intro w hSw; (try dsimp only at hSw); go_simp; with_reducible rfl)
        try simp only [List.setIfInBounds_toArray, List.set_cons_zero, List.set_cons_succ]
        refine hold_take (i := 5) (v := ?rv115) rfl rfl (by kernel_rfl) (by kernel_rfl) (by kernel_rfl) (fun _ _ _ h => h) (Or.inl ⟨by rfl, ?rhy115⟩) hHeld ?rrest115
        case rhy115 => first | (intro w hSw; (try dsimp only at hSw); go_simp; done) | (intro w hSw; (try dsimp only at hSw); go_simp; with_reducible rfl)
        try simp only [List.setIfInBounds_toArray, List.set_cons_zero, List.set_cons_succ]
        refine hold_take (i := 6) (v := ?rv116) rfl rfl (by kernel_rfl) (by kernel_rfl) (by kernel_rfl) (fun _ _ _ h => h) (Or.inl ⟨by rfl, ?rhy116⟩) hHeld ?rrest116
        case rhy116 => first | (intro w hSw; (try dsimp only at hSw); go_simp; done) | (intro w hSw; (try dsimp only at hSw); go_simp; with_reducible rfl)
        try simp only [List.setIfInBounds_toArray, List.set_cons_zero, List.set_cons_succ]
        refine hold_take (i := 7) (v := ?rv117) rfl rfl (by kernel_rfl) (by kernel_rfl) (by kernel_rfl) (fun _ _ _ h => h) (Or.inl ⟨by rfl, ?rhy117⟩) hHeld ?rrest117
        case rhy117 => first | (intro w hSw; (try dsimp only at hSw); go_simp; done) | (intro w hSw; (try dsimp only at hSw); go_simp; with_reducible rfl)
        try simp only [List.setIfInBounds_toArray, List.set_cons_zero, List.set_cons_succ]
        refine hold_take (i := 8) (v := ?rv118) rfl rfl (by kernel_rfl) (by kernel_rfl) (by kernel_rfl) (fun _ _ _ h => h) (Or.inl ⟨by rfl, ?rhy118⟩) hHeld ?rrest118
        case rhy118 => first | (intro w hSw; (try dsimp only at hSw); go_simp; done) | (intro w hSw; (try dsimp only at hSw); go_simp; with_reducible rfl)
        try simp only [List.setIfInBounds_toArray, List.set_cons_zero, List.set_cons_succ]
        refine hold_take (i := 9) (v := ?rv119) rfl rfl (by kernel_rfl) (by kernel_rfl) (by kernel_rfl) (fun _ _ _ h => h) (Or.inl ⟨by rfl, ?rhy119⟩) hHeld ?rrest119
        case rhy119 => first | (intro w hSw; (try dsimp only at hSw); go_simp; done) | (intro w hSw; (try dsimp only at hSw); go_simp; with_reducible rfl)
        try simp only [List.setIfInBounds_toArray, List.set_cons_zero, List.set_cons_succ]
        refine hold_take (i := 10) (v := ?rv120) rfl rfl (by kernel_rfl) (by kernel_rfl) (by kernel_rfl) (fun _ _ _ h => h) (Or.inl ⟨by rfl, ?rhy120⟩) hHeld ?rrest120
        case rhy120 => first | (intro w hSw; (try dsimp only at hSw); go_simp; done) | (intro w hSw; (try dsimp only at hSw); go_simp; with_reducible rfl)
        try simp only [List.setIfInBounds_toArray, List.set_cons_zero, List.set_cons_succ]
        refine wpAnyH_ready (rs := [11]) (by kernel_rfl) (by simp) ?_
        refine (AllReadyH.cons rfl (fun K hK => ?rz121x11) AllReadyH.nil)
        case rz121x11 =>
          go_simp
          refine (HAS.out wr.drew).mono ?_
          rintro e wv122 ⟨rfl, hk⟩
          dsimp only
          have hnew := hHeld.tr hk
          refine hK.out _ _ hnew (fun hHeld => ?_)
          clear hK K hk hnew
          refine hold_take (i := 12) (v := ?rv123) rfl rfl (by kernel_rfl) (by kernel_rfl) (by kernel_rfl) (fun _ _ _ h => h) (Or.inl ⟨by rfl, ?rhy123⟩) hHeld ?rrest123
          case rhy123 => first | (intro w hSw; (try dsimp only at hSw); go_simp; done) | (intro w hSw; (try dsimp only at hSw); go_simp; with_reducible rfl)
          try simp only [List.setIfInBounds_toArray, List.set_cons_zero, List.set_cons_succ]
          refine wpAnyH_done (by kernel_rfl) ?_ _
          refine And.intro ?_ hHeld
          with_reducible rfl
      case cont1 =>
      intro e a' w5 hq
      obtain ⟨rfl, rfl, hk5⟩ := hq.out
      have e2 : E2 = 0 := by rw [HEn.out, Ek_ok HF.out]
      subst e2
      go_wp2
      go_roundw
      case rel => exact ⟨k + 1, by omega, by go_num, rfl, Hid.mk' (hkr.out.tr hk5)⟩
      case measure => simp [intOf]; omega
    · have hkm : k = m := by omega
      subst hkm
      have hrz := HRr.out.kept hkr.out
      have r0 := hrz.c0
      have r1 := hrz.f0
      have r2 := hrz.lt
      have HKr := Hid.mk' (HKA.out.tr hkr.out)
      have hI2 := (HIr.out.kept hkr.out).c0
      have HRz := Hid.mk' hrz
      have hlw := HRz.out.lt
      clear hrz r0 r1 r2
      go_wp2_with (go_at_call 17; refine (rtwin_any wr (HC.out.kpt HKr.out) (show n ≤ 10000 by omega)).mono ?_; rintro e w2 ⟨a', c', rfl, hv, hk2⟩)
      obtain ⟨W2, HW2⟩ : ∃ W2, Hid (W2 = w2.alloc (.cells (dvC a' n c') 24)) := ⟨_, Hid.mk' rfl⟩
      have hkC : Kept w2 W2 none := by rw [HW2.out]; exact Kept.alloc _ _ _ _ _
      have hdb0 : Hid (Db W2 w2.heap.size a' n c') := Hid.mk' (by rw [HW2.out]; exact db_alloc _ _ _ _ _)
      have hkw0 := Hid.mk' ((HKr.out.tr hk2).tr hkC)
      have hcd0 : Hid (Come W2 a' n c' (doD l 0 0 L)) := Hid.mk' (by rw [show doD l 0 0 L = L by cases l with | nil => rfl | cons p l => exact wrD_none _ _ _]; exact hv.come.kpt hkC)
      have hrb0 := Hid.mk' ((HRz.out.kept hk2).kept hkC)
      have hne0 : Hid (∀ x, a' = some x → w.heap.size + 2 ≤ x.block) := Hid.mk' (fun x hx => by
        rcases hv.at_ with ⟨e, _⟩ | ⟨g, e, hg, _⟩
        · rw [e] at hx; cases hx
        · rw [e] at hx
          injection hx with hx
          subst hx
          have := HRz.out.lt
          show w.heap.size + 2 ≤ g
          omega)
      have HBO : Hid (w.heap.size + 2 ≤ w2.heap.size) := Hid.mk' (by have := hk2.size; omega)
      rw [← HW2.out]
      generalize w2.heap.size = bo at hdb0 HBO ⊢
      clear HW2 hkC hk2 hv hI2 hlw hkr hlt hk HRz
      obtain ⟨wo, hwo⟩ : ∃ wo, wo = wr := ⟨_, rfl⟩
      subst hwo
      go_loopw [13] (fun i wr => ∃ j : Nat, j ≤ wh ∧ i = .int .i64 j ∧ ∃ a3 c3, Hid (Kept w wr none) ∧ Hid (Db wr bo a3 n c3) ∧ Hid (Come wr a3 n c3 (doD l j 0 L)) ∧ Hid (Db wr (w.heap.size + 1) none 0 0) ∧ Hid (∀ x, a3 = some x → w.heap.size + 2 ≤ x.block)) (fun i _ => wh - (intOf i).toNat)
      case atStart => exact ⟨0, Nat.zero_le _, rfl, a', c', hkw0, hdb0, hcd0, hrb0, hne0⟩
      case round =>
        clear hkw0 hdb0 hcd0 hrb0 hne0
        obtain ⟨j, hj, rfl, a3, c3, hkw, hdb, hcd, hrb, hne⟩ := hrel
        by_cases hjw : j < wh
        · have hjm : (j : Int) < wh := by omega
          have hjk : (j : Int) < k := by omega
          obtain ⟨b, off, rfl, _⟩ := HP.out.at_ (by omega)
          have hjl : j < l.length := by rw [HS.out]; omega
          obtain ⟨ak, ck, hb, hp0, hp1, hcm⟩ := HP.out.at2 hjl
          obtain ⟨r1, r2, r3⟩ := HOK.out l[j] (List.getElem_mem hjl)
          have hdn := doD_next l j L hjl
          generalize l[j].n = zz at *
          generalize l[j].data = dd at *
          clear hjl
          obtain ⟨z, rfl⟩ := Int.eq_ofNat_of_zero_le r1
          rw [r3] at hp1 hcm
          have hdn : doD l (j + 1) 0 L = wrD (doD l j 0 L) dd z 64 := by rw [hdn]; rfl
          have hbo' := HBO.out
          have hn0 : ∀ w', Kept wr w' (some bo) → w'.cell? ⟨b, off + j * 2, none⟩ = some (.int .i64 (z : Int)) := fun w' hq => cell_row hkw.out hb hq (by omega) hp0.out
          have hn1 : ∀ w', Kept wr w' (some bo) → w'.cell? ⟨b, off + j * 2 + 1, none⟩ = some (.slice ak 64 ck) := fun w' hq => cell_row hkw.out hb hq (by omega) hp1.out
          have HPUT : Hid (∀ cur (hk : Kept wr cur none), Calls Try.prog 35 #[dvV a3 n c3, .int .i64 (z : Int), .slice ak 64 ck, .int .i64 64] cur fun e w' => ∃ a' c', e = .returned (dvV a' n c') ∧ Rv cur w' a' n c' (doD l (j + 1) 0 L) ∧ Kept cur w' none) := Hid.mk' (fun cur hk => by rw [hdn]; exact rput_any z 64 cur (hcd.out.kpt hk) (hcm.out.kpt (hkw.out.tr hk)) hn4 (by omega) (by omega))
          have HDb := hdb
          clear hdn hbo' r2 r3 hcm
          go_wp2
          refine Code.wp_mono (Q := R21 ?A2 (fun o cn w' => Ddq w wr w' n bo (doD l (j + 1) 0 L) o cn)) ?cont2 ?reg2
          case reg2 =>
            repeat (rename_i hh; clear hh)
            refine wp_region_held_drew (S := fun w' => Kept wr w' (some bo)) (by kernel_rfl) (kept_drw _ _) (fun hHeld => ?_)
            refine hold_take (i := 1) (v := ?rv83) rfl rfl (by kernel_rfl) (by kernel_rfl) (by kernel_rfl) (fun _ _ _ h => h) (Or.inl ⟨by rfl, ?rhy83⟩) hHeld ?rrest83
            case rhy83 => first | (intro w hSw; (try dsimp only at hSw); go_simp; done) | (intro w hSw; (try dsimp only at hSw); go_simp; with_reducible rfl)
            try simp only [List.setIfInBounds_toArray, List.set_cons_zero, List.set_cons_succ]
            refine hold_take (i := 2) (v := ?rv84) rfl rfl (by kernel_rfl) (by kernel_rfl) (by kernel_rfl) (fun _ _ _ h => h) (Or.inl ⟨by rfl, ?rhy84⟩) hHeld ?rrest84
            case rhy84 => first | (intro w hSw; (try dsimp only at hSw); go_simp; done) | (intro w hSw; (try dsimp only at hSw); go_simp; with_reducible rfl)
            try simp only [List.setIfInBounds_toArray, List.set_cons_zero, List.set_cons_succ]
            refine hold_take (i := 3) (v := ?rv85) rfl rfl (by kernel_rfl) (by kernel_rfl) (by kernel_rfl) (fun _ _ _ h => h) (Or.inl ⟨by rfl, ?rhy85⟩) hHeld ?rrest85
            case rhy85 => first | (intro w hSw; (try dsimp only at hSw); go_simp; done) | (intro w hSw; (try dsimp only at hSw); go_simp; with_reducible rfl)
            try simp only [List.setIfInBounds_toArray, List.set_cons_zero, List.set_cons_succ]
            refine hold_take (i := 4) (v := ?rv86) rfl rfl (by kernel_rfl) (by kernel_rfl) (by kernel_rfl) (fun _ _ _ h => h) (Or.inl ⟨by rfl, ?rhy86⟩) hHeld ?rrest86
            case rhy86 => first | (intro w hSw; (try dsimp only at hSw); go_simp; done) | (intro w hSw; (try dsimp only at hSw); go_simp; with_reducible rfl)
            try simp only [List.setIfInBounds_toArray, List.set_cons_zero, List.set_cons_succ]
            refine hold_take (i := 5) (v := ?rv87) rfl rfl (by kernel_rfl) (by kernel_rfl) (by kernel_rfl) (fun _ _ _ h => h) (Or.inl ⟨by rfl, ?rhy87⟩) hHeld ?rrest87
            case rhy87 => first | (intro w hSw; (try dsimp only at hSw); go_simp; done) | (intro w hSw; (try dsimp only at hSw); go_simp; with_reducible rfl)
            try simp only [List.setIfInBounds_toArray, List.set_cons_zero, List.set_cons_succ]
            refine hold_take (i := 6) (v := ?rv88) rfl rfl (by kernel_rfl) (by kernel_rfl) (by kernel_rfl) (fun _ _ _ h => h) (Or.inl ⟨by rfl, ?rhy88⟩) hHeld ?rrest88
            case rhy88 => first | (intro w hSw; (try dsimp only at hSw); go_simp; done) | (intro w hSw; (try dsimp only at hSw); go_simp; with_reducible rfl)
            try simp only [List.setIfInBounds_toArray, List.set_cons_zero, List.set_cons_succ]
            refine hold_take (i := 7) (v := ?rv89) rfl rfl (by kernel_rfl) (by kernel_rfl) (by kernel_rfl) (fun _ _ _ h => h) (Or.inl ⟨by rfl, ?rhy89⟩) hHeld ?rrest89
            case rhy89 => first | (intro w hSw; (try dsimp only at hSw); go_simp; done) | (intro w hSw; (try dsimp only at hSw); go_simp; with_reducible rfl)
            try simp only [List.setIfInBounds_toArray, List.set_cons_zero, List.set_cons_succ]
            refine hold_take (i := 8) (v := ?rv90) rfl rfl (by kernel_rfl) (by kernel_rfl) (by kernel_rfl) (fun _ _ _ h => h) (Or.inl ⟨by rfl, ?rhy90⟩) hHeld ?rrest90
            case rhy90 => first | (intro w hSw; (try dsimp only at hSw); go_simp; done) | (intro w hSw; (try dsimp only at hSw); go_simp; with_reducible rfl)
            try simp only [List.setIfInBounds_toArray, List.set_cons_zero, List.set_cons_succ]
            refine hold_take (i := 9) (v := ?rv91) rfl rfl (by kernel_rfl) (by kernel_rfl) (by kernel_rfl) (fun _ _ _ h => h) (Or.inl ⟨by rfl, ?rhy91⟩) hHeld ?rrest91
            case rhy91 => first | (intro w hSw; (try dsimp only at hSw); go_simp; done) | (intro w hSw; (try dsimp only at hSw); go_simp; with_reducible rfl)
            try simp only [List.setIfInBounds_toArray, List.set_cons_zero, List.set_cons_succ]
            refine hold_take (i := 10) (v := ?rv92) rfl rfl (by kernel_rfl) (by kernel_rfl) (by kernel_rfl) (fun _ _ _ h => h) (Or.inl ⟨by rfl, ?rhy92⟩) hHeld ?rrest92
            case rhy92 => first | (intro w hSw; (try dsimp only at hSw); go_simp; done) | (intro w hSw; (try dsimp only at hSw); go_simp; with_reducible rfl)
            try simp only [List.setIfInBounds_toArray, List.set_cons_zero, List.set_cons_succ]
            refine wpAnyH_ready (rs := [0]) (by kernel_rfl) (by simp) ?_
            refine (AllReadyH.cons rfl (fun K hK => ?rz93x0) AllReadyH.nil)
            case rz93x0 =>
              have d0 := (HDb.out.kept (kept_drw wr none)).c0
              go_simp
              refine hK.out _ _ hHeld (fun hHeld => ?_)
              clear hK K d0
              refine wpAnyH_ready (rs := [11]) (by kernel_rfl) (by simp) ?_
              refine (AllReadyH.cons rfl (fun K hK => ?rz94x11) AllReadyH.nil)
              case rz94x11 =>
                go_simp
                refine (HPUT.out wr.drew (kept_drw wr none)).mono ?_
                rintro e wv ⟨o, cn, rfl, hv, hk⟩
                dsimp only
                have hnew := hHeld.tr (hk.sm (some bo))
                have HV := Hid.mk' hv
                have HB2 := Hid.mk' ((HDb.out.kept (kept_drw wr none)).kept hk)
                refine hK.out _ _ hnew (fun hHeld => ?_)
                clear hK K hk hnew hv
                refine wpAnyH_ready (rs := [12]) (by kernel_rfl) (by simp) ?_
                refine (AllReadyH.cons rfl (fun K hK => ?rz95x12) AllReadyH.nil)
                case rz95x12 =>
                  have d0 := HB2.out.c0
                  have e0 := HB2.out.f0
                  have d1 := HB2.out.lt
                  go_simp
                  have hnew := Kept.setRow hHeld 0 (.slice o n cn)
                  have hfin : Ddq w wr _ n bo (doD l (j + 1) 0 L) o cn := ⟨hnew, (HV.out.far (b := bo) HDb.out.lt 0 _).come, HB2.out.set _ _ _, fun x hx => by
                                        rcases HV.out.at_ with ⟨e, _⟩ | ⟨g, e, hg, _⟩
                                        · rw [e] at hx; cases hx
                                        · rw [e] at hx; injection hx with hx; subst hx; have h1 := HDb.out.lt; have h2 := HBO.out; have h3 : wr.heap.size ≤ g := hg; show w.heap.size + 2 ≤ g; omega⟩
                  refine hK.out _ _ hnew (fun hHeld => ?_)
                  clear hK K hnew
                  refine wpAnyH_done (by kernel_rfl) ?_ _
                  refine ⟨o, cn, ?_, hfin⟩
                  with_reducible rfl
          case cont2 =>
          intro e a' w5 hq
          obtain ⟨rfl, o, cn, rfl, hA⟩ := hq.out
          have HK5 := Hid.mk' (hkw.out.newRow hA.kept (fun i e => by cases e; have := HBO.out; omega))
          have HR5 := Hid.mk' (hrb.out.row hA.kept (by have := HBO.out; omega))
          have HD5 := Hid.mk' hA.bx
          have HC5 := Hid.mk' hA.come
          have hqn := Hid.mk' hA.ne
          clear hA hn0 hn1
          have HN5 : Hid (∀ x, o = some x → w.heap.size + 2 ≤ x.block) := hqn
          go_wp2
          go_roundw
          case rel => exact ⟨j + 1, by omega, by go_num, o, cn, HK5, HD5, HC5, HR5, HN5⟩
          case measure => simp [intOf]; omega
        · have hjw2 : j = wh := by omega
          subst hjw2
          have hjk : (j : Int) < k := by omega
          obtain ⟨b, off, rfl, _⟩ := HP.out.at_ (by omega)
          have hjl : j < l.length := by rw [HS.out]; omega
          obtain ⟨ak, ck, hb, hp0, hp1, hcm⟩ := HP.out.at2 hjl
          obtain ⟨r1, r2, r3⟩ := HOK.out l[j] (List.getElem_mem hjl)
          have hdn := doD_snoc l j to L hjl
          generalize l[j].n = zz at *
          generalize l[j].data = dd at *
          clear hjl
          obtain ⟨z, rfl⟩ := Int.eq_ofNat_of_zero_le r1
          rw [r3] at hp1 hcm
          have hdn : doD l j to L = wrD (doD l j 0 L) dd z to := by rw [hdn]; rfl
          have hbo' := HBO.out
          have hn0 : ∀ w', Kept wr w' (some bo) → w'.cell? ⟨b, off + j * 2, none⟩ = some (.int .i64 (z : Int)) := fun w' hq => cell_row hkw.out hb hq (by omega) hp0.out
          have hn1 : ∀ w', Kept wr w' (some bo) → w'.cell? ⟨b, off + j * 2 + 1, none⟩ = some (.slice ak 64 ck) := fun w' hq => cell_row hkw.out hb hq (by omega) hp1.out
          have HPUT : Hid (∀ cur (hk : Kept wr cur none), Calls Try.prog 35 #[dvV a3 n c3, .int .i64 (z : Int), .slice ak 64 ck, .int .i64 (to : Int)] cur fun e w' => ∃ a' c', e = .returned (dvV a' n c') ∧ Rv cur w' a' n c' (doD l j to L) ∧ Kept cur w' none) := Hid.mk' (fun cur hk => by rw [hdn]; exact rput_any z to cur (hcd.out.kpt hk) (hcm.out.kpt (hkw.out.tr hk)) hn4 (by omega) (by omega))
          have HDb := hdb
          clear hdn hbo' r2 r3 hcm
          go_wp2
          refine Code.wp_mono (Q := R21 ?A3 (fun o cn w' => Ddq w wr w' n bo (doD l j to L) o cn)) ?cont3 ?reg3
          case reg3 =>
            repeat (rename_i hh; clear hh)
            refine wp_region_held_drew (S := fun w' => Kept wr w' (some bo)) (by kernel_rfl) (kept_drw _ _) (fun hHeld => ?_)
            refine hold_take (i := 1) (v := ?rv96) rfl rfl (by kernel_rfl) (by kernel_rfl) (by kernel_rfl) (fun _ _ _ h => h) (Or.inl ⟨by rfl, ?rhy96⟩) hHeld ?rrest96
            case rhy96 => first | (intro w hSw; (try dsimp only at hSw); go_simp; done) | (intro w hSw; (try dsimp only at hSw); go_simp; with_reducible rfl)
            try simp only [List.setIfInBounds_toArray, List.set_cons_zero, List.set_cons_succ]
            refine hold_take (i := 2) (v := ?rv97) rfl rfl (by kernel_rfl) (by kernel_rfl) (by kernel_rfl) (fun _ _ _ h => h) (Or.inl ⟨by rfl, ?rhy97⟩) hHeld ?rrest97
            case rhy97 => first | (intro w hSw; (try dsimp only at hSw); go_simp; done) | (intro w hSw; (try dsimp only at hSw); go_simp; with_reducible rfl)
            try simp only [List.setIfInBounds_toArray, List.set_cons_zero, List.set_cons_succ]
            refine hold_take (i := 3) (v := ?rv98) rfl rfl (by kernel_rfl) (by kernel_rfl) (by kernel_rfl) (fun _ _ _ h => h) (Or.inl ⟨by rfl, ?rhy98⟩) hHeld ?rrest98
            case rhy98 => first | (intro w hSw; (try dsimp only at hSw); go_simp; done) | (intro w hSw; (try dsimp only at hSw); go_simp; with_reducible rfl)
            try simp only [List.setIfInBounds_toArray, List.set_cons_zero, List.set_cons_succ]
            refine hold_take (i := 4) (v := ?rv99) rfl rfl (by kernel_rfl) (by kernel_rfl) (by kernel_rfl) (fun _ _ _ h => h) (Or.inl ⟨by rfl, ?rhy99⟩) hHeld ?rrest99
            case rhy99 => first | (intro w hSw; (try dsimp only at hSw); go_simp; done) | (intro w hSw; (try dsimp only at hSw); go_simp; with_reducible rfl)
            try simp only [List.setIfInBounds_toArray, List.set_cons_zero, List.set_cons_succ]
            refine hold_take (i := 5) (v := ?rv100) rfl rfl (by kernel_rfl) (by kernel_rfl) (by kernel_rfl) (fun _ _ _ h => h) (Or.inl ⟨by rfl, ?rhy100⟩) hHeld ?rrest100
            case rhy100 => first | (intro w hSw; (try dsimp only at hSw); go_simp; done) | (intro w hSw; (try dsimp only at hSw); go_simp; with_reducible rfl)
            try simp only [List.setIfInBounds_toArray, List.set_cons_zero, List.set_cons_succ]
            refine hold_take (i := 6) (v := ?rv101) rfl rfl (by kernel_rfl) (by kernel_rfl) (by kernel_rfl) (fun _ _ _ h => h) (Or.inl ⟨by rfl, ?rhy101⟩) hHeld ?rrest101
            case rhy101 => first | (intro w hSw; (try dsimp only at hSw); go_simp; done) | (intro w hSw; (try dsimp only at hSw); go_simp; with_reducible rfl)
            try simp only [List.setIfInBounds_toArray, List.set_cons_zero, List.set_cons_succ]
            refine hold_take (i := 7) (v := ?rv102) rfl rfl (by kernel_rfl) (by kernel_rfl) (by kernel_rfl) (fun _ _ _ h => h) (Or.inl ⟨by rfl, ?rhy102⟩) hHeld ?rrest102
            case rhy102 => first | (intro w hSw; (try dsimp only at hSw); go_simp; done) | (intro w hSw; (try dsimp only at hSw); go_simp; with_reducible rfl)
            try simp only [List.setIfInBounds_toArray, List.set_cons_zero, List.set_cons_succ]
            refine hold_take (i := 8) (v := ?rv103) rfl rfl (by kernel_rfl) (by kernel_rfl) (by kernel_rfl) (fun _ _ _ h => h) (Or.inl ⟨by rfl, ?rhy103⟩) hHeld ?rrest103
            case rhy103 => first | (intro w hSw; (try dsimp only at hSw); go_simp; done) | (intro w hSw; (try dsimp only at hSw); go_simp; with_reducible rfl)
            try simp only [List.setIfInBounds_toArray, List.set_cons_zero, List.set_cons_succ]
            refine hold_take (i := 9) (v := ?rv104) rfl rfl (by kernel_rfl) (by kernel_rfl) (by kernel_rfl) (fun _ _ _ h => h) (Or.inl ⟨by rfl, ?rhy104⟩) hHeld ?rrest104
            case rhy104 => first | (intro w hSw; (try dsimp only at hSw); go_simp; done) | (intro w hSw; (try dsimp only at hSw); go_simp; with_reducible rfl)
            try simp only [List.setIfInBounds_toArray, List.set_cons_zero, List.set_cons_succ]
            refine hold_take (i := 10) (v := ?rv105) rfl rfl (by kernel_rfl) (by kernel_rfl) (by kernel_rfl) (fun _ _ _ h => h) (Or.inl ⟨by rfl, ?rhy105⟩) hHeld ?rrest105
            case rhy105 => first | (intro w hSw; (try dsimp only at hSw); go_simp; done) | (intro w hSw; (try dsimp only at hSw); go_simp; with_reducible rfl)
            try simp only [List.setIfInBounds_toArray, List.set_cons_zero, List.set_cons_succ]
            refine hold_take (i := 11) (v := ?rv106) rfl rfl (by kernel_rfl) (by kernel_rfl) (by kernel_rfl) (fun _ _ _ h => h) (Or.inl ⟨by rfl, ?rhy106⟩) hHeld ?rrest106
            case rhy106 => first | (intro w hSw; (try dsimp only at hSw); go_simp; done) | (intro w hSw; (try dsimp only at hSw); go_simp; with_reducible rfl)
            try simp only [List.setIfInBounds_toArray, List.set_cons_zero, List.set_cons_succ]
            refine wpAnyH_ready (rs := [0]) (by kernel_rfl) (by simp) ?_
            refine (AllReadyH.cons rfl (fun K hK => ?rz107x0) AllReadyH.nil)
            case rz107x0 =>
              have d0 := (HDb.out.kept (kept_drw wr none)).c0
              go_simp
              refine hK.out _ _ hHeld (fun hHeld => ?_)
              clear hK K d0
              refine wpAnyH_ready (rs := [12]) (by kernel_rfl) (by simp) ?_
              refine (AllReadyH.cons rfl (fun K hK => ?rz108x12) AllReadyH.nil)
              case rz108x12 =>
                go_simp
                refine (HPUT.out wr.drew (kept_drw wr none)).mono ?_
                rintro e wv ⟨o, cn, rfl, hv, hk⟩
                dsimp only
                have hnew := hHeld.tr (hk.sm (some bo))
                have HV := Hid.mk' hv
                have HB2 := Hid.mk' ((HDb.out.kept (kept_drw wr none)).kept hk)
                refine hK.out _ _ hnew (fun hHeld => ?_)
                clear hK K hk hnew hv
                refine wpAnyH_ready (rs := [13]) (by kernel_rfl) (by simp) ?_
                refine (AllReadyH.cons rfl (fun K hK => ?rz109x13) AllReadyH.nil)
                case rz109x13 =>
                  have d0 := HB2.out.c0
                  have e0 := HB2.out.f0
                  have d1 := HB2.out.lt
                  go_simp
                  have hnew := Kept.setRow hHeld 0 (.slice o n cn)
                  have hfin : Ddq w wr _ n bo (doD l j to L) o cn := ⟨hnew, (HV.out.far (b := bo) HDb.out.lt 0 _).come, HB2.out.set _ _ _, fun x hx => by
                                        rcases HV.out.at_ with ⟨e, _⟩ | ⟨g, e, hg, _⟩
                                        · rw [e] at hx; cases hx
                                        · rw [e] at hx; injection hx with hx; subst hx; have h1 := HDb.out.lt; have h2 := HBO.out; have h3 : wr.heap.size ≤ g := hg; show w.heap.size + 2 ≤ g; omega⟩
                  refine hK.out _ _ hnew (fun hHeld => ?_)
                  clear hK K hnew
                  refine wpAnyH_done (by kernel_rfl) ?_ _
                  refine ⟨o, cn, ?_, hfin⟩
                  with_reducible rfl
          case cont3 =>
          intro e a' w5 hq
          obtain ⟨rfl, o, cn, rfl, hA⟩ := hq.out
          have HK5 := Hid.mk' (hkw.out.newRow hA.kept (fun i e => by cases e; have := HBO.out; omega))
          have HR5 := Hid.mk' (hrb.out.row hA.kept (by have := HBO.out; omega))
          have HD5 := Hid.mk' hA.bx
          have HC5 := Hid.mk' hA.come
          have hqn := Hid.mk' hA.ne
          clear hA hn0 hn1
          have HNEo := hqn
          have c5 := HD5.out.c0
          have c6 := HD5.out.lt
          have r5 := HR5.out.c0
          have r6 := HR5.out.f0
          have r7 := HR5.out.lt
          go_wp2
          refine bodyPost_ret (v := .tuple #[dvV o n cn, .int .i64 0]) (by simp [results, Try.results21, go_sem, *]; done) rfl ⟨o, cn, rfl, ?_, ?_⟩
          · exact Hid.mk' (HC5.out.far (b := w.heap.size + 1) 0 _ (fun x hx => by have := HNEo.out x hx; omega))
          · exact HK5.out.setNew (p := ⟨w.heap.size + 1, 0, none⟩) (show w.heap.size ≤ w.heap.size + 1 by omega) _
set_option maxRecDepth 100000 in
set_option maxHeartbeats 2000000 in
theorem rdo_end {a : Option Addr} {n c : Nat} {L : List Nat} {la : Option Addr} {m : Nat} (lc : Nat) {l : List Pw} (wh to : Nat) (w : World) (hC : Come w a n c L) (hP : Plw w la m l) (hF : cwE n l = 0) (b2 : wh = m) (b4 : to ≤ 64) : Calls Try.prog 21 #[dvV a n c, .slice la m lc, .int .i64 wh, .int .i64 to] w fun e w' => ∃ a' c', e = dvR a' n c' 0 ∧ Hid (Come w' a' n c' (doD l wh 0 L)) ∧ Kept w w' none := by
  have HC := Hid.mk' hC
  have HP := Hid.mk' hP
  have hn := hC.by_.max
  have hm := hP.max
  have HS := Hid.mk' hP.size
  clear hC hP
  have HF := Hid.mk' hF
  have HCh : Hid (chkE n = 0) := Hid.mk' (by have := Ek_zero n l; rw [Ek_ok hF 0] at this; exact this.symm)
  clear hF
  have b1 : ¬ (wh : Int) < 0 := by omega
  have b2' : ¬ (m : Int) < wh := by omega
  have b3 : ¬ (to : Int) < 0 := by omega
  have b4' : ¬ (64 : Int) < to := by omega
  have hq9 : (n % 64 = 0 ∧ 64 ≤ n ∧ n ≤ 4096) ∧ wrE n l = 0 := by
    have z := HF.out
    unfold cwE at z
    rw [if_pos HCh.out] at z
    refine ⟨?_, z⟩
    rcases chk_cases n with ⟨_, x⟩ | x
    · exact x
    · rw [HCh.out] at x; exact absurd x (by decide)
  have HOK := Hid.mk' (wr_ok hq9.1.1 hq9.2)
  have hn4 : n ≤ 4096 := hq9.1.2.2
  clear hq9
  go_enter Try.func21, Try.ntmps21
  go_wp2_with (go_at_call 22; refine (rchk_any a n c _ hn).mono ?_; (try rw [HCh.out]); rintro e w1 ⟨rfl, hk1⟩; have hkA : Kept w w1 none := ((Kept.alloc _ _ _ _ _).tr (Kept.alloc _ _ _ _ _)).tr hk1; have hRr := (db_alloc (w.alloc (.cells (dvC a n c) 24)) none 0 0 24).kept hk1; simp only [World.size_alloc] at hRr; have hIr := (((db_alloc w a n c 24).kept (Kept.alloc _ (dvC none 0 0) 24 (0, 0) none)).kept hk1); have HRr := Hid.mk' hRr; have HIr := Hid.mk' hIr; have HKA := Hid.mk' hkA; clear hRr hIr hk1 hkA)
  go_loopw [10, 11] (fun e i wr => ∃ k : Nat, k ≤ m ∧ i = .int .i64 k ∧ e = .int .i64 0 ∧ Hid (Kept w1 wr none)) (fun _ i _ => m - (intOf i).toNat)
  case atStart => exact ⟨0, Nat.zero_le _, rfl, rfl, Hid.mk' (Kept.refl _ _)⟩
  case round =>
    obtain ⟨k, hk, rfl, rfl, hkr⟩ := hrel
    by_cases hlt : k < m
    · have hE0 := Hid.mk' (Ek_ok HF.out k)
      obtain ⟨b, off, rfl, _⟩ := HP.out.at_ (by omega)
      have hkl : k < l.length := by rw [HS.out]; exact hlt
      obtain ⟨ak, ck, hn0, hn1, hcm⟩ := (HP.out.kept (HKA.out.tr hkr.out)).get hkl
      have hqm := hcm.out.by_.max
      have hEn := Ek_next hkl hE0.out
      have hbx : ∀ w', Kept wr w' none → w'.cell? ⟨w.heap.size, 0, none⟩ = some (.slice a n c) := fun w' hq => ((HIr.out.kept hkr.out).kept hq).c0
      clear hcm
      generalize l[k].n = z at *
      generalize l[k].data.length = q at *
      clear hkl
      have HEn := Hid.mk' hEn
      clear hEn
      obtain ⟨E2, hE2⟩ : ∃ E2, asE n z q = E2 := ⟨_, rfl⟩
      have HAS := Hid.mk' (fun w' => hE2 ▸ rasked_any a n c z ak q ck w' hn hqm)
      rw [hE2] at HEn
      clear hE2
      have hkm : (k : Int) < m := by omega
      go_wp2
      refine Code.wp_mono (Q := Rbq ?A1 (fun w' => Kept wr w' none)) ?cont1 ?reg1
      case reg1 =>
        repeat (rename_i hh; clear hh)
        refine wp_region_held_drew (S := fun w' => Kept wr w' none) (by kernel_rfl) (kept_drw _ _) (fun hHeld => ?_)
        refine hold_take (i := 0) (v := ?rv137) rfl rfl (by kernel_rfl) (by kernel_rfl) (by kernel_rfl) (fun _ _ _ h => h) (Or.inl ⟨by rfl, ?rhy137⟩) hHeld ?rrest137
        case rhy137 => first | (intro w hSw; (try dsimp only at hSw); go_simp; done) | (intro w hSw; (try dsimp only at hSw); go_simp; with_reducible rfl)
        try simp only [List.setIfInBounds_toArray, List.set_cons_zero, List.set_cons_succ]
        refine hold_take (i := 1) (v := ?rv138) rfl rfl (by kernel_rfl) (by kernel_rfl) (by kernel_rfl) (fun _ _ _ h => h) (Or.inl ⟨by rfl, ?rhy138⟩) hHeld ?rrest138
        case rhy138 => first | (intro w hSw; (try dsimp only at hSw); go_simp; done) | (intro w hSw; (try dsimp only at hSw); go_simp; with_reducible rfl)
        try simp only [List.setIfInBounds_toArray, List.set_cons_zero, List.set_cons_succ]
        refine hold_take (i := 2) (v := ?rv139) rfl rfl (by kernel_rfl) (by kernel_rfl) (by kernel_rfl) (fun _ _ _ h => h) (Or.inl ⟨by rfl, ?rhy139⟩) hHeld ?rrest139
        case rhy139 => first | (intro w hSw; (try dsimp only at hSw); go_simp; done) | (intro w hSw; (try dsimp only at hSw); go_simp; with_reducible rfl)
        try simp only [List.setIfInBounds_toArray, List.set_cons_zero, List.set_cons_succ]
        refine hold_take (i := 3) (v := ?rv140) rfl rfl (by kernel_rfl) (by kernel_rfl) (by kernel_rfl) (fun _ _ _ h => h) (Or.inl ⟨by rfl, ?rhy140⟩) hHeld ?rrest140
        case rhy140 => first | (intro w hSw; (try dsimp only at hSw); go_simp; done) | (intro w hSw; (try dsimp only at hSw); go_simp; with_reducible rfl)
        try simp only [List.setIfInBounds_toArray, List.set_cons_zero, List.set_cons_succ]
        refine hold_take (i := 4) (v := ?rv141) rfl rfl (by kernel_rfl) (by kernel_rfl) (by kernel_rfl) (fun _ _ _ h => h) (Or.inl ⟨by rfl, ?rhy141⟩) hHeld ?rrest141
        case rhy141 => first | (intro w hSw; (try dsimp only at hSw); go_simp; done) | (intro w hSw; (try dsimp only at hSw); go_simp; with_reducible rfl)
        try simp only [List.setIfInBounds_toArray, List.set_cons_zero, List.set_cons_succ]
        refine hold_take (i := 5) (v := ?rv142) rfl rfl (by kernel_rfl) (by kernel_rfl) (by kernel_rfl) (fun _ _ _ h => h) (Or.inl ⟨by rfl, ?rhy142⟩) hHeld ?rrest142
        case rhy142 => first | (intro w hSw; (try dsimp only at hSw); go_simp; done) | (intro w hSw; (try dsimp only at hSw); go_simp; with_reducible rfl)
        try simp only [List.setIfInBounds_toArray, List.set_cons_zero, List.set_cons_succ]
        refine hold_take (i := 6) (v := ?rv143) rfl rfl (by kernel_rfl) (by kernel_rfl) (by kernel_rfl) (fun _ _ _ h => h) (Or.inl ⟨by rfl, ?rhy143⟩) hHeld ?rrest143
        case rhy143 => first | (intro w hSw; (try dsimp only at hSw); go_simp; done) | (intro w hSw; (try dsimp only at hSw); go_simp; with_reducible rfl)
        try simp only [List.setIfInBounds_toArray, List.set_cons_zero, List.set_cons_succ]
        refine hold_take (i := 7) (v := ?rv144) rfl rfl (by kernel_rfl) (by kernel_rfl) (by kernel_rfl) (fun _ _ _ h => h) (Or.inl ⟨by rfl, ?rhy144⟩) hHeld ?rrest144
        case rhy144 => first | (intro w hSw; (try dsimp only at hSw); go_simp; done) | (intro w hSw; (try dsimp only at hSw); go_simp; with_reducible rfl)
        try simp only [List.setIfInBounds_toArray, List.set_cons_zero, List.set_cons_succ]
        refine hold_take (i := 8) (v := ?rv145) rfl rfl (by kernel_rfl) (by kernel_rfl) (by kernel_rfl) (fun _ _ _ h => h) (Or.inl ⟨by rfl, ?rhy145⟩) hHeld ?rrest145
        case rhy145 => first | (intro w hSw; (try dsimp only at hSw); go_simp; done) | (intro w hSw; (try dsimp only at hSw); go_simp; with_reducible rfl)
        try simp only [List.setIfInBounds_toArray, List.set_cons_zero, List.set_cons_succ]
        refine hold_take (i := 9) (v := ?rv146) rfl rfl (by kernel_rfl) (by kernel_rfl) (by kernel_rfl) (fun _ _ _ h => h) (Or.inl ⟨by rfl, ?rhy146⟩) hHeld ?rrest146
        case rhy146 => first | (intro w hSw; (try dsimp only at hSw); go_simp; done) | (intro w hSw; (try dsimp only at hSw); go_simp; with_reducible rfl)
        try simp only [List.setIfInBounds_toArray, List.set_cons_zero, List.set_cons_succ]
        refine hold_take (i := 10) (v := ?rv147) rfl rfl (by kernel_rfl) (by kernel_rfl) (by kernel_rfl) (fun _ _ _ h => h) (Or.inl ⟨by rfl, ?rhy147⟩) hHeld ?rrest147
        case rhy147 => first | (intro w hSw; (try dsimp only at hSw); go_simp; done) | (intro w hSw; (try dsimp only at hSw); go_simp; with_reducible rfl)
        try simp only [List.setIfInBounds_toArray, List.set_cons_zero, List.set_cons_succ]
        refine wpAnyH_ready (rs := [11]) (by kernel_rfl) (by simp) ?_
        refine (AllReadyH.cons rfl (fun K hK => ?rz148x11) AllReadyH.nil)
        case rz148x11 =>
          go_simp
          refine (HAS.out wr.drew).mono ?_
          rintro e wv149 ⟨rfl, hk⟩
          dsimp only
          have hnew := hHeld.tr hk
          refine hK.out _ _ hnew (fun hHeld => ?_)
          clear hK K hk hnew
          refine hold_take (i := 12) (v := ?rv150) rfl rfl (by kernel_rfl) (by kernel_rfl) (by kernel_rfl) (fun _ _ _ h => h) (Or.inl ⟨by rfl, ?rhy150⟩) hHeld ?rrest150
          case rhy150 => first | (intro w hSw; (try dsimp only at hSw); go_simp; done) | (intro w hSw; (try dsimp only at hSw); go_simp; with_reducible rfl)
          try simp only [List.setIfInBounds_toArray, List.set_cons_zero, List.set_cons_succ]
          refine wpAnyH_done (by kernel_rfl) ?_ _
          refine And.intro ?_ hHeld
          with_reducible rfl
      case cont1 =>
      intro e a' w5 hq
      obtain ⟨rfl, rfl, hk5⟩ := hq.out
      have e2 : E2 = 0 := by rw [HEn.out, Ek_ok HF.out]
      subst e2
      go_wp2
      go_roundw
      case rel => exact ⟨k + 1, by omega, by go_num, rfl, Hid.mk' (hkr.out.tr hk5)⟩
      case measure => simp [intOf]; omega
    · have hkm : k = m := by omega
      subst hkm
      have hrz := HRr.out.kept hkr.out
      have r0 := hrz.c0
      have r1 := hrz.f0
      have r2 := hrz.lt
      have HKr := Hid.mk' (HKA.out.tr hkr.out)
      have hI2 := (HIr.out.kept hkr.out).c0
      have HRz := Hid.mk' hrz
      have hlw := HRz.out.lt
      clear hrz r0 r1 r2
      go_wp2_with (go_at_call 17; refine (rtwin_any wr (HC.out.kpt HKr.out) (show n ≤ 10000 by omega)).mono ?_; rintro e w2 ⟨a', c', rfl, hv, hk2⟩)
      obtain ⟨W2, HW2⟩ : ∃ W2, Hid (W2 = w2.alloc (.cells (dvC a' n c') 24)) := ⟨_, Hid.mk' rfl⟩
      have hkC : Kept w2 W2 none := by rw [HW2.out]; exact Kept.alloc _ _ _ _ _
      have hdb0 : Hid (Db W2 w2.heap.size a' n c') := Hid.mk' (by rw [HW2.out]; exact db_alloc _ _ _ _ _)
      have hkw0 := Hid.mk' ((HKr.out.tr hk2).tr hkC)
      have hcd0 : Hid (Come W2 a' n c' (doD l 0 0 L)) := Hid.mk' (by rw [show doD l 0 0 L = L by cases l with | nil => rfl | cons p l => exact wrD_none _ _ _]; exact hv.come.kpt hkC)
      have hrb0 := Hid.mk' ((HRz.out.kept hk2).kept hkC)
      have hne0 : Hid (∀ x, a' = some x → w.heap.size + 2 ≤ x.block) := Hid.mk' (fun x hx => by
        rcases hv.at_ with ⟨e, _⟩ | ⟨g, e, hg, _⟩
        · rw [e] at hx; cases hx
        · rw [e] at hx
          injection hx with hx
          subst hx
          have := HRz.out.lt
          show w.heap.size + 2 ≤ g
          omega)
      have HBO : Hid (w.heap.size + 2 ≤ w2.heap.size) := Hid.mk' (by have := hk2.size; omega)
      rw [← HW2.out]
      generalize w2.heap.size = bo at hdb0 HBO ⊢
      clear HW2 hkC hk2 hv hI2 hlw hkr hlt hk HRz
      obtain ⟨wo, hwo⟩ : ∃ wo, wo = wr := ⟨_, rfl⟩
      subst hwo
      go_loopw [13] (fun i wr => ∃ j : Nat, j ≤ wh ∧ i = .int .i64 j ∧ ∃ a3 c3, Hid (Kept w wr none) ∧ Hid (Db wr bo a3 n c3) ∧ Hid (Come wr a3 n c3 (doD l j 0 L)) ∧ Hid (Db wr (w.heap.size + 1) none 0 0) ∧ Hid (∀ x, a3 = some x → w.heap.size + 2 ≤ x.block)) (fun i _ => wh - (intOf i).toNat)
      case atStart => exact ⟨0, Nat.zero_le _, rfl, a', c', hkw0, hdb0, hcd0, hrb0, hne0⟩
      case round =>
        clear hkw0 hdb0 hcd0 hrb0 hne0
        obtain ⟨j, hj, rfl, a3, c3, hkw, hdb, hcd, hrb, hne⟩ := hrel
        by_cases hjw : j < wh
        · have hjm : (j : Int) < wh := by omega
          have hjk : (j : Int) < k := by omega
          obtain ⟨b, off, rfl, _⟩ := HP.out.at_ (by omega)
          have hjl : j < l.length := by rw [HS.out]; omega
          obtain ⟨ak, ck, hb, hp0, hp1, hcm⟩ := HP.out.at2 hjl
          obtain ⟨r1, r2, r3⟩ := HOK.out l[j] (List.getElem_mem hjl)
          have hdn := doD_next l j L hjl
          generalize l[j].n = zz at *
          generalize l[j].data = dd at *
          clear hjl
          obtain ⟨z, rfl⟩ := Int.eq_ofNat_of_zero_le r1
          rw [r3] at hp1 hcm
          have hdn : doD l (j + 1) 0 L = wrD (doD l j 0 L) dd z 64 := by rw [hdn]; rfl
          have hbo' := HBO.out
          have hn0 : ∀ w', Kept wr w' (some bo) → w'.cell? ⟨b, off + j * 2, none⟩ = some (.int .i64 (z : Int)) := fun w' hq => cell_row hkw.out hb hq (by omega) hp0.out
          have hn1 : ∀ w', Kept wr w' (some bo) → w'.cell? ⟨b, off + j * 2 + 1, none⟩ = some (.slice ak 64 ck) := fun w' hq => cell_row hkw.out hb hq (by omega) hp1.out
          have HPUT : Hid (∀ cur (hk : Kept wr cur none), Calls Try.prog 35 #[dvV a3 n c3, .int .i64 (z : Int), .slice ak 64 ck, .int .i64 64] cur fun e w' => ∃ a' c', e = .returned (dvV a' n c') ∧ Rv cur w' a' n c' (doD l (j + 1) 0 L) ∧ Kept cur w' none) := Hid.mk' (fun cur hk => by rw [hdn]; exact rput_any z 64 cur (hcd.out.kpt hk) (hcm.out.kpt (hkw.out.tr hk)) hn4 (by omega) (by omega))
          have HDb := hdb
          clear hdn hbo' r2 r3 hcm
          go_wp2
          refine Code.wp_mono (Q := R21 ?A2 (fun o cn w' => Ddq w wr w' n bo (doD l (j + 1) 0 L) o cn)) ?cont2 ?reg2
          case reg2 =>
            repeat (rename_i hh; clear hh)
            refine wp_region_held_drew (S := fun w' => Kept wr w' (some bo)) (by kernel_rfl) (kept_drw _ _) (fun hHeld => ?_)
            refine hold_take (i := 1) (v := ?rv124) rfl rfl (by kernel_rfl) (by kernel_rfl) (by kernel_rfl) (fun _ _ _ h => h) (Or.inl ⟨by rfl, ?rhy124⟩) hHeld ?rrest124
            case rhy124 => first | (intro w hSw; (try dsimp only at hSw); go_simp; done) | (intro w hSw; (try dsimp only at hSw); go_simp; with_reducible rfl)
            try simp only [List.setIfInBounds_toArray, List.set_cons_zero, List.set_cons_succ]
            refine hold_take (i := 2) (v := ?rv125) rfl rfl (by kernel_rfl) (by kernel_rfl) (by kernel_rfl) (fun _ _ _ h => h) (Or.inl ⟨by rfl, ?rhy125⟩) hHeld ?rrest125
            case rhy125 => first | (intro w hSw; (try dsimp only at hSw); go_simp; done) | (intro w hSw; (try dsimp only at hSw); go_simp; with_reducible rfl)
            try simp only [List.setIfInBounds_toArray, List.set_cons_zero, List.set_cons_succ]
            refine hold_take (i := 3) (v := ?rv126) rfl rfl (by kernel_rfl) (by kernel_rfl) (by kernel_rfl) (fun _ _ _ h => h) (Or.inl ⟨by rfl, ?rhy126⟩) hHeld ?rrest126
            case rhy126 => first | (intro w hSw; (try dsimp only at hSw); go_simp; done) | (intro w hSw; (try dsimp only at hSw); go_simp; with_reducible rfl)
            try simp only [List.setIfInBounds_toArray, List.set_cons_zero, List.set_cons_succ]
            refine hold_take (i := 4) (v := ?rv127) rfl rfl (by kernel_rfl) (by kernel_rfl) (by kernel_rfl) (fun _ _ _ h => h) (Or.inl ⟨by rfl, ?rhy127⟩) hHeld ?rrest127
            case rhy127 => first | (intro w hSw; (try dsimp only at hSw); go_simp; done) | (intro w hSw; (try dsimp only at hSw); go_simp; with_reducible rfl)
            try simp only [List.setIfInBounds_toArray, List.set_cons_zero, List.set_cons_succ]
            refine hold_take (i := 5) (v := ?rv128) rfl rfl (by kernel_rfl) (by kernel_rfl) (by kernel_rfl) (fun _ _ _ h => h) (Or.inl ⟨by rfl, ?rhy128⟩) hHeld ?rrest128
            case rhy128 => first | (intro w hSw; (try dsimp only at hSw); go_simp; done) | (intro w hSw; (try dsimp only at hSw); go_simp; with_reducible rfl)
            try simp only [List.setIfInBounds_toArray, List.set_cons_zero, List.set_cons_succ]
            refine hold_take (i := 6) (v := ?rv129) rfl rfl (by kernel_rfl) (by kernel_rfl) (by kernel_rfl) (fun _ _ _ h => h) (Or.inl ⟨by rfl, ?rhy129⟩) hHeld ?rrest129
            case rhy129 => first | (intro w hSw; (try dsimp only at hSw); go_simp; done) | (intro w hSw; (try dsimp only at hSw); go_simp; with_reducible rfl)
            try simp only [List.setIfInBounds_toArray, List.set_cons_zero, List.set_cons_succ]
            refine hold_take (i := 7) (v := ?rv130) rfl rfl (by kernel_rfl) (by kernel_rfl) (by kernel_rfl) (fun _ _ _ h => h) (Or.inl ⟨by rfl, ?rhy130⟩) hHeld ?rrest130
            case rhy130 => first | (intro w hSw; (try dsimp only at hSw); go_simp; done) | (intro w hSw; (try dsimp only at hSw); go_simp; with_reducible rfl)
            try simp only [List.setIfInBounds_toArray, List.set_cons_zero, List.set_cons_succ]
            refine hold_take (i := 8) (v := ?rv131) rfl rfl (by kernel_rfl) (by kernel_rfl) (by kernel_rfl) (fun _ _ _ h => h) (Or.inl ⟨by rfl, ?rhy131⟩) hHeld ?rrest131
            case rhy131 => first | (intro w hSw; (try dsimp only at hSw); go_simp; done) | (intro w hSw; (try dsimp only at hSw); go_simp; with_reducible rfl)
            try simp only [List.setIfInBounds_toArray, List.set_cons_zero, List.set_cons_succ]
            refine hold_take (i := 9) (v := ?rv132) rfl rfl (by kernel_rfl) (by kernel_rfl) (by kernel_rfl) (fun _ _ _ h => h) (Or.inl ⟨by rfl, ?rhy132⟩) hHeld ?rrest132
            case rhy132 => first | (intro w hSw; (try dsimp only at hSw); go_simp; done) | (intro w hSw; (try dsimp only at hSw); go_simp; with_reducible rfl)
            try simp only [List.setIfInBounds_toArray, List.set_cons_zero, List.set_cons_succ]
            refine hold_take (i := 10) (v := ?rv133) rfl rfl (by kernel_rfl) (by kernel_rfl) (by kernel_rfl) (fun _ _ _ h => h) (Or.inl ⟨by rfl, ?rhy133⟩) hHeld ?rrest133
            case rhy133 => first | (intro w hSw; (try dsimp only at hSw); go_simp; done) | (intro w hSw; (try dsimp only at hSw); go_simp; with_reducible rfl)
            try simp only [List.setIfInBounds_toArray, List.set_cons_zero, List.set_cons_succ]
            refine wpAnyH_ready (rs := [0]) (by kernel_rfl) (by simp) ?_
            refine (AllReadyH.cons rfl (fun K hK => ?rz134x0) AllReadyH.nil)
            case rz134x0 =>
              have d0 := (HDb.out.kept (kept_drw wr none)).c0
              go_simp
              refine hK.out _ _ hHeld (fun hHeld => ?_)
              clear hK K d0
              refine wpAnyH_ready (rs := [11]) (by kernel_rfl) (by simp) ?_
              refine (AllReadyH.cons rfl (fun K hK => ?rz135x11) AllReadyH.nil)
              case rz135x11 =>
                go_simp
                refine (HPUT.out wr.drew (kept_drw wr none)).mono ?_
                rintro e wv ⟨o, cn, rfl, hv, hk⟩
                dsimp only
                have hnew := hHeld.tr (hk.sm (some bo))
                have HV := Hid.mk' hv
                have HB2 := Hid.mk' ((HDb.out.kept (kept_drw wr none)).kept hk)
                refine hK.out _ _ hnew (fun hHeld => ?_)
                clear hK K hk hnew hv
                refine wpAnyH_ready (rs := [12]) (by kernel_rfl) (by simp) ?_
                refine (AllReadyH.cons rfl (fun K hK => ?rz136x12) AllReadyH.nil)
                case rz136x12 =>
                  have d0 := HB2.out.c0
                  have e0 := HB2.out.f0
                  have d1 := HB2.out.lt
                  go_simp
                  have hnew := Kept.setRow hHeld 0 (.slice o n cn)
                  have hfin : Ddq w wr _ n bo (doD l (j + 1) 0 L) o cn := ⟨hnew, (HV.out.far (b := bo) HDb.out.lt 0 _).come, HB2.out.set _ _ _, fun x hx => by
                                        rcases HV.out.at_ with ⟨e, _⟩ | ⟨g, e, hg, _⟩
                                        · rw [e] at hx; cases hx
                                        · rw [e] at hx; injection hx with hx; subst hx; have h1 := HDb.out.lt; have h2 := HBO.out; have h3 : wr.heap.size ≤ g := hg; show w.heap.size + 2 ≤ g; omega⟩
                  refine hK.out _ _ hnew (fun hHeld => ?_)
                  clear hK K hnew
                  refine wpAnyH_done (by kernel_rfl) ?_ _
                  refine ⟨o, cn, ?_, hfin⟩
                  with_reducible rfl
          case cont2 =>
          intro e a' w5 hq
          obtain ⟨rfl, o, cn, rfl, hA⟩ := hq.out
          have HK5 := Hid.mk' (hkw.out.newRow hA.kept (fun i e => by cases e; have := HBO.out; omega))
          have HR5 := Hid.mk' (hrb.out.row hA.kept (by have := HBO.out; omega))
          have HD5 := Hid.mk' hA.bx
          have HC5 := Hid.mk' hA.come
          have hqn := Hid.mk' hA.ne
          clear hA hn0 hn1
          have HN5 : Hid (∀ x, o = some x → w.heap.size + 2 ≤ x.block) := hqn
          go_wp2
          go_roundw
          case rel => exact ⟨j + 1, by omega, by go_num, o, cn, HK5, HD5, HC5, HR5, HN5⟩
          case measure => simp [intOf]; omega
        · have hjw2 : j = wh := by omega
          subst hjw2
          have HNEa3 := hne
          have c5 := hdb.out.c0
          have c6 := hdb.out.lt
          have r5 := hrb.out.c0
          have r6 := hrb.out.f0
          have r7 := hrb.out.lt
          go_wp2
          refine bodyPost_ret (v := .tuple #[dvV a3 n c3, .int .i64 0]) (by simp [results, Try.results21, go_sem, *]; done) rfl ⟨a3, c3, rfl, ?_, ?_⟩
          · exact Hid.mk' (hcd.out.far (b := w.heap.size + 1) 0 _ (fun x hx => by have := HNEa3.out x hx; omega))
          · exact hkw.out.setNew (p := ⟨w.heap.size + 1, 0, none⟩) (show w.heap.size ≤ w.heap.size + 1 by omega) _

end Go.Proofs.Ytpfbdandhdapcaa
