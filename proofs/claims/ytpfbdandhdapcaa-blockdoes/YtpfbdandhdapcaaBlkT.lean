/-
  THE DOCUMENT'S OWN Do (made by a program).
-/
import Derived.Test.YtpfbdandhdapcaaBlkS
import Derived.Test.YtpfbdandhdapcaaBTorM
namespace Go.Proofs.Ytpfbdandhdapcaa
open Go.RowKit Go.Lib Go.Deep
set_option linter.unusedVariables false
set_option linter.unusedSimpArgs false

theorem Plw.at2 {w : World} {b off m : Nat} {l : List Pw} (h : Plw w (some ⟨b, off, none⟩) m l) {i : Nat} (hi : i < l.length) : ∃ a c, b < w.heap.size ∧ Hid (w.cell? ⟨b, off + i * 2, none⟩ = some (.int .i64 l[i].n)) ∧ Hid (w.cell? ⟨b, off + i * 2 + 1, none⟩ = some (.slice a l[i].data.length c)) ∧ Hid (Come w a l[i].data.length c l[i].data) := by
  obtain ⟨b', off', e, hb, hc⟩ := h.at_ (by have := h.size; omega)
  injection e with e
  injection e with e1 e2 e3
  subst e1 e2
  obtain ⟨a, c, p0, p1, p2⟩ := hc i l[i] (by simp)
  exact ⟨a, c, hb, Hid.mk' p0, Hid.mk' p1, Hid.mk' p2⟩
theorem cell_row {w wr w' : World} {b i r : Nat} {v : Value} (hk : Kept w wr none) (hb : b < w.heap.size) (hq : Kept wr w' (some r)) (hr : w.heap.size ≤ r) (h : w.cell? ⟨b, i, none⟩ = some v) : w'.cell? ⟨b, i, none⟩ = some v :=
  (World.cell?_of_block (w := wr) (a := ⟨b, i, none⟩) (hq.block b (Nat.lt_of_lt_of_le hb hk.size) (fun e => by have := Option.some.inj e; omega))).trans ((cell_kpt hk hb).trans h)
def Ek (n : Nat) (l : List Pw) (k : Nat) : Int := if chkE n = 0 then wrE n (l.take k) else 180
theorem Ek_zero (n : Nat) (l : List Pw) : Ek n l 0 = chkE n := by
  unfold Ek
  rcases chk_cases n with ⟨h, _⟩ | h
  · rw [h]; rfl
  · rw [h]; rfl
theorem Ek_next {n : Nat} {l : List Pw} {k : Nat} (hk : k < l.length) (h : Ek n l k = 0) : asE n l[k].n l[k].data.length = Ek n l (k + 1) := by
  unfold Ek at h ⊢
  by_cases q : chkE n = 0
  · rw [if_pos q] at h ⊢
    rw [wr_at hk h]
    rfl
  · rw [if_neg q] at h; exact absurd h (by decide)
theorem Ek_all (n : Nat) (l : List Pw) : Ek n l l.length = cwE n l := by
  unfold Ek cwE
  rw [List.take_length]
theorem Ek_err {n : Nat} {l : List Pw} {k : Nat} (h : ¬ Ek n l k = 0) : Ek n l k = cwE n l := by
  unfold Ek at h ⊢
  unfold cwE
  by_cases q : chkE n = 0
  · rw [if_pos q] at h ⊢
    rw [if_pos q, wr_take h]
  · rw [if_neg q, if_neg q]
theorem Ek_ok {n : Nat} {l : List Pw} (h : cwE n l = 0) (k : Nat) : Ek n l k = 0 := by
  by_cases q : Ek n l k = 0
  · exact q
  · rw [Ek_err q, h]
/-- Behind a region that makes a device into a box. -/
def R21 (A : Option Addr → Nat → Act) (P : Option Addr → Nat → World → Prop) (e : Exit) (a : Act) (w : World) : Prop := match e with
  | .normal => ∃ o c, a = A o c ∧ P o c w
  | _ => False
theorem R21.out {A : Option Addr → Nat → Act} {P : Option Addr → Nat → World → Prop} {e : Exit} {a : Act} {w : World} (h : R21 A P e a w) : e = .normal ∧ ∃ o c, a = A o c ∧ P o c w := by
  cases e with
  | normal => exact ⟨rfl, h⟩
  | _ => exact h.elim
structure Ddr (wr w' : World) (n bo : Nat) (M : List Nat) (o : Option Addr) (c : Nat) : Prop where
  kept : Kept wr w' (some bo)
  come : Come w' o n c M
  bx : Db w' bo o n c
set_option maxRecDepth 100000 in
set_option maxHeartbeats 1000000 in
theorem rdo_err {a : Option Addr} {n c : Nat} {L : List Nat} {la : Option Addr} {m : Nat} (lc : Nat) {l : List Pw} (wh to : Int) (w : World) (hC : Come w a n c L) (hP : Plw w la m l) {F : Int} (hF : cwE n l = F) (hF0 : ¬ F = 0) : Calls Try.prog 21 #[dvV a n c, .slice la m lc, .int .i64 wh, .int .i64 to] w fun e w' => e = dvR none 0 0 F ∧ Kept w w' none := by
  have HC := Hid.mk' hC
  have HP := Hid.mk' hP
  have hn := hC.by_.max
  have hm := hP.max
  have HS := Hid.mk' hP.size
  clear hC hP
  have HF := Hid.mk' hF
  obtain ⟨E0, hE0⟩ : ∃ E0, Hid (chkE n = E0) := ⟨_, Hid.mk' rfl⟩
  have HCh := hE0
  clear hF
  go_enter Try.func21, Try.ntmps21
  go_wp2_with (go_at_call 22; refine (rchk_any a n c _ hn).mono ?_; (try rw [HCh.out]); rintro e w1 ⟨rfl, hk1⟩; have hkA : Kept w w1 none := ((Kept.alloc _ _ _ _ _).tr (Kept.alloc _ _ _ _ _)).tr hk1; have hRr := (db_alloc (w.alloc (.cells (dvC a n c) 24)) none 0 0 24).kept hk1; simp only [World.size_alloc] at hRr; have hIr := (((db_alloc w a n c 24).kept (Kept.alloc _ (dvC none 0 0) 24 (0, 0) none)).kept hk1); have HRr := Hid.mk' hRr; have HIr := Hid.mk' hIr; have HKA := Hid.mk' hkA; clear hRr hIr hk1 hkA)
  go_loopw [10, 11] (fun e i wr => ∃ k : Nat, k ≤ m ∧ i = .int .i64 k ∧ ∃ E : Int, e = .int .i64 E ∧ Hid (Ek n l k = E) ∧ Hid (Kept w1 wr none)) (fun _ i _ => m - (intOf i).toNat)
  case atStart => exact ⟨0, Nat.zero_le _, rfl, E0, rfl, Hid.mk' (by rw [Ek_zero, hE0.out]), Hid.mk' (Kept.refl _ _)⟩
  case round =>
    obtain ⟨k, hk, rfl, E, rfl, hE, hkr⟩ := hrel
    by_cases hz : E = 0
    · subst hz
      have hE0 := hE
      have hlt : k < m := by
        by_cases x : k < m
        · exact x
        · exfalso
          have e : k = l.length := by rw [HS.out]; omega
          have := hE.out
          rw [e, Ek_all, HF.out] at this
          exact hF0 this
      obtain ⟨b, off, rfl, _⟩ := HP.out.at_ (by omega)
      have hkl : k < l.length := by rw [HS.out]; exact hlt
      obtain ⟨ak, ck, hn0, hn1, hcm⟩ := (HP.out.kept (HKA.out.tr hkr.out)).get hkl
      have hqm := hcm.out.by_.max
      have hEn := Ek_next hkl hE0.out
      have hbx : ∀ w', Kept wr w' none → w'.cell? ⟨w.heap.size, 0, none⟩ = some (.slice a n c) := fun w' hq => ((HIr.out.kept hkr.out).kept hq).c0
      clear hcm
      generalize l[k].n = z at *
      generalize l[k].data.length = q at *
      clear hkl
      have HEn := Hid.mk' hEn
      clear hEn
      obtain ⟨E2, hE2⟩ : ∃ E2, asE n z q = E2 := ⟨_, rfl⟩
      have HAS := Hid.mk' (fun w' => hE2 ▸ rasked_any a n c z ak q ck w' hn hqm)
      rw [hE2] at HEn
      clear hE2
      have hkm : (k : Int) < m := by omega
      go_wp2
      refine Code.wp_mono (Q := Rbq ?A1 (fun w' => Kept wr w' none)) ?cont1 ?reg1
      case reg1 =>
        repeat (rename_i hh; clear hh)
        refine wp_region_held_drew (S := fun w' => Kept wr w' none) (by kernel_rfl) (kept_drw _ _) (fun hHeld => ?_)
        refine hold_take (i := 0) (v := ?rv13) rfl rfl (by kernel_rfl) (by kernel_rfl) (by kernel_rfl) (fun _ _ _ h => h) (Or.inl ⟨by rfl, ?rhy13⟩) hHeld ?rrest13
        case rhy13 => first | (intro w hSw; (try dsimp only at hSw); go_simp; done) | (intro w hSw; (try dsimp only at hSw); go_simp; with_reducible rfl)
        try simp only [List.setIfInBounds_toArray, List.set_cons_zero, List.set_cons_succ]
        refine hold_take (i := 1) (v := ?rv14) rfl rfl (by kernel_rfl) (by kernel_rfl) (by kernel_rfl) (fun _ _ _ h => h) (Or.inl ⟨by rfl, ?rhy14⟩) hHeld ?rrest14
        case rhy14 => first | (intro w hSw; (try dsimp only at hSw); go_simp; done) | (intro w hSw; (try dsimp only at hSw); go_simp; with_reducible rfl)
        try simp only [List.setIfInBounds_toArray, List.set_cons_zero, List.set_cons_succ]
        refine hold_take (i := 2) (v := ?rv15) rfl rfl (by kernel_rfl) (by kernel_rfl) (by kernel_rfl) (fun _ _ _ h => h) (Or.inl ⟨by rfl, ?rhy15⟩) hHeld ?rrest15
        case rhy15 => first | (intro w hSw; (try dsimp only at hSw); go_simp; done) | (intro w hSw; (try dsimp only at hSw); go_simp; with_reducible rfl)
        try simp only [List.setIfInBounds_toArray, List.set_cons_zero, List.set_cons_succ]
        refine hold_take (i := 3) (v := ?rv16) rfl rfl (by kernel_rfl) (by kernel_rfl) (by kernel_rfl) (fun _ _ _ h => h) (Or.inl ⟨by rfl, ?rhy16⟩) hHeld ?rrest16
        case rhy16 => first | (intro w hSw; (try dsimp only at hSw); go_simp; done) | (intro w hSw; (try dsimp only at hSw); go_simp; with_reducible rfl)
        try simp only [List.setIfInBounds_toArray, List.set_cons_zero, List.set_cons_succ]
        refine hold_take (i := 4) (v := ?rv17) rfl rfl (by kernel_rfl) (by kernel_rfl) (by kernel_rfl) (fun _ _ _ h => h) (Or.inl ⟨by rfl, ?rhy17⟩) hHeld ?rrest17
        case rhy17 => first | (intro w hSw; (try dsimp only at hSw); go_simp; done) | (intro w hSw; (try dsimp only at hSw); go_simp; with_reducible rfl)
        try simp only [List.setIfInBounds_toArray, List.set_cons_zero, List.set_cons_succ]
        refine hold_take (i := 5) (v := ?rv18) rfl rfl (by kernel_rfl) (by kernel_rfl) (by kernel_rfl) (fun _ _ _ h => h) (Or.inl ⟨by rfl, ?rhy18⟩) hHeld ?rrest18
        case rhy18 => first | (intro w hSw; (try dsimp only at hSw); go_simp; done) | (intro w hSw; (try dsimp only at hSw); go_simp; with_reducible rfl)
        try simp only [List.setIfInBounds_toArray, List.set_cons_zero, List.set_cons_succ]
        refine hold_take (i := 6) (v := ?rv19) rfl rfl (by kernel_rfl) (by kernel_rfl) (by kernel_rfl) (fun _ _ _ h => h) (Or.inl ⟨by rfl, ?rhy19⟩) hHeld ?rrest19
        case rhy19 => first | (intro w hSw; (try dsimp only at hSw); go_simp; done) | (intro w hSw; (try dsimp only at hSw); go_simp; with_reducible rfl)
        try simp only [List.setIfInBounds_toArray, List.set_cons_zero, List.set_cons_succ]
        refine hold_take (i := 7) (v := ?rv20) rfl rfl (by kernel_rfl) (by kernel_rfl) (by kernel_rfl) (fun _ _ _ h => h) (Or.inl ⟨by rfl, ?rhy20⟩) hHeld ?rrest20
        case rhy20 => first | (intro w hSw; (try dsimp only at hSw); go_simp; done) | (intro w hSw; (try dsimp only at hSw); go_simp; with_reducible rfl)
        try simp only [List.setIfInBounds_toArray, List.set_cons_zero, List.set_cons_succ]
        refine hold_take (i := 8) (v := ?rv21) rfl rfl (by kernel_rfl) (by kernel_rfl) (by kernel_rfl) (fun _ _ _ h => h) (Or.inl ⟨by rfl, ?rhy21⟩) hHeld ?rrest21
        case rhy21 => first | (intro w hSw; (try dsimp only at hSw); go_simp; done) | (intro w hSw; (try dsimp only at hSw); go_simp; with_reducible rfl)
        try simp only [List.setIfInBounds_toArray, List.set_cons_zero, List.set_cons_succ]
        refine hold_take (i := 9) (v := ?rv22) rfl rfl (by kernel_rfl) (by kernel_rfl) (by kernel_rfl) (fun _ _ _ h => h) (Or.inl ⟨by rfl, ?rhy22⟩) hHeld ?rrest22
        case rhy22 => first | (intro w hSw; (try dsimp only at hSw); go_simp; done) | (intro w hSw; (try dsimp only at hSw); go_simp; with_reducible rfl)
        try simp only [List.setIfInBounds_toArray, List.set_cons_zero, List.set_cons_succ]
        refine hold_take (i := 10) (v := ?rv23) rfl rfl (by kernel_rfl) (by kernel_rfl) (by kernel_rfl) (fun _ _ _ h => h) (Or.inl ⟨by rfl, ?rhy23⟩) hHeld ?rrest23
        case rhy23 => first | (intro w hSw; (try dsimp only at hSw); go_simp; done) | (intro w hSw; (try dsimp only at hSw); go_simp; with_reducible rfl)
        try simp only [List.setIfInBounds_toArray, List.set_cons_zero, List.set_cons_succ]
        refine wpAnyH_ready (rs := [11]) (by kernel_rfl) (by simp) ?_
        refine (AllReadyH.cons rfl (fun K hK => ?rz24x11) AllReadyH.nil)
        case rz24x11 =>
          go_simp
          refine (HAS.out wr.drew).mono ?_
          rintro e wv25 ⟨rfl, hk⟩
          dsimp only
          have hnew := hHeld.tr hk
          refine hK.out _ _ hnew (fun hHeld => ?_)
          clear hK K hk hnew
          refine hold_take (i := 12) (v := ?rv26) rfl rfl (by kernel_rfl) (by kernel_rfl) (by kernel_rfl) (fun _ _ _ h => h) (Or.inl ⟨by rfl, ?rhy26⟩) hHeld ?rrest26
          case rhy26 => first | (intro w hSw; (try dsimp only at hSw); go_simp; done) | (intro w hSw; (try dsimp only at hSw); go_simp; with_reducible rfl)
          try simp only [List.setIfInBounds_toArray, List.set_cons_zero, List.set_cons_succ]
          refine wpAnyH_done (by kernel_rfl) ?_ _
          refine And.intro ?_ hHeld
          with_reducible rfl
      case cont1 =>
      intro e a' w5 hq
      obtain ⟨rfl, rfl, hk5⟩ := hq.out
      go_wp2
      go_roundw
      case rel => exact ⟨k + 1, by omega, by go_num, E2, rfl, Hid.mk' HEn.out.symm, Hid.mk' (hkr.out.tr hk5)⟩
      case measure => simp [intOf]; omega
    · have e : E = F := by rw [← hE.out, Ek_err (by rw [hE.out]; exact hz), HF.out]
      subst e
      have hzb : (E == 0) = false := by simpa using hz
      have hrz := HRr.out.kept hkr.out
      have r0 := hrz.c0
      have r1 := hrz.f0
      have r2 := hrz.lt
      by_cases hlt : k < m
      · have hkm : (k : Int) < m := by omega
        go_wp2
        refine bodyPost_ret (v := .tuple #[dvV _ _ _, .int .i64 _]) (by simp [results, Try.results21, go_sem, *]; done) rfl ⟨rfl, ?_⟩
        exact (HKA.out.tr hkr.out).setNew (p := ⟨w.heap.size + 1, 0, none⟩) (show w.heap.size ≤ w.heap.size + 1 by omega) _
      · have hkm : ¬ (k : Int) < m := by omega
        go_wp2
        refine bodyPost_ret (v := .tuple #[dvV _ _ _, .int .i64 _]) (by simp [results, Try.results21, go_sem, *]; done) rfl ⟨rfl, ?_⟩
        exact (HKA.out.tr hkr.out).setNew (p := ⟨w.heap.size + 1, 0, none⟩) (show w.heap.size ≤ w.heap.size + 1 by omega) _
set_option maxRecDepth 100000 in
set_option maxHeartbeats 1000000 in
theorem rdo_arga {a : Option Addr} {n c : Nat} {L : List Nat} {la : Option Addr} {m : Nat} (lc : Nat) {l : List Pw} (wh to : Int) (w : World) (hC : Come w a n c L) (hP : Plw w la m l) (hF : cwE n l = 0) (b : wh < 0) : Calls Try.prog 21 #[dvV a n c, .slice la m lc, .int .i64 wh, .int .i64 to] w fun e w' => e = dvR none 0 0 2 ∧ Kept w w' none := by
  have HC := Hid.mk' hC
  have HP := Hid.mk' hP
  have hn := hC.by_.max
  have hm := hP.max
  have HS := Hid.mk' hP.size
  clear hC hP
  have HF := Hid.mk' hF
  have HCh : Hid (chkE n = 0) := Hid.mk' (by have := Ek_zero n l; rw [Ek_ok hF 0] at this; exact this.symm)
  clear hF
  go_enter Try.func21, Try.ntmps21
  go_wp2_with (go_at_call 22; refine (rchk_any a n c _ hn).mono ?_; (try rw [HCh.out]); rintro e w1 ⟨rfl, hk1⟩; have hkA : Kept w w1 none := ((Kept.alloc _ _ _ _ _).tr (Kept.alloc _ _ _ _ _)).tr hk1; have hRr := (db_alloc (w.alloc (.cells (dvC a n c) 24)) none 0 0 24).kept hk1; simp only [World.size_alloc] at hRr; have hIr := (((db_alloc w a n c 24).kept (Kept.alloc _ (dvC none 0 0) 24 (0, 0) none)).kept hk1); have HRr := Hid.mk' hRr; have HIr := Hid.mk' hIr; have HKA := Hid.mk' hkA; clear hRr hIr hk1 hkA)
  go_loopw [10, 11] (fun e i wr => ∃ k : Nat, k ≤ m ∧ i = .int .i64 k ∧ e = .int .i64 0 ∧ Hid (Kept w1 wr none)) (fun _ i _ => m - (intOf i).toNat)
  case atStart => exact ⟨0, Nat.zero_le _, rfl, rfl, Hid.mk' (Kept.refl _ _)⟩
  case round =>
    obtain ⟨k, hk, rfl, rfl, hkr⟩ := hrel
    by_cases hlt : k < m
    · have hE0 := Hid.mk' (Ek_ok HF.out k)
      obtain ⟨b, off, rfl, _⟩ := HP.out.at_ (by omega)
      have hkl : k < l.length := by rw [HS.out]; exact hlt
      obtain ⟨ak, ck, hn0, hn1, hcm⟩ := (HP.out.kept (HKA.out.tr hkr.out)).get hkl
      have hqm := hcm.out.by_.max
      have hEn := Ek_next hkl hE0.out
      have hbx : ∀ w', Kept wr w' none → w'.cell? ⟨w.heap.size, 0, none⟩ = some (.slice a n c) := fun w' hq => ((HIr.out.kept hkr.out).kept hq).c0
      clear hcm
      generalize l[k].n = z at *
      generalize l[k].data.length = q at *
      clear hkl
      have HEn := Hid.mk' hEn
      clear hEn
      obtain ⟨E2, hE2⟩ : ∃ E2, asE n z q = E2 := ⟨_, rfl⟩
      have HAS := Hid.mk' (fun w' => hE2 ▸ rasked_any a n c z ak q ck w' hn hqm)
      rw [hE2] at HEn
      clear hE2
      have hkm : (k : Int) < m := by omega
      go_wp2
      refine Code.wp_mono (Q := Rbq ?A1 (fun w' => Kept wr w' none)) ?cont1 ?reg1
      case reg1 =>
        repeat (rename_i hh; clear hh)
        refine wp_region_held_drew (S := fun w' => Kept wr w' none) (by kernel_rfl) (kept_drw _ _) (fun hHeld => ?_)
        refine hold_take (i := 0) (v := ?rv27) rfl rfl (by kernel_rfl) (by kernel_rfl) (by kernel_rfl) (fun _ _ _ h => h) (Or.inl ⟨by rfl, ?rhy27⟩) hHeld ?rrest27
        case rhy27 => first | (intro w hSw; (try dsimp only at hSw); go_simp; done) | (intro w hSw; (try dsimp only at hSw); go_simp; with_reducible rfl)
        try simp only [List.setIfInBounds_toArray, List.set_cons_zero, List.set_cons_succ]
        refine hold_take (i := 1) (v := ?rv28) rfl rfl (by kernel_rfl) (by kernel_rfl) (by kernel_rfl) (fun _ _ _ h => h) (Or.inl ⟨by rfl, ?rhy28⟩) hHeld ?rrest28
        case rhy28 => first | (intro w hSw; (try dsimp only at hSw); go_simp; done) | (intro w hSw; (try dsimp only at hSw); go_simp; with_reducible rfl)
        try simp only [List.setIfInBounds_toArray, List.set_cons_zero, List.set_cons_succ]
        refine hold_take (i := 2) (v := ?rv29) rfl rfl (by kernel_rfl) (by kernel_rfl) (by kernel_rfl) (fun _ _ _ h => h) (Or.inl ⟨by rfl, ?rhy29⟩) hHeld ?rrest29
        case rhy29 => first | (intro w hSw; (try dsimp only at hSw); go_simp; done) | (intro w hSw; (try dsimp only at hSw); go_simp; with_reducible rfl)
        try simp only [List.setIfInBounds_toArray, List.set_cons_zero, List.set_cons_succ]
        refine hold_take (i := 3) (v := ?rv30) rfl rfl (by kernel_rfl) (by kernel_rfl) (by kernel_rfl) (fun _ _ _ h => h) (Or.inl ⟨by rfl, ?rhy30⟩) hHeld ?rrest30
        case rhy30 => first | (intro w hSw; (try dsimp only at hSw); go_simp; done) | (intro w hSw; (try dsimp only at hSw); go_simp; with_reducible rfl)
        try simp only [List.setIfInBounds_toArray, List.set_cons_zero, List.set_cons_succ]
        refine hold_take (i := 4) (v := ?rv31) rfl rfl (by kernel_rfl) (by kernel_rfl) (by kernel_rfl) (fun _ _ _ h => h) (Or.inl ⟨by rfl, ?rhy31⟩) hHeld ?rrest31
        case rhy31 => first | (intro w hSw; (try dsimp only at hSw); go_simp; done) | (intro w hSw; (try dsimp only at hSw); go_simp; with_reducible rfl)
        try simp only [List.setIfInBounds_toArray, List.set_cons_zero, List.set_cons_succ]
        refine hold_take (i := 5) (v := ?rv32) rfl rfl (by kernel_rfl) (by kernel_rfl) (by kernel_rfl) (fun _ _ _ h => h) (Or.inl ⟨by rfl, ?rhy32⟩) hHeld ?rrest32
        case rhy32 => first | (intro w hSw; (try dsimp only at hSw); go_simp; done) | (intro w hSw; (try dsimp only at hSw); go_simp; with_reducible rfl)
        try simp only [List.setIfInBounds_toArray, List.set_cons_zero, List.set_cons_succ]
        refine hold_take (i := 6) (v := ?rv33) rfl rfl (by kernel_rfl) (by kernel_rfl) (by kernel_rfl) (fun _ _ _ h => h) (Or.inl ⟨by rfl, ?rhy33⟩) hHeld ?rrest33
        case rhy33 => first | (intro w hSw; (try dsimp only at hSw); go_simp; done) | (intro w hSw; (try dsimp only at hSw); go_simp; with_reducible rfl)
        try simp only [List.setIfInBounds_toArray, List.set_cons_zero, List.set_cons_succ]
        refine hold_take (i := 7) (v := ?rv34) rfl rfl (by kernel_rfl) (by kernel_rfl) (by kernel_rfl) (fun _ _ _ h => h) (Or.inl ⟨by rfl, ?rhy34⟩) hHeld ?rrest34
        case rhy34 => first | (intro w hSw; (try dsimp only at hSw); go_simp; done) | (intro w hSw; (try dsimp only at hSw); go_simp; with_reducible rfl)
        try simp only [List.setIfInBounds_toArray, List.set_cons_zero, List.set_cons_succ]
        refine hold_take (i := 8) (v := ?rv35) rfl rfl (by kernel_rfl) (by kernel_rfl) (by kernel_rfl) (fun _ _ _ h => h) (Or.inl ⟨by rfl, ?rhy35⟩) hHeld ?rrest35
        case rhy35 => first | (intro w hSw; (try dsimp only at hSw); go_simp; done) | (intro w hSw; (try dsimp only at hSw); go_simp; with_reducible rfl)
        try simp only [List.setIfInBounds_toArray, List.set_cons_zero, List.set_cons_succ]
        refine hold_take (i := 9) (v := ?rv36) rfl rfl (by kernel_rfl) (by kernel_rfl) (by kernel_rfl) (fun _ _ _ h => h) (Or.inl ⟨by rfl, ?rhy36⟩) hHeld ?rrest36
        case rhy36 => first | (intro w hSw; (try dsimp only at hSw); go_simp; done) | (intro w hSw; (try dsimp only at hSw); go_simp; with_reducible rfl)
        try simp only [List.setIfInBounds_toArray, List.set_cons_zero, List.set_cons_succ]
        refine hold_take (i := 10) (v := ?rv37) rfl rfl (by kernel_rfl) (by kernel_rfl) (by kernel_rfl) (fun _ _ _ h => h) (Or.inl ⟨by rfl, ?rhy37⟩) hHeld ?rrest37
        case rhy37 => first | (intro w hSw; (try dsimp only at hSw); go_simp; done) | (intro w hSw; (try dsimp only at hSw); go_simp; with_reducible rfl)
        try simp only [List.setIfInBounds_toArray, List.set_cons_zero, List.set_cons_succ]
        refine wpAnyH_ready (rs := [11]) (by kernel_rfl) (by simp) ?_
        refine (AllReadyH.cons rfl (fun K hK => ?rz38x11) AllReadyH.nil)
        case rz38x11 =>
          go_simp
          refine (HAS.out wr.drew).mono ?_
          rintro e wv39 ⟨rfl, hk⟩
          dsimp only
          have hnew := hHeld.tr hk
          refine hK.out _ _ hnew (fun hHeld => ?_)
          clear hK K hk hnew
          refine hold_take (i := 12) (v := ?rv40) rfl rfl (by kernel_rfl) (by kernel_rfl) (by kernel_rfl) (fun _ _ _ h => h) (Or.inl ⟨by rfl, ?rhy40⟩) hHeld ?rrest40
          case rhy40 => first | (intro w hSw; (try dsimp only at hSw); go_simp; done) | (intro w hSw; (try dsimp only at hSw); go_simp; with_reducible rfl)
          try simp only [List.setIfInBounds_toArray, List.set_cons_zero, List.set_cons_succ]
          refine wpAnyH_done (by kernel_rfl) ?_ _
          refine And.intro ?_ hHeld
          with_reducible rfl
      case cont1 =>
      intro e a' w5 hq
      obtain ⟨rfl, rfl, hk5⟩ := hq.out
      have e2 : E2 = 0 := by rw [HEn.out, Ek_ok HF.out]
      subst e2
      go_wp2
      go_roundw
      case rel => exact ⟨k + 1, by omega, by go_num, rfl, Hid.mk' (hkr.out.tr hk5)⟩
      case measure => simp [intOf]; omega
    · have hkm : k = m := by omega
      subst hkm
      have hrz := HRr.out.kept hkr.out
      have r0 := hrz.c0
      have r1 := hrz.f0
      have r2 := hrz.lt
      go_wp2
      refine bodyPost_ret (v := .tuple #[dvV _ _ _, .int .i64 _]) (by simp [results, Try.results21, go_sem, *]; done) rfl ⟨rfl, ?_⟩
      exact (HKA.out.tr hkr.out).setNew (p := ⟨w.heap.size + 1, 0, none⟩) (show w.heap.size ≤ w.heap.size + 1 by omega) _
set_option maxRecDepth 100000 in
set_option maxHeartbeats 1000000 in
theorem rdo_argb {a : Option Addr} {n c : Nat} {L : List Nat} {la : Option Addr} {m : Nat} (lc : Nat) {l : List Pw} (wh to : Int) (w : World) (hC : Come w a n c L) (hP : Plw w la m l) (hF : cwE n l = 0) (b : 0 ≤ wh) (b2 : (m : Int) < wh) : Calls Try.prog 21 #[dvV a n c, .slice la m lc, .int .i64 wh, .int .i64 to] w fun e w' => e = dvR none 0 0 2 ∧ Kept w w' none := by
  have HC := Hid.mk' hC
  have HP := Hid.mk' hP
  have hn := hC.by_.max
  have hm := hP.max
  have HS := Hid.mk' hP.size
  clear hC hP
  have HF := Hid.mk' hF
  have HCh : Hid (chkE n = 0) := Hid.mk' (by have := Ek_zero n l; rw [Ek_ok hF 0] at this; exact this.symm)
  clear hF
  go_enter Try.func21, Try.ntmps21
  go_wp2_with (go_at_call 22; refine (rchk_any a n c _ hn).mono ?_; (try rw [HCh.out]); rintro e w1 ⟨rfl, hk1⟩; have hkA : Kept w w1 none := ((Kept.alloc _ _ _ _ _).tr (Kept.alloc _ _ _ _ _)).tr hk1; have hRr := (db_alloc (w.alloc (.cells (dvC a n c) 24)) none 0 0 24).kept hk1; simp only [World.size_alloc] at hRr; have hIr := (((db_alloc w a n c 24).kept (Kept.alloc _ (dvC none 0 0) 24 (0, 0) none)).kept hk1); have HRr := Hid.mk' hRr; have HIr := Hid.mk' hIr; have HKA := Hid.mk' hkA; clear hRr hIr hk1 hkA)
  go_loopw [10, 11] (fun e i wr => ∃ k : Nat, k ≤ m ∧ i = .int .i64 k ∧ e = .int .i64 0 ∧ Hid (Kept w1 wr none)) (fun _ i _ => m - (intOf i).toNat)
  case atStart => exact ⟨0, Nat.zero_le _, rfl, rfl, Hid.mk' (Kept.refl _ _)⟩
  case round =>
    obtain ⟨k, hk, rfl, rfl, hkr⟩ := hrel
    by_cases hlt : k < m
    · have hE0 := Hid.mk' (Ek_ok HF.out k)
      obtain ⟨b, off, rfl, _⟩ := HP.out.at_ (by omega)
      have hkl : k < l.length := by rw [HS.out]; exact hlt
      obtain ⟨ak, ck, hn0, hn1, hcm⟩ := (HP.out.kept (HKA.out.tr hkr.out)).get hkl
      have hqm := hcm.out.by_.max
      have hEn := Ek_next hkl hE0.out
      have hbx : ∀ w', Kept wr w' none → w'.cell? ⟨w.heap.size, 0, none⟩ = some (.slice a n c) := fun w' hq => ((HIr.out.kept hkr.out).kept hq).c0
      clear hcm
      generalize l[k].n = z at *
      generalize l[k].data.length = q at *
      clear hkl
      have HEn := Hid.mk' hEn
      clear hEn
      obtain ⟨E2, hE2⟩ : ∃ E2, asE n z q = E2 := ⟨_, rfl⟩
      have HAS := Hid.mk' (fun w' => hE2 ▸ rasked_any a n c z ak q ck w' hn hqm)
      rw [hE2] at HEn
      clear hE2
      have hkm : (k : Int) < m := by omega
      go_wp2
      refine Code.wp_mono (Q := Rbq ?A1 (fun w' => Kept wr w' none)) ?cont1 ?reg1
      case reg1 =>
        repeat (rename_i hh; clear hh)
        refine wp_region_held_drew (S := fun w' => Kept wr w' none) (by kernel_rfl) (kept_drw _ _) (fun hHeld => ?_)
        refine hold_take (i := 0) (v := ?rv41) rfl rfl (by kernel_rfl) (by kernel_rfl) (by kernel_rfl) (fun _ _ _ h => h) (Or.inl ⟨by rfl, ?rhy41⟩) hHeld ?rrest41
        case rhy41 => first | (intro w hSw; (try dsimp only at hSw); go_simp; done) | (intro w hSw; (try dsimp only at hSw); go_simp; with_reducible rfl)
        try simp only [List.setIfInBounds_toArray, List.set_cons_zero, List.set_cons_succ]
        refine hold_take (i := 1) (v := ?rv42) rfl rfl (by kernel_rfl) (by kernel_rfl) (by kernel_rfl) (fun _ _ _ h => h) (Or.inl ⟨by rfl, ?rhy42⟩) hHeld ?rrest42
        case rhy42 => first | (intro w hSw; (try dsimp only at hSw); go_simp; done) | (intro w hSw; (try dsimp only at hSw); go_simp; with_reducible rfl)
        try simp only [List.setIfInBounds_toArray, List.set_cons_zero, List.set_cons_succ]
        refine hold_take (i := 2) (v := ?rv43) rfl rfl (by kernel_rfl) (by kernel_rfl) (by kernel_rfl) (fun _ _ _ h => h) (Or.inl ⟨by rfl, ?rhy43⟩) hHeld ?rrest43
        case rhy43 => first | (intro w hSw; (try dsimp only at hSw); go_simp; done) | (intro w hSw; (try dsimp only at hSw); go_simp; with_reducible rfl)
        try simp only [List.setIfInBounds_toArray, List.set_cons_zero, List.set_cons_succ]
        refine hold_take (i := 3) (v := ?rv44) rfl rfl (by kernel_rfl) (by kernel_rfl) (by kernel_rfl) (fun _ _ _ h => h) (Or.inl ⟨by rfl, ?rhy44⟩) hHeld ?rrest44
        case rhy44 => first | (intro w hSw; (try dsimp only at hSw); go_simp; done) | (intro w hSw; (try dsimp only at hSw); go_simp; with_reducible rfl)
        try simp only [List.setIfInBounds_toArray, List.set_cons_zero, List.set_cons_succ]
        refine hold_take (i := 4) (v := ?rv45) rfl rfl (by kernel_rfl) (by kernel_rfl) (by kernel_rfl) (fun _ _ _ h => h) (Or.inl ⟨by rfl, ?rhy45⟩) hHeld ?rrest45
        case rhy45 => first | (intro w hSw; (try dsimp only at hSw); go_simp; done) | (intro w hSw; (try dsimp only at hSw); go_simp; with_reducible rfl)
        try simp only [List.setIfInBounds_toArray, List.set_cons_zero, List.set_cons_succ]
        refine hold_take (i := 5) (v := ?rv46) rfl rfl (by kernel_rfl) (by kernel_rfl) (by kernel_rfl) (fun _ _ _ h => h) (Or.inl ⟨by rfl, ?rhy46⟩) hHeld ?rrest46
        case rhy46 => first | (intro w hSw; (try dsimp only at hSw); go_simp; done) | (intro w hSw; (try dsimp only at hSw); go_simp; with_reducible rfl)
        try simp only [List.setIfInBounds_toArray, List.set_cons_zero, List.set_cons_succ]
        refine hold_take (i := 6) (v := ?rv47) rfl rfl (by kernel_rfl) (by kernel_rfl) (by kernel_rfl) (fun _ _ _ h => h) (Or.inl ⟨by rfl, ?rhy47⟩) hHeld ?rrest47
        case rhy47 => first | (intro w hSw; (try dsimp only at hSw); go_simp; done) | (intro w hSw; (try dsimp only at hSw); go_simp; with_reducible rfl)
        try simp only [List.setIfInBounds_toArray, List.set_cons_zero, List.set_cons_succ]
        refine hold_take (i := 7) (v := ?rv48) rfl rfl (by kernel_rfl) (by kernel_rfl) (by kernel_rfl) (fun _ _ _ h => h) (Or.inl ⟨by rfl, ?rhy48⟩) hHeld ?rrest48
        case rhy48 => first | (intro w hSw; (try dsimp only at hSw); go_simp; done) | (intro w hSw; (try dsimp only at hSw); go_simp; with_reducible rfl)
        try simp only [List.setIfInBounds_toArray, List.set_cons_zero, List.set_cons_succ]
        refine hold_take (i := 8) (v := ?rv49) rfl rfl (by kernel_rfl) (by kernel_rfl) (by kernel_rfl) (fun _ _ _ h => h) (Or.inl ⟨by rfl, ?rhy49⟩) hHeld ?rrest49
        case rhy49 => first | (intro w hSw; (try dsimp only at hSw); go_simp; done) | (intro w hSw; (try dsimp only at hSw); go_simp; with_reducible rfl)
        try simp only [List.setIfInBounds_toArray, List.set_cons_zero, List.set_cons_succ]
        refine hold_take (i := 9) (v := ?rv50) rfl rfl (by kernel_rfl) (by kernel_rfl) (by kernel_rfl) (fun _ _ _ h => h) (Or.inl ⟨by rfl, ?rhy50⟩) hHeld ?rrest50
        case rhy50 => first | (intro w hSw; (try dsimp only at hSw); go_simp; done) | (intro w hSw; (try dsimp only at hSw); go_simp; with_reducible rfl)
        try simp only [List.setIfInBounds_toArray, List.set_cons_zero, List.set_cons_succ]
        refine hold_take (i := 10) (v := ?rv51) rfl rfl (by kernel_rfl) (by kernel_rfl) (by kernel_rfl) (fun _ _ _ h => h) (Or.inl ⟨by rfl, ?rhy51⟩) hHeld ?rrest51
        case rhy51 => first | (intro w hSw; (try dsimp only at hSw); go_simp; done) | (intro w hSw; (try dsimp only at hSw); go_simp; with_reducible rfl)
        try simp only [List.setIfInBounds_toArray, List.set_cons_zero, List.set_cons_succ]
        refine wpAnyH_ready (rs := [11]) (by kernel_rfl) (by simp) ?_
        refine (AllReadyH.cons rfl (fun K hK => ?rz52x11) AllReadyH.nil)
        case rz52x11 =>
          go_simp
          refine (HAS.out wr.drew).mono ?_
          rintro e wv53 ⟨rfl, hk⟩
          dsimp only
          have hnew := hHeld.tr hk
          refine hK.out _ _ hnew (fun hHeld => ?_)
          clear hK K hk hnew
          refine hold_take (i := 12) (v := ?rv54) rfl rfl (by kernel_rfl) (by kernel_rfl) (by kernel_rfl) (fun _ _ _ h => h) (Or.inl ⟨by rfl, ?rhy54⟩) hHeld ?rrest54
          case rhy54 => first | (intro w hSw; (try dsimp only at hSw); go_simp; done) | (intro w hSw; (try dsimp only at hSw); go_simp; with_reducible rfl)
          try simp only [List.setIfInBounds_toArray, List.set_cons_zero, List.set_cons_succ]
          refine wpAnyH_done (by kernel_rfl) ?_ _
          refine And.intro ?_ hHeld
          with_reducible rfl
      case cont1 =>
      intro e a' w5 hq
      obtain ⟨rfl, rfl, hk5⟩ := hq.out
      have e2 : E2 = 0 := by rw [HEn.out, Ek_ok HF.out]
      subst e2
      go_wp2
      go_roundw
      case rel => exact ⟨k + 1, by omega, by go_num, rfl, Hid.mk' (hkr.out.tr hk5)⟩
      case measure => simp [intOf]; omega
    · have hkm : k = m := by omega
      subst hkm
      have hrz := HRr.out.kept hkr.out
      have r0 := hrz.c0
      have r1 := hrz.f0
      have r2 := hrz.lt
      go_wp2
      refine bodyPost_ret (v := .tuple #[dvV _ _ _, .int .i64 _]) (by simp [results, Try.results21, go_sem, *]; done) rfl ⟨rfl, ?_⟩
      exact (HKA.out.tr hkr.out).setNew (p := ⟨w.heap.size + 1, 0, none⟩) (show w.heap.size ≤ w.heap.size + 1 by omega) _
set_option maxRecDepth 100000 in
set_option maxHeartbeats 1000000 in
theorem rdo_argc {a : Option Addr} {n c : Nat} {L : List Nat} {la : Option Addr} {m : Nat} (lc : Nat) {l : List Pw} (wh to : Int) (w : World) (hC : Come w a n c L) (hP : Plw w la m l) (hF : cwE n l = 0) (b : 0 ≤ wh) (b2 : wh ≤ (m : Int)) (b3 : to < 0) : Calls Try.prog 21 #[dvV a n c, .slice la m lc, .int .i64 wh, .int .i64 to] w fun e w' => e = dvR none 0 0 2 ∧ Kept w w' none := by
  have HC := Hid.mk' hC
  have HP := Hid.mk' hP
  have hn := hC.by_.max
  have hm := hP.max
  have HS := Hid.mk' hP.size
  clear hC hP
  have HF := Hid.mk' hF
  have HCh : Hid (chkE n = 0) := Hid.mk' (by have := Ek_zero n l; rw [Ek_ok hF 0] at this; exact this.symm)
  clear hF
  go_enter Try.func21, Try.ntmps21
  go_wp2_with (go_at_call 22; refine (rchk_any a n c _ hn).mono ?_; (try rw [HCh.out]); rintro e w1 ⟨rfl, hk1⟩; have hkA : Kept w w1 none := ((Kept.alloc _ _ _ _ _).tr (Kept.alloc _ _ _ _ _)).tr hk1; have hRr := (db_alloc (w.alloc (.cells (dvC a n c) 24)) none 0 0 24).kept hk1; simp only [World.size_alloc] at hRr; have hIr := (((db_alloc w a n c 24).kept (Kept.alloc _ (dvC none 0 0) 24 (0, 0) none)).kept hk1); have HRr := Hid.mk' hRr; have HIr := Hid.mk' hIr; have HKA := Hid.mk' hkA; clear hRr hIr hk1 hkA)
  go_loopw [10, 11] (fun e i wr => ∃ k : Nat, k ≤ m ∧ i = .int .i64 k ∧ e = .int .i64 0 ∧ Hid (Kept w1 wr none)) (fun _ i _ => m - (intOf i).toNat)
  case atStart => exact ⟨0, Nat.zero_le _, rfl, rfl, Hid.mk' (Kept.refl _ _)⟩
  case round =>
    obtain ⟨k, hk, rfl, rfl, hkr⟩ := hrel
    by_cases hlt : k < m
    · have hE0 := Hid.mk' (Ek_ok HF.out k)
      obtain ⟨b, off, rfl, _⟩ := HP.out.at_ (by omega)
      have hkl : k < l.length := by rw [HS.out]; exact hlt
      obtain ⟨ak, ck, hn0, hn1, hcm⟩ := (HP.out.kept (HKA.out.tr hkr.out)).get hkl
      have hqm := hcm.out.by_.max
      have hEn := Ek_next hkl hE0.out
      have hbx : ∀ w', Kept wr w' none → w'.cell? ⟨w.heap.size, 0, none⟩ = some (.slice a n c) := fun w' hq => ((HIr.out.kept hkr.out).kept hq).c0
      clear hcm
      generalize l[k].n = z at *
      generalize l[k].data.length = q at *
      clear hkl
      have HEn := Hid.mk' hEn
      clear hEn
      obtain ⟨E2, hE2⟩ : ∃ E2, asE n z q = E2 := ⟨_, rfl⟩
      have HAS := Hid.mk' (fun w' => hE2 ▸ rasked_any a n c z ak q ck w' hn hqm)
      rw [hE2] at HEn
      clear hE2
      have hkm : (k : Int) < m := by omega
      go_wp2
      refine Code.wp_mono (Q := Rbq ?A1 (fun w' => Kept wr w' none)) ?cont1 ?reg1
      case reg1 =>
        repeat (rename_i hh; clear hh)
        refine wp_region_held_drew (S := fun w' => Kept wr w' none) (by kernel_rfl) (kept_drw _ _) (fun hHeld => ?_)
        refine hold_take (i := 0) (v := ?rv55) rfl rfl (by kernel_rfl) (by kernel_rfl) (by kernel_rfl) (fun _ _ _ h => h) (Or.inl ⟨by rfl, ?rhy55⟩) hHeld ?rrest55
        case rhy55 => first | (intro w hSw; (try dsimp only at hSw); go_simp; done) | (intro w hSw; (try dsimp only at hSw); go_simp; with_reducible rfl)
        try simp only [List.setIfInBounds_toArray, List.set_cons_zero, List.set_cons_succ]
        refine hold_take (i := 1) (v := ?rv56) rfl rfl (by kernel_rfl) (by kernel_rfl) (by kernel_rfl) (fun _ _ _ h => h) (Or.inl ⟨by rfl, ?rhy56⟩) hHeld ?rrest56
        case rhy56 => first | (intro w hSw; (try dsimp only at hSw); go_simp; done) | (intro w hSw; (try dsimp only at hSw); go_simp; with_reducible rfl)
        try simp only [List.setIfInBounds_toArray, List.set_cons_zero, List.set_cons_succ]
        refine hold_take (i := 2) (v := ?rv57) rfl rfl (by kernel_rfl) (by kernel_rfl) (by kernel_rfl) (fun _ _ _ h => h) (Or.inl ⟨by rfl, ?rhy57⟩) hHeld ?rrest57
        case rhy57 => first | (intro w hSw; (try dsimp only at hSw); go_simp; done) | (intro w hSw; (try dsimp only at hSw); go_simp; with_reducible rfl)
        try simp only [List.setIfInBounds_toArray, List.set_cons_zero, List.set_cons_succ]
        refine hold_take (i := 3) (v := ?rv58) rfl rfl (by kernel_rfl) (by kernel_rfl) (by kernel_rfl) (fun _ _ _ h => h) (Or.inl ⟨by rfl, ?rhy58⟩) hHeld ?rrest58
        case rhy58 => first | (intro w hSw; (try dsimp only at hSw); go_simp; done) | (intro w hSw; (try dsimp only at hSw); go_simp; with_reducible rfl)
        try simp only [List.setIfInBounds_toArray, List.set_cons_zero, List.set_cons_succ]
        refine hold_take (i := 4) (v := ?rv59) rfl rfl (by kernel_rfl) (by kernel_rfl) (by kernel_rfl) (fun _ _ _ h => h) (Or.inl ⟨by rfl, ?rhy59⟩) hHeld ?rrest59
        case rhy59 => first | (intro w hSw; (try dsimp only at hSw); go_simp; done) | (intro w hSw; (try dsimp only at hSw); go_simp; with_reducible rfl)
        try simp only [List.setIfInBounds_toArray, List.set_cons_zero, List.set_cons_succ]
        refine hold_take (i := 5) (v := ?rv60) rfl rfl (by kernel_rfl) (by kernel_rfl) (by kernel_rfl) (fun _ _ _ h => h) (Or.inl ⟨by rfl, ?rhy60⟩) hHeld ?rrest60
        case rhy60 => first | (intro w hSw; (try dsimp only at hSw); go_simp; done) | (intro w hSw; (try dsimp only at hSw); go_simp; with_reducible rfl)
        try simp only [List.setIfInBounds_toArray, List.set_cons_zero, List.set_cons_succ]
        refine hold_take (i := 6) (v := ?rv61) rfl rfl (by kernel_rfl) (by kernel_rfl) (by kernel_rfl) (fun _ _ _ h => h) (Or.inl ⟨by rfl, ?rhy61⟩) hHeld ?rrest61
        case rhy61 => first | (intro w hSw; (try dsimp only at hSw); go_simp; done) | (intro w hSw; (try dsimp only at hSw); go_simp; with_reducible rfl)
        try simp only [List.setIfInBounds_toArray, List.set_cons_zero, List.set_cons_succ]
        refine hold_take (i := 7) (v := ?rv62) rfl rfl (by kernel_rfl) (by kernel_rfl) (by kernel_rfl) (fun _ _ _ h => h) (Or.inl ⟨by rfl, ?rhy62⟩) hHeld ?rrest62
        case rhy62 => first | (intro w hSw; (try dsimp only at hSw); go_simp; done) | (intro w hSw; (try dsimp only at hSw); go_simp; with_reducible rfl)
        try simp only [List.setIfInBounds_toArray, List.set_cons_zero, List.set_cons_succ]
        refine hold_take (i := 8) (v := ?rv63) rfl rfl (by kernel_rfl) (by kernel_rfl) (by kernel_rfl) (fun _ _ _ h => h) (Or.inl ⟨by rfl, ?rhy63⟩) hHeld ?rrest63
        case rhy63 => first | (intro w hSw; (try dsimp only at hSw); go_simp; done) | (intro w hSw; (try dsimp only at hSw); go_simp; with_reducible rfl)
        try simp only [List.setIfInBounds_toArray, List.set_cons_zero, List.set_cons_succ]
        refine hold_take (i := 9) (v := ?rv64) rfl rfl (by kernel_rfl) (by kernel_rfl) (by kernel_rfl) (fun _ _ _ h => h) (Or.inl ⟨by rfl, ?rhy64⟩) hHeld ?rrest64
        case rhy64 => first | (intro w hSw; (try dsimp only at hSw); go_simp; done) | (intro w hSw; (try dsimp only at hSw); go_simp; with_reducible rfl)
        try simp only [List.setIfInBounds_toArray, List.set_cons_zero, List.set_cons_succ]
        refine hold_take (i := 10) (v := ?rv65) rfl rfl (by kernel_rfl) (by kernel_rfl) (by kernel_rfl) (fun _ _ _ h => h) (Or.inl ⟨by rfl, ?rhy65⟩) hHeld ?rrest65
        case rhy65 => first | (intro w hSw; (try dsimp only at hSw); go_simp; done) | (intro w hSw; (try dsimp only at hSw); go_simp; with_reducible rfl)
        try simp only [List.setIfInBounds_toArray, List.set_cons_zero, List.set_cons_succ]
        refine wpAnyH_ready (rs := [11]) (by kernel_rfl) (by simp) ?_
        refine (AllReadyH.cons rfl (fun K hK => ?rz66x11) AllReadyH.nil)
        case rz66x11 =>
          go_simp
          refine (HAS.out wr.drew).mono ?_
          rintro e wv67 ⟨rfl, hk⟩
          dsimp only
          have hnew := hHeld.tr hk
          refine hK.out _ _ hnew (fun hHeld => ?_)
          clear hK K hk hnew
          refine hold_take (i := 12) (v := ?rv68) rfl rfl (by kernel_rfl) (by kernel_rfl) (by kernel_rfl) (fun _ _ _ h => h) (Or.inl ⟨by rfl, ?rhy68⟩) hHeld ?rrest68
          case rhy68 => first | (intro w hSw; (try dsimp only at hSw); go_simp; done) | (intro w hSw; (try dsimp only at hSw); go_simp; with_reducible rfl)
          try simp only [List.setIfInBounds_toArray, List.set_cons_zero, List.set_cons_succ]
          refine wpAnyH_done (by kernel_rfl) ?_ _
          refine And.intro ?_ hHeld
          with_reducible rfl
      case cont1 =>
      intro e a' w5 hq
      obtain ⟨rfl, rfl, hk5⟩ := hq.out
      have e2 : E2 = 0 := by rw [HEn.out, Ek_ok HF.out]
      subst e2
      go_wp2
      go_roundw
      case rel => exact ⟨k + 1, by omega, by go_num, rfl, Hid.mk' (hkr.out.tr hk5)⟩
      case measure => simp [intOf]; omega
    · have hkm : k = m := by omega
      subst hkm
      have hrz := HRr.out.kept hkr.out
      have r0 := hrz.c0
      have r1 := hrz.f0
      have r2 := hrz.lt
      go_wp2
      refine bodyPost_ret (v := .tuple #[dvV _ _ _, .int .i64 _]) (by simp [results, Try.results21, go_sem, *]; done) rfl ⟨rfl, ?_⟩
      exact (HKA.out.tr hkr.out).setNew (p := ⟨w.heap.size + 1, 0, none⟩) (show w.heap.size ≤ w.heap.size + 1 by omega) _
set_option maxRecDepth 100000 in
set_option maxHeartbeats 1000000 in
theorem rdo_argd {a : Option Addr} {n c : Nat} {L : List Nat} {la : Option Addr} {m : Nat} (lc : Nat) {l : List Pw} (wh to : Int) (w : World) (hC : Come w a n c L) (hP : Plw w la m l) (hF : cwE n l = 0) (b : 0 ≤ wh) (b2 : wh ≤ (m : Int)) (b3 : 0 ≤ to) (b4 : 64 < to) : Calls Try.prog 21 #[dvV a n c, .slice la m lc, .int .i64 wh, .int .i64 to] w fun e w' => e = dvR none 0 0 2 ∧ Kept w w' none := by
  have HC := Hid.mk' hC
  have HP := Hid.mk' hP
  have hn := hC.by_.max
  have hm := hP.max
  have HS := Hid.mk' hP.size
  clear hC hP
  have HF := Hid.mk' hF
  have HCh : Hid (chkE n = 0) := Hid.mk' (by have := Ek_zero n l; rw [Ek_ok hF 0] at this; exact this.symm)
  clear hF
  go_enter Try.func21, Try.ntmps21
  go_wp2_with (go_at_call 22; refine (rchk_any a n c _ hn).mono ?_; (try rw [HCh.out]); rintro e w1 ⟨rfl, hk1⟩; have hkA : Kept w w1 none := ((Kept.alloc _ _ _ _ _).tr (Kept.alloc _ _ _ _ _)).tr hk1; have hRr := (db_alloc (w.alloc (.cells (dvC a n c) 24)) none 0 0 24).kept hk1; simp only [World.size_alloc] at hRr; have hIr := (((db_alloc w a n c 24).kept (Kept.alloc _ (dvC none 0 0) 24 (0, 0) none)).kept hk1); have HRr := Hid.mk' hRr; have HIr := Hid.mk' hIr; have HKA := Hid.mk' hkA; clear hRr hIr hk1 hkA)
  go_loopw [10, 11] (fun e i wr => ∃ k : Nat, k ≤ m ∧ i = .int .i64 k ∧ e = .int .i64 0 ∧ Hid (Kept w1 wr none)) (fun _ i _ => m - (intOf i).toNat)
  case atStart => exact ⟨0, Nat.zero_le _, rfl, rfl, Hid.mk' (Kept.refl _ _)⟩
  case round =>
    obtain ⟨k, hk, rfl, rfl, hkr⟩ := hrel
    by_cases hlt : k < m
    · have hE0 := Hid.mk' (Ek_ok HF.out k)
      obtain ⟨b, off, rfl, _⟩ := HP.out.at_ (by omega)
      have hkl : k < l.length := by rw [HS.out]; exact hlt
      obtain ⟨ak, ck, hn0, hn1, hcm⟩ := (HP.out.kept (HKA.out.tr hkr.out)).get hkl
      have hqm := hcm.out.by_.max
      have hEn := Ek_next hkl hE0.out
      have hbx : ∀ w', Kept wr w' none → w'.cell? ⟨w.heap.size, 0, none⟩ = some (.slice a n c) := fun w' hq => ((HIr.out.kept hkr.out).kept hq).c0
      clear hcm
      generalize l[k].n = z at *
      generalize l[k].data.length = q at *
      clear hkl
      have HEn := Hid.mk' hEn
      clear hEn
      obtain ⟨E2, hE2⟩ : ∃ E2, asE n z q = E2 := ⟨_, rfl⟩
      have HAS := Hid.mk' (fun w' => hE2 ▸ rasked_any a n c z ak q ck w' hn hqm)
      rw [hE2] at HEn
      clear hE2
      have hkm : (k : Int) < m := by omega
      go_wp2
      refine Code.wp_mono (Q := Rbq ?A1 (fun w' => Kept wr w' none)) ?cont1 ?reg1
      case reg1 =>
        repeat (rename_i hh; clear hh)
        refine wp_region_held_drew (S := fun w' => Kept wr w' none) (by kernel_rfl) (kept_drw _ _) (fun hHeld => ?_)
        refine hold_take (i := 0) (v := ?rv69) rfl rfl (by kernel_rfl) (by kernel_rfl) (by kernel_rfl) (fun _ _ _ h => h) (Or.inl ⟨by rfl, ?rhy69⟩) hHeld ?rrest69
        case rhy69 => first | (intro w hSw; (try dsimp only at hSw); go_simp; done) | (intro w hSw; (try dsimp only at hSw); go_simp; with_reducible rfl)
        try simp only [List.setIfInBounds_toArray, List.set_cons_zero, List.set_cons_succ]
        refine hold_take (i := 1) (v := ?rv70) rfl rfl (by kernel_rfl) (by kernel_rfl) (by kernel_rfl) (fun _ _ _ h => h) (Or.inl ⟨by rfl, ?rhy70⟩) hHeld ?rrest70
        case rhy70 => first | (intro w hSw; (try dsimp only at hSw); go_simp; done) | (intro w hSw; (try dsimp only at hSw); go_simp; with_reducible rfl)
        try simp only [List.setIfInBounds_toArray, List.set_cons_zero, List.set_cons_succ]
        refine hold_take (i := 2) (v := ?rv71) rfl rfl (by kernel_rfl) (by kernel_rfl) (by kernel_rfl) (fun _ _ _ h => h) (Or.inl ⟨by rfl, ?rhy71⟩) hHeld ?rrest71
        case rhy71 => first | (intro w hSw; (try dsimp only at hSw); go_simp; done) | (intro w hSw; (try dsimp only at hSw); go_simp; with_reducible rfl)
        try simp only [List.setIfInBounds_toArray, List.set_cons_zero, List.set_cons_succ]
        refine hold_take (i := 3) (v := ?rv72) rfl rfl (by kernel_rfl) (by kernel_rfl) (by kernel_rfl) (fun _ _ _ h => h) (Or.inl ⟨by rfl, ?rhy72⟩) hHeld ?rrest72
        case rhy72 => first | (intro w hSw; (try dsimp only at hSw); go_simp; done) | (intro w hSw; (try dsimp only at hSw); go_simp; with_reducible rfl)
        try simp only [List.setIfInBounds_toArray, List.set_cons_zero, List.set_cons_succ]
        refine hold_take (i := 4) (v := ?rv73) rfl rfl (by kernel_rfl) (by kernel_rfl) (by kernel_rfl) (fun _ _ _ h => h) (Or.inl ⟨by rfl, ?rhy73⟩) hHeld ?rrest73
        case rhy73 => first | (intro w hSw; (try dsimp only at hSw); go_simp; done) | (intro w hSw; (try dsimp only at hSw); go_simp; with_reducible rfl)
        try simp only [List.setIfInBounds_toArray, List.set_cons_zero, List.set_cons_succ]
        refine hold_take (i := 5) (v := ?rv74) rfl rfl (by kernel_rfl) (by kernel_rfl) (by kernel_rfl) (fun _ _ _ h => h) (Or.inl ⟨by rfl, ?rhy74⟩) hHeld ?rrest74
        case rhy74 => first | (intro w hSw; (try dsimp only at hSw); go_simp; done) | (intro w hSw; (try dsimp only at hSw); go_simp; with_reducible rfl)
        try simp only [List.setIfInBounds_toArray, List.set_cons_zero, List.set_cons_succ]
        refine hold_take (i := 6) (v := ?rv75) rfl rfl (by kernel_rfl) (by kernel_rfl) (by kernel_rfl) (fun _ _ _ h => h) (Or.inl ⟨by rfl, ?rhy75⟩) hHeld ?rrest75
        case rhy75 => first | (intro w hSw; (try dsimp only at hSw); go_simp; done) | (intro w hSw; (try dsimp only at hSw); go_simp; with_reducible rfl)
        try simp only [List.setIfInBounds_toArray, List.set_cons_zero, List.set_cons_succ]
        refine hold_take (i := 7) (v := ?rv76) rfl rfl (by kernel_rfl) (by kernel_rfl) (by kernel_rfl) (fun _ _ _ h => h) (Or.inl ⟨by rfl, ?rhy76⟩) hHeld ?rrest76
        case rhy76 => first | (intro w hSw; (try dsimp only at hSw); go_simp; done) | (intro w hSw; (try dsimp only at hSw); go_simp; with_reducible rfl)
        try simp only [List.setIfInBounds_toArray, List.set_cons_zero, List.set_cons_succ]
        refine hold_take (i := 8) (v := ?rv77) rfl rfl (by kernel_rfl) (by kernel_rfl) (by kernel_rfl) (fun _ _ _ h => h) (Or.inl ⟨by rfl, ?rhy77⟩) hHeld ?rrest77
        case rhy77 => first | (intro w hSw; (try dsimp only at hSw); go_simp; done) | (intro w hSw; (try dsimp only at hSw); go_simp; with_reducible rfl)
        try simp only [List.setIfInBounds_toArray, List.set_cons_zero, List.set_cons_succ]
        refine hold_take (i := 9) (v := ?rv78) rfl rfl (by kernel_rfl) (by kernel_rfl) (by kernel_rfl) (fun _ _ _ h => h) (Or.inl ⟨by rfl, ?rhy78⟩) hHeld ?rrest78
        case rhy78 => first | (intro w hSw; (try dsimp only at hSw); go_simp; done) | (intro w hSw; (try dsimp only at hSw); go_simp; with_reducible rfl)
        try simp only [List.setIfInBounds_toArray, List.set_cons_zero, List.set_cons_succ]
        refine hold_take (i := 10) (v := ?rv79) rfl rfl (by kernel_rfl) (by kernel_rfl) (by kernel_rfl) (fun _ _ _ h => h) (Or.inl ⟨by rfl, ?rhy79⟩) hHeld ?rrest79
        case rhy79 => first | (intro w hSw; (try dsimp only at hSw); go_simp; done) | (intro w hSw; (try dsimp only at hSw); go_simp; with_reducible rfl)
        try simp only [List.setIfInBounds_toArray, List.set_cons_zero, List.set_cons_succ]
        refine wpAnyH_ready (rs := [11]) (by kernel_rfl) (by simp) ?_
        refine (AllReadyH.cons rfl (fun K hK => ?rz80x11) AllReadyH.nil)
        case rz80x11 =>
          go_simp
          refine (HAS.out wr.drew).mono ?_
          rintro e wv81 ⟨rfl, hk⟩
          dsimp only
          have hnew := hHeld.tr hk
          refine hK.out _ _ hnew (fun hHeld => ?_)
          clear hK K hk hnew
          refine hold_take (i := 12) (v := ?rv82) rfl rfl (by kernel_rfl) (by kernel_rfl) (by kernel_rfl) (fun _ _ _ h => h) (Or.inl ⟨by rfl, ?rhy82⟩) hHeld ?rrest82
          case rhy82 => first | (intro w hSw; (try dsimp only at hSw); go_simp; done) | (intro w hSw; (try dsimp only at hSw); go_simp; with_reducible rfl)
          try simp only [List.setIfInBounds_toArray, List.set_cons_zero, List.set_cons_succ]
          refine wpAnyH_done (by kernel_rfl) ?_ _
          refine And.intro ?_ hHeld
          with_reducible rfl
      case cont1 =>
      intro e a' w5 hq
      obtain ⟨rfl, rfl, hk5⟩ := hq.out
      have e2 : E2 = 0 := by rw [HEn.out, Ek_ok HF.out]
      subst e2
      go_wp2
      go_roundw
      case rel => exact ⟨k + 1, by omega, by go_num, rfl, Hid.mk' (hkr.out.tr hk5)⟩
      case measure => simp [intOf]; omega
    · have hkm : k = m := by omega
      subst hkm
      have hrz := HRr.out.kept hkr.out
      have r0 := hrz.c0
      have r1 := hrz.f0
      have r2 := hrz.lt
      go_wp2
      refine bodyPost_ret (v := .tuple #[dvV _ _ _, .int .i64 _]) (by simp [results, Try.results21, go_sem, *]; done) rfl ⟨rfl, ?_⟩
      exact (HKA.out.tr hkr.out).setNew (p := ⟨w.heap.size + 1, 0, none⟩) (show w.heap.size ≤ w.heap.size + 1 by omega) _

end Go.Proofs.Ytpfbdandhdapcaa
