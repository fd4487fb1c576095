/-
  BLOCKDOES' WALK over devices that may be (made by a program).
-/
import Derived.Test.YtpfbdandhdapcaaBDoeM
namespace Go.Proofs.Ytpfbdandhdapcaa
open Go.RowKit Go.Lib Go.Deep
set_option linter.unusedVariables false
set_option linter.unusedSimpArgs false

set_option maxRecDepth 100000 in
set_option maxHeartbeats 6000000 in
theorem does_ok {a : Option Addr} {n c : Nat} {L : List Nat} {la : Option Addr} {m lc : Nat} {l : List Pw} (wh to i : Int) {b : Option Addr} {q d : Nat} {B : List Nat} (w : World) (hC : Come w a n c L) (hP : Plw w la m l) (hB : Come w b q d B) (h : ¬ 10000 < n) (h2 : ¬ 100 < m) (h3 : ¬ 10000 < q) (hch : chkE n = 0) : Calls Try.prog 4 #[dvV a n c, .slice la m lc, .int .i64 wh, .int .i64 to, .int .i64 i, .slice b q d] w fun e w' => e = .returned (.bool true) ∧ Kept w w' none := by
  have HC := Hid.mk' hC
  have HP := Hid.mk' hP
  have HB := Hid.mk' hB
  have hn := hC.by_.max
  have hm := hP.max
  have hq := hB.by_.max
  have HS := Hid.mk' hP.size
  clear hC hP hB
  have h' : ¬ (10000 : Int) < n := by omega
  have h2' : ¬ (100 : Int) < m := by omega
  have h3' : ¬ (10000 : Int) < q := by omega
  have HCh := Hid.mk' hch
  obtain ⟨MV, hMV⟩ : ∃ MV, Hid (((n / 64 : Nat) : Int) = MV) := ⟨_, Hid.mk' rfl⟩
  have HMv : Hid (manV n = MV) := Hid.mk' (by unfold manV; rw [hch, ← hMV.out]; rfl)
  have HMM : Hid (∀ w', Calls Try.prog 24 #[dvV a n c] w' fun e w'' => e = .returned (.int .i64 MV) ∧ Kept w' w'' none) := Hid.mk' (fun w' => by have := rman_any a n c w' hn; rw [hMV.out] at this; exact this)
  clear hch
  obtain ⟨Ex, hEx⟩ : ∃ E, Hid (newE i = E) := ⟨_, Hid.mk' rfl⟩
  obtain ⟨Mx, hMx⟩ : ∃ M, Hid (newL i = M) := ⟨_, Hid.mk' rfl⟩
  obtain ⟨Nx, hNx⟩ : ∃ N, Hid (Mx.length = N) := ⟨_, Hid.mk' rfl⟩
  obtain ⟨Ep, hEp⟩ : ∃ E, Hid (brE n i = E) := ⟨_, Hid.mk' rfl⟩
  obtain ⟨Mp, hMp⟩ : ∃ M, Hid (brL L i = M) := ⟨_, Hid.mk' rfl⟩
  obtain ⟨Np, hNp⟩ : ∃ N, Hid (Mp.length = N) := ⟨_, Hid.mk' rfl⟩
  obtain ⟨Eu, hEu⟩ : ∃ E, Hid (doE n [⟨i, B⟩] 1 0 = E) := ⟨_, Hid.mk' rfl⟩
  obtain ⟨Mu, hMu⟩ : ∃ M, Hid (doL L [⟨i, B⟩] 1 0 = M) := ⟨_, Hid.mk' rfl⟩
  obtain ⟨Nu, hNu⟩ : ∃ N, Hid (Mu.length = N) := ⟨_, Hid.mk' rfl⟩
  obtain ⟨Er, hEr⟩ : ∃ E, Hid (doE n l wh to = E) := ⟨_, Hid.mk' rfl⟩
  obtain ⟨Mr, hMr⟩ : ∃ M, Hid (doL L l wh to = M) := ⟨_, Hid.mk' rfl⟩
  obtain ⟨Nr, hNr⟩ : ∃ N, Hid (Mr.length = N) := ⟨_, Hid.mk' rfl⟩
  go_enter Try.func4, Try.ntmps4
  go_wp2
  go_loopw [13] (fun i wr => ∃ k : Nat, k ≤ m ∧ i = .int .i64 k ∧ Hid (Kept (w.alloc (.cells (dvC a n c) 24)) wr none)) (fun i _ => m - (intOf i).toNat)
  case atStart => exact ⟨0, Nat.zero_le _, rfl, Hid.mk' (Kept.refl _ _)⟩
  case round =>
    obtain ⟨k, hk, rfl, hkr⟩ := hrel
    by_cases hlt : k < m
    · obtain ⟨bl, offl, rfl, _⟩ := HP.out.at_ (by omega)
      have hkl : k < l.length := by rw [HS.out]; exact hlt
      obtain ⟨ak, ck, hn0, hn1, hcm⟩ := (HP.out.kept ((Kept.alloc w (dvC a n c) 24 (0, 0) none).tr hkr.out)).get hkl
      have hx1 := hn1 wr (Kept.refl _ _)
      have hqm := hcm.out.by_.max
      have hkm : (k : Int) < m := by omega
      clear hn0 hn1 hcm
      generalize l[k].data.length = qq at *
      clear hkl
      by_cases hqq : 10000 < qq
      · have hqq' : (10000 : Int) < qq := by omega
        go_wp2
        go_ret
        exact ⟨rfl, (Kept.alloc _ _ _ _ _).tr hkr.out⟩
      · have hqq' : ¬ (10000 : Int) < qq := by omega
        go_wp2
        go_roundw
        case rel => exact ⟨k + 1, by omega, by go_num, hkr⟩
        case measure => simp [intOf]; omega
    · have hkm : k = m := by omega
      subst hkm
      obtain ⟨wo, hwo⟩ : ∃ wo, wo = wr := ⟨_, rfl⟩
      subst hwo
      have HKo := Hid.mk' ((Kept.alloc w (dvC a n c) 24 (0, 0) none).tr hkr.out)
      have HDo := Hid.mk' ((db_alloc w a n c 24).kept hkr.out)
      have po := HDo.out.c0
      have p1o := HDo.out.lt
      have hq7 : q ≤ 70368744177664 := by omega
      clear hkr hlt hk
      go_wp2_with (first
        | (at_builtin; refine wpList_ap0 (by rfl) _ _ (by rfl) w1.heap.size (by rfl) b q d B (by rfl) (HB.out.by_.kept ((HKo.out.tr hk1).tr (Kept.alloc w1 (dvC a1 n c1) 24 (0, 0) none))) HB.out.nil hq7 (by simp) ?_; intro a2 c2 V hm2 hk2)
        | (go_at_call 17; refine (rtwin_any wo (HC.out.kpt HKo.out) (show n ≤ 10000 by omega)).mono ?_; rintro e w1 ⟨a1, c1, rfl, hv1, hk1⟩))
      have KV := (hk1.tr (Kept.alloc w1 (dvC a1 n c1) 24 (0, 0) none)).tr hk2
      have HKV := Hid.mk' (HKo.out.tr KV)
      have HDd := Hid.mk' (HDo.out.kept KV)
      have HOw := Hid.mk' ((db_alloc w1 a1 n c1 24).kept hk2)
      have COw := Hid.mk' ((hv1.come.kpt (Kept.alloc w1 (dvC a1 n c1) 24 (0, 0) none)).kpt hk2)
      have CIn := Hid.mk' (mine_rv (w0 := w1) hm2 HB.out.by_.lt (Nat.le_refl _)).come
      have CD := Hid.mk' (HC.out.kpt HKV.out)
      have CB := Hid.mk' (HB.out.kpt HKV.out)
      have PV := Hid.mk' (HP.out.kept HKV.out)
      generalize w1.heap.size = bo at HOw ⊢
      have oV := HOw.out.c0
      have o1V := HOw.out.lt
      have pV := HDd.out.c0
      have p1V := HDd.out.lt
      clear KV hk1 hk2 hv1 hm2 HKo HDo po p1o
      go_wp2_with (first
    | (go_at_call 22; refine (rchk_any a n c _ hn).mono ?_; rw [HCh.out]; rintro e wc ⟨rfl, hkc⟩; have HKc := Hid.mk' (HKm.out.tr hkc); clear pm p1m)
    | (go_at_call 9; refine (bmany_any a1 n c1 _ hn).mono ?_; rw [HMv.out, HCh.out]; rintro e wm ⟨rfl, hkm⟩; have HKm := Hid.mk' (HKz.out.tr hkm); have HDm := Hid.mk' (HDz.out.kept hkm); have pm := HDm.out.c0; have p1m := HDm.out.lt; clear oz o1z pz p1z)
    | (go_at_call 21; refine (dcn_do lc _ (CD.out.kpt HKr.out) (PV.out.kept HKr.out) (E := Er) (M := Mr) (N := Nr) hEr.out hMr.out hNr.out).mono ?_; rintro e wz ⟨az, cz, rfl, hzz, hkz⟩; have HKz := Hid.mk' ((HKr.out.tr hkz).tr (Kept.alloc wz (dvC az Nr cz) 24 (0, 0) none)); have HOz := Hid.mk' (HOw.out.kept ((HKr.out.tr hkz).tr (Kept.alloc wz (dvC az Nr cz) 24 (0, 0) none))); have HDz := Hid.mk' (HDd.out.kept ((HKr.out.tr hkz).tr (Kept.alloc wz (dvC az Nr cz) 24 (0, 0) none))); have oz := HOz.out.c0; have o1z := HOz.out.lt; have pz := HDz.out.c0; have p1z := HDz.out.lt; clear or o1r pr p1r)
    | (go_at_call 13; refine (dvn_do lc _ (COw.out.kpt HKv.out) (PV.out.kept HKv.out) (E := Er) (M := Mr) (N := Nr) hEr.out hMr.out hNr.out).mono ?_; rintro e wr ⟨ar, cr, rfl, hzr, hkr⟩; have HKr := Hid.mk' ((HKv.out.tr hkr).tr (Kept.alloc wr (dvC ar Nr cr) 24 (0, 0) none)); have HOr := Hid.mk' (HOw.out.kept ((HKv.out.tr hkr).tr (Kept.alloc wr (dvC ar Nr cr) 24 (0, 0) none))); have HDr := Hid.mk' (HDd.out.kept ((HKv.out.tr hkr).tr (Kept.alloc wr (dvC ar Nr cr) 24 (0, 0) none))); have or := HOr.out.c0; have o1r := HOr.out.lt; have pr := HDr.out.c0; have p1r := HDr.out.lt; clear ov o1v pv p1v)
    | (go_at_call 20; refine (dcn_write i _ (CD.out.kpt HKu.out) (CB.out.kpt HKu.out) (E := Eu) (M := Mu) (N := Nu) hEu.out hMu.out hNu.out).mono ?_; rintro e wv ⟨av, cv, rfl, hzv, hkv⟩; have HKv := Hid.mk' ((HKu.out.tr hkv).tr (Kept.alloc wv (dvC av Nu cv) 24 (0, 0) none)); have HOv := Hid.mk' (HOw.out.kept ((HKu.out.tr hkv).tr (Kept.alloc wv (dvC av Nu cv) 24 (0, 0) none))); have HDv := Hid.mk' (HDd.out.kept ((HKu.out.tr hkv).tr (Kept.alloc wv (dvC av Nu cv) 24 (0, 0) none))); have ov := HOv.out.c0; have o1v := HOv.out.lt; have pv := HDv.out.c0; have p1v := HDv.out.lt; clear ou o1u pu p1u)
    | (go_at_call 10; refine (nw_write _ (COw.out.kpt HKo.out) (CIn.out.kpt HKo.out) (E := Eu) (M := Mu) (n2 := Nu) hEu.out hMu.out hNu.out).mono ?_; rintro e wu ⟨au, cu, rfl, hzu, hku⟩; have HKu := Hid.mk' ((HKo.out.tr hku).tr (Kept.alloc wu (dvC au Nu cu) 24 (0, 0) none)); have HOu := Hid.mk' (HOw.out.kept ((HKo.out.tr hku).tr (Kept.alloc wu (dvC au Nu cu) 24 (0, 0) none))); have HDu := Hid.mk' (HDd.out.kept ((HKo.out.tr hku).tr (Kept.alloc wu (dvC au Nu cu) 24 (0, 0) none))); have ou := HOu.out.c0; have o1u := HOu.out.lt; have pu := HDu.out.c0; have p1u := HDu.out.lt; clear oo o1o po p1o)
    | (go_at_call 19; refine (dcn_read i _ (CD.out.kpt HKp.out) (E := Ep) (M := Mp) (N := Np) hEp.out hMp.out hNp.out).mono ?_; rintro e wo ⟨ao, co, rfl, hzo, hko⟩; have HKo := Hid.mk' (HKp.out.tr hko); have HOo := Hid.mk' (HOw.out.kept (HKp.out.tr hko)); have HDo := Hid.mk' (HDd.out.kept (HKp.out.tr hko)); have oo := HOo.out.c0; have o1o := HOo.out.lt; have po := HDo.out.c0; have p1o := HDo.out.lt; clear op o1p pp p1p)
    | (go_at_call 12; refine (dvn_read i _ (COw.out.kpt HKy.out) (E := Ep) (M := Mp) (N := Np) hEp.out hMp.out hNp.out).mono ?_; rintro e wp ⟨ap, cp, rfl, hzp, hkp⟩; have HKp := Hid.mk' (HKy.out.tr hkp); have HOp := Hid.mk' (HOw.out.kept (HKy.out.tr hkp)); have HDp := Hid.mk' (HDd.out.kept (HKy.out.tr hkp)); have op := HOp.out.c0; have o1p := HOp.out.lt; have pp := HDp.out.c0; have p1p := HDp.out.lt; clear oy o1y py p1y)
    | (go_at_call 18; refine (dcn_new i _ (E := Ex) (M := Mx) (N := Nx) hEx.out hMx.out hNx.out).mono ?_; rintro e wy ⟨ay, cy, rfl, hzy, hky⟩; have HKy := Hid.mk' ((HKx.out.tr hky).tr (Kept.alloc wy (dvC ay Nx cy) 24 (0, 0) none)); have HOy := Hid.mk' (HOw.out.kept ((HKx.out.tr hky).tr (Kept.alloc wy (dvC ay Nx cy) 24 (0, 0) none))); have HDy := Hid.mk' (HDd.out.kept ((HKx.out.tr hky).tr (Kept.alloc wy (dvC ay Nx cy) 24 (0, 0) none))); have oy := HOy.out.c0; have o1y := HOy.out.lt; have py := HDy.out.c0; have p1y := HDy.out.lt; clear ox o1x px p1x)
    | (go_at_call 8; refine (nw_new i _ (E := Ex) (M := Mx) (n2 := Nx) hEx.out hMx.out hNx.out).mono ?_; rintro e wx ⟨ax, cx, rfl, hzx, hkx⟩; have HKx := Hid.mk' (((Kept.refl V none).tr hkx).tr (Kept.alloc wx (dvC ax Nx cx) 24 (0, 0) none)); have HOx := Hid.mk' (HOw.out.kept (((Kept.refl V none).tr hkx).tr (Kept.alloc wx (dvC ax Nx cx) 24 (0, 0) none))); have HDx := Hid.mk' (HDd.out.kept (((Kept.refl V none).tr hkx).tr (Kept.alloc wx (dvC ax Nx cx) 24 (0, 0) none))); have ox := HOx.out.c0; have o1x := HOx.out.lt; have px := HDx.out.c0; have p1x := HDx.out.lt; clear oV o1V pV p1V))
      have Tz := hkm.tr hkc
      have Tr := (hkz.tr (Kept.alloc wz (dvC az Nr cz) 24 (0, 0) none)).tr Tz
      have Tv := (hkr.tr (Kept.alloc wr (dvC ar Nr cr) 24 (0, 0) none)).tr Tr
      have Tu := (hkv.tr (Kept.alloc wv (dvC av Nu cv) 24 (0, 0) none)).tr Tv
      have To := (hku.tr (Kept.alloc wu (dvC au Nu cu) 24 (0, 0) none)).tr Tu
      have Tp := hko.tr To
      have Ty := hkp.tr Tp
      have Tx := (hky.tr (Kept.alloc wy (dvC ay Nx cy) 24 (0, 0) none)).tr Ty
      have CX := Hid.mk' ((hzx.out.come.kpt (Kept.alloc wx (dvC ax Nx cx) 24 (0, 0) none)).kpt Tx)
      have CY := Hid.mk' ((hzy.out.kpt (Kept.alloc wy (dvC ay Nx cy) 24 (0, 0) none)).kpt Ty)
      have DP := Hid.mk' (hzp.out.kept Tp)
      have CO := Hid.mk' (hzo.out.kpt To)
      have CU := Hid.mk' ((hzu.out.come.kpt (Kept.alloc wu (dvC au Nu cu) 24 (0, 0) none)).kpt Tu)
      have CV := Hid.mk' ((hzv.out.kpt (Kept.alloc wv (dvC av Nu cv) 24 (0, 0) none)).kpt Tv)
      have DR := Hid.mk' ((hzr.out.kept (Kept.alloc wr (dvC ar Nr cr) 24 (0, 0) none)).kept Tr)
      have CR := Hid.mk' DR.out.come
      have CS := Hid.mk' ((hzz.out.kpt (Kept.alloc wz (dvC az Nr cz) 24 (0, 0) none)).kpt Tz)
      have BX := Hid.mk' ((db_alloc wx ax Nx cx 24).kept Tx)
      have BY := Hid.mk' ((db_alloc wy ay Nx cy 24).kept Ty)
      have BU := Hid.mk' ((db_alloc wu au Nu cu 24).kept Tu)
      have BV := Hid.mk' ((db_alloc wv av Nu cv 24).kept Tv)
      have BR := Hid.mk' ((db_alloc wr ar Nr cr 24).kept Tr)
      have BZ := Hid.mk' ((db_alloc wz az Nr cz 24).kept Tz)
      have HDc := Hid.mk' (HDd.out.kept HKc.out)
      have HOc := Hid.mk' (HOw.out.kept HKc.out)
      have hNp9 := hzp.out.max
      have hNr9 := hzr.out.max
      have hpl : ∀ x, ap = some x → x.block < wp.heap.size := by
        rintro x rfl
        rcases hzp.out.at_ with ⟨e, _⟩ | ⟨g, e, hg, hr⟩
        · cases e
        · injection e with e; rw [e]; exact hr.lt
      have hrl : ∀ x, ar = some x → x.block < wr.heap.size := by
        rintro x rfl
        rcases hzr.out.at_ with ⟨e, _⟩ | ⟨g, e, hg, hr⟩
        · cases e
        · injection e with e; rw [e]; exact hr.lt
      obtain ⟨g1, hg1, hg1p, hg1w, hg1z⟩ := dv_wb DP.out Ty.size
      obtain ⟨g2, hg2, hg2p, hg2w, hg2z⟩ := dv_wb DR.out Tv.size
      have F1 := Nat.le_trans HKy.out.size hg1
      have F2 := Nat.le_trans HKv.out.size hg2
      have F3 := far_of hg1p hg1z hpl ((hko.tr ((hku.tr (Kept.alloc wu (dvC au Nu cu) 24 (0, 0) none)).tr (hkv.tr (Kept.alloc wv (dvC av Nu cv) 24 (0, 0) none)))).tr hkr).size BR.out.lt
      have F4 := far_of hg2p hg2z hrl (Nat.le_refl _) BR.out.lt
      have F5 := fun (x : 0 < Nr) => far_two hg1p hg1z hpl (Nat.le_trans (hko.tr ((hku.tr (Kept.alloc wu (dvC au Nu cu) 24 (0, 0) none)).tr (hkv.tr (Kept.alloc wv (dvC av Nu cv) 24 (0, 0) none)))).size hg2) (hg2p x).2
      have F1 := Hid.mk' F1
      have F2 := Hid.mk' F2
      have F3 := Hid.mk' F3
      have F4 := Hid.mk' F4
      have F5 := Hid.mk' F5
      have HG1p := Hid.mk' hg1p
      have HG2p := Hid.mk' hg2p
      have HW1 := Hid.mk' hg1w
      have HW2 := Hid.mk' hg2w
      clear hpl hrl hg1 hg1p hg1w hg1z hg2 hg2p hg2w hg2z
      clear Tz Tr Tv Tu To Tp Ty Tx hkx hky hkp hko hku hkv hkr hkz hkm hkc HKx HKy HKp HKo HKu HKv HKr HKz HKm HOx HOy HOp HOo HOu HOv HOr HOz HDx HDy HDp HDo HDu HDv HDr HDz HDm hzx hzy hzp hzo hzu hzv hzr hzz DR
      generalize wx.heap.size = bx at BX ⊢
      generalize wy.heap.size = by_ at BY ⊢
      generalize wu.heap.size = bu at BU ⊢
      generalize wv.heap.size = bv at BV ⊢
      generalize wr.heap.size = br at BR F3 F4 ⊢
      generalize wz.heap.size = bz at BZ ⊢
      obtain ⟨W, hW⟩ : ∃ W, W = wc := ⟨_, rfl⟩
      subst hW
      obtain ⟨Dq, hDq⟩ : ∃ Dq, Hid (decide (L = Mu) = Dq) := ⟨_, Hid.mk' rfl⟩
      have HSM := Hid.mk' (fun cur (hk : Kept W cur none) => bsm_of (c := c) (d := cu) (CD.out.kpt (HKc.out.tr hk)).by_ (CU.out.kpt hk).by_ hDq.out)
      have HSL := Hid.mk' (fun cur (hk : Kept W cur none) => lsm_of (c := c) (d := cu) (CD.out.kpt (HKc.out.tr hk)).by_ (CU.out.kpt hk).by_ hDq.out)
      have HKK := Hid.mk' (fun cur => bck_of a1 n c1 cur hn HCh.out)
      have q1 : ∀ w', Kept W w' none → w'.cell? ⟨bx, 0, none⟩ = some (.slice ax Nx cx) := fun w' hk => (BX.out.kept hk).c0
      have q2 : ∀ w', Kept W w' none → w'.cell? ⟨by_, 0, none⟩ = some (.slice ay Nx cy) := fun w' hk => (BY.out.kept hk).c0
      have q3 : ∀ w', Kept W w' none → w'.cell? ⟨bu, 0, none⟩ = some (.slice au Nu cu) := fun w' hk => (BU.out.kept hk).c0
      have q4 : ∀ w', Kept W w' none → w'.cell? ⟨bv, 0, none⟩ = some (.slice av Nu cv) := fun w' hk => (BV.out.kept hk).c0
      have q5 : ∀ w', Kept W w' none → w'.cell? ⟨br, 0, none⟩ = some (.slice ar Nr cr) := fun w' hk => (BR.out.kept hk).c0
      have q6 : ∀ w', Kept W w' none → w'.cell? ⟨bz, 0, none⟩ = some (.slice az Nr cz) := fun w' hk => (BZ.out.kept hk).c0
      have q7 : ∀ w', Kept W w' none → w'.cell? ⟨bo, 0, none⟩ = some (.slice a1 n c1) := fun w' hk => (HOc.out.kept hk).c0
      have q8 : ∀ w', Kept W w' none → w'.cell? ⟨w.heap.size, 0, none⟩ = some (.slice a n c) := fun w' hk => (HDc.out.kept hk).c0
      have t1 : ∀ w', Kept W w' none → (convert 22 9 (.slice ap Np cp)).run Try.prog w' = .ok (.string (textOf Mp)) w' := fun w' hk => run_text (DP.out.come.kpt hk).by_ cp
      have t2 : ∀ w', Kept W w' none → (convert 22 9 (.slice ao Np co)).run Try.prog w' = .ok (.string (textOf Mp)) w' := fun w' hk => run_text (CO.out.kpt hk).by_ co
      refine Code.wp_mono (Q := Rbq ?A1 (fun w' => Kept W w' none)) ?cont1 ?reg1
      case reg1 =>
        repeat (rename_i hh; clear hh)
        refine wp_region_held_drew (S := fun w' => Kept W w' none) (by kernel_rfl) (kept_drw _ _) (fun hHeld => ?_)
        refine hold_take (i := 0) (v := ?rv1) rfl rfl (by kernel_rfl) (by kernel_rfl) (by kernel_rfl) (fun _ _ _ h => h) (Or.inl ⟨by rfl, ?rhy1⟩) hHeld ?rrest1
        case rhy1 => first | (intro w hSw; (try dsimp only at hSw); go_simp; done) | (intro w hSw; (try dsimp only at hSw); go_simp; with_reducible rfl)
        try simp only [List.setIfInBounds_toArray, List.set_cons_zero, List.set_cons_succ]
        refine hold_take (i := 1) (v := ?rv2) rfl rfl (by kernel_rfl) (by kernel_rfl) (by kernel_rfl) (fun _ _ _ h => h) (Or.inl ⟨by rfl, ?rhy2⟩) hHeld ?rrest2
        case rhy2 => first | (intro w hSw; (try dsimp only at hSw); go_simp; done) | (intro w hSw; (try dsimp only at hSw); go_simp; with_reducible rfl)
        try simp only [List.setIfInBounds_toArray, List.set_cons_zero, List.set_cons_succ]
        refine wpAnyH_ready (rs := [2]) (by kernel_rfl) (by simp) ?_
        refine (AllReadyH.cons rfl (fun K hK => ?rz3x2) AllReadyH.nil)
        case rz3x2 =>
          go_simp
          refine (lsame_yes (CX.out.kpt hHeld).by_ (CY.out.kpt hHeld).by_).mono ?_
          rintro e wv4 ⟨rfl, hk⟩
          dsimp only
          have hnew := hHeld.tr hk
          refine hK.out _ _ hnew (fun hHeld => ?_)
          clear hK K hk hnew
          refine hold_take (i := 3) (v := ?rv5) rfl rfl (by kernel_rfl) (by kernel_rfl) (by kernel_rfl) (fun _ _ _ h => h) (Or.inl ⟨by rfl, ?rhy5⟩) hHeld ?rrest5
          case rhy5 => first | (intro w hSw; (try dsimp only at hSw); go_simp; done) | (intro w hSw; (try dsimp only at hSw); go_simp; with_reducible rfl)
          try simp only [List.setIfInBounds_toArray, List.set_cons_zero, List.set_cons_succ]
          refine hold_take (i := 4) (v := ?rv6) rfl rfl (by kernel_rfl) (by kernel_rfl) (by kernel_rfl) (fun _ _ _ h => h) (Or.inl ⟨by rfl, ?rhy6⟩) hHeld ?rrest6
          case rhy6 => first | (intro w hSw; (try dsimp only at hSw); go_simp; done) | (intro w hSw; (try dsimp only at hSw); go_simp; with_reducible rfl)
          try simp only [List.setIfInBounds_toArray, List.set_cons_zero, List.set_cons_succ]
          refine hold_take (i := 5) (v := ?rv7) rfl rfl (by kernel_rfl) (by kernel_rfl) (by kernel_rfl) (fun _ _ _ h => h) (Or.inl ⟨by rfl, ?rhy7⟩) hHeld ?rrest7
          case rhy7 => first | (intro w hSw; (try dsimp only at hSw); go_simp; done) | (intro w hSw; (try dsimp only at hSw); go_simp; with_reducible rfl)
          try simp only [List.setIfInBounds_toArray, List.set_cons_zero, List.set_cons_succ]
          refine hold_take (i := 6) (v := ?rv8) rfl rfl (by kernel_rfl) (by kernel_rfl) (by kernel_rfl) (fun _ _ _ h => h) (Or.inl ⟨by rfl, ?rhy8⟩) hHeld ?rrest8
          case rhy8 => first | (intro w hSw; (try dsimp only at hSw); go_simp; done) | (intro w hSw; (try dsimp only at hSw); go_simp; with_reducible rfl)
          try simp only [List.setIfInBounds_toArray, List.set_cons_zero, List.set_cons_succ]
          refine hold_take (i := 7) (v := ?rv9) rfl rfl (by kernel_rfl) (by kernel_rfl) (by kernel_rfl) (fun _ _ _ h => h) (Or.inl ⟨by rfl, ?rhy9⟩) hHeld ?rrest9
          case rhy9 => first | (intro w hSw; (try dsimp only at hSw); go_simp; done) | (intro w hSw; (try dsimp only at hSw); go_simp; with_reducible rfl)
          try simp only [List.setIfInBounds_toArray, List.set_cons_zero, List.set_cons_succ]
          refine hold_take (i := 8) (v := ?rv10) rfl rfl (by kernel_rfl) (by kernel_rfl) (by kernel_rfl) (fun _ _ _ h => h) (Or.inl ⟨by rfl, ?rhy10⟩) hHeld ?rrest10
          case rhy10 => first | (intro w hSw; (try dsimp only at hSw); go_simp; done) | (intro w hSw; (try dsimp only at hSw); go_simp; with_reducible rfl)
          try simp only [List.setIfInBounds_toArray, List.set_cons_zero, List.set_cons_succ]
          refine hold_take (i := 9) (v := ?rv11) rfl rfl (by kernel_rfl) (by kernel_rfl) (by kernel_rfl) (fun _ _ _ h => h) (Or.inl ⟨by rfl, ?rhy11⟩) hHeld ?rrest11
          case rhy11 => first | (intro w hSw; (try dsimp only at hSw); go_simp; done) | (intro w hSw; (try dsimp only at hSw); go_simp; with_reducible rfl)
          try simp only [List.setIfInBounds_toArray, List.set_cons_zero, List.set_cons_succ]
          refine hold_take (i := 10) (v := ?rv12) rfl rfl (by kernel_rfl) (by kernel_rfl) (by kernel_rfl) (fun _ _ _ h => h) (Or.inl ⟨by rfl, ?rhy12⟩) hHeld ?rrest12
          case rhy12 => first | (intro w hSw; (try dsimp only at hSw); go_simp; done) | (intro w hSw; (try dsimp only at hSw); go_simp; with_reducible rfl)
          try simp only [List.setIfInBounds_toArray, List.set_cons_zero, List.set_cons_succ]
          refine hold_take (i := 11) (v := ?rv13) rfl rfl (by kernel_rfl) (by kernel_rfl) (by kernel_rfl) (fun _ _ _ h => h) (Or.inl ⟨by rfl, ?rhy13⟩) hHeld ?rrest13
          case rhy13 => first | (intro w hSw; (try dsimp only at hSw); go_simp; done) | (intro w hSw; (try dsimp only at hSw); go_simp; with_reducible rfl)
          try simp only [List.setIfInBounds_toArray, List.set_cons_zero, List.set_cons_succ]
          refine hold_take (i := 12) (v := ?rv14) rfl rfl (by kernel_rfl) (by kernel_rfl) (by kernel_rfl) (fun _ _ _ h => h) (Or.inl ⟨by rfl, ?rhy14⟩) hHeld ?rrest14
          case rhy14 => first | (intro w hSw; (try dsimp only at hSw); go_simp; done) | (intro w hSw; (try dsimp only at hSw); go_simp; with_reducible rfl)
          try simp only [List.setIfInBounds_toArray, List.set_cons_zero, List.set_cons_succ]
          refine hold_take (i := 13) (v := ?rv15) rfl rfl (by kernel_rfl) (by kernel_rfl) (by kernel_rfl) (fun _ _ _ h => h) (Or.inl ⟨by rfl, ?rhy15⟩) hHeld ?rrest15
          case rhy15 => first | (intro w hSw; (try dsimp only at hSw); go_simp; done) | (intro w hSw; (try dsimp only at hSw); go_simp; with_reducible rfl)
          try simp only [List.setIfInBounds_toArray, List.set_cons_zero, List.set_cons_succ]
          refine hold_take (i := 14) (v := ?rv16) rfl rfl (by kernel_rfl) (by kernel_rfl) (by kernel_rfl) (fun _ _ _ h => h) (Or.inl ⟨by rfl, ?rhy16⟩) hHeld ?rrest16
          case rhy16 => first | (intro w hSw; (try dsimp only at hSw); go_simp; done) | (intro w hSw; (try dsimp only at hSw); go_simp; with_reducible rfl)
          try simp only [List.setIfInBounds_toArray, List.set_cons_zero, List.set_cons_succ]
          refine hold_take (i := 15) (v := ?rv17) rfl rfl (by kernel_rfl) (by kernel_rfl) (by kernel_rfl) (fun _ _ _ h => h) (Or.inl ⟨by rfl, ?rhy17⟩) hHeld ?rrest17
          case rhy17 => first | (intro w hSw; (try dsimp only at hSw); go_simp; done) | (intro w hSw; (try dsimp only at hSw); go_simp; with_reducible rfl)
          try simp only [List.setIfInBounds_toArray, List.set_cons_zero, List.set_cons_succ]
          refine hold_take (i := 16) (v := ?rv18) rfl rfl (by kernel_rfl) (by kernel_rfl) (by kernel_rfl) (fun _ _ _ h => h) (Or.inl ⟨by rfl, ?rhy18⟩) hHeld ?rrest18
          case rhy18 => first | (intro w hSw; (try dsimp only at hSw); go_simp; done) | (intro w hSw; (try dsimp only at hSw); go_simp; with_reducible rfl)
          try simp only [List.setIfInBounds_toArray, List.set_cons_zero, List.set_cons_succ]
          refine hold_take (i := 17) (v := ?rv19) rfl rfl (by kernel_rfl) (by kernel_rfl) (by kernel_rfl) (fun _ _ _ h => h) (Or.inl ⟨by rfl, ?rhy19⟩) hHeld ?rrest19
          case rhy19 => first | (intro w hSw; (try dsimp only at hSw); go_simp; done) | (intro w hSw; (try dsimp only at hSw); go_simp; with_reducible rfl)
          try simp only [List.setIfInBounds_toArray, List.set_cons_zero, List.set_cons_succ]
          refine hold_take (i := 18) (v := ?rv20) rfl rfl (by kernel_rfl) (by kernel_rfl) (by kernel_rfl) (fun _ _ _ h => h) (Or.inl ⟨by rfl, ?rhy20⟩) hHeld ?rrest20
          case rhy20 => first | (intro w hSw; (try dsimp only at hSw); go_simp; done) | (intro w hSw; (try dsimp only at hSw); go_simp; with_reducible rfl)
          try simp only [List.setIfInBounds_toArray, List.set_cons_zero, List.set_cons_succ]
          refine hold_take (i := 19) (v := ?rv21) rfl rfl (by kernel_rfl) (by kernel_rfl) (by kernel_rfl) (fun _ _ _ h => h) (Or.inl ⟨by rfl, ?rhy21⟩) hHeld ?rrest21
          case rhy21 => first | (intro w hSw; (try dsimp only at hSw); go_simp; done) | (intro w hSw; (try dsimp only at hSw); go_simp; with_reducible rfl)
          try simp only [List.setIfInBounds_toArray, List.set_cons_zero, List.set_cons_succ]
          refine hold_take (i := 20) (v := ?rv22) rfl rfl (by kernel_rfl) (by kernel_rfl) (by kernel_rfl) (fun _ _ _ h => h) (Or.inl ⟨by rfl, ?rhy22⟩) hHeld ?rrest22
          case rhy22 => first | (intro w hSw; (try dsimp only at hSw); go_simp; done) | (intro w hSw; (try dsimp only at hSw); go_simp; with_reducible rfl)
          try simp only [List.setIfInBounds_toArray, List.set_cons_zero, List.set_cons_succ]
          refine hold_take (i := 21) (v := ?rv23) rfl rfl (by kernel_rfl) (by kernel_rfl) (by kernel_rfl) (fun _ _ _ h => h) (Or.inl ⟨by rfl, ?rhy23⟩) hHeld ?rrest23
          case rhy23 => first | (intro w hSw; (try dsimp only at hSw); go_simp; done) | (intro w hSw; (try dsimp only at hSw); go_simp; with_reducible rfl)
          try simp only [List.setIfInBounds_toArray, List.set_cons_zero, List.set_cons_succ]
          refine hold_take (i := 22) (v := ?rv24) rfl rfl (by kernel_rfl) (by kernel_rfl) (by kernel_rfl) (fun _ _ _ h => h) (Or.inl ⟨by rfl, ?rhy24⟩) hHeld ?rrest24
          case rhy24 => first | (intro w hSw; (try dsimp only at hSw); go_simp; done) | (intro w hSw; (try dsimp only at hSw); go_simp; with_reducible rfl)
          try simp only [List.setIfInBounds_toArray, List.set_cons_zero, List.set_cons_succ]
          refine hold_take (i := 23) (v := ?rv25) rfl rfl (by kernel_rfl) (by kernel_rfl) (by kernel_rfl) (fun _ _ _ h => h) (Or.inl ⟨by rfl, ?rhy25⟩) hHeld ?rrest25
          case rhy25 => first | (intro w hSw; (try dsimp only at hSw); go_simp; done) | (intro w hSw; (try dsimp only at hSw); go_simp; with_reducible rfl)
          try simp only [List.setIfInBounds_toArray, List.set_cons_zero, List.set_cons_succ]
          refine wpAnyH_ready (rs := [24]) (by kernel_rfl) (by simp) ?_
          refine (AllReadyH.cons rfl (fun K hK => ?rz26x24) AllReadyH.nil)
          case rz26x24 =>
            go_simp
            refine (lsame_yes (CU.out.kpt hHeld).by_ (CV.out.kpt hHeld).by_).mono ?_
            rintro e wv27 ⟨rfl, hk⟩
            dsimp only
            have hnew := hHeld.tr hk
            refine hK.out _ _ hnew (fun hHeld => ?_)
            clear hK K hk hnew
            refine hold_take (i := 25) (v := ?rv28) rfl rfl (by kernel_rfl) (by kernel_rfl) (by kernel_rfl) (fun _ _ _ h => h) (Or.inl ⟨by rfl, ?rhy28⟩) hHeld ?rrest28
            case rhy28 => first | (intro w hSw; (try dsimp only at hSw); go_simp; done) | (intro w hSw; (try dsimp only at hSw); go_simp; with_reducible rfl)
            try simp only [List.setIfInBounds_toArray, List.set_cons_zero, List.set_cons_succ]
            refine hold_take (i := 26) (v := ?rv29) rfl rfl (by kernel_rfl) (by kernel_rfl) (by kernel_rfl) (fun _ _ _ h => h) (Or.inl ⟨by rfl, ?rhy29⟩) hHeld ?rrest29
            case rhy29 => first | (intro w hSw; (try dsimp only at hSw); go_simp; done) | (intro w hSw; (try dsimp only at hSw); go_simp; with_reducible rfl)
            try simp only [List.setIfInBounds_toArray, List.set_cons_zero, List.set_cons_succ]
            refine hold_take (i := 27) (v := ?rv30) rfl rfl (by kernel_rfl) (by kernel_rfl) (by kernel_rfl) (fun _ _ _ h => h) (Or.inl ⟨by rfl, ?rhy30⟩) hHeld ?rrest30
            case rhy30 => first | (intro w hSw; (try dsimp only at hSw); go_simp; done) | (intro w hSw; (try dsimp only at hSw); go_simp; with_reducible rfl)
            try simp only [List.setIfInBounds_toArray, List.set_cons_zero, List.set_cons_succ]
            refine hold_take (i := 28) (v := ?rv31) rfl rfl (by kernel_rfl) (by kernel_rfl) (by kernel_rfl) (fun _ _ _ h => h) (Or.inl ⟨by rfl, ?rhy31⟩) hHeld ?rrest31
            case rhy31 => first | (intro w hSw; (try dsimp only at hSw); go_simp; done) | (intro w hSw; (try dsimp only at hSw); go_simp; with_reducible rfl)
            try simp only [List.setIfInBounds_toArray, List.set_cons_zero, List.set_cons_succ]
            refine hold_take (i := 29) (v := ?rv32) rfl rfl (by kernel_rfl) (by kernel_rfl) (by kernel_rfl) (fun _ _ _ h => h) (Or.inl ⟨by rfl, ?rhy32⟩) hHeld ?rrest32
            case rhy32 => first | (intro w hSw; (try dsimp only at hSw); go_simp; done) | (intro w hSw; (try dsimp only at hSw); go_simp; with_reducible rfl)
            try simp only [List.setIfInBounds_toArray, List.set_cons_zero, List.set_cons_succ]
            refine hold_take (i := 30) (v := ?rv33) rfl rfl (by kernel_rfl) (by kernel_rfl) (by kernel_rfl) (fun _ _ _ h => h) (Or.inl ⟨by rfl, ?rhy33⟩) hHeld ?rrest33
            case rhy33 => first | (intro w hSw; (try dsimp only at hSw); go_simp; done) | (intro w hSw; (try dsimp only at hSw); go_simp; with_reducible rfl)
            try simp only [List.setIfInBounds_toArray, List.set_cons_zero, List.set_cons_succ]
            refine hold_take (i := 31) (v := ?rv34) rfl rfl (by kernel_rfl) (by kernel_rfl) (by kernel_rfl) (fun _ _ _ h => h) (Or.inl ⟨by rfl, ?rhy34⟩) hHeld ?rrest34
            case rhy34 => first | (intro w hSw; (try dsimp only at hSw); go_simp; done) | (intro w hSw; (try dsimp only at hSw); go_simp; with_reducible rfl)
            try simp only [List.setIfInBounds_toArray, List.set_cons_zero, List.set_cons_succ]
            refine hold_take (i := 32) (v := ?rv35) rfl rfl (by kernel_rfl) (by kernel_rfl) (by kernel_rfl) (fun _ _ _ h => h) (Or.inl ⟨by rfl, ?rhy35⟩) hHeld ?rrest35
            case rhy35 => first | (intro w hSw; (try dsimp only at hSw); go_simp; done) | (intro w hSw; (try dsimp only at hSw); go_simp; with_reducible rfl)
            try simp only [List.setIfInBounds_toArray, List.set_cons_zero, List.set_cons_succ]
            refine hold_take (i := 33) (v := ?rv36) rfl rfl (by kernel_rfl) (by kernel_rfl) (by kernel_rfl) (fun _ _ _ h => h) (Or.inl ⟨by rfl, ?rhy36⟩) hHeld ?rrest36
            case rhy36 => first | (intro w hSw; (try dsimp only at hSw); go_simp; done) | (intro w hSw; (try dsimp only at hSw); go_simp; with_reducible rfl)
            try simp only [List.setIfInBounds_toArray, List.set_cons_zero, List.set_cons_succ]
            refine hold_take (i := 34) (v := ?rv37) rfl rfl (by kernel_rfl) (by kernel_rfl) (by kernel_rfl) (fun _ _ _ h => h) (Or.inl ⟨by rfl, ?rhy37⟩) hHeld ?rrest37
            case rhy37 => first | (intro w hSw; (try dsimp only at hSw); go_simp; done) | (intro w hSw; (try dsimp only at hSw); go_simp; with_reducible rfl)
            try simp only [List.setIfInBounds_toArray, List.set_cons_zero, List.set_cons_succ]
            refine wpAnyH_ready (rs := [35]) (by kernel_rfl) (by simp) ?_
            refine (AllReadyH.cons rfl (fun K hK => ?rz38x35) AllReadyH.nil)
            case rz38x35 =>
              go_simp
              refine (lsame_yes (CR.out.kpt hHeld).by_ (CS.out.kpt hHeld).by_).mono ?_
              rintro e wv39 ⟨rfl, hk⟩
              dsimp only
              have hnew := hHeld.tr hk
              refine hK.out _ _ hnew (fun hHeld => ?_)
              clear hK K hk hnew
              refine hold_take (i := 36) (v := ?rv40) rfl rfl (by kernel_rfl) (by kernel_rfl) (by kernel_rfl) (fun _ _ _ h => h) (Or.inl ⟨by rfl, ?rhy40⟩) hHeld ?rrest40
              case rhy40 => first | (intro w hSw; (try dsimp only at hSw); go_simp; done) | (intro w hSw; (try dsimp only at hSw); go_simp; with_reducible rfl)
              try simp only [List.setIfInBounds_toArray, List.set_cons_zero, List.set_cons_succ]
              refine hold_take (i := 37) (v := ?rv41) rfl rfl (by kernel_rfl) (by kernel_rfl) (by kernel_rfl) (fun _ _ _ h => h) (Or.inl ⟨by rfl, ?rhy41⟩) hHeld ?rrest41
              case rhy41 => first | (intro w hSw; (try dsimp only at hSw); go_simp; done) | (intro w hSw; (try dsimp only at hSw); go_simp; with_reducible rfl)
              try simp only [List.setIfInBounds_toArray, List.set_cons_zero, List.set_cons_succ]
              refine hold_take (i := 38) (v := ?rv42) rfl rfl (by kernel_rfl) (by kernel_rfl) (by kernel_rfl) (fun _ _ _ h => h) (Or.inl ⟨by rfl, ?rhy42⟩) hHeld ?rrest42
              case rhy42 => first | (intro w hSw; (try dsimp only at hSw); go_simp; done) | (intro w hSw; (try dsimp only at hSw); go_simp; with_reducible rfl)
              try simp only [List.setIfInBounds_toArray, List.set_cons_zero, List.set_cons_succ]
              refine hold_take (i := 39) (v := ?rv43) rfl rfl (by kernel_rfl) (by kernel_rfl) (by kernel_rfl) (fun _ _ _ h => h) (Or.inl ⟨by rfl, ?rhy43⟩) hHeld ?rrest43
              case rhy43 => first | (intro w hSw; (try dsimp only at hSw); go_simp; done) | (intro w hSw; (try dsimp only at hSw); go_simp; with_reducible rfl)
              try simp only [List.setIfInBounds_toArray, List.set_cons_zero, List.set_cons_succ]
              refine hold_take (i := 40) (v := ?rv44) rfl rfl (by kernel_rfl) (by kernel_rfl) (by kernel_rfl) (fun _ _ _ h => h) (Or.inl ⟨by rfl, ?rhy44⟩) hHeld ?rrest44
              case rhy44 => first | (intro w hSw; (try dsimp only at hSw); go_simp; done) | (intro w hSw; (try dsimp only at hSw); go_simp; with_reducible rfl)
              try simp only [List.setIfInBounds_toArray, List.set_cons_zero, List.set_cons_succ]
              refine hold_take (i := 41) (v := ?rv45) rfl rfl (by kernel_rfl) (by kernel_rfl) (by kernel_rfl) (fun _ _ _ h => h) (Or.inl ⟨by rfl, ?rhy45⟩) hHeld ?rrest45
              case rhy45 => first | (intro w hSw; (try dsimp only at hSw); go_simp; done) | (intro w hSw; (try dsimp only at hSw); go_simp; with_reducible rfl)
              try simp only [List.setIfInBounds_toArray, List.set_cons_zero, List.set_cons_succ]
              refine hold_take (i := 42) (v := ?rv46) rfl rfl (by kernel_rfl) (by kernel_rfl) (by kernel_rfl) (fun _ _ _ h => h) (Or.inl ⟨by rfl, ?rhy46⟩) hHeld ?rrest46
              case rhy46 => first | (intro w hSw; (try dsimp only at hSw); go_simp; done) | (intro w hSw; (try dsimp only at hSw); go_simp; with_reducible rfl)
              try simp only [List.setIfInBounds_toArray, List.set_cons_zero, List.set_cons_succ]
              refine hold_take (i := 43) (v := ?rv47) rfl rfl (by kernel_rfl) (by kernel_rfl) (by kernel_rfl) (fun _ _ _ h => h) (Or.inl ⟨by rfl, ?rhy47⟩) hHeld ?rrest47
              case rhy47 => first | (intro w hSw; (try dsimp only at hSw); go_simp; done) | (intro w hSw; (try dsimp only at hSw); go_simp; with_reducible rfl)
              try simp only [List.setIfInBounds_toArray, List.set_cons_zero, List.set_cons_succ]
              refine hold_take (i := 44) (v := ?rv48) rfl rfl (by kernel_rfl) (by kernel_rfl) (by kernel_rfl) (fun _ _ _ h => h) (Or.inl ⟨by rfl, ?rhy48⟩) hHeld ?rrest48
              case rhy48 => first | (intro w hSw; (try dsimp only at hSw); go_simp; done) | (intro w hSw; (try dsimp only at hSw); go_simp; with_reducible rfl)
              try simp only [List.setIfInBounds_toArray, List.set_cons_zero, List.set_cons_succ]
              refine hold_take (i := 45) (v := ?rv49) rfl rfl (by kernel_rfl) (by kernel_rfl) (by kernel_rfl) (fun _ _ _ h => h) (Or.inl ⟨by rfl, ?rhy49⟩) hHeld ?rrest49
              case rhy49 => first | (intro w hSw; (try dsimp only at hSw); go_simp; done) | (intro w hSw; (try dsimp only at hSw); go_simp; with_reducible rfl)
              try simp only [List.setIfInBounds_toArray, List.set_cons_zero, List.set_cons_succ]
              refine hold_take (i := 46) (v := ?rv50) rfl rfl (by kernel_rfl) (by kernel_rfl) (by kernel_rfl) (fun _ _ _ h => h) (Or.inl ⟨by rfl, ?rhy50⟩) hHeld ?rrest50
              case rhy50 => first | (intro w hSw; (try dsimp only at hSw); go_simp; done) | (intro w hSw; (try dsimp only at hSw); go_simp; with_reducible rfl)
              try simp only [List.setIfInBounds_toArray, List.set_cons_zero, List.set_cons_succ]
              refine hold_take (i := 47) (v := ?rv51) rfl rfl (by kernel_rfl) (by kernel_rfl) (by kernel_rfl) (fun _ _ _ h => h) (Or.inl ⟨by rfl, ?rhy51⟩) hHeld ?rrest51
              case rhy51 => first | (intro w hSw; (try dsimp only at hSw); go_simp; done) | (intro w hSw; (try dsimp only at hSw); go_simp; with_reducible rfl)
              try simp only [List.setIfInBounds_toArray, List.set_cons_zero, List.set_cons_succ]
              refine hold_take (i := 48) (v := ?rv52) rfl rfl (by kernel_rfl) (by kernel_rfl) (by kernel_rfl) (fun _ _ _ h => h) (Or.inl ⟨by rfl, ?rhy52⟩) hHeld ?rrest52
              case rhy52 => first | (intro w hSw; (try dsimp only at hSw); go_simp; done) | (intro w hSw; (try dsimp only at hSw); go_simp; with_reducible rfl)
              try simp only [List.setIfInBounds_toArray, List.set_cons_zero, List.set_cons_succ]
              refine hold_take (i := 49) (v := ?rv53) rfl rfl (by kernel_rfl) (by kernel_rfl) (by kernel_rfl) (fun _ _ _ h => h) (Or.inl ⟨by rfl, ?rhy53⟩) hHeld ?rrest53
              case rhy53 => first | (intro w hSw; (try dsimp only at hSw); go_simp; done) | (intro w hSw; (try dsimp only at hSw); go_simp; with_reducible rfl)
              try simp only [List.setIfInBounds_toArray, List.set_cons_zero, List.set_cons_succ]
              refine hold_take (i := 51) (v := ?rv54) rfl rfl (by kernel_rfl) (by kernel_rfl) (by kernel_rfl) (fun _ _ _ h => h) (Or.inl ⟨by rfl, ?rhy54⟩) hHeld ?rrest54
              case rhy54 => first | (intro w hSw; (try dsimp only at hSw); go_simp; done) | (intro w hSw; (try dsimp only at hSw); go_simp; with_reducible rfl)
              try simp only [List.setIfInBounds_toArray, List.set_cons_zero, List.set_cons_succ]
              refine wpAnyH_ready (rs := [50]) (by kernel_rfl) (by simp) ?_
              refine (AllReadyH.cons rfl (fun K hK => ?rz55x50) AllReadyH.nil)
              case rz55x50 =>
                go_simp
                refine (HKK.out wv39).mono ?_
                rintro e wv56 ⟨rfl, hk⟩
                dsimp only
                have hnew := hHeld.tr hk
                refine hK.out _ _ hnew (fun hHeld => ?_)
                clear hK K hk hnew
                refine hold_take (i := 52) (v := ?rv57) rfl rfl (by kernel_rfl) (by kernel_rfl) (by kernel_rfl) (fun _ _ _ h => h) (Or.inl ⟨by rfl, ?rhy57⟩) hHeld ?rrest57
                case rhy57 => first | (intro w hSw; (try dsimp only at hSw); go_simp; done) | (intro w hSw; (try dsimp only at hSw); go_simp; with_reducible rfl)
                try simp only [List.setIfInBounds_toArray, List.set_cons_zero, List.set_cons_succ]
                refine hold_take (i := 53) (v := ?rv58) rfl rfl (by kernel_rfl) (by kernel_rfl) (by kernel_rfl) (fun _ _ _ h => h) (Or.inl ⟨by rfl, ?rhy58⟩) hHeld ?rrest58
                case rhy58 => first | (intro w hSw; (try dsimp only at hSw); go_simp; done) | (intro w hSw; (try dsimp only at hSw); go_simp; with_reducible rfl)
                try simp only [List.setIfInBounds_toArray, List.set_cons_zero, List.set_cons_succ]
                refine hold_take (i := 54) (v := ?rv59) rfl rfl (by kernel_rfl) (by kernel_rfl) (by kernel_rfl) (fun _ _ _ h => h) (Or.inl ⟨by rfl, ?rhy59⟩) hHeld ?rrest59
                case rhy59 => first | (intro w hSw; (try dsimp only at hSw); go_simp; done) | (intro w hSw; (try dsimp only at hSw); go_simp; with_reducible rfl)
                try simp only [List.setIfInBounds_toArray, List.set_cons_zero, List.set_cons_succ]
                refine hold_take (i := 55) (v := ?rv60) rfl rfl (by kernel_rfl) (by kernel_rfl) (by kernel_rfl) (fun _ _ _ h => h) (Or.inl ⟨by rfl, ?rhy60⟩) hHeld ?rrest60
                case rhy60 => first | (intro w hSw; (try dsimp only at hSw); go_simp; done) | (intro w hSw; (try dsimp only at hSw); go_simp; with_reducible rfl)
                try simp only [List.setIfInBounds_toArray, List.set_cons_zero, List.set_cons_succ]
                refine hold_take (i := 56) (v := ?rv61) rfl rfl (by kernel_rfl) (by kernel_rfl) (by kernel_rfl) (fun _ _ _ h => h) (Or.inl ⟨by rfl, ?rhy61⟩) hHeld ?rrest61
                case rhy61 => first | (intro w hSw; (try dsimp only at hSw); go_simp; done) | (intro w hSw; (try dsimp only at hSw); go_simp; with_reducible rfl)
                try simp only [List.setIfInBounds_toArray, List.set_cons_zero, List.set_cons_succ]
                refine hold_take (i := 57) (v := ?rv62) rfl rfl (by kernel_rfl) (by kernel_rfl) (by kernel_rfl) (fun _ _ _ h => h) (Or.inl ⟨by rfl, ?rhy62⟩) hHeld ?rrest62
                case rhy62 => first | (intro w hSw; (try dsimp only at hSw); go_simp; done) | (intro w hSw; (try dsimp only at hSw); go_simp; with_reducible rfl)
                try simp only [List.setIfInBounds_toArray, List.set_cons_zero, List.set_cons_succ]
                refine hold_take (i := 58) (v := ?rv63) rfl rfl (by kernel_rfl) (by kernel_rfl) (by kernel_rfl) (fun _ _ _ h => h) (Or.inl ⟨by rfl, ?rhy63⟩) hHeld ?rrest63
                case rhy63 => first | (intro w hSw; (try dsimp only at hSw); go_simp; done) | (intro w hSw; (try dsimp only at hSw); go_simp; with_reducible rfl)
                try simp only [List.setIfInBounds_toArray, List.set_cons_zero, List.set_cons_succ]
                refine hold_take (i := 59) (v := ?rv64) rfl rfl (by kernel_rfl) (by kernel_rfl) (by kernel_rfl) (fun _ _ _ h => h) (Or.inl ⟨by rfl, ?rhy64⟩) hHeld ?rrest64
                case rhy64 => first | (intro w hSw; (try dsimp only at hSw); go_simp; done) | (intro w hSw; (try dsimp only at hSw); go_simp; with_reducible rfl)
                try simp only [List.setIfInBounds_toArray, List.set_cons_zero, List.set_cons_succ]
                refine wpAnyH_ready (rs := [60]) (by kernel_rfl) (by simp) ?_
                refine (AllReadyH.cons rfl (fun K hK => ?rz65x60) AllReadyH.nil)
                case rz65x60 =>
                  go_simp
                  refine (HMM.out wv56).mono ?_
                  rintro e wv66 ⟨rfl, hk⟩
                  dsimp only
                  have hnew := hHeld.tr hk
                  refine hK.out _ _ hnew (fun hHeld => ?_)
                  clear hK K hk hnew
                  refine hold_take (i := 61) (v := ?rv67) rfl rfl (by kernel_rfl) (by kernel_rfl) (by kernel_rfl) (fun _ _ _ h => h) (Or.inl ⟨by rfl, ?rhy67⟩) hHeld ?rrest67
                  case rhy67 => first | (intro w hSw; (try dsimp only at hSw); go_simp; done) | (intro w hSw; (try dsimp only at hSw); go_simp; with_reducible rfl)
                  try simp only [List.setIfInBounds_toArray, List.set_cons_zero, List.set_cons_succ]
                  refine hold_take (i := 62) (v := ?rv68) rfl rfl (by kernel_rfl) (by kernel_rfl) (by kernel_rfl) (fun _ _ _ h => h) (Or.inl ⟨by rfl, ?rhy68⟩) hHeld ?rrest68
                  case rhy68 => first | (intro w hSw; (try dsimp only at hSw); go_simp; done) | (intro w hSw; (try dsimp only at hSw); go_simp; with_reducible rfl)
                  try simp only [List.setIfInBounds_toArray, List.set_cons_zero, List.set_cons_succ]
                  refine hold_take (i := 63) (v := ?rv69) rfl rfl (by kernel_rfl) (by kernel_rfl) (by kernel_rfl) (fun _ _ _ h => h) (Or.inl ⟨by rfl, ?rhy69⟩) hHeld ?rrest69
                  case rhy69 => first | (intro w hSw; (try dsimp only at hSw); go_simp; done) | (intro w hSw; (try dsimp only at hSw); go_simp; with_reducible rfl)
                  try simp only [List.setIfInBounds_toArray, List.set_cons_zero, List.set_cons_succ]
                  refine hold_take (i := 64) (v := ?rv70) rfl rfl (by kernel_rfl) (by kernel_rfl) (by kernel_rfl) (fun _ _ _ h => h) (Or.inl ⟨by rfl, ?rhy70⟩) hHeld ?rrest70
                  case rhy70 => first | (intro w hSw; (try dsimp only at hSw); go_simp; done) | (intro w hSw; (try dsimp only at hSw); go_simp; with_reducible rfl)
                  try simp only [List.setIfInBounds_toArray, List.set_cons_zero, List.set_cons_succ]
                  refine hold_take (i := 65) (v := ?rv71) rfl rfl (by kernel_rfl) (by kernel_rfl) (by kernel_rfl) (fun _ _ _ h => h) (Or.inl ⟨by rfl, ?rhy71⟩) hHeld ?rrest71
                  case rhy71 => first | (intro w hSw; (try dsimp only at hSw); go_simp; done) | (intro w hSw; (try dsimp only at hSw); go_simp; with_reducible rfl)
                  try simp only [List.setIfInBounds_toArray, List.set_cons_zero, List.set_cons_succ]
                  refine hold_take (i := 66) (v := ?rv72) rfl rfl (by kernel_rfl) (by kernel_rfl) (by kernel_rfl) (fun _ _ _ h => h) (Or.inl ⟨by rfl, ?rhy72⟩) hHeld ?rrest72
                  case rhy72 => first | (intro w hSw; (try dsimp only at hSw); go_simp; done) | (intro w hSw; (try dsimp only at hSw); go_simp; with_reducible rfl)
                  try simp only [List.setIfInBounds_toArray, List.set_cons_zero, List.set_cons_succ]
                  refine hold_take (i := 67) (v := ?rv73) rfl rfl (by kernel_rfl) (by kernel_rfl) (by kernel_rfl) (fun _ _ _ h => h) (Or.inl ⟨by rfl, ?rhy73⟩) hHeld ?rrest73
                  case rhy73 => first | (intro w hSw; (try dsimp only at hSw); go_simp; done) | (intro w hSw; (try dsimp only at hSw); go_simp; with_reducible rfl)
                  try simp only [List.setIfInBounds_toArray, List.set_cons_zero, List.set_cons_succ]
                  refine hold_take (i := 68) (v := undef) rfl rfl (by kernel_rfl) (by kernel_rfl) (by kernel_rfl) (fun _ _ _ h => h) (Or.inr ⟨by rfl, rfl⟩) hHeld ?_
                  try simp only [List.setIfInBounds_toArray, List.set_cons_zero, List.set_cons_succ]
                  refine hold_take (i := 69) (v := undef) rfl rfl (by kernel_rfl) (by kernel_rfl) (by kernel_rfl) (fun _ _ _ h => h) (Or.inr ⟨by rfl, rfl⟩) hHeld ?_
                  try simp only [List.setIfInBounds_toArray, List.set_cons_zero, List.set_cons_succ]
                  refine hold_take (i := 70) (v := ?rv74) rfl rfl (by kernel_rfl) (by kernel_rfl) (by kernel_rfl) (fun _ _ _ h => h) (Or.inl ⟨by rfl, ?rhy74⟩) hHeld ?rrest74
                  case rhy74 => first | (intro w hSw; (try dsimp only at hSw); go_simp; done) | (intro w hSw; (try dsimp only at hSw); go_simp; with_reducible rfl)
                  try simp only [List.setIfInBounds_toArray, List.set_cons_zero, List.set_cons_succ]
                  refine hold_take (i := 71) (v := ?rv75) rfl rfl (by kernel_rfl) (by kernel_rfl) (by kernel_rfl) (fun _ _ _ h => h) (Or.inl ⟨by rfl, ?rhy75⟩) hHeld ?rrest75
                  case rhy75 => first | (intro w hSw; (try dsimp only at hSw); go_simp; done) | (intro w hSw; (try dsimp only at hSw); go_simp; with_reducible rfl)
                  try simp only [List.setIfInBounds_toArray, List.set_cons_zero, List.set_cons_succ]
                  refine hold_take (i := 72) (v := ?rv76) rfl rfl (by kernel_rfl) (by kernel_rfl) (by kernel_rfl) (fun _ _ _ h => h) (Or.inl ⟨by rfl, ?rhy76⟩) hHeld ?rrest76
                  case rhy76 => first | (intro w hSw; (try dsimp only at hSw); go_simp; done) | (intro w hSw; (try dsimp only at hSw); go_simp; with_reducible rfl)
                  try simp only [List.setIfInBounds_toArray, List.set_cons_zero, List.set_cons_succ]
                  refine hold_take (i := 73) (v := ?rv77) rfl rfl (by kernel_rfl) (by kernel_rfl) (by kernel_rfl) (fun _ _ _ h => h) (Or.inl ⟨by rfl, ?rhy77⟩) hHeld ?rrest77
                  case rhy77 => first | (intro w hSw; (try dsimp only at hSw); go_simp; done) | (intro w hSw; (try dsimp only at hSw); go_simp; with_reducible rfl)
                  try simp only [List.setIfInBounds_toArray, List.set_cons_zero, List.set_cons_succ]
                  refine hold_take (i := 74) (v := ?rv78) rfl rfl (by kernel_rfl) (by kernel_rfl) (by kernel_rfl) (fun _ _ _ h => h) (Or.inl ⟨by rfl, ?rhy78⟩) hHeld ?rrest78
                  case rhy78 => first | (intro w hSw; (try dsimp only at hSw); go_simp; done) | (intro w hSw; (try dsimp only at hSw); go_simp; with_reducible rfl)
                  try simp only [List.setIfInBounds_toArray, List.set_cons_zero, List.set_cons_succ]
                  refine hold_take (i := 76) (v := ?rv79) rfl rfl (by kernel_rfl) (by kernel_rfl) (by kernel_rfl) (fun _ _ _ h => h) (Or.inl ⟨by rfl, ?rhy79⟩) hHeld ?rrest79
                  case rhy79 => first | (intro w hSw; (try dsimp only at hSw); go_simp; done) | (intro w hSw; (try dsimp only at hSw); go_simp; with_reducible rfl)
                  try simp only [List.setIfInBounds_toArray, List.set_cons_zero, List.set_cons_succ]
                  refine hold_take (i := 77) (v := ?rv80) rfl rfl (by kernel_rfl) (by kernel_rfl) (by kernel_rfl) (fun _ _ _ h => h) (Or.inl ⟨by rfl, ?rhy80⟩) hHeld ?rrest80
                  case rhy80 => first | (intro w hSw; (try dsimp only at hSw); go_simp; done) | (intro w hSw; (try dsimp only at hSw); go_simp; with_reducible rfl)
                  try simp only [List.setIfInBounds_toArray, List.set_cons_zero, List.set_cons_succ]
                  refine wpAnyH_ready (rs := [75]) (by kernel_rfl) (by simp) ?_
                  refine (AllReadyH.cons rfl (fun K hK => ?rz81x75) AllReadyH.nil)
                  case rz81x75 =>
                    go_simp
                    refine (HSM.out wv66 hHeld).mono ?_
                    rintro e wv82 ⟨rfl, hk⟩
                    dsimp only
                    have hnew := hHeld.tr hk
                    refine hK.out _ _ hnew (fun hHeld => ?_)
                    clear hK K hk hnew
                    refine wpAnyH_ready (rs := [78]) (by kernel_rfl) (by simp) ?_
                    refine (AllReadyH.cons rfl (fun K hK => ?rz83x78) AllReadyH.nil)
                    case rz83x78 =>
                      go_simp
                      refine (HSL.out wv82 hHeld).mono ?_
                      rintro e wv84 ⟨rfl, hk⟩
                      dsimp only
                      have hnew := hHeld.tr hk
                      refine hK.out _ _ hnew (fun hHeld => ?_)
                      clear hK K hk hnew
                      refine hold_take (i := 79) (v := ?rv85) rfl rfl (by kernel_rfl) (by kernel_rfl) (by kernel_rfl) (fun _ _ _ h => h) (Or.inl ⟨by rfl, ?rhy85⟩) hHeld ?rrest85
                      case rhy85 => first | (intro w hSw; (try dsimp only at hSw); go_simp; done) | (intro w hSw; (try dsimp only at hSw); go_simp; with_reducible rfl)
                      try simp only [List.setIfInBounds_toArray, List.set_cons_zero, List.set_cons_succ]
                      refine hold_take (i := 80) (v := ?rv86) rfl rfl (by kernel_rfl) (by kernel_rfl) (by kernel_rfl) (fun _ _ _ h => h) (Or.inl ⟨by rfl, ?rhy86⟩) hHeld ?rrest86
                      case rhy86 => first | (intro w hSw; (try dsimp only at hSw); go_simp; done) | (intro w hSw; (try dsimp only at hSw); go_simp; with_reducible rfl)
                      try simp only [List.setIfInBounds_toArray, List.set_cons_zero, List.set_cons_succ]
                      refine wpAnyH_done (by kernel_rfl) ?_ _
                      refine And.intro ?_ hHeld
                      with_reducible rfl
      case cont1 =>
      intro e a' w20 hq
      obtain ⟨rfl, rfl, hk20⟩ := hq.out
      have HKd := Hid.mk' (HKc.out.tr hk20)
      have BRd := Hid.mk' (BR.out.kept hk20)
      have HWa : Hid (Wb w20 g1 Np) := Hid.mk' (HW1.out.far hk20 (by simp) (fun x => (HG1p.out x).2))
      have HWc : Hid (Wb w20 g2 Nr) := Hid.mk' (HW2.out.far hk20 (by simp) (fun x => (HG2p.out x).2))
      have HGs : Hid (0 < Nr → g2 < w20.heap.size) := Hid.mk' (fun x => Nat.lt_of_lt_of_le (HG2p.out x).2 hk20.size)
      clear q1 q2 q3 q4 q5 q6 q7 q8 t1 t2 HSM HSL HKK BX BY BU BV BZ CX CY CU CV CR CS CO DP HW1 HW2 hk20
      go_wp2
      go_loopw [35] (fun i wr => ∃ k1 : Nat, k1 ≤ Np ∧ i = .int .i64 k1 ∧ Hid (Wb wr g1 Np) ∧ Hid (Kept w20 wr (some g1))) (fun i _ => Np - (intOf i).toNat)
      case atStart => exact ⟨0, Nat.zero_le _, rfl, HWa, Hid.mk' (Kept.refl _ _)⟩
      case round =>
        obtain ⟨k1, hk1, rfl, hwb, hkp⟩ := hrel
        by_cases hl1 : k1 < Np
        · have hl1' : (k1 : Int) < Np := by omega
          obtain ⟨e, _⟩ := HG1p.out (by omega)
          subst e
          obtain ⟨⟨z1, hz1⟩, hf1⟩ := hwb.out k1 hl1
          go_wp2
          go_roundw
          case rel => exact ⟨k1 + 1, by omega, by go_num, Hid.mk' (hwb.out.set k1 _), Hid.mk' (Kept.setRow hkp.out k1 _)⟩
          case measure => simp [intOf]; omega
        · have hl1' : k1 = Np := by omega
          subst hl1'
          have HKe : Hid (Kept V wr none) := Hid.mk' (HKd.out.newRow hkp.out (fun i e => by cases e; exact F1.out))
          have BRe : Hid (Db wr br ar Nr cr) := Hid.mk' (BRd.out.row hkp.out (fun e => F3.out e.symm))
          have HWe : Hid (Wb wr g2 Nr) := Hid.mk' (fun j hj => (HWc.out.far hkp.out (fun e => F5.out (by omega) (Option.some.inj e).symm) HGs.out) j hj)
          have HGt : Hid (0 < Nr → g2 < wr.heap.size) := Hid.mk' (fun x => Nat.lt_of_lt_of_le (HGs.out x) hkp.out.size)
          obtain ⟨w21, hw21⟩ : ∃ w21, w21 = wr := ⟨_, rfl⟩
          subst hw21
          clear hwb hkp HWa HWc HGs HKd BRd hl1 hk1
          go_wp2
          go_loopw [36] (fun i wr => ∃ k2 : Nat, k2 ≤ Nr ∧ i = .int .i64 k2 ∧ Hid (Wb wr g2 Nr) ∧ Hid (Kept w21 wr (some g2))) (fun i _ => Nr - (intOf i).toNat)
          case atStart => exact ⟨0, Nat.zero_le _, rfl, HWe, Hid.mk' (Kept.refl _ _)⟩
          case round =>
            obtain ⟨k2, hk2, rfl, hwb, hkp⟩ := hrel
            have hbb := BRe.out.row hkp.out (fun e => F4.out e.symm)
            have rr := hbb.c0
            have rl := hbb.lt
            by_cases hl2 : k2 < Nr
            · have hl2' : (k2 : Int) < Nr := by omega
              obtain ⟨e, _⟩ := HG2p.out (by omega)
              subst e
              have hwd : Wb wr.drew g2 Nr := hwb.out.far (r := none) (kept_drw wr none) (by simp) (fun x => Nat.lt_of_lt_of_le (HGt.out x) hkp.out.size)
              obtain ⟨⟨z2, hzc⟩, hfz⟩ := hwd k2 hl2
              have hbr : ∀ w', Kept wr w' (some g2) → w'.cell? ⟨br, 0, none⟩ = some (.slice (some ⟨g2, 0, none⟩) Nr cr) := fun w' hk => (hbb.row hk (fun e => F4.out e.symm)).c0
              go_wp2
              refine Code.wp_mono (Q := Rbq ?A2 (fun w' => Wb w' g2 Nr ∧ Kept wr w' (some g2))) ?cont2 ?reg2
              case reg2 =>
                repeat (rename_i hh; clear hh)
                refine wp_region_held_drew (S := fun w' => Kept wr w' (some g2)) (by kernel_rfl) (kept_drw _ _) (fun hHeld => ?_)
                refine hold_take (i := 0) (v := ?rv87) rfl rfl (by kernel_rfl) (by kernel_rfl) (by kernel_rfl) (fun _ _ _ h => h) (Or.inl ⟨by rfl, ?rhy87⟩) hHeld ?rrest87
                case rhy87 => first | (intro w hSw; (try dsimp only at hSw); go_simp; done) | (intro w hSw; (try dsimp only at hSw); go_simp; with_reducible rfl)
                try simp only [List.setIfInBounds_toArray, List.set_cons_zero, List.set_cons_succ]
                refine hold_take (i := 1) (v := ?rv88) rfl rfl (by kernel_rfl) (by kernel_rfl) (by kernel_rfl) (fun _ _ _ h => h) (Or.inl ⟨by rfl, ?rhy88⟩) hHeld ?rrest88
                case rhy88 => first | (intro w hSw; (try dsimp only at hSw); go_simp; done) | (intro w hSw; (try dsimp only at hSw); go_simp; with_reducible rfl)
                try simp only [List.setIfInBounds_toArray, List.set_cons_zero, List.set_cons_succ]
                refine hold_take (i := 2) (v := ?rv89) rfl rfl (by kernel_rfl) (by kernel_rfl) (by kernel_rfl) (fun _ _ _ h => h) (Or.inl ⟨by rfl, ?rhy89⟩) hHeld ?rrest89
                case rhy89 => first | (intro w hSw; (try dsimp only at hSw); go_simp; done) | (intro w hSw; (try dsimp only at hSw); go_simp; with_reducible rfl)
                try simp only [List.setIfInBounds_toArray, List.set_cons_zero, List.set_cons_succ]
                refine hold_take (i := 3) (v := ?rv90) rfl rfl (by kernel_rfl) (by kernel_rfl) (by kernel_rfl) (fun _ _ _ h => h) (Or.inl ⟨by rfl, ?rhy90⟩) hHeld ?rrest90
                case rhy90 => first | (intro w hSw; (try dsimp only at hSw); go_simp; done) | (intro w hSw; (try dsimp only at hSw); go_simp; with_reducible rfl)
                try simp only [List.setIfInBounds_toArray, List.set_cons_zero, List.set_cons_succ]
                refine hold_take (i := 4) (v := ?rv91) rfl rfl (by kernel_rfl) (by kernel_rfl) (by kernel_rfl) (fun _ _ _ h => h) (Or.inl ⟨by rfl, ?rhy91⟩) hHeld ?rrest91
                case rhy91 => first | (intro w hSw; (try dsimp only at hSw); go_simp; done) | (intro w hSw; (try dsimp only at hSw); go_simp; with_reducible rfl)
                try simp only [List.setIfInBounds_toArray, List.set_cons_zero, List.set_cons_succ]
                refine hold_take (i := 5) (v := ?rv92) rfl rfl (by kernel_rfl) (by kernel_rfl) (by kernel_rfl) (fun _ _ _ h => h) (Or.inl ⟨by rfl, ?rhy92⟩) hHeld ?rrest92
                case rhy92 => first | (intro w hSw; (try dsimp only at hSw); go_simp; done) | (intro w hSw; (try dsimp only at hSw); go_simp; with_reducible rfl)
                try simp only [List.setIfInBounds_toArray, List.set_cons_zero, List.set_cons_succ]
                refine hold_take (i := 6) (v := ?rv93) rfl rfl (by kernel_rfl) (by kernel_rfl) (by kernel_rfl) (fun _ _ _ h => h) (Or.inl ⟨by rfl, ?rhy93⟩) hHeld ?rrest93
                case rhy93 => first | (intro w hSw; (try dsimp only at hSw); go_simp; done) | (intro w hSw; (try dsimp only at hSw); go_simp; with_reducible rfl)
                try simp only [List.setIfInBounds_toArray, List.set_cons_zero, List.set_cons_succ]
                refine wpAnyH_ready (rs := [7]) (by kernel_rfl) (by simp) ?_
                refine (AllReadyH.cons rfl (fun K hK => ?rz94x7) AllReadyH.nil)
                case rz94x7 =>
                  have d0 := hzc
                  go_simp
                  refine hK.out _ _ hHeld (fun hHeld => ?_)
                  clear hK K d0
                  refine hold_take (i := 8) (v := ?rv95) rfl rfl (by kernel_rfl) (by kernel_rfl) (by kernel_rfl) (fun _ _ _ h => h) (Or.inl ⟨by rfl, ?rhy95⟩) hHeld ?rrest95
                  case rhy95 => first | (intro w hSw; (try dsimp only at hSw); go_simp; done) | (intro w hSw; (try dsimp only at hSw); go_simp; with_reducible rfl)
                  try simp only [List.setIfInBounds_toArray, List.set_cons_zero, List.set_cons_succ]
                  refine hold_take (i := 9) (v := ?rv96) rfl rfl (by kernel_rfl) (by kernel_rfl) (by kernel_rfl) (fun _ _ _ h => h) (Or.inl ⟨by rfl, ?rhy96⟩) hHeld ?rrest96
                  case rhy96 => first | (intro w hSw; (try dsimp only at hSw); go_simp; done) | (intro w hSw; (try dsimp only at hSw); go_simp; with_reducible rfl)
                  try simp only [List.setIfInBounds_toArray, List.set_cons_zero, List.set_cons_succ]
                  refine wpAnyH_ready (rs := [10]) (by kernel_rfl) (by simp) ?_
                  refine (AllReadyH.cons rfl (fun K hK => ?rz97x10) AllReadyH.nil)
                  case rz97x10 =>
                    have d0 := hzc
                    have e0 := hfz
                    go_simp
                    refine hK.out _ _ ?hxx ?hyy
                    case hxx => exact Kept.setRow hHeld k2 _
                    case hyy =>
                    intro hHeld
                    clear hK K
                    refine wpAnyH_done (by kernel_rfl) ?_ _
                    refine And.intro ?_ ⟨hwd.set k2 _, hHeld⟩
                    with_reducible rfl
              case cont2 =>
              intro e a' w5 hq
              obtain ⟨rfl, rfl, hw5, hk5⟩ := hq.out
              have HW5 := Hid.mk' hw5
              have HK5 := Hid.mk' (hkp.out.tr hk5)
              clear hw5 hk5
              (try clear hq)
              (try clear hbr)
              (try clear hzc)
              (try clear hfz)
              (try clear hwd)
              go_wp2
              go_roundw
              case rel => exact ⟨k2 + 1, by omega, by go_num, HW5, HK5⟩
              case measure => simp [intOf]; omega
            · have hl2' : k2 = Nr := by omega
              subst hl2'
              have KF := HKe.out.newRow hkp.out (fun i e => by cases e; exact F2.out)
              have HKF := Hid.mk' KF
              have HOf := HOw.out.kept KF
              have HDf := HDd.out.kept KF
              have o9 := HOf.c0
              have o8 := HOf.lt
              have p9 := HDf.c0
              have p8 := HDf.lt
              clear KF HOf HDf
              go_wp2_with (go_at_call 23; refine (lsame_yes (COw.out.kpt HKF.out).by_ (CD.out.kpt HKF.out).by_).mono ?_; rintro e w30 ⟨rfl, hk30⟩; have u1 := run_text ((CIn.out.kpt HKF.out).kpt hk30).by_ c2; have u2 := run_text ((CB.out.kpt HKF.out).kpt hk30).by_ d)
              go_ret
              exact ⟨rfl, (HKV.out.tr HKF.out).tr hk30⟩

end Go.Proofs.Ytpfbdandhdapcaa
