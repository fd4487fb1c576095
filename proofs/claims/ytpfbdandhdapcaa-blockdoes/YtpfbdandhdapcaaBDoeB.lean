/-
  BLOCKDOES' WALK over devices that may not be (made by a program).
-/
import Derived.Test.YtpfbdandhdapcaaBDoeM
namespace Go.Proofs.Ytpfbdandhdapcaa
open Go.RowKit Go.Lib Go.Deep
set_option linter.unusedVariables false
set_option linter.unusedSimpArgs false

set_option maxRecDepth 100000 in
set_option maxHeartbeats 6000000 in
theorem does_bad {a : Option Addr} {n c : Nat} {L : List Nat} {la : Option Addr} {m lc : Nat} {l : List Pw} (wh to i : Int) {b : Option Addr} {q d : Nat} {B : List Nat} (w : World) (hC : Come w a n c L) (hP : Plw w la m l) (hB : Come w b q d B) (h : ¬ 10000 < n) (h2 : ¬ 100 < m) (h3 : ¬ 10000 < q) (hch : chkE n = 180) : Calls Try.prog 4 #[dvV a n c, .slice la m lc, .int .i64 wh, .int .i64 to, .int .i64 i, .slice b q d] w fun e w' => e = .returned (.bool true) ∧ Kept w w' none := by
  have HC := Hid.mk' hC
  have HP := Hid.mk' hP
  have HB := Hid.mk' hB
  have hn := hC.by_.max
  have hm := hP.max
  have hq := hB.by_.max
  have HS := Hid.mk' hP.size
  clear hC hP hB
  have h' : ¬ (10000 : Int) < n := by omega
  have h2' : ¬ (100 : Int) < m := by omega
  have h3' : ¬ (10000 : Int) < q := by omega
  have HCh := Hid.mk' hch
  have HMv : Hid (manV n = 0) := Hid.mk' (by unfold manV; rw [hch]; rfl)
  clear hch
  obtain ⟨Ex, hEx⟩ : ∃ E, Hid (newE i = E) := ⟨_, Hid.mk' rfl⟩
  obtain ⟨Mx, hMx⟩ : ∃ M, Hid (newL i = M) := ⟨_, Hid.mk' rfl⟩
  obtain ⟨Nx, hNx⟩ : ∃ N, Hid (Mx.length = N) := ⟨_, Hid.mk' rfl⟩
  obtain ⟨Ep, hEp⟩ : ∃ E, Hid (brE n i = E) := ⟨_, Hid.mk' rfl⟩
  obtain ⟨Mp, hMp⟩ : ∃ M, Hid (brL L i = M) := ⟨_, Hid.mk' rfl⟩
  obtain ⟨Np, hNp⟩ : ∃ N, Hid (Mp.length = N) := ⟨_, Hid.mk' rfl⟩
  obtain ⟨Eu, hEu⟩ : ∃ E, Hid (doE n [⟨i, B⟩] 1 0 = E) := ⟨_, Hid.mk' rfl⟩
  obtain ⟨Mu, hMu⟩ : ∃ M, Hid (doL L [⟨i, B⟩] 1 0 = M) := ⟨_, Hid.mk' rfl⟩
  obtain ⟨Nu, hNu⟩ : ∃ N, Hid (Mu.length = N) := ⟨_, Hid.mk' rfl⟩
  obtain ⟨Er, hEr⟩ : ∃ E, Hid (doE n l wh to = E) := ⟨_, Hid.mk' rfl⟩
  obtain ⟨Mr, hMr⟩ : ∃ M, Hid (doL L l wh to = M) := ⟨_, Hid.mk' rfl⟩
  obtain ⟨Nr, hNr⟩ : ∃ N, Hid (Mr.length = N) := ⟨_, Hid.mk' rfl⟩
  go_enter Try.func4, Try.ntmps4
  go_wp2
  go_loopw [13] (fun i wr => ∃ k : Nat, k ≤ m ∧ i = .int .i64 k ∧ Hid (Kept (w.alloc (.cells (dvC a n c) 24)) wr none)) (fun i _ => m - (intOf i).toNat)
  case atStart => exact ⟨0, Nat.zero_le _, rfl, Hid.mk' (Kept.refl _ _)⟩
  case round =>
    obtain ⟨k, hk, rfl, hkr⟩ := hrel
    by_cases hlt : k < m
    · obtain ⟨bl, offl, rfl, _⟩ := HP.out.at_ (by omega)
      have hkl : k < l.length := by rw [HS.out]; exact hlt
      obtain ⟨ak, ck, hn0, hn1, hcm⟩ := (HP.out.kept ((Kept.alloc w (dvC a n c) 24 (0, 0) none).tr hkr.out)).get hkl
      have hx1 := hn1 wr (Kept.refl _ _)
      have hqm := hcm.out.by_.max
      have hkm : (k : Int) < m := by omega
      clear hn0 hn1 hcm
      generalize l[k].data.length = qq at *
      clear hkl
      by_cases hqq : 10000 < qq
      · have hqq' : (10000 : Int) < qq := by omega
        go_wp2
        go_ret
        exact ⟨rfl, (Kept.alloc _ _ _ _ _).tr hkr.out⟩
      · have hqq' : ¬ (10000 : Int) < qq := by omega
        go_wp2
        go_roundw
        case rel => exact ⟨k + 1, by omega, by go_num, hkr⟩
        case measure => simp [intOf]; omega
    · have hkm : k = m := by omega
      subst hkm
      obtain ⟨wo, hwo⟩ : ∃ wo, wo = wr := ⟨_, rfl⟩
      subst hwo
      have HKo := Hid.mk' ((Kept.alloc w (dvC a n c) 24 (0, 0) none).tr hkr.out)
      have HDo := Hid.mk' ((db_alloc w a n c 24).kept hkr.out)
      have po := HDo.out.c0
      have p1o := HDo.out.lt
      have hq7 : q ≤ 70368744177664 := by omega
      clear hkr hlt hk
      go_wp2_with (first
        | (at_builtin; refine wpList_ap0 (by rfl) _ _ (by rfl) w1.heap.size (by rfl) b q d B (by rfl) (HB.out.by_.kept ((HKo.out.tr hk1).tr (Kept.alloc w1 (dvC a1 n c1) 24 (0, 0) none))) HB.out.nil hq7 (by simp) ?_; intro a2 c2 V hm2 hk2)
        | (go_at_call 17; refine (rtwin_any wo (HC.out.kpt HKo.out) (show n ≤ 10000 by omega)).mono ?_; rintro e w1 ⟨a1, c1, rfl, hv1, hk1⟩))
      have KV := (hk1.tr (Kept.alloc w1 (dvC a1 n c1) 24 (0, 0) none)).tr hk2
      have HKV := Hid.mk' (HKo.out.tr KV)
      have HDd := Hid.mk' (HDo.out.kept KV)
      have HOw := Hid.mk' ((db_alloc w1 a1 n c1 24).kept hk2)
      have COw := Hid.mk' ((hv1.come.kpt (Kept.alloc w1 (dvC a1 n c1) 24 (0, 0) none)).kpt hk2)
      have CIn := Hid.mk' (mine_rv (w0 := w1) hm2 HB.out.by_.lt (Nat.le_refl _)).come
      have CD := Hid.mk' (HC.out.kpt HKV.out)
      have CB := Hid.mk' (HB.out.kpt HKV.out)
      have PV := Hid.mk' (HP.out.kept HKV.out)
      generalize w1.heap.size = bo at HOw ⊢
      have oV := HOw.out.c0
      have o1V := HOw.out.lt
      have pV := HDd.out.c0
      have p1V := HDd.out.lt
      clear KV hk1 hk2 hv1 hm2 HKo HDo po p1o
      go_wp2_with (first
    | (go_at_call 22; refine (rchk_any a n c _ hn).mono ?_; rw [HCh.out]; rintro e wc ⟨rfl, hkc⟩; have HKc := Hid.mk' (HKm.out.tr hkc); clear pm p1m)
    | (go_at_call 9; refine (bmany_any a1 n c1 _ hn).mono ?_; rw [HMv.out, HCh.out]; rintro e wm ⟨rfl, hkm⟩; have HKm := Hid.mk' (HKz.out.tr hkm); have HDm := Hid.mk' (HDz.out.kept hkm); have pm := HDm.out.c0; have p1m := HDm.out.lt; clear oz o1z pz p1z)
    | (go_at_call 21; refine (dcn_do lc _ (CD.out.kpt HKr.out) (PV.out.kept HKr.out) (E := Er) (M := Mr) (N := Nr) hEr.out hMr.out hNr.out).mono ?_; rintro e wz ⟨az, cz, rfl, hzz, hkz⟩; have HKz := Hid.mk' ((HKr.out.tr hkz).tr (Kept.alloc wz (dvC az Nr cz) 24 (0, 0) none)); have HOz := Hid.mk' (HOw.out.kept ((HKr.out.tr hkz).tr (Kept.alloc wz (dvC az Nr cz) 24 (0, 0) none))); have HDz := Hid.mk' (HDd.out.kept ((HKr.out.tr hkz).tr (Kept.alloc wz (dvC az Nr cz) 24 (0, 0) none))); have oz := HOz.out.c0; have o1z := HOz.out.lt; have pz := HDz.out.c0; have p1z := HDz.out.lt; clear or o1r pr p1r)
    | (go_at_call 13; refine (dvn_do lc _ (COw.out.kpt HKv.out) (PV.out.kept HKv.out) (E := Er) (M := Mr) (N := Nr) hEr.out hMr.out hNr.out).mono ?_; rintro e wr ⟨ar, cr, rfl, hzr, hkr⟩; have HKr := Hid.mk' ((HKv.out.tr hkr).tr (Kept.alloc wr (dvC ar Nr cr) 24 (0, 0) none)); have HOr := Hid.mk' (HOw.out.kept ((HKv.out.tr hkr).tr (Kept.alloc wr (dvC ar Nr cr) 24 (0, 0) none))); have HDr := Hid.mk' (HDd.out.kept ((HKv.out.tr hkr).tr (Kept.alloc wr (dvC ar Nr cr) 24 (0, 0) none))); have or := HOr.out.c0; have o1r := HOr.out.lt; have pr := HDr.out.c0; have p1r := HDr.out.lt; clear ov o1v pv p1v)
    | (go_at_call 20; refine (dcn_write i _ (CD.out.kpt HKu.out) (CB.out.kpt HKu.out) (E := Eu) (M := Mu) (N := Nu) hEu.out hMu.out hNu.out).mono ?_; rintro e wv ⟨av, cv, rfl, hzv, hkv⟩; have HKv := Hid.mk' ((HKu.out.tr hkv).tr (Kept.alloc wv (dvC av Nu cv) 24 (0, 0) none)); have HOv := Hid.mk' (HOw.out.kept ((HKu.out.tr hkv).tr (Kept.alloc wv (dvC av Nu cv) 24 (0, 0) none))); have HDv := Hid.mk' (HDd.out.kept ((HKu.out.tr hkv).tr (Kept.alloc wv (dvC av Nu cv) 24 (0, 0) none))); have ov := HOv.out.c0; have o1v := HOv.out.lt; have pv := HDv.out.c0; have p1v := HDv.out.lt; clear ou o1u pu p1u)
    | (go_at_call 10; refine (nw_write _ (COw.out.kpt HKo.out) (CIn.out.kpt HKo.out) (E := Eu) (M := Mu) (n2 := Nu) hEu.out hMu.out hNu.out).mono ?_; rintro e wu ⟨au, cu, rfl, hzu, hku⟩; have HKu := Hid.mk' ((HKo.out.tr hku).tr (Kept.alloc wu (dvC au Nu cu) 24 (0, 0) none)); have HOu := Hid.mk' (HOw.out.kept ((HKo.out.tr hku).tr (Kept.alloc wu (dvC au Nu cu) 24 (0, 0) none))); have HDu := Hid.mk' (HDd.out.kept ((HKo.out.tr hku).tr (Kept.alloc wu (dvC au Nu cu) 24 (0, 0) none))); have ou := HOu.out.c0; have o1u := HOu.out.lt; have pu := HDu.out.c0; have p1u := HDu.out.lt; clear oo o1o po p1o)
    | (go_at_call 19; refine (dcn_read i _ (CD.out.kpt HKp.out) (E := Ep) (M := Mp) (N := Np) hEp.out hMp.out hNp.out).mono ?_; rintro e wo ⟨ao, co, rfl, hzo, hko⟩; have HKo := Hid.mk' (HKp.out.tr hko); have HOo := Hid.mk' (HOw.out.kept (HKp.out.tr hko)); have HDo := Hid.mk' (HDd.out.kept (HKp.out.tr hko)); have oo := HOo.out.c0; have o1o := HOo.out.lt; have po := HDo.out.c0; have p1o := HDo.out.lt; clear op o1p pp p1p)
    | (go_at_call 12; refine (dvn_read i _ (COw.out.kpt HKy.out) (E := Ep) (M := Mp) (N := Np) hEp.out hMp.out hNp.out).mono ?_; rintro e wp ⟨ap, cp, rfl, hzp, hkp⟩; have HKp := Hid.mk' (HKy.out.tr hkp); have HOp := Hid.mk' (HOw.out.kept (HKy.out.tr hkp)); have HDp := Hid.mk' (HDd.out.kept (HKy.out.tr hkp)); have op := HOp.out.c0; have o1p := HOp.out.lt; have pp := HDp.out.c0; have p1p := HDp.out.lt; clear oy o1y py p1y)
    | (go_at_call 18; refine (dcn_new i _ (E := Ex) (M := Mx) (N := Nx) hEx.out hMx.out hNx.out).mono ?_; rintro e wy ⟨ay, cy, rfl, hzy, hky⟩; have HKy := Hid.mk' ((HKx.out.tr hky).tr (Kept.alloc wy (dvC ay Nx cy) 24 (0, 0) none)); have HOy := Hid.mk' (HOw.out.kept ((HKx.out.tr hky).tr (Kept.alloc wy (dvC ay Nx cy) 24 (0, 0) none))); have HDy := Hid.mk' (HDd.out.kept ((HKx.out.tr hky).tr (Kept.alloc wy (dvC ay Nx cy) 24 (0, 0) none))); have oy := HOy.out.c0; have o1y := HOy.out.lt; have py := HDy.out.c0; have p1y := HDy.out.lt; clear ox o1x px p1x)
    | (go_at_call 8; refine (nw_new i _ (E := Ex) (M := Mx) (n2 := Nx) hEx.out hMx.out hNx.out).mono ?_; rintro e wx ⟨ax, cx, rfl, hzx, hkx⟩; have HKx := Hid.mk' (((Kept.refl V none).tr hkx).tr (Kept.alloc wx (dvC ax Nx cx) 24 (0, 0) none)); have HOx := Hid.mk' (HOw.out.kept (((Kept.refl V none).tr hkx).tr (Kept.alloc wx (dvC ax Nx cx) 24 (0, 0) none))); have HDx := Hid.mk' (HDd.out.kept (((Kept.refl V none).tr hkx).tr (Kept.alloc wx (dvC ax Nx cx) 24 (0, 0) none))); have ox := HOx.out.c0; have o1x := HOx.out.lt; have px := HDx.out.c0; have p1x := HDx.out.lt; clear oV o1V pV p1V))
      have Tz := hkm.tr hkc
      have Tr := (hkz.tr (Kept.alloc wz (dvC az Nr cz) 24 (0, 0) none)).tr Tz
      have Tv := (hkr.tr (Kept.alloc wr (dvC ar Nr cr) 24 (0, 0) none)).tr Tr
      have Tu := (hkv.tr (Kept.alloc wv (dvC av Nu cv) 24 (0, 0) none)).tr Tv
      have To := (hku.tr (Kept.alloc wu (dvC au Nu cu) 24 (0, 0) none)).tr Tu
      have Tp := hko.tr To
      have Ty := hkp.tr Tp
      have Tx := (hky.tr (Kept.alloc wy (dvC ay Nx cy) 24 (0, 0) none)).tr Ty
      have CX := Hid.mk' ((hzx.out.come.kpt (Kept.alloc wx (dvC ax Nx cx) 24 (0, 0) none)).kpt Tx)
      have CY := Hid.mk' ((hzy.out.kpt (Kept.alloc wy (dvC ay Nx cy) 24 (0, 0) none)).kpt Ty)
      have DP := Hid.mk' (hzp.out.kept Tp)
      have CO := Hid.mk' (hzo.out.kpt To)
      have CU := Hid.mk' ((hzu.out.come.kpt (Kept.alloc wu (dvC au Nu cu) 24 (0, 0) none)).kpt Tu)
      have CV := Hid.mk' ((hzv.out.kpt (Kept.alloc wv (dvC av Nu cv) 24 (0, 0) none)).kpt Tv)
      have DR := Hid.mk' ((hzr.out.kept (Kept.alloc wr (dvC ar Nr cr) 24 (0, 0) none)).kept Tr)
      have CR := Hid.mk' DR.out.come
      have CS := Hid.mk' ((hzz.out.kpt (Kept.alloc wz (dvC az Nr cz) 24 (0, 0) none)).kpt Tz)
      have BX := Hid.mk' ((db_alloc wx ax Nx cx 24).kept Tx)
      have BY := Hid.mk' ((db_alloc wy ay Nx cy 24).kept Ty)
      have BU := Hid.mk' ((db_alloc wu au Nu cu 24).kept Tu)
      have BV := Hid.mk' ((db_alloc wv av Nu cv 24).kept Tv)
      have BR := Hid.mk' ((db_alloc wr ar Nr cr 24).kept Tr)
      have BZ := Hid.mk' ((db_alloc wz az Nr cz 24).kept Tz)
      have HDc := Hid.mk' (HDd.out.kept HKc.out)
      have HOc := Hid.mk' (HOw.out.kept HKc.out)
      have hNp9 := hzp.out.max
      have hNr9 := hzr.out.max
      have hpl : ∀ x, ap = some x → x.block < wp.heap.size := by
        rintro x rfl
        rcases hzp.out.at_ with ⟨e, _⟩ | ⟨g, e, hg, hr⟩
        · cases e
        · injection e with e; rw [e]; exact hr.lt
      have hrl : ∀ x, ar = some x → x.block < wr.heap.size := by
        rintro x rfl
        rcases hzr.out.at_ with ⟨e, _⟩ | ⟨g, e, hg, hr⟩
        · cases e
        · injection e with e; rw [e]; exact hr.lt
      obtain ⟨g1, hg1, hg1p, hg1w, hg1z⟩ := dv_wb DP.out Ty.size
      obtain ⟨g2, hg2, hg2p, hg2w, hg2z⟩ := dv_wb DR.out Tv.size
      have F1 := Nat.le_trans HKy.out.size hg1
      have F2 := Nat.le_trans HKv.out.size hg2
      have F3 := far_of hg1p hg1z hpl ((hko.tr ((hku.tr (Kept.alloc wu (dvC au Nu cu) 24 (0, 0) none)).tr (hkv.tr (Kept.alloc wv (dvC av Nu cv) 24 (0, 0) none)))).tr hkr).size BR.out.lt
      have F4 := far_of hg2p hg2z hrl (Nat.le_refl _) BR.out.lt
      have F5 := fun (x : 0 < Nr) => far_two hg1p hg1z hpl (Nat.le_trans (hko.tr ((hku.tr (Kept.alloc wu (dvC au Nu cu) 24 (0, 0) none)).tr (hkv.tr (Kept.alloc wv (dvC av Nu cv) 24 (0, 0) none)))).size hg2) (hg2p x).2
      have F1 := Hid.mk' F1
      have F2 := Hid.mk' F2
      have F3 := Hid.mk' F3
      have F4 := Hid.mk' F4
      have F5 := Hid.mk' F5
      have HG1p := Hid.mk' hg1p
      have HG2p := Hid.mk' hg2p
      have HW1 := Hid.mk' hg1w
      have HW2 := Hid.mk' hg2w
      clear hpl hrl hg1 hg1p hg1w hg1z hg2 hg2p hg2w hg2z
      clear Tz Tr Tv Tu To Tp Ty Tx hkx hky hkp hko hku hkv hkr hkz hkm hkc HKx HKy HKp HKo HKu HKv HKr HKz HKm HOx HOy HOp HOo HOu HOv HOr HOz HDx HDy HDp HDo HDu HDv HDr HDz HDm hzx hzy hzp hzo hzu hzv hzr hzz DR
      generalize wx.heap.size = bx at BX ⊢
      generalize wy.heap.size = by_ at BY ⊢
      generalize wu.heap.size = bu at BU ⊢
      generalize wv.heap.size = bv at BV ⊢
      generalize wr.heap.size = br at BR F3 F4 ⊢
      generalize wz.heap.size = bz at BZ ⊢
      obtain ⟨W, hW⟩ : ∃ W, W = wc := ⟨_, rfl⟩
      subst hW
      obtain ⟨Dq, hDq⟩ : ∃ Dq, Hid (decide (L = Mu) = Dq) := ⟨_, Hid.mk' rfl⟩
      have HSM := Hid.mk' (fun cur (hk : Kept W cur none) => bsm_of (c := c) (d := cu) (CD.out.kpt (HKc.out.tr hk)).by_ (CU.out.kpt hk).by_ hDq.out)
      have HSL := Hid.mk' (fun cur (hk : Kept W cur none) => lsm_of (c := c) (d := cu) (CD.out.kpt (HKc.out.tr hk)).by_ (CU.out.kpt hk).by_ hDq.out)
      have HKK := Hid.mk' (fun cur => bck_of a1 n c1 cur hn HCh.out)
      have q1 : ∀ w', Kept W w' none → w'.cell? ⟨bx, 0, none⟩ = some (.slice ax Nx cx) := fun w' hk => (BX.out.kept hk).c0
      have q2 : ∀ w', Kept W w' none → w'.cell? ⟨by_, 0, none⟩ = some (.slice ay Nx cy) := fun w' hk => (BY.out.kept hk).c0
      have q3 : ∀ w', Kept W w' none → w'.cell? ⟨bu, 0, none⟩ = some (.slice au Nu cu) := fun w' hk => (BU.out.kept hk).c0
      have q4 : ∀ w', Kept W w' none → w'.cell? ⟨bv, 0, none⟩ = some (.slice av Nu cv) := fun w' hk => (BV.out.kept hk).c0
      have q5 : ∀ w', Kept W w' none → w'.cell? ⟨br, 0, none⟩ = some (.slice ar Nr cr) := fun w' hk => (BR.out.kept hk).c0
      have q6 : ∀ w', Kept W w' none → w'.cell? ⟨bz, 0, none⟩ = some (.slice az Nr cz) := fun w' hk => (BZ.out.kept hk).c0
      have q7 : ∀ w', Kept W w' none → w'.cell? ⟨bo, 0, none⟩ = some (.slice a1 n c1) := fun w' hk => (HOc.out.kept hk).c0
      have q8 : ∀ w', Kept W w' none → w'.cell? ⟨w.heap.size, 0, none⟩ = some (.slice a n c) := fun w' hk => (HDc.out.kept hk).c0
      have t1 : ∀ w', Kept W w' none → (convert 22 9 (.slice ap Np cp)).run Try.prog w' = .ok (.string (textOf Mp)) w' := fun w' hk => run_text (DP.out.come.kpt hk).by_ cp
      have t2 : ∀ w', Kept W w' none → (convert 22 9 (.slice ao Np co)).run Try.prog w' = .ok (.string (textOf Mp)) w' := fun w' hk => run_text (CO.out.kpt hk).by_ co
      refine Code.wp_mono (Q := Rbq ?A1 (fun w' => Kept W w' none)) ?cont1 ?reg1
      case reg1 =>
        repeat (rename_i hh; clear hh)
        refine wp_region_held_drew (S := fun w' => Kept W w' none) (by kernel_rfl) (kept_drw _ _) (fun hHeld => ?_)
        refine hold_take (i := 0) (v := ?rv98) rfl rfl (by kernel_rfl) (by kernel_rfl) (by kernel_rfl) (fun _ _ _ h => h) (Or.inl ⟨by rfl, ?rhy98⟩) hHeld ?rrest98
        case rhy98 => first | (intro w hSw; (try dsimp only at hSw); go_simp; done) | (intro w hSw; (try dsimp only at hSw); go_simp; with_reducible rfl)
        try simp only [List.setIfInBounds_toArray, List.set_cons_zero, List.set_cons_succ]
        refine hold_take (i := 1) (v := ?rv99) rfl rfl (by kernel_rfl) (by kernel_rfl) (by kernel_rfl) (fun _ _ _ h => h) (Or.inl ⟨by rfl, ?rhy99⟩) hHeld ?rrest99
        case rhy99 => first | (intro w hSw; (try dsimp only at hSw); go_simp; done) | (intro w hSw; (try dsimp only at hSw); go_simp; with_reducible rfl)
        try simp only [List.setIfInBounds_toArray, List.set_cons_zero, List.set_cons_succ]
        refine wpAnyH_ready (rs := [2]) (by kernel_rfl) (by simp) ?_
        refine (AllReadyH.cons rfl (fun K hK => ?rz100x2) AllReadyH.nil)
        case rz100x2 =>
          go_simp
          refine (lsame_yes (CX.out.kpt hHeld).by_ (CY.out.kpt hHeld).by_).mono ?_
          rintro e wv101 ⟨rfl, hk⟩
          dsimp only
          have hnew := hHeld.tr hk
          refine hK.out _ _ hnew (fun hHeld => ?_)
          clear hK K hk hnew
          refine hold_take (i := 3) (v := ?rv102) rfl rfl (by kernel_rfl) (by kernel_rfl) (by kernel_rfl) (fun _ _ _ h => h) (Or.inl ⟨by rfl, ?rhy102⟩) hHeld ?rrest102
          case rhy102 => first | (intro w hSw; (try dsimp only at hSw); go_simp; done) | (intro w hSw; (try dsimp only at hSw); go_simp; with_reducible rfl)
          try simp only [List.setIfInBounds_toArray, List.set_cons_zero, List.set_cons_succ]
          refine hold_take (i := 4) (v := ?rv103) rfl rfl (by kernel_rfl) (by kernel_rfl) (by kernel_rfl) (fun _ _ _ h => h) (Or.inl ⟨by rfl, ?rhy103⟩) hHeld ?rrest103
          case rhy103 => first | (intro w hSw; (try dsimp only at hSw); go_simp; done) | (intro w hSw; (try dsimp only at hSw); go_simp; with_reducible rfl)
          try simp only [List.setIfInBounds_toArray, List.set_cons_zero, List.set_cons_succ]
          refine hold_take (i := 5) (v := ?rv104) rfl rfl (by kernel_rfl) (by kernel_rfl) (by kernel_rfl) (fun _ _ _ h => h) (Or.inl ⟨by rfl, ?rhy104⟩) hHeld ?rrest104
          case rhy104 => first | (intro w hSw; (try dsimp only at hSw); go_simp; done) | (intro w hSw; (try dsimp only at hSw); go_simp; with_reducible rfl)
          try simp only [List.setIfInBounds_toArray, List.set_cons_zero, List.set_cons_succ]
          refine hold_take (i := 6) (v := ?rv105) rfl rfl (by kernel_rfl) (by kernel_rfl) (by kernel_rfl) (fun _ _ _ h => h) (Or.inl ⟨by rfl, ?rhy105⟩) hHeld ?rrest105
          case rhy105 => first | (intro w hSw; (try dsimp only at hSw); go_simp; done) | (intro w hSw; (try dsimp only at hSw); go_simp; with_reducible rfl)
          try simp only [List.setIfInBounds_toArray, List.set_cons_zero, List.set_cons_succ]
          refine hold_take (i := 7) (v := ?rv106) rfl rfl (by kernel_rfl) (by kernel_rfl) (by kernel_rfl) (fun _ _ _ h => h) (Or.inl ⟨by rfl, ?rhy106⟩) hHeld ?rrest106
          case rhy106 => first | (intro w hSw; (try dsimp only at hSw); go_simp; done) | (intro w hSw; (try dsimp only at hSw); go_simp; with_reducible rfl)
          try simp only [List.setIfInBounds_toArray, List.set_cons_zero, List.set_cons_succ]
          refine hold_take (i := 8) (v := ?rv107) rfl rfl (by kernel_rfl) (by kernel_rfl) (by kernel_rfl) (fun _ _ _ h => h) (Or.inl ⟨by rfl, ?rhy107⟩) hHeld ?rrest107
          case rhy107 => first | (intro w hSw; (try dsimp only at hSw); go_simp; done) | (intro w hSw; (try dsimp only at hSw); go_simp; with_reducible rfl)
          try simp only [List.setIfInBounds_toArray, List.set_cons_zero, List.set_cons_succ]
          refine hold_take (i := 9) (v := ?rv108) rfl rfl (by kernel_rfl) (by kernel_rfl) (by kernel_rfl) (fun _ _ _ h => h) (Or.inl ⟨by rfl, ?rhy108⟩) hHeld ?rrest108
          case rhy108 => first | (intro w hSw; (try dsimp only at hSw); go_simp; done) | (intro w hSw; (try dsimp only at hSw); go_simp; with_reducible rfl)
          try simp only [List.setIfInBounds_toArray, List.set_cons_zero, List.set_cons_succ]
          refine hold_take (i := 10) (v := ?rv109) rfl rfl (by kernel_rfl) (by kernel_rfl) (by kernel_rfl) (fun _ _ _ h => h) (Or.inl ⟨by rfl, ?rhy109⟩) hHeld ?rrest109
          case rhy109 => first | (intro w hSw; (try dsimp only at hSw); go_simp; done) | (intro w hSw; (try dsimp only at hSw); go_simp; with_reducible rfl)
          try simp only [List.setIfInBounds_toArray, List.set_cons_zero, List.set_cons_succ]
          refine hold_take (i := 11) (v := ?rv110) rfl rfl (by kernel_rfl) (by kernel_rfl) (by kernel_rfl) (fun _ _ _ h => h) (Or.inl ⟨by rfl, ?rhy110⟩) hHeld ?rrest110
          case rhy110 => first | (intro w hSw; (try dsimp only at hSw); go_simp; done) | (intro w hSw; (try dsimp only at hSw); go_simp; with_reducible rfl)
          try simp only [List.setIfInBounds_toArray, List.set_cons_zero, List.set_cons_succ]
          refine hold_take (i := 12) (v := ?rv111) rfl rfl (by kernel_rfl) (by kernel_rfl) (by kernel_rfl) (fun _ _ _ h => h) (Or.inl ⟨by rfl, ?rhy111⟩) hHeld ?rrest111
          case rhy111 => first | (intro w hSw; (try dsimp only at hSw); go_simp; done) | (intro w hSw; (try dsimp only at hSw); go_simp; with_reducible rfl)
          try simp only [List.setIfInBounds_toArray, List.set_cons_zero, List.set_cons_succ]
          refine hold_take (i := 13) (v := ?rv112) rfl rfl (by kernel_rfl) (by kernel_rfl) (by kernel_rfl) (fun _ _ _ h => h) (Or.inl ⟨by rfl, ?rhy112⟩) hHeld ?rrest112
          case rhy112 => first | (intro w hSw; (try dsimp only at hSw); go_simp; done) | (intro w hSw; (try dsimp only at hSw); go_simp; with_reducible rfl)
          try simp only [List.setIfInBounds_toArray, List.set_cons_zero, List.set_cons_succ]
          refine hold_take (i := 14) (v := ?rv113) rfl rfl (by kernel_rfl) (by kernel_rfl) (by kernel_rfl) (fun _ _ _ h => h) (Or.inl ⟨by rfl, ?rhy113⟩) hHeld ?rrest113
          case rhy113 => first | (intro w hSw; (try dsimp only at hSw); go_simp; done) | (intro w hSw; (try dsimp only at hSw); go_simp; with_reducible rfl)
          try simp only [List.setIfInBounds_toArray, List.set_cons_zero, List.set_cons_succ]
          refine hold_take (i := 15) (v := ?rv114) rfl rfl (by kernel_rfl) (by kernel_rfl) (by kernel_rfl) (fun _ _ _ h => h) (Or.inl ⟨by rfl, ?rhy114⟩) hHeld ?rrest114
          case rhy114 => first | (intro w hSw; (try dsimp only at hSw); go_simp; done) | (intro w hSw; (try dsimp only at hSw); go_simp; with_reducible rfl)
          try simp only [List.setIfInBounds_toArray, List.set_cons_zero, List.set_cons_succ]
          refine hold_take (i := 16) (v := ?rv115) rfl rfl (by kernel_rfl) (by kernel_rfl) (by kernel_rfl) (fun _ _ _ h => h) (Or.inl ⟨by rfl, ?rhy115⟩) hHeld ?rrest115
          case rhy115 => first | (intro w hSw; (try dsimp only at hSw); go_simp; done) | (intro w hSw; (try dsimp only at hSw); go_simp; with_reducible rfl)
          try simp only [List.setIfInBounds_toArray, List.set_cons_zero, List.set_cons_succ]
          refine hold_take (i := 17) (v := ?rv116) rfl rfl (by kernel_rfl) (by kernel_rfl) (by kernel_rfl) (fun _ _ _ h => h) (Or.inl ⟨by rfl, ?rhy116⟩) hHeld ?rrest116
          case rhy116 => first | (intro w hSw; (try dsimp only at hSw); go_simp; done) | (intro w hSw; (try dsimp only at hSw); go_simp; with_reducible rfl)
          try simp only [List.setIfInBounds_toArray, List.set_cons_zero, List.set_cons_succ]
          refine hold_take (i := 18) (v := ?rv117) rfl rfl (by kernel_rfl) (by kernel_rfl) (by kernel_rfl) (fun _ _ _ h => h) (Or.inl ⟨by rfl, ?rhy117⟩) hHeld ?rrest117
          case rhy117 => first | (intro w hSw; (try dsimp only at hSw); go_simp; done) | (intro w hSw; (try dsimp only at hSw); go_simp; with_reducible rfl)
          try simp only [List.setIfInBounds_toArray, List.set_cons_zero, List.set_cons_succ]
          refine hold_take (i := 19) (v := ?rv118) rfl rfl (by kernel_rfl) (by kernel_rfl) (by kernel_rfl) (fun _ _ _ h => h) (Or.inl ⟨by rfl, ?rhy118⟩) hHeld ?rrest118
          case rhy118 => first | (intro w hSw; (try dsimp only at hSw); go_simp; done) | (intro w hSw; (try dsimp only at hSw); go_simp; with_reducible rfl)
          try simp only [List.setIfInBounds_toArray, List.set_cons_zero, List.set_cons_succ]
          refine hold_take (i := 20) (v := ?rv119) rfl rfl (by kernel_rfl) (by kernel_rfl) (by kernel_rfl) (fun _ _ _ h => h) (Or.inl ⟨by rfl, ?rhy119⟩) hHeld ?rrest119
          case rhy119 => first | (intro w hSw; (try dsimp only at hSw); go_simp; done) | (intro w hSw; (try dsimp only at hSw); go_simp; with_reducible rfl)
          try simp only [List.setIfInBounds_toArray, List.set_cons_zero, List.set_cons_succ]
          refine hold_take (i := 21) (v := ?rv120) rfl rfl (by kernel_rfl) (by kernel_rfl) (by kernel_rfl) (fun _ _ _ h => h) (Or.inl ⟨by rfl, ?rhy120⟩) hHeld ?rrest120
          case rhy120 => first | (intro w hSw; (try dsimp only at hSw); go_simp; done) | (intro w hSw; (try dsimp only at hSw); go_simp; with_reducible rfl)
          try simp only [List.setIfInBounds_toArray, List.set_cons_zero, List.set_cons_succ]
          refine hold_take (i := 22) (v := ?rv121) rfl rfl (by kernel_rfl) (by kernel_rfl) (by kernel_rfl) (fun _ _ _ h => h) (Or.inl ⟨by rfl, ?rhy121⟩) hHeld ?rrest121
          case rhy121 => first | (intro w hSw; (try dsimp only at hSw); go_simp; done) | (intro w hSw; (try dsimp only at hSw); go_simp; with_reducible rfl)
          try simp only [List.setIfInBounds_toArray, List.set_cons_zero, List.set_cons_succ]
          refine hold_take (i := 23) (v := ?rv122) rfl rfl (by kernel_rfl) (by kernel_rfl) (by kernel_rfl) (fun _ _ _ h => h) (Or.inl ⟨by rfl, ?rhy122⟩) hHeld ?rrest122
          case rhy122 => first | (intro w hSw; (try dsimp only at hSw); go_simp; done) | (intro w hSw; (try dsimp only at hSw); go_simp; with_reducible rfl)
          try simp only [List.setIfInBounds_toArray, List.set_cons_zero, List.set_cons_succ]
          refine wpAnyH_ready (rs := [24]) (by kernel_rfl) (by simp) ?_
          refine (AllReadyH.cons rfl (fun K hK => ?rz123x24) AllReadyH.nil)
          case rz123x24 =>
            go_simp
            refine (lsame_yes (CU.out.kpt hHeld).by_ (CV.out.kpt hHeld).by_).mono ?_
            rintro e wv124 ⟨rfl, hk⟩
            dsimp only
            have hnew := hHeld.tr hk
            refine hK.out _ _ hnew (fun hHeld => ?_)
            clear hK K hk hnew
            refine hold_take (i := 25) (v := ?rv125) rfl rfl (by kernel_rfl) (by kernel_rfl) (by kernel_rfl) (fun _ _ _ h => h) (Or.inl ⟨by rfl, ?rhy125⟩) hHeld ?rrest125
            case rhy125 => first | (intro w hSw; (try dsimp only at hSw); go_simp; done) | (intro w hSw; (try dsimp only at hSw); go_simp; with_reducible rfl)
            try simp only [List.setIfInBounds_toArray, List.set_cons_zero, List.set_cons_succ]
            refine hold_take (i := 26) (v := ?rv126) rfl rfl (by kernel_rfl) (by kernel_rfl) (by kernel_rfl) (fun _ _ _ h => h) (Or.inl ⟨by rfl, ?rhy126⟩) hHeld ?rrest126
            case rhy126 => first | (intro w hSw; (try dsimp only at hSw); go_simp; done) | (intro w hSw; (try dsimp only at hSw); go_simp; with_reducible rfl)
            try simp only [List.setIfInBounds_toArray, List.set_cons_zero, List.set_cons_succ]
            refine hold_take (i := 27) (v := ?rv127) rfl rfl (by kernel_rfl) (by kernel_rfl) (by kernel_rfl) (fun _ _ _ h => h) (Or.inl ⟨by rfl, ?rhy127⟩) hHeld ?rrest127
            case rhy127 => first | (intro w hSw; (try dsimp only at hSw); go_simp; done) | (intro w hSw; (try dsimp only at hSw); go_simp; with_reducible rfl)
            try simp only [List.setIfInBounds_toArray, List.set_cons_zero, List.set_cons_succ]
            refine hold_take (i := 28) (v := ?rv128) rfl rfl (by kernel_rfl) (by kernel_rfl) (by kernel_rfl) (fun _ _ _ h => h) (Or.inl ⟨by rfl, ?rhy128⟩) hHeld ?rrest128
            case rhy128 => first | (intro w hSw; (try dsimp only at hSw); go_simp; done) | (intro w hSw; (try dsimp only at hSw); go_simp; with_reducible rfl)
            try simp only [List.setIfInBounds_toArray, List.set_cons_zero, List.set_cons_succ]
            refine hold_take (i := 29) (v := ?rv129) rfl rfl (by kernel_rfl) (by kernel_rfl) (by kernel_rfl) (fun _ _ _ h => h) (Or.inl ⟨by rfl, ?rhy129⟩) hHeld ?rrest129
            case rhy129 => first | (intro w hSw; (try dsimp only at hSw); go_simp; done) | (intro w hSw; (try dsimp only at hSw); go_simp; with_reducible rfl)
            try simp only [List.setIfInBounds_toArray, List.set_cons_zero, List.set_cons_succ]
            refine hold_take (i := 30) (v := ?rv130) rfl rfl (by kernel_rfl) (by kernel_rfl) (by kernel_rfl) (fun _ _ _ h => h) (Or.inl ⟨by rfl, ?rhy130⟩) hHeld ?rrest130
            case rhy130 => first | (intro w hSw; (try dsimp only at hSw); go_simp; done) | (intro w hSw; (try dsimp only at hSw); go_simp; with_reducible rfl)
            try simp only [List.setIfInBounds_toArray, List.set_cons_zero, List.set_cons_succ]
            refine hold_take (i := 31) (v := ?rv131) rfl rfl (by kernel_rfl) (by kernel_rfl) (by kernel_rfl) (fun _ _ _ h => h) (Or.inl ⟨by rfl, ?rhy131⟩) hHeld ?rrest131
            case rhy131 => first | (intro w hSw; (try dsimp only at hSw); go_simp; done) | (intro w hSw; (try dsimp only at hSw); go_simp; with_reducible rfl)
            try simp only [List.setIfInBounds_toArray, List.set_cons_zero, List.set_cons_succ]
            refine hold_take (i := 32) (v := ?rv132) rfl rfl (by kernel_rfl) (by kernel_rfl) (by kernel_rfl) (fun _ _ _ h => h) (Or.inl ⟨by rfl, ?rhy132⟩) hHeld ?rrest132
            case rhy132 => first | (intro w hSw; (try dsimp only at hSw); go_simp; done) | (intro w hSw; (try dsimp only at hSw); go_simp; with_reducible rfl)
            try simp only [List.setIfInBounds_toArray, List.set_cons_zero, List.set_cons_succ]
            refine hold_take (i := 33) (v := ?rv133) rfl rfl (by kernel_rfl) (by kernel_rfl) (by kernel_rfl) (fun _ _ _ h => h) (Or.inl ⟨by rfl, ?rhy133⟩) hHeld ?rrest133
            case rhy133 => first | (intro w hSw; (try dsimp only at hSw); go_simp; done) | (intro w hSw; (try dsimp only at hSw); go_simp; with_reducible rfl)
            try simp only [List.setIfInBounds_toArray, List.set_cons_zero, List.set_cons_succ]
            refine hold_take (i := 34) (v := ?rv134) rfl rfl (by kernel_rfl) (by kernel_rfl) (by kernel_rfl) (fun _ _ _ h => h) (Or.inl ⟨by rfl, ?rhy134⟩) hHeld ?rrest134
            case rhy134 => first | (intro w hSw; (try dsimp only at hSw); go_simp; done) | (intro w hSw; (try dsimp only at hSw); go_simp; with_reducible rfl)
            try simp only [List.setIfInBounds_toArray, List.set_cons_zero, List.set_cons_succ]
            refine wpAnyH_ready (rs := [35]) (by kernel_rfl) (by simp) ?_
            refine (AllReadyH.cons rfl (fun K hK => ?rz135x35) AllReadyH.nil)
            case rz135x35 =>
              go_simp
              refine (lsame_yes (CR.out.kpt hHeld).by_ (CS.out.kpt hHeld).by_).mono ?_
              rintro e wv136 ⟨rfl, hk⟩
              dsimp only
              have hnew := hHeld.tr hk
              refine hK.out _ _ hnew (fun hHeld => ?_)
              clear hK K hk hnew
              refine hold_take (i := 36) (v := ?rv137) rfl rfl (by kernel_rfl) (by kernel_rfl) (by kernel_rfl) (fun _ _ _ h => h) (Or.inl ⟨by rfl, ?rhy137⟩) hHeld ?rrest137
              case rhy137 => first | (intro w hSw; (try dsimp only at hSw); go_simp; done) | (intro w hSw; (try dsimp only at hSw); go_simp; with_reducible rfl)
              try simp only [List.setIfInBounds_toArray, List.set_cons_zero, List.set_cons_succ]
              refine hold_take (i := 37) (v := ?rv138) rfl rfl (by kernel_rfl) (by kernel_rfl) (by kernel_rfl) (fun _ _ _ h => h) (Or.inl ⟨by rfl, ?rhy138⟩) hHeld ?rrest138
              case rhy138 => first | (intro w hSw; (try dsimp only at hSw); go_simp; done) | (intro w hSw; (try dsimp only at hSw); go_simp; with_reducible rfl)
              try simp only [List.setIfInBounds_toArray, List.set_cons_zero, List.set_cons_succ]
              refine hold_take (i := 38) (v := ?rv139) rfl rfl (by kernel_rfl) (by kernel_rfl) (by kernel_rfl) (fun _ _ _ h => h) (Or.inl ⟨by rfl, ?rhy139⟩) hHeld ?rrest139
              case rhy139 => first | (intro w hSw; (try dsimp only at hSw); go_simp; done) | (intro w hSw; (try dsimp only at hSw); go_simp; with_reducible rfl)
              try simp only [List.setIfInBounds_toArray, List.set_cons_zero, List.set_cons_succ]
              refine hold_take (i := 39) (v := ?rv140) rfl rfl (by kernel_rfl) (by kernel_rfl) (by kernel_rfl) (fun _ _ _ h => h) (Or.inl ⟨by rfl, ?rhy140⟩) hHeld ?rrest140
              case rhy140 => first | (intro w hSw; (try dsimp only at hSw); go_simp; done) | (intro w hSw; (try dsimp only at hSw); go_simp; with_reducible rfl)
              try simp only [List.setIfInBounds_toArray, List.set_cons_zero, List.set_cons_succ]
              refine hold_take (i := 40) (v := ?rv141) rfl rfl (by kernel_rfl) (by kernel_rfl) (by kernel_rfl) (fun _ _ _ h => h) (Or.inl ⟨by rfl, ?rhy141⟩) hHeld ?rrest141
              case rhy141 => first | (intro w hSw; (try dsimp only at hSw); go_simp; done) | (intro w hSw; (try dsimp only at hSw); go_simp; with_reducible rfl)
              try simp only [List.setIfInBounds_toArray, List.set_cons_zero, List.set_cons_succ]
              refine hold_take (i := 41) (v := ?rv142) rfl rfl (by kernel_rfl) (by kernel_rfl) (by kernel_rfl) (fun _ _ _ h => h) (Or.inl ⟨by rfl, ?rhy142⟩) hHeld ?rrest142
              case rhy142 => first | (intro w hSw; (try dsimp only at hSw); go_simp; done) | (intro w hSw; (try dsimp only at hSw); go_simp; with_reducible rfl)
              try simp only [List.setIfInBounds_toArray, List.set_cons_zero, List.set_cons_succ]
              refine hold_take (i := 42) (v := ?rv143) rfl rfl (by kernel_rfl) (by kernel_rfl) (by kernel_rfl) (fun _ _ _ h => h) (Or.inl ⟨by rfl, ?rhy143⟩) hHeld ?rrest143
              case rhy143 => first | (intro w hSw; (try dsimp only at hSw); go_simp; done) | (intro w hSw; (try dsimp only at hSw); go_simp; with_reducible rfl)
              try simp only [List.setIfInBounds_toArray, List.set_cons_zero, List.set_cons_succ]
              refine hold_take (i := 43) (v := ?rv144) rfl rfl (by kernel_rfl) (by kernel_rfl) (by kernel_rfl) (fun _ _ _ h => h) (Or.inl ⟨by rfl, ?rhy144⟩) hHeld ?rrest144
              case rhy144 => first | (intro w hSw; (try dsimp only at hSw); go_simp; done) | (intro w hSw; (try dsimp only at hSw); go_simp; with_reducible rfl)
              try simp only [List.setIfInBounds_toArray, List.set_cons_zero, List.set_cons_succ]
              refine hold_take (i := 44) (v := ?rv145) rfl rfl (by kernel_rfl) (by kernel_rfl) (by kernel_rfl) (fun _ _ _ h => h) (Or.inl ⟨by rfl, ?rhy145⟩) hHeld ?rrest145
              case rhy145 => first | (intro w hSw; (try dsimp only at hSw); go_simp; done) | (intro w hSw; (try dsimp only at hSw); go_simp; with_reducible rfl)
              try simp only [List.setIfInBounds_toArray, List.set_cons_zero, List.set_cons_succ]
              refine hold_take (i := 45) (v := ?rv146) rfl rfl (by kernel_rfl) (by kernel_rfl) (by kernel_rfl) (fun _ _ _ h => h) (Or.inl ⟨by rfl, ?rhy146⟩) hHeld ?rrest146
              case rhy146 => first | (intro w hSw; (try dsimp only at hSw); go_simp; done) | (intro w hSw; (try dsimp only at hSw); go_simp; with_reducible rfl)
              try simp only [List.setIfInBounds_toArray, List.set_cons_zero, List.set_cons_succ]
              refine hold_take (i := 46) (v := ?rv147) rfl rfl (by kernel_rfl) (by kernel_rfl) (by kernel_rfl) (fun _ _ _ h => h) (Or.inl ⟨by rfl, ?rhy147⟩) hHeld ?rrest147
              case rhy147 => first | (intro w hSw; (try dsimp only at hSw); go_simp; done) | (intro w hSw; (try dsimp only at hSw); go_simp; with_reducible rfl)
              try simp only [List.setIfInBounds_toArray, List.set_cons_zero, List.set_cons_succ]
              refine hold_take (i := 47) (v := ?rv148) rfl rfl (by kernel_rfl) (by kernel_rfl) (by kernel_rfl) (fun _ _ _ h => h) (Or.inl ⟨by rfl, ?rhy148⟩) hHeld ?rrest148
              case rhy148 => first | (intro w hSw; (try dsimp only at hSw); go_simp; done) | (intro w hSw; (try dsimp only at hSw); go_simp; with_reducible rfl)
              try simp only [List.setIfInBounds_toArray, List.set_cons_zero, List.set_cons_succ]
              refine hold_take (i := 48) (v := ?rv149) rfl rfl (by kernel_rfl) (by kernel_rfl) (by kernel_rfl) (fun _ _ _ h => h) (Or.inl ⟨by rfl, ?rhy149⟩) hHeld ?rrest149
              case rhy149 => first | (intro w hSw; (try dsimp only at hSw); go_simp; done) | (intro w hSw; (try dsimp only at hSw); go_simp; with_reducible rfl)
              try simp only [List.setIfInBounds_toArray, List.set_cons_zero, List.set_cons_succ]
              refine hold_take (i := 49) (v := ?rv150) rfl rfl (by kernel_rfl) (by kernel_rfl) (by kernel_rfl) (fun _ _ _ h => h) (Or.inl ⟨by rfl, ?rhy150⟩) hHeld ?rrest150
              case rhy150 => first | (intro w hSw; (try dsimp only at hSw); go_simp; done) | (intro w hSw; (try dsimp only at hSw); go_simp; with_reducible rfl)
              try simp only [List.setIfInBounds_toArray, List.set_cons_zero, List.set_cons_succ]
              refine hold_take (i := 51) (v := ?rv151) rfl rfl (by kernel_rfl) (by kernel_rfl) (by kernel_rfl) (fun _ _ _ h => h) (Or.inl ⟨by rfl, ?rhy151⟩) hHeld ?rrest151
              case rhy151 => first | (intro w hSw; (try dsimp only at hSw); go_simp; done) | (intro w hSw; (try dsimp only at hSw); go_simp; with_reducible rfl)
              try simp only [List.setIfInBounds_toArray, List.set_cons_zero, List.set_cons_succ]
              refine wpAnyH_ready (rs := [50]) (by kernel_rfl) (by simp) ?_
              refine (AllReadyH.cons rfl (fun K hK => ?rz152x50) AllReadyH.nil)
              case rz152x50 =>
                go_simp
                refine (HKK.out wv136).mono ?_
                rintro e wv153 ⟨rfl, hk⟩
                dsimp only
                have hnew := hHeld.tr hk
                refine hK.out _ _ hnew (fun hHeld => ?_)
                clear hK K hk hnew
                refine hold_take (i := 52) (v := ?rv154) rfl rfl (by kernel_rfl) (by kernel_rfl) (by kernel_rfl) (fun _ _ _ h => h) (Or.inl ⟨by rfl, ?rhy154⟩) hHeld ?rrest154
                case rhy154 => first | (intro w hSw; (try dsimp only at hSw); go_simp; done) | (intro w hSw; (try dsimp only at hSw); go_simp; with_reducible rfl)
                try simp only [List.setIfInBounds_toArray, List.set_cons_zero, List.set_cons_succ]
                refine hold_take (i := 53) (v := ?rv155) rfl rfl (by kernel_rfl) (by kernel_rfl) (by kernel_rfl) (fun _ _ _ h => h) (Or.inl ⟨by rfl, ?rhy155⟩) hHeld ?rrest155
                case rhy155 => first | (intro w hSw; (try dsimp only at hSw); go_simp; done) | (intro w hSw; (try dsimp only at hSw); go_simp; with_reducible rfl)
                try simp only [List.setIfInBounds_toArray, List.set_cons_zero, List.set_cons_succ]
                refine hold_take (i := 54) (v := ?rv156) rfl rfl (by kernel_rfl) (by kernel_rfl) (by kernel_rfl) (fun _ _ _ h => h) (Or.inl ⟨by rfl, ?rhy156⟩) hHeld ?rrest156
                case rhy156 => first | (intro w hSw; (try dsimp only at hSw); go_simp; done) | (intro w hSw; (try dsimp only at hSw); go_simp; with_reducible rfl)
                try simp only [List.setIfInBounds_toArray, List.set_cons_zero, List.set_cons_succ]
                refine hold_take (i := 55) (v := ?rv157) rfl rfl (by kernel_rfl) (by kernel_rfl) (by kernel_rfl) (fun _ _ _ h => h) (Or.inl ⟨by rfl, ?rhy157⟩) hHeld ?rrest157
                case rhy157 => first | (intro w hSw; (try dsimp only at hSw); go_simp; done) | (intro w hSw; (try dsimp only at hSw); go_simp; with_reducible rfl)
                try simp only [List.setIfInBounds_toArray, List.set_cons_zero, List.set_cons_succ]
                refine hold_take (i := 56) (v := ?rv158) rfl rfl (by kernel_rfl) (by kernel_rfl) (by kernel_rfl) (fun _ _ _ h => h) (Or.inl ⟨by rfl, ?rhy158⟩) hHeld ?rrest158
                case rhy158 => first | (intro w hSw; (try dsimp only at hSw); go_simp; done) | (intro w hSw; (try dsimp only at hSw); go_simp; with_reducible rfl)
                try simp only [List.setIfInBounds_toArray, List.set_cons_zero, List.set_cons_succ]
                refine hold_take (i := 57) (v := ?rv159) rfl rfl (by kernel_rfl) (by kernel_rfl) (by kernel_rfl) (fun _ _ _ h => h) (Or.inl ⟨by rfl, ?rhy159⟩) hHeld ?rrest159
                case rhy159 => first | (intro w hSw; (try dsimp only at hSw); go_simp; done) | (intro w hSw; (try dsimp only at hSw); go_simp; with_reducible rfl)
                try simp only [List.setIfInBounds_toArray, List.set_cons_zero, List.set_cons_succ]
                refine hold_take (i := 58) (v := undef) rfl rfl (by kernel_rfl) (by kernel_rfl) (by kernel_rfl) (fun _ _ _ h => h) (Or.inr ⟨by rfl, rfl⟩) hHeld ?_
                try simp only [List.setIfInBounds_toArray, List.set_cons_zero, List.set_cons_succ]
                refine hold_take (i := 59) (v := undef) rfl rfl (by kernel_rfl) (by kernel_rfl) (by kernel_rfl) (fun _ _ _ h => h) (Or.inr ⟨by rfl, rfl⟩) hHeld ?_
                try simp only [List.setIfInBounds_toArray, List.set_cons_zero, List.set_cons_succ]
                refine hold_take (i := 60) (v := undef) rfl rfl (by kernel_rfl) (by kernel_rfl) (by kernel_rfl) (fun _ _ _ h => h) (Or.inr ⟨by rfl, rfl⟩) hHeld ?_
                try simp only [List.setIfInBounds_toArray, List.set_cons_zero, List.set_cons_succ]
                refine hold_take (i := 61) (v := undef) rfl rfl (by kernel_rfl) (by kernel_rfl) (by kernel_rfl) (fun _ _ _ h => h) (Or.inr ⟨by rfl, rfl⟩) hHeld ?_
                try simp only [List.setIfInBounds_toArray, List.set_cons_zero, List.set_cons_succ]
                refine hold_take (i := 62) (v := ?rv160) rfl rfl (by kernel_rfl) (by kernel_rfl) (by kernel_rfl) (fun _ _ _ h => h) (Or.inl ⟨by rfl, ?rhy160⟩) hHeld ?rrest160
                case rhy160 => first | (intro w hSw; (try dsimp only at hSw); go_simp; done) | (intro w hSw; (try dsimp only at hSw); go_simp; with_reducible rfl)
                try simp only [List.setIfInBounds_toArray, List.set_cons_zero, List.set_cons_succ]
                refine hold_take (i := 63) (v := ?rv161) rfl rfl (by kernel_rfl) (by kernel_rfl) (by kernel_rfl) (fun _ _ _ h => h) (Or.inl ⟨by rfl, ?rhy161⟩) hHeld ?rrest161
                case rhy161 => first | (intro w hSw; (try dsimp only at hSw); go_simp; done) | (intro w hSw; (try dsimp only at hSw); go_simp; with_reducible rfl)
                try simp only [List.setIfInBounds_toArray, List.set_cons_zero, List.set_cons_succ]
                refine hold_take (i := 64) (v := ?rv162) rfl rfl (by kernel_rfl) (by kernel_rfl) (by kernel_rfl) (fun _ _ _ h => h) (Or.inl ⟨by rfl, ?rhy162⟩) hHeld ?rrest162
                case rhy162 => first | (intro w hSw; (try dsimp only at hSw); go_simp; done) | (intro w hSw; (try dsimp only at hSw); go_simp; with_reducible rfl)
                try simp only [List.setIfInBounds_toArray, List.set_cons_zero, List.set_cons_succ]
                refine hold_take (i := 65) (v := ?rv163) rfl rfl (by kernel_rfl) (by kernel_rfl) (by kernel_rfl) (fun _ _ _ h => h) (Or.inl ⟨by rfl, ?rhy163⟩) hHeld ?rrest163
                case rhy163 => first | (intro w hSw; (try dsimp only at hSw); go_simp; done) | (intro w hSw; (try dsimp only at hSw); go_simp; with_reducible rfl)
                try simp only [List.setIfInBounds_toArray, List.set_cons_zero, List.set_cons_succ]
                refine hold_take (i := 66) (v := ?rv164) rfl rfl (by kernel_rfl) (by kernel_rfl) (by kernel_rfl) (fun _ _ _ h => h) (Or.inl ⟨by rfl, ?rhy164⟩) hHeld ?rrest164
                case rhy164 => first | (intro w hSw; (try dsimp only at hSw); go_simp; done) | (intro w hSw; (try dsimp only at hSw); go_simp; with_reducible rfl)
                try simp only [List.setIfInBounds_toArray, List.set_cons_zero, List.set_cons_succ]
                refine hold_take (i := 67) (v := ?rv165) rfl rfl (by kernel_rfl) (by kernel_rfl) (by kernel_rfl) (fun _ _ _ h => h) (Or.inl ⟨by rfl, ?rhy165⟩) hHeld ?rrest165
                case rhy165 => first | (intro w hSw; (try dsimp only at hSw); go_simp; done) | (intro w hSw; (try dsimp only at hSw); go_simp; with_reducible rfl)
                try simp only [List.setIfInBounds_toArray, List.set_cons_zero, List.set_cons_succ]
                refine hold_take (i := 68) (v := ?rv166) rfl rfl (by kernel_rfl) (by kernel_rfl) (by kernel_rfl) (fun _ _ _ h => h) (Or.inl ⟨by rfl, ?rhy166⟩) hHeld ?rrest166
                case rhy166 => first | (intro w hSw; (try dsimp only at hSw); go_simp; done) | (intro w hSw; (try dsimp only at hSw); go_simp; with_reducible rfl)
                try simp only [List.setIfInBounds_toArray, List.set_cons_zero, List.set_cons_succ]
                refine hold_take (i := 69) (v := ?rv167) rfl rfl (by kernel_rfl) (by kernel_rfl) (by kernel_rfl) (fun _ _ _ h => h) (Or.inl ⟨by rfl, ?rhy167⟩) hHeld ?rrest167
                case rhy167 => first | (intro w hSw; (try dsimp only at hSw); go_simp; done) | (intro w hSw; (try dsimp only at hSw); go_simp; with_reducible rfl)
                try simp only [List.setIfInBounds_toArray, List.set_cons_zero, List.set_cons_succ]
                refine hold_take (i := 70) (v := ?rv168) rfl rfl (by kernel_rfl) (by kernel_rfl) (by kernel_rfl) (fun _ _ _ h => h) (Or.inl ⟨by rfl, ?rhy168⟩) hHeld ?rrest168
                case rhy168 => first | (intro w hSw; (try dsimp only at hSw); go_simp; done) | (intro w hSw; (try dsimp only at hSw); go_simp; with_reducible rfl)
                try simp only [List.setIfInBounds_toArray, List.set_cons_zero, List.set_cons_succ]
                refine hold_take (i := 71) (v := ?rv169) rfl rfl (by kernel_rfl) (by kernel_rfl) (by kernel_rfl) (fun _ _ _ h => h) (Or.inl ⟨by rfl, ?rhy169⟩) hHeld ?rrest169
                case rhy169 => first | (intro w hSw; (try dsimp only at hSw); go_simp; done) | (intro w hSw; (try dsimp only at hSw); go_simp; with_reducible rfl)
                try simp only [List.setIfInBounds_toArray, List.set_cons_zero, List.set_cons_succ]
                refine hold_take (i := 72) (v := ?rv170) rfl rfl (by kernel_rfl) (by kernel_rfl) (by kernel_rfl) (fun _ _ _ h => h) (Or.inl ⟨by rfl, ?rhy170⟩) hHeld ?rrest170
                case rhy170 => first | (intro w hSw; (try dsimp only at hSw); go_simp; done) | (intro w hSw; (try dsimp only at hSw); go_simp; with_reducible rfl)
                try simp only [List.setIfInBounds_toArray, List.set_cons_zero, List.set_cons_succ]
                refine hold_take (i := 73) (v := ?rv171) rfl rfl (by kernel_rfl) (by kernel_rfl) (by kernel_rfl) (fun _ _ _ h => h) (Or.inl ⟨by rfl, ?rhy171⟩) hHeld ?rrest171
                case rhy171 => first | (intro w hSw; (try dsimp only at hSw); go_simp; done) | (intro w hSw; (try dsimp only at hSw); go_simp; with_reducible rfl)
                try simp only [List.setIfInBounds_toArray, List.set_cons_zero, List.set_cons_succ]
                refine hold_take (i := 74) (v := ?rv172) rfl rfl (by kernel_rfl) (by kernel_rfl) (by kernel_rfl) (fun _ _ _ h => h) (Or.inl ⟨by rfl, ?rhy172⟩) hHeld ?rrest172
                case rhy172 => first | (intro w hSw; (try dsimp only at hSw); go_simp; done) | (intro w hSw; (try dsimp only at hSw); go_simp; with_reducible rfl)
                try simp only [List.setIfInBounds_toArray, List.set_cons_zero, List.set_cons_succ]
                refine hold_take (i := 76) (v := ?rv173) rfl rfl (by kernel_rfl) (by kernel_rfl) (by kernel_rfl) (fun _ _ _ h => h) (Or.inl ⟨by rfl, ?rhy173⟩) hHeld ?rrest173
                case rhy173 => first | (intro w hSw; (try dsimp only at hSw); go_simp; done) | (intro w hSw; (try dsimp only at hSw); go_simp; with_reducible rfl)
                try simp only [List.setIfInBounds_toArray, List.set_cons_zero, List.set_cons_succ]
                refine hold_take (i := 77) (v := ?rv174) rfl rfl (by kernel_rfl) (by kernel_rfl) (by kernel_rfl) (fun _ _ _ h => h) (Or.inl ⟨by rfl, ?rhy174⟩) hHeld ?rrest174
                case rhy174 => first | (intro w hSw; (try dsimp only at hSw); go_simp; done) | (intro w hSw; (try dsimp only at hSw); go_simp; with_reducible rfl)
                try simp only [List.setIfInBounds_toArray, List.set_cons_zero, List.set_cons_succ]
                refine wpAnyH_ready (rs := [75]) (by kernel_rfl) (by simp) ?_
                refine (AllReadyH.cons rfl (fun K hK => ?rz175x75) AllReadyH.nil)
                case rz175x75 =>
                  go_simp
                  refine (HSM.out wv153 hHeld).mono ?_
                  rintro e wv176 ⟨rfl, hk⟩
                  dsimp only
                  have hnew := hHeld.tr hk
                  refine hK.out _ _ hnew (fun hHeld => ?_)
                  clear hK K hk hnew
                  refine wpAnyH_ready (rs := [78]) (by kernel_rfl) (by simp) ?_
                  refine (AllReadyH.cons rfl (fun K hK => ?rz177x78) AllReadyH.nil)
                  case rz177x78 =>
                    go_simp
                    refine (HSL.out wv176 hHeld).mono ?_
                    rintro e wv178 ⟨rfl, hk⟩
                    dsimp only
                    have hnew := hHeld.tr hk
                    refine hK.out _ _ hnew (fun hHeld => ?_)
                    clear hK K hk hnew
                    refine hold_take (i := 79) (v := ?rv179) rfl rfl (by kernel_rfl) (by kernel_rfl) (by kernel_rfl) (fun _ _ _ h => h) (Or.inl ⟨by rfl, ?rhy179⟩) hHeld ?rrest179
                    case rhy179 => first | (intro w hSw; (try dsimp only at hSw); go_simp; done) | (intro w hSw; (try dsimp only at hSw); go_simp; with_reducible rfl)
                    try simp only [List.setIfInBounds_toArray, List.set_cons_zero, List.set_cons_succ]
                    refine hold_take (i := 80) (v := ?rv180) rfl rfl (by kernel_rfl) (by kernel_rfl) (by kernel_rfl) (fun _ _ _ h => h) (Or.inl ⟨by rfl, ?rhy180⟩) hHeld ?rrest180
                    case rhy180 => first | (intro w hSw; (try dsimp only at hSw); go_simp; done) | (intro w hSw; (try dsimp only at hSw); go_simp; with_reducible rfl)
                    try simp only [List.setIfInBounds_toArray, List.set_cons_zero, List.set_cons_succ]
                    refine wpAnyH_done (by kernel_rfl) ?_ _
                    refine And.intro ?_ hHeld
                    with_reducible rfl
      case cont1 =>
      intro e a' w20 hq
      obtain ⟨rfl, rfl, hk20⟩ := hq.out
      have HKd := Hid.mk' (HKc.out.tr hk20)
      have BRd := Hid.mk' (BR.out.kept hk20)
      have HWa : Hid (Wb w20 g1 Np) := Hid.mk' (HW1.out.far hk20 (by simp) (fun x => (HG1p.out x).2))
      have HWc : Hid (Wb w20 g2 Nr) := Hid.mk' (HW2.out.far hk20 (by simp) (fun x => (HG2p.out x).2))
      have HGs : Hid (0 < Nr → g2 < w20.heap.size) := Hid.mk' (fun x => Nat.lt_of_lt_of_le (HG2p.out x).2 hk20.size)
      clear q1 q2 q3 q4 q5 q6 q7 q8 t1 t2 HSM HSL HKK BX BY BU BV BZ CX CY CU CV CR CS CO DP HW1 HW2 hk20
      go_wp2
      go_loopw [35] (fun i wr => ∃ k1 : Nat, k1 ≤ Np ∧ i = .int .i64 k1 ∧ Hid (Wb wr g1 Np) ∧ Hid (Kept w20 wr (some g1))) (fun i _ => Np - (intOf i).toNat)
      case atStart => exact ⟨0, Nat.zero_le _, rfl, HWa, Hid.mk' (Kept.refl _ _)⟩
      case round =>
        obtain ⟨k1, hk1, rfl, hwb, hkp⟩ := hrel
        by_cases hl1 : k1 < Np
        · have hl1' : (k1 : Int) < Np := by omega
          obtain ⟨e, _⟩ := HG1p.out (by omega)
          subst e
          obtain ⟨⟨z1, hz1⟩, hf1⟩ := hwb.out k1 hl1
          go_wp2
          go_roundw
          case rel => exact ⟨k1 + 1, by omega, by go_num, Hid.mk' (hwb.out.set k1 _), Hid.mk' (Kept.setRow hkp.out k1 _)⟩
          case measure => simp [intOf]; omega
        · have hl1' : k1 = Np := by omega
          subst hl1'
          have HKe : Hid (Kept V wr none) := Hid.mk' (HKd.out.newRow hkp.out (fun i e => by cases e; exact F1.out))
          have BRe : Hid (Db wr br ar Nr cr) := Hid.mk' (BRd.out.row hkp.out (fun e => F3.out e.symm))
          have HWe : Hid (Wb wr g2 Nr) := Hid.mk' (fun j hj => (HWc.out.far hkp.out (fun e => F5.out (by omega) (Option.some.inj e).symm) HGs.out) j hj)
          have HGt : Hid (0 < Nr → g2 < wr.heap.size) := Hid.mk' (fun x => Nat.lt_of_lt_of_le (HGs.out x) hkp.out.size)
          obtain ⟨w21, hw21⟩ : ∃ w21, w21 = wr := ⟨_, rfl⟩
          subst hw21
          clear hwb hkp HWa HWc HGs HKd BRd hl1 hk1
          go_wp2
          go_loopw [36] (fun i wr => ∃ k2 : Nat, k2 ≤ Nr ∧ i = .int .i64 k2 ∧ Hid (Wb wr g2 Nr) ∧ Hid (Kept w21 wr (some g2))) (fun i _ => Nr - (intOf i).toNat)
          case atStart => exact ⟨0, Nat.zero_le _, rfl, HWe, Hid.mk' (Kept.refl _ _)⟩
          case round =>
            obtain ⟨k2, hk2, rfl, hwb, hkp⟩ := hrel
            have hbb := BRe.out.row hkp.out (fun e => F4.out e.symm)
            have rr := hbb.c0
            have rl := hbb.lt
            by_cases hl2 : k2 < Nr
            · have hl2' : (k2 : Int) < Nr := by omega
              obtain ⟨e, _⟩ := HG2p.out (by omega)
              subst e
              have hwd : Wb wr.drew g2 Nr := hwb.out.far (r := none) (kept_drw wr none) (by simp) (fun x => Nat.lt_of_lt_of_le (HGt.out x) hkp.out.size)
              obtain ⟨⟨z2, hzc⟩, hfz⟩ := hwd k2 hl2
              have hbr : ∀ w', Kept wr w' (some g2) → w'.cell? ⟨br, 0, none⟩ = some (.slice (some ⟨g2, 0, none⟩) Nr cr) := fun w' hk => (hbb.row hk (fun e => F4.out e.symm)).c0
              go_wp2
              refine Code.wp_mono (Q := Rbq ?A2 (fun w' => Wb w' g2 Nr ∧ Kept wr w' (some g2))) ?cont2 ?reg2
              case reg2 =>
                repeat (rename_i hh; clear hh)
                refine wp_region_held_drew (S := fun w' => Kept wr w' (some g2)) (by kernel_rfl) (kept_drw _ _) (fun hHeld => ?_)
                refine hold_take (i := 0) (v := ?rv181) rfl rfl (by kernel_rfl) (by kernel_rfl) (by kernel_rfl) (fun _ _ _ h => h) (Or.inl ⟨by rfl, ?rhy181⟩) hHeld ?rrest181
                case rhy181 => first | (intro w hSw; (try dsimp only at hSw); go_simp; done) | (intro w hSw; (try dsimp only at hSw); go_simp; with_reducible rfl)
                try simp only [List.setIfInBounds_toArray, List.set_cons_zero, List.set_cons_succ]
                refine hold_take (i := 1) (v := ?rv182) rfl rfl (by kernel_rfl) (by kernel_rfl) (by kernel_rfl) (fun _ _ _ h => h) (Or.inl ⟨by rfl, ?rhy182⟩) hHeld ?rrest182
                case rhy182 => first | (intro w hSw; (try dsimp only at hSw); go_simp; done) | (intro w hSw; (try dsimp only at hSw); go_simp; with_reducible rfl)
                try simp only [List.setIfInBounds_toArray, List.set_cons_zero, List.set_cons_succ]
                refine hold_take (i := 2) (v := ?rv183) rfl rfl (by kernel_rfl) (by kernel_rfl) (by kernel_rfl) (fun _ _ _ h => h) (Or.inl ⟨by rfl, ?rhy183⟩) hHeld ?rrest183
                case rhy183 => first | (intro w hSw; (try dsimp only at hSw); go_simp; done) | (intro w hSw; (try dsimp only at hSw); go_simp; with_reducible rfl)
                try simp only [List.setIfInBounds_toArray, List.set_cons_zero, List.set_cons_succ]
                refine hold_take (i := 3) (v := ?rv184) rfl rfl (by kernel_rfl) (by kernel_rfl) (by kernel_rfl) (fun _ _ _ h => h) (Or.inl ⟨by rfl, ?rhy184⟩) hHeld ?rrest184
                case rhy184 => first | (intro w hSw; (try dsimp only at hSw); go_simp; done) | (intro w hSw; (try dsimp only at hSw); go_simp; with_reducible rfl)
                try simp only [List.setIfInBounds_toArray, List.set_cons_zero, List.set_cons_succ]
                refine hold_take (i := 4) (v := ?rv185) rfl rfl (by kernel_rfl) (by kernel_rfl) (by kernel_rfl) (fun _ _ _ h => h) (Or.inl ⟨by rfl, ?rhy185⟩) hHeld ?rrest185
                case rhy185 => first | (intro w hSw; (try dsimp only at hSw); go_simp; done) | (intro w hSw; (try dsimp only at hSw); go_simp; with_reducible rfl)
                try simp only [List.setIfInBounds_toArray, List.set_cons_zero, List.set_cons_succ]
                refine hold_take (i := 5) (v := ?rv186) rfl rfl (by kernel_rfl) (by kernel_rfl) (by kernel_rfl) (fun _ _ _ h => h) (Or.inl ⟨by rfl, ?rhy186⟩) hHeld ?rrest186
                case rhy186 => first | (intro w hSw; (try dsimp only at hSw); go_simp; done) | (intro w hSw; (try dsimp only at hSw); go_simp; with_reducible rfl)
                try simp only [List.setIfInBounds_toArray, List.set_cons_zero, List.set_cons_succ]
                refine hold_take (i := 6) (v := ?rv187) rfl rfl (by kernel_rfl) (by kernel_rfl) (by kernel_rfl) (fun _ _ _ h => h) (Or.inl ⟨by rfl, ?rhy187⟩) hHeld ?rrest187
                case rhy187 => first | (intro w hSw; (try dsimp only at hSw); go_simp; done) | (intro w hSw; (try dsimp only at hSw); go_simp; with_reducible rfl)
                try simp only [List.setIfInBounds_toArray, List.set_cons_zero, List.set_cons_succ]
                refine wpAnyH_ready (rs := [7]) (by kernel_rfl) (by simp) ?_
                refine (AllReadyH.cons rfl (fun K hK => ?rz188x7) AllReadyH.nil)
                case rz188x7 =>
                  have d0 := hzc
                  go_simp
                  refine hK.out _ _ hHeld (fun hHeld => ?_)
                  clear hK K d0
                  refine hold_take (i := 8) (v := ?rv189) rfl rfl (by kernel_rfl) (by kernel_rfl) (by kernel_rfl) (fun _ _ _ h => h) (Or.inl ⟨by rfl, ?rhy189⟩) hHeld ?rrest189
                  case rhy189 => first | (intro w hSw; (try dsimp only at hSw); go_simp; done) | (intro w hSw; (try dsimp only at hSw); go_simp; with_reducible rfl)
                  try simp only [List.setIfInBounds_toArray, List.set_cons_zero, List.set_cons_succ]
                  refine hold_take (i := 9) (v := ?rv190) rfl rfl (by kernel_rfl) (by kernel_rfl) (by kernel_rfl) (fun _ _ _ h => h) (Or.inl ⟨by rfl, ?rhy190⟩) hHeld ?rrest190
                  case rhy190 => first | (intro w hSw; (try dsimp only at hSw); go_simp; done) | (intro w hSw; (try dsimp only at hSw); go_simp; with_reducible rfl)
                  try simp only [List.setIfInBounds_toArray, List.set_cons_zero, List.set_cons_succ]
                  refine wpAnyH_ready (rs := [10]) (by kernel_rfl) (by simp) ?_
                  refine (AllReadyH.cons rfl (fun K hK => ?rz191x10) AllReadyH.nil)
                  case rz191x10 =>
                    have d0 := hzc
                    have e0 := hfz
                    go_simp
                    refine hK.out _ _ ?hxx ?hyy
                    case hxx => exact Kept.setRow hHeld k2 _
                    case hyy =>
                    intro hHeld
                    clear hK K
                    refine wpAnyH_done (by kernel_rfl) ?_ _
                    refine And.intro ?_ ⟨hwd.set k2 _, hHeld⟩
                    with_reducible rfl
              case cont2 =>
              intro e a' w5 hq
              obtain ⟨rfl, rfl, hw5, hk5⟩ := hq.out
              have HW5 := Hid.mk' hw5
              have HK5 := Hid.mk' (hkp.out.tr hk5)
              clear hw5 hk5
              (try clear hq)
              (try clear hbr)
              (try clear hzc)
              (try clear hfz)
              (try clear hwd)
              go_wp2
              go_roundw
              case rel => exact ⟨k2 + 1, by omega, by go_num, HW5, HK5⟩
              case measure => simp [intOf]; omega
            · have hl2' : k2 = Nr := by omega
              subst hl2'
              have KF := HKe.out.newRow hkp.out (fun i e => by cases e; exact F2.out)
              have HKF := Hid.mk' KF
              have HOf := HOw.out.kept KF
              have HDf := HDd.out.kept KF
              have o9 := HOf.c0
              have o8 := HOf.lt
              have p9 := HDf.c0
              have p8 := HDf.lt
              clear KF HOf HDf
              go_wp2_with (go_at_call 23; refine (lsame_yes (COw.out.kpt HKF.out).by_ (CD.out.kpt HKF.out).by_).mono ?_; rintro e w30 ⟨rfl, hk30⟩; have u1 := run_text ((CIn.out.kpt HKF.out).kpt hk30).by_ c2; have u2 := run_text ((CB.out.kpt HKF.out).kpt hk30).by_ d)
              go_ret
              exact ⟨rfl, (HKV.out.tr HKF.out).tr hk30⟩

end Go.Proofs.Ytpfbdandhdapcaa
