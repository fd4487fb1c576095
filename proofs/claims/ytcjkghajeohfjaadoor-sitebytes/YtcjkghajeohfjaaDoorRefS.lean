/-
  Texts joined: some of those that the proofs of this seat stand on.
-/
import Derived.Test.YtcjkghajeohfjaaDoorSiGJ
/-
  THE DOCUMENT'S OWN reader of a site: the walk.
-/
namespace Go.Proofs.YtcjkghajeohfjaaDoor
open Go.RowKit Go.Lib Go.Deep
set_option linter.unusedVariables false
set_option linter.unusedSimpArgs false

set_option maxRecDepth 100000 in
set_option maxHeartbeats 4000000 in
theorem rsite_any {w : World} {H b : Nat} {s : Rd} (h : Drd w H b s) (hH : H ≤ w.heap.size) : Calls Tryd.prog 27 #[.pointer (some ⟨b, 0, none⟩)] w fun e w' => SiR w H b s e w' := by
  have hbl := h.lt
  have hk0 : Kept w (w.alloc (.cells zD 29)) none := Kept.alloc _ _ _ _ _
  have HD0 := Hid.mk' (h.kept hk0 (fun g e => by cases e))
  have hrb := World.rowIs_alloc w zD 29 (fSZ zD) (fun i hi => by unfold fSZ; rw [Array.getElem?_eq_getElem hi]; rfl)
  have HRB := Hid.mk' hrb
  obtain ⟨⟨idv, s1⟩, hu1⟩ : ∃ u, dnM 65535 s = u := ⟨_, rfl⟩
  obtain ⟨⟨n, s2⟩, hu2⟩ : ∃ u, dnM 16 s1 = u := ⟨_, rfl⟩
  have hid : idv ≤ 65535 := by have := dnM_le 65535 s; rw [hu1] at this; exact this
  have hn16 : n ≤ 16 := by have := dnM_le 16 s1; rw [hu2] at this; exact this
  have HU1 := Hid.mk' hu1
  have HU2 := Hid.mk' hu2
  clear h hu1 hu2 hrb
  go_enter Tryd.func27, Tryd.ntmps27
  go_wp2_with (first
    | (have hgo := D1; clear hgo; go_at_call 59; refine (rnum_at D1.out.rd 16 (by rfl) (by omega) HU2.out).mono ?_; rintro e w2 ⟨rfl, hD2, hk2⟩; have D2 := Hid.mk' (D1.out.num hk2 hD2))
    | (go_at_call 59; refine (rnum_at HD0.out 65535 (by rfl) (by omega) HU1.out).mono ?_; rintro e w1 ⟨rfl, hD1, hk1⟩; have hz1 := hk1.size; have D1 : Hid (Dst w (w1.alloc (.cells #[.int .i64 (idv : Int), .slice none 0 0, .slice none 0 0, .slice none 0 0, .slice none 0 0, .slice none 0 0, .int .i64 0, .int .i64 0, .int .i64 0, .int .i64 0, .int .i64 0, .slice none 0 0] 29)) H b w.heap.size w1.heap.size s1 #[.int .i64 (idv : Int), .slice none 0 0, .slice none 0 0, .slice none 0 0, .slice none 0 0, .slice none 0 0, .int .i64 0, .int .i64 0, .int .i64 0, .int .i64 0, .int .i64 0, .slice none 0 0]) := ⟨kept_two (kept_two (hk0.tr (Kept.refl _ _) |> fun q => (⟨q.os, q.tape, q.output, q.size, fun i hi _ => q.block i hi (by simp)⟩ : Kept w _ (some b))) hk1 (fun g e => .inl e)) (Kept.alloc w1 _ _ _ none) (fun g e => by cases e), hD1.kept (Kept.alloc w1 _ _ _ none) (fun g e => by cases e), row_kept (row_kept HRB.out hk1 (fun e => by injection e with e; omega)) (Kept.alloc w1 _ _ _ none) (by simp), World.rowIs_alloc w1 _ _ _ (fun i hi => by unfold fSZ; rw [Array.getElem?_eq_getElem hi]; rfl), Nat.le_refl _, by simp at hz1; omega, by simp, hH⟩))
  -- BEHIND
  obtain ⟨R, hRe⟩ : ∃ R, R = w.heap.size := ⟨_, rfl⟩
  obtain ⟨G, hGe⟩ : ∃ G, G = w1.heap.size := ⟨_, rfl⟩
  rw [← hRe, ← hGe] at D2
  rw [← hRe, ← hGe]
  clear hRe hGe D1 hD1 hk1 hD2 hk2 hz1 HD0 HRB hk0
  have hnS : Hid (SG s (fun S T => (idv : Int) = S.id ∧ n = S.groups.length ∧ s2 = (S.groups.flatMap (fun g => smlI (grI g)) ++ tl1 S T, false))) := fun S T hS hs => by
    have e1 := HU1.out
    have e2 := HU2.out
    have hi := hS.id
    rw [hs, siteL_tl, dn_fwd (by omega) (by omega)] at e1
    injection e1 with a1 a2
    unfold tl0 at a2
    rw [← a2, dn_fwd (by omega) hS.gn] at e2
    injection e2 with b1 b2
    exact ⟨by omega, b1.symm, b2.symm⟩
  have HLG0 : Hid (LG St.groups (fun g => smlI (grI g)) tl1 s 0 [] s2) := fun S T hS hs => ⟨Nat.zero_le _, rfl, (hnS.out S T hS hs).2.2⟩
  have HN1 : Hid (SG s (fun S _ => n = S.groups.length)) := fun S T hS hs => (hnS.out S T hS hs).2.1
  have HW0 := Hid.mk' (Stay.refl (G + 1) w2)
  have hGz1 := D2.out.Gz
  obtain ⟨B1, hB1⟩ : ∃ B, B = w2.heap.size := ⟨_, rfl⟩
  have hBG1 : G + 1 ≤ B1 := by omega
  have HB1 := Hid.mk' hB1
  clear hB1
  refine Code.wp_mono (Q := ExL 0 (fun a wx => Sl5 (.pointer (some ⟨b, 0, none⟩)) (.pointer (some ⟨R, 0, none⟩)) (.pointer (some ⟨G, 0, none⟩)) (.int .i64 (n : Int)) a ∧ LFin w H b R G s (fun la i lc => #[.int .i64 (idv : Int), .slice la i lc, .slice none 0 0, .slice none 0 0, .slice none 0 0, .slice none 0 0, .int .i64 0, .int .i64 0, .int .i64 0, .int .i64 0, .int .i64 0, .slice none 0 0]) 77 3 grV g0 B1 w2 (fun x : Gr => x.kind < 256 ∧ i64B x.min ∧ i64B x.yellow) St.groups tl1 wx)) ?cont1 ?loop1
  case loop1 =>
    repeat (rename_i hh; clear hh)
    go_loopw [5] (fun iv wr => ∃ (i : Nat) (l : List Gr) (s' : Rd) (la : Option Addr) (lc : Nat), l.length = i ∧ i ≤ n ∧ iv = .int .i64 i ∧ Dst w wr H b R G s' #[.int .i64 (idv : Int), .slice la i lc, .slice none 0 0, .slice none 0 0, .slice none 0 0, .slice none 0 0, .int .i64 0, .int .i64 0, .int .i64 0, .int .i64 0, .int .i64 0, .slice none 0 0] ∧ OwL 77 3 grV g0 wr B1 (.slice la i lc) l ∧ Stay (G + 1) w2 wr ∧ (∀ x ∈ l, x.kind < 256 ∧ i64B x.min ∧ i64B x.yellow) ∧ LG St.groups (fun g => smlI (grI g)) tl1 s i l s') (fun iv _ => n - (intOf iv).toNat)
    case atStart => exact ⟨0, [], _, none, 0, rfl, Nat.zero_le _, rfl, D2.out, OwL.nil _ _ _ _ _ _, Stay.refl _ _, by simp, HLG0.out⟩
    case round =>
      obtain ⟨i, l, ⟨L', bd⟩, la, lc, hil, hin, rfl, hD, hO, hST, hty, hG⟩ := hrel
      have DD := Hid.mk' hD
      have OO := Hid.mk' hO
      have SS := Hid.mk' hST
      have TT := Hid.mk' hty
      have GG := Hid.mk' hG
      have IL := Hid.mk' hil
      have hc1 := hD.rd.c1
      have hGz := hD.Gz
      have hbG : b < G + 1 := by have := hD.rd.lt; have := hD.hH; have := hD.hR; have := hD.RG; omega
      have hBw : B1 ≤ wr.heap.size := by have := hST.size; have := HB1.out; omega
      clear hD hO hST hty hG hil
      by_cases hgo : i < n ∧ bd = false
      · obtain ⟨hlt, rfl⟩ := hgo
        have hii : (i : Int) < (n : Int) := by omega
        obtain ⟨⟨kv, t0⟩, hu0⟩ : ∃ u, dnM 2 (L', false) = u := ⟨_, rfl⟩
        have hle0 : kv ≤ 2 := by have := dnM_le 2 (L', false); rw [hu0] at this; exact this
        have HV0 := Hid.mk' hu0
        obtain ⟨⟨mv, t1⟩, hu1⟩ : ∃ u, dnM 1048576 t0 = u := ⟨_, rfl⟩
        have hle1 : mv ≤ 1048576 := by have := dnM_le 1048576 t0; rw [hu1] at this; exact this
        have HV1 := Hid.mk' hu1
        obtain ⟨⟨yv, t2⟩, hu2⟩ : ∃ u, dnM 1048576 t1 = u := ⟨_, rfl⟩
        have hle2 : yv ≤ 1048576 := by have := dnM_le 1048576 t1; rw [hu2] at this; exact this
        have HV2 := Hid.mk' hu2
        have hw8 : IntKind.u8.wrap (kv : Int) = (kv : Int) := by simp [IntKind.wrap, IntKind.bits, IntKind.signed]; omega
        have NX : Hid (LG St.groups (fun g => smlI (grI g)) tl1 s (i + 1) (l ++ [(⟨kv, (mv : Int), (yv : Int)⟩ : Gr)]) t2) := GG.out.step (fun S T hS hs => by have := HN1.out S T hS hs; show i < _; omega) (fun S T x T' hS hs hx hh => gr_fwd HV0.out HV1.out HV2.out (hS.gr x hx) hh)
        clear hu0 hu1 hu2
        obtain ⟨i0, hi0, hz0', hz1', hz2'⟩ := info_parts Tryd.infoGr
        go_wp2_with (first
          | (have hgo := HR; clear hgo; at_builtin; refine wpList_app (by rfl) _ _ _ (by rfl) (by rfl) (by rfl) HR.out ?_)
          | (have hgo := I2; clear hgo; go_at_call 59; refine (rnum_at I2.out.st.rd 1048576 (by rfl) (by omega) HV2.out).mono ?_; rintro e x2 ⟨rfl, hd2, hk2⟩; have P2 : Hid (x2.rowIs x0.heap.size 77 3 (fSZ #[.int .u8 (kv : Int), .int .i64 (mv : Int), .int .i64 0])) := row_kept Q2.out hk2 (fun e => by injection e with e; omega); have y2 : x2.cell? ⟨x0.heap.size, 2, none⟩ = some (.int .i64 0) := P2.out.cell (i := 2) (by omega); have z2 := P2.out.frozen 2; have Q3 : Hid ((x2.setCell ⟨x0.heap.size, 2, none⟩ (.int .i64 (yv : Int))).rowIs x0.heap.size 77 3 (fSZ #[.int .u8 (kv : Int), .int .i64 (mv : Int), .int .i64 (yv : Int)])) := bxK_set P2.out 2 (.int .i64 (yv : Int)) (by simp); have I3 := Hid.mk' ((I2.out.num hk2 hd2).box (g := x0.heap.size) (by omega) hGz 2 (.int .i64 (yv : Int))); have r0 : (x2.setCell ⟨x0.heap.size, 2, none⟩ (.int .i64 (yv : Int))).cell? ⟨x0.heap.size, 0, none⟩ = some (.int .u8 (kv : Int)) := Q3.out.cell (i := 0) (by omega); have r1 : (x2.setCell ⟨x0.heap.size, 2, none⟩ (.int .i64 (yv : Int))).cell? ⟨x0.heap.size, 1, none⟩ = some (.int .i64 (mv : Int)) := Q3.out.cell (i := 1) (by omega); have r2 : (x2.setCell ⟨x0.heap.size, 2, none⟩ (.int .i64 (yv : Int))).cell? ⟨x0.heap.size, 2, none⟩ = some (.int .i64 (yv : Int)) := Q3.out.cell (i := 2) (by omega); have gj : (x2.setCell ⟨x0.heap.size, 2, none⟩ (.int .i64 (yv : Int))).cell? ⟨G, 1, none⟩ = some (.slice la i lc) := I3.out.st.gb.cell (i := 1) (by omega); obtain ⟨a5, c5, W5, hr5, hO5, hk5⟩ := (OO.out.stay I3.out.it hBG1).grow (⟨kv, (mv : Int), (yv : Int)⟩ : Gr) (cs := #[.int .u8 (kv : Int), .int .i64 (mv : Int), .int .i64 (yv : Int)]) (fun j hj => by have : j = 0 ∨ j = 1 ∨ j = 2 := by {omega}; rcases this with rfl | rfl | rfl <;> rfl) Tryd.uGrs hi0 hz0' hz1' hz2' rfl (by omega) (by omega) (fun j => by unfold grV; split <;> rfl) (by have := IL.out; omega) (by have := I3.out.it.size; omega); rw [IL.out] at hr5 hO5; have hsX : (x2.setCell ⟨x0.heap.size, 2, none⟩ (.int .i64 (yv : Int))).heap.size = x2.heap.size := (by simp [World.setCell]); rw [hsX] at hr5; have HR := Hid.mk' hr5; have HO5 := Hid.mk' hO5; have hne5 : ∀ g, (Value.slice la i lc).ownBlock = some g → B1 ≤ g := fun g e => (OO.out.lt g e).1; have D5 := Hid.mk' (I3.out.st.row hk5 (fun g e => by have := hne5 g e; omega)); have S5 := Hid.mk' ((SS.out.trans I3.out.it).step hk5 (fun g e => by have := hne5 g e; have := HB1.out; exact .inr (by omega))); have gw : W5.cell? ⟨G, 1, none⟩ = some (.slice la i lc) := D5.out.gb.cell (i := 1) (by omega); have fw := D5.out.gb.frozen 1; have hlast := trivial; clear hr5 hO5 hk5)
          | (have hgo := I1; clear hgo; go_at_call 59; refine (rnum_at I1.out.st.rd 1048576 (by rfl) (by omega) HV1.out).mono ?_; rintro e x1 ⟨rfl, hd1, hk1⟩; have P1 : Hid (x1.rowIs x0.heap.size 77 3 (fSZ #[.int .u8 (kv : Int), .int .i64 0, .int .i64 0])) := row_kept Q1.out hk1 (fun e => by injection e with e; omega); have y1 : x1.cell? ⟨x0.heap.size, 1, none⟩ = some (.int .i64 0) := P1.out.cell (i := 1) (by omega); have z1 := P1.out.frozen 1; have Q2 : Hid ((x1.setCell ⟨x0.heap.size, 1, none⟩ (.int .i64 (mv : Int))).rowIs x0.heap.size 77 3 (fSZ #[.int .u8 (kv : Int), .int .i64 (mv : Int), .int .i64 0])) := bxK_set P1.out 1 (.int .i64 (mv : Int)) (by simp); have I2 := Hid.mk' ((I1.out.num hk1 hd1).box (g := x0.heap.size) (by omega) hGz 1 (.int .i64 (mv : Int))))
          | (go_at_call 59; refine (rnum_at DD.out.rd 2 (by rfl) (by omega) HV0.out).mono ?_; rintro e x0 ⟨rfl, hd0, hk0⟩; have hz0 := hk0.size; have I1 := Hid.mk' (((Dit.start DD.out).num hk0 hd0).new (Kept.alloc x0 #[.int .u8 (kv : Int), .int .i64 0, .int .i64 0] 77 (0, 0) none)); have Q1 : Hid ((x0.alloc (.cells #[.int .u8 (kv : Int), .int .i64 0, .int .i64 0] 77)).rowIs x0.heap.size 77 3 (fSZ #[.int .u8 (kv : Int), .int .i64 0, .int .i64 0])) := bxK_alloc x0 #[.int .u8 (kv : Int), .int .i64 0, .int .i64 0] 77))
        go_roundw
        case rel =>
          have D6 : Dst w (W5.setCell ⟨G, 1, none⟩ (.slice a5 (i + 1) c5)) H b R G t2 #[.int .i64 (idv : Int), .slice a5 (i + 1) c5, .slice none 0 0, .slice none 0 0, .slice none 0 0, .slice none 0 0, .int .i64 0, .int .i64 0, .int .i64 0, .int .i64 0, .int .i64 0, .slice none 0 0] := by simpa only [List.setIfInBounds_toArray, List.set_cons_zero, List.set_cons_succ] using D5.out.put 1 (.slice a5 (i + 1) c5) (by simp)
          exact ⟨i + 1, l ++ [(⟨kv, (mv : Int), (yv : Int)⟩ : Gr)], t2, a5, c5, by rw [List.length_append, IL.out]; rfl, by omega, by go_num, D6, HO5.out.keptR (dkept_set W5 G 1 _) (fun g e => by injection e with e; exact .inl (by omega)), S5.out.step (dkept_set W5 G 1 _) (fun g e => by injection e with e; exact .inl (by omega)), fun x hx => by rcases List.mem_append.1 hx with q | q; (exact TT.out x q); (simp at q; subst q; dsimp only; unfold i64B; omega), NX.out⟩
        case measure => simp [intOf]; omega
      · have hex : (¬ i < n) ∨ (i < n ∧ bd = true) := by cases bd <;> simp at hgo ⊢ <;> omega
        have FIN : Hid (SG s (fun S T => l = St.groups S ∧ ((L', bd) : Rd) = (tl1 S T, false))) := GG.out.out HN1.out (by rcases hex with q | q; (exact .inl (by omega)); (exact .inr q.2))
        clear hgo
        rcases hex with hex | ⟨hex, rfl⟩
        · have hii : ¬ (i : Int) < (n : Int) := by omega
          go_wp2
          exact ⟨rfl, ⟨⟨_, _, _, _, _, _, _, _, _, _, _, _, _, _, _, _, _, _, _, _, _, _, _, _, _, _, _, _, _, _, _, _, _, _, _, _, _, _, _, _, _, _, _, _, _, _, _, _, _, _, _, _, _, _, _, _, _, _, _, _, _, _, _, _, _, _, _, _, _, _, _, _, _, _, _, _, _, _, _, _, _, _, _, _, _, _, _, _, _, _, _, _, _, _, _, _, _, _, _, _, _, _, _, _, _, _, _, _, _, _, _, _, _, _, _, _, _, _, _, _, _, _, _, _, _, _, _, _, _, _, _, _, _, _, _, _, _, _, _, _, _, _, _, _, _, _, _, _, _, _, _, _, _, _, _, _, _, _, _, _, _, _, _, _, _, _, _, _, _, _, _, _, _, _, _, _, _, _, _, _, _, _⟩, rfl⟩, i, l, _, la, lc, IL.out, DD.out, OO.out, SS.out, TT.out, FIN.out⟩
        · have hii : (i : Int) < (n : Int) := by omega
          go_wp2
          exact ⟨rfl, ⟨⟨_, _, _, _, _, _, _, _, _, _, _, _, _, _, _, _, _, _, _, _, _, _, _, _, _, _, _, _, _, _, _, _, _, _, _, _, _, _, _, _, _, _, _, _, _, _, _, _, _, _, _, _, _, _, _, _, _, _, _, _, _, _, _, _, _, _, _, _, _, _, _, _, _, _, _, _, _, _, _, _, _, _, _, _, _, _, _, _, _, _, _, _, _, _, _, _, _, _, _, _, _, _, _, _, _, _, _, _, _, _, _, _, _, _, _, _, _, _, _, _, _, _, _, _, _, _, _, _, _, _, _, _, _, _, _, _, _, _, _, _, _, _, _, _, _, _, _, _, _, _, _, _, _, _, _, _, _, _, _, _, _, _, _, _, _, _, _, _, _, _, _, _, _, _, _, _, _, _, _, _, _, _⟩, rfl⟩, i, l, _, la, lc, IL.out, DD.out, OO.out, SS.out, TT.out, FIN.out⟩
  case cont1 =>
    intro e a' wA1 hq
    obtain ⟨rfl, hsl, i1, l1, s1', la1, lc1, hl1, hD1, hO1, hS1, hT1, hF1⟩ := hq.out
    clear hq
    dsimp only [Sl5] at hsl
    obtain ⟨u, rfl⟩ := hsl
    cases u
    dsimp only
    have DN1 := Hid.mk' hD1
    have ON1 := Hid.mk' hO1
    have TN1 := Hid.mk' hT1
    have FN1 := Hid.mk' hF1
    have LN1 := Hid.mk' hl1
    have HLG1 : Hid (LG St.apart sml tl2 s 0 [] s1') := fun S T hS hs => ⟨Nat.zero_le _, rfl, (hF1 S T hS hs).2⟩
    have HN2 : Hid (SG s (fun S _ => n = S.apart.length)) := fun S T hS hs => by have h1 := HN1.out S T hS hs; have h2 := hS.an; show n = _; omega
    clear hD1 hO1 hS1 hT1 hF1 hl1
    go_wp2
    have hGz2 := DN1.out.Gz
    obtain ⟨B2, hB2⟩ : ∃ B, B = wA1.heap.size := ⟨_, rfl⟩
    have hBG2 : G + 1 ≤ B2 := by omega
    have HB2 := Hid.mk' hB2
    clear hB2
    refine Code.wp_mono (Q := ExL 2 (fun a wx => Sl5 (.pointer (some ⟨b, 0, none⟩)) (.pointer (some ⟨R, 0, none⟩)) (.pointer (some ⟨G, 0, none⟩)) (.int .i64 (n : Int)) a ∧ LFin w H b R G s (fun la i lc => #[.int .i64 (idv : Int), .slice la1 i1 lc1, .slice la i lc, .slice none 0 0, .slice none 0 0, .slice none 0 0, .int .i64 0, .int .i64 0, .int .i64 0, .int .i64 0, .int .i64 0, .slice none 0 0]) 78 1 (fun (x : Nat) _ => .int .u32 (x : Int)) 0 B2 wA1 (fun x : Nat => x < 4294967296) St.apart tl2 wx)) ?cont2 ?loop2
    case loop2 =>
      repeat (rename_i hh; clear hh)
      go_loopw [7] (fun iv wr => ∃ (i : Nat) (l : List Nat) (s' : Rd) (la : Option Addr) (lc : Nat), l.length = i ∧ i ≤ n ∧ iv = .int .i64 i ∧ Dst w wr H b R G s' #[.int .i64 (idv : Int), .slice la1 i1 lc1, .slice la i lc, .slice none 0 0, .slice none 0 0, .slice none 0 0, .int .i64 0, .int .i64 0, .int .i64 0, .int .i64 0, .int .i64 0, .slice none 0 0] ∧ OwL 78 1 (fun (x : Nat) _ => .int .u32 (x : Int)) 0 wr B2 (.slice la i lc) l ∧ Stay (G + 1) wA1 wr ∧ (∀ x ∈ l, x < 4294967296) ∧ LG St.apart sml tl2 s i l s') (fun iv _ => n - (intOf iv).toNat)
      case atStart => exact ⟨0, [], _, none, 0, rfl, Nat.zero_le _, rfl, DN1.out, OwL.nil _ _ _ _ _ _, Stay.refl _ _, by simp, HLG1.out⟩
      case round =>
        obtain ⟨i, l, ⟨L', bd⟩, la, lc, hil, hin, rfl, hD, hO, hST, hty, hG⟩ := hrel
        have DD := Hid.mk' hD
        have OO := Hid.mk' hO
        have SS := Hid.mk' hST
        have TT := Hid.mk' hty
        have GG := Hid.mk' hG
        have IL := Hid.mk' hil
        have hc1 := hD.rd.c1
        have hGz := hD.Gz
        have hbG : b < G + 1 := by have := hD.rd.lt; have := hD.hH; have := hD.hR; have := hD.RG; omega
        have hBw : B2 ≤ wr.heap.size := by have := hST.size; have := HB2.out; omega
        clear hD hO hST hty hG hil
        by_cases hgo : i < n ∧ bd = false
        · obtain ⟨hlt, rfl⟩ := hgo
          have hii : (i : Int) < (n : Int) := by omega
          obtain ⟨⟨kv, t0⟩, hu0⟩ : ∃ u, dnM 65536 (L', false) = u := ⟨_, rfl⟩
          have hle0 : kv ≤ 65536 := by have := dnM_le 65536 (L', false); rw [hu0] at this; exact this
          have HV0 := Hid.mk' hu0
          have hw32 : IntKind.u32.wrap (kv : Int) = (kv : Int) := by simp [IntKind.wrap, IntKind.bits, IntKind.signed]; omega
          have NX : Hid (LG St.apart sml tl2 s (i + 1) (l ++ [kv]) t0) := GG.out.step (fun S T hS hs => by have := HN2.out S T hS hs; show i < _; omega) (fun S T x T' hS hs hx hh => ap_fwd HV0.out (hS.ap x hx) hh)
          clear hu0
          obtain ⟨i0, hi0, hz0', hz1', hz2'⟩ := info_parts Tryd.infoU3
          have gd : wr.drew.cell? ⟨G, 2, none⟩ = some (.slice la i lc) := (DD.out.row (Kept.drew wr none) (fun g e => by cases e)).gb.cell (i := 2) (by omega)
          have DR := Hid.mk' (DD.out.row (Kept.drew wr none) (fun g e => by cases e)).rd
          go_wp2
          refine wp_region_held_drew (S := fun _ => True) (by kernel_rfl) trivial (fun _ => ?_)
          refine held_take (i := 0) (v := ?v1) rfl rfl (by kernel_rfl) (by kernel_rfl) (by kernel_rfl) (fun _ _ _ h => h) (Or.inl ⟨by rfl, ?hy1⟩) trivial ?rest1
          case hy1 => first | (intro w hSw; go_simp; done) | (intro w hSw; go_simp; with_reducible rfl)
          try simp only [List.setIfInBounds_toArray, List.set_cons_zero, List.set_cons_succ]
          refine held_take (i := 2) (v := ?v2) rfl rfl (by kernel_rfl) (by kernel_rfl) (by kernel_rfl) (fun _ _ _ h => h) (Or.inl ⟨by rfl, ?hy2⟩) trivial ?rest2
          case hy2 => first | (intro w hSw; go_simp; done) | (intro w hSw; go_simp; with_reducible rfl)
          try simp only [List.setIfInBounds_toArray, List.set_cons_zero, List.set_cons_succ]
          refine wpAnyH_ready (rs := [1, 3]) (by kernel_rfl) (by simp) ?_
          refine AllReadyH.cons rfl (fun K hK => ?b1) (AllReadyH.cons rfl (fun K hK => ?b3) AllReadyH.nil)
          case b1 =>
            go_simp
            refine hK.out _ _ trivial (fun _ => ?_)
            clear hK K
            refine wpAnyH_ready (rs := [3]) (by kernel_rfl) (by simp) ?_
            refine AllReadyH.cons rfl (fun K hK => ?_) AllReadyH.nil
            go_simp
            go_wp2_with (go_at_call 59; refine (rnum_at DR.out 65536 (by rfl) (by omega) HV0.out).mono ?_; rintro e x0 ⟨rfl, hd0, hk0⟩)
            refine hK.out _ _ trivial (fun _ => ?_)
            clear hK K
            have hz0 : wr.heap.size ≤ x0.heap.size := hk0.size
            have I1 := Hid.mk' (((Dit.start DD.out).new (Kept.drew wr none)).num hk0 hd0)
            obtain ⟨a5, c5, W5, hr5, hO5, hk5⟩ := (OO.out.stay I1.out.it hBG2).grow kv (cs := #[.int .u32 (kv : Int)]) (fun j hj => by have : j = 0 := by {omega}; subst this; rfl) Tryd.uU3s hi0 hz0' hz1' hz2' rfl (by omega) (by omega) (fun j => rfl) (by have := IL.out; omega) (by have := I1.out.it.size; omega)
            rw [IL.out] at hr5 hO5
            have HR := Hid.mk' hr5
            have HO5 := Hid.mk' hO5
            have hne5 : ∀ g, (Value.slice la i lc).ownBlock = some g → B2 ≤ g := fun g e => (OO.out.lt g e).1
            have D5 := Hid.mk' (I1.out.st.row hk5 (fun g e => by have := hne5 g e; omega))
            have S5 := Hid.mk' ((SS.out.trans I1.out.it).step hk5 (fun g e => by have := hne5 g e; have := HB2.out; exact .inr (by omega)))
            have gj : x0.cell? ⟨G, 2, none⟩ = some (.slice la i lc) := I1.out.st.gb.cell (i := 2) (by omega)
            have gk : (x0.alloc (.cells #[.int .u32 (kv : Int)] 78)).cell? ⟨G, 2, none⟩ = some (.slice la i lc) := (I1.out.new (Kept.alloc x0 #[.int .u32 (kv : Int)] 78 (0, 0) none)).st.gb.cell (i := 2) (by omega)
            have gw : W5.cell? ⟨G, 2, none⟩ = some (.slice la i lc) := D5.out.gb.cell (i := 2) (by omega)
            have fw := D5.out.gb.frozen 2
            clear hr5 hO5 hk5
            refine held_take (i := 4) (v := ?v3) rfl rfl (by kernel_rfl) (by kernel_rfl) (by kernel_rfl) (fun _ _ _ h => h) (Or.inl ⟨by rfl, ?hy3⟩) trivial ?rest3
            case hy3 => first | (intro w hSw; go_simp; done) | (intro w hSw; go_simp; with_reducible rfl)
            try simp only [List.setIfInBounds_toArray, List.set_cons_zero, List.set_cons_succ]
            refine wpAnyH_ready (rs := [5]) (by kernel_rfl) (by simp) ?_
            refine AllReadyH.cons rfl (fun K hK => ?_) AllReadyH.nil
            go_simp
            refine hK.out _ _ trivial (fun _ => ?_)
            clear hK K
            refine wpAnyH_ready (rs := [6]) (by kernel_rfl) (by simp) ?_
            refine AllReadyH.cons rfl (fun K hK => ?_) AllReadyH.nil
            rw [if_pos (by rfl)]
            refine wp_app _ _ _ (by rfl) (by rfl) (by rfl) HR.out ?_
            try simp only [Act.put, List.setIfInBounds_toArray, List.set_cons_zero, List.set_cons_succ]
            refine hK.out _ _ trivial (fun _ => ?_)
            clear hK K
            refine held_take (i := 7) (v := ?v4) rfl rfl (by kernel_rfl) (by kernel_rfl) (by kernel_rfl) (fun _ _ _ h => h) (Or.inl ⟨by rfl, ?hy4⟩) trivial ?rest4
            case hy4 => first | (intro w hSw; go_simp; done) | (intro w hSw; go_simp; with_reducible rfl)
            try simp only [List.setIfInBounds_toArray, List.set_cons_zero, List.set_cons_succ]
            refine wpAnyH_ready (rs := [8]) (by kernel_rfl) (by simp) ?_
            refine AllReadyH.cons rfl (fun K hK => ?_) AllReadyH.nil
            go_simp
            refine hK.out _ _ trivial (fun _ => ?_)
            clear hK K
            refine wpAnyH_done (by kernel_rfl) ?_ _
            clear gj gk gw fw HR
            go_wp2
            go_roundw
            case rel =>
              have D6 : Dst w (W5.setCell ⟨G, 2, none⟩ (.slice a5 (i + 1) c5)) H b R G t0 #[.int .i64 (idv : Int), .slice la1 i1 lc1, .slice a5 (i + 1) c5, .slice none 0 0, .slice none 0 0, .slice none 0 0, .int .i64 0, .int .i64 0, .int .i64 0, .int .i64 0, .int .i64 0, .slice none 0 0] := by simpa only [List.setIfInBounds_toArray, List.set_cons_zero, List.set_cons_succ] using D5.out.put 2 (.slice a5 (i + 1) c5) (by simp)
              exact ⟨i + 1, l ++ [kv], t0, a5, c5, by rw [List.length_append, IL.out]; rfl, by omega, by go_num, D6, HO5.out.keptR (dkept_set W5 G 2 _) (fun g e => by injection e with e; exact .inl (by omega)), S5.out.step (dkept_set W5 G 2 _) (fun g e => by injection e with e; exact .inl (by omega)), fun x hx => by rcases List.mem_append.1 hx with q | q; (exact TT.out x q); (simp at q; subst q; omega), NX.out⟩
            case measure => simp [intOf]; omega
          case b3 =>
            go_simp
            go_wp2_with (go_at_call 59; refine (rnum_at DR.out 65536 (by rfl) (by omega) HV0.out).mono ?_; rintro e x0 ⟨rfl, hd0, hk0⟩)
            refine hK.out _ _ trivial (fun _ => ?_)
            clear hK K
            have hz0 : wr.heap.size ≤ x0.heap.size := hk0.size
            have I1 := Hid.mk' (((Dit.start DD.out).new (Kept.drew wr none)).num hk0 hd0)
            obtain ⟨a5, c5, W5, hr5, hO5, hk5⟩ := (OO.out.stay I1.out.it hBG2).grow kv (cs := #[.int .u32 (kv : Int)]) (fun j hj => by have : j = 0 := by {omega}; subst this; rfl) Tryd.uU3s hi0 hz0' hz1' hz2' rfl (by omega) (by omega) (fun j => rfl) (by have := IL.out; omega) (by have := I1.out.it.size; omega)
            rw [IL.out] at hr5 hO5
            have HR := Hid.mk' hr5
            have HO5 := Hid.mk' hO5
            have hne5 : ∀ g, (Value.slice la i lc).ownBlock = some g → B2 ≤ g := fun g e => (OO.out.lt g e).1
            have D5 := Hid.mk' (I1.out.st.row hk5 (fun g e => by have := hne5 g e; omega))
            have S5 := Hid.mk' ((SS.out.trans I1.out.it).step hk5 (fun g e => by have := hne5 g e; have := HB2.out; exact .inr (by omega)))
            have gj : x0.cell? ⟨G, 2, none⟩ = some (.slice la i lc) := I1.out.st.gb.cell (i := 2) (by omega)
            have gk : (x0.alloc (.cells #[.int .u32 (kv : Int)] 78)).cell? ⟨G, 2, none⟩ = some (.slice la i lc) := (I1.out.new (Kept.alloc x0 #[.int .u32 (kv : Int)] 78 (0, 0) none)).st.gb.cell (i := 2) (by omega)
            have gw : W5.cell? ⟨G, 2, none⟩ = some (.slice la i lc) := D5.out.gb.cell (i := 2) (by omega)
            have fw := D5.out.gb.frozen 2
            clear hr5 hO5 hk5
            refine held_take (i := 4) (v := ?v5) rfl rfl (by kernel_rfl) (by kernel_rfl) (by kernel_rfl) (fun _ _ _ h => h) (Or.inl ⟨by rfl, ?hy5⟩) trivial ?rest5
            case hy5 => first | (intro w hSw; go_simp; done) | (intro w hSw; go_simp; with_reducible rfl)
            try simp only [List.setIfInBounds_toArray, List.set_cons_zero, List.set_cons_succ]
            refine wpAnyH_ready (rs := [1, 5]) (by kernel_rfl) (by simp) ?_
            refine AllReadyH.cons rfl (fun K hK => ?d1) (AllReadyH.cons rfl (fun K hK => ?d5) AllReadyH.nil)
            case d1 =>
              go_simp
              refine hK.out _ _ trivial (fun _ => ?_)
              clear hK K
              refine wpAnyH_ready (rs := [5]) (by kernel_rfl) (by simp) ?_
              refine AllReadyH.cons rfl (fun K hK => ?_) AllReadyH.nil
              go_simp
              refine hK.out _ _ trivial (fun _ => ?_)
              clear hK K
              refine wpAnyH_ready (rs := [6]) (by kernel_rfl) (by simp) ?_
              refine AllReadyH.cons rfl (fun K hK => ?_) AllReadyH.nil
              rw [if_pos (by rfl)]
              refine wp_app _ _ _ (by rfl) (by rfl) (by rfl) HR.out ?_
              try simp only [Act.put, List.setIfInBounds_toArray, List.set_cons_zero, List.set_cons_succ]
              refine hK.out _ _ trivial (fun _ => ?_)
              clear hK K
              refine held_take (i := 7) (v := ?v6) rfl rfl (by kernel_rfl) (by kernel_rfl) (by kernel_rfl) (fun _ _ _ h => h) (Or.inl ⟨by rfl, ?hy6⟩) trivial ?rest6
              case hy6 => first | (intro w hSw; go_simp; done) | (intro w hSw; go_simp; with_reducible rfl)
              try simp only [List.setIfInBounds_toArray, List.set_cons_zero, List.set_cons_succ]
              refine wpAnyH_ready (rs := [8]) (by kernel_rfl) (by simp) ?_
              refine AllReadyH.cons rfl (fun K hK => ?_) AllReadyH.nil
              go_simp
              refine hK.out _ _ trivial (fun _ => ?_)
              clear hK K
              refine wpAnyH_done (by kernel_rfl) ?_ _
              clear gj gk gw fw HR
              go_wp2
              go_roundw
              case rel =>
                have D6 : Dst w (W5.setCell ⟨G, 2, none⟩ (.slice a5 (i + 1) c5)) H b R G t0 #[.int .i64 (idv : Int), .slice la1 i1 lc1, .slice a5 (i + 1) c5, .slice none 0 0, .slice none 0 0, .slice none 0 0, .int .i64 0, .int .i64 0, .int .i64 0, .int .i64 0, .int .i64 0, .slice none 0 0] := by simpa only [List.setIfInBounds_toArray, List.set_cons_zero, List.set_cons_succ] using D5.out.put 2 (.slice a5 (i + 1) c5) (by simp)
                exact ⟨i + 1, l ++ [kv], t0, a5, c5, by rw [List.length_append, IL.out]; rfl, by omega, by go_num, D6, HO5.out.keptR (dkept_set W5 G 2 _) (fun g e => by injection e with e; exact .inl (by omega)), S5.out.step (dkept_set W5 G 2 _) (fun g e => by injection e with e; exact .inl (by omega)), fun x hx => by rcases List.mem_append.1 hx with q | q; (exact TT.out x q); (simp at q; subst q; omega), NX.out⟩
              case measure => simp [intOf]; omega
            case d5 =>
              go_simp
              refine hK.out _ _ trivial (fun _ => ?_)
              clear hK K
              refine wpAnyH_ready (rs := [1]) (by kernel_rfl) (by simp) ?_
              refine AllReadyH.cons rfl (fun K hK => ?_) AllReadyH.nil
              go_simp
              refine hK.out _ _ trivial (fun _ => ?_)
              clear hK K
              refine wpAnyH_ready (rs := [6]) (by kernel_rfl) (by simp) ?_
              refine AllReadyH.cons rfl (fun K hK => ?_) AllReadyH.nil
              rw [if_pos (by rfl)]
              refine wp_app _ _ _ (by rfl) (by rfl) (by rfl) HR.out ?_
              try simp only [Act.put, List.setIfInBounds_toArray, List.set_cons_zero, List.set_cons_succ]
              refine hK.out _ _ trivial (fun _ => ?_)
              clear hK K
              refine held_take (i := 7) (v := ?v7) rfl rfl (by kernel_rfl) (by kernel_rfl) (by kernel_rfl) (fun _ _ _ h => h) (Or.inl ⟨by rfl, ?hy7⟩) trivial ?rest7
              case hy7 => first | (intro w hSw; go_simp; done) | (intro w hSw; go_simp; with_reducible rfl)
              try simp only [List.setIfInBounds_toArray, List.set_cons_zero, List.set_cons_succ]
              refine wpAnyH_ready (rs := [8]) (by kernel_rfl) (by simp) ?_
              refine AllReadyH.cons rfl (fun K hK => ?_) AllReadyH.nil
              go_simp
              refine hK.out _ _ trivial (fun _ => ?_)
              clear hK K
              refine wpAnyH_done (by kernel_rfl) ?_ _
              clear gj gk gw fw HR
              go_wp2
              go_roundw
              case rel =>
                have D6 : Dst w (W5.setCell ⟨G, 2, none⟩ (.slice a5 (i + 1) c5)) H b R G t0 #[.int .i64 (idv : Int), .slice la1 i1 lc1, .slice a5 (i + 1) c5, .slice none 0 0, .slice none 0 0, .slice none 0 0, .int .i64 0, .int .i64 0, .int .i64 0, .int .i64 0, .int .i64 0, .slice none 0 0] := by simpa only [List.setIfInBounds_toArray, List.set_cons_zero, List.set_cons_succ] using D5.out.put 2 (.slice a5 (i + 1) c5) (by simp)
                exact ⟨i + 1, l ++ [kv], t0, a5, c5, by rw [List.length_append, IL.out]; rfl, by omega, by go_num, D6, HO5.out.keptR (dkept_set W5 G 2 _) (fun g e => by injection e with e; exact .inl (by omega)), S5.out.step (dkept_set W5 G 2 _) (fun g e => by injection e with e; exact .inl (by omega)), fun x hx => by rcases List.mem_append.1 hx with q | q; (exact TT.out x q); (simp at q; subst q; omega), NX.out⟩
              case measure => simp [intOf]; omega
        · have hex : (¬ i < n) ∨ (i < n ∧ bd = true) := by cases bd <;> simp at hgo ⊢ <;> omega
          have FIN : Hid (SG s (fun S T => l = St.apart S ∧ ((L', bd) : Rd) = (tl2 S T, false))) := GG.out.out HN2.out (by rcases hex with q | q; (exact .inl (by omega)); (exact .inr q.2))
          clear hgo
          rcases hex with hex | ⟨hex, rfl⟩
          · have hii : ¬ (i : Int) < (n : Int) := by omega
            go_wp2
            exact ⟨rfl, ⟨⟨_, _, _, _, _, _, _, _, _, _, _, _, _, _, _, _, _, _, _, _, _, _, _, _, _, _, _, _, _, _, _, _, _, _, _, _, _, _, _, _, _, _, _, _, _, _, _, _, _, _, _, _, _, _, _, _, _, _, _, _, _, _, _, _, _, _, _, _, _, _, _, _, _, _, _, _, _, _, _, _, _, _, _, _, _, _, _, _, _, _, _, _, _, _, _, _, _, _, _, _, _, _, _, _, _, _, _, _, _, _, _, _, _, _, _, _, _, _, _, _, _, _, _, _, _, _, _, _, _, _, _, _, _, _, _, _, _, _, _, _, _, _, _, _, _, _, _, _, _, _, _, _, _, _, _, _, _, _, _, _, _, _, _, _, _, _, _, _, _, _, _, _, _, _, _, _, _, _, _, _, _, _⟩, rfl⟩, i, l, _, la, lc, IL.out, DD.out, OO.out, SS.out, TT.out, FIN.out⟩
          · have hii : (i : Int) < (n : Int) := by omega
            go_wp2
            exact ⟨rfl, ⟨⟨_, _, _, _, _, _, _, _, _, _, _, _, _, _, _, _, _, _, _, _, _, _, _, _, _, _, _, _, _, _, _, _, _, _, _, _, _, _, _, _, _, _, _, _, _, _, _, _, _, _, _, _, _, _, _, _, _, _, _, _, _, _, _, _, _, _, _, _, _, _, _, _, _, _, _, _, _, _, _, _, _, _, _, _, _, _, _, _, _, _, _, _, _, _, _, _, _, _, _, _, _, _, _, _, _, _, _, _, _, _, _, _, _, _, _, _, _, _, _, _, _, _, _, _, _, _, _, _, _, _, _, _, _, _, _, _, _, _, _, _, _, _, _, _, _, _, _, _, _, _, _, _, _, _, _, _, _, _, _, _, _, _, _, _, _, _, _, _, _, _, _, _, _, _, _, _, _, _, _, _, _, _⟩, rfl⟩, i, l, _, la, lc, IL.out, DD.out, OO.out, SS.out, TT.out, FIN.out⟩
    case cont2 =>
      intro e a' wA2 hq
      obtain ⟨rfl, hsl, i2, l2, s2', la2, lc2, hl2, hD2, hO2, hS2, hT2, hF2⟩ := hq.out
      clear hq
      dsimp only [Sl5] at hsl
      obtain ⟨u, rfl⟩ := hsl
      cases u
      dsimp only
      have DN2 := Hid.mk' hD2
      have ON2 := Hid.mk' hO2
      have TN2 := Hid.mk' hT2
      have FN2 := Hid.mk' hF2
      have LN2 := Hid.mk' hl2
      have ST2 := Hid.mk' hS2
      have HLG2 : Hid (LG St.between smlI tl3 s 0 [] s2') := fun S T hS hs => ⟨Nat.zero_le _, rfl, (hF2 S T hS hs).2⟩
      have HN3 : Hid (SG s (fun S _ => n = S.between.length ∧ n = S.groups.length)) := fun S T hS hs => by have h1 := HN1.out S T hS hs; have h2 := hS.bn; exact ⟨by show n = _; omega, h1⟩
      clear hD2 hO2 hS2 hT2 hF2 hl2
      go_wp2
      have hGz3 := DN2.out.Gz
      obtain ⟨B3, hB3⟩ : ∃ B, B = wA2.heap.size := ⟨_, rfl⟩
      have hBG3 : G + 1 ≤ B3 := by omega
      have HB3 := Hid.mk' hB3
      clear hB3
      refine Code.wp_mono (Q := ExL 4 (fun a wx => Sl5 (.pointer (some ⟨b, 0, none⟩)) (.pointer (some ⟨R, 0, none⟩)) (.pointer (some ⟨G, 0, none⟩)) (.int .i64 (n : Int)) a ∧ LFinG w H b R G s (fun la i lc => #[.int .i64 (idv : Int), .slice la1 i1 lc1, .slice la2 i2 lc2, .slice la i lc, .slice none 0 0, .slice none 0 0, .int .i64 0, .int .i64 0, .int .i64 0, .int .i64 0, .int .i64 0, .slice none 0 0]) B3 wA2 St.between tl3 wx)) ?cont3 ?loop3
      case loop3 =>
        repeat (rename_i hh; clear hh)
        go_loopw [8] (fun iv wr => ∃ (i : Nat) (l : List (List Int)) (s' : Rd) (la : Option Addr) (lc : Nat), l.length = i ∧ i ≤ n ∧ iv = .int .i64 i ∧ Dst w wr H b R G s' #[.int .i64 (idv : Int), .slice la1 i1 lc1, .slice la2 i2 lc2, .slice la i lc, .slice none 0 0, .slice none 0 0, .int .i64 0, .int .i64 0, .int .i64 0, .int .i64 0, .int .i64 0, .slice none 0 0] ∧ GrS wr B3 (.slice la i lc) l ∧ Stay (G + 1) wA2 wr ∧ LG St.between smlI tl3 s i l s') (fun iv _ => n - (intOf iv).toNat)
        case atStart => exact ⟨0, [], _, none, 0, rfl, Nat.zero_le _, rfl, DN2.out, GrS.nil _ _, Stay.refl _ _, HLG2.out⟩
        case round =>
          obtain ⟨i, l, ⟨L', bd⟩, la, lc, hil, hin, rfl, hD, hO, hST, hG⟩ := hrel
          have DD := Hid.mk' hD
          have OO := Hid.mk' hO
          have SS := Hid.mk' hST
          have GG := Hid.mk' hG
          have IL := Hid.mk' hil
          have hc1 := hD.rd.c1
          have hGz := hD.Gz
          have hbG : b < G + 1 := by have := hD.rd.lt; have := hD.hH; have := hD.hR; have := hD.RG; omega
          have hBw : B3 ≤ wr.heap.size := by have := hST.size; have := HB3.out; omega
          clear hD hO hST hG hil
          by_cases hgo : i < n ∧ bd = false
          · obtain ⟨hlt, rfl⟩ := hgo
            have hii : (i : Int) < (n : Int) := by omega
            have HRG := Hid.mk' (RG.start GG.out HN3.out hlt)
            go_wp2
            obtain ⟨wo, hwo⟩ : ∃ wo, wo = wr := ⟨_, rfl⟩
            subst hwo
            go_loopw [9, 10] (fun lv kv wr => ∃ (k : Nat) (sp : List Int) (s4 : Rd) (a2 : Option Addr) (c2 : Nat), sp.length = k ∧ k ≤ n ∧ kv = .int .i64 k ∧ lv = .slice a2 k c2 ∧ OwI wr wo.heap.size (.slice a2 k c2) sp ∧ Dit w wo wr H b R G s4 #[.int .i64 (idv : Int), .slice la1 i1 lc1, .slice la2 i2 lc2, .slice la i lc, .slice none 0 0, .slice none 0 0, .int .i64 0, .int .i64 0, .int .i64 0, .int .i64 0, .int .i64 0, .slice none 0 0] ∧ (∀ y ∈ sp, tickP y) ∧ RG s n i k sp s4) (fun _ kv _ => n - (intOf kv).toNat)
            case atStart => exact ⟨0, [], _, none, 0, rfl, Nat.zero_le _, rfl, rfl, OwI.nil _ _, Dit.start DD.out, by simp, HRG.out⟩
            case round =>
              obtain ⟨k, sp, s4, a2, c2, hkl, hkn, rfl, rfl, hOw, hDi, hsp, hRG⟩ := hrel
              have OW := Hid.mk' hOw
              have DI := Hid.mk' hDi
              have SP := Hid.mk' hsp
              have RGH := Hid.mk' hRG
              have KL := Hid.mk' hkl
              have hzI : wo.heap.size ≤ wr.heap.size := hDi.it.size
              clear hOw hDi hsp hRG hkl hc1
              by_cases hk5 : k < n
              · have hki : (k : Int) < (n : Int) := by omega
                obtain ⟨⟨yv, t5⟩, hu5⟩ : ∃ u, dnM 1048576 s4 = u := ⟨_, rfl⟩
                have hyv : yv ≤ 1048576 := by have := dnM_le 1048576 s4; rw [hu5] at this; exact this
                have HU5 := Hid.mk' hu5
                clear hu5
                go_wp2_with (first
                  | (have hgo := HR; clear hgo; at_builtin; refine wpList_app (by rfl) _ _ _ (by rfl) (by rfl) (by rfl) HR.out ?_)
                  | (go_at_call 59; refine (rnum_at DI.out.st.rd 1048576 (by rfl) (by omega) HU5.out).mono ?_; rintro e x0 ⟨rfl, hd0, hk0⟩; have hz0 := hk0.size; have hob : ∀ g, (Value.slice a2 k c2).ownBlock = some g → wo.heap.size ≤ g := (fun g e => (OW.out.lt g e).1); have O6 := Hid.mk' (OW.out.keptR hk0 (fun g e ec => by have := hob g e; injection ec with ec; omega)); have I1 := Hid.mk' (DI.out.num hk0 hd0); obtain ⟨v7, w7, hr7, hO7, hk7, hv7⟩ := O6.out.grow (yv : Int) (by have := KL.out; omega) (by omega); obtain ⟨a5, c5, hv5, _, _⟩ := lie_own (by omega) hO7; have hln : (sp ++ [(yv : Int)]).length = k + 1 := (by rw [List.length_append, KL.out]; rfl); rw [hln] at hv5; subst hv5; have HR := Hid.mk' hr7; have OO7 := Hid.mk' hO7; have I7 : Hid (Dit w wo w7 H b R G t5 #[.int .i64 (idv : Int), .slice la1 i1 lc1, .slice la2 i2 lc2, .slice la i lc, .slice none 0 0, .slice none 0 0, .int .i64 0, .int .i64 0, .int .i64 0, .int .i64 0, .int .i64 0, .slice none 0 0]) := ⟨I1.out.st.row hk7 (fun g e => by have := hob g e; omega), I1.out.it.step hk7 (fun g e => by have := hob g e; exact .inr (by omega))⟩; clear hr7 hO7 hk7 hv7 hln))
                go_roundw
                case rel => exact ⟨k + 1, sp ++ [(yv : Int)], t5, a5, c5, by rw [List.length_append, KL.out]; rfl, by omega, by go_num, rfl, OO7.out, I7.out, fun y hy => by rcases List.mem_append.1 hy with q | q; (exact SP.out y q); (simp at q; subst q; unfold tickP; omega), RGH.out.step hk5 HU5.out⟩
                case measure => simp [intOf]; omega
              · have hkn2 : k = n := by omega
                have hki : ¬ (k : Int) < (n : Int) := by omega
                have hP2 : GrS wr B3 (.slice la i lc) l := OO.out.stay ⟨DI.out.it.size, fun j h1 h2 => DI.out.it.block j (Nat.le_trans hBG3 h1) h2⟩
                obtain ⟨a3, c3, e3, hI3, hb3⟩ := OW.out.ints (fun x hx => by have := SP.out x hx; unfold tickP at this; omega)
                injection e3 with e4 e5 e6
                subst e4 e6
                clear e5
                have hvl := OO.out.lt
                obtain ⟨v5, W5, hr5, hP5, hk5'⟩ := GrS.grow (p := sp) hP2 hI3 (fun bb e => ⟨fun ec => by have h1 := (hb3 bb e).1; have h2 := (hvl _ ec).2; omega, (hb3 bb e).2, by have h1 := (hb3 bb e).1; omega⟩) (by have := IL.out; omega) (by omega)
                obtain ⟨a6, c6, hv6⟩ := hP5.shape
                have hln : (l ++ [sp]).length = i + 1 := by rw [List.length_append, IL.out]; rfl
                rw [hln] at hv6
                subst hv6
                have hr6 : (Builtin.append_ #[24, 24] 24 #[.slice la i lc, .slice (some ⟨wr.heap.size, 0, none⟩) 1 1]).run Tryd.prog (wr.alloc (.cells #[.slice a2 k c2] 52)) = .ok (.slice a6 (i + 1) c6) W5 := by
                  have := hr5
                  simp only [slB, KL.out] at this
                  exact this
                have HR := Hid.mk' hr6
                have HP5 := Hid.mk' hP5
                have D5 := Hid.mk' (DI.out.st.row hk5' (fun g e => by have := (hvl g e).1; omega))
                have S5 := Hid.mk' ((SS.out.trans DI.out.it).step hk5' (fun g e => by have := (hvl g e).1; have := HB3.out; exact .inr (by omega)))
                have G5 : Hid (LG St.between smlI tl3 s (i + 1) (l ++ [sp]) s4) := by have h1 := RGH.out; rw [hkn2] at h1; exact RG.out h1 GG.out
                have gj : wr.cell? ⟨G, 3, none⟩ = some (.slice la i lc) := DI.out.st.gb.cell (i := 3) (by omega)
                have gw : W5.cell? ⟨G, 3, none⟩ = some (.slice la i lc) := D5.out.gb.cell (i := 3) (by omega)
                have fw := D5.out.gb.frozen 3
                have HKN := Hid.mk' hkn2
                clear hr5 hr6 hP5 hk5' hI3 hb3 hP2 hvl hkn2
                go_wp2_with (at_builtin; refine wpList_app (by rfl) _ _ _ (by rfl) (by rfl) (by rfl) HR.out ?_)
                go_roundw
                case rel =>
                  have D6 : Dst w (W5.setCell ⟨G, 3, none⟩ (.slice a6 (i + 1) c6)) H b R G s4 #[.int .i64 (idv : Int), .slice la1 i1 lc1, .slice la2 i2 lc2, .slice a6 (i + 1) c6, .slice none 0 0, .slice none 0 0, .int .i64 0, .int .i64 0, .int .i64 0, .int .i64 0, .int .i64 0, .slice none 0 0] := by simpa only [List.setIfInBounds_toArray, List.set_cons_zero, List.set_cons_succ] using D5.out.put 3 (.slice a6 (i + 1) c6) (by simp)
                  have hS6 := S5.out.step (dkept_set W5 G 3 (.slice a6 (i + 1) c6)) (fun g e => by injection e with e; exact .inl (by omega))
                  exact ⟨i + 1, l ++ [sp], s4, a6, c6, by rw [List.length_append, IL.out]; rfl, by omega, by go_num, D6, HP5.out.stay ((Stay.refl _ _).step (dkept_set W5 G 3 _) (fun g e => by injection e with e; exact .inl (by omega))), hS6, G5.out⟩
                case measure => simp [intOf]; omega
          · have hex : (¬ i < n) ∨ (i < n ∧ bd = true) := by cases bd <;> simp at hgo ⊢ <;> omega
            have FIN : Hid (SG s (fun S T => l = St.between S ∧ ((L', bd) : Rd) = (tl3 S T, false))) := GG.out.out (n := n) (fun S T hS hs => (HN3.out S T hS hs).1) (by rcases hex with q | q; (exact .inl (by omega)); (exact .inr q.2))
            clear hgo
            rcases hex with hex | ⟨hex, rfl⟩
            · have hii : ¬ (i : Int) < (n : Int) := by omega
              go_wp2
              exact ⟨rfl, ⟨⟨_, _, _, _, _, _, _, _, _, _, _, _, _, _, _, _, _, _, _, _, _, _, _, _, _, _, _, _, _, _, _, _, _, _, _, _, _, _, _, _, _, _, _, _, _, _, _, _, _, _, _, _, _, _, _, _, _, _, _, _, _, _, _, _, _, _, _, _, _, _, _, _, _, _, _, _, _, _, _, _, _, _, _, _, _, _, _, _, _, _, _, _, _, _, _, _, _, _, _, _, _, _, _, _, _, _, _, _, _, _, _, _, _, _, _, _, _, _, _, _, _, _, _, _, _, _, _, _, _, _, _, _, _, _, _, _, _, _, _, _, _, _, _, _, _, _, _, _, _, _, _, _, _, _, _, _, _, _, _, _, _, _, _, _, _, _, _, _, _, _, _, _, _, _, _, _, _, _, _, _, _, _⟩, rfl⟩, i, l, _, la, lc, IL.out, DD.out, OO.out, SS.out, FIN.out⟩
            · have hii : (i : Int) < (n : Int) := by omega
              go_wp2
              exact ⟨rfl, ⟨⟨_, _, _, _, _, _, _, _, _, _, _, _, _, _, _, _, _, _, _, _, _, _, _, _, _, _, _, _, _, _, _, _, _, _, _, _, _, _, _, _, _, _, _, _, _, _, _, _, _, _, _, _, _, _, _, _, _, _, _, _, _, _, _, _, _, _, _, _, _, _, _, _, _, _, _, _, _, _, _, _, _, _, _, _, _, _, _, _, _, _, _, _, _, _, _, _, _, _, _, _, _, _, _, _, _, _, _, _, _, _, _, _, _, _, _, _, _, _, _, _, _, _, _, _, _, _, _, _, _, _, _, _, _, _, _, _, _, _, _, _, _, _, _, _, _, _, _, _, _, _, _, _, _, _, _, _, _, _, _, _, _, _, _, _, _, _, _, _, _, _, _, _, _, _, _, _, _, _, _, _, _, _⟩, rfl⟩, i, l, _, la, lc, IL.out, DD.out, OO.out, SS.out, FIN.out⟩
      case cont3 =>
        intro e a' wA3 hq
        obtain ⟨rfl, hsl, i3, l3, s3', la3, lc3, hl3, hD3, hO3, hS3, hF3⟩ := hq.out
        clear hq
        dsimp only [Sl5] at hsl
        obtain ⟨u, rfl⟩ := hsl
        cases u
        dsimp only
        have DN3 := Hid.mk' hD3
        have ON3 := Hid.mk' hO3
        have FN3 := Hid.mk' hF3
        have LN3 := Hid.mk' hl3
        have ST3 := Hid.mk' hS3
        obtain ⟨⟨mph, q3⟩, hv3⟩ : ∃ u, dnM 8 s3' = u := ⟨_, rfl⟩
        have hm3 : mph ≤ 8 := by have := dnM_le 8 s3'; rw [hv3] at this; exact this
        have HQ3 := Hid.mk' hv3
        have CN3 : Hid (SG s (fun S T => mph = (St.phases S).length ∧ q3 = ((St.phases S).flatMap (fun p => smlI (phI p)) ++ tl4 S T, false))) := fun S T hS hs => by
          have h1 := (FN3.out S T hS hs).2
          have h2 := HQ3.out
          rw [h1] at h2
          unfold tl3 at h2
          rw [dn_fwd (by omega) hS.pn] at h2
          injection h2 with a1 a2
          exact ⟨a1.symm, a2.symm⟩
        have HLG3 : Hid (LG St.phases (fun p => smlI (phI p)) tl4 s 0 [] q3) := fun S T hS hs => ⟨Nat.zero_le _, rfl, (CN3.out S T hS hs).2⟩
        have HN4 : Hid (SG s (fun S _ => mph = (St.phases S).length)) := fun S T hS hs => (CN3.out S T hS hs).1
        clear hD3 hO3 hS3 hF3 hl3 hv3
        go_wp2_with (go_at_call 59; refine (rnum_at DN3.out.rd 8 (by rfl) (by omega) HQ3.out).mono ?_; rintro e wB3 ⟨rfl, hd9, hk9⟩; have DM3 := Hid.mk' (DN3.out.num hk9 hd9); have KM3 := Hid.mk' hk9; clear hd9 hk9)
        have hGz4 := DM3.out.Gz
        obtain ⟨B4, hB4⟩ : ∃ B, B = wB3.heap.size := ⟨_, rfl⟩
        have hBG4 : G + 1 ≤ B4 := by omega
        have HB4 := Hid.mk' hB4
        clear hB4
        refine Code.wp_mono (Q := ExL 8 (fun a wx => Sl5 (.pointer (some ⟨b, 0, none⟩)) (.pointer (some ⟨R, 0, none⟩)) (.pointer (some ⟨G, 0, none⟩)) (.int .i64 (n : Int)) a ∧ LFin w H b R G s (fun la i lc => #[.int .i64 (idv : Int), .slice la1 i1 lc1, .slice la2 i2 lc2, .slice la3 i3 lc3, .slice la i lc, .slice none 0 0, .int .i64 0, .int .i64 0, .int .i64 0, .int .i64 0, .int .i64 0, .slice none 0 0]) 81 5 phV p0 B4 wB3 (fun x : Ph => x.groups < 4294967296 ∧ i64B x.min ∧ i64B x.max ∧ i64B x.gap) St.phases tl4 wx)) ?cont4 ?loop4
        case loop4 =>
          repeat (rename_i hh; clear hh)
          go_loopw [12] (fun iv wr => ∃ (i : Nat) (l : List Ph) (s' : Rd) (la : Option Addr) (lc : Nat), l.length = i ∧ i ≤ mph ∧ iv = .int .i64 i ∧ Dst w wr H b R G s' #[.int .i64 (idv : Int), .slice la1 i1 lc1, .slice la2 i2 lc2, .slice la3 i3 lc3, .slice la i lc, .slice none 0 0, .int .i64 0, .int .i64 0, .int .i64 0, .int .i64 0, .int .i64 0, .slice none 0 0] ∧ OwL 81 5 phV p0 wr B4 (.slice la i lc) l ∧ Stay (G + 1) wB3 wr ∧ (∀ x ∈ l, x.groups < 4294967296 ∧ i64B x.min ∧ i64B x.max ∧ i64B x.gap) ∧ LG St.phases (fun p => smlI (phI p)) tl4 s i l s') (fun iv _ => mph - (intOf iv).toNat)
          case atStart => exact ⟨0, [], _, none, 0, rfl, Nat.zero_le _, rfl, DM3.out, OwL.nil _ _ _ _ _ _, Stay.refl _ _, by simp, HLG3.out⟩
          case round =>
            obtain ⟨i, l, ⟨L', bd⟩, la, lc, hil, hin, rfl, hD, hO, hST, hty, hG⟩ := hrel
            have DD := Hid.mk' hD
            have OO := Hid.mk' hO
            have SS := Hid.mk' hST
            have TT := Hid.mk' hty
            have GG := Hid.mk' hG
            have IL := Hid.mk' hil
            have hc1 := hD.rd.c1
            have hGz := hD.Gz
            have hbG : b < G + 1 := by have := hD.rd.lt; have := hD.hH; have := hD.hR; have := hD.RG; omega
            have hBw : B4 ≤ wr.heap.size := by have := hST.size; have := HB4.out; omega
            clear hD hO hST hty hG hil
            by_cases hgo : i < mph ∧ bd = false
            · obtain ⟨hlt, rfl⟩ := hgo
              have hii : (i : Int) < (mph : Int) := by omega
              obtain ⟨⟨gv, t0⟩, hu0⟩ : ∃ u, dnM 65536 (L', false) = u := ⟨_, rfl⟩
              have hle0 : gv ≤ 65536 := by have := dnM_le 65536 (L', false); rw [hu0] at this; exact this
              have HV0 := Hid.mk' hu0
              obtain ⟨⟨mv, t1⟩, hu1⟩ : ∃ u, dnM 1048576 t0 = u := ⟨_, rfl⟩
              have hle1 : mv ≤ 1048576 := by have := dnM_le 1048576 t0; rw [hu1] at this; exact this
              have HV1 := Hid.mk' hu1
              obtain ⟨⟨xv, t2⟩, hu2⟩ : ∃ u, dnM 1048576 t1 = u := ⟨_, rfl⟩
              have hle2 : xv ≤ 1048576 := by have := dnM_le 1048576 t1; rw [hu2] at this; exact this
              have HV2 := Hid.mk' hu2
              obtain ⟨⟨pv, t3⟩, hu3⟩ : ∃ u, dnM 1048576 t2 = u := ⟨_, rfl⟩
              have hle3 : pv ≤ 1048576 := by have := dnM_le 1048576 t2; rw [hu3] at this; exact this
              have HV3 := Hid.mk' hu3
              obtain ⟨⟨av, t4⟩, hu4⟩ : ∃ u, dnM 1 t3 = u := ⟨_, rfl⟩
              have hle4 : av ≤ 1 := by have := dnM_le 1 t3; rw [hu4] at this; exact this
              have HV4 := Hid.mk' hu4
              have hw32 : IntKind.u32.wrap (gv : Int) = (gv : Int) := by simp [IntKind.wrap, IntKind.bits, IntKind.signed]; omega
              have NX : Hid (LG St.phases (fun p => smlI (phI p)) tl4 s (i + 1) (l ++ [(⟨gv, (mv : Int), (xv : Int), (pv : Int), ((av : Int) == 1)⟩ : Ph)]) t4) := GG.out.step (fun S T hS hs => by have := HN4.out S T hS hs; show i < _; omega) (fun S T x T' hS hs hx hh => ph_fwd HV0.out HV1.out HV2.out HV3.out HV4.out (hS.ph x hx) hh)
              clear hu0 hu1 hu2 hu3 hu4
              obtain ⟨i0, hi0, hz0', hz1', hz2'⟩ := info_parts Tryd.infoPh
              go_wp2_with (first
                | (have hgo := HR; clear hgo; at_builtin; refine wpList_app (by rfl) _ _ _ (by rfl) (by rfl) (by rfl) HR.out ?_)
                | (have hgo := I4; clear hgo; go_at_call 59; refine (rnum_at I4.out.st.rd 1 (by rfl) (by omega) HV4.out).mono ?_; rintro e x4 ⟨rfl, hd4, hk4⟩; have P4 : Hid (x4.rowIs x0.heap.size 81 5 (fSZ #[.int .u32 (gv : Int), .int .i64 (mv : Int), .int .i64 (xv : Int), .int .i64 (pv : Int), .bool false])) := row_kept Q4.out hk4 (fun e => by injection e with e; omega); have y4 : x4.cell? ⟨x0.heap.size, 4, none⟩ = some (.bool false) := P4.out.cell (i := 4) (by omega); have z4 := P4.out.frozen 4; have Q5 : Hid ((x4.setCell ⟨x0.heap.size, 4, none⟩ (.bool ((av : Int) == 1))).rowIs x0.heap.size 81 5 (fSZ #[.int .u32 (gv : Int), .int .i64 (mv : Int), .int .i64 (xv : Int), .int .i64 (pv : Int), .bool ((av : Int) == 1)])) := bxK_set P4.out 4 (.bool ((av : Int) == 1)) (by simp); have I5 := Hid.mk' ((I4.out.num hk4 hd4).box (g := x0.heap.size) (by omega) hGz 4 (.bool ((av : Int) == 1))); have r0 : (x4.setCell ⟨x0.heap.size, 4, none⟩ (.bool ((av : Int) == 1))).cell? ⟨x0.heap.size, 0, none⟩ = some (.int .u32 (gv : Int)) := Q5.out.cell (i := 0) (by omega); have r1 : (x4.setCell ⟨x0.heap.size, 4, none⟩ (.bool ((av : Int) == 1))).cell? ⟨x0.heap.size, 1, none⟩ = some (.int .i64 (mv : Int)) := Q5.out.cell (i := 1) (by omega); have r2 : (x4.setCell ⟨x0.heap.size, 4, none⟩ (.bool ((av : Int) == 1))).cell? ⟨x0.heap.size, 2, none⟩ = some (.int .i64 (xv : Int)) := Q5.out.cell (i := 2) (by omega); have r3 : (x4.setCell ⟨x0.heap.size, 4, none⟩ (.bool ((av : Int) == 1))).cell? ⟨x0.heap.size, 3, none⟩ = some (.int .i64 (pv : Int)) := Q5.out.cell (i := 3) (by omega); have r4 : (x4.setCell ⟨x0.heap.size, 4, none⟩ (.bool ((av : Int) == 1))).cell? ⟨x0.heap.size, 4, none⟩ = some (.bool ((av : Int) == 1)) := Q5.out.cell (i := 4) (by omega); have gj : (x4.setCell ⟨x0.heap.size, 4, none⟩ (.bool ((av : Int) == 1))).cell? ⟨G, 4, none⟩ = some (.slice la i lc) := I5.out.st.gb.cell (i := 4) (by omega); obtain ⟨a5, c5, W5, hr5, hO5, hk5⟩ := (OO.out.stay I5.out.it hBG4).grow (⟨gv, (mv : Int), (xv : Int), (pv : Int), ((av : Int) == 1)⟩ : Ph) (cs := #[.int .u32 (gv : Int), .int .i64 (mv : Int), .int .i64 (xv : Int), .int .i64 (pv : Int), .bool ((av : Int) == 1)]) (fun j hj => by have : j = 0 ∨ j = 1 ∨ j = 2 ∨ j = 3 ∨ j = 4 := by {omega}; rcases this with rfl | rfl | rfl | rfl | rfl <;> rfl) Tryd.uPhs hi0 hz0' hz1' hz2' rfl (by omega) (by omega) (fun j => by unfold phV; split <;> rfl) (by have := IL.out; omega) (by have := I5.out.it.size; omega); rw [IL.out] at hr5 hO5; have hsX : (x4.setCell ⟨x0.heap.size, 4, none⟩ (.bool ((av : Int) == 1))).heap.size = x4.heap.size := (by simp [World.setCell]); rw [hsX] at hr5; have HR := Hid.mk' hr5; have HO5 := Hid.mk' hO5; have hne5 : ∀ g, (Value.slice la i lc).ownBlock = some g → B4 ≤ g := fun g e => (OO.out.lt g e).1; have D5 := Hid.mk' (I5.out.st.row hk5 (fun g e => by have := hne5 g e; omega)); have S5 := Hid.mk' ((SS.out.trans I5.out.it).step hk5 (fun g e => by have := hne5 g e; have := HB4.out; exact .inr (by omega))); have gw : W5.cell? ⟨G, 4, none⟩ = some (.slice la i lc) := D5.out.gb.cell (i := 4) (by omega); have fw := D5.out.gb.frozen 4; have hlast := trivial; clear hr5 hO5 hk5)
                | (have hgo := I3; clear hgo; go_at_call 59; refine (rnum_at I3.out.st.rd 1048576 (by rfl) (by omega) HV3.out).mono ?_; rintro e x3 ⟨rfl, hd3, hk3⟩; have P3 : Hid (x3.rowIs x0.heap.size 81 5 (fSZ #[.int .u32 (gv : Int), .int .i64 (mv : Int), .int .i64 (xv : Int), .int .i64 0, .bool false])) := row_kept Q3.out hk3 (fun e => by injection e with e; omega); have y3 : x3.cell? ⟨x0.heap.size, 3, none⟩ = some (.int .i64 0) := P3.out.cell (i := 3) (by omega); have z3 := P3.out.frozen 3; have Q4 : Hid ((x3.setCell ⟨x0.heap.size, 3, none⟩ (.int .i64 (pv : Int))).rowIs x0.heap.size 81 5 (fSZ #[.int .u32 (gv : Int), .int .i64 (mv : Int), .int .i64 (xv : Int), .int .i64 (pv : Int), .bool false])) := bxK_set P3.out 3 (.int .i64 (pv : Int)) (by simp); have I4 := Hid.mk' ((I3.out.num hk3 hd3).box (g := x0.heap.size) (by omega) hGz 3 (.int .i64 (pv : Int))))
                | (have hgo := I2; clear hgo; go_at_call 59; refine (rnum_at I2.out.st.rd 1048576 (by rfl) (by omega) HV2.out).mono ?_; rintro e x2 ⟨rfl, hd2, hk2⟩; have P2 : Hid (x2.rowIs x0.heap.size 81 5 (fSZ #[.int .u32 (gv : Int), .int .i64 (mv : Int), .int .i64 0, .int .i64 0, .bool false])) := row_kept Q2.out hk2 (fun e => by injection e with e; omega); have y2 : x2.cell? ⟨x0.heap.size, 2, none⟩ = some (.int .i64 0) := P2.out.cell (i := 2) (by omega); have z2 := P2.out.frozen 2; have Q3 : Hid ((x2.setCell ⟨x0.heap.size, 2, none⟩ (.int .i64 (xv : Int))).rowIs x0.heap.size 81 5 (fSZ #[.int .u32 (gv : Int), .int .i64 (mv : Int), .int .i64 (xv : Int), .int .i64 0, .bool false])) := bxK_set P2.out 2 (.int .i64 (xv : Int)) (by simp); have I3 := Hid.mk' ((I2.out.num hk2 hd2).box (g := x0.heap.size) (by omega) hGz 2 (.int .i64 (xv : Int))))
                | (have hgo := I1; clear hgo; go_at_call 59; refine (rnum_at I1.out.st.rd 1048576 (by rfl) (by omega) HV1.out).mono ?_; rintro e x1 ⟨rfl, hd1, hk1⟩; have P1 : Hid (x1.rowIs x0.heap.size 81 5 (fSZ #[.int .u32 (gv : Int), .int .i64 0, .int .i64 0, .int .i64 0, .bool false])) := row_kept Q1.out hk1 (fun e => by injection e with e; omega); have y1 : x1.cell? ⟨x0.heap.size, 1, none⟩ = some (.int .i64 0) := P1.out.cell (i := 1) (by omega); have z1 := P1.out.frozen 1; have Q2 : Hid ((x1.setCell ⟨x0.heap.size, 1, none⟩ (.int .i64 (mv : Int))).rowIs x0.heap.size 81 5 (fSZ #[.int .u32 (gv : Int), .int .i64 (mv : Int), .int .i64 0, .int .i64 0, .bool false])) := bxK_set P1.out 1 (.int .i64 (mv : Int)) (by simp); have I2 := Hid.mk' ((I1.out.num hk1 hd1).box (g := x0.heap.size) (by omega) hGz 1 (.int .i64 (mv : Int))))
                | (go_at_call 59; refine (rnum_at DD.out.rd 65536 (by rfl) (by omega) HV0.out).mono ?_; rintro e x0 ⟨rfl, hd0, hk0⟩; have hz0 := hk0.size; have I1 := Hid.mk' (((Dit.start DD.out).num hk0 hd0).new (Kept.alloc x0 #[.int .u32 (gv : Int), .int .i64 0, .int .i64 0, .int .i64 0, .bool false] 81 (0, 0) none)); have Q1 : Hid ((x0.alloc (.cells #[.int .u32 (gv : Int), .int .i64 0, .int .i64 0, .int .i64 0, .bool false] 81)).rowIs x0.heap.size 81 5 (fSZ #[.int .u32 (gv : Int), .int .i64 0, .int .i64 0, .int .i64 0, .bool false])) := bxK_alloc x0 #[.int .u32 (gv : Int), .int .i64 0, .int .i64 0, .int .i64 0, .bool false] 81))
              go_roundw
              case rel =>
                have D6 : Dst w (W5.setCell ⟨G, 4, none⟩ (.slice a5 (i + 1) c5)) H b R G t4 #[.int .i64 (idv : Int), .slice la1 i1 lc1, .slice la2 i2 lc2, .slice la3 i3 lc3, .slice a5 (i + 1) c5, .slice none 0 0, .int .i64 0, .int .i64 0, .int .i64 0, .int .i64 0, .int .i64 0, .slice none 0 0] := by simpa only [List.setIfInBounds_toArray, List.set_cons_zero, List.set_cons_succ] using D5.out.put 4 (.slice a5 (i + 1) c5) (by simp)
                exact ⟨i + 1, l ++ [(⟨gv, (mv : Int), (xv : Int), (pv : Int), ((av : Int) == 1)⟩ : Ph)], t4, a5, c5, by rw [List.length_append, IL.out]; rfl, by omega, by go_num, D6, HO5.out.keptR (dkept_set W5 G 4 _) (fun g e => by injection e with e; exact .inl (by omega)), S5.out.step (dkept_set W5 G 4 _) (fun g e => by injection e with e; exact .inl (by omega)), fun x hx => by rcases List.mem_append.1 hx with q | q; (exact TT.out x q); (simp at q; subst q; dsimp only; unfold i64B; omega), NX.out⟩
              case measure => simp [intOf]; omega
            · have hex : (¬ i < mph) ∨ (i < mph ∧ bd = true) := by cases bd <;> simp at hgo ⊢ <;> omega
              have FIN : Hid (SG s (fun S T => l = St.phases S ∧ ((L', bd) : Rd) = (tl4 S T, false))) := GG.out.out HN4.out (by rcases hex with q | q; (exact .inl (by omega)); (exact .inr q.2))
              clear hgo
              rcases hex with hex | ⟨hex, rfl⟩
              · have hii : ¬ (i : Int) < (mph : Int) := by omega
                go_wp2
                exact ⟨rfl, ⟨⟨_, _, _, _, _, _, _, _, _, _, _, _, _, _, _, _, _, _, _, _, _, _, _, _, _, _, _, _, _, _, _, _, _, _, _, _, _, _, _, _, _, _, _, _, _, _, _, _, _, _, _, _, _, _, _, _, _, _, _, _, _, _, _, _, _, _, _, _, _, _, _, _, _, _, _, _, _, _, _, _, _, _, _, _, _, _, _, _, _, _, _, _, _, _, _, _, _, _, _, _, _, _, _, _, _, _, _, _, _, _, _, _, _, _, _, _, _, _, _, _, _, _, _, _, _, _, _, _, _, _, _, _, _, _, _, _, _, _, _, _, _, _, _, _, _, _, _, _, _, _, _, _, _, _, _, _, _, _, _, _, _, _, _, _, _, _, _, _, _, _, _, _, _, _, _, _, _, _, _, _, _, _⟩, rfl⟩, i, l, _, la, lc, IL.out, DD.out, OO.out, SS.out, TT.out, FIN.out⟩
              · have hii : (i : Int) < (mph : Int) := by omega
                go_wp2
                exact ⟨rfl, ⟨⟨_, _, _, _, _, _, _, _, _, _, _, _, _, _, _, _, _, _, _, _, _, _, _, _, _, _, _, _, _, _, _, _, _, _, _, _, _, _, _, _, _, _, _, _, _, _, _, _, _, _, _, _, _, _, _, _, _, _, _, _, _, _, _, _, _, _, _, _, _, _, _, _, _, _, _, _, _, _, _, _, _, _, _, _, _, _, _, _, _, _, _, _, _, _, _, _, _, _, _, _, _, _, _, _, _, _, _, _, _, _, _, _, _, _, _, _, _, _, _, _, _, _, _, _, _, _, _, _, _, _, _, _, _, _, _, _, _, _, _, _, _, _, _, _, _, _, _, _, _, _, _, _, _, _, _, _, _, _, _, _, _, _, _, _, _, _, _, _, _, _, _, _, _, _, _, _, _, _, _, _, _, _⟩, rfl⟩, i, l, _, la, lc, IL.out, DD.out, OO.out, SS.out, TT.out, FIN.out⟩
        case cont4 =>
          intro e a' wA4 hq
          obtain ⟨rfl, hsl, i4, l4, s4', la4, lc4, hl4, hD4, hO4, hS4, hT4, hF4⟩ := hq.out
          clear hq
          dsimp only [Sl5] at hsl
          obtain ⟨u, rfl⟩ := hsl
          cases u
          dsimp only
          have DN4 := Hid.mk' hD4
          have ON4 := Hid.mk' hO4
          have FN4 := Hid.mk' hF4
          have LN4 := Hid.mk' hl4
          have ST4 := Hid.mk' hS4
          have TN4 := Hid.mk' hT4
          obtain ⟨⟨mey, q4⟩, hv4⟩ : ∃ u, dnM 24 s4' = u := ⟨_, rfl⟩
          have hm4 : mey ≤ 24 := by have := dnM_le 24 s4'; rw [hv4] at this; exact this
          have HQ4 := Hid.mk' hv4
          have CN4 : Hid (SG s (fun S T => mey = (St.eyes S).length ∧ q4 = ((St.eyes S).flatMap (fun e => smlI (eyI e)) ++ tl5 S T, false))) := fun S T hS hs => by
            have h1 := (FN4.out S T hS hs).2
            have h2 := HQ4.out
            rw [h1] at h2
            unfold tl4 at h2
            rw [dn_fwd (by omega) hS.en] at h2
            injection h2 with a1 a2
            exact ⟨a1.symm, a2.symm⟩
          have HLG4 : Hid (LG St.eyes (fun e => smlI (eyI e)) tl5 s 0 [] q4) := fun S T hS hs => ⟨Nat.zero_le _, rfl, (CN4.out S T hS hs).2⟩
          have HN5 : Hid (SG s (fun S _ => mey = (St.eyes S).length)) := fun S T hS hs => (CN4.out S T hS hs).1
          clear hD4 hO4 hS4 hF4 hl4 hv4 hT4
          go_wp2_with (go_at_call 59; refine (rnum_at DN4.out.rd 24 (by rfl) (by omega) HQ4.out).mono ?_; rintro e wB4 ⟨rfl, hd9, hk9⟩; have DM4 := Hid.mk' (DN4.out.num hk9 hd9); have KM4 := Hid.mk' hk9; clear hd9 hk9)
          have hGz5 := DM4.out.Gz
          obtain ⟨B5, hB5⟩ : ∃ B, B = wB4.heap.size := ⟨_, rfl⟩
          have hBG5 : G + 1 ≤ B5 := by omega
          have HB5 := Hid.mk' hB5
          clear hB5
          refine Code.wp_mono (Q := ExL 10 (fun a wx => Sl5 (.pointer (some ⟨b, 0, none⟩)) (.pointer (some ⟨R, 0, none⟩)) (.pointer (some ⟨G, 0, none⟩)) (.int .i64 (n : Int)) a ∧ LFin w H b R G s (fun la i lc => #[.int .i64 (idv : Int), .slice la1 i1 lc1, .slice la2 i2 lc2, .slice la3 i3 lc3, .slice la4 i4 lc4, .slice la i lc, .int .i64 0, .int .i64 0, .int .i64 0, .int .i64 0, .int .i64 0, .slice none 0 0]) 83 4 eyV e0 B5 wB4 (fun x : Ey => i64B x.phase ∧ i64B x.on ∧ i64B x.off ∧ i64B x.turns) St.eyes tl5 wx)) ?cont5 ?loop5
          case loop5 =>
            repeat (rename_i hh; clear hh)
            go_loopw [15] (fun iv wr => ∃ (i : Nat) (l : List Ey) (s' : Rd) (la : Option Addr) (lc : Nat), l.length = i ∧ i ≤ mey ∧ iv = .int .i64 i ∧ Dst w wr H b R G s' #[.int .i64 (idv : Int), .slice la1 i1 lc1, .slice la2 i2 lc2, .slice la3 i3 lc3, .slice la4 i4 lc4, .slice la i lc, .int .i64 0, .int .i64 0, .int .i64 0, .int .i64 0, .int .i64 0, .slice none 0 0] ∧ OwL 83 4 eyV e0 wr B5 (.slice la i lc) l ∧ Stay (G + 1) wB4 wr ∧ (∀ x ∈ l, i64B x.phase ∧ i64B x.on ∧ i64B x.off ∧ i64B x.turns) ∧ LG St.eyes (fun e => smlI (eyI e)) tl5 s i l s') (fun iv _ => mey - (intOf iv).toNat)
            case atStart => exact ⟨0, [], _, none, 0, rfl, Nat.zero_le _, rfl, DM4.out, OwL.nil _ _ _ _ _ _, Stay.refl _ _, by simp, HLG4.out⟩
            case round =>
              obtain ⟨i, l, ⟨L', bd⟩, la, lc, hil, hin, rfl, hD, hO, hST, hty, hG⟩ := hrel
              have DD := Hid.mk' hD
              have OO := Hid.mk' hO
              have SS := Hid.mk' hST
              have TT := Hid.mk' hty
              have GG := Hid.mk' hG
              have IL := Hid.mk' hil
              have hc1 := hD.rd.c1
              have hGz := hD.Gz
              have hbG : b < G + 1 := by have := hD.rd.lt; have := hD.hH; have := hD.hR; have := hD.RG; omega
              have hBw : B5 ≤ wr.heap.size := by have := hST.size; have := HB5.out; omega
              clear hD hO hST hty hG hil
              by_cases hgo : i < mey ∧ bd = false
              · obtain ⟨hlt, rfl⟩ := hgo
                have hii : (i : Int) < (mey : Int) := by omega
                obtain ⟨⟨pv, t0⟩, hu0⟩ : ∃ u, dnM 8 (L', false) = u := ⟨_, rfl⟩
                have hle0 : pv ≤ 8 := by have := dnM_le 8 (L', false); rw [hu0] at this; exact this
                have HV0 := Hid.mk' hu0
                obtain ⟨⟨nv, t1⟩, hu1⟩ : ∃ u, dnM 1048576 t0 = u := ⟨_, rfl⟩
                have hle1 : nv ≤ 1048576 := by have := dnM_le 1048576 t0; rw [hu1] at this; exact this
                have HV1 := Hid.mk' hu1
                obtain ⟨⟨fv, t2⟩, hu2⟩ : ∃ u, dnM 1048576 t1 = u := ⟨_, rfl⟩
                have hle2 : fv ≤ 1048576 := by have := dnM_le 1048576 t1; rw [hu2] at this; exact this
                have HV2 := Hid.mk' hu2
                obtain ⟨⟨tv, t3⟩, hu3⟩ : ∃ u, dnM 64 t2 = u := ⟨_, rfl⟩
                have hle3 : tv ≤ 64 := by have := dnM_le 64 t2; rw [hu3] at this; exact this
                have HV3 := Hid.mk' hu3
                have NX : Hid (LG St.eyes (fun e => smlI (eyI e)) tl5 s (i + 1) (l ++ [(⟨(pv : Int), (nv : Int), (fv : Int), (tv : Int)⟩ : Ey)]) t3) := GG.out.step (fun S T hS hs => by have := HN5.out S T hS hs; show i < _; omega) (fun S T x T' hS hs hx hh => ey_fwd HV0.out HV1.out HV2.out HV3.out (hS.ey x hx) hh)
                clear hu0 hu1 hu2 hu3
                obtain ⟨i0, hi0, hz0', hz1', hz2'⟩ := info_parts Tryd.infoEy
                go_wp2_with (first
                  | (have hgo := HR; clear hgo; at_builtin; refine wpList_app (by rfl) _ _ _ (by rfl) (by rfl) (by rfl) HR.out ?_)
                  | (have hgo := I3; clear hgo; go_at_call 59; refine (rnum_at I3.out.st.rd 64 (by rfl) (by omega) HV3.out).mono ?_; rintro e x3 ⟨rfl, hd3, hk3⟩; have P3 : Hid (x3.rowIs x0.heap.size 83 4 (fSZ #[.int .i64 (pv : Int), .int .i64 (nv : Int), .int .i64 (fv : Int), .int .i64 0])) := row_kept Q3.out hk3 (fun e => by injection e with e; omega); have y3 : x3.cell? ⟨x0.heap.size, 3, none⟩ = some (.int .i64 0) := P3.out.cell (i := 3) (by omega); have z3 := P3.out.frozen 3; have Q4 : Hid ((x3.setCell ⟨x0.heap.size, 3, none⟩ (.int .i64 (tv : Int))).rowIs x0.heap.size 83 4 (fSZ #[.int .i64 (pv : Int), .int .i64 (nv : Int), .int .i64 (fv : Int), .int .i64 (tv : Int)])) := bxK_set P3.out 3 (.int .i64 (tv : Int)) (by simp); have I4 := Hid.mk' ((I3.out.num hk3 hd3).box (g := x0.heap.size) (by omega) hGz 3 (.int .i64 (tv : Int))); have r0 : (x3.setCell ⟨x0.heap.size, 3, none⟩ (.int .i64 (tv : Int))).cell? ⟨x0.heap.size, 0, none⟩ = some (.int .i64 (pv : Int)) := Q4.out.cell (i := 0) (by omega); have r1 : (x3.setCell ⟨x0.heap.size, 3, none⟩ (.int .i64 (tv : Int))).cell? ⟨x0.heap.size, 1, none⟩ = some (.int .i64 (nv : Int)) := Q4.out.cell (i := 1) (by omega); have r2 : (x3.setCell ⟨x0.heap.size, 3, none⟩ (.int .i64 (tv : Int))).cell? ⟨x0.heap.size, 2, none⟩ = some (.int .i64 (fv : Int)) := Q4.out.cell (i := 2) (by omega); have r3 : (x3.setCell ⟨x0.heap.size, 3, none⟩ (.int .i64 (tv : Int))).cell? ⟨x0.heap.size, 3, none⟩ = some (.int .i64 (tv : Int)) := Q4.out.cell (i := 3) (by omega); have gj : (x3.setCell ⟨x0.heap.size, 3, none⟩ (.int .i64 (tv : Int))).cell? ⟨G, 5, none⟩ = some (.slice la i lc) := I4.out.st.gb.cell (i := 5) (by omega); obtain ⟨a5, c5, W5, hr5, hO5, hk5⟩ := (OO.out.stay I4.out.it hBG5).grow (⟨(pv : Int), (nv : Int), (fv : Int), (tv : Int)⟩ : Ey) (cs := #[.int .i64 (pv : Int), .int .i64 (nv : Int), .int .i64 (fv : Int), .int .i64 (tv : Int)]) (fun j hj => by have : j = 0 ∨ j = 1 ∨ j = 2 ∨ j = 3 := by {omega}; rcases this with rfl | rfl | rfl | rfl <;> rfl) Tryd.uEys hi0 hz0' hz1' hz2' rfl (by omega) (by omega) (fun j => by unfold eyV; split <;> rfl) (by have := IL.out; omega) (by have := I4.out.it.size; omega); rw [IL.out] at hr5 hO5; have hsX : (x3.setCell ⟨x0.heap.size, 3, none⟩ (.int .i64 (tv : Int))).heap.size = x3.heap.size := (by simp [World.setCell]); rw [hsX] at hr5; have HR := Hid.mk' hr5; have HO5 := Hid.mk' hO5; have hne5 : ∀ g, (Value.slice la i lc).ownBlock = some g → B5 ≤ g := fun g e => (OO.out.lt g e).1; have D5 := Hid.mk' (I4.out.st.row hk5 (fun g e => by have := hne5 g e; omega)); have S5 := Hid.mk' ((SS.out.trans I4.out.it).step hk5 (fun g e => by have := hne5 g e; have := HB5.out; exact .inr (by omega))); have gw : W5.cell? ⟨G, 5, none⟩ = some (.slice la i lc) := D5.out.gb.cell (i := 5) (by omega); have fw := D5.out.gb.frozen 5; have hlast := trivial; clear hr5 hO5 hk5)
                  | (have hgo := I2; clear hgo; go_at_call 59; refine (rnum_at I2.out.st.rd 1048576 (by rfl) (by omega) HV2.out).mono ?_; rintro e x2 ⟨rfl, hd2, hk2⟩; have P2 : Hid (x2.rowIs x0.heap.size 83 4 (fSZ #[.int .i64 (pv : Int), .int .i64 (nv : Int), .int .i64 0, .int .i64 0])) := row_kept Q2.out hk2 (fun e => by injection e with e; omega); have y2 : x2.cell? ⟨x0.heap.size, 2, none⟩ = some (.int .i64 0) := P2.out.cell (i := 2) (by omega); have z2 := P2.out.frozen 2; have Q3 : Hid ((x2.setCell ⟨x0.heap.size, 2, none⟩ (.int .i64 (fv : Int))).rowIs x0.heap.size 83 4 (fSZ #[.int .i64 (pv : Int), .int .i64 (nv : Int), .int .i64 (fv : Int), .int .i64 0])) := bxK_set P2.out 2 (.int .i64 (fv : Int)) (by simp); have I3 := Hid.mk' ((I2.out.num hk2 hd2).box (g := x0.heap.size) (by omega) hGz 2 (.int .i64 (fv : Int))))
                  | (have hgo := I1; clear hgo; go_at_call 59; refine (rnum_at I1.out.st.rd 1048576 (by rfl) (by omega) HV1.out).mono ?_; rintro e x1 ⟨rfl, hd1, hk1⟩; have P1 : Hid (x1.rowIs x0.heap.size 83 4 (fSZ #[.int .i64 (pv : Int), .int .i64 0, .int .i64 0, .int .i64 0])) := row_kept Q1.out hk1 (fun e => by injection e with e; omega); have y1 : x1.cell? ⟨x0.heap.size, 1, none⟩ = some (.int .i64 0) := P1.out.cell (i := 1) (by omega); have z1 := P1.out.frozen 1; have Q2 : Hid ((x1.setCell ⟨x0.heap.size, 1, none⟩ (.int .i64 (nv : Int))).rowIs x0.heap.size 83 4 (fSZ #[.int .i64 (pv : Int), .int .i64 (nv : Int), .int .i64 0, .int .i64 0])) := bxK_set P1.out 1 (.int .i64 (nv : Int)) (by simp); have I2 := Hid.mk' ((I1.out.num hk1 hd1).box (g := x0.heap.size) (by omega) hGz 1 (.int .i64 (nv : Int))))
                  | (go_at_call 59; refine (rnum_at DD.out.rd 8 (by rfl) (by omega) HV0.out).mono ?_; rintro e x0 ⟨rfl, hd0, hk0⟩; have hz0 := hk0.size; have I1 := Hid.mk' (((Dit.start DD.out).num hk0 hd0).new (Kept.alloc x0 #[.int .i64 (pv : Int), .int .i64 0, .int .i64 0, .int .i64 0] 83 (0, 0) none)); have Q1 : Hid ((x0.alloc (.cells #[.int .i64 (pv : Int), .int .i64 0, .int .i64 0, .int .i64 0] 83)).rowIs x0.heap.size 83 4 (fSZ #[.int .i64 (pv : Int), .int .i64 0, .int .i64 0, .int .i64 0])) := bxK_alloc x0 #[.int .i64 (pv : Int), .int .i64 0, .int .i64 0, .int .i64 0] 83))
                go_roundw
                case rel =>
                  have D6 : Dst w (W5.setCell ⟨G, 5, none⟩ (.slice a5 (i + 1) c5)) H b R G t3 #[.int .i64 (idv : Int), .slice la1 i1 lc1, .slice la2 i2 lc2, .slice la3 i3 lc3, .slice la4 i4 lc4, .slice a5 (i + 1) c5, .int .i64 0, .int .i64 0, .int .i64 0, .int .i64 0, .int .i64 0, .slice none 0 0] := by simpa only [List.setIfInBounds_toArray, List.set_cons_zero, List.set_cons_succ] using D5.out.put 5 (.slice a5 (i + 1) c5) (by simp)
                  exact ⟨i + 1, l ++ [(⟨(pv : Int), (nv : Int), (fv : Int), (tv : Int)⟩ : Ey)], t3, a5, c5, by rw [List.length_append, IL.out]; rfl, by omega, by go_num, D6, HO5.out.keptR (dkept_set W5 G 5 _) (fun g e => by injection e with e; exact .inl (by omega)), S5.out.step (dkept_set W5 G 5 _) (fun g e => by injection e with e; exact .inl (by omega)), fun x hx => by rcases List.mem_append.1 hx with q | q; (exact TT.out x q); (simp at q; subst q; dsimp only; unfold i64B; omega), NX.out⟩
                case measure => simp [intOf]; omega
              · have hex : (¬ i < mey) ∨ (i < mey ∧ bd = true) := by cases bd <;> simp at hgo ⊢ <;> omega
                have FIN : Hid (SG s (fun S T => l = St.eyes S ∧ ((L', bd) : Rd) = (tl5 S T, false))) := GG.out.out HN5.out (by rcases hex with q | q; (exact .inl (by omega)); (exact .inr q.2))
                clear hgo
                rcases hex with hex | ⟨hex, rfl⟩
                · have hii : ¬ (i : Int) < (mey : Int) := by omega
                  go_wp2
                  exact ⟨rfl, ⟨⟨_, _, _, _, _, _, _, _, _, _, _, _, _, _, _, _, _, _, _, _, _, _, _, _, _, _, _, _, _, _, _, _, _, _, _, _, _, _, _, _, _, _, _, _, _, _, _, _, _, _, _, _, _, _, _, _, _, _, _, _, _, _, _, _, _, _, _, _, _, _, _, _, _, _, _, _, _, _, _, _, _, _, _, _, _, _, _, _, _, _, _, _, _, _, _, _, _, _, _, _, _, _, _, _, _, _, _, _, _, _, _, _, _, _, _, _, _, _, _, _, _, _, _, _, _, _, _, _, _, _, _, _, _, _, _, _, _, _, _, _, _, _, _, _, _, _, _, _, _, _, _, _, _, _, _, _, _, _, _, _, _, _, _, _, _, _, _, _, _, _, _, _, _, _, _, _, _, _, _, _, _, _⟩, rfl⟩, i, l, _, la, lc, IL.out, DD.out, OO.out, SS.out, TT.out, FIN.out⟩
                · have hii : (i : Int) < (mey : Int) := by omega
                  go_wp2
                  exact ⟨rfl, ⟨⟨_, _, _, _, _, _, _, _, _, _, _, _, _, _, _, _, _, _, _, _, _, _, _, _, _, _, _, _, _, _, _, _, _, _, _, _, _, _, _, _, _, _, _, _, _, _, _, _, _, _, _, _, _, _, _, _, _, _, _, _, _, _, _, _, _, _, _, _, _, _, _, _, _, _, _, _, _, _, _, _, _, _, _, _, _, _, _, _, _, _, _, _, _, _, _, _, _, _, _, _, _, _, _, _, _, _, _, _, _, _, _, _, _, _, _, _, _, _, _, _, _, _, _, _, _, _, _, _, _, _, _, _, _, _, _, _, _, _, _, _, _, _, _, _, _, _, _, _, _, _, _, _, _, _, _, _, _, _, _, _, _, _, _, _, _, _, _, _, _, _, _, _, _, _, _, _, _, _, _, _, _, _⟩, rfl⟩, i, l, _, la, lc, IL.out, DD.out, OO.out, SS.out, TT.out, FIN.out⟩
          case cont5 =>
            intro e a' wA5 hq
            obtain ⟨rfl, hsl, i5, l5, s5', la5, lc5, hl5, hD5, hO5, hS5, hT5, hF5⟩ := hq.out
            clear hq
            dsimp only [Sl5] at hsl
            obtain ⟨u, rfl⟩ := hsl
            cases u
            dsimp only
            have DN5 := Hid.mk' hD5
            have ON5 := Hid.mk' hO5
            have FN5 := Hid.mk' hF5
            have LN5 := Hid.mk' hl5
            have ST5 := Hid.mk' hS5
            have TN5 := Hid.mk' hT5
            obtain ⟨⟨wv, r1⟩, hx1⟩ : ∃ u, dnM 1048576 s5' = u := ⟨_, rfl⟩
            have hy1 : wv ≤ 1048576 := by have := dnM_le 1048576 s5'; rw [hx1] at this; exact this
            have HX1 := Hid.mk' hx1
            obtain ⟨⟨fv, r2⟩, hx2⟩ : ∃ u, dnM 1048576 r1 = u := ⟨_, rfl⟩
            have hy2 : fv ≤ 1048576 := by have := dnM_le 1048576 r1; rw [hx2] at this; exact this
            have HX2 := Hid.mk' hx2
            obtain ⟨⟨hv, r3⟩, hx3⟩ : ∃ u, dnM 1048576 r2 = u := ⟨_, rfl⟩
            have hy3 : hv ≤ 1048576 := by have := dnM_le 1048576 r2; rw [hx3] at this; exact this
            have HX3 := Hid.mk' hx3
            obtain ⟨⟨lv, r4⟩, hx4⟩ : ∃ u, dnM 1048576 r3 = u := ⟨_, rfl⟩
            have hy4 : lv ≤ 1048576 := by have := dnM_le 1048576 r3; rw [hx4] at this; exact this
            have HX4 := Hid.mk' hx4
            obtain ⟨⟨gv, r5⟩, hx5⟩ : ∃ u, dnM 1048576 r4 = u := ⟨_, rfl⟩
            have hy5 : gv ≤ 1048576 := by have := dnM_le 1048576 r4; rw [hx5] at this; exact this
            have HX5 := Hid.mk' hx5
            have CN5 : Hid (SG s (fun S T => (wv : Int) = S.watch ∧ (fv : Int) = S.feed ∧ (hv : Int) = S.heal ∧ (lv : Int) = S.low ∧ (gv : Int) = S.high ∧ r5 = (tl6 S T, false))) := fun S T hS hs => by
              have h0 := (FN5.out S T hS hs).2
              obtain ⟨p1, p2, p3, p4, p5⟩ := hS.own
              unfold tickP at p1 p2 p3 p4 p5
              have h1 := HX1.out
              have h2 := HX2.out
              have h3 := HX3.out
              have h4 := HX4.out
              have h5 := HX5.out
              rw [h0] at h1
              unfold tl5 at h1
              rw [dn_fwd (by omega) (by omega)] at h1
              injection h1 with a1 b1
              rw [← b1, dn_fwd (by omega) (by omega)] at h2
              injection h2 with a2 b2
              rw [← b2, dn_fwd (by omega) (by omega)] at h3
              injection h3 with a3 b3
              rw [← b3, dn_fwd (by omega) (by omega)] at h4
              injection h4 with a4 b4
              rw [← b4, dn_fwd (by omega) (by omega)] at h5
              injection h5 with a5 b5
              exact ⟨by omega, by omega, by omega, by omega, by omega, b5.symm⟩
            clear hD5 hO5 hF5 hl5 hS5 hT5 hx1 hx2 hx3 hx4 hx5
            have hbG : b < G + 1 := by have := DN5.out.rd.lt; have := DN5.out.hH; have := DN5.out.hR; have := DN5.out.RG; omega
            have hRG := DN5.out.RG
            have hGw := DN5.out.hR
            go_wp2_with (first
              | (have hgo := F5; clear hgo; go_at_call 33; refine (rplans_any F5.out.rd (by have h1 := F5.out.hH; have h2 := F5.out.kept.size; omega)).mono ?_; rintro e w6 ⟨v6, l6, s6, rfl, hP6⟩; obtain ⟨a6, c6, hv6⟩ := hP6.pl.shape; subst hv6; have E6 := Hid.mk' (F5.out.num hP6.kept hP6.rd); have HP6 := Hid.mk' hP6; have y6 : w6.cell? ⟨G, 11, none⟩ = some (.slice none 0 0) := E6.out.gb.cell (i := 11) (by omega); have f6 := E6.out.gb.frozen 11; have F6' : Dst w (w6.setCell ⟨G, 11, none⟩ (.slice a6 l6.length c6)) H b R G s6 #[.int .i64 (idv : Int), .slice la1 i1 lc1, .slice la2 i2 lc2, .slice la3 i3 lc3, .slice la4 i4 lc4, .slice la5 i5 lc5, .int .i64 (wv : Int), .int .i64 (fv : Int), .int .i64 (hv : Int), .int .i64 (lv : Int), .int .i64 (gv : Int), .slice a6 l6.length c6] := (by simpa only [List.setIfInBounds_toArray, List.set_cons_zero, List.set_cons_succ] using E6.out.put 11 (.slice a6 l6.length c6) (by simp)); have F6 := Hid.mk' F6'; clear F6'; have T6 := Hid.mk' ((T5.out.step hP6.kept (fun g e => by injection e with e; exact .inl (by omega))).step (dkept_set w6 G 11 (.slice a6 l6.length c6)) (fun g e => by injection e with e; exact .inl (by omega))); have k0 : (w6.setCell ⟨G, 11, none⟩ (.slice a6 l6.length c6)).cell? ⟨G, 0, none⟩ = some (.int .i64 (idv : Int)) := F6.out.gb.cell (i := 0) (by omega); have m0 : (w6.setCell ⟨G, 11, none⟩ (.slice a6 l6.length c6)).cell? ⟨R, 0, none⟩ = some (.int .i64 0) := F6.out.rb.cell (i := 0) (by omega); have n0 := F6.out.rb.frozen 0; have k1 : (w6.setCell ⟨G, 11, none⟩ (.slice a6 l6.length c6)).cell? ⟨G, 1, none⟩ = some (.slice la1 i1 lc1) := F6.out.gb.cell (i := 1) (by omega); have m1 : (w6.setCell ⟨G, 11, none⟩ (.slice a6 l6.length c6)).cell? ⟨R, 1, none⟩ = some (.slice none 0 0) := F6.out.rb.cell (i := 1) (by omega); have n1 := F6.out.rb.frozen 1; have k2 : (w6.setCell ⟨G, 11, none⟩ (.slice a6 l6.length c6)).cell? ⟨G, 2, none⟩ = some (.slice la2 i2 lc2) := F6.out.gb.cell (i := 2) (by omega); have m2 : (w6.setCell ⟨G, 11, none⟩ (.slice a6 l6.length c6)).cell? ⟨R, 2, none⟩ = some (.slice none 0 0) := F6.out.rb.cell (i := 2) (by omega); have n2 := F6.out.rb.frozen 2; have k3 : (w6.setCell ⟨G, 11, none⟩ (.slice a6 l6.length c6)).cell? ⟨G, 3, none⟩ = some (.slice la3 i3 lc3) := F6.out.gb.cell (i := 3) (by omega); have m3 : (w6.setCell ⟨G, 11, none⟩ (.slice a6 l6.length c6)).cell? ⟨R, 3, none⟩ = some (.slice none 0 0) := F6.out.rb.cell (i := 3) (by omega); have n3 := F6.out.rb.frozen 3; have k4 : (w6.setCell ⟨G, 11, none⟩ (.slice a6 l6.length c6)).cell? ⟨G, 4, none⟩ = some (.slice la4 i4 lc4) := F6.out.gb.cell (i := 4) (by omega); have m4 : (w6.setCell ⟨G, 11, none⟩ (.slice a6 l6.length c6)).cell? ⟨R, 4, none⟩ = some (.slice none 0 0) := F6.out.rb.cell (i := 4) (by omega); have n4 := F6.out.rb.frozen 4; have k5 : (w6.setCell ⟨G, 11, none⟩ (.slice a6 l6.length c6)).cell? ⟨G, 5, none⟩ = some (.slice la5 i5 lc5) := F6.out.gb.cell (i := 5) (by omega); have m5 : (w6.setCell ⟨G, 11, none⟩ (.slice a6 l6.length c6)).cell? ⟨R, 5, none⟩ = some (.slice none 0 0) := F6.out.rb.cell (i := 5) (by omega); have n5 := F6.out.rb.frozen 5; have k6 : (w6.setCell ⟨G, 11, none⟩ (.slice a6 l6.length c6)).cell? ⟨G, 6, none⟩ = some (.int .i64 (wv : Int)) := F6.out.gb.cell (i := 6) (by omega); have m6 : (w6.setCell ⟨G, 11, none⟩ (.slice a6 l6.length c6)).cell? ⟨R, 6, none⟩ = some (.int .i64 0) := F6.out.rb.cell (i := 6) (by omega); have n6 := F6.out.rb.frozen 6; have k7 : (w6.setCell ⟨G, 11, none⟩ (.slice a6 l6.length c6)).cell? ⟨G, 7, none⟩ = some (.int .i64 (fv : Int)) := F6.out.gb.cell (i := 7) (by omega); have m7 : (w6.setCell ⟨G, 11, none⟩ (.slice a6 l6.length c6)).cell? ⟨R, 7, none⟩ = some (.int .i64 0) := F6.out.rb.cell (i := 7) (by omega); have n7 := F6.out.rb.frozen 7; have k8 : (w6.setCell ⟨G, 11, none⟩ (.slice a6 l6.length c6)).cell? ⟨G, 8, none⟩ = some (.int .i64 (hv : Int)) := F6.out.gb.cell (i := 8) (by omega); have m8 : (w6.setCell ⟨G, 11, none⟩ (.slice a6 l6.length c6)).cell? ⟨R, 8, none⟩ = some (.int .i64 0) := F6.out.rb.cell (i := 8) (by omega); have n8 := F6.out.rb.frozen 8; have k9 : (w6.setCell ⟨G, 11, none⟩ (.slice a6 l6.length c6)).cell? ⟨G, 9, none⟩ = some (.int .i64 (lv : Int)) := F6.out.gb.cell (i := 9) (by omega); have m9 : (w6.setCell ⟨G, 11, none⟩ (.slice a6 l6.length c6)).cell? ⟨R, 9, none⟩ = some (.int .i64 0) := F6.out.rb.cell (i := 9) (by omega); have n9 := F6.out.rb.frozen 9; have k10 : (w6.setCell ⟨G, 11, none⟩ (.slice a6 l6.length c6)).cell? ⟨G, 10, none⟩ = some (.int .i64 (gv : Int)) := F6.out.gb.cell (i := 10) (by omega); have m10 : (w6.setCell ⟨G, 11, none⟩ (.slice a6 l6.length c6)).cell? ⟨R, 10, none⟩ = some (.int .i64 0) := F6.out.rb.cell (i := 10) (by omega); have n10 := F6.out.rb.frozen 10; have k11 : (w6.setCell ⟨G, 11, none⟩ (.slice a6 l6.length c6)).cell? ⟨G, 11, none⟩ = some (.slice a6 l6.length c6) := F6.out.gb.cell (i := 11) (by omega); have m11 : (w6.setCell ⟨G, 11, none⟩ (.slice a6 l6.length c6)).cell? ⟨R, 11, none⟩ = some (.slice none 0 0) := F6.out.rb.cell (i := 11) (by omega); have n11 := F6.out.rb.frozen 11; clear hP6)
              | (have hgo := F4; clear hgo; go_at_call 59; refine (rnum_at F4.out.rd 1048576 (by rfl) (by omega) HX5.out).mono ?_; rintro e z5 ⟨rfl, hd5, hk5⟩; have E5 := Hid.mk' (F4.out.num hk5 hd5); have y5 : z5.cell? ⟨G, 10, none⟩ = some (.int .i64 0) := E5.out.gb.cell (i := 10) (by omega); have f5 := E5.out.gb.frozen 10; have F5' : Dst w (z5.setCell ⟨G, 10, none⟩ (.int .i64 (gv : Int))) H b R G r5 #[.int .i64 (idv : Int), .slice la1 i1 lc1, .slice la2 i2 lc2, .slice la3 i3 lc3, .slice la4 i4 lc4, .slice la5 i5 lc5, .int .i64 (wv : Int), .int .i64 (fv : Int), .int .i64 (hv : Int), .int .i64 (lv : Int), .int .i64 (gv : Int), .slice none 0 0] := (by simpa only [List.setIfInBounds_toArray, List.set_cons_zero, List.set_cons_succ] using E5.out.put 10 (.int .i64 (gv : Int)) (by simp)); have F5 := Hid.mk' F5'; clear F5'; have T5 := Hid.mk' ((T4.out.step hk5 (fun g e => by injection e with e; exact .inl (by omega))).step (dkept_set z5 G 10 (.int .i64 (gv : Int))) (fun g e => by injection e with e; exact .inl (by omega))); clear hd5 hk5)
              | (have hgo := F3; clear hgo; go_at_call 59; refine (rnum_at F3.out.rd 1048576 (by rfl) (by omega) HX4.out).mono ?_; rintro e z4 ⟨rfl, hd4, hk4⟩; have E4 := Hid.mk' (F3.out.num hk4 hd4); have y4 : z4.cell? ⟨G, 9, none⟩ = some (.int .i64 0) := E4.out.gb.cell (i := 9) (by omega); have f4 := E4.out.gb.frozen 9; have F4' : Dst w (z4.setCell ⟨G, 9, none⟩ (.int .i64 (lv : Int))) H b R G r4 #[.int .i64 (idv : Int), .slice la1 i1 lc1, .slice la2 i2 lc2, .slice la3 i3 lc3, .slice la4 i4 lc4, .slice la5 i5 lc5, .int .i64 (wv : Int), .int .i64 (fv : Int), .int .i64 (hv : Int), .int .i64 (lv : Int), .int .i64 0, .slice none 0 0] := (by simpa only [List.setIfInBounds_toArray, List.set_cons_zero, List.set_cons_succ] using E4.out.put 9 (.int .i64 (lv : Int)) (by simp)); have F4 := Hid.mk' F4'; clear F4'; have T4 := Hid.mk' ((T3.out.step hk4 (fun g e => by injection e with e; exact .inl (by omega))).step (dkept_set z4 G 9 (.int .i64 (lv : Int))) (fun g e => by injection e with e; exact .inl (by omega))); clear hd4 hk4)
              | (have hgo := F2; clear hgo; go_at_call 59; refine (rnum_at F2.out.rd 1048576 (by rfl) (by omega) HX3.out).mono ?_; rintro e z3 ⟨rfl, hd3, hk3⟩; have E3 := Hid.mk' (F2.out.num hk3 hd3); have y3 : z3.cell? ⟨G, 8, none⟩ = some (.int .i64 0) := E3.out.gb.cell (i := 8) (by omega); have f3 := E3.out.gb.frozen 8; have F3' : Dst w (z3.setCell ⟨G, 8, none⟩ (.int .i64 (hv : Int))) H b R G r3 #[.int .i64 (idv : Int), .slice la1 i1 lc1, .slice la2 i2 lc2, .slice la3 i3 lc3, .slice la4 i4 lc4, .slice la5 i5 lc5, .int .i64 (wv : Int), .int .i64 (fv : Int), .int .i64 (hv : Int), .int .i64 0, .int .i64 0, .slice none 0 0] := (by simpa only [List.setIfInBounds_toArray, List.set_cons_zero, List.set_cons_succ] using E3.out.put 8 (.int .i64 (hv : Int)) (by simp)); have F3 := Hid.mk' F3'; clear F3'; have T3 := Hid.mk' ((T2.out.step hk3 (fun g e => by injection e with e; exact .inl (by omega))).step (dkept_set z3 G 8 (.int .i64 (hv : Int))) (fun g e => by injection e with e; exact .inl (by omega))); clear hd3 hk3)
              | (have hgo := F1; clear hgo; go_at_call 59; refine (rnum_at F1.out.rd 1048576 (by rfl) (by omega) HX2.out).mono ?_; rintro e z2 ⟨rfl, hd2, hk2⟩; have E2 := Hid.mk' (F1.out.num hk2 hd2); have y2 : z2.cell? ⟨G, 7, none⟩ = some (.int .i64 0) := E2.out.gb.cell (i := 7) (by omega); have f2 := E2.out.gb.frozen 7; have F2' : Dst w (z2.setCell ⟨G, 7, none⟩ (.int .i64 (fv : Int))) H b R G r2 #[.int .i64 (idv : Int), .slice la1 i1 lc1, .slice la2 i2 lc2, .slice la3 i3 lc3, .slice la4 i4 lc4, .slice la5 i5 lc5, .int .i64 (wv : Int), .int .i64 (fv : Int), .int .i64 0, .int .i64 0, .int .i64 0, .slice none 0 0] := (by simpa only [List.setIfInBounds_toArray, List.set_cons_zero, List.set_cons_succ] using E2.out.put 7 (.int .i64 (fv : Int)) (by simp)); have F2 := Hid.mk' F2'; clear F2'; have T2 := Hid.mk' ((T1.out.step hk2 (fun g e => by injection e with e; exact .inl (by omega))).step (dkept_set z2 G 7 (.int .i64 (fv : Int))) (fun g e => by injection e with e; exact .inl (by omega))); clear hd2 hk2)
              | (go_at_call 59; refine (rnum_at DN5.out.rd 1048576 (by rfl) (by omega) HX1.out).mono ?_; rintro e z1 ⟨rfl, hd1, hk1⟩; have E1 := Hid.mk' (DN5.out.num hk1 hd1); have y1 : z1.cell? ⟨G, 6, none⟩ = some (.int .i64 0) := E1.out.gb.cell (i := 6) (by omega); have f1 := E1.out.gb.frozen 6; have F1' : Dst w (z1.setCell ⟨G, 6, none⟩ (.int .i64 (wv : Int))) H b R G r1 #[.int .i64 (idv : Int), .slice la1 i1 lc1, .slice la2 i2 lc2, .slice la3 i3 lc3, .slice la4 i4 lc4, .slice la5 i5 lc5, .int .i64 (wv : Int), .int .i64 0, .int .i64 0, .int .i64 0, .int .i64 0, .slice none 0 0] := (by simpa only [List.setIfInBounds_toArray, List.set_cons_zero, List.set_cons_succ] using E1.out.put 6 (.int .i64 (wv : Int)) (by simp)); have F1 := Hid.mk' F1'; clear F1'; have T1 := Hid.mk' (((Stay.refl (G + 1) wA5).step hk1 (fun g e => by injection e with e; exact .inl (by omega))).step (dkept_set z1 G 6 (.int .i64 (wv : Int))) (fun g e => by injection e with e; exact .inl (by omega))); clear hd1 hk1))
            have FA := Dre.all F6.out (.int .i64 (idv : Int)) (.slice la1 i1 lc1) (.slice la2 i2 lc2) (.slice la3 i3 lc3) (.slice la4 i4 lc4) (.slice la5 i5 lc5) (.int .i64 (wv : Int)) (.int .i64 (fv : Int)) (.int .i64 (hv : Int)) (.int .i64 (lv : Int)) (.int .i64 (gv : Int)) (.slice a6 l6.length c6)
            have hGz5 := F5.out.Gz
            clear k0 m0 n0 k1 m1 n1 k2 m2 n2 k3 m3 n3 k4 m4 n4 k5 m5 n5 k6 m6 n6 k7 m7 n7 k8 m8 n8 k9 m9 n9 k10 m10 n10 k11 m11 n11 y1 f1 y2 f2 y3 f3 y4 f4 y5 f5 y6 f6
            generalize (((((((((((((w6.setCell ⟨G, 11, none⟩ (.slice a6 l6.length c6)).setCell ⟨R, 0, none⟩ (.int .i64 (idv : Int))).setCell ⟨R, 1, none⟩ (.slice la1 i1 lc1)).setCell ⟨R, 2, none⟩ (.slice la2 i2 lc2)).setCell ⟨R, 3, none⟩ (.slice la3 i3 lc3)).setCell ⟨R, 4, none⟩ (.slice la4 i4 lc4)).setCell ⟨R, 5, none⟩ (.slice la5 i5 lc5)).setCell ⟨R, 6, none⟩ (.int .i64 (wv : Int))).setCell ⟨R, 7, none⟩ (.int .i64 (fv : Int))).setCell ⟨R, 8, none⟩ (.int .i64 (hv : Int))).setCell ⟨R, 9, none⟩ (.int .i64 (lv : Int))).setCell ⟨R, 10, none⟩ (.int .i64 (gv : Int))).setCell ⟨R, 11, none⟩ (.slice a6 l6.length c6)) = WF at *
            have q0 : WF.cell? ⟨R, 0, none⟩ = some (.int .i64 (idv : Int)) := FA.rb.cell (i := 0) (by omega)
            have q1 : WF.cell? ⟨R, 1, none⟩ = some (.slice la1 i1 lc1) := FA.rb.cell (i := 1) (by omega)
            have q2 : WF.cell? ⟨R, 2, none⟩ = some (.slice la2 i2 lc2) := FA.rb.cell (i := 2) (by omega)
            have q3 : WF.cell? ⟨R, 3, none⟩ = some (.slice la3 i3 lc3) := FA.rb.cell (i := 3) (by omega)
            have q4 : WF.cell? ⟨R, 4, none⟩ = some (.slice la4 i4 lc4) := FA.rb.cell (i := 4) (by omega)
            have q5 : WF.cell? ⟨R, 5, none⟩ = some (.slice la5 i5 lc5) := FA.rb.cell (i := 5) (by omega)
            have q6 : WF.cell? ⟨R, 6, none⟩ = some (.int .i64 (wv : Int)) := FA.rb.cell (i := 6) (by omega)
            have q7 : WF.cell? ⟨R, 7, none⟩ = some (.int .i64 (fv : Int)) := FA.rb.cell (i := 7) (by omega)
            have q8 : WF.cell? ⟨R, 8, none⟩ = some (.int .i64 (hv : Int)) := FA.rb.cell (i := 8) (by omega)
            have q9 : WF.cell? ⟨R, 9, none⟩ = some (.int .i64 (lv : Int)) := FA.rb.cell (i := 9) (by omega)
            have q10 : WF.cell? ⟨R, 10, none⟩ = some (.int .i64 (gv : Int)) := FA.rb.cell (i := 10) (by omega)
            have q11 : WF.cell? ⟨R, 11, none⟩ = some (.slice a6 l6.length c6) := FA.rb.cell (i := 11) (by omega)
            refine bodyPost_ret (v := .agg #[.int .i64 (idv : Int), .slice la1 i1 lc1, .slice la2 i2 lc2, .slice la3 i3 lc3, .slice la4 i4 lc4, .slice la5 i5 lc5, .int .i64 (wv : Int), .int .i64 (fv : Int), .int .i64 (hv : Int), .int .i64 (lv : Int), .int .i64 (gv : Int), .slice a6 l6.length c6]) (by simp [results, Tryd.results27, go_sem, q0, q1, q2, q3, q4, q5, q6, q7, q8, q9, q10, q11]) rfl ?_
            clear q0 q1 q2 q3 q4 q5 q6 q7 q8 q9 q10 q11
            have L1 := LN1.out
            have L2 := LN2.out
            have L3 := LN3.out
            have L4 := LN4.out
            have L5 := LN5.out
            subst L1 L2 L3 L4 L5
            refine ⟨⟨la1, lc1, la2, lc2, la3, lc3, la4, lc4, la5, lc5, a6, c6⟩, ⟨(idv : Int), l1, l2, l3, l4, l5, (wv : Int), (fv : Int), (hv : Int), (lv : Int), (gv : Int), l6⟩, s6, rfl, ⟨fun w'' q => ?_, FA.rd, FA.kept, fun S0 T hS hs => ?_⟩⟩
            · have z0 : Stay (G + 1) WF w'' := ⟨q.size, fun i h1 h2 => q.block i (by omega) h2⟩
              have z6 := FA.st.trans z0
              have z5 := T6.out.trans z6
              have z4 := ((Stay.refl (G + 1) wA4).step KM4.out (fun g e => by injection e with e; exact .inl (by omega))).trans (ST5.out.trans z5)
              have z3 := ((Stay.refl (G + 1) wA3).step KM3.out (fun g e => by injection e with e; exact .inl (by omega))).trans (ST4.out.trans z4)
              have z2 := ST3.out.trans z3
              have z1 := ST2.out.trans z2
              obtain ⟨x1, y1, e1, g1, h1, _⟩ := (ON1.out.stay z1 hBG1).lie (by omega)
              obtain ⟨x2, y2, e2, g2, h2, _⟩ := (ON2.out.stay z2 hBG2).lie (by omega)
              obtain ⟨x3, y3, e3, g3, _⟩ := (ON3.out.stay ⟨z3.size, fun i h1 h2 => z3.block i (Nat.le_trans hBG3 h1) h2⟩).grid
              obtain ⟨x4, y4, e4, g4, h4, _⟩ := (ON4.out.stay z4 hBG4).lie (by omega)
              obtain ⟨x5, y5, e5, g5, h5, _⟩ := (ON5.out.stay z5 hBG5).lie (by omega)
              have zp := ((Stay.refl (G + 1) w6).step (dkept_set w6 G 11 (.slice a6 l6.length c6)) (fun g e => by injection e with e; exact .inl (by omega))).trans z6
              obtain ⟨x6, y6, e6, g6⟩ := (HP6.out.pl.stay ⟨zp.size, fun i h1 h2 => zp.block i (by omega) h2⟩).plans (fun p hp => by have := HP6.out.typ p hp; unfold tickP at this; unfold i64B; omega)
              injection e1 with e1 _ e1'
              injection e2 with e2 _ e2'
              injection e3 with e3 _ e3'
              injection e4 with e4 _ e4'
              injection e5 with e5 _ e5'
              injection e6 with e6 _ e6'
              subst e1 e1' e2 e2' e3 e3' e4 e4' e5 e5' e6 e6'
              exact ⟨g1, g2, g3, g4, g5, g6, h1, h2, h4, h5, TN1.out, TN2.out, TN4.out, TN5.out, by unfold i64B; dsimp only; omega⟩
            · obtain ⟨p1, p2, p3, p4, p5, p6⟩ := CN5.out S0 T hS hs
              obtain ⟨p7, p8⟩ := HP6.out.fwd S0.plans T hS.pl p6
              have o0 := (hnS.out S0 T hS hs).1
              have o1 := (FN1.out S0 T hS hs).1
              have o2 := (FN2.out S0 T hS hs).1
              have o3 := (FN3.out S0 T hS hs).1
              have o4 := (FN4.out S0 T hS hs).1
              have o5 := (FN5.out S0 T hS hs).1
              refine ⟨?_, p8⟩
              rw [o0, o1, o2, o3, o4, o5, p1, p2, p3, p4, p5, p7]

end Go.Proofs.YtcjkghajeohfjaaDoor

