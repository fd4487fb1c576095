/-
  THE WALK of FrameWrites.
-/
import Derived.Test.YtflehhliddcfgaaDoorWritesL
import Derived.Deep.RegionHeld
namespace Go.Proofs.YtflehhliddcfgaaDoor
open Go.RowKit Go.Lib Go.Deep
set_option linter.unusedVariables false
set_option linter.unusedSimpArgs false

set_option maxRecDepth 100000 in
set_option maxHeartbeats 1000000 in
theorem writes_out (m : Msg) (a : Option Addr) (len cap : Nat) (b : Option Addr) (n bc : Nat) (w : World) (hl : len ≤ 9223372036854775807) (hn : n ≤ 9223372036854775807) (h : 20000 < len ∨ (len ≤ 20000 ∧ 20000 < n)) :
    Calls Tryd.prog 4 #[msgV m a len cap, .slice b n bc] w fun e w' => e = .returned (.bool true) ∧ Below w.heap.size w w' := by
  rcases h with h | ⟨h, h2⟩
  all_goals
    go_enter Tryd.func4, Tryd.ntmps4
    go_wp2
    go_ret
    exact ⟨rfl, (Kept.alloc _ _ _ _ _ : Kept w _ none).below⟩
set_option maxRecDepth 100000 in
set_option maxHeartbeats 2000000 in
theorem writes_in (m : Msg) (a : Option Addr) (cap : Nat) (b : Option Addr) (n bc : Nat) (B : List Nat) (w : World) (hC : Come w a m.2.2.length cap m.2.2) (hm : Mok m) (hB : Come w b n bc B) (ht : Table w) (hl : m.2.2.length ≤ 20000) (hn : n ≤ 20000) :
    Calls Tryd.prog 4 #[msgV m a m.2.2.length cap, .slice b n bc] w fun e w' => e = .returned (.bool true) ∧ Below w.heap.size w w' := by
  have HT := Hid.mk' ht
  have HC := Hid.mk' hC
  have HM := Hid.mk' hm
  have HB := Hid.mk' hB
  have HBx := Hid.mk' hB.by_.lt
  have hsl : (stuff B).length ≤ 40000 := by have := (stuff_len B).2; have := hB.by_.size; omega
  have HBn := Hid.mk' hB.by_.size
  have HB0 := Hid.mk' (box_alloc w (.int .u8 (m.1 : Int)) (.int .u32 (m.2.1 : Int)) (.slice a m.2.2.length cap) 30)
  clear hC hm hB ht
  go_enter Tryd.func4, Tryd.ntmps4
  go_wp2_with (first
    | (have hgo := Z8; clear hgo; go_at_call 14; refine (stuff_any (I8.out.by HBx.out) (by omega)).mono ?_; rintro e w9 ⟨as_, cs, rfl, hm9, hk9⟩)
    | (have hgo := Y7; clear hgo; go_at_call 20; refine (rbare_any (HB.out.by_.kept K7.out) (by omega)).mono ?_; rintro e w8 ⟨az, cz, rfl, hm8, hk8⟩; have Z8 := Hid.mk' hm8; have I8 := Hid.mk' (I7.out.kept hk8); have K8 := Hid.mk' (K7.out.tr hk8); clear hm8)
    | (have hgo := U6; clear hgo; go_at_call 9; refine (bare_any ((I6.out.kept (Kept.alloc w6 #[.int .u8 ((opnM B).1 : Int), .int .u32 ((opnM B).2.1 : Int), .slice au (opnM B).2.2.length cu] 30 (0, 0) none)).by HBx.out) (by omega)).mono ?_; rintro e w7 ⟨ay, cy, rfl, hm7, hk7⟩; have Y7 := Hid.mk' hm7; have hk67 := (Kept.alloc w6 #[.int .u8 ((opnM B).1 : Int), .int .u32 ((opnM B).2.1 : Int), .slice au (opnM B).2.2.length cu] 30 (0, 0) none).tr hk7; have I7 := Hid.mk' (I6.out.kept hk67); have K7 := Hid.mk' (K6.out.tr hk67); clear hm7)
    | (have hgo := O5; clear hgo; go_at_call 19; refine (ropen_any (HB.out.kept (K5.out.tr (Kept.alloc w5 #[.int .u8 ((opnM B).1 : Int), .int .u32 ((opnM B).2.1 : Int), .slice ao (opnM B).2.2.length co] 30 (0, 0) none)))).mono ?_; rintro e w6 ⟨au, cu, rfl, hm6, hk6⟩; have U6 := Hid.mk' hm6; have hk56 := (Kept.alloc w5 #[.int .u8 ((opnM B).1 : Int), .int .u32 ((opnM B).2.1 : Int), .slice ao (opnM B).2.2.length co] 30 (0, 0) none).tr hk6; have I6 := Hid.mk' (I5.out.kept hk56); have K6 := Hid.mk' (K5.out.tr hk56); clear hm6)
    | (have hgo := X4; clear hgo; go_at_call 12; refine (open_any ((I4.out.come HBx.out)) (HT.out.kept K4.out)).mono ?_; rintro e w5 ⟨ao, co, rfl, hm5, hk5⟩; have O5 := Hid.mk' hm5; have I5 := Hid.mk' (I4.out.kept hk5); have K5 := Hid.mk' (K4.out.tr hk5); clear hm5)
    | (have hgo := W3; clear hgo; go_at_call 18; refine (rwrite_any m a _ cap _ (HC.out.kept K3.out) HM.out).mono ?_; rintro e w4 ⟨ax, cx, rfl, hm4, hk4⟩; have X4 := Hid.mk' hm4; have I4 := Hid.mk' (I3.out.kept hk4); have K4 := Hid.mk' (K3.out.tr hk4); clear hm4)
    | (have hgo := Q2; clear hgo; go_at_call 10; refine (write_any m a _ cap _ (HC.out.kept K2.out) HM.out (HT.out.kept K2.out)).mono ?_; rintro e w3 ⟨aw, cw, rfl, hm3, hk3⟩; have W3 := Hid.mk' hm3; have I3 := Hid.mk' (I2.out.kept hk3); have K3 := Hid.mk' (K2.out.tr hk3); have hX3 := HX2.out.kept hk3; have x30 := hX3.c0; have x31 := hX3.c1; have x32 := hX3.c2; clear hm3)
    | (have hgo := P1; clear hgo; go_at_call 17; refine (rinside_any m a _ cap _ (HC.out.kept K1.out) HM.out).mono ?_; rintro e w2 ⟨aq, cq, rfl, hm2, hk2⟩; have Q2 := Hid.mk' hm2; have I2 := Hid.mk' (I1.out.kept hk2); have K2 := Hid.mk' (K1.out.tr hk2); have hX2 := HX1.out.kept hk2; have HX2 := Hid.mk' hX2; have x20 := hX2.c0; have x21 := hX2.c1; have x22 := hX2.c2; clear hm2)
    | (have hgo := I0; clear hgo; go_at_call 16; refine (inside_any m a _ cap _ (HC.out.kept K0.out) HM.out (HT.out.kept K0.out)).mono ?_; rintro e w1 ⟨ap, cp, rfl, hm1, hk1⟩; have P1 := Hid.mk' hm1; have I1 := Hid.mk' (I0.out.kept hk1); have K1 := Hid.mk' (K0.out.tr hk1); have hX1 := HX0.out.kept hk1; have HX1 := Hid.mk' hX1; have x10 := hX1.c0; have x11 := hX1.c1; have x12 := hX1.c2; clear hm1)
    | (at_builtin; refine wpList_join0 (by rfl) _ _ (by rfl) (w.heap.size + 1) (by rfl) b n bc B (by rfl) (HB.out.by_.kept (Kept.alloc _ _ _ _ _)) HB.out.nil (by omega) (by simp) ?_; intro aI cI w0 hmI hk0; have I0 := Hid.mk' hmI; have K0 := Hid.mk' ((Kept.alloc w #[.int .u8 (m.1 : Int), .int .u32 (m.2.1 : Int), .slice a m.2.2.length cap] 30 (0, 0) none).tr hk0); have hX0 := HB0.out.kept hk0; have HX0 := Hid.mk' hX0; have x00 := hX0.c0; have x01 := hX0.c1; have x02 := hX0.c2; clear hmI))
  have hk89 := hk8.tr hk9
  have hk69 := hk67.tr hk89
  have hk59 := hk56.tr hk69
  have hk49 := hk5.tr hk59
  have hk39 := hk4.tr hk49
  have hk29 := hk3.tr hk39
  have hk19 := hk2.tr hk29
  have K9 := Hid.mk' (K8.out.tr hk9)
  have K09 := Hid.mk' (hk1.tr hk19)
  have KW0 := K0.out
  have HK0 := Hid.mk' KW0
  clear KW0
  have hs04 := (hk1.tr (hk2.tr (hk3.tr hk4))).size
  have hs06 := (hk1.tr (hk2.tr (hk3.tr (hk4.tr (hk5.tr hk56))))).size
  have hs08 := (hk1.tr (hk2.tr (hk3.tr (hk4.tr (hk5.tr (hk56.tr (hk67.tr hk8))))))).size
  have I9 := Hid.mk' (I8.out.kept hk9)
  have hbo := ((box_alloc w5 (.int .u8 ((opnM B).1 : Int)) (.int .u32 ((opnM B).2.1 : Int)) (.slice ao (opnM B).2.2.length co) 30).kept hk6).kept hk69
  have hbu := ((box_alloc w6 (.int .u8 ((opnM B).1 : Int)) (.int .u32 ((opnM B).2.1 : Int)) (.slice au (opnM B).2.2.length cu) 30).kept hk7).kept hk89
  have MO := Hid.mk' (O5.out.kept hk59)
  have MY := Hid.mk' (Y7.out.kept hk89)
  have MS := Hid.mk' hm9
  have HOK : Hid (Mok (opnM B)) := opnM_ok HBx.out
  have VO := Hid.mk' (MO.out.ovr HOK.out.body (lo := w0.heap.size) (by omega))
  have VY := Hid.mk' (MY.out.ovr (bareL_lt HBx.out) (lo := w0.heap.size) (by simpa using Nat.le_succ_of_le hs06))
  have VS := Hid.mk' (MS.out.ovr (stuff_lt _ HBx.out) (lo := w0.heap.size) (by omega))
  have HG5 : Hid (∀ g, ao = some ⟨g, 0, none⟩ → (opnM B).2.2.length ≠ 0 → g ≠ w5.heap.size) := fun g e hz => by
    obtain ⟨g', e', _, hc, _⟩ := (O5.out.ovr HOK.out.body (Nat.le_refl _)).at_ (by omega)
    obtain ⟨x, _, h0⟩ := hc 0 (by omega)
    have hb := block_lt h0
    rw [e] at e'
    injection e' with e'; injection e' with e'
    simp only at hb
    omega
  have OC := Hid.mk' (MO.out.come HOK.out.body)
  have UC := Hid.mk' ((U6.out.come HOK.out.body).kept hk69)
  have tp : ∀ w', Kept w9 w' none → (convert 22 9 (.slice ap (insL m).length cp)).run Tryd.prog w' = .ok (.string (textOf (insL m))) w' := fun w' h => run_text (((P1.out.by (insL_lt HM.out)).kept hk19).kept h) cp
  have tq : ∀ w', Kept w9 w' none → (convert 22 9 (.slice aq (insL m).length cq)).run Tryd.prog w' = .ok (.string (textOf (insL m))) w' := fun w' h => run_text (((Q2.out.by (insL_lt HM.out)).kept hk29).kept h) cq
  have tw : ∀ w', Kept w9 w' none → (convert 22 9 (.slice aw (wrL m).length cw)).run Tryd.prog w' = .ok (.string (textOf (wrL m))) w' := fun w' h => run_text (((W3.out.by (wrL_lt HM.out)).kept hk39).kept h) cw
  have tx : ∀ w', Kept w9 w' none → (convert 22 9 (.slice ax (wrL m).length cx)).run Tryd.prog w' = .ok (.string (textOf (wrL m))) w' := fun w' h => run_text (((X4.out.by (wrL_lt HM.out)).kept hk49).kept h) cx
  have ty : ∀ w', Kept w9 w' none → (convert 22 9 (.slice ay (bareL B).length cy)).run Tryd.prog w' = .ok (.string (textOf (bareL B))) w' := fun w' h => run_text ((MY.out.by (bareL_lt HBx.out)).kept h) cy
  have tz : ∀ w', Kept w9 w' none → (convert 22 9 (.slice az (bareL B).length cz)).run Tryd.prog w' = .ok (.string (textOf (bareL B))) w' := fun w' h => run_text (((Z8.out.by (bareL_lt HBx.out)).kept hk9).kept h) cz
  have ts : ∀ w', Kept w9 w' none → (convert 22 9 (.slice as_ (stuff B).length cs)).run Tryd.prog w' = .ok (.string (textOf (stuff B))) w' := fun w' h => run_text ((MS.out.by (stuff_lt _ HBx.out)).kept h) cs
  have o0 : ∀ w', Kept w9 w' none → w'.cell? ⟨w5.heap.size, 0, none⟩ = some (.int .u8 ((opnM B).1 : Int)) := fun w' h => (hbo.kept h).c0
  have o1 : ∀ w', Kept w9 w' none → w'.cell? ⟨w5.heap.size, 1, none⟩ = some (.int .u32 ((opnM B).2.1 : Int)) := fun w' h => (hbo.kept h).c1
  have o2 : ∀ w', Kept w9 w' none → w'.cell? ⟨w5.heap.size, 2, none⟩ = some (.slice ao (opnM B).2.2.length co) := fun w' h => (hbo.kept h).c2
  have u0 : ∀ w', Kept w9 w' none → w'.cell? ⟨w6.heap.size, 0, none⟩ = some (.int .u8 ((opnM B).1 : Int)) := fun w' h => (hbu.kept h).c0
  have u1 : ∀ w', Kept w9 w' none → w'.cell? ⟨w6.heap.size, 1, none⟩ = some (.int .u32 ((opnM B).2.1 : Int)) := fun w' h => (hbu.kept h).c1
  have u2 : ∀ w', Kept w9 w' none → w'.cell? ⟨w6.heap.size, 2, none⟩ = some (.slice au (opnM B).2.2.length cu) := fun w' h => (hbu.kept h).c2
  have HBO := Hid.mk' hbo
  have e1 : (insE m != insE m) = false := by simp
  have e2 : (((opnE B : Nat) : Int) != ((opnE B : Nat) : Int)) = false := by simp
  have e3 : (((bareE B : Nat) : Int) != ((bareE B : Nat) : Int)) = false := by simp
  clear hbo hbu hk19 hk29 hk39 hk49 hk59 hk69 hk89 hk67 hk56 hk1 hk2 hk3 hk4 hk5 hk6 hk7 hk8 hk9 hm9 hX0 hX1 hX2 hX3 x00 x01 x02 x10 x11 x12 x20 x21 x22 x30 x31 x32
  go_region_held (fun w' => Kept w9 w' none)
    ((first | exact Kept.refl _ _ | exact Kept.drew _ _ | assumption | exact Kept.tr (by assumption) (Kept.drew _ _)))
    (first
      | (go_at_call 21; refine (rsame_yes (opnM B) ao au co cu (OC.out.kept (by assumption)) (UC.out.kept (by assumption))).mono ?_; rintro e wS ⟨rfl, hkS⟩; have hKS : Kept w9 wS none := Kept.tr (by assumption) hkS)
      | (go_at_call 22; refine (rstuff_any (HB.out.by_.kept (K9.out.tr (by assumption))) (by omega)).mono ?_; rintro e wT ⟨aT, cT, rfl, hmT, hkT⟩; have hKT : Kept w9 wT none := Kept.tr (by assumption) hkT; have tT := run_text (hmT.by (stuff_lt _ HBx.out)) cT))
  have KR : Hid (Kept w0 wT none) := K09.out.tr hKT
  have BR : Hid (Box wT w5.heap.size (.int .u8 ((opnM B).1 : Int)) (.int .u32 ((opnM B).2.1 : Int)) (.slice ao (opnM B).2.2.length co)) := HBO.out.kept hKT
  have OR := Hid.mk' (VO.out.kept hKT)
  have YR := Hid.mk' (VY.out.kept hKT)
  have SR := Hid.mk' (VS.out.kept hKT)
  clear tp tq tw tx ty tz ts o0 o1 o2 u0 u1 u2 e1 e2 e3 hKT hkT hKS hkS
  go_wp2
  obtain ⟨no, hno⟩ : ∃ no, no = (opnM B).2.2.length := ⟨_, rfl⟩
  obtain ⟨ny, hny⟩ : ∃ ny, ny = (bareL B).length := ⟨_, rfl⟩
  obtain ⟨ns, hns⟩ : ∃ ns, ns = (stuff B).length := ⟨_, rfl⟩
  have hno9 : no ≤ 9223372036854775807 := by rw [hno]; have := MO.out.room; have := MO.out.max; omega
  have hny9 : ny ≤ 40000 := by rw [hny]; have := bareL_len B; have := HBn.out; omega
  have hns9 : ns ≤ 40000 := by omega
  rw [← hno] at BR OR HG5
  rw [← hny] at YR ⊢
  rw [← hns] at SR ⊢
  have HI : Hid (By w0 aI n B) := I0.out.by HBx.out
  clear HT HC HM HB0 HX0 I1 I2 I3 I4 I5 I6 I7 I8 I9 K1 K2 K3 K4 K5 K6 K7 K8 K9 P1 Q2 W3 X4 O5 U6 Y7 Z8 MO MY MS OC UC VO VY VS HBO HOK HX1 HX2 hno hny hns hsl hmT hs04 hs06 hs08 K09
  go_loopw [23] (fun iv wr => ∃ z : Nat, z ≤ no ∧ iv = .int .i64 z ∧ Kept w0 wr none ∧ Ovr wr w0.heap.size ao no ∧ Ovr wr w0.heap.size ay ny ∧ Ovr wr w0.heap.size as_ ns ∧ Box wr w5.heap.size (.int .u8 ((opnM B).1 : Int)) (.int .u32 ((opnM B).2.1 : Int)) (.slice ao no co)) (fun iv _ => no - (intOf iv).toNat)
  case atStart => exact ⟨0, Nat.zero_le _, rfl, KR.out, OR.out, YR.out, SR.out, BR.out⟩
  case round =>
    obtain ⟨z, hz, rfl, hkr, hO, hY, hS, hBx⟩ := hrel
    clear KR OR YR SR BR
    by_cases hlt : z < no
    · obtain ⟨g, rfl, hg, hc, hf⟩ := hO.at_ (by omega)
      obtain ⟨x, hx, hcx⟩ := hc z hlt
      have hfx := hf z
      have hne := HG5.out g rfl (by omega)
      have c2 := hBx.c2
      have hzi : (z : Int) < (no : Int) := by omega
      have hkd : Kept w0 wr.drew none := hkr.tr (Kept.drew _ _)
      have hOd := hO.kept (Kept.drew wr none)
      have hYd := hY.kept (Kept.drew wr none)
      have hSd := hS.kept (Kept.drew wr none)
      have hBd := hBx.kept (Kept.drew wr none)
      go_wp2
      go_region
      all_goals
        go_wp2
        go_roundw
        case rel => exact ⟨z + 1, by omega, by go_num, hkd.setNew (p := ⟨g, z, none⟩) hg _, hOd.set g z (wrap8 _), hYd.set g z (wrap8 _), hSd.set g z (wrap8 _), hBd.farW hne z _⟩
        case measure => simp [intOf]; omega
    · have hze : z = no := by omega
      have c2 := hBx.c2
      have hnz : ¬ (z : Int) < (no : Int) := by omega
      go_wp2
      go_loopw [24] (fun iv wr => ∃ y : Nat, y ≤ ny ∧ iv = .int .i64 y ∧ Kept w0 wr none ∧ Ovr wr w0.heap.size ay ny ∧ Ovr wr w0.heap.size as_ ns) (fun iv _ => ny - (intOf iv).toNat)
      case atStart => exact ⟨0, Nat.zero_le _, rfl, hkr, hY, hS⟩
      case round =>
        obtain ⟨y, hy, rfl, hkr2, hY2, hS2⟩ := hrel
        clear hkr hO hY hS hBx c2 HG5
        by_cases hlt2 : y < ny
        · obtain ⟨g, rfl, hg, hc, hf⟩ := hY2.at_ (by omega)
          obtain ⟨x, hx, hcx⟩ := hc y hlt2
          have hfx := hf y
          have hyi : (y : Int) < (ny : Int) := by omega
          go_wp2
          go_roundw
          case rel => exact ⟨y + 1, by omega, by go_num, hkr2.setNew (p := ⟨g, y, none⟩) hg _, hY2.set g y (wrap8 _), hS2.set g y (wrap8 _)⟩
          case measure => simp [intOf]; omega
        · have hnz2 : ¬ (y : Int) < (ny : Int) := by omega
          go_wp2
          go_loopw [25] (fun iv wr => ∃ q : Nat, q ≤ ns ∧ iv = .int .i64 q ∧ Kept w0 wr none ∧ Ovr wr w0.heap.size as_ ns) (fun iv _ => ns - (intOf iv).toNat)
          case atStart => exact ⟨0, Nat.zero_le _, rfl, hkr2, hS2⟩
          case round =>
            obtain ⟨q, hq, rfl, hkr3, hS3⟩ := hrel
            clear hkr2 hY2 hS2
            by_cases hlt3 : q < ns
            · obtain ⟨g, rfl, hg, hc, hf⟩ := hS3.at_ (by omega)
              obtain ⟨x, hx, hcx⟩ := hc q hlt3
              have hfx := hf q
              have hqi : (q : Int) < (ns : Int) := by omega
              go_wp2
              go_roundw
              case rel => exact ⟨q + 1, by omega, by go_num, hkr3.setNew (p := ⟨g, q, none⟩) hg _, hS3.set g q (wrap8 _)⟩
              case measure => simp [intOf]; omega
            · have hnz3 : ¬ (q : Int) < (ns : Int) := by omega
              have ti := run_text (HI.out.kept hkr3) cI
              have tb := run_text (HB.out.by_.kept (HK0.out.tr hkr3)) bc
              have hKz := HK0.out.tr hkr3
              go_wp2
              go_ret
              refine ⟨ret_bool (by simp), hKz.below⟩

end Go.Proofs.YtflehhliddcfgaaDoor
