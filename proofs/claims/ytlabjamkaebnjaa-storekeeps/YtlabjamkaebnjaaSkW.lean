/-
  THE WALK of StoreKeeps (made by a program).
-/
import Derived.Test.YtlabjamkaebnjaaSkG
import Derived.Test.YtlabjamkaebnjaaSkH
import Derived.Test.YtlabjamkaebnjaaStoU
import Derived.Test.YtlabjamkaebnjaaSPlGJ
namespace Go.Proofs.Ytlabjamkaebnjaa
open Go.RowKit Go.Lib Go.Deep
set_option linter.unusedVariables false
set_option linter.unusedSimpArgs false

theorem rd_g {w : World} {L : List Nat} {e : Ending} {w' : World} (h : RdP w L e w') : ∃ pa pc, e = .returned (.tuple #[kpV ((rdK19 L).gen : Int) (rdK19 L).mode pa (rdK19 L).plans.length pc, .int .i64 (rdE19 L)]) ∧ Plans w' pa (rdK19 L).plans.length pc (rdK19 L).plans ∧ Kept w w' none := by
  obtain ⟨pa, n, c, rfl, hp, hk⟩ := h
  obtain rfl := hp.size
  exact ⟨pa, c, rfl, hp.plans, hk⟩
theorem sl_g {w : World} {L : List Nat} {i : Int} {e : Ending} {w' : World} (h : SlqP w L i e w') : ∃ pa pc, e = .returned (.tuple #[kpV ((slK19 L i).gen : Int) (slK19 L i).mode pa (slK19 L i).plans.length pc, .int .i64 (slE19 L i)]) ∧ Plans w' pa (slK19 L i).plans.length pc (slK19 L i).plans ∧ Kept w w' none := by
  obtain ⟨pa, n, c, rfl, hp, hk⟩ := h
  obtain rfl := hp.size
  exact ⟨pa, c, rfl, hp.plans, hk⟩
/-- Writes that are being written over. -/
structure PwS (w0 w : World) (b off : Nat) (l : List Pw) : Prop where
  kept : Kept w0 w none
  at_ : ∀ i p, l[i]? = some p → ∃ a c, w.cell? ⟨b, off + i * 2 + 1, none⟩ = some (.slice a p.data.length c) ∧ p.data.length ≤ c ∧ c ≤ 9223372036854775807 ∧ (0 < p.data.length → ∃ g o, a = some ⟨g, o, none⟩ ∧ w0.heap.size ≤ g ∧ g ≠ b ∧ (∀ j, w.frozen? ⟨g, j, none⟩ = false) ∧ ∀ j, j < p.data.length → ∃ z : Int, w.cell? ⟨g, o + j, none⟩ = some (.int .u8 z))
theorem PwU.pwS {w0 w : World} {H b off m : Nat} {l : List Pw} (h : PwU w H (some ⟨b, off, none⟩) m l) (k : Kept w0 w none) (hH : w0.heap.size ≤ H) : PwS w0 w b off l := by
  refine ⟨k, fun i p hi => ?_⟩
  have hm : 0 < m := by have := (List.getElem?_eq_some_iff.1 hi).1; have := h.size; omega
  obtain ⟨b', off', e, _, _, hc⟩ := h.at_ hm
  injection e with e
  injection e with e1 e2
  subst e1 e2
  obtain ⟨a, c, _, q2, q3, q4⟩ := hc i p hi
  refine ⟨a, c, q2, q3.room, q3.max, fun hp => ?_⟩
  obtain ⟨g, o, rfl, _, hcs⟩ := q3.by_.at_ hp
  obtain ⟨r1, _, r3, r4⟩ := q4 _ rfl
  exact ⟨g, o, rfl, Nat.le_trans hH r1, r3, r4, fun j hj => ⟨_, hcs j hj⟩⟩
theorem PwS.set {w0 w : World} {b off : Nat} {l : List Pw} (h : PwS w0 w b off l) {g : Nat} (hg : w0.heap.size ≤ g) (hb : g ≠ b) (q : Nat) : PwS w0 (w.setCell ⟨g, q, none⟩ (.int .u8 77)) b off l := by
  refine ⟨h.kept.setNew (p := ⟨g, q, none⟩) hg _, fun i p hi => ?_⟩
  obtain ⟨a, c, q1, q2, q3, q4⟩ := h.at_ i p hi
  refine ⟨a, c, (World.cell?_setCell_far _ _ _ _ hb).trans q1, q2, q3, fun hp => ?_⟩
  obtain ⟨g', o, e, r1, r2, r3, r4⟩ := q4 hp
  refine ⟨g', o, e, r1, r2, fun j => (frozen_set _ _ _ _).trans (r3 j), fun j hj => ?_⟩
  obtain ⟨z, hz⟩ := r4 j hj
  by_cases hq : (⟨g, q, none⟩ : Addr) = ⟨g', o + j, none⟩
  · rw [← hq] at hz ⊢
    exact ⟨77, World.cell?_setCell_same' _ _ _ (by rw [hz]; rfl)⟩
  · exact ⟨z, (World.cell?_setCell_other _ _ _ _ hq).trans hz⟩
set_option maxRecDepth 100000 in
set_option maxHeartbeats 8000000 in
theorem skp_any {n : Int} {a : Option Addr} {dn c : Nat} {L : List Nat} {md : Nat} {la : Option Addr} {ln lc : Nat} {l : List Pl} {i : Int} {w : World} (hC : Come w a dn c L) (hP : Plans w la ln lc l) : Calls Try.prog 3 #[.int .i64 n, dvV a dn c, .int .u8 (md : Int), .slice la ln lc, .int .i64 i] w fun e w' => e = .returned (.bool true) ∧ Kept w w' none := by
  by_cases h5 : 5000 < dn
  · have h5' : (5000 : Int) < (dn : Int) := by omega
    clear hC hP h5
    go_enter Try.func3, Try.ntmps3
    go_wp2
    go_ret
    exact ⟨rfl, Kept.alloc _ _ _ _ _⟩
  have h5' : ¬ (5000 : Int) < (dn : Int) := by omega
  have hn1 : dn ≤ 10000 := by omega
  obtain ⟨WA, hWA⟩ : ∃ WA, w.alloc (.cells #[.slice a dn c] 24) = WA := ⟨_, rfl⟩
  have hkA : Kept w WA none := by rw [← hWA]; exact Kept.alloc _ _ _ _ _
  have RD : Hid (WA.rowIs w.heap.size 24 1 (fun _ => .slice a dn c)) := Hid.mk' (by
    rw [← hWA]
    exact row1k w (.slice a dn c) 24)
  have K := Hid.mk' hkA
  have KD : Hid (Kept WA WA none) := Hid.mk' (Kept.refl _ _)
  have HWA := Hid.mk' hWA
  have HC := Hid.mk' (fun w' (hk : Kept w w' none) => hC.kpt hk)
  have HP := Hid.mk' (fun w' (hk : Kept w w' none) => hP.kept hk)
  have HLG := Hid.mk' (fun w' (hk : Kept w w' none) => large_few (hP.kept hk))
  have HTW := Hid.mk' (fun w' (hk : Kept w w' none) => rtwin_any w' (hC.kpt hk) hn1)
  have HF1 := Hid.mk' (fun w' => format_any n w')
  have HF2 := Hid.mk' (fun w' => rformat_any n w')
  have HR1 := Hid.mk' (fun (w' : World) (a' : Option Addr) (c' : Nat) (h : Come w' a' dn c' L) => (sread_any h).mono (fun e w2 h => rd_g h))
  have HR2 := Hid.mk' (fun w' (hk : Kept w w' none) => (rread19_any (hC.kpt hk)).mono (fun e w2 h => rd_g h))
  have HP1 := Hid.mk' (fun (w' : World) (a' : Option Addr) (c' : Nat) (pa' : Option Addr) (pc' : Nat) (h : Come w' a' dn c' L) (h2 : Plans w' pa' ln pc' l) => sputU_any (md := md) h h2)
  have HP2 := Hid.mk' (fun w' (hk : Kept w w' none) => rput19_any (md := md) (hC.kpt hk) (hP.kept hk))
  have HS1 := Hid.mk' (fun (w' : World) (a' : Option Addr) (c' : Nat) (h : Come w' a' dn c' L) => (sslot_any (i := i) h).mono (fun e w2 h => sl_g h))
  have HS2 := Hid.mk' (fun w' (hk : Kept w w' none) => (rslot19_any i (hC.kpt hk)).mono (fun e w2 h => sl_g h))
  unfold PtU at HP1
  unfold RptP at HP2
  generalize foE n = E0 at *
  obtain ⟨LF, hLF⟩ : ∃ LF, foL n = LF := ⟨_, rfl⟩
  rw [hLF] at HF1 HF2
  obtain ⟨nf, hnf⟩ : ∃ nf, LF.length = nf := ⟨_, rfl⟩
  rw [hnf] at HF2
  obtain ⟨TF, hTF⟩ : ∃ TF, textOf LF = TF := ⟨_, rfl⟩
  have HTF := Hid.mk' hTF
  have htf : (TF.toList == TF.toList) = true := by simp
  have htf2 : (!(TF.toList == TF.toList)) = false := by rw [htf]; rfl
  generalize ((rdK19 L).gen : Int) = g1 at *
  generalize (rdK19 L).mode = m1 at *
  generalize (rdK19 L).plans = l1 at *
  obtain ⟨q1, hq1⟩ : ∃ q1, l1.length = q1 := ⟨_, rfl⟩
  rw [hq1] at HR1 HR2
  generalize rdE19 L = E1 at *
  generalize ((slK19 L i).gen : Int) = g2 at *
  generalize (slK19 L i).mode = m2 at *
  generalize (slK19 L i).plans = l2 at *
  obtain ⟨q2, hq2⟩ : ∃ q2, l2.length = q2 := ⟨_, rfl⟩
  rw [hq2] at HS1 HS2
  generalize slE19 L i = E2 at *
  generalize ptE L md l = E3 at *
  generalize ptL L md l = PL at *
  obtain ⟨np, hnp⟩ : ∃ np, PL.length = np := ⟨_, rfl⟩
  rw [hnp] at HP1 HP2
  have HNP := Hid.mk' hnp
  have M0 := Hid.mk' True.intro
  clear hC hP h5 hkA hLF hnf hTF hq1 hq2 hnp hWA
  go_enter Try.func3, Try.ntmps3
  go_wp2_with (first
    | (have hgo := M13; clear hgo; go_at_call 15; refine (rsame19_yes PV.out PW.out).mono ?_; rintro e w14 ⟨rfl, hk⟩; have hkk := hk; replace PW := Hid.mk' (PW.out.kept hkk); replace PV := Hid.mk' (PV.out.kept hkk); replace PQ := Hid.mk' (PQ.out.kept hkk); replace PU := Hid.mk' (PU.out.kept hkk); replace KWP := Hid.mk' (KWP.out.tr hkk); replace PA := Hid.mk' (PA.out.kept hkk); replace PB := Hid.mk' (PB.out.kept hkk); replace CX := Hid.mk' (CX.out.kpt hkk); replace CY := Hid.mk' (CY.out.kpt hkk); replace CO := Hid.mk' (CO.out.kpt hkk); replace PO := Hid.mk' (PO.out.kept hkk); replace K := Hid.mk' (K.out.tr hkk); replace KD := Hid.mk' (KD.out.tr hkk); replace KO := Hid.mk' (KO.out.tr hkk); replace KX := Hid.mk' (KX.out.tr hkk); replace KY := Hid.mk' (KY.out.tr hkk); replace KA := Hid.mk' (KA.out.tr hkk); replace KB := Hid.mk' (KB.out.tr hkk); replace KU := Hid.mk' (KU.out.tr hkk); replace KV := Hid.mk' (KV.out.tr hkk); have M14 := Hid.mk' True.intro; clear hk hkk M13)
    | (have hgo := M12; clear hgo; go_at_call 16; refine (rsameputs_yes PU.out.pwF.plw PQ.out).mono ?_; rintro e w13 ⟨rfl, hk⟩; have hkk := hk; replace PW := Hid.mk' (PW.out.kept hkk); replace PV := Hid.mk' (PV.out.kept hkk); replace PQ := Hid.mk' (PQ.out.kept hkk); replace PU := Hid.mk' (PU.out.kept hkk); replace KWP := Hid.mk' (KWP.out.tr hkk); replace PA := Hid.mk' (PA.out.kept hkk); replace PB := Hid.mk' (PB.out.kept hkk); replace CX := Hid.mk' (CX.out.kpt hkk); replace CY := Hid.mk' (CY.out.kpt hkk); replace CO := Hid.mk' (CO.out.kpt hkk); replace PO := Hid.mk' (PO.out.kept hkk); replace K := Hid.mk' (K.out.tr hkk); replace KD := Hid.mk' (KD.out.tr hkk); replace KO := Hid.mk' (KO.out.tr hkk); replace KX := Hid.mk' (KX.out.tr hkk); replace KY := Hid.mk' (KY.out.tr hkk); replace KA := Hid.mk' (KA.out.tr hkk); replace KB := Hid.mk' (KB.out.tr hkk); replace KU := Hid.mk' (KU.out.tr hkk); replace KV := Hid.mk' (KV.out.tr hkk); have xU12_0 : w13.cell? ⟨w10.heap.size, 0, none⟩ = some (.int .i64 g2) := (rowK RU.out KU.out).cell (i := 0) (by omega); have xU12_1 : w13.cell? ⟨w10.heap.size, 1, none⟩ = some (.int .u8 (m2 : Int)) := (rowK RU.out KU.out).cell (i := 1) (by omega); have xU12_2 : w13.cell? ⟨w10.heap.size, 2, none⟩ = some (.slice p10 q2 c10) := (rowK RU.out KU.out).cell (i := 2) (by omega); have xV12_0 : w13.cell? ⟨w11.heap.size, 0, none⟩ = some (.int .i64 g2) := (rowK RV.out KV.out).cell (i := 0) (by omega); have xV12_1 : w13.cell? ⟨w11.heap.size, 1, none⟩ = some (.int .u8 (m2 : Int)) := (rowK RV.out KV.out).cell (i := 1) (by omega); have xV12_2 : w13.cell? ⟨w11.heap.size, 2, none⟩ = some (.slice p11 q2 c11) := (rowK RV.out KV.out).cell (i := 2) (by omega); have M13 := Hid.mk' True.intro; clear hk hkk M12)
    | (have hgo := M11; clear hgo; go_at_call 15; refine (rsame19_yes PA.out PB.out).mono ?_; rintro e w12 ⟨rfl, hk⟩; have hkk := hk; replace PW := Hid.mk' (PW.out.kept hkk); replace PV := Hid.mk' (PV.out.kept hkk); replace PQ := Hid.mk' (PQ.out.kept hkk); replace PU := Hid.mk' (PU.out.kept hkk); replace KWP := Hid.mk' (KWP.out.tr hkk); replace PA := Hid.mk' (PA.out.kept hkk); replace PB := Hid.mk' (PB.out.kept hkk); replace CX := Hid.mk' (CX.out.kpt hkk); replace CY := Hid.mk' (CY.out.kpt hkk); replace CO := Hid.mk' (CO.out.kpt hkk); replace PO := Hid.mk' (PO.out.kept hkk); replace K := Hid.mk' (K.out.tr hkk); replace KD := Hid.mk' (KD.out.tr hkk); replace KO := Hid.mk' (KO.out.tr hkk); replace KX := Hid.mk' (KX.out.tr hkk); replace KY := Hid.mk' (KY.out.tr hkk); replace KA := Hid.mk' (KA.out.tr hkk); replace KB := Hid.mk' (KB.out.tr hkk); replace KU := Hid.mk' (KU.out.tr hkk); replace KV := Hid.mk' (KV.out.tr hkk); have M12 := Hid.mk' True.intro; clear hk hkk M11)
    | (have hgo := M10; clear hgo; go_at_call 14; refine (HS2.out _ K.out).mono ?_; rintro e w11 ⟨p11, c11, rfl, hp, hk⟩; have hkk := hk.tr (Kept.alloc w11 #[.int .i64 g2, .int .u8 (m2 : Int), .slice p11 q2 c11] 35 (0, 0) none); have PW := Hid.mk' (hp.kept (Kept.alloc w11 #[.int .i64 g2, .int .u8 (m2 : Int), .slice p11 q2 c11] 35 (0, 0) none)); clear hp; replace PV := Hid.mk' (PV.out.kept hkk); replace PQ := Hid.mk' (PQ.out.kept hkk); replace PU := Hid.mk' (PU.out.kept hkk); replace KWP := Hid.mk' (KWP.out.tr hkk); replace PA := Hid.mk' (PA.out.kept hkk); replace PB := Hid.mk' (PB.out.kept hkk); replace CX := Hid.mk' (CX.out.kpt hkk); replace CY := Hid.mk' (CY.out.kpt hkk); replace CO := Hid.mk' (CO.out.kpt hkk); replace PO := Hid.mk' (PO.out.kept hkk); replace K := Hid.mk' (K.out.tr hkk); replace KD := Hid.mk' (KD.out.tr hkk); replace KO := Hid.mk' (KO.out.tr hkk); replace KX := Hid.mk' (KX.out.tr hkk); replace KY := Hid.mk' (KY.out.tr hkk); replace KA := Hid.mk' (KA.out.tr hkk); replace KB := Hid.mk' (KB.out.tr hkk); replace KU := Hid.mk' (KU.out.tr hkk); have RV := Hid.mk' (row3 w11 (.int .i64 g2) (.int .u8 (m2 : Int)) (.slice p11 q2 c11) 35); have KV : Hid (Kept (w11.alloc (.cells #[.int .i64 g2, .int .u8 (m2 : Int), .slice p11 q2 c11] 35)) (w11.alloc (.cells #[.int .i64 g2, .int .u8 (m2 : Int), .slice p11 q2 c11] 35)) none) := Hid.mk' (Kept.refl _ _); have xX10_0 : (w11.alloc (.cells #[.int .i64 g2, .int .u8 (m2 : Int), .slice p11 q2 c11] 35)).cell? ⟨w4.heap.size, 0, none⟩ = some (.slice a4 n4 c4) := (rowK RX.out KX.out).cell (i := 0) (by omega); have xY10_0 : (w11.alloc (.cells #[.int .i64 g2, .int .u8 (m2 : Int), .slice p11 q2 c11] 35)).cell? ⟨w5.heap.size, 0, none⟩ = some (.slice a5 nf c5) := (rowK RY.out KY.out).cell (i := 0) (by omega); have xA10_0 : (w11.alloc (.cells #[.int .i64 g2, .int .u8 (m2 : Int), .slice p11 q2 c11] 35)).cell? ⟨w6.heap.size, 0, none⟩ = some (.int .i64 g1) := (rowK RA.out KA.out).cell (i := 0) (by omega); have xA10_1 : (w11.alloc (.cells #[.int .i64 g2, .int .u8 (m2 : Int), .slice p11 q2 c11] 35)).cell? ⟨w6.heap.size, 1, none⟩ = some (.int .u8 (m1 : Int)) := (rowK RA.out KA.out).cell (i := 1) (by omega); have xA10_2 : (w11.alloc (.cells #[.int .i64 g2, .int .u8 (m2 : Int), .slice p11 q2 c11] 35)).cell? ⟨w6.heap.size, 2, none⟩ = some (.slice p6 q1 c6) := (rowK RA.out KA.out).cell (i := 2) (by omega); have xB10_0 : (w11.alloc (.cells #[.int .i64 g2, .int .u8 (m2 : Int), .slice p11 q2 c11] 35)).cell? ⟨w7.heap.size, 0, none⟩ = some (.int .i64 g1) := (rowK RB.out KB.out).cell (i := 0) (by omega); have xB10_1 : (w11.alloc (.cells #[.int .i64 g2, .int .u8 (m2 : Int), .slice p11 q2 c11] 35)).cell? ⟨w7.heap.size, 1, none⟩ = some (.int .u8 (m1 : Int)) := (rowK RB.out KB.out).cell (i := 1) (by omega); have xB10_2 : (w11.alloc (.cells #[.int .i64 g2, .int .u8 (m2 : Int), .slice p11 q2 c11] 35)).cell? ⟨w7.heap.size, 2, none⟩ = some (.slice p7 q1 c7) := (rowK RB.out KB.out).cell (i := 2) (by omega); have tx1 : (convert 22 9 (.slice a4 n4 c4)).run Try.prog (w11.alloc (.cells #[.int .i64 g2, .int .u8 (m2 : Int), .slice p11 q2 c11] 35)) = .ok (.string TF) (w11.alloc (.cells #[.int .i64 g2, .int .u8 (m2 : Int), .slice p11 q2 c11] 35)) := (by have h := run_text CX.out.by_ c4; rw [HTF.out] at h; exact h); have tx2 : (convert 22 9 (.slice a5 nf c5)).run Try.prog (w11.alloc (.cells #[.int .i64 g2, .int .u8 (m2 : Int), .slice p11 q2 c11] 35)) = .ok (.string TF) (w11.alloc (.cells #[.int .i64 g2, .int .u8 (m2 : Int), .slice p11 q2 c11] 35)) := (by have h := run_text CY.out.by_ c5; rw [HTF.out] at h; exact h); have M11 := Hid.mk' True.intro; clear hk hkk M10)
    | (have hgo := M9; clear hgo; go_at_call 13; refine (HS1.out _ _ _ CO.out).mono ?_; rintro e w10 ⟨p10, c10, rfl, hp, hk⟩; have hkk := hk.tr (Kept.alloc w10 #[.int .i64 g2, .int .u8 (m2 : Int), .slice p10 q2 c10] 35 (0, 0) none); have PV := Hid.mk' (hp.kept (Kept.alloc w10 #[.int .i64 g2, .int .u8 (m2 : Int), .slice p10 q2 c10] 35 (0, 0) none)); clear hp; replace PQ := Hid.mk' (PQ.out.kept hkk); replace PU := Hid.mk' (PU.out.kept hkk); replace KWP := Hid.mk' (KWP.out.tr hkk); replace PA := Hid.mk' (PA.out.kept hkk); replace PB := Hid.mk' (PB.out.kept hkk); replace CX := Hid.mk' (CX.out.kpt hkk); replace CY := Hid.mk' (CY.out.kpt hkk); replace CO := Hid.mk' (CO.out.kpt hkk); replace PO := Hid.mk' (PO.out.kept hkk); replace K := Hid.mk' (K.out.tr hkk); replace KD := Hid.mk' (KD.out.tr hkk); replace KO := Hid.mk' (KO.out.tr hkk); replace KX := Hid.mk' (KX.out.tr hkk); replace KY := Hid.mk' (KY.out.tr hkk); replace KA := Hid.mk' (KA.out.tr hkk); replace KB := Hid.mk' (KB.out.tr hkk); have RU := Hid.mk' (row3 w10 (.int .i64 g2) (.int .u8 (m2 : Int)) (.slice p10 q2 c10) 35); have KU : Hid (Kept (w10.alloc (.cells #[.int .i64 g2, .int .u8 (m2 : Int), .slice p10 q2 c10] 35)) (w10.alloc (.cells #[.int .i64 g2, .int .u8 (m2 : Int), .slice p10 q2 c10] 35)) none) := Hid.mk' (Kept.refl _ _); have xD9_0 : (w10.alloc (.cells #[.int .i64 g2, .int .u8 (m2 : Int), .slice p10 q2 c10] 35)).cell? ⟨w.heap.size, 0, none⟩ = some (.slice a dn c) := (rowK RD.out KD.out).cell (i := 0) (by omega); have M10 := Hid.mk' True.intro; clear hk hkk M9)
    | (have hgo := M8; clear hgo; go_at_call 12; refine (HP2.out _ K.out).mono ?_; rintro e w9 ⟨p9, c9, rfl, hp, hk⟩; have hkk := hk; have PQ := Hid.mk' hp; clear hp; replace PU := Hid.mk' (PU.out.kept hkk); replace KWP := Hid.mk' (KWP.out.tr hkk); replace PA := Hid.mk' (PA.out.kept hkk); replace PB := Hid.mk' (PB.out.kept hkk); replace CX := Hid.mk' (CX.out.kpt hkk); replace CY := Hid.mk' (CY.out.kpt hkk); replace CO := Hid.mk' (CO.out.kpt hkk); replace PO := Hid.mk' (PO.out.kept hkk); replace K := Hid.mk' (K.out.tr hkk); replace KD := Hid.mk' (KD.out.tr hkk); replace KO := Hid.mk' (KO.out.tr hkk); replace KX := Hid.mk' (KX.out.tr hkk); replace KY := Hid.mk' (KY.out.tr hkk); replace KA := Hid.mk' (KA.out.tr hkk); replace KB := Hid.mk' (KB.out.tr hkk); have xO8_0 : w9.cell? ⟨w2.heap.size, 0, none⟩ = some (.slice a1 dn c1) := (rowK RO.out KO.out).cell (i := 0) (by omega); have M9 := Hid.mk' True.intro; clear hk hkk M8)
    | (have hgo := M7; clear hgo; go_at_call 11; have KP0 := K; have KPD := KD; have KPO := KO; have COP := CO; have POP := PO; refine (HP1.out _ _ _ _ _ CO.out PO.out).mono ?_; rintro e w8 ⟨p8, c8, rfl, hp, hk⟩; have hkk := hk; have PU := Hid.mk' hp; clear hp; have KWP := Hid.mk' hk; replace PA := Hid.mk' (PA.out.kept hkk); replace PB := Hid.mk' (PB.out.kept hkk); replace CX := Hid.mk' (CX.out.kpt hkk); replace CY := Hid.mk' (CY.out.kpt hkk); replace CO := Hid.mk' (CO.out.kpt hkk); replace PO := Hid.mk' (PO.out.kept hkk); replace K := Hid.mk' (K.out.tr hkk); replace KD := Hid.mk' (KD.out.tr hkk); replace KO := Hid.mk' (KO.out.tr hkk); replace KX := Hid.mk' (KX.out.tr hkk); replace KY := Hid.mk' (KY.out.tr hkk); replace KA := Hid.mk' (KA.out.tr hkk); replace KB := Hid.mk' (KB.out.tr hkk); have xD7_0 : w8.cell? ⟨w.heap.size, 0, none⟩ = some (.slice a dn c) := (rowK RD.out KD.out).cell (i := 0) (by omega); have M8 := Hid.mk' True.intro; clear hk hkk M7)
    | (have hgo := M6; clear hgo; go_at_call 10; refine (HR2.out _ K.out).mono ?_; rintro e w7 ⟨p7, c7, rfl, hp, hk⟩; have hkk := hk.tr (Kept.alloc w7 #[.int .i64 g1, .int .u8 (m1 : Int), .slice p7 q1 c7] 35 (0, 0) none); have PB := Hid.mk' (hp.kept (Kept.alloc w7 #[.int .i64 g1, .int .u8 (m1 : Int), .slice p7 q1 c7] 35 (0, 0) none)); clear hp; replace PA := Hid.mk' (PA.out.kept hkk); replace CX := Hid.mk' (CX.out.kpt hkk); replace CY := Hid.mk' (CY.out.kpt hkk); replace CO := Hid.mk' (CO.out.kpt hkk); replace PO := Hid.mk' (PO.out.kept hkk); replace K := Hid.mk' (K.out.tr hkk); replace KD := Hid.mk' (KD.out.tr hkk); replace KO := Hid.mk' (KO.out.tr hkk); replace KX := Hid.mk' (KX.out.tr hkk); replace KY := Hid.mk' (KY.out.tr hkk); replace KA := Hid.mk' (KA.out.tr hkk); have RB := Hid.mk' (row3 w7 (.int .i64 g1) (.int .u8 (m1 : Int)) (.slice p7 q1 c7) 35); have KB : Hid (Kept (w7.alloc (.cells #[.int .i64 g1, .int .u8 (m1 : Int), .slice p7 q1 c7] 35)) (w7.alloc (.cells #[.int .i64 g1, .int .u8 (m1 : Int), .slice p7 q1 c7] 35)) none) := Hid.mk' (Kept.refl _ _); have xO6_0 : (w7.alloc (.cells #[.int .i64 g1, .int .u8 (m1 : Int), .slice p7 q1 c7] 35)).cell? ⟨w2.heap.size, 0, none⟩ = some (.slice a1 dn c1) := (rowK RO.out KO.out).cell (i := 0) (by omega); have M7 := Hid.mk' True.intro; clear hk hkk M6)
    | (have hgo := M5; clear hgo; go_at_call 9; refine (HR1.out _ _ _ CO.out).mono ?_; rintro e w6 ⟨p6, c6, rfl, hp, hk⟩; have hkk := hk.tr (Kept.alloc w6 #[.int .i64 g1, .int .u8 (m1 : Int), .slice p6 q1 c6] 35 (0, 0) none); have PA := Hid.mk' (hp.kept (Kept.alloc w6 #[.int .i64 g1, .int .u8 (m1 : Int), .slice p6 q1 c6] 35 (0, 0) none)); clear hp; replace CX := Hid.mk' (CX.out.kpt hkk); replace CY := Hid.mk' (CY.out.kpt hkk); replace CO := Hid.mk' (CO.out.kpt hkk); replace PO := Hid.mk' (PO.out.kept hkk); replace K := Hid.mk' (K.out.tr hkk); replace KD := Hid.mk' (KD.out.tr hkk); replace KO := Hid.mk' (KO.out.tr hkk); replace KX := Hid.mk' (KX.out.tr hkk); replace KY := Hid.mk' (KY.out.tr hkk); have RA := Hid.mk' (row3 w6 (.int .i64 g1) (.int .u8 (m1 : Int)) (.slice p6 q1 c6) 35); have KA : Hid (Kept (w6.alloc (.cells #[.int .i64 g1, .int .u8 (m1 : Int), .slice p6 q1 c6] 35)) (w6.alloc (.cells #[.int .i64 g1, .int .u8 (m1 : Int), .slice p6 q1 c6] 35)) none) := Hid.mk' (Kept.refl _ _); have xD5_0 : (w6.alloc (.cells #[.int .i64 g1, .int .u8 (m1 : Int), .slice p6 q1 c6] 35)).cell? ⟨w.heap.size, 0, none⟩ = some (.slice a dn c) := (rowK RD.out KD.out).cell (i := 0) (by omega); have M6 := Hid.mk' True.intro; clear hk hkk M5)
    | (have hgo := M4; clear hgo; go_at_call 8; refine (HF2.out _).mono ?_; rintro e w5 ⟨a5, c5, rfl, hd, hk⟩; have hkk := hk.tr (Kept.alloc w5 #[.slice a5 nf c5] 24 (0, 0) none); have CY := Hid.mk' (hd.kpt (Kept.alloc w5 #[.slice a5 nf c5] 24 (0, 0) none)); clear hd; replace CX := Hid.mk' (CX.out.kpt hkk); replace CO := Hid.mk' (CO.out.kpt hkk); replace PO := Hid.mk' (PO.out.kept hkk); replace K := Hid.mk' (K.out.tr hkk); replace KD := Hid.mk' (KD.out.tr hkk); replace KO := Hid.mk' (KO.out.tr hkk); replace KX := Hid.mk' (KX.out.tr hkk); have RY := Hid.mk' (row1k w5 (.slice a5 nf c5) 24); have KY : Hid (Kept (w5.alloc (.cells #[.slice a5 nf c5] 24)) (w5.alloc (.cells #[.slice a5 nf c5] 24)) none) := Hid.mk' (Kept.refl _ _); have xO4_0 : (w5.alloc (.cells #[.slice a5 nf c5] 24)).cell? ⟨w2.heap.size, 0, none⟩ = some (.slice a1 dn c1) := (rowK RO.out KO.out).cell (i := 0) (by omega); have M5 := Hid.mk' True.intro; clear hk hkk M4)
    | (have hgo := M3; clear hgo; go_at_call 7; refine (HF1.out _).mono ?_; rintro e w4 ⟨⟨a4, n4, c4, rfl, hd⟩, hk⟩; have hkk := hk.tr (Kept.alloc w4 #[.slice a4 n4 c4] 24 (0, 0) none); have hsz4 := hd.size; have CX := Hid.mk' (hd.come.kpt (Kept.alloc w4 #[.slice a4 n4 c4] 24 (0, 0) none)); clear hd; have hs4 := Hid.mk' hsz4; clear hsz4; replace CO := Hid.mk' (CO.out.kpt hkk); replace PO := Hid.mk' (PO.out.kept hkk); replace K := Hid.mk' (K.out.tr hkk); replace KD := Hid.mk' (KD.out.tr hkk); replace KO := Hid.mk' (KO.out.tr hkk); have RX := Hid.mk' (row1k w4 (.slice a4 n4 c4) 24); have KX : Hid (Kept (w4.alloc (.cells #[.slice a4 n4 c4] 24)) (w4.alloc (.cells #[.slice a4 n4 c4] 24)) none) := Hid.mk' (Kept.refl _ _); have M4 := Hid.mk' True.intro; clear hk hkk M3)
    | (have hgo := M2; clear hgo; go_at_call 6; refine (twinPlans_any (HP.out _ K.out) (HFEW.out (by trivial)).1 (HFEW.out (by trivial)).2).mono ?_; rintro e w3 ⟨a2, c2, rfl, htp, hk⟩; have hkk := hk; have PO := Hid.mk' (htp w3 ⟨Nat.le_refl _, fun _ _ _ => rfl⟩); clear htp; replace CO := Hid.mk' (CO.out.kpt hkk); replace K := Hid.mk' (K.out.tr hkk); replace KD := Hid.mk' (KD.out.tr hkk); replace KO := Hid.mk' (KO.out.tr hkk); have M3 := Hid.mk' True.intro; clear hk hkk M2)
    | (have hgo := M1; clear hgo; go_at_call 5; refine (HTW.out _ K.out).mono ?_; rintro e w2 ⟨a1, c1, rfl, ht, hk⟩; have hkk := hk.tr (Kept.alloc w2 #[.slice a1 dn c1] 24 (0, 0) none); have CO := Hid.mk' (ht.come.kpt (Kept.alloc w2 #[.slice a1 dn c1] 24 (0, 0) none)); clear ht; replace K := Hid.mk' (K.out.tr hkk); replace KD := Hid.mk' (KD.out.tr hkk); have RO := Hid.mk' (row1k w2 (.slice a1 dn c1) 24); have KO : Hid (Kept (w2.alloc (.cells #[.slice a1 dn c1] 24)) (w2.alloc (.cells #[.slice a1 dn c1] 24)) none) := Hid.mk' (Kept.refl _ _); have M2 := Hid.mk' True.intro; clear hk hkk M1)
    | (have hgo := M0; clear hgo; go_at_call 4; rw [HWA.out]; refine (HLG.out _ K.out).mono ?_; rintro e w1 ⟨gb, rfl, hfew, hk⟩; have hkk := hk; have HFEW := Hid.mk' hfew; clear hfew; replace K := Hid.mk' (K.out.tr hkk); replace KD := Hid.mk' (KD.out.tr hkk); have xD0_0 : w1.cell? ⟨w.heap.size, 0, none⟩ = some (.slice a dn c) := (rowK RD.out KD.out).cell (i := 0) (by omega); have M1 := Hid.mk' True.intro; clear hk hkk M0; cases gb))
  rotate_left
  · go_ret
    exact ⟨rfl, K.out⟩
  have hPS : ∀ b off, p8 = some ⟨b, off, none⟩ → PwS (w7.alloc (.cells #[.int .i64 g1, .int .u8 (m1 : Int), .slice p7 q1 c7] 35)) w14 b off PL := fun b off e => by
    have h := PU.out
    rw [e] at h
    exact h.pwS KWP.out (Nat.le_refl _)
  have HPS := Hid.mk' hPS
  have hPA : 0 < np → ∃ b off, p8 = some ⟨b, off, none⟩ := fun hp => by
    obtain ⟨b, off, e, _⟩ := PU.out.at_ hp
    exact ⟨b, off, e⟩
  have HPA := Hid.mk' hPA
  have hnpm := PU.out.max
  clear hPS hPA PU PQ PA PB PV PW CX CY CO PO tx1 tx2
  generalize (w7.alloc (.cells #[.int .i64 g1, .int .u8 (m1 : Int), .slice p7 q1 c7] 35)) = WP at *
  obtain ⟨TL, hTL⟩ : ∃ TL, textOf L = TL := ⟨_, rfl⟩
  have HTL := Hid.mk' hTL
  have htl : (TL.toList == TL.toList) = true := by simp
  clear hTL
  go_loopw [29] (fun iv wr => ∃ k : Nat, k ≤ np ∧ iv = .int .i64 k ∧ Kept WP wr none ∧ ∀ b off, p8 = some ⟨b, off, none⟩ → PwS WP wr b off PL) (fun iv _ => np - (intOf iv).toNat)
  case atStart => exact ⟨0, Nat.zero_le _, rfl, KWP.out, HPS.out⟩
  case round =>
    obtain ⟨k, hk, rfl, hkw, hps⟩ := hrel
    have KW := Hid.mk' hkw
    have HSW := Hid.mk' hps
    clear hkw hps
    by_cases hlt : k < np
    · obtain ⟨b, off, e⟩ := HPA.out (by omega)
      subst e
      have hS := HSW.out b off rfl
      have hkl : k < PL.length := by rw [HNP.out]; exact hlt
      obtain ⟨p, hp⟩ : ∃ p, PL[k]? = some p := ⟨_, List.getElem?_eq_getElem hkl⟩
      have HPK := Hid.mk' hp
      obtain ⟨nd, hnd⟩ : ∃ nd, p.data.length = nd := ⟨_, rfl⟩
      have HND := Hid.mk' hnd
      have HSS := Hid.mk' hS
      have hnd9 : nd ≤ 9223372036854775807 := by
        obtain ⟨_, _, _, h1, h2, _⟩ := hS.at_ k p hp
        omega
      clear hS hp hkl hnd
      go_wp2
      go_loopw [30] (fun zv wq => ∃ z : Nat, z ≤ nd ∧ zv = .int .i64 z ∧ PwS WP wq b off PL) (fun zv _ => nd - (intOf zv).toNat)
      case atStart => exact ⟨0, Nat.zero_le _, rfl, HSS.out⟩
      case round =>
        obtain ⟨z, hz, rfl, hq⟩ := hrel
        have HQ := Hid.mk' hq
        obtain ⟨a3, c3, p1, hc1, hc2, hd⟩ := hq.at_ k p HPK.out
        rw [HND.out] at p1 hc1 hd
        clear hq
        by_cases hlz : z < nd
        · obtain ⟨g, o, rfl, r1, r2, r3, r4⟩ := hd (by omega)
          obtain ⟨y, hy⟩ := r4 z hlz
          have fr : wr.frozen? ⟨g, o + z, none⟩ = false := r3 _
          have HR := Hid.mk' (And.intro r1 r2)
          clear r1 r2 r3 r4 hd
          go_wp2
          go_roundw
          case rel => exact ⟨z + 1, by omega, by go_num, HQ.out.set HR.out.1 HR.out.2 (o + z)⟩
          case measure => simp [intOf]; omega
        · obtain rfl : z = nd := by omega
          clear hd
          go_wp2
          exact ⟨⟨k + 1, by omega, by go_num, HQ.out.kept, fun b' off' e => by
            injection e with e
            injection e with e1 e2
            subst e1 e2
            exact HQ.out⟩, by simp [intOf]; omega⟩
    · obtain rfl : k = np := by omega
      have xd : wr.cell? ⟨w.heap.size, 0, none⟩ = some (.slice a dn c) := (rowK RD.out (KPD.out.tr KW.out)).cell (i := 0) (by omega)
      have xo : wr.cell? ⟨w2.heap.size, 0, none⟩ = some (.slice a1 dn c1) := (rowK RO.out (KPO.out.tr KW.out)).cell (i := 0) (by omega)
      have tx3 : (convert 22 9 (.slice a1 dn c1)).run Try.prog wr = .ok (.string TL) wr := by
        have h := run_text (COP.out.kpt KW.out).by_ c1
        rw [HTL.out] at h
        exact h
      have tx4 : (convert 22 9 (.slice a dn c)).run Try.prog wr = .ok (.string TL) wr := by
        have h := run_text (HC.out wr (KP0.out.tr KW.out)).by_ c
        rw [HTL.out] at h
        exact h
      go_wp2_with (go_at_call 17; refine (rsamePlans_yes (POP.out.kept KW.out) (HP.out wr (KP0.out.tr KW.out))).mono ?_; rintro e w15 ⟨rfl, hk15⟩; have K15 := Hid.mk' ((KP0.out.tr KW.out).tr hk15); clear hk15)
      go_ret
      exact ⟨rfl, K15.out⟩

end Go.Proofs.Ytlabjamkaebnjaa
