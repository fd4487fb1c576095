/-
  THE WALK of FrameScans.
-/
import Derived.Test.YtflehhliddcfgaaDoorScansL
import Derived.Deep.RegionHeld
namespace Go.Proofs.YtflehhliddcfgaaDoor
open Go.RowKit Go.Lib Go.Deep
set_option linter.unusedVariables false
set_option linter.unusedSimpArgs false

theorem Mine.sepM {w w' : World} {base : Nat} {a : Option Addr} {n cap : Nat} {L : List Nat} {S : Nat → Prop} (h : Mine w base a n cap L) (k : Sep w w' S) (hS : ∀ i, (Value.slice a n cap).ownBlock = some i → ¬ S i) : Mine w' base a n cap L := ⟨own_sep h.own k hS, h.nil, h.room, h.max⟩

set_option maxRecDepth 100000 in
set_option maxHeartbeats 8000000 in
theorem scans_any (a : Option Addr) (len cap : Nat) (B : List Nat) (pa : Option Addr) (pn pc : Nat) (Ls : List (List Nat)) (w : World) (hC : Come w a len cap B) (hP : Ps w pa pn Ls) (hpn : pn ≤ 5864062014805) (hz : ∀ L ∈ Ls, L.length ≤ 140737488351232) (ht : Table w) :
    Calls Tryd.prog 5 #[.slice a len cap, .slice pa pn pc] w fun e w' => e = .returned (.bool true) ∧ Below w.heap.size w w' := by
  have HT := Hid.mk' ht
  have HC := Hid.mk' hC
  have HX := Hid.mk' hC.by_.lt
  have hlm := hC.room
  have hlm2 := hC.max
  have HP := Hid.mk' hP
  have HL := Hid.mk' hP.size
  have HZ := Hid.mk' hz
  have HLT : Hid (∀ k, ∀ y ∈ allK Ls k, y < 256) := by
    intro k y hy
    obtain ⟨L, hL, hy⟩ := allK_mem hy
    obtain ⟨i, hi⟩ := List.mem_iff_getElem?.1 hL
    have hin : i < pn := by rw [← hP.size]; exact (List.getElem?_eq_some_iff.1 hi).1
    obtain ⟨b, off, _, _, hc⟩ := hP.at_ (by omega)
    obtain ⟨_, _, _, q⟩ := hc i L hi
    exact q.by_.lt y hy
  have hNb : ∀ k, sumMin (Ls.take k) ≤ 175921860444150000 := fun k => by have := sumMin_le Ls k; have := sumMin_count Ls; have := hP.size; omega
  have HNB := Hid.mk' hNb
  clear ht hP hz hC hNb
  go_enter Tryd.func5, Tryd.ntmps5
  go_wp2
  go_loopw [5, 6] (fun nv iv wr => ∃ k : Nat, k ≤ pn ∧ iv = .int .i64 k ∧ nv = .int .i64 ((sumMin (Ls.take k) : Nat) : Int) ∧ wr = w) (fun _ iv _ => pn - (intOf iv).toNat)
  case atStart => exact ⟨0, Nat.zero_le _, rfl, by simp [sumMin], rfl⟩
  case round =>
    obtain ⟨k, hk, rfl, rfl, hwr⟩ := hrel
    have hwr := hwr.symm
    subst hwr
    have hN := HNB.out k
    by_cases hlt : k < pn
    · obtain ⟨b, off, rfl, hb, hc⟩ := HP.out.at_ (by omega)
      obtain ⟨P, hPk⟩ : ∃ P, Ls[k]? = some P := ⟨_, List.getElem?_eq_getElem (by rw [HL.out]; exact hlt)⟩
      obtain ⟨qa, qc, q1, q2⟩ := hc k P hPk
      have HSM := Hid.mk' (sumMin_take Ls k P hPk)
      have hpl : P.length ≤ 140737488351232 := HZ.out P (List.mem_of_getElem? hPk)
      clear hc hPk q2
      generalize sumMin (Ls.take k) = N at *
      by_cases h3 : P.length ≤ 30000
      · have hmi : min (P.length : Int) 30000 = (P.length : Int) := by omega
        have HM2 : Hid (min P.length 30000 = P.length) := by show _ = _; omega
        have d1 : (P.length : Int) ≤ 30000 := by omega
        go_wp2
        go_roundw
        case rel => exact ⟨k + 1, by omega, by go_num, by rw [HSM.out, HM2.out]; go_num, by first | rfl | trivial⟩
        case measure => simp [intOf]; omega
      · have HM2 : Hid (min P.length 30000 = 30000) := by show _ = _; omega
        have d1 : ¬ (P.length : Int) ≤ 30000 := by omega
        go_wp2
        go_roundw
        case rel => exact ⟨k + 1, by omega, by go_num, by rw [HSM.out, HM2.out]; go_num, by first | rfl | trivial⟩
        case measure => simp [intOf]; omega
    · have hkn : k = pn := by omega
      have hNe : sumMin (Ls.take k) = sumMin Ls := by rw [List.take_of_length_le (by rw [HL.out]; omega)]
      rw [hNe] at hN ⊢
      have HNE : Hid (∀ j, sumMin (Ls.take j) ≤ sumMin Ls) := fun j => sumMin_le Ls j
      clear hNe
      generalize sumMin Ls = N at *
      have hnk : ¬ (k : Int) < (pn : Int) := by omega
      by_cases o1 : 20000 < len
      · have d1 : (20000 : Int) < (len : Int) := by omega
        go_wp2
        go_ret
        exact ⟨rfl, (Kept.refl w none).below⟩
      have d1 : ¬ (20000 : Int) < (len : Int) := by omega
      by_cases o2 : 60 < pn
      · have d2 : (60 : Int) < (pn : Int) := by omega
        go_wp2
        go_ret
        exact ⟨rfl, (Kept.refl w none).below⟩
      have d2 : ¬ (60 : Int) < (pn : Int) := by omega
      by_cases o3 : 40000 < N
      · have d3 : (40000 : Int) < (N : Int) := by omega
        go_wp2
        go_ret
        exact ⟨rfl, (Kept.refl w none).below⟩
      have d3 : ¬ (40000 : Int) < (N : Int) := by omega
      go_wp2_with (first
        | (have hgo := K4; clear hgo; go_at_call 25; refine (new_any _).mono ?_; rintro e w5 ⟨rfl, hr5, hk5, -⟩)
        | (have hgo := M3; clear hgo; go_at_call 24; refine (rsameall_yes M2.out M3.out).mono ?_; rintro e w4 ⟨rfl, hk4⟩; have K4 := Hid.mk' (K3.out.tr hk4); have ti := run_text ((I3.out.kept hk4).by HX.out) cI; have tb := run_text (HC.out.by_.kept K4.out) cap)
        | (have hgo := M1; clear hgo; go_at_call 23; refine (rscan_all (HC.out.kept K2.out) (by omega)).mono ?_; rintro e w3 ⟨l3, c3, rfl, hm3, hk3⟩; have M3 := Hid.mk' hm3; have M2 := Hid.mk' (M1.out.kept hk3); have K3 := Hid.mk' (K2.out.tr hk3); have I3 := Hid.mk' (I2.out.kept hk3); clear hm3)
        | (have hgo := I1; clear hgo; go_at_call 11; refine (scan_all (I1.out.come HX.out) (by omega) (HT.out.kept K1.out)).mono ?_; rintro e w2 ⟨l2, c2, rfl, hm2, hk2⟩; have M1 := Hid.mk' hm2; have K2 := Hid.mk' (K1.out.tr hk2); have I2 := Hid.mk' (I1.out.kept hk2); clear hm2)
        | (at_builtin; refine wpList_join0 (by rfl) _ _ (by rfl) w.heap.size (by rfl) a len cap B (by rfl) HC.out.by_ HC.out.nil (by omega) (Nat.le_refl _) ?_; intro aI cI w1 hmI hk1; have I1 := Hid.mk' hmI; have K1 := Hid.mk' hk1; clear hmI))
      have hs0 : Pst w w5 w4.heap.size (.slice none 0 0) ((feedR newP (allK Ls 0)).1, []) none 0 0 (allK Ls 0) none 0 0 :=
        ⟨K4.out.tr hk5, hr5, K4.out.size, fun q h => by simp [Value.ownBlock] at h, ⟨World.ownsRow_nil _ _ _ _, fun _ => ⟨rfl, rfl⟩, Nat.le_refl _, by omega⟩, by simp [Value.ownBlock], fun q h => by simp [Value.ownBlock] at h, Ml.nil _ _⟩
      obtain ⟨R, hR⟩ : ∃ R, R = w4.heap.size := ⟨_, rfl⟩
      rw [← hR] at hs0 ⊢
      clear hr5 hk5 hk4 ti tb hk1 hk2 hk3 I1 I2 I3 M1 M2 M3 K1 K2 K3 K4 hR hnk d1 d2 d3
      go_loopw [15, 16, 17] (fun al tv iv wr => ∃ k : Nat, k ≤ pn ∧ iv = .int .i64 k ∧ ∃ aA nA cA v, al = .slice aA nA cA ∧ tv = .int .i64 (((scanM (allK Ls k)).length : Nat) : Int) ∧ Pst w wr R v ((feedR newP (allK Ls k)).1, []) aA nA cA (allK Ls k) none 0 0) (fun _ _ iv _ => pn - (intOf iv).toNat)
      case atStart => exact ⟨0, Nat.zero_le _, rfl, none, 0, 0, _, rfl, rfl, hs0⟩
      case round =>
        obtain ⟨k, hk, rfl, aA, nA, cA, v, rfl, rfl, hst⟩ := hrel
        clear hs0
        have hsz : (allK Ls k).length = nA := by have := hst.al.own.1; rw [List.length_map, Nat.mul_one] at this; exact this
        have hnA : nA ≤ 40000 := by have := allK_len (Ls.take k); have := HNE.out k; unfold allK at hsz; omega
        have HBT : Hid (∀ y ∈ allK Ls k, y < 256) := HLT.out k
        have hcn : (scanM (allK Ls k)).length ≤ 40000 := by have := scan_count (allK Ls k); omega
        by_cases hlt : k < pn
        · obtain ⟨b, off, rfl, hb, hc⟩ := HP.out.at_ (by omega)
          obtain ⟨P, hPk⟩ : ∃ P, Ls[k]? = some P := ⟨_, List.getElem?_eq_getElem (by rw [HL.out]; exact hlt)⟩
          obtain ⟨qa, qc, q1, q2⟩ := hc k P hPk
          have hcell : wr.cell? ⟨b, off + k, none⟩ = some (.slice qa P.length qc) := (cell_kept (x := ⟨b, off + k, none⟩) hst.kept hb).trans q1
          have HCW : Hid (∀ w', Kept w w' none → w'.cell? ⟨b, off + k, none⟩ = some (.slice qa P.length qc)) := fun w' z => (cell_kept (x := ⟨b, off + k, none⟩) z hb).trans q1
          have hpl : P.length ≤ 140737488351232 := HZ.out P (List.mem_of_getElem? hPk)
          have HS := Hid.mk' hst
          have HQ := Hid.mk' q2
          have hki : (k : Int) < (pn : Int) := by omega
          by_cases hlong : 16384 < P.length
          · have HAK := Hid.mk' (allK_long Ls k P hPk hlong)
            have d4 : (16384 : Int) < (P.length : Int) := by omega
            clear hc hPk q1 q2 hst hsz
            go_wp2_with (first
              | (have hgo := S2; clear hgo; go_at_call 13; refine (feed_text S2.out.rd hlong (by omega)).mono ?_; rintro e w' ⟨rfl, rfl⟩)
              | (at_builtin; refine wpList_join0L (by rfl) _ _ (by rfl) wr.heap.size (by rfl) qa P.length qc P (by rfl) (HQ.out.by_.kept HS.out.kept) HQ.out.nil (by omega) (Nat.le_refl _) ?_; intro ao co w2 hmo hko; have S2 := Hid.mk' (HS.out.kept' hko); have hcell2 := HCW.out w2 S2.out.kept; clear hmo))
            go_roundw
            case rel => exact ⟨k + 1, by omega, by go_num, aA, nA, cA, v, rfl, by rw [HAK.out], by rw [HAK.out]; exact S2.out⟩
            case measure => simp [intOf]; omega
          · have HAK := Hid.mk' (allK_short Ls k P hPk (by omega))
            have hsm := scan_more (allK Ls k) P
            have HSMO := Hid.mk' hsm.1
            have HSME := Hid.mk' hsm.2
            have HSZ := Hid.mk' hsz
            have d4 : ¬ (16384 : Int) < (P.length : Int) := by omega
            have HBA : Hid (∀ y ∈ allK Ls k ++ P, y < 256) := by rw [← HAK.out]; exact HLT.out (k + 1)
            have hpb : nA + P.length ≤ 40000 := by have h1 := allK_len (Ls.take (k + 1)); have h2 := HNE.out (k + 1); have h3 := HAK.out; unfold allK at h3; rw [h3] at h1; unfold allK at hsz; rw [List.length_append] at h1; omega
            have HRl := Hid.mk' hst.rd.lt
            have HVl := Hid.mk' hst.rd.vlt
            have HAl : Hid (∀ i, (Value.slice aA nA cA).ownBlock = some i → i < wr.heap.size) := fun i hi => (hst.al.own.lt i hi).2
            have HPL : Hid (∀ x ∈ P, x < 256) := q2.by_.lt
            clear hc hPk q1 q2 hst hsz hsm
            obtain ⟨t, ht⟩ : ∃ t, t = (scanM (allK Ls k)).length := ⟨_, rfl⟩
            rw [← ht] at hcn ⊢
            have HTt := Hid.mk' ht
            clear ht
            go_wp2_with (first
              | (have hgo := S4; clear hgo; go_at_call 26; refine (rall_any (S4.out.al.come HBA.out) (by omega)).mono ?_; rintro e w5 ⟨lw, nw, cw, rfl, hmw, hkw⟩; have MW := Hid.mk' hmw; have S5 := Hid.mk' (S4.out.kept' hkw); have G5 := Hid.mk' (G4.out.kept hkw); have O5 := Hid.mk' (O4.out.kept hkw); clear hmw)
              | (have hgo := S3; clear hgo; at_builtin; refine wpList_joinA (by rfl) _ _ (by rfl) w.heap.size (.slice aA nA cA) nA (allK Ls k) (by rfl) S3.out.al.own qa P.length qc P (by rfl) (HQ.out.by_.kept S3.out.kept) HQ.out.nil (by omega) S3.out.kept.size ?_; intro a1 c1 w4 hm1 hg1 hat1; have S4 := Hid.mk' (S3.out.grow hm1 hg1 hat1); have G4 := Hid.mk' (G3.out.sep (Sep.row hg1 (S := fun q => (Value.slice aA nA cA).ownBlock = some q) (fun i _ e => e)) (fun q hq e => hq.1.2.2.2 e)); have O4 := Hid.mk' (O3.out.sepM (Sep.row hg1 (S := fun q => (Value.slice aA nA cA).ownBlock = some q) (fun i _ e => e)) (fun i hi e => by have := HAl.out i e; have := O3.out.new i hi; omega)); have HAT := Hid.mk' hat1; have hcell4 := HCW.out w4 S4.out.kept; clear hm1 hg1 hat1)
              | (have hgo := S2; clear hgo; go_at_call 13; refine (feed_yes S2.out.rd (pok_feed pok_new HBT.out) (O2.out.by HPL.out) (fun hp x hx e => by have hn := O2.out.new x.block (by subst hx; rfl); rcases e with e | e; (have := HRl.out; omega); (have := HVl.out _ e; omega)) (by omega) (HT.out.kept S2.out.kept) (fun e => by have := HT.out.lt; rcases e with e | e; (have := S2.out.hR; omega); (have := S2.out.hV _ e; omega))).mono ?_; rintro e w3 ⟨l3, n3, c3, v3, rfl, hF⟩; have HMV := Hid.mk' hF.mv; obtain ⟨hS3, hG3⟩ := S2.out.feed hF; have S3 := Hid.mk' hS3; have G3 := Hid.mk' hG3; have O3 := Hid.mk' (O2.out.sepM hF.sp (fun i hi e => by have := O2.out.new i hi; rcases e with e | e; (have := HRl.out; omega); (have := HVl.out _ e; omega))); have hcell3 := HCW.out w3 S3.out.kept; clear hF hS3 hG3)
              | (at_builtin; refine wpList_join0L (by rfl) _ _ (by rfl) wr.heap.size (by rfl) qa P.length qc P (by rfl) (HQ.out.by_.kept HS.out.kept) HQ.out.nil (by omega) (Nat.le_refl _) ?_; intro ao co w2 hmo hko; have S2 := Hid.mk' (HS.out.kept' hko); have O2 := Hid.mk' hmo; have HK2 := Hid.mk' hko; have hcell2 := HCW.out w2 S2.out.kept; clear hmo))
            have hnw := MW.out.size
            have hn3 := G5.out.size
            have hdr : (scanM (allK Ls k ++ P)).drop t = (feedR (feedR newP (allK Ls k)).1 P).2 := by rw [HSMO.out, HTt.out, List.drop_left]
            have hsum : nw = t + n3 := by rw [← hnw, ← hn3, HSMO.out, List.length_append, HTt.out]
            have cc : ∀ w', Kept w5 w' none → w'.cell? ⟨b, off + k, none⟩ = some (.slice qa P.length qc) := fun w' z => HCW.out w' (S5.out.kept.tr z)
            have to_ : ∀ w', Kept w5 w' none → (convert 22 9 (.slice ao P.length co)).run Tryd.prog w' = .ok (.string (textOf P)) w' := fun w' z => run_text ((O5.out.by HPL.out).kept z) co
            have tp : ∀ w', Kept w5 w' none → (convert 22 9 (.slice qa P.length qc)).run Tryd.prog w' = .ok (.string (textOf P)) w' := fun w' z => run_text (HQ.out.by_.kept (S5.out.kept.tr z)) qc
            have OV := Hid.mk' (O5.out.ovr HPL.out (lo := w.heap.size) HS.out.kept.size)
            have OFF : Hid (∀ g, ao = some ⟨g, 0, none⟩ → 0 < P.length → g ≠ R ∧ v3.ownBlock ≠ some g ∧ (Value.slice a1 (nA + P.length) c1).ownBlock ≠ some g ∧ w.heap.size ≤ g) := by
              intro g e hp
              subst e
              have hg := O5.out.new g rfl
              have hg2 : g < w2.heap.size := (O2.out.own.lt g rfl).2
              have hg3 : g < w3.heap.size := (O3.out.own.lt g rfl).2
              have := HRl.out
              have := HS.out.kept.size
              refine ⟨by omega, fun e => ?_, fun e => ?_, by omega⟩
              · rcases HMV.out with h1 | ⟨g', h1, h2⟩
                · rw [h1] at e; have := HVl.out g e; omega
                · rw [h1] at e; injection e with e; omega
              · rcases HAT.out with h1 | h1
                · rw [h1] at e; have := HAl.out g e; omega
                · rw [h1] at e; injection e with e; omega
            have HNW := Hid.mk' hnw
            obtain ⟨xs, hox, _⟩ := MW.out.ex
            have MG := Hid.mk' G5.out.ms
            have hd5 : ¬ ((nw : Int) < (t : Int)) := by omega
            clear hcell hcell2 hcell3 hcell4 hnw S2 S3 S4 G3 G4 O2 O3 O4 HK2 HMV HAT HRl HVl HAl HBA HSZ HTt
            rcases id hox.2 with ⟨e, e2⟩ | ⟨g, cap', cur, e, -⟩
            · injection e with e3 e4 e5
              have ht0 : t = 0 := by omega
              have hn0 : n3 = 0 := by omega
              subst e3 e5 e4 ht0 hn0
              have MD : Hid (Ms w5 none 0 (feedR (feedR newP (allK Ls k)).1 P).2) := by rw [List.length_eq_zero_iff.1 hn3]; exact ms_nil _
              clear hdr hox hsum hn3 e2
              go_region_held (fun w' => Kept w5 w' none)
                ((first | exact Kept.refl _ _ | exact Kept.drew _ _ | assumption | exact Kept.tr (by assumption) (Kept.drew _ _)))
                ((go_at_call 24; refine (rsameall_yes (MG.out.kept (by assumption)) (MD.out.kept (by assumption))).mono ?_; rintro e wS ⟨rfl, hkS⟩; have hKS : Kept w5 wS none := Kept.tr (by assumption) hkS))
              have S6 := Hid.mk' (S5.out.kept' hKS)
              have C6 : Hid (Cpy w wS R v3 (.slice a1 (nA + P.length) c1) ao P.length) := ⟨OV.out.kept hKS, OFF.out⟩
              clear cc to_ tp hKS hkS S5 OV MG MD MW G5 O5
              go_wp2
              go_loopw [23] (fun iv wr => ∃ q : Nat, q ≤ P.length ∧ iv = .int .i64 q ∧ Pst w wr R v3 ((feedR (feedR newP (allK Ls k)).1 P).1, []) a1 (nA + P.length) c1 (allK Ls k ++ P) none 0 0 ∧ Cpy w wr R v3 (.slice a1 (nA + P.length) c1) ao P.length) (fun iv _ => P.length - (intOf iv).toNat)
              case atStart => exact ⟨0, Nat.zero_le _, rfl, S6.out, C6.out⟩
              case round =>
                obtain ⟨q, hq, rfl, hS7, hC7⟩ := hrel
                clear S6 C6
                by_cases hlt7 : q < P.length
                · obtain ⟨g7, rfl, hg7, hc7, hf7⟩ := hC7.ov.at_ (by omega)
                  obtain ⟨x7, hx7, hcx7⟩ := hc7 q hlt7
                  have hfx7 := hf7 q
                  have hqi : (q : Int) < (P.length : Int) := by omega
                  obtain ⟨z1, z2, z3, z4⟩ := hC7.off g7 rfl (by omega)
                  have HZ1 : Hid (Pst w (wr.setCell ⟨g7, q, none⟩ (.int .u8 77)) R v3 ((feedR (feedR newP (allK Ls k)).1 P).1, []) a1 (nA + P.length) c1 (allK Ls k ++ P) none 0 0) := hS7.sep0 (Sep.set wr g7 q (.int .u8 77)) (fun i e => by subst e; exact z4) (fun e => z1 e.symm) (fun i hi e => by subst e; exact z2 hi) (fun i hi e => by subst e; exact z3 hi)
                  have HZ2 := Hid.mk' (hC7.set g7 q (u := .int .u8 77) ⟨77, by omega, rfl⟩)
                  clear hS7 hC7 hc7 hf7 z1 z2 z3 z4
                  go_wp2
                  go_roundw
                  case rel => exact ⟨q + 1, by omega, by go_num, HZ1.out, HZ2.out⟩
                  case measure => simp [intOf]; omega
                · have hqi : ¬ (q : Int) < (P.length : Int) := by omega
                  have HZ1 := Hid.mk' hS7
                  clear hS7 hC7
                  go_wp2
                  go_roundw
                  case rel => exact ⟨k + 1, by omega, by go_num, a1, nA + P.length, c1, v3, rfl, by rw [HAK.out, HNW.out]; simp, by rw [HAK.out, HSME.out]; exact HZ1.out⟩
                  case measure => simp [intOf]; omega
            · injection e with e3 e4 e5
              subst e3 e5
              have hn0 : n3 = nw - t := by omega
              subst hn0
              have hrm := MW.out.room.1
              by_cases hct : cw = t
              · subst hct
                have MD : Hid (Ms w5 (some ⟨g, 0, none⟩) (nw - cw) (feedR (feedR newP (allK Ls k)).1 P).2) := ⟨by rw [hn3], by omega, fun h => absurd h (by omega)⟩
                clear hrm
                have htn : cw ≤ nw := by omega
                clear hdr hox hsum hn3 e4
                go_region_held (fun w' => Kept w5 w' none)
                  ((first | exact Kept.refl _ _ | exact Kept.drew _ _ | assumption | exact Kept.tr (by assumption) (Kept.drew _ _)))
                  ((go_at_call 24; refine (rsameall_yes (MG.out.kept (by assumption)) (MD.out.kept (by assumption))).mono ?_; rintro e wS ⟨rfl, hkS⟩; have hKS : Kept w5 wS none := Kept.tr (by assumption) hkS))
                have S6 := Hid.mk' (S5.out.kept' hKS)
                have C6 : Hid (Cpy w wS R v3 (.slice a1 (nA + P.length) c1) ao P.length) := ⟨OV.out.kept hKS, OFF.out⟩
                clear cc to_ tp hKS hkS S5 OV MG MD MW G5 O5
                go_wp2
                go_loopw [23] (fun iv wr => ∃ q : Nat, q ≤ P.length ∧ iv = .int .i64 q ∧ Pst w wr R v3 ((feedR (feedR newP (allK Ls k)).1 P).1, []) a1 (nA + P.length) c1 (allK Ls k ++ P) none 0 0 ∧ Cpy w wr R v3 (.slice a1 (nA + P.length) c1) ao P.length) (fun iv _ => P.length - (intOf iv).toNat)
                case atStart => exact ⟨0, Nat.zero_le _, rfl, S6.out, C6.out⟩
                case round =>
                  obtain ⟨q, hq, rfl, hS7, hC7⟩ := hrel
                  clear S6 C6
                  by_cases hlt7 : q < P.length
                  · obtain ⟨g7, rfl, hg7, hc7, hf7⟩ := hC7.ov.at_ (by omega)
                    obtain ⟨x7, hx7, hcx7⟩ := hc7 q hlt7
                    have hfx7 := hf7 q
                    have hqi : (q : Int) < (P.length : Int) := by omega
                    obtain ⟨z1, z2, z3, z4⟩ := hC7.off g7 rfl (by omega)
                    have HZ1 : Hid (Pst w (wr.setCell ⟨g7, q, none⟩ (.int .u8 77)) R v3 ((feedR (feedR newP (allK Ls k)).1 P).1, []) a1 (nA + P.length) c1 (allK Ls k ++ P) none 0 0) := hS7.sep0 (Sep.set wr g7 q (.int .u8 77)) (fun i e => by subst e; exact z4) (fun e => z1 e.symm) (fun i hi e => by subst e; exact z2 hi) (fun i hi e => by subst e; exact z3 hi)
                    have HZ2 := Hid.mk' (hC7.set g7 q (u := .int .u8 77) ⟨77, by omega, rfl⟩)
                    clear hS7 hC7 hc7 hf7 z1 z2 z3 z4
                    go_wp2
                    go_roundw
                    case rel => exact ⟨q + 1, by omega, by go_num, HZ1.out, HZ2.out⟩
                    case measure => simp [intOf]; omega
                  · have hqi : ¬ (q : Int) < (P.length : Int) := by omega
                    have HZ1 := Hid.mk' hS7
                    clear hS7 hC7
                    go_wp2
                    go_roundw
                    case rel => exact ⟨k + 1, by omega, by go_num, a1, nA + P.length, c1, v3, rfl, by rw [HAK.out, HNW.out], by rw [HAK.out, HSME.out]; exact HZ1.out⟩
                    case measure => simp [intOf]; omega
              · have MD : Hid (Ms w5 (some ⟨g, t * 3, none⟩) (nw - t) (feedR (feedR newP (allK Ls k)).1 P).2) := by
                  show Ms w5 _ _ _
                  rw [← hdr]
                  have h := MW.out.ms.drop t (by omega)
                  rw [Nat.zero_add] at h
                  exact h
                clear hrm
                have htn : t ≤ nw := by omega
                clear hdr hox hsum hn3 e4
                go_region_held (fun w' => Kept w5 w' none)
                  ((first | exact Kept.refl _ _ | exact Kept.drew _ _ | assumption | exact Kept.tr (by assumption) (Kept.drew _ _)))
                  ((go_at_call 24; refine (rsameall_yes (MG.out.kept (by assumption)) (MD.out.kept (by assumption))).mono ?_; rintro e wS ⟨rfl, hkS⟩; have hKS : Kept w5 wS none := Kept.tr (by assumption) hkS))
                have S6 := Hid.mk' (S5.out.kept' hKS)
                have C6 : Hid (Cpy w wS R v3 (.slice a1 (nA + P.length) c1) ao P.length) := ⟨OV.out.kept hKS, OFF.out⟩
                clear cc to_ tp hKS hkS S5 OV MG MD MW G5 O5
                go_wp2
                go_loopw [23] (fun iv wr => ∃ q : Nat, q ≤ P.length ∧ iv = .int .i64 q ∧ Pst w wr R v3 ((feedR (feedR newP (allK Ls k)).1 P).1, []) a1 (nA + P.length) c1 (allK Ls k ++ P) none 0 0 ∧ Cpy w wr R v3 (.slice a1 (nA + P.length) c1) ao P.length) (fun iv _ => P.length - (intOf iv).toNat)
                case atStart => exact ⟨0, Nat.zero_le _, rfl, S6.out, C6.out⟩
                case round =>
                  obtain ⟨q, hq, rfl, hS7, hC7⟩ := hrel
                  clear S6 C6
                  by_cases hlt7 : q < P.length
                  · obtain ⟨g7, rfl, hg7, hc7, hf7⟩ := hC7.ov.at_ (by omega)
                    obtain ⟨x7, hx7, hcx7⟩ := hc7 q hlt7
                    have hfx7 := hf7 q
                    have hqi : (q : Int) < (P.length : Int) := by omega
                    obtain ⟨z1, z2, z3, z4⟩ := hC7.off g7 rfl (by omega)
                    have HZ1 : Hid (Pst w (wr.setCell ⟨g7, q, none⟩ (.int .u8 77)) R v3 ((feedR (feedR newP (allK Ls k)).1 P).1, []) a1 (nA + P.length) c1 (allK Ls k ++ P) none 0 0) := hS7.sep0 (Sep.set wr g7 q (.int .u8 77)) (fun i e => by subst e; exact z4) (fun e => z1 e.symm) (fun i hi e => by subst e; exact z2 hi) (fun i hi e => by subst e; exact z3 hi)
                    have HZ2 := Hid.mk' (hC7.set g7 q (u := .int .u8 77) ⟨77, by omega, rfl⟩)
                    clear hS7 hC7 hc7 hf7 z1 z2 z3 z4
                    go_wp2
                    go_roundw
                    case rel => exact ⟨q + 1, by omega, by go_num, HZ1.out, HZ2.out⟩
                    case measure => simp [intOf]; omega
                  · have hqi : ¬ (q : Int) < (P.length : Int) := by omega
                    have HZ1 := Hid.mk' hS7
                    clear hS7 hC7
                    go_wp2
                    go_roundw
                    case rel => exact ⟨k + 1, by omega, by go_num, a1, nA + P.length, c1, v3, rfl, by rw [HAK.out, HNW.out], by rw [HAK.out, HSME.out]; exact HZ1.out⟩
                    case measure => simp [intOf]; omega
        · have hkk := hst.kept
          go_wp2
          go_ret
          exact ⟨rfl, hkk.below⟩

end Go.Proofs.YtflehhliddcfgaaDoor
