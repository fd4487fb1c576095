/-
  THE DOCUMENT'S OWN All, Scan and SameAll.
-/
import Derived.Test.YtflehhliddcfgaaDoorRefD
import Derived.Test.YtflehhliddcfgaaDoorAllM
import Derived.Test.YtflehhliddcfgaaDoorFeed2
import Derived.Test.YtflehhliddcfgaaDoorScan
import Derived.Deep.RegionHeld
namespace Go.Proofs.YtflehhliddcfgaaDoor
open Go.RowKit Go.Lib Go.Deep
set_option linter.unusedVariables false
set_option linter.unusedSimpArgs false

set_option maxRecDepth 100000 in
set_option maxHeartbeats 4000000 in
theorem rall_any {a : Option Addr} {len c : Nat} {L : List Nat} {w : World} (hC : Come w a len c L) (hl : len ≤ 100000) :
    Calls Tryd.prog 26 #[.slice a len c] w fun e w' => ∃ la n lc, e = .returned (.tuple #[.slice la n lc, .int .i64 (lastE L)]) ∧ Ml w' (fun q => w.heap.size ≤ q) la n lc (scanM L) ∧ Kept w w' none := by
  have HA := Hid.mk' hC
  have HL := Hid.mk' hC.by_.size
  have HX := Hid.mk' hC.by_.lt
  have HG : Hid (∀ i, L.getD i 0 < 256) := hC.by_.getD
  have hroom := hC.room
  have hmax := hC.max
  obtain ⟨i0, hi0, hz0, hz1, hz2⟩ := info_parts Tryd.infoM
  clear hC
  go_enter Tryd.func26, Tryd.ntmps26
  go_wp2
  go_loopw [4, 5, 6] (fun l lv iv wr => ∃ k : Nat, k ≤ len ∧ iv = .int .i64 k ∧ lv = .int .i64 (lastK L k) ∧ ∃ la n lc, l = .slice la n lc ∧ Ml wr (fun q => w.heap.size ≤ q) la n lc (outK L k) ∧ Kept w wr none) (fun _ _ iv _ => len - (intOf iv).toNat)
  case atStart => exact ⟨0, Nat.zero_le _, rfl, rfl, none, 0, 0, rfl, Ml.nil _ _, Kept.refl _ _⟩
  case round =>
    obtain ⟨k, hk, rfl, rfl, la, n, lc, rfl, hM, hK⟩ := hrel
    by_cases hlt : k < len
    · have hBr := HA.out.by_.kept hK
      obtain ⟨b, off, rfl, hb, hc⟩ := hBr.at_ (by omega)
      have hcell := hc k hlt
      have hx := HG.out k
      have hbd := lastK_le L k
      have hn : n ≤ 100000 := by have := hM.size; have := outK_count L k (by rw [HL.out]; omega); omega
      have HB := Hid.mk' hBr
      have HM := Hid.mk' hM
      have HK := Hid.mk' hK
      clear hc hBr hM hK
      by_cases h1 : L.getD k 0 = 126
      · have hle : lastK L (k + 1) = (k : Int) := lastK_end L k h1
        rw [h1] at hcell
        by_cases hn0 : lastK L k < 0
        · have ho := outK_none L k (by rw [HL.out]; exact hlt) h1 hn0
          have HO := Hid.mk' ho
          have HLE := Hid.mk' hle
          have hm1 : lastK L k = -1 := by omega
          rw [hm1]
          clear ho hle hm1 hn0 hbd h1
          go_wp2
          go_roundw
          case rel => exact ⟨k + 1, by omega, by go_num, by rw [HLE.out], la, n, lc, rfl, by rw [HO.out]; exact HM.out, HK.out⟩
          case measure => simp [intOf]; omega
        · have ho := outK_some L k (by rw [HL.out]; exact hlt) h1 (by omega)
          have hpl := pceK_len L k (by rw [HL.out]; omega) (by omega)
          obtain ⟨j, hj⟩ : ∃ j : Nat, lastK L k = (j : Int) := ⟨(lastK L k).toNat, by omega⟩
          have hpe : pceK L k = (L.take k).drop (j + 1) := by unfold pceK; rw [hj]; simp
          rw [hj] at hpl hbd ⊢
          have hjk : j < k := by omega
          rw [show (j : Int).toNat = j by omega] at hpl
          have HLE := Hid.mk' hle
          have hBp : By wr (some ⟨b, off + (j + 1), none⟩) (k - (j + 1)) (pceK L k) := by rw [hpe]; exact (HB.out.take k (by omega)).drop (j + 1) (by omega)
          have HP := Hid.mk' hBp
          have HPL := Hid.mk' hpl
          clear hBp hle hj hpe hn0 h1 hpl hbd
          by_cases hbig : 1100 ≤ k - j
          · have HO : Hid (outK L (k + 1) = outK L k) := by show _ = _; rw [ho, msgOf_big _ (by rw [HPL.out]; omega), List.append_nil]
            have hnb : ¬ ((k : Int) - (j : Int) < 1100) := by omega
            clear ho
            go_wp2
            go_roundw
            case rel => exact ⟨k + 1, by omega, by go_num, by rw [HLE.out], la, n, lc, rfl, by rw [HO.out]; exact HM.out, HK.out⟩
            case measure => simp [intOf]; omega
          · have hnb : (k : Int) - (j : Int) < 1100 := by omega
            by_cases hbe : bareE (pceK L k) = 0
            · by_cases hoe : opnE (bareL (pceK L k)) = 0
              · have HO : Hid (outK L (k + 1) = outK L k ++ [opnM (bareL (pceK L k))]) := by show _ = _; rw [ho, msgOf_open _ hbe hoe]
                clear ho
                have HPX : Hid (∀ x ∈ bareL (pceK L k), x < 256) := bareL_lt HP.out.lt
                have HOK : Hid (Mok (opnM (bareL (pceK L k)))) := opnM_ok HPX.out
                have HBE := Hid.mk' hbe
                have HOE := Hid.mk' hoe
                clear hbe hoe
                generalize hmm : opnM (bareL (pceK L k)) = m at *
                obtain ⟨mk, mq, mb⟩ := m
                go_wp2_with (first
                  | (have hgo := hM4; clear hgo; at_builtin; refine wpList_append_lies _ (by rfl) _ _ 31 (by rfl) 0 30 i0 _ 3 32 Tryd.uML hi0 hz0 hz1 hz2 rfl (by omega) (.slice la n lc) n xs (by rfl) HOX.out ⟨w3.heap.size + 1, 0, none⟩ 1 1 [.int .u8 (mk : Int), .int .u32 (mq : Int), .slice a3 mb.length c3] (by rfl) (by rfl) HNW.out (by simp [Value.oneCell']) (by omega) (by unfold maxLen; omega) (by omega) (Nat.zero_le _) (w3.heap.size + 2) (by simp) ?_; intro g cap w5 hO5 hg5 hat5 hlt5)
                  | (have hgo := hm2; clear hgo; go_at_call 19; refine (ropen_any (hm2.come HPX.out)).mono ?_; rw [hmm, HOE.out]; rintro e w3 ⟨a3, c3, rfl, hm3, hk3⟩; have hk4 : Kept w2 ((w3.alloc (.cells #[.int .u8 (mk : Int), .int .u32 (mq : Int), .slice a3 mb.length c3] 30)).alloc (.cells #[.int .u8 (mk : Int), .int .u32 (mq : Int), .slice a3 mb.length c3] 30)) none := (hk3.tr (Kept.alloc _ _ _ _ _)).tr (Kept.alloc _ _ _ _ _); have hM4 := HM.out.kept (hk2.tr hk4); have hbd := (((hm3.kept (Kept.alloc w3 #[.int .u8 (mk : Int), .int .u32 (mq : Int), .slice a3 mb.length c3] 30 (0, 0) none)).kept (Kept.alloc _ #[.int .u8 (mk : Int), .int .u32 (mq : Int), .slice a3 mb.length c3] 30 (0, 0) none)).bd HOK.out.body); obtain ⟨xs, hox, hmx⟩ := hM4.ex; have HOX := Hid.mk' hox; have HMX := Hid.mk' hmx; have HNW := Hid.mk' (news3 w3 (.int .u8 (mk : Int)) (.int .u32 (mq : Int)) (.slice a3 mb.length c3)); have HBD := Hid.mk' hbd; have HK4 := Hid.mk' (hk2.tr hk4); have hs2 := hk2.size; clear hox hmx hbd)
                  | (go_at_call 20; refine (rbare_any (len := k - (j + 1)) HP.out (by omega)).mono ?_; rw [HBE.out]; rintro e w2 ⟨a2, c2, rfl, hm2, hk2⟩))
                go_roundw
                case rel =>
                  have hsw := HK.out.size
                  refine ⟨k + 1, by omega, by go_num, by rw [HLE.out], some ⟨g, 0, none⟩, n + 1, cap, rfl, ?_, ?_⟩
                  · rw [HO.out]
                    refine hM4.grow HMX.out (mCells.one (m := (mk, mq, mb)) (HBD.out.mono (fun q _ hq => ⟨by omega, fun e => ?_⟩))) rfl hO5 hg5 (hat5.imp id (fun e => by rw [e]; simp)) ?_
                    · have := HM.out.lt q e; omega
                    · have := (HK.out.tr HK4.out).size; exact this
                  · exact (HK.out.tr HK4.out).newRow hg5 (fun i e => HM.out.at_ i e)
                case measure => simp [intOf]; omega
              · have HO : Hid (outK L (k + 1) = outK L k) := by show _ = _; rw [ho, msgOf_shut _ hbe hoe, List.append_nil]
                have HPX : Hid (∀ x ∈ bareL (pceK L k), x < 256) := bareL_lt HP.out.lt
                have hoe8 : opnE (bareL (pceK L k)) = 8 := by unfold opnE at hoe ⊢; split <;> simp_all
                have HBE := Hid.mk' hbe
                have HOE := Hid.mk' hoe8
                clear ho hbe hoe hoe8
                go_wp2_with (first
                  | (have hgo := hm2; clear hgo; go_at_call 19; refine (ropen_any (hm2.come HPX.out)).mono ?_; rw [HOE.out]; rintro e w3 ⟨a3, c3, rfl, hm3, hk3⟩)
                  | (go_at_call 20; refine (rbare_any (len := k - (j + 1)) HP.out (by omega)).mono ?_; rw [HBE.out]; rintro e w2 ⟨a2, c2, rfl, hm2, hk2⟩))
                go_roundw
                case rel => exact ⟨k + 1, by omega, by go_num, by rw [HLE.out], la, n, lc, rfl, by rw [HO.out]; exact HM.out.kept ((hk2.tr hk3).tr (Kept.alloc _ _ _ _ _)), HK.out.tr ((hk2.tr hk3).tr (Kept.alloc _ _ _ _ _))⟩
                case measure => simp [intOf]; omega
            · have HO : Hid (outK L (k + 1) = outK L k) := by show _ = _; rw [ho, msgOf_bad _ hbe, List.append_nil]
              have hbe8 : bareE (pceK L k) = 8 := by unfold bareE at hbe ⊢; split <;> simp_all
              have HBE := Hid.mk' hbe8
              clear ho hbe hbe8
              go_wp2_with (go_at_call 20; refine (rbare_any (len := k - (j + 1)) HP.out (by omega)).mono ?_; rw [HBE.out]; rintro e w2 ⟨a2, c2, rfl, hm2, hk2⟩)
              go_roundw
              case rel => exact ⟨k + 1, by omega, by go_num, by rw [HLE.out], la, n, lc, rfl, by rw [HO.out]; exact HM.out.kept hk2, HK.out.tr hk2⟩
              case measure => simp [intOf]; omega
      · obtain ⟨ho, hle⟩ := outK_skip L k (by rw [HL.out]; exact hlt) h1
        have HO := Hid.mk' ho
        have HLE := Hid.mk' hle
        clear ho hle
        generalize L.getD k 0 = x at *
        have hxi : ¬ ((x : Int) = 126) := by omega
        go_wp2
        go_roundw
        case rel => exact ⟨k + 1, by omega, by go_num, by rw [HLE.out], la, n, lc, rfl, by rw [HO.out]; exact HM.out, HK.out⟩
        case measure => simp [intOf]; omega
    · have hkq : k = len := by omega
      have he : lastK L k = lastE L := by unfold lastE; rw [HL.out, hkq]
      have ho : outK L k = scanM L := by unfold outK scanM; rw [List.take_of_length_le (by rw [HL.out]; omega)]
      rw [he]
      rw [ho] at hM
      have HM := Hid.mk' hM
      clear he ho hM
      go_wp2
      go_ret2
      exact ⟨la, n, lc, rfl, HM.out, hK⟩

set_option maxRecDepth 100000 in
theorem rscan_yes {a : Option Addr} {len c : Nat} {L : List Nat} {w : World} (hC : Come w a len c L) (hl : len ≤ 16384) :
    Calls Tryd.prog 23 #[.slice a len c] w fun e w' => ∃ la n lc, e = .returned (.tuple #[.slice la n lc, .int .i64 (lastE L), .int .i64 0]) ∧ Ml w' (fun q => w.heap.size ≤ q) la n lc (scanM L) ∧ Kept w w' none := by
  have HC := Hid.mk' hC
  clear hC
  go_enter Tryd.func23, Tryd.ntmps23
  go_wp2_with (go_at_call 26; refine (rall_any HC.out (by omega)).mono ?_; rintro e w1 ⟨la, n, lc, rfl, hm1, hk1⟩)
  go_ret3
  exact ⟨la, n, lc, rfl, hm1, hk1⟩
theorem rscan_no {a : Option Addr} {len c : Nat} {w : World} (hl : 16384 < len) (h2 : len ≤ 9223372036854775807) :
    Calls Tryd.prog 23 #[.slice a len c] w fun e w' => e = .returned (.tuple #[.slice none 0 0, .int .i64 0, .int .i64 3]) ∧ Kept w w' none := by
  go_enter Tryd.func23, Tryd.ntmps23
  go_wp2
  go_ret3
  exact ⟨rfl, Kept.refl _ _⟩
set_option maxRecDepth 100000 in
set_option maxHeartbeats 2000000 in
theorem rsameall_yes {w : World} {la lb : Option Addr} {n c d : Nat} {l : List Msg} (h : Ms w la n l) (k : Ms w lb n l) :
    Calls Tryd.prog 24 #[.slice la n c, .slice lb n d] w fun e w' => e = .returned (.bool true) ∧ Kept w w' none := by
  have HA : Hid (Ms w la n l) := h
  have HB : Hid (Ms w lb n l) := k
  have hmx := h.max
  clear h k
  go_enter Tryd.func24, Tryd.ntmps24
  go_wp2
  go_loopw [5] (fun i wr => ∃ k : Nat, k ≤ n ∧ i = .int .i64 k ∧ Kept w wr none) (fun i _ => n - (intOf i).toNat)
  case atStart => exact ⟨0, Nat.zero_le _, rfl, Kept.refl _ _⟩
  case round =>
    obtain ⟨k, hk, rfl, hkr⟩ := hrel
    by_cases hlt : k < n
    · obtain ⟨b, off, rfl, hb, hc⟩ := (HA.out.kept hkr).at_ (by omega)
      obtain ⟨b', off', rfl, hb', hc'⟩ := (HB.out.kept hkr).at_ (by omega)
      obtain ⟨m, hm⟩ : ∃ m, l[k]? = some m := ⟨_, List.getElem?_eq_getElem (by rw [HA.out.size]; exact hlt)⟩
      obtain ⟨a1, c1, p1, p2, p3, p4⟩ := hc k m hm
      obtain ⟨a2, c2, r1, r2, r3, r4⟩ := hc' k m hm
      have g1 : (0 : Int) ≤ (k : Int) := by omega
      have g2 : (k : Int) < (n : Int) := by omega
      have P1 : ∀ w', Kept wr w' none → w'.cell? ⟨b, off + k * 3, none⟩ = some (.int .u8 (m.1 : Int)) := fun w' q => (cell_kept (x := ⟨b, off + k * 3, none⟩) q hb).trans p1
      have P2 : ∀ w', Kept wr w' none → w'.cell? ⟨b, off + k * 3 + 1, none⟩ = some (.int .u32 (m.2.1 : Int)) := fun w' q => (cell_kept (x := ⟨b, off + k * 3 + 1, none⟩) q hb).trans p2
      have P3 : ∀ w', Kept wr w' none → w'.cell? ⟨b, off + k * 3 + 2, none⟩ = some (.slice a1 m.2.2.length c1) := fun w' q => (cell_kept (x := ⟨b, off + k * 3 + 2, none⟩) q hb).trans p3
      have R1 : ∀ w', Kept wr w' none → w'.cell? ⟨b', off' + k * 3, none⟩ = some (.int .u8 (m.1 : Int)) := fun w' q => (cell_kept (x := ⟨b', off' + k * 3, none⟩) q hb').trans r1
      have R2 : ∀ w', Kept wr w' none → w'.cell? ⟨b', off' + k * 3 + 1, none⟩ = some (.int .u32 (m.2.1 : Int)) := fun w' q => (cell_kept (x := ⟨b', off' + k * 3 + 1, none⟩) q hb').trans r2
      have R3 : ∀ w', Kept wr w' none → w'.cell? ⟨b', off' + k * 3 + 2, none⟩ = some (.slice a2 m.2.2.length c2) := fun w' q => (cell_kept (x := ⟨b', off' + k * 3 + 2, none⟩) q hb').trans r3
      have HP4 := Hid.mk' p4
      have HR4 := Hid.mk' r4
      clear hc hc' hm p1 p2 p3 p4 r1 r2 r3 r4
      go_wp2
      go_region_held (fun w' => Kept wr w' none)
        ((first | exact Kept.refl _ _ | exact Kept.drew _ _ | assumption | exact Kept.tr (by assumption) (Kept.drew _ _)))
        ((go_at_call 21; refine (rsame_yes m a1 a2 c1 c2 (HP4.out.kept (by assumption)) (HR4.out.kept (by assumption))).mono ?_; rintro e wS ⟨rfl, hkS⟩; have hKS : Kept wr wS none := Kept.tr (by assumption) hkS))
      have hKW := hkr.tr hKS
      clear P1 P2 P3 R1 R2 R3
      go_wp2
      go_roundw
      case rel => exact ⟨k + 1, by omega, by go_num, hKW⟩
      case measure => simp [intOf]; omega
    · go_wp2
      go_ret
      exact ⟨rfl, hkr⟩

end Go.Proofs.YtflehhliddcfgaaDoor
