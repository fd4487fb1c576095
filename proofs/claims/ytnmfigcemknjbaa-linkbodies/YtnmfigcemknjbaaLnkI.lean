/-
  THE CONTRACT of the document's Report (made by a program).
-/
import Derived.Test.YtnmfigcemknjbaaLnkH
import Derived.Test.YtnmfigcemknjbaaLnkV
namespace Go.Proofs.Ytnmfigcemknjbaa
open Go.RowKit Go.Lib Go.Deep
set_option linter.unusedVariables false
set_option linter.unusedSimpArgs false

set_option maxRecDepth 100000 in
set_option maxHeartbeats 8000000 in
theorem rrep20_any (r : Rp) {w : World} {a : Option Addr} {k : Nat} (h : Rok w r a k) : Calls Try.prog 24 #[rpV r a k] w fun e w' => ∃ a' c', e = .returned (.tuple #[.slice a' (rpL r).length c', .int .i64 (rpE r)]) ∧ Mine w' w.heap.size a' (rpL r).length c' (rpL r) ∧ Kept w w' none := by
  have HC := Hid.mk' h
  have hsm := h.ints.cap.max
  have hsr := h.ints.cap.room
  have hmd := h.mode
  clear h
  by_cases hs : (0 ≤ r.site ∧ r.site ≤ 65535) ∧ r.mode ≤ 3 ∧ (0 ≤ r.tick ∧ r.tick ≤ 1073741824)
  case neg =>
    have hE : rpE r = 2 := if_neg hs
    have HE := Hid.mk' hE
    have HL : Hid (rpL r = []) := Hid.mk' (if_neg (by rw [hE]; decide))
    clear hE
    have hh : r.site < 0 ∨ (¬ r.site < 0 ∧ 65535 < r.site) ∨ (¬ r.site < 0 ∧ ¬ 65535 < r.site ∧ (3 : Int) < (r.mode : Int)) ∨ (¬ r.site < 0 ∧ ¬ 65535 < r.site ∧ ¬ (3 : Int) < (r.mode : Int) ∧ r.tick < 0) ∨ (¬ r.site < 0 ∧ ¬ 65535 < r.site ∧ ¬ (3 : Int) < (r.mode : Int) ∧ ¬ r.tick < 0 ∧ 1073741824 < r.tick) := by omega
    clear hs
    rcases hh with h1 | ⟨h1, h2⟩ | ⟨h1, h2, h3⟩ | ⟨h1, h2, h3, h4⟩ | ⟨h1, h2, h3, h4, h5⟩
    · go_enter Try.func24, Try.ntmps24
      go_wp2
      go_ret2
      exact ⟨none, 0, by rw [HL.out, HE.out]; rfl, by rw [HL.out]; exact mine_nil _ _, Kept.alloc _ _ _ _ _⟩
    · go_enter Try.func24, Try.ntmps24
      go_wp2
      go_ret2
      exact ⟨none, 0, by rw [HL.out, HE.out]; rfl, by rw [HL.out]; exact mine_nil _ _, Kept.alloc _ _ _ _ _⟩
    · go_enter Try.func24, Try.ntmps24
      go_wp2
      go_ret2
      exact ⟨none, 0, by rw [HL.out, HE.out]; rfl, by rw [HL.out]; exact mine_nil _ _, Kept.alloc _ _ _ _ _⟩
    · go_enter Try.func24, Try.ntmps24
      go_wp2
      go_ret2
      exact ⟨none, 0, by rw [HL.out, HE.out]; rfl, by rw [HL.out]; exact mine_nil _ _, Kept.alloc _ _ _ _ _⟩
    · go_enter Try.func24, Try.ntmps24
      go_wp2
      go_ret2
      exact ⟨none, 0, by rw [HL.out, HE.out]; rfl, by rw [HL.out]; exact mine_nil _ _, Kept.alloc _ _ _ _ _⟩
  have h1 : ¬ r.site < 0 := by omega
  have h2 : ¬ 65535 < r.site := by omega
  have h3 : ¬ (3 : Int) < (r.mode : Int) := by omega
  have h4 : ¬ r.tick < 0 := by omega
  have h5 : ¬ 1073741824 < r.tick := by omega
  have HOK := Hid.mk' hs
  by_cases h8 : 8 < r.loads.length
  · have hE : rpE r = 4 := by unfold rpE; rw [if_pos HOK.out, if_pos h8]
    have HE := Hid.mk' hE
    have HL : Hid (rpL r = []) := Hid.mk' (if_neg (by rw [hE]; decide))
    clear hE hs
    go_enter Try.func24, Try.ntmps24
    go_wp2
    go_ret2
    exact ⟨none, 0, by rw [HL.out, HE.out]; rfl, by rw [HL.out]; exact mine_nil _ _, Kept.alloc _ _ _ _ _⟩
  have H8 := Hid.mk' h8
  have h10 : (smlI [r.site, (r.mode : Int), r.tick, (r.loads.length : Int)]).length ≤ 40 := by
    have := smlI_len [r.site, (r.mode : Int), r.tick, (r.loads.length : Int)] (fun y hy => by
      obtain ⟨q1, q2, q3⟩ := HOK.out
      simp only [List.mem_cons, List.not_mem_nil, or_false] at hy
      rcases hy with rfl | rfl | rfl | rfl <;> omega)
    simpa using this
  have HPOS : Hid (∀ x ∈ [r.site, (r.mode : Int), r.tick, (r.loads.length : Int)], 0 ≤ x) := Hid.mk' (fun y hy => by
      obtain ⟨q1, q2, q3⟩ := HOK.out
      simp only [List.mem_cons, List.not_mem_nil, or_false] at hy
      rcases hy with rfl | rfl | rfl | rfl <;> omega)
  have HL0 : Hid (rpE r = 0 → rpL r = smlI [r.site, (r.mode : Int), r.tick, (r.loads.length : Int)] ++ smlI r.loads) := Hid.mk' (fun q => by rw [← smlI_append]; exact if_pos q)
  generalize hM1 : smlI [r.site, (r.mode : Int), r.tick, (r.loads.length : Int)] = M1 at *
  have HM1 := Hid.mk' hM1
  have A0 := Hid.mk' (c4_alloc w (.int .i64 r.site) (.int .u8 (r.mode : Int)) (.int .i64 r.tick) (.slice a r.loads.length k) 45)
  clear hM1 hs
  go_enter Try.func24, Try.ntmps24
  go_wp2_with (go_at_call 45; have HS := Hid.mk' (rsmall20_any (ints4 (w.alloc (.cells (rpC4 r a k) 45)) r.site (r.mode : Int) r.tick (r.loads.length : Int) HC.out.site (by unfold i64B; omega) HC.out.tick (by unfold i64B; omega) 3) HPOS.out (by omega)); rw [HM1.out] at HS; simp only [World.size_alloc] at HS; refine HS.out.mono ?_; rintro e w3 ⟨a3, c3, rfl, hm3, hk3⟩; have hk := (Kept.alloc (w.alloc (.cells (rpC4 r a k) 45)) #[.int .i64 r.site, .int .i64 (r.mode : Int), .int .i64 r.tick, .int .i64 (r.loads.length : Int)] 3 (0, 0) none).tr hk3; have K3 := Hid.mk' ((Kept.alloc w (rpC4 r a k) 45 (0, 0) none).tr hk); have P3 := Hid.mk' (hm3.lower (b2 := w.heap.size + 1) (by omega)); have B3 := Hid.mk' (A0.out.kept hk (by simp)); clear hm3 hk3 hk HS A0)
  go_loopw [4, 5] (fun v i wr => ∃ (j : Nat) (a1 : Option Addr) (c1 : Nat), j ≤ r.loads.length ∧ i = .int .i64 j ∧ v = .slice a1 (M1 ++ smlI (r.loads.take j)).length c1 ∧ Hid (Mine wr (w.heap.size + 1) a1 (M1 ++ smlI (r.loads.take j)).length c1 (M1 ++ smlI (r.loads.take j))) ∧ Hid (∀ x ∈ r.loads.take j, ldP x) ∧ Hid (C4 wr w.heap.size (.int .i64 r.site) (.int .u8 (r.mode : Int)) (.int .i64 r.tick) (.slice a r.loads.length k)) ∧ Hid (Kept w wr none)) (fun _ i _ => r.loads.length - (intOf i).toNat)
  case atStart =>
    have e : M1 ++ smlI (r.loads.take 0) = M1 := by simp [smlI]
    exact ⟨0, a3, c3, Nat.zero_le _, rfl, by rw [e], by rw [e]; exact P3, Hid.mk' (by simp), B3, K3⟩
  case round =>
    clear P3 K3 B3
    obtain ⟨j, a1, d1, hj, rfl, rfl, HP, HLD, HB, HK⟩ := hrel
    obtain ⟨c0, c1, c2, c3'⟩ := HB.out
    by_cases hlt : j < r.loads.length
    case neg =>
      have e : j = r.loads.length := by omega
      subst e
      have hE : rpE r = 0 := rp_is ⟨HOK.out.1, HOK.out.2.1, HOK.out.2.2, by have := H8.out; omega, fun x hx => by have := HLD.out x (by rw [List.take_length]; exact hx); exact this⟩
      have HE := Hid.mk' hE
      have HTK : Hid (rpL r = M1 ++ smlI (r.loads.take r.loads.length)) := Hid.mk' (by rw [List.take_length]; exact HL0.out hE)
      clear hE
      go_wp2
      go_ret2
      exact ⟨a1, d1, by rw [HE.out, HTK.out]; rfl, by rw [HTK.out]; exact HP.out.lower (by omega), HK.out⟩
    obtain ⟨b, off, e1, hb, hc⟩ := (HC.out.kept HK.out).ints.at_ (by omega)
    have p0 := hc j hlt
    have hmem : r.loads.getD j 0 ∈ r.loads := getD_mem hlt
    have HST := Hid.mk' (take_snocI hlt)
    have HMEM := Hid.mk' hmem
    have hll : (M1 ++ smlI (r.loads.take j)).length ≤ 200 := by
      have := smlI_len (r.loads.take j) (fun y hy => by have := HLD.out y hy; unfold ldP at this; omega)
      rw [List.length_take] at this
      rw [List.length_append]
      omega
    have HRG := Hid.mk' ((HC.out.ints.rng _ hmem))
    clear hc hmem
    subst e1
    generalize r.loads.getD j 0 = x at *
    by_cases h0 : x < 0
    · have hE : rpE r = 2 := rp_load HOK.out H8.out HMEM.out (fun q => by have := q.1; omega)
      have HE := Hid.mk' hE
      have HL : Hid (rpL r = []) := Hid.mk' (if_neg (by rw [hE]; decide))
      clear hE
      go_wp2
      go_ret2
      exact ⟨none, 0, by rw [HL.out, HE.out]; rfl, by rw [HL.out]; exact mine_nil _ _, HK.out⟩
    by_cases h1 : 70368744177664 < x
    · have hE : rpE r = 2 := rp_load HOK.out H8.out HMEM.out (fun q => by have := q.2; omega)
      have HE := Hid.mk' hE
      have HL : Hid (rpL r = []) := Hid.mk' (if_neg (by rw [hE]; decide))
      clear hE
      go_wp2
      go_ret2
      exact ⟨none, 0, by rw [HL.out, HE.out]; rfl, by rw [HL.out]; exact mine_nil _ _, HK.out⟩
    obtain ⟨q, rfl⟩ : ∃ q : Nat, x = (q : Int) := ⟨x.toNat, by omega⟩
    have HJ : Hid (M1 ++ smlI (r.loads.take (j + 1)) = (M1 ++ smlI (r.loads.take j)) ++ sml q) := Hid.mk' (by rw [HST.out, smlI_snoc, List.append_assoc]; rfl)
    have HL2 : Hid (∀ y ∈ r.loads.take (j + 1), ldP y) := Hid.mk' (fun y hy => by
      rw [HST.out] at hy
      rcases List.mem_append.1 hy with hy | hy
      · exact HLD.out y hy
      · rw [List.mem_singleton.1 hy]; exact ⟨by omega, by omega⟩)
    have hs10 := sml_len10 q (by omega)
    have hsp := sml_pos q
    have hwr := HK.out.size
    have hlw : w.heap.size < wr.heap.size := block_lt c0
    generalize M1 ++ smlI (r.loads.take j) = Q at *
    clear HST HMEM HRG
    go_wp2_with (first
      | (have hgo := O2; clear hgo; at_builtin; refine wpList_join (by rfl) _ _ (by rfl) (w.heap.size + 1) (.slice a1 Q.length d1) Q.length Q (by rfl) (own_keptR HP.out.own K2.out (fun i _ => by simp)) _ _ _ (sml q) (by rfl) O2.out (fun e => by cases e) (by omega) (by have := K2.out.size; omega) ?_; intro a3 c3 w3 hm3 hg3)
      | (go_at_call 46; refine (rsmall_any q _ (by omega)).mono ?_; rintro e w2 ⟨a2, k2, c2, rfl, ho2, hk2⟩; obtain ⟨x2, rfl, rfl⟩ := ho2.some_of hsp; have O2 := Hid.mk' ho2; have K2 := Hid.mk' hk2; clear ho2 hk2))
    go_roundw
    case rel =>
      refine ⟨j + 1, a3, c3, by omega, by go_num, ?_, ?_, HL2, Hid.mk' ((HB.out.kept K2.out (by simp)).kept hg3 (fun e => by have := HP.out.new _ e.symm; omega)), Hid.mk' ((HK.out.tr K2.out).newRow hg3 (fun i hi => by have := HP.out.new i hi; omega))⟩
      · rw [HJ.out, List.length_append]
      · rw [HJ.out, List.length_append]; exact Hid.mk' hm3
    case measure => simp [intOf]; omega

end Go.Proofs.Ytnmfigcemknjbaa
