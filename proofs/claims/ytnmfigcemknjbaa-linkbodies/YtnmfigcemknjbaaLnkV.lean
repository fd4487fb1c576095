/-
  THE CONTRACTS of link's checkReport, Report.
-/
import Derived.Test.YtnmfigcemknjbaaLnkY
namespace Go.Proofs.Ytnmfigcemknjbaa
open Go.RowKit Go.Lib Go.Deep
set_option linter.unusedVariables false
set_option linter.unusedSimpArgs false

theorem rp_two {r : Rp} (h : ¬ ((0 ≤ r.site ∧ r.site ≤ 65535) ∧ r.mode ≤ 3 ∧ (0 ≤ r.tick ∧ r.tick ≤ 1073741824))) : rpE r = 2 := if_neg h
theorem rp_four {r : Rp} (h : (0 ≤ r.site ∧ r.site ≤ 65535) ∧ r.mode ≤ 3 ∧ (0 ≤ r.tick ∧ r.tick ≤ 1073741824)) (h8 : 8 < r.loads.length) : rpE r = 4 := by unfold rpE; rw [if_pos h, if_pos h8]
theorem rp_load {r : Rp} (h : (0 ≤ r.site ∧ r.site ≤ 65535) ∧ r.mode ≤ 3 ∧ (0 ≤ r.tick ∧ r.tick ≤ 1073741824)) (h8 : ¬ 8 < r.loads.length) {x : Int} (hx : x ∈ r.loads) (hb : ¬ ldP x) : rpE r = 2 := by
  unfold rpE
  rw [if_pos h, if_neg h8, if_neg]
  intro q
  exact hb (of_decide_eq_true (List.all_eq_true.1 q x hx))
theorem ints1 (w : World) (x : Int) (h1 : i64B x) (t : TypeId) : Ints (w.alloc (.cells #[.int .i64 x] t)) (some ⟨w.heap.size, 0, none⟩) 1 1 [x] :=
  ints_lit w [x] _ t 1 rfl (fun i hi => by
    obtain rfl : i = 0 := by omega
    rfl) (fun y hy => by
    rw [List.mem_singleton.1 hy]
    exact h1) (by omega)
set_option maxRecDepth 100000 in
set_option maxHeartbeats 4000000 in
theorem lcheckR_any (r : Rp) {w : World} {a : Option Addr} {k : Nat} (h : Rok w r a k) : Calls Try.prog 42 #[rpV r a k] w fun e w' => e = .returned (.int .i64 (rpE r)) ∧ Kept w w' none := by
  have HC := Hid.mk' h
  have hsm := h.ints.cap.max
  have hsr := h.ints.cap.room
  have hmd := h.mode
  clear h
  by_cases hs : 0 ≤ r.site ∧ r.site ≤ 65535
  case neg =>
    have HE : Hid (rpE r = 2) := Hid.mk' (rp_two (fun q => hs q.1))
    go_enter Try.func42, Try.ntmps42
    go_wp2_with (go_at_call 33; refine (lwithin_any _ _ _ false _ (decide_eq_false hs)).mono ?_; rintro e w2 ⟨rfl, hk2⟩)
    go_ret
    exact ⟨by rw [HE.out]; rfl, (Kept.alloc _ _ _ _ _).tr hk2⟩
  by_cases hm : 3 < r.mode
  · have HE : Hid (rpE r = 2) := Hid.mk' (rp_two (fun q => by have := q.2.1; omega))
    have hm' : (3 : Int) < (r.mode : Int) := by omega
    go_enter Try.func42, Try.ntmps42
    go_wp2_with (go_at_call 33; refine (lwithin_any _ _ _ true _ (decide_eq_true hs)).mono ?_; rintro e w2 ⟨rfl, hk2⟩; obtain ⟨c0, c1, c2, c3⟩ := (c4_alloc w (.int .i64 r.site) (.int .u8 (r.mode : Int)) (.int .i64 r.tick) (.slice a r.loads.length k) 45).kept hk2 (by simp))
    go_ret
    exact ⟨by rw [HE.out]; rfl, (Kept.alloc _ _ _ _ _).tr hk2⟩
  have hm' : (r.mode : Int) ≤ 3 := by omega
  by_cases ht : 0 ≤ r.tick ∧ r.tick ≤ 1073741824
  case neg =>
    have HE : Hid (rpE r = 2) := Hid.mk' (rp_two (fun q => ht q.2.2))
    go_enter Try.func42, Try.ntmps42
    go_wp2_with (first
      | (have hgo := P2; clear hgo; go_at_call 33; refine (lwithin_any _ _ _ false _ (decide_eq_false ht)).mono ?_; rintro e w3 ⟨rfl, hk3⟩)
      | (go_at_call 33; refine (lwithin_any _ _ _ true _ (decide_eq_true hs)).mono ?_; rintro e w2 ⟨rfl, hk2⟩; have P2 := Hid.mk' trivial; obtain ⟨c0, c1, c2, c3⟩ := (c4_alloc w (.int .i64 r.site) (.int .u8 (r.mode : Int)) (.int .i64 r.tick) (.slice a r.loads.length k) 45).kept hk2 (by simp)))
    go_ret
    exact ⟨by rw [HE.out]; rfl, ((Kept.alloc _ _ _ _ _).tr hk2).tr hk3⟩
  have HOK := Hid.mk' (show (0 ≤ r.site ∧ r.site ≤ 65535) ∧ r.mode ≤ 3 ∧ (0 ≤ r.tick ∧ r.tick ≤ 1073741824) from ⟨hs, by omega, ht⟩)
  by_cases h8 : 8 < r.loads.length
  · have HE : Hid (rpE r = 4) := Hid.mk' (rp_four HOK.out h8)
    go_enter Try.func42, Try.ntmps42
    go_wp2_with (first
      | (have hgo := P2; clear hgo; go_at_call 33; refine (lwithin_any _ _ _ true _ (decide_eq_true ht)).mono ?_; rintro e w3 ⟨rfl, hk3⟩; have B3 := B2.out.kept hk3 (by simp); obtain ⟨c0, c1, c2, c3⟩ := B3)
      | (go_at_call 33; refine (lwithin_any _ _ _ true _ (decide_eq_true hs)).mono ?_; rintro e w2 ⟨rfl, hk2⟩; have P2 := Hid.mk' trivial; have B2 := Hid.mk' ((c4_alloc w (.int .i64 r.site) (.int .u8 (r.mode : Int)) (.int .i64 r.tick) (.slice a r.loads.length k) 45).kept hk2 (by simp)); obtain ⟨c0, c1, c2, c3⟩ := B2.out))
    go_ret
    exact ⟨by rw [HE.out]; rfl, ((Kept.alloc _ _ _ _ _).tr hk2).tr hk3⟩
  have H8 := Hid.mk' h8
  go_enter Try.func42, Try.ntmps42
  go_wp2_with (first
    | (have hgo := P2; clear hgo; go_at_call 33; refine (lwithin_any _ _ _ true _ (decide_eq_true ht)).mono ?_; rintro e w3 ⟨rfl, hk3⟩; have B3 := B2.out.kept hk3 (by simp); obtain ⟨c0, c1, c2, c3⟩ := B3)
    | (go_at_call 33; refine (lwithin_any _ _ _ true _ (decide_eq_true hs)).mono ?_; rintro e w2 ⟨rfl, hk2⟩; have P2 := Hid.mk' trivial; have B2 := Hid.mk' ((c4_alloc w (.int .i64 r.site) (.int .u8 (r.mode : Int)) (.int .i64 r.tick) (.slice a r.loads.length k) 45).kept hk2 (by simp)); obtain ⟨c0, c1, c2, c3⟩ := B2.out))
  have K3 := Hid.mk' (((Kept.alloc w (rpC4 r a k) 45 (0, 0) none).tr hk2).tr hk3)
  clear c0 c1 c2 c3 hk2 hk3 B2 P2
  go_loopw [27] (fun i wr => ∃ j : Nat, j ≤ r.loads.length ∧ i = .int .i64 j ∧ Hid (∀ x ∈ r.loads.take j, ldP x) ∧ Hid (Kept w wr none)) (fun i _ => r.loads.length - (intOf i).toNat)
  case atStart => exact ⟨0, Nat.zero_le _, rfl, Hid.mk' (by simp), K3⟩
  case round =>
    obtain ⟨j, hj, rfl, HL, K3⟩ := hrel
    by_cases hlt : j < r.loads.length
    case neg =>
      have e : j = r.loads.length := by omega
      subst e
      have HE : Hid (rpE r = 0) := Hid.mk' (rp_is ⟨HOK.out.1, HOK.out.2.1, HOK.out.2.2, by have := H8.out; omega, fun x hx => by have := HL.out x (by rw [List.take_length]; exact hx); exact this⟩)
      go_wp2
      go_ret
      exact ⟨by rw [HE.out]; rfl, K3.out⟩
    obtain ⟨b, off, e1, hb, hc⟩ := (HC.out.kept K3.out).ints.at_ (by omega)
    have p0 := hc j hlt
    have hmem : r.loads.getD j 0 ∈ r.loads := getD_mem hlt
    have HST := Hid.mk' (take_snocI hlt)
    have HMEM := Hid.mk' hmem
    clear hc hmem
    subst e1
    generalize r.loads.getD j 0 = x at *
    by_cases h0 : x < 0
    · have HE : Hid (rpE r = 2) := Hid.mk' (rp_load HOK.out H8.out HMEM.out (fun q => by have := q.1; omega))
      go_wp2
      go_ret
      exact ⟨by rw [HE.out]; rfl, K3.out⟩
    by_cases h1 : 70368744177664 < x
    · have HE : Hid (rpE r = 2) := Hid.mk' (rp_load HOK.out H8.out HMEM.out (fun q => by have := q.2; omega))
      go_wp2
      go_ret
      exact ⟨by rw [HE.out]; rfl, K3.out⟩
    have HL2 : Hid (∀ y ∈ r.loads.take (j + 1), ldP y) := Hid.mk' (fun y hy => by
      rw [HST.out] at hy
      rcases List.mem_append.1 hy with hy | hy
      · exact HL.out y hy
      · rw [List.mem_singleton.1 hy]; exact ⟨by omega, by omega⟩)
    go_wp2
    go_roundw
    case rel => exact ⟨j + 1, by omega, by go_num, HL2, K3⟩
    case measure => simp [intOf]; omega
set_option maxRecDepth 100000 in
set_option maxHeartbeats 4000000 in
theorem lrep_any (r : Rp) {w : World} {a : Option Addr} {k : Nat} (h : Rok w r a k) : Calls Try.prog 15 #[rpV r a k] w fun e w' => ∃ a' c', e = .returned (.tuple #[.slice a' (rpL r).length c', .int .i64 (rpE r)]) ∧ Mine w' w.heap.size a' (rpL r).length c' (rpL r) ∧ Kept w w' none := by
  have HC := Hid.mk' h
  have hsm := h.ints.cap.max
  have hsr := h.ints.cap.room
  have hmd := h.mode
  clear h
  by_cases hE : rpE r = 0
  case neg =>
    have HE := Hid.mk' hE
    have HL : Hid (rpL r = []) := Hid.mk' (if_neg hE)
    have hne : ((rpE r) != 0) = true := by simpa using hE
    clear hE
    go_enter Try.func15, Try.ntmps15
    go_wp2_with (go_at_call 42; refine (lcheckR_any r (HC.out.kept (Kept.alloc _ _ _ _ _))).mono ?_; rintro e w2 ⟨rfl, hk2⟩)
    go_ret2
    exact ⟨none, 0, by rw [HL.out]; rfl, by rw [HL.out]; exact mine_nil _ _, (Kept.alloc _ _ _ _ _).tr hk2⟩
  have hL : rpL r = smlI [r.site, (r.mode : Int), r.tick, (r.loads.length : Int)] ++ smlI r.loads := by
    rw [← smlI_append]; exact if_pos hE
  have HL := Hid.mk' hL
  have HOK := Hid.mk' (rp_ok hE)
  have hlen : r.loads.length ≤ 8 := (rp_ok hE).2.2.2.1
  have HE := Hid.mk' hE
  clear hL hE
  have h10 : (smlI [r.site, (r.mode : Int), r.tick, (r.loads.length : Int)]).length ≤ 40 := by
    have := smlI_len [r.site, (r.mode : Int), r.tick, (r.loads.length : Int)] (fun y hy => by
      obtain ⟨q1, q2, q3, q4, _⟩ := HOK.out
      simp only [List.mem_cons, List.not_mem_nil, or_false] at hy
      rcases hy with rfl | rfl | rfl | rfl <;> omega)
    simpa using this
  have HPOS : Hid (∀ x ∈ [r.site, (r.mode : Int), r.tick, (r.loads.length : Int)], 0 ≤ x) := Hid.mk' (fun y hy => by
      obtain ⟨q1, q2, q3, q4, _⟩ := HOK.out
      simp only [List.mem_cons, List.not_mem_nil, or_false] at hy
      rcases hy with rfl | rfl | rfl | rfl <;> omega)
  generalize hM1 : smlI [r.site, (r.mode : Int), r.tick, (r.loads.length : Int)] = M1 at *
  have HM1 := Hid.mk' hM1
  clear hM1
  go_enter Try.func15, Try.ntmps15
  go_wp2_with (first
    | (have hgo := P2; clear hgo; go_at_call 35; refine (wsmall_any w.heap.size (mine_nil (w2.alloc (.cells #[.int .i64 r.site, .int .i64 (r.mode : Int), .int .i64 r.tick, .int .i64 (r.loads.length : Int)] 3)) w.heap.size) (K2.out.tr (Kept.alloc _ _ _ _ _)).size (ints4 w2 r.site (r.mode : Int) r.tick (r.loads.length : Int) HC.out.site (by unfold i64B; omega) HC.out.tick (by unfold i64B; omega) 3) (by intro hp x hx e; cases e) HPOS.out (by omega)).mono ?_; rw [HM1.out, List.nil_append, Nat.zero_add]; rintro e w3 ⟨a3, c3, rfl, hm3, hk3, _⟩; dsimp only; have P3 := Hid.mk' hm3; have K3 := Hid.mk' ((K2.out.tr (Kept.alloc _ _ _ _ _)).tr hk3); have B3 := Hid.mk' ((B2.out.kept (Kept.alloc _ _ _ _ none) (by simp)).kept hk3 (by simp [Value.ownBlock])); obtain ⟨c0, c1, c2, c3'⟩ := B3.out; clear hm3 hk3 P2)
    | (go_at_call 42; refine (lcheckR_any r (HC.out.kept (Kept.alloc _ _ _ _ _))).mono ?_; rw [HE.out]; rintro e w2 ⟨rfl, hk2⟩; dsimp only; have B2 := Hid.mk' ((c4_alloc w (.int .i64 r.site) (.int .u8 (r.mode : Int)) (.int .i64 r.tick) (.slice a r.loads.length k) 45).kept hk2 (by simp)); obtain ⟨c0, c1, c2, c3'⟩ := B2.out; have K2 := Hid.mk' ((Kept.alloc w (rpC4 r a k) 45 (0, 0) none).tr hk2); have P2 := Hid.mk' trivial; clear hk2))
  go_loopw [5, 28] (fun v i wr => ∃ (j : Nat) (a1 : Option Addr) (c1 : Nat), j ≤ r.loads.length ∧ i = .int .i64 j ∧ v = .slice a1 (M1 ++ smlI (r.loads.take j)).length c1 ∧ Hid (Mine wr w.heap.size a1 (M1 ++ smlI (r.loads.take j)).length c1 (M1 ++ smlI (r.loads.take j))) ∧ Hid (Kept w wr none)) (fun _ i _ => r.loads.length - (intOf i).toNat)
  case atStart =>
    have e : M1 ++ smlI (r.loads.take 0) = M1 := by simp [smlI]
    exact ⟨0, a3, c3, Nat.zero_le _, rfl, by rw [e], by rw [e]; exact P3, K3⟩
  case round =>
    obtain ⟨j, a1, d1, hj, rfl, rfl, HP, HK⟩ := hrel
    by_cases hlt : j < r.loads.length
    case neg =>
      have e : j = r.loads.length := by omega
      subst e
      have HTK : Hid (rpL r = M1 ++ smlI (r.loads.take r.loads.length)) := Hid.mk' (by rw [List.take_length]; exact HL.out)
      go_wp2
      go_ret2
      exact ⟨a1, d1, by rw [HE.out, HTK.out]; rfl, by rw [HTK.out]; exact HP.out, HK.out⟩
    obtain ⟨b, off, e1, hb, hc⟩ := (HC.out.kept HK.out).ints.at_ (by omega)
    have p0 := hc j hlt
    have hmem := HOK.out.2.2.2.2 (r.loads.getD j 0) (getD_mem hlt)
    have HST := Hid.mk' (take_snocI hlt)
    have hll : (M1 ++ smlI (r.loads.take j)).length ≤ 200 := by
      have := smlI_len (r.loads.take j) (fun y hy => by have := HOK.out.2.2.2.2 y (List.mem_of_mem_take hy); omega)
      rw [List.length_take] at this
      rw [List.length_append]
      omega
    clear hc
    subst e1
    generalize r.loads.getD j 0 = x at *
    have HXP := Hid.mk' hmem
    have HJ : Hid (M1 ++ smlI (r.loads.take (j + 1)) = (M1 ++ smlI (r.loads.take j)) ++ smlI [x]) := Hid.mk' (by rw [HST.out, smlI_append, List.append_assoc])
    generalize M1 ++ smlI (r.loads.take j) = Q at *
    go_wp2_with (go_at_call 35; refine (wsmall_any w.heap.size (HP.out.keptT (Kept.alloc wr #[.int .i64 x] 3 (0, 0) none) (NoB.none _ _)) (HK.out.tr (Kept.alloc _ _ _ _ none)).size (ints1 wr x (by unfold i64B; have := HXP.out; omega) 3) (by intro hp y hy e; injection hy with hy; subst hy; have := (HP.out.own.lt _ e.symm).2; dsimp only at this; omega) (by intro y hy; rw [List.mem_singleton.1 hy]; exact HXP.out.1) (by omega)).mono ?_; rw [← HJ.out, ← List.length_append, ← HJ.out]; rintro e w4 ⟨a4, c4, rfl, hm4, hk4, _⟩; dsimp only; have P4 := Hid.mk' hm4; have K4 := Hid.mk' (kept_rowL (HK.out.tr (Kept.alloc _ _ _ _ _)) hk4 (by intro g hg; exact (HP.out.own.lt g hg).1)); clear hm4 hk4)
    go_roundw
    case rel => exact ⟨j + 1, a4, c4, by omega, by go_num, rfl, P4, K4⟩
    case measure => simp [intOf]; omega

end Go.Proofs.Ytnmfigcemknjbaa
