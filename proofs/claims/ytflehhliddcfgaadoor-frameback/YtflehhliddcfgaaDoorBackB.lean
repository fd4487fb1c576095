/-
  THE WALK of FrameBack: eight ways of one text (made by mkback.py).
-/
import Derived.Test.YtflehhliddcfgaaDoorBack0
namespace Go.Proofs.YtflehhliddcfgaaDoor
open Go.RowKit Go.Lib Go.Deep
set_option linter.unusedVariables false
set_option linter.unusedSimpArgs false

set_option maxRecDepth 100000 in
set_option maxHeartbeats 1000000 in
theorem back_yny (m : Msg) (a : Option Addr) (cap : Nat) (b : Option Addr) (n bc : Nat) (L : List Nat) (w : World) (hC : Come w a m.2.2.length cap m.2.2) (hm : Mok m) (hB : Come w b n bc L) (ht : Table w) (hn : n ≤ 10000) (hl : m.2.2.length ≤ 10000) (hin : m.2.2.length ≤ 512) (he2 : bareE L = 8) (he3 : opnE L = 0) :
    Calls Tryd.prog 8 #[msgV m a m.2.2.length cap, .slice b n bc] w fun e w' => e = .returned (.bool true) ∧ Below w.heap.size w w' := by
  have HT := Hid.mk' ht
  have HC := Hid.mk' hC
  have HM := Hid.mk' hm
  have HB := Hid.mk' hB
  have HE2 := Hid.mk' he2
  have HE3 := Hid.mk' he3
  have HLn := Hid.mk' hB.by_.size
  have hml : m.2.2.length ≤ 9223372036854775807 := by omega
  have hsl : (stuff L).length ≤ 20000 := by have := (stuff_len L).2; have := hB.by_.size; omega
  have HB0 := Hid.mk' (box_alloc w (.int .u8 (m.1 : Int)) (.int .u32 (m.2.1 : Int)) (.slice a m.2.2.length cap) 30)
  clear hC hm hB ht he2 he3
  go_enter Tryd.func8, Tryd.ntmps8
  go_wp2_with (first
      | (have hgo := hKw; clear hgo; go_at_call 14; refine (stuff_keep (stuff L) (HB.out.by_.kept hKw) (by omega) rfl).mono ?_; rintro e w6 ⟨a6, c6, rfl, hb6, hk6⟩)
      | (have hgo := hC4; clear hgo; go_at_call 28; refine (same_two _ (w3.heap.size + 1) (by simp) m a4 a c4 cap hC4.out hC4'.out).mono ?_; rintro e w5 ⟨rfl, hk5⟩; have hKw : Kept w w5 none := (hK3.tr (Kept.alloc _ _ _ _ _)).tr hk5)
      | (have hgo := hC2; clear hgo; go_at_call 12; refine (open_inside m HM.out hin hC2.out (HT.out.kept hK2)).mono ?_; rintro e w3 ⟨a4, c4, rfl, hm4, hk4⟩; have hK3 : Kept w w3 none := hK2.tr hk4; have hC4 := Hid.mk' (hm4.kept (Kept.alloc w3 #[.int .u8 (m.1 : Int), .int .u32 (m.2.1 : Int), .slice a4 m.2.2.length c4] 30 (0, 0) none)); have hC4' := Hid.mk' ((HC.out.kept hK3).kept (Kept.alloc w3 #[.int .u8 (m.1 : Int), .int .u32 (m.2.1 : Int), .slice a4 m.2.2.length c4] 30 (0, 0) none)); have hY := hX.kept (hk2.tr hk4); have y0 := hY.c0; have y1 := hY.c1; have y2 := hY.c2; have y3 := hY.lt)
      | (have hgo := hk1; clear hgo; go_at_call 16; refine (inside_yes m a m.2.2.length cap _ (HC.out.by_.kept hK1) HC.out.nil HM.out hin (HT.out.kept hK1)).mono ?_; rintro e w2 ⟨a2, c2, rfl, hm2, hk2⟩; have hK2 : Kept w w2 none := hK1.tr hk2; have hC2 := Hid.mk' (hm2.come (inside_lt HM.out)))
      | (go_at_call 15; refine (alive_any _ (HT.out.kept (Kept.alloc _ _ _ _ _))).mono ?_; rintro e w1 ⟨rfl, hk1⟩; have hX := HB0.out.kept hk1; have x0 := hX.c0; have x1 := hX.c1; have x2 := hX.c2; have hK1 : Kept w w1 none := (Kept.alloc _ _ _ _ _).tr hk1))
  have hK6 : Kept w w6 none := hKw.tr hk6
  have HB6 := Hid.mk' hb6
  have HN6 : Hid (∀ j, j < (stuff L).length → (stuff L).getD j 0 ≠ 126) := fun j hj => by
    have e : (stuff L).getD j 0 = (stuff L)[j] := by simp [hj]
    rw [e]; exact stuff_no L _ (List.getElem_mem hj)
  have HG6 : Hid (∀ i, (stuff L).getD i 0 < 256) := hb6.getD
  clear hb6 hk6
  go_loopw [11] (fun i wr => ∃ k : Nat, k ≤ (stuff L).length ∧ i = .int .i64 k ∧ wr = w6) (fun i _ => (stuff L).length - (intOf i).toNat)
  case atStart => exact ⟨0, Nat.zero_le _, rfl, rfl⟩
  case round =>
    obtain ⟨k, hk, rfl, rfl⟩ := hrel
    by_cases hlt : k < (stuff L).length
    · obtain ⟨sb, so, rfl, hb, hc⟩ := HB6.out.at_ (by omega)
      have hcell := hc k hlt
      have hx := HG6.out k
      have hne := HN6.out k hlt
      generalize (stuff L).getD k 0 = x at *
      clear hc
      have d1 : ((x : Int) == 126) = false := by simp; omega
      go_wp2
      go_roundw
      case rel => exact ⟨k + 1, by omega, by go_num, by first | rfl | trivial⟩
      case measure => simp [intOf]; omega
    · have hkq : k = (stuff L).length := by omega
      subst hkq
      go_wp2_with (first
        | (have hgo := hK7; clear hgo; go_at_call 9; refine (bare_keep (HB.out.by_.kept hK7) (by omega) 8 HE2.out).mono ?_; rintro e w8 ⟨a8, c8, rfl, hb8, hk8⟩; have hK8 : Kept w w8 none := hK7.tr hk8)
        | (go_at_call 9; refine (bare_stuff L HB.out.by_.lt HB6.out (by omega)).mono ?_; rintro e w7 ⟨a7, c7, rfl, hb7, hk7⟩; have hK7 : Kept w w7 none := hK6.tr hk7; have t1 := run_text hb7 c7; have t2 := run_text (HB.out.by_.kept hK7) bc; rw [HLn.out] at t1 ⊢))
      clear t1 t2 hb7 hk7 hk8 hK7
      go_quiet (fail)
      have hK9 : Kept w (w8.drewN nq) none := hK8.tr (Kept.drewN _ _ _)
      generalize w8.drewN nq = w9 at *
      all_goals
       go_wp2_with (first
        | (have hgo := hC10; clear hgo; go_at_call 16; refine (inside_again L HB.out.by_.lt HE3.out hC10.out ((HT.out.kept hK9).kept (hk10.tr (Kept.alloc _ _ _ _ _)))).mono ?_; rintro e w11 ⟨a11, c11, rfl, hb11, hk11⟩; have t11 := run_text hb11 c11; have t12 := run_text (HB.out.by_.kept (((hK9.tr hk10).tr (Kept.alloc w10 #[.int .u8 ((opnM L).1 : Int), .int .u32 ((opnM L).2.1 : Int), .slice a10 (opnM L).2.2.length c10] 30 (0, 0) none)).tr hk11)) bc; rw [HLn.out] at t11 ⊢)
        | (go_at_call 12; refine (open_keep (HB.out.kept hK9) (HT.out.kept hK9) 0 HE3.out).mono ?_; rintro e w10 ⟨a10, c10, rfl, hm10, hk10⟩; have hC10 := Hid.mk' (hm10.kept (Kept.alloc w10 #[.int .u8 ((opnM L).1 : Int), .int .u32 ((opnM L).2.1 : Int), .slice a10 (opnM L).2.2.length c10] 30 (0, 0) none))))
       go_ret
       exact ⟨rfl, (((hK9.tr hk10).tr (Kept.alloc _ _ _ _ _)).tr hk11).below⟩

set_option maxRecDepth 100000 in
set_option maxHeartbeats 1000000 in
theorem back_ynn (m : Msg) (a : Option Addr) (cap : Nat) (b : Option Addr) (n bc : Nat) (L : List Nat) (w : World) (hC : Come w a m.2.2.length cap m.2.2) (hm : Mok m) (hB : Come w b n bc L) (ht : Table w) (hn : n ≤ 10000) (hl : m.2.2.length ≤ 10000) (hin : m.2.2.length ≤ 512) (he2 : bareE L = 8) (he3 : opnE L = 8) :
    Calls Tryd.prog 8 #[msgV m a m.2.2.length cap, .slice b n bc] w fun e w' => e = .returned (.bool true) ∧ Below w.heap.size w w' := by
  have HT := Hid.mk' ht
  have HC := Hid.mk' hC
  have HM := Hid.mk' hm
  have HB := Hid.mk' hB
  have HE2 := Hid.mk' he2
  have HE3 := Hid.mk' he3
  have HLn := Hid.mk' hB.by_.size
  have hml : m.2.2.length ≤ 9223372036854775807 := by omega
  have hsl : (stuff L).length ≤ 20000 := by have := (stuff_len L).2; have := hB.by_.size; omega
  have HB0 := Hid.mk' (box_alloc w (.int .u8 (m.1 : Int)) (.int .u32 (m.2.1 : Int)) (.slice a m.2.2.length cap) 30)
  clear hC hm hB ht he2 he3
  go_enter Tryd.func8, Tryd.ntmps8
  go_wp2_with (first
      | (have hgo := hKw; clear hgo; go_at_call 14; refine (stuff_keep (stuff L) (HB.out.by_.kept hKw) (by omega) rfl).mono ?_; rintro e w6 ⟨a6, c6, rfl, hb6, hk6⟩)
      | (have hgo := hC4; clear hgo; go_at_call 28; refine (same_two _ (w3.heap.size + 1) (by simp) m a4 a c4 cap hC4.out hC4'.out).mono ?_; rintro e w5 ⟨rfl, hk5⟩; have hKw : Kept w w5 none := (hK3.tr (Kept.alloc _ _ _ _ _)).tr hk5)
      | (have hgo := hC2; clear hgo; go_at_call 12; refine (open_inside m HM.out hin hC2.out (HT.out.kept hK2)).mono ?_; rintro e w3 ⟨a4, c4, rfl, hm4, hk4⟩; have hK3 : Kept w w3 none := hK2.tr hk4; have hC4 := Hid.mk' (hm4.kept (Kept.alloc w3 #[.int .u8 (m.1 : Int), .int .u32 (m.2.1 : Int), .slice a4 m.2.2.length c4] 30 (0, 0) none)); have hC4' := Hid.mk' ((HC.out.kept hK3).kept (Kept.alloc w3 #[.int .u8 (m.1 : Int), .int .u32 (m.2.1 : Int), .slice a4 m.2.2.length c4] 30 (0, 0) none)); have hY := hX.kept (hk2.tr hk4); have y0 := hY.c0; have y1 := hY.c1; have y2 := hY.c2; have y3 := hY.lt)
      | (have hgo := hk1; clear hgo; go_at_call 16; refine (inside_yes m a m.2.2.length cap _ (HC.out.by_.kept hK1) HC.out.nil HM.out hin (HT.out.kept hK1)).mono ?_; rintro e w2 ⟨a2, c2, rfl, hm2, hk2⟩; have hK2 : Kept w w2 none := hK1.tr hk2; have hC2 := Hid.mk' (hm2.come (inside_lt HM.out)))
      | (go_at_call 15; refine (alive_any _ (HT.out.kept (Kept.alloc _ _ _ _ _))).mono ?_; rintro e w1 ⟨rfl, hk1⟩; have hX := HB0.out.kept hk1; have x0 := hX.c0; have x1 := hX.c1; have x2 := hX.c2; have hK1 : Kept w w1 none := (Kept.alloc _ _ _ _ _).tr hk1))
  have hK6 : Kept w w6 none := hKw.tr hk6
  have HB6 := Hid.mk' hb6
  have HN6 : Hid (∀ j, j < (stuff L).length → (stuff L).getD j 0 ≠ 126) := fun j hj => by
    have e : (stuff L).getD j 0 = (stuff L)[j] := by simp [hj]
    rw [e]; exact stuff_no L _ (List.getElem_mem hj)
  have HG6 : Hid (∀ i, (stuff L).getD i 0 < 256) := hb6.getD
  clear hb6 hk6
  go_loopw [11] (fun i wr => ∃ k : Nat, k ≤ (stuff L).length ∧ i = .int .i64 k ∧ wr = w6) (fun i _ => (stuff L).length - (intOf i).toNat)
  case atStart => exact ⟨0, Nat.zero_le _, rfl, rfl⟩
  case round =>
    obtain ⟨k, hk, rfl, rfl⟩ := hrel
    by_cases hlt : k < (stuff L).length
    · obtain ⟨sb, so, rfl, hb, hc⟩ := HB6.out.at_ (by omega)
      have hcell := hc k hlt
      have hx := HG6.out k
      have hne := HN6.out k hlt
      generalize (stuff L).getD k 0 = x at *
      clear hc
      have d1 : ((x : Int) == 126) = false := by simp; omega
      go_wp2
      go_roundw
      case rel => exact ⟨k + 1, by omega, by go_num, by first | rfl | trivial⟩
      case measure => simp [intOf]; omega
    · have hkq : k = (stuff L).length := by omega
      subst hkq
      go_wp2_with (first
        | (have hgo := hK7; clear hgo; go_at_call 9; refine (bare_keep (HB.out.by_.kept hK7) (by omega) 8 HE2.out).mono ?_; rintro e w8 ⟨a8, c8, rfl, hb8, hk8⟩; have hK8 : Kept w w8 none := hK7.tr hk8)
        | (go_at_call 9; refine (bare_stuff L HB.out.by_.lt HB6.out (by omega)).mono ?_; rintro e w7 ⟨a7, c7, rfl, hb7, hk7⟩; have hK7 : Kept w w7 none := hK6.tr hk7; have t1 := run_text hb7 c7; have t2 := run_text (HB.out.by_.kept hK7) bc; rw [HLn.out] at t1 ⊢))
      clear t1 t2 hb7 hk7 hk8 hK7
      go_quiet (fail)
      have hK9 : Kept w (w8.drewN nq) none := hK8.tr (Kept.drewN _ _ _)
      generalize w8.drewN nq = w9 at *
      all_goals
       go_wp2_with (first
        | (go_at_call 12; refine (open_keep (HB.out.kept hK9) (HT.out.kept hK9) 8 HE3.out).mono ?_; rintro e w10 ⟨a10, c10, rfl, hm10, hk10⟩))
       go_ret
       exact ⟨rfl, ((hK9.tr hk10).tr (Kept.alloc _ _ _ _ _)).below⟩

end Go.Proofs.YtflehhliddcfgaaDoor
