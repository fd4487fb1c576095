/-
  THE WALK of SiteNames.
-/
import Derived.Test.YtpajefkfnhibnaaDoorNamesM
namespace Go.Proofs.YtpajefkfnhibnaaDoor
open Go.RowKit Go.Lib Go.Deep
set_option linter.unusedVariables false
set_option linter.unusedSimpArgs false

theorem ints_two (w : World) (a b : Int) (t : TypeId) (ha : i64B a) (hb : i64B b) : Ints (w.alloc (.cells #[.int .i64 a, .int .i64 b] t)) (some ⟨w.heap.size, 0, none⟩) 2 2 [a, b] :=
  ints_lit w [a, b] _ t 2 rfl (two_cases rfl rfl) (fun x hx => by
    have : x = a ∨ x = b := by simpa using hx
    rcases this with rfl | rfl
    · exact ha
    · exact hb) (by omega)
theorem plans_nil (w : World) : Plans w none 0 0 [] := ⟨⟨fun _ => (none, 0), ⟨fun hp => absurd hp (by simp)⟩, fun i hi => absurd hi (by simp)⟩, rfl, ⟨fun _ => ⟨rfl, rfl⟩, Nat.le_refl _, by omega⟩, by simp⟩
theorem plans_zero (w : World) (t : TypeId) : Plans (w.alloc (.cells #[.int .i64 0, .int .i64 0, .slice none 0 0] t)) (some ⟨w.heap.size, 0, none⟩) 1 1 [q0] := by
  refine ⟨⟨fun _ => (none, 0), lie_of (by simp) (fun i hi j hj => ?_), fun i hi => ?_⟩, rfl, ⟨fun e => (nomatch e), Nat.le_refl _, by omega⟩, fun p hp => ?_⟩
  · have hi0 : i = 0 := by omega
    subst hi0
    have : j = 0 ∨ j = 1 ∨ j = 2 := by omega
    rcases this with rfl | rfl | rfl <;> simp [World.cell?_alloc_mark, plV, q0]
  · have hi0 : i = 0 := by omega
    subst hi0
    exact ⟨⟨fun hp => absurd hp (by simp [q0])⟩, rfl, ⟨fun _ => ⟨rfl, rfl⟩, Nat.le_refl _, Nat.zero_le _⟩, by simp [q0]⟩
  · have : p = q0 := by simpa using hp
    subst this
    exact ⟨by unfold i64B; decide, by unfold i64B; decide⟩
theorem come_nil (w : World) : Come w none 0 0 [] := ⟨By.nil _ _, fun _ => rfl, Nat.le_refl _, by omega⟩
theorem m_may : siteB (S2v 2) = true := by decide +kernel
theorem m_worst : worstM (S2v 2) = 2 := by decide +kernel
theorem m_lies1 : liesM (S2v 2) 0 1 = 2 := by decide +kernel
theorem m_lies2 : liesM (S2v 2) 1 1 = 0 := by decide +kernel
theorem m_pair : pairE (S2v 2) 0 2 (S2v 2).groups.length = 2 := by decide +kernel
theorem m_p1 : planB (S2v 2) ⟨10, 3, [5, 5]⟩ = true := by decide +kernel
theorem m_p2 : planB (S2v 2) ⟨10, 10, [5, 5]⟩ = false := by decide +kernel
theorem m_p3 : planB (S2v 2) ⟨10, 0, [7, 3]⟩ = false := by decide +kernel
theorem m_w1 : wholeE [] = 0 := by decide +kernel
theorem m_w1l : wholeL [] = [0] := by decide +kernel
theorem m_w2 : wholeE [q0] = 170 := by decide +kernel
theorem m_w2l : wholeL [q0] = [] := by decide +kernel
theorem m_pa : partsB [] = false := by decide +kernel
theorem m_c1 : checkE (S2v 2) = 0 := by decide +kernel
theorem m_c2 : checkE S2a = 50 := by decide +kernel
theorem m_c3 : checkE (S2v 0) = 50 := by decide +kernel
theorem m_c4 : checkE S2c = 50 := by decide +kernel
theorem partsP_nil {w w' : World} {e : Ending} (h : Kept w w' none ∧ ((partsB [] = true ∧ ∃ g, e = .returned (.tuple #[.slice (some ⟨g, 0, none⟩) (plansM ([], false)).1.length (plansM ([], false)).1.length, .int .i64 0]) ∧ Plans w' (some ⟨g, 0, none⟩) (plansM ([], false)).1.length (plansM ([], false)).1.length (plansM ([], false)).1) ∨ (partsB [] = false ∧ e = .returned (.tuple #[.slice none 0 0, .int .i64 8])))) : Kept w w' none ∧ e = .returned (.tuple #[.slice none 0 0, .int .i64 8]) := by
  obtain ⟨hk, ⟨hn, _⟩ | ⟨_, h⟩⟩ := h
  · rw [m_pa] at hn; cases hn
  · exact ⟨hk, h⟩
theorem t_zero : textOf [0] = ⟨#[0]⟩ := rfl
set_option maxRecDepth 100000 in
set_option maxHeartbeats 4000000 in
theorem names_any {w : World} (hT : Tabb w ∧ Table w) : Calls Tryd.prog 3 #[] w fun e w' => e = .returned (.bool true) ∧ Below w.heap.size w w' := by
  have HT := Hid.mk' hT
  clear hT
  go_enter Tryd.func3, Tryd.ntmps3
  go_wp2_with (first
    | (have hgo := T3; clear hgo; go_at_call 9; refine two_ex.mono ?_; rintro e w4 ⟨h4, hl4, rfl, t4, hk4⟩; obtain ⟨⟨B1, B2, B3, B4, kw⟩, f1, f2, f3, f4, f5⟩ := mid T1.out T2.out T3.out t4 hk2 hk3 hk4 (by simpa using hl2) hl3 hl4; have SB1 := Hid.mk' B1; have SB2 := Hid.mk' B2; have SB3 := Hid.mk' B3; have SB4 := Hid.mk' B4; obtain ⟨c0, c1, c2, c3, c4, c5, c6, c7, c8, c9, c10, c11, _⟩ := B1; have KW := Hid.mk' (hk1.tr kw); clear t4 B2 B3 B4 kw hk1 hk2 hk3 hk4 hl2 hl3 hl4 T1 T2 T3)
    | (have hgo := T2; clear hgo; go_at_call 9; refine two_ex.mono ?_; rintro e w3 ⟨h3, hl3, rfl, t3, hk3⟩; have T3 := Hid.mk' t3; clear t3)
    | (have hgo := T1; clear hgo; go_at_call 9; refine two_ex.mono ?_; rintro e w2 ⟨h2, hl2, rfl, t2, hk2⟩; have T2 := Hid.mk' t2; clear t2)
    | (go_at_call 9; refine two_ex.mono ?_; rintro e w1 ⟨h1, hl1, rfl, t1, hk1⟩; have T1 := Hid.mk' t1; clear t1))
  clear f1 f2 f3 f4 f5
  generalize ((((((w4.alloc (.cells #[.int .i64 0, .slice (some ⟨h2 + 1 + 1, 0, none⟩) 2 2, .slice (some ⟨h2 + 1 + 1 + 1, 0, none⟩) 2 2, .slice (some ⟨h2 + 1 + 1 + 1 + 1 + 1 + 1, 0, none⟩) 2 2, .slice (some ⟨h2 + 1 + 1 + 1 + 1 + 1 + 1 + 1, 0, none⟩) 2 2, .slice none 0 0, .int .i64 3, .int .i64 2, .int .i64 4, .int .i64 7, .int .i64 20, .slice none 0 0] 29)).alloc (.cells #[.int .i64 0, .slice (some ⟨h3 + 1 + 1, 0, none⟩) 2 2, .slice (some ⟨h3 + 1 + 1 + 1, 0, none⟩) 2 2, .slice (some ⟨h3 + 1 + 1 + 1 + 1 + 1 + 1, 0, none⟩) 2 2, .slice (some ⟨h3 + 1 + 1 + 1 + 1 + 1 + 1 + 1, 0, none⟩) 2 2, .slice none 0 0, .int .i64 3, .int .i64 2, .int .i64 4, .int .i64 8, .int .i64 20, .slice none 0 0] 29)).alloc (.cells #[.int .i64 0, .slice (some ⟨h4 + 1 + 1, 0, none⟩) 2 2, .slice (some ⟨h4 + 1 + 1 + 1, 0, none⟩) 2 2, .slice (some ⟨h4 + 1 + 1 + 1 + 1 + 1 + 1, 0, none⟩) 2 2, .slice (some ⟨h4 + 1 + 1 + 1 + 1 + 1 + 1 + 1, 0, none⟩) 2 2, .slice none 0 0, .int .i64 3, .int .i64 2, .int .i64 4, .int .i64 8, .int .i64 20, .slice none 0 0] 29)).setCell ⟨h3 + 1 + 1 + 1 + 1, 1, none⟩ (.int .i64 0)).setCell ⟨w4.heap.size + 1 + 1, 4, none⟩ (.slice (some ⟨w4.heap.size + 1 + 1 + 1, 0, none⟩) 1 1)).alloc (.cells #[.int .u32 3, .int .i64 2, .int .i64 5, .int .i64 1, .bool false] 34)) = w0 at *
  have HA := Hid.mk' (HT.out.1.kept KW.out)
  have HB := Hid.mk' (HT.out.2.kept KW.out)
  have K0 : Hid (Kept w0 w0 none) := ⟨rfl, rfl, rfl, Nat.le_refl _, fun _ _ _ => rfl⟩
  go_wp2_with (first
    | (have hgo := K14; clear hgo; go_at_call 17; have hn := alive_any (HA.out.kept K14.out) (HB.out.kept K14.out); refine hn.mono ?_; rintro e w15 ⟨rfl, hk15⟩; have K15 := Hid.mk' (K14.out.tr hk15); have t1 := run_text ((M8.out.kept (KM14.out.tr hk15)).by (by simp)) p8; rw [t_zero] at t1; simp only [List.length_cons, List.length_nil, Nat.zero_add] at t1; clear hk15)
    | (have hgo := K13; clear hgo; go_at_call 16; have hn := check_any (SB4.out.sat.kept K13.out) (HA.out.kept K13.out); rw [m_c4] at hn; refine hn.mono ?_; rintro e w14 ⟨rfl, hk14⟩; have KM14 := Hid.mk' (KM13.out.tr hk14); have K14 := Hid.mk' (K13.out.tr hk14); clear hk14; clear c0 c1 c2 c3 c4 c5 c6 c7 c8 c9 c10 c11)
    | (have hgo := K12; clear hgo; go_at_call 16; have hn := check_any (SB3.out.sat.kept K12.out) (HA.out.kept K12.out); rw [m_c3] at hn; refine hn.mono ?_; rintro e w13 ⟨rfl, hk13⟩; have KM13 := Hid.mk' (KM12.out.tr hk13); have K13 := Hid.mk' (K12.out.tr hk13); clear hk13; clear c0 c1 c2 c3 c4 c5 c6 c7 c8 c9 c10 c11; obtain ⟨c0, c1, c2, c3, c4, c5, c6, c7, c8, c9, c10, c11, _⟩ := SB4.out.kept K13.out)
    | (have hgo := K11; clear hgo; go_at_call 16; have hn := check_any (SB2.out.sat.kept K11.out) (HA.out.kept K11.out); rw [m_c2] at hn; refine hn.mono ?_; rintro e w12 ⟨rfl, hk12⟩; have KM12 := Hid.mk' (KM11.out.tr hk12); have K12 := Hid.mk' (K11.out.tr hk12); clear hk12; clear c0 c1 c2 c3 c4 c5 c6 c7 c8 c9 c10 c11; obtain ⟨c0, c1, c2, c3, c4, c5, c6, c7, c8, c9, c10, c11, _⟩ := SB3.out.kept K12.out)
    | (have hgo := K10; clear hgo; go_at_call 16; have hn := check_any (SB1.out.sat.kept K10.out) (HA.out.kept K10.out); rw [m_c1] at hn; refine hn.mono ?_; rintro e w11 ⟨rfl, hk11⟩; have KM11 := Hid.mk' (KM10.out.tr hk11); have K11 := Hid.mk' (K10.out.tr hk11); clear hk11; clear c0 c1 c2 c3 c4 c5 c6 c7 c8 c9 c10 c11; obtain ⟨c0, c1, c2, c3, c4, c5, c6, c7, c8, c9, c10, c11, _⟩ := SB2.out.kept K11.out)
    | (have hgo := K9; clear hgo; go_at_call 15; have hn := parts_any (come_nil w9); refine hn.mono ?_; rintro e w10 hc; obtain ⟨hk10, rfl⟩ := partsP_nil hc; have KM10 := Hid.mk' (KM9.out.tr hk10); have K10 := Hid.mk' (K9.out.tr hk10); clear hc hk10; obtain ⟨c0, c1, c2, c3, c4, c5, c6, c7, c8, c9, c10, c11, _⟩ := SB1.out.kept K10.out)
    | (have hgo := K8; clear hgo; go_at_call 14; have hn := whole_any (plans_zero w8 43); rw [m_w2, m_w2l] at hn; refine hn.mono ?_; rintro e w9 ⟨a9, p9, rfl, hm9, hk9⟩; have KM9 := Hid.mk' (((Kept.alloc _ #[.int .i64 0, .int .i64 0, .slice none 0 0] 43 (0, 0) none).tr hk9)); have K9 := Hid.mk' ((K8.out.tr (Kept.alloc _ #[.int .i64 0, .int .i64 0, .slice none 0 0] 43 (0, 0) none)).tr hk9); clear hk9 hm9)
    | (have hgo := K7; clear hgo; go_at_call 14; have hn := whole_any (plans_nil w7); rw [m_w1, m_w1l] at hn; refine hn.mono ?_; rintro e w8 ⟨a8, p8, rfl, hm8, hk8⟩; have M8 := Hid.mk' hm8; clear hm8; have K8 := Hid.mk' (K7.out.tr hk8); clear hk8)
    | (have hgo := K6; clear hgo; go_at_call 13; have hn := planq_yes ((SB1.out.sat.kept K6.out).kept (Kept.alloc _ #[.int .i64 7, .int .i64 3] 3 (0, 0) none)) ((HA.out.kept K6.out).kept (Kept.alloc _ #[.int .i64 7, .int .i64 3] 3 (0, 0) none)) m_may ⟨10, 0, [7, 3]⟩ (some ⟨w6.heap.size, 0, none⟩) 2 (ints_two w6 7 3 3 (by unfold i64B; decide) (by unfold i64B; decide)); rw [m_p3] at hn; refine hn.mono ?_; rintro e w7 ⟨rfl, hk7⟩; have K7 := Hid.mk' ((K6.out.tr (Kept.alloc _ #[.int .i64 7, .int .i64 3] 3 (0, 0) none)).tr hk7); clear hk7; clear c0 c1 c2 c3 c4 c5 c6 c7 c8 c9 c10 c11)
    | (have hgo := K5; clear hgo; go_at_call 13; have hn := planq_yes ((SB1.out.sat.kept K5.out).kept (Kept.alloc _ #[.int .i64 5, .int .i64 5] 3 (0, 0) none)) ((HA.out.kept K5.out).kept (Kept.alloc _ #[.int .i64 5, .int .i64 5] 3 (0, 0) none)) m_may ⟨10, 10, [5, 5]⟩ (some ⟨w5.heap.size, 0, none⟩) 2 (ints_two w5 5 5 3 (by unfold i64B; decide) (by unfold i64B; decide)); rw [m_p2] at hn; refine hn.mono ?_; rintro e w6 ⟨rfl, hk6⟩; have K6 := Hid.mk' ((K5.out.tr (Kept.alloc _ #[.int .i64 5, .int .i64 5] 3 (0, 0) none)).tr hk6); clear hk6; clear c0 c1 c2 c3 c4 c5 c6 c7 c8 c9 c10 c11; obtain ⟨c0, c1, c2, c3, c4, c5, c6, c7, c8, c9, c10, c11, _⟩ := SB1.out.kept K6.out)
    | (have hgo := K4; clear hgo; go_at_call 13; have hn := planq_yes ((SB1.out.sat.kept K4.out).kept (Kept.alloc _ #[.int .i64 5, .int .i64 5] 3 (0, 0) none)) ((HA.out.kept K4.out).kept (Kept.alloc _ #[.int .i64 5, .int .i64 5] 3 (0, 0) none)) m_may ⟨10, 3, [5, 5]⟩ (some ⟨w4.heap.size, 0, none⟩) 2 (ints_two w4 5 5 3 (by unfold i64B; decide) (by unfold i64B; decide)); rw [m_p1] at hn; refine hn.mono ?_; rintro e w5 ⟨rfl, hk5⟩; have K5 := Hid.mk' ((K4.out.tr (Kept.alloc _ #[.int .i64 5, .int .i64 5] 3 (0, 0) none)).tr hk5); clear hk5; clear c0 c1 c2 c3 c4 c5 c6 c7 c8 c9 c10 c11; obtain ⟨c0, c1, c2, c3, c4, c5, c6, c7, c8, c9, c10, c11, _⟩ := SB1.out.kept K5.out)
    | (have hgo := K3; clear hgo; go_at_call 12; have hn := apartq_no (SB1.out.sat.kept K3.out) (HA.out.kept K3.out) 0 2 (by rw [m_pair]; decide); rw [m_pair] at hn; refine hn.mono ?_; rintro e w4 ⟨rfl, hk4⟩; have K4 := Hid.mk' (K3.out.tr hk4); clear hk4; clear c0 c1 c2 c3 c4 c5 c6 c7 c8 c9 c10 c11; obtain ⟨c0, c1, c2, c3, c4, c5, c6, c7, c8, c9, c10, c11, _⟩ := SB1.out.kept K4.out)
    | (have hgo := K2; clear hgo; go_at_call 11; have hn := clearq_yes (SB1.out.sat.kept K2.out) (HA.out.kept K2.out) 1 1 m_may (by decide) (by decide); rw [m_lies2] at hn; refine hn.mono ?_; rintro e w3 ⟨rfl, hk3⟩; have K3 := Hid.mk' (K2.out.tr hk3); clear hk3; clear c0 c1 c2 c3 c4 c5 c6 c7 c8 c9 c10 c11; obtain ⟨c0, c1, c2, c3, c4, c5, c6, c7, c8, c9, c10, c11, _⟩ := SB1.out.kept K3.out)
    | (have hgo := K1; clear hgo; go_at_call 11; have hn := clearq_yes (SB1.out.sat.kept K1.out) (HA.out.kept K1.out) 0 1 m_may (by decide) (by decide); rw [m_lies1] at hn; refine hn.mono ?_; rintro e w2 ⟨rfl, hk2⟩; have K2 := Hid.mk' (K1.out.tr hk2); clear hk2; clear c0 c1 c2 c3 c4 c5 c6 c7 c8 c9 c10 c11; obtain ⟨c0, c1, c2, c3, c4, c5, c6, c7, c8, c9, c10, c11, _⟩ := SB1.out.kept K2.out)
    | (have hgo := K0; clear hgo; go_at_call 10; have hn := worst_yes (SB1.out.sat.kept K0.out) (HA.out.kept K0.out) m_may; rw [m_worst] at hn; refine hn.mono ?_; rintro e w1 ⟨rfl, hk1⟩; have K1 := Hid.mk' (K0.out.tr hk1); clear hk1; clear c0 c1 c2 c3 c4 c5 c6 c7 c8 c9 c10 c11; obtain ⟨c0, c1, c2, c3, c4, c5, c6, c7, c8, c9, c10, c11, _⟩ := SB1.out.kept K1.out))
  go_ret
  exact ⟨rfl, (KW.out.tr K15.out).below⟩

end Go.Proofs.YtpajefkfnhibnaaDoor
