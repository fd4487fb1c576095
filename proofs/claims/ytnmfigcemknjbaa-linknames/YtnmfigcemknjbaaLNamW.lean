/-
  THE WALK of LinkNames (made by a program).
-/
import Derived.Test.YtnmfigcemknjbaaLnkD
import Derived.Test.YtnmfigcemknjbaaLnkV
import Derived.Test.YtnmfigcemknjbaaLnkZ
import Derived.Deep.OwnRows
namespace Go.Proofs.Ytnmfigcemknjbaa
open Go.RowKit Go.Lib Go.Deep
set_option linter.unusedVariables false
set_option linter.unusedSimpArgs false
set_option maxRecDepth 100000

abbrev eight : List Nat := [3, 172, 2, 0, 2, 200, 1, 100]
abbrev longL : List Nat := List.replicate 513 0
abbrev manyM : List Msg := List.replicate 1025 m0
theorem nxL_no {s : Lk} {l : List Msg} {E : Nat} (h : nxE s l = E) (hE : E ≠ 0) : nxL s l = lk0 := by
  unfold nxL
  exact if_neg (by rw [h]; exact hE)
theorem nx_long : nxE lk0 [(0, 0, longL)] = 3 := by decide +kernel
theorem nx_many : nxE lk0 manyM = 4 := by
  unfold nxE
  rw [if_neg (by decide), if_pos (by rw [List.length_replicate]; omega)]
theorem nx_bad : nxE ⟨false, 1, 0⟩ [] = 8 := by decide
theorem come_nilN (w : World) : Come w none 0 0 [] := ⟨By.nil _ _, fun _ => rfl, Nat.le_refl _, by omega⟩
theorem ints_nilN (w : World) : Ints w none 0 0 [] := ⟨⟨fun h => absurd h (by omega)⟩, rfl, ⟨fun _ => ⟨rfl, rfl⟩, Nat.le_refl _, by omega⟩, fun x hx => by cases hx⟩
theorem cok0 (w : World) : Cok w cm0 none 0 := ⟨ints_nilN w, by unfold i64B; decide, by unfold i64B; decide, by unfold i64B; decide⟩
theorem rok4 (w : World) : Rok w ⟨0, 4, 0, []⟩ none 0 := ⟨ints_nilN w, by decide, by unfold i64B; decide, by unfold i64B; decide⟩
theorem cok2 (w : World) : Cok (w.alloc (.cells #[.int .i64 200, .int .i64 100] 3)) ⟨3, ⟨300, 0, [200, 100]⟩⟩ (some ⟨w.heap.size, 0, none⟩) 2 :=
  ⟨ints_lit w [200, 100] _ 3 2 rfl (fun i hi => by
    have : i = 0 ∨ i = 1 := by omega
    rcases this with rfl | rfl <;> rfl) (fun x hx => by
    simp only [List.mem_cons, List.not_mem_nil, or_false] at hx
    rcases hx with rfl | rfl <;> omega) (by omega), by unfold i64B; decide, by unfold i64B; decide, by unfold i64B; decide⟩
theorem us7 (w : World) : Us (w.alloc (.cells #[.int .u32 7] 22)) (some ⟨w.heap.size, 0, none⟩) 1 [7] :=
  us_alloc w [7] #[.int .u32 7] 22 (fun i hi => by
    have : i = 0 := by simp at hi; omega
    subst this; rfl)
/-- What make lays, kept shut: 1,025 messages, 513 bytes. -/
structure ZZ (Z : Array Value) : Prop where
  at_ : ∀ i, i < 1025 → Z[i * 3]? = some (.int .u8 0) ∧ Z[i * 3 + 1]? = some (.int .u32 0) ∧ Z[i * 3 + 2]? = some (.slice none 0 0)
structure YY (Y : Array Value) : Prop where
  at_ : ∀ i, i < 513 → Y[i]? = some (.int .u8 0)
theorem ms_many (w : World) (Z : Array Value) (h : ZZ Z) : Ms (w.alloc (.cells Z 47)) (some ⟨w.heap.size, 0, none⟩) 1025 manyM := by
  refine ⟨List.length_replicate .., by omega, fun _ => ⟨w.heap.size, 0, rfl, by simp, fun i m hm => ?_⟩⟩
  obtain ⟨hi, he⟩ := List.getElem?_eq_some_iff.1 hm
  rw [List.getElem_replicate] at he
  subst he
  rw [List.length_replicate] at hi
  obtain ⟨z0, z1, z2⟩ := h.at_ i hi
  refine ⟨none, 0, ?_, ?_, ?_, come_nilN _⟩
  · rw [Nat.zero_add, World.cell?_alloc_mark]; exact z0
  · rw [Nat.zero_add, World.cell?_alloc_mark]; exact z1
  · rw [Nat.zero_add, World.cell?_alloc_mark]; exact z2
theorem come_long (w : World) (Y : Array Value) (h : YY Y) : Come (w.alloc (.cells Y 5)) (some ⟨w.heap.size, 0, none⟩) 513 513 longL := by
  have hb : By (w.alloc (.cells Y 5)) (some ⟨w.heap.size, 0, none⟩) longL.length longL := By.alloc w longL 5 (0, 0) Y (fun i hi => by
    rw [List.length_replicate] at hi
    rw [h.at_ i hi]
    rw [show longL.getD i 0 = 0 from by rw [List.getD_eq_getElem?_getD, List.getElem?_replicate, if_pos hi]; rfl]; rfl) (by rw [List.length_replicate]; omega) (fun x hx => by rw [(List.mem_replicate.1 hx).2]; omega)
  have hl : longL.length = 513 := List.length_replicate ..
  rw [hl] at hb
  exact ⟨hb, (fun e => nomatch e), Nat.le_refl _, by omega⟩
theorem ms_long (w : World) (Y : Array Value) (h : YY Y) : Ms ((w.alloc (.cells Y 5)).alloc (.cells #[.int .u8 0, .int .u32 0, .slice (some ⟨w.heap.size, 0, none⟩) 513 513] 47)) (some ⟨(w.alloc (.cells Y 5)).heap.size, 0, none⟩) 1 [(0, 0, longL)] := by
  refine ⟨rfl, by omega, fun _ => ⟨_, 0, rfl, by simp, fun i m' hm => ?_⟩⟩
  have hi : i = 0 := by
    cases i with
    | zero => rfl
    | succ i => simp at hm
  subst hi
  have : ((0, 0, longL) : Msg) = m' := by simpa using hm
  subst this
  exact ⟨_, 513, World.cell?_alloc_mark .., World.cell?_alloc_mark .., World.cell?_alloc_mark .., (come_long w Y h).keptL (Kept.alloc _ _ _ _ _)⟩
theorem text_eight : textOf eight = ⟨#[3, 172, 2, 0, 2, 200, 1, 100]⟩ := by decide +kernel
theorem Try.infoMsg : (Try.prog.info? 47).map (fun i => (i.zero, i.size, i.bytes)) = some (some (.agg #[.int .u8 0, .int .u32 0, .slice none 0 0]), 3, 32) := by kernel_rfl
theorem mk_many (w : World) : (Instr.makeSlice 25 (.int .i64 1025) (.int .i64 1025)).run Try.prog w = .ok (.slice (some ⟨w.heap.size, 0, none⟩) 1025 1025) (w.alloc (.cells (madeCells #[.int .u8 0, .int .u32 0, .slice none 0 0] (1025 * 3)) 47)) := by
  obtain ⟨i, hi, hzz⟩ := Option.map_eq_some_iff.1 Try.infoMsg
  simp only [Prod.mk.injEq] at hzz
  obtain ⟨hz, hs, hb⟩ := hzz
  have hr := run_make (P := Try.prog) w 25 47 i _ Try.underlying25 hi hz .i64 .i64 1025 1025 (by omega) (Int.le_refl _) (by rw [hb]; omega) (by omega)
  simp only [hs, Value.cells] at hr
  exact hr
theorem mk_long (w : World) : (Instr.makeSlice 34 (.int .i64 513) (.int .i64 513)).run Try.prog w = .ok (.slice (some ⟨w.heap.size, 0, none⟩) 513 513) (w.alloc (.cells (madeCells #[.int .u8 0] 513) 5)) :=
  run_make_row' (P := Try.prog) 34 5 (.int .u8 0) 1 Try.uB Try.info5 rfl .i64 .i64 513 (by omega) (by omega) w
theorem zz_made : ZZ (madeCells #[.int .u8 0, .int .u32 0, .slice none 0 0] (1025 * 3)) := by
  refine ⟨fun i hi => ?_⟩
  have e0 : i * 3 % 3 = 0 := by omega
  have e1 : (i * 3 + 1) % 3 = 1 := by omega
  have e2 : (i * 3 + 2) % 3 = 2 := by omega
  have l0 : i * 3 < 1025 * 3 := by omega
  have l1 : i * 3 + 1 < 1025 * 3 := by omega
  have l2 : i * 3 + 2 < 1025 * 3 := by omega
  refine ⟨?_, ?_, ?_⟩
  · simp [madeCells, e0, l0]
  · simp [madeCells, e1, l1]
  · simp [madeCells, e2, l2]
theorem yy_made : YY (madeCells #[.int .u8 0] 513) := ⟨fun i hi => by simp [madeCells, hi, Nat.mod_one]⟩
set_option maxRecDepth 100000 in
set_option maxHeartbeats 16000000 in
theorem lnames_main {Z Y : Array Value} (hz : ZZ Z) (hy : YY Y) (hmkZ : ∀ w, (Instr.makeSlice 25 (.int .i64 1025) (.int .i64 1025)).run Try.prog w = .ok (.slice (some ⟨w.heap.size, 0, none⟩) 1025 1025) (w.alloc (.cells Z 47))) (hmkY : ∀ w, (Instr.makeSlice 34 (.int .i64 513) (.int .i64 513)).run Try.prog w = .ok (.slice (some ⟨w.heap.size, 0, none⟩) 513 513) (w.alloc (.cells Y 5))) (w : World) : Calls Try.prog 3 #[] w fun e w' => e = .returned (.bool true) ∧ Kept w w' none := by
  have HZ0 := Hid.mk' hz
  have HY0 := Hid.mk' hy

  clear hz hy
  go_enter Try.func3, Try.ntmps3
  go_wp2_with (first
    | (have hgo := N14; clear hgo; go_at_call 16; refine (alive_any _).mono ?_; rintro e w14 ⟨rfl, hk14⟩; have hk := (Kept.alloc w13 #[.bool false, .int .u32 0, .int .i64 0] 24 (0, 0) none).tr hk14; have HK := Hid.mk' (HK.out.tr hk); have HY := Hid.mk' (HY.out.kept hk); have t1 := run_text HY.out kb; rw [text_eight] at t1; clear hk N14)
    | (have hgo := N13; clear hgo; go_at_call 9; have hE : nxE lk0 [(0, 0, longL)] = 3 := nx_long; have hL : nxL lk0 [(0, 0, longL)] = lk0 := nxL_no hE (by decide); have hms := ms_long (w12.alloc (.cells #[.bool false, .int .u32 0, .int .i64 0] 24)) Y HY0.out; simp only [World.size_alloc] at hms; refine (lnext_any (n := 1) lk0 hms).mono ?_; rintro e w13 ⟨v13, rfl, hN⟩; have hk13 := hN.kept; rw [hL, hE]; clear hN hms hL hE; have hk := (((Kept.alloc w12 #[.bool false, .int .u32 0, .int .i64 0] 24 (0, 0) none).tr (Kept.alloc _ Y 5 (0, 0) none)).tr (Kept.alloc _ #[.int .u8 0, .int .u32 0, .slice (some ⟨w12.heap.size + 1, 0, none⟩) 513 513] 47 (0, 0) none)).tr hk13; have HK := Hid.mk' (HK.out.tr hk); have HY := Hid.mk' (HY.out.kept hk); clear c0 c1 c2; have HB := Hid.mk' (row_kept HB.out (hk.tr (Kept.alloc w13 #[.bool false, .int .u32 0, .int .i64 0] 24 (0, 0) none)) (by simp)); have c0 := Lb.c0 HB.out; have c1 := Lb.c1 HB.out; have c2 := Lb.c2 HB.out; have N14 := Hid.mk' trivial; clear hk hk13; clear N13)
    | (have hgo := N12; clear hgo; go_at_call 9; have hE : nxE lk0 manyM = 4 := nx_many; have hL : nxL lk0 manyM = lk0 := nxL_no hE (by decide); have hms := ms_many (w11.alloc (.cells #[.bool false, .int .u32 0, .int .i64 0] 24)) Z HZ0.out; simp only [World.size_alloc] at hms; refine (lnext_any (n := 1025) lk0 hms).mono ?_; rintro e w12 ⟨v12, rfl, hN⟩; have hk12 := hN.kept; rw [hL, hE]; clear hN hms hL hE; have hk := ((Kept.alloc w11 #[.bool false, .int .u32 0, .int .i64 0] 24 (0, 0) none).tr (Kept.alloc _ Z 47 (0, 0) none)).tr hk12; have HK := Hid.mk' (HK.out.tr hk); have HY := Hid.mk' (HY.out.kept hk); clear c0 c1 c2; have HB := Hid.mk' (row_kept HB.out hk (by simp)); have c0 := Lb.c0 HB.out; have c1 := Lb.c1 HB.out; have c2 := Lb.c2 HB.out; have N13 := Hid.mk' trivial; clear hk hk12; clear N12)
    | (have hgo := N11; clear hgo; go_at_call 9; have hE : nxE ⟨false, 1, 0⟩ [] = 8 := nx_bad; have hL : nxL ⟨false, 1, 0⟩ [] = lk0 := nxL_no hE (by decide); have hms := Ms.nil w10; refine (lnext_any (n := 0) ⟨false, 1, 0⟩ hms).mono ?_; rintro e w11 ⟨v11, rfl, hN⟩; have hk11 := hN.kept; rw [hL, hE]; clear hN hms hL hE; have HK := Hid.mk' (HK.out.tr hk11); have HY := Hid.mk' (HY.out.kept hk11); clear c0 c1 c2; have HB := Hid.mk' (row_kept HB.out hk11 (by simp)); have c0 := Lb.c0 HB.out; have c1 := Lb.c1 HB.out; have c2 := Lb.c2 HB.out; have N12 := Hid.mk' trivial; clear hk11; clear N11)
    | (have hgo := N10; clear hgo; go_at_call 13; refine (lcmd_any cm0 (cok0 w9)).mono ?_; rw [show cmE cm0 = 170 from by decide +kernel, show cmL cm0 = [] from by decide +kernel]; rintro e w10 ⟨a10, k10, rfl, hm10, hk10⟩; dsimp only; have HK := Hid.mk' (HK.out.tr hk10); have HY := Hid.mk' (HY.out.kept hk10); clear c0 c1 c2; have HB := Hid.mk' (row_kept HB.out hk10 (by simp)); have c0 := Lb.c0 HB.out; have c1 := Lb.c1 HB.out; have c2 := Lb.c2 HB.out; have N11 := Hid.mk' trivial; clear N10 hm10 hk10)
    | (have hgo := N9; clear hgo; go_at_call 15; refine (lrep_any ⟨0, 4, 0, []⟩ (rok4 _)).mono ?_; rw [show rpE ⟨0, 4, 0, []⟩ = 2 from by decide +kernel, show rpL ⟨0, 4, 0, []⟩ = [] from by decide +kernel]; rintro e w9 ⟨a9, k9, rfl, hm9, hk9⟩; dsimp only; have hk := (Kept.alloc w8 (cmC4 cm0 a8 k8) 39 (0, 0) none).tr hk9; have HK := Hid.mk' (HK.out.tr hk); have HY := Hid.mk' (HY.out.kept hk); clear c0 c1 c2; have HB := Hid.mk' (row_kept HB.out hk (by simp)); have c0 := Lb.c0 HB.out; have c1 := Lb.c1 HB.out; have c2 := Lb.c2 HB.out; have N10 := Hid.mk' trivial; clear hk N9 hm9 hk9)
    | (have hgo := N8; clear hgo; go_at_call 14; refine (lofc_any (come_nilN w7)).mono ?_; unfold OfcP; rw [show ofcE [] = 8 from by decide +kernel, show ofcC [] = cm0 from if_neg (by decide +kernel)]; rintro e w8 ⟨a8, k8, rfl, hc8, hk8⟩; dsimp only; have HK := Hid.mk' (HK.out.tr hk8); have HY := Hid.mk' (HY.out.kept hk8); clear c0 c1 c2; have HB := Hid.mk' (row_kept HB.out hk8 (by simp)); have c0 := Lb.c0 HB.out; have c1 := Lb.c1 HB.out; have c2 := Lb.c2 HB.out; have N9 := Hid.mk' trivial; clear N8 hc8 hk8)
    | (have hgo := N7; clear hgo; go_at_call 13; refine (lcmd_any ⟨3, ⟨300, 0, [200, 100]⟩⟩ (cok2 w6)).mono ?_; rw [show cmE ⟨3, ⟨300, 0, [200, 100]⟩⟩ = 0 from by decide +kernel, show cmL ⟨3, ⟨300, 0, [200, 100]⟩⟩ = eight from by decide +kernel]; rintro e w7 ⟨a7, kb, rfl, hm7, hk7⟩; dsimp only; have hk := (Kept.alloc w6 #[.int .i64 200, .int .i64 100] 3 (0, 0) none).tr hk7; have HK := Hid.mk' (HK.out.tr hk); have HY : Hid (By w7 a7 8 eight) := Hid.mk' (hm7.by (by decide)); clear c0 c1 c2; have HB := Hid.mk' (row_kept HB.out hk (by simp)); have c0 := Lb.c0 HB.out; have c1 := Lb.c1 HB.out; have c2 := Lb.c2 HB.out; have N8 := Hid.mk' trivial; clear hk N7 hm7 hk7)
    | (have hgo := N6; clear hgo; go_at_call 12; refine (lsend_any 4294967295 (by omega) _).mono ?_; rw [show seV 4294967295 = 0 from by decide +kernel, show seE 4294967295 = 2 from by decide +kernel]; rintro e w6 ⟨rfl, hk6⟩; have HK := Hid.mk' (HK.out.tr hk6); clear c0 c1 c2; have HB := Hid.mk' (row_kept HB.out hk6 (by simp)); have c0 := Lb.c0 HB.out; have c1 := Lb.c1 HB.out; have c2 := Lb.c2 HB.out; have N7 := Hid.mk' trivial; clear N6 hk6)
    | (have hgo := N5; clear hgo; go_at_call 12; refine (lsend_any 7 (by omega) _).mono ?_; rw [show seV 7 = 8 from by decide +kernel, show seE 7 = 0 from by decide +kernel]; rintro e w5 ⟨rfl, hk5⟩; have HK := Hid.mk' (HK.out.tr hk5); clear c0 c1 c2; have HB := Hid.mk' (row_kept HB.out hk5 (by simp)); have c0 := Lb.c0 HB.out; have c1 := Lb.c1 HB.out; have c2 := Lb.c2 HB.out; have N6 := Hid.mk' trivial; clear N5 hk5)
    | (have hgo := N4; clear hgo; go_at_call 11; refine (lfresh_any ⟨true, 7, 1⟩ 2 _).mono ?_; rw [show frB ⟨true, 7, 1⟩ 2 = true from by decide +kernel, show frE ⟨true, 7, 1⟩ 2 = 0 from by decide +kernel]; rintro e w4 ⟨rfl, hk4⟩; have HK := Hid.mk' (HK.out.tr hk4); clear c0 c1 c2; have HB := Hid.mk' (row_kept HB.out hk4 (by simp)); have c0 := Lb.c0 HB.out; have c1 := Lb.c1 HB.out; have c2 := Lb.c2 HB.out; have N5 := Hid.mk' trivial; clear N4 hk4)
    | (have hgo := N3; clear hgo; go_at_call 11; refine (lfresh_any ⟨true, 7, 1⟩ 1 _).mono ?_; rw [show frB ⟨true, 7, 1⟩ 1 = false from by decide +kernel, show frE ⟨true, 7, 1⟩ 1 = 0 from by decide +kernel]; rintro e w3 ⟨rfl, hk3⟩; have HK := Hid.mk' (HK.out.tr ((Kept.alloc _ _ _ _ _).tr hk3)); clear c0 c1 c2; have HB := Hid.mk' (row_kept HB.out hk3 (by simp)); have c0 := Lb.c0 HB.out; have c1 := Lb.c1 HB.out; have c2 := Lb.c2 HB.out; have N4 := Hid.mk' trivial; clear N3 hk3)
    | (have hgo := N2; clear hgo; go_at_call 9; refine (lnext_any (n := 1) ⟨true, 7, 0⟩ (N2.out.ms (ofL_ok (l := [7]) (by decide)))).mono ?_; rintro e w2 ⟨v2, rfl, hN⟩; have hk2 := hN.kept; have hT : nxT ⟨true, 7, 0⟩ (ofL [7]) = [] := (by decide +kernel); have hL : nxL ⟨true, 7, 0⟩ (ofL [7]) = ⟨true, 7, 1⟩ := (by kernel_rfl); have hE : nxE ⟨true, 7, 0⟩ (ofL [7]) = 0 := (by decide +kernel); rw [hT] at hN; rw [hL, hE]; obtain ⟨a2, k2, hv2, _⟩ := hN.slice; rw [show ([] : List Msg).length = 0 from rfl] at hv2; subst hv2; have HK := Hid.mk' (HK.out.tr hk2); have HB : Hid (Lb (w2.alloc (.cells #[.bool true, .int .u32 7, .int .i64 1] 24)) w2.heap.size ⟨true, 7, 1⟩) := Hid.mk' (lb_alloc w2 ⟨true, 7, 1⟩); have c0 := Lb.c0 HB.out; have c1 := Lb.c1 HB.out; have c2 := Lb.c2 HB.out; have N3 := Hid.mk' trivial; clear N2 hN hT hL hE hk2)
    | (go_at_call 10; refine (of_any (us7 w) (by omega)).mono ?_; rintro e w1 ⟨v1, rfl, hO⟩; obtain ⟨a1, k1, hv1, _⟩ := hO.slice; rw [show (ofL [7]).length = 1 from rfl] at hv1; subst hv1; have HK := Hid.mk' ((Kept.alloc _ _ _ _ _).tr hO.kept); have N2 := Hid.mk' hO; clear hO))

  go_ret
  exact ⟨rfl, HK.out⟩
theorem lnames_any (w : World) : Calls Try.prog 3 #[] w fun e w' => e = .returned (.bool true) ∧ Kept w w' none :=
  lnames_main zz_made yy_made mk_many mk_long w

end Go.Proofs.Ytnmfigcemknjbaa
