/-
  THE WALK of FrameNames: the chapter's examples.
-/
import Derived.Test.YtflehhliddcfgaaDoorFound
import Derived.Test.YtflehhliddcfgaaDoorBack0
namespace Go.Proofs.YtflehhliddcfgaaDoor
open Go.RowKit Go.Lib Go.Deep
set_option linter.unusedVariables false
set_option linter.unusedSimpArgs false

theorem bare_one {a : Option Addr} {c : Nat} {w : World} (hB : By w a 2 [125, 93]) : Calls Tryd.prog 9 #[.slice a 2 c] w fun e w' => ∃ a' c', e = .returned (.tuple #[.slice a' 1 c', .int .i64 0]) ∧ By w' a' 1 [125] ∧ Kept w w' none := by
  have h := bare_keep (c := c) hB (by omega) 0 (by decide +kernel)
  rw [show bareL [125, 93] = [125] by decide +kernel] at h
  exact h
theorem bare_badly {a : Option Addr} {len c : Nat} {L : List Nat} {w : World} (hB : By w a len L) (hl : len ≤ 1000) (h8 : bareE L = 8) : Calls Tryd.prog 9 #[.slice a len c] w fun e w' => ∃ a' n' c', e = .returned (.tuple #[.slice a' n' c', .int .i64 8]) ∧ Kept w w' none :=
  (bare_keep hB (by omega) 8 h8).mono (by rintro e w' ⟨a', c', rfl, h1, h2⟩; exact ⟨a', _, c', rfl, h2⟩)
abbrev fN : List Nat := [126, 1, 2, 0, 0, 0, 38, 22, 75, 81, 126]
theorem write_N (w : World) (ht : Table w) : Calls Tryd.prog 10 #[.agg #[.int .u8 1, .int .u32 2, .slice none 0 0]] w fun e w' => ∃ a' c', e = .returned (.tuple #[.slice a' 11 c', .int .i64 0]) ∧ Mine w' w.heap.size a' 11 c' fN ∧ Kept w w' none := by
  have h := write_yes (1, 2, []) none 0 0 w (By.nil _ _) (fun _ => rfl) ⟨by decide, by decide, by simp⟩ (by omega) ht
  rw [show frameB (1, 2, []) = fN by decide +kernel] at h
  exact h
abbrev sN : List Nat := [7, 7] ++ fN ++ [126, 1, 126] ++ (fN ++ [9])
theorem scan_N {a : Option Addr} {c : Nat} {w : World} (hB : By w a 28 sN) (ht : Table w) : Calls Tryd.prog 11 #[.slice a 28 c] w fun e w' => ∃ la lc, e = .returned (.tuple #[.slice la 2 lc, .int .i64 26, .int .i64 0]) ∧ Kept w w' none :=
  (scan_as (scanM sN) 2 26 rfl (by decide +kernel) (by decide +kernel) hB (by omega) ht).mono (by rintro e w' ⟨la, lc, rfl, _, hk⟩; exact ⟨la, lc, rfl, hk⟩)
theorem scan_ee {a : Option Addr} {c : Nat} {w : World} (hB : By w a 2 [126, 126]) (ht : Table w) : Calls Tryd.prog 11 #[.slice a 2 c] w fun e w' => ∃ la lc, e = .returned (.tuple #[.slice la 0 lc, .int .i64 1, .int .i64 0]) ∧ Kept w w' none :=
  (scan_as (scanM [126, 126]) 0 1 rfl (by decide +kernel) (by decide +kernel) hB (by omega) ht).mono (by rintro e w' ⟨la, lc, rfl, _, hk⟩; exact ⟨la, lc, rfl, hk⟩)
theorem scan_nil {w : World} (ht : Table w) : Calls Tryd.prog 11 #[.slice none 0 0] w fun e w' => ∃ la lc, e = .returned (.tuple #[.slice la 0 lc, .int .i64 (-1), .int .i64 0]) ∧ Kept w w' none :=
  (scan_as (scanM []) 0 (-1) rfl (by decide +kernel) (by decide +kernel) (By.nil w none) (by omega) ht).mono (by rintro e w' ⟨la, lc, rfl, _, hk⟩; exact ⟨la, lc, rfl, hk⟩)
theorem open_nil (w : World) : Calls Tryd.prog 12 #[.slice none 0 0] w fun e w' => e = .returned (.tuple #[.agg #[.int .u8 0, .int .u32 0, .slice none 0 0], .int .i64 8]) ∧ Kept w w' none := open_no w (by omega) (by omega)
theorem write_long (g : Nat) (w : World) : Calls Tryd.prog 10 #[.agg #[.int .u8 0, .int .u32 0, .slice (some ⟨g, 0, none⟩) 513 513]] w fun e w' => e = .returned (.tuple #[.slice none 0 0, .int .i64 3]) ∧ Kept w w' none :=
  write_no (0, 0, List.replicate 513 0) (some ⟨g, 0, none⟩) 513 513 w List.length_replicate (by omega) (by omega)
theorem scan_long (g : Nat) (w : World) : Calls Tryd.prog 11 #[.slice (some ⟨g, 0, none⟩) 16385 16385] w fun e w' => e = .returned (.tuple #[.slice none 0 0, .int .i64 0, .int .i64 3]) ∧ Kept w w' none := scan_no (by omega) (by omega)
set_option maxRecDepth 100000 in
theorem feed_nil (w : World) : Calls Tryd.prog 13 #[.pointer none, .slice none 0 0] w fun e w' => e = .returned (.tuple #[.slice none 0 0, .int .i64 1]) ∧ w' = w := by
  go_enter Tryd.func13, Tryd.ntmps13
  go_wp2
  go_ret2
  exact ⟨rfl, rfl⟩
theorem self_none (R : Nat) (w : World) : (binOp .neq 36 (.pointer none) (.pointer (some ⟨R, 0, none⟩))).run Tryd.prog w = .ok (.bool true) w := by
  have h : ∀ d : Nat, (Op.equalIn (d + 1) 36 (.pointer none) (.pointer (some ⟨R, 0, none⟩))).run Tryd.prog w = .ok false w := fun d => by
    simp [Op.equalIn, run_underlying Tryd.uRP]
  simp only [binOp]
  simp [Op.equal, Op.maxDepth, h 9999]
set_option maxRecDepth 100000 in
theorem feed_plain {R : Nat} {w : World} (hc : w.cell? ⟨R, 0, none⟩ = some (.pointer none)) : Calls Tryd.prog 13 #[.pointer (some ⟨R, 0, none⟩), .slice none 0 0] w fun e w' => e = .returned (.tuple #[.slice none 0 0, .int .i64 1]) ∧ w' = w := by
  have hs := self_none R w
  go_enter Tryd.func13, Tryd.ntmps13
  go_wp2
  go_ret2
  exact ⟨rfl, rfl⟩
theorem text_one : (textOf [125]).toList = [125] := by decide +kernel
theorem text_five : (textOf [1, 125, 93, 125, 94]).toList = [1, 125, 93, 125, 94] := by decide +kernel
theorem mk_row (c : Nat) (hc : c ≤ 1000000) (w : World) : (Instr.makeSlice 22 (.int .i64 (c : Int)) (.int .i64 (c : Int))).run Tryd.prog w = .ok (.slice (some ⟨w.heap.size, 0, none⟩) c c) (w.alloc (.cells (madeCells #[.int .u8 0] c) 5)) :=
  run_make_row' (P := Tryd.prog) 22 5 (.int .u8 0) 1 Tryd.uB Tryd.info5 rfl .i64 .i64 c (by omega) (by omega) w
theorem stuff_N {a : Option Addr} {c : Nat} {w : World} (hB : By w a 3 [1, 125, 126]) : Calls Tryd.prog 14 #[.slice a 3 c] w fun e w' => ∃ a' c', e = .returned (.slice a' 5 c') ∧ By w' a' 5 [1, 125, 93, 125, 94] ∧ Kept w w' none :=
  stuff_keep [1, 125, 93, 125, 94] hB (by omega) (by decide)
/-- The four that are no stuffed bytes. -/
abbrev badL (k : Nat) : List Nat := [[125], [126], [125, 1], [125, 125, 93]].getD k []
structure Bad (w : World) (g : Nat) : Prop where
  lt : g < w.heap.size
  at_ : ∀ k, k < 4 → ∃ a c, w.cell? ⟨g, k, none⟩ = some (.slice a (badL k).length c) ∧ By w a (badL k).length (badL k)
theorem Bad.kept {w w' : World} {g : Nat} (h : Bad w g) (k : Kept w w' none) : Bad w' g := by
  refine ⟨Nat.lt_of_lt_of_le h.lt k.size, fun i hi => ?_⟩
  obtain ⟨a, c, h1, h2⟩ := h.at_ i hi
  exact ⟨a, c, (cell_kept k h.lt).trans h1, h2.kept k⟩
theorem badE (k : Nat) (h : k < 4) : bareE (badL k) = 8 := by
  have : k = 0 ∨ k = 1 ∨ k = 2 ∨ k = 3 := by omega
  rcases this with rfl | rfl | rfl | rfl <;> decide +kernel
abbrev bw (w : World) : World := (((w.alloc (.cells #[.int .u8 125] 5)).alloc (.cells #[.int .u8 126] 5)).alloc (.cells #[.int .u8 125, .int .u8 1] 5)).alloc (.cells #[.int .u8 125, .int .u8 125, .int .u8 93] 5)
theorem bad_made (w : World) (H : Nat) (hH : w.heap.size = H) : Bad ((bw w).alloc (.cells #[.slice (some ⟨H, 0, none⟩) 1 1, .slice (some ⟨H + 1, 0, none⟩) 1 1, .slice (some ⟨H + 2, 0, none⟩) 2 2, .slice (some ⟨H + 3, 0, none⟩) 3 3] 22)) (H + 4) := by
  subst hH
  have hs : (bw w).heap.size = w.heap.size + 4 := by simp
  have b0 := ((((By.lit w [125] (by decide) (by decide)).kept (Kept.alloc _ #[.int .u8 126] 5 (0, 0) none)).kept (Kept.alloc _ #[.int .u8 125, .int .u8 1] 5 (0, 0) none)).kept (Kept.alloc _ #[.int .u8 125, .int .u8 125, .int .u8 93] 5 (0, 0) none))
  have b1 := ((By.lit (w.alloc (.cells #[.int .u8 125] 5)) [126] (by decide) (by decide)).kept (Kept.alloc _ #[.int .u8 125, .int .u8 1] 5 (0, 0) none)).kept (Kept.alloc _ #[.int .u8 125, .int .u8 125, .int .u8 93] 5 (0, 0) none)
  have b2 := (By.lit ((w.alloc (.cells #[.int .u8 125] 5)).alloc (.cells #[.int .u8 126] 5)) [125, 1] (by decide) (by decide)).kept (Kept.alloc _ #[.int .u8 125, .int .u8 125, .int .u8 93] 5 (0, 0) none)
  have b3 := By.lit (((w.alloc (.cells #[.int .u8 125] 5)).alloc (.cells #[.int .u8 126] 5)).alloc (.cells #[.int .u8 125, .int .u8 1] 5)) [125, 125, 93] (by decide) (by decide)
  simp only [World.size_alloc] at b1 b2 b3
  refine ⟨by simp, fun k hk => ?_⟩
  have hc : ∀ j, ((bw w).alloc (.cells #[.slice (some ⟨w.heap.size, 0, none⟩) 1 1, .slice (some ⟨w.heap.size + 1, 0, none⟩) 1 1, .slice (some ⟨w.heap.size + 2, 0, none⟩) 2 2, .slice (some ⟨w.heap.size + 3, 0, none⟩) 3 3] 22)).cell? ⟨w.heap.size + 4, j, none⟩ = (#[.slice (some ⟨w.heap.size, 0, none⟩) 1 1, .slice (some ⟨w.heap.size + 1, 0, none⟩) 1 1, .slice (some ⟨w.heap.size + 2, 0, none⟩) 2 2, .slice (some ⟨w.heap.size + 3, 0, none⟩) 3 3] : Array Value)[j]? := fun j => by rw [← hs]; exact World.cell?_alloc_mark ..
  have : k = 0 ∨ k = 1 ∨ k = 2 ∨ k = 3 := by omega
  rcases this with rfl | rfl | rfl | rfl
  · exact ⟨_, 1, hc 0, b0.kept (Kept.alloc _ _ _ _ _)⟩
  · exact ⟨_, 1, hc 1, b1.kept (Kept.alloc _ _ _ _ _)⟩
  · exact ⟨_, 2, hc 2, b2.kept (Kept.alloc _ _ _ _ _)⟩
  · exact ⟨_, 3, hc 3, b3.kept (Kept.alloc _ _ _ _ _)⟩

theorem litH (w : World) (H : Nat) (hH : w.heap.size = H) (L : List Nat) (h2 : L.length ≤ 1000000) (hb : ∀ x ∈ L, x < 256) : By (w.alloc (.cells (rowOf L) 5)) (some ⟨H, 0, none⟩) L.length L := by subst hH; exact By.lit w L h2 hb
/-- What is held from the first answers on. -/
structure Nst (w wr : World) (a1 : Option Addr) (a3 : Option Addr) (c3 : Nat) : Prop where
  kept : Kept w wr none
  b : By wr a1 1 [125]
  m : Mine wr 0 a3 11 c3 fN
theorem Nst.go {w wr w' : World} {a1 a3 : Option Addr} {c3 : Nat} (h : Nst w wr a1 a3 c3) (k : Kept wr w' none) : Nst w w' a1 a3 c3 := ⟨h.kept.tr k, h.b.kept k, h.m.kept k⟩
set_option maxRecDepth 100000 in
set_option maxHeartbeats 4000000 in
theorem names_main (w : World) (ht : Table w) : Calls Tryd.prog 3 #[] w fun e w' => e = .returned (.bool true) ∧ Below w.heap.size w w' := by
  have HT := Hid.mk' ht
  have hT1 := text_one
  have hT5 := text_five
  have hmk1 := mk_row 513 (by omega)
  have hmk2 := mk_row 16385 (by omega)
  rw [show ((513 : Nat) : Int) = 513 from rfl] at hmk1
  rw [show ((16385 : Nat) : Int) = 16385 from rfl] at hmk2
  generalize madeCells #[Value.int .u8 0] 513 = Z1 at *
  generalize madeCells #[Value.int .u8 0] 16385 = Z2 at *
  clear ht
  go_enter Tryd.func3, Tryd.ntmps3
  go_wp2_with (go_at_call 9; refine (bare_one (By.lit w [125, 93] (by decide) (by decide))).mono ?_; rintro e w1 ⟨a1, c1, rfl, hb1, hk1⟩)
  have hK1 : Kept w w1 none := (Kept.alloc _ _ _ _ _).tr hk1
  have hBad := bad_made w1 w1.heap.size rfl
  have hKb : Kept w1 ((bw w1).alloc (.cells #[.slice (some ⟨w1.heap.size, 0, none⟩) 1 1, .slice (some ⟨w1.heap.size + 1, 0, none⟩) 1 1, .slice (some ⟨w1.heap.size + 2, 0, none⟩) 2 2, .slice (some ⟨w1.heap.size + 3, 0, none⟩) 3 3] 22)) none := ((((Kept.alloc _ _ _ _ _).tr (Kept.alloc _ _ _ _ _)).tr (Kept.alloc _ _ _ _ _)).tr (Kept.alloc _ _ _ _ _)).tr (Kept.alloc _ _ _ _ _)
  have HB1 := Hid.mk' hb1
  have HK1 := Hid.mk' hK1
  have HKB := Hid.mk' hKb
  have HBAD := Hid.mk' hBad
  clear hb1 hk1 hK1 hKb hBad
  go_loopw [4] (fun i wr => ∃ k : Nat, k ≤ 4 ∧ i = .int .i64 k ∧ Kept w1 wr none ∧ Bad wr (w1.heap.size + 4)) (fun i _ => 4 - (intOf i).toNat)
  case atStart => exact ⟨0, Nat.zero_le _, rfl, HKB.out, HBAD.out⟩
  case round =>
    obtain ⟨k, hk, rfl, hkw, hbad⟩ := hrel
    by_cases hlt : k < 4
    · obtain ⟨ba, bc, hcell, hby⟩ := hbad.at_ k hlt
      have h8 := badE k hlt
      have hl : (badL k).length ≤ 1000 := by
        have : k = 0 ∨ k = 1 ∨ k = 2 ∨ k = 3 := by omega
        rcases this with rfl | rfl | rfl | rfl <;> decide
      have HBY := Hid.mk' hby
      have HH := Hid.mk' hbad
      have H8 := Hid.mk' h8
      clear hby hbad h8
      generalize hbl : (badL k).length = bl at *
      generalize badL k = BL at *
      go_wp2_with (go_at_call 9; refine (bare_badly HBY.out hl H8.out).mono ?_; rintro e w2 ⟨a2, n2, c2, rfl, hk2⟩)
      go_roundw
      case rel => exact ⟨k + 1, by omega, by go_num, hkw.tr hk2, HH.out.kept hk2⟩
      case measure => simp [intOf]; omega
    · have hK2 : Kept w wr none := HK1.out.tr hkw
      have HB2 := Hid.mk' (HB1.out.kept hkw)
      clear hbad HBAD HKB HB1 hkw HK1
      go_wp2_with (first
        | (have hgo := K13; clear hgo; go_at_call 15; refine (alive_any _ (HT.out.kept K13.out)).mono ?_; rintro e w14 ⟨rfl, hk14⟩)
        | (have hgo := K12; clear hgo; go_at_call 14; refine (stuff_N (litH (w10.alloc (.cells #[.pointer none, .slice none 0 0, .int .u8 0, .bool false] 41)) (w10.heap.size + 1) (by simp) [1, 125, 126] (by decide) (by decide))).mono ?_; rintro e w13 ⟨a13, c13, rfl, hb13, hk13⟩; have hN13 := (K12.out.go (Kept.alloc (w10.alloc (.cells #[.pointer none, .slice none 0 0, .int .u8 0, .bool false] 41)) #[.int .u8 1, .int .u8 125, .int .u8 126] 5 (0, 0) none)).go hk13; have K13 := Hid.mk' hN13.kept; have t13 := run_text hb13 c13; have hm13 := hN13.m.by (by decide); obtain ⟨gw, ow, hwe, _, hwc⟩ := hm13.at_ (by omega); subst hwe; have q0 : w13.cell? ⟨gw, ow, none⟩ = some (.int .u8 126) := hwc 0 (by omega); have q1 : w13.cell? ⟨gw, ow + 1, none⟩ = some (.int .u8 1) := hwc 1 (by omega); have q2 : w13.cell? ⟨gw, ow + 2, none⟩ = some (.int .u8 2) := hwc 2 (by omega); have q10 : w13.cell? ⟨gw, ow + 10, none⟩ = some (.int .u8 126) := hwc 10 (by omega); clear hwc hm13 hN13)
        | (have hgo := K11; clear hgo; go_at_call 13; refine (feed_plain hpc).mono ?_; rintro e w12 ⟨rfl, rfl⟩; have K12 := K11; have t12 := run_text K11.out.b c1)
        | (have hgo := K10; clear hgo; go_at_call 13; refine (feed_nil _).mono ?_; rintro e w11 ⟨rfl, rfl⟩; have K11 := Hid.mk' (K10.out.go (Kept.alloc w10 #[.pointer none, .slice none 0 0, .int .u8 0, .bool false] 41 (0, 0) none)); have hpc : (w10.alloc (.cells #[.pointer none, .slice none 0 0, .int .u8 0, .bool false] 41)).cell? ⟨w10.heap.size, 0, none⟩ = some (.pointer none) := World.cell?_alloc_mark ..)
        | (have hgo := K9; clear hgo; go_at_call 11; refine (scan_long _ _).mono ?_; rintro e w10 ⟨rfl, hk10⟩; have K10 := Hid.mk' (K9.out.go ((Kept.alloc w9 Z2 5 (0, 0) none).tr hk10)))
        | (have hgo := K8; clear hgo; go_at_call 10; refine (write_long _ _).mono ?_; rintro e w9 ⟨rfl, hk9⟩; have K9 := Hid.mk' (K8.out.go (((Kept.alloc w8 #[.int .u8 0, .int .u32 0, .slice none 0 0] 30 (0, 0) none).tr (Kept.alloc _ Z1 5 (0, 0) none)).tr hk9)))
        | (have hgo := K7; clear hgo; go_at_call 12; refine (open_nil _).mono ?_; rintro e w8 ⟨rfl, hk8⟩; have K8 := Hid.mk' (K7.out.go hk8))
        | (have hgo := K6; clear hgo; go_at_call 11; refine (scan_nil (HT.out.kept K6.out.kept)).mono ?_; rintro e w7 ⟨l7, c7, rfl, hk7⟩; have K7 := Hid.mk' (K6.out.go hk7))
        | (have hgo := K5; clear hgo; go_at_call 11; refine (scan_ee (By.lit w5 [126, 126] (by decide) (by decide)) (HT.out.kept (K5.out.kept.tr (Kept.alloc _ _ _ _ _)))).mono ?_; rintro e w6 ⟨l6, c6, rfl, hk6⟩; have K6 := Hid.mk' (K5.out.go ((Kept.alloc w5 #[.int .u8 126, .int .u8 126] 5 (0, 0) none).tr hk6)))
        | (have hgo := J4; clear hgo; go_at_call 11; refine (scan_N (J4.out.by (by decide)) (HT.out.kept hKJ.out.kept)).mono ?_; rintro e w5 ⟨l5, c5, rfl, hk5⟩; have K5 := Hid.mk' (hKJ.out.go hk5))
        | (have hgo := JD; clear hgo; at_builtin; refine wpList_join (by rfl) _ _ (by rfl) w3.heap.size (.slice aB (2 + 11 + 3) cB) (2 + 11 + 3) ([7, 7] ++ fN ++ [126, 1, 126]) (by rfl) (own_kept JB.out.own hkBD) aD (11 + 1) cD (fN ++ [9]) (by rfl) (JD.out.by (by decide)) (fun e => (JD.out.nil e).2) (by omega) (by exact Nat.le_trans hk3B.size hkBD.size) ?_; intro aJ cJ wJ hmJ hgJ; have J4 : Hid (Mine wJ w3.heap.size aJ 28 cJ sN) := hmJ; have hKJ := Hid.mk' (K3.out.go ((hk3B.tr hkBD).newRow hgJ (fun i h => JB.out.new i h))); clear hmJ hgJ)
        | (have hgo := JC; clear hgo; at_builtin; refine wpList_join (by rfl) _ _ (by rfl) wB.heap.size (.slice aC 11 cC) 11 fN (by rfl) (own_kept JC.out.own (Kept.alloc _ _ _ _ _)) (some ⟨wC.heap.size, 0, none⟩) 1 1 [9] (by rfl) (by_lit1 wC 9 (by omega)) (fun e => nomatch e) (by omega) (by have := hkBC.size; simp; omega) ?_; intro aD cD wD hmD hgD; have JD := Hid.mk' hmD; have hkBD : Kept wB wD none := (hkBC.tr (Kept.alloc _ _ _ _ _)).newRow hgD (fun i h => JC.out.new i h); clear hmD hgD)
        | (have hgo := JB; clear hgo; at_builtin; refine wpList_join0 (by rfl) _ _ (by rfl) wB.heap.size (by rfl) a3 11 c3 fN (by rfl) ((M3.out.by (by decide)).kept hk3B) (fun e => (M3.out.nil e).2) (by omega) (Nat.le_refl _) ?_; intro aC cC wC hmC hkBC; have JC := Hid.mk' hmC; clear hmC)
        | (have hgo := JA; clear hgo; at_builtin; refine wpList_join (by rfl) _ _ (by rfl) w3.heap.size (.slice aA (2 + 11) cA) (2 + 11) ([7, 7] ++ fN) (by rfl) (own_kept JA.out.own (Kept.alloc _ _ _ _ _)) (some ⟨wA.heap.size, 0, none⟩) 3 3 [126, 1, 126] (by rfl) (By.lit wA [126, 1, 126] (by decide) (by decide)) (fun e => nomatch e) (by omega) (by have := hk3A.size; simp; omega) ?_; intro aB cB wB hmB hgB; have JB := Hid.mk' hmB; have hk3B : Kept w3 wB none := (hk3A.tr (Kept.alloc _ _ _ _ _)).newRow hgB (fun i h => JA.out.new i h); clear hmB hgB)
        | (have hgo := M3; clear hgo; at_builtin; refine wpList_join (by rfl) _ _ (by rfl) w3.heap.size (.slice (some ⟨w3.heap.size, 0, none⟩) 2 2) 2 [7, 7] (by rfl) (own_lit w3 [7, 7] w3.heap.size (by decide) (Nat.le_refl _)) a3 11 c3 fN (by rfl) ((M3.out.by (by decide)).kept (Kept.alloc _ _ _ _ _)) (fun e => (M3.out.nil e).2) (by omega) (by simp) ?_; intro aA cA wA hmA hgA; have JA := Hid.mk' hmA; have hk3A : Kept w3 wA none := (Kept.alloc _ _ _ _ _).newRow hgA (fun i h => by simp [Value.ownBlock] at h; omega); clear hmA hgA)
        | (go_at_call 10; refine (write_N _ (HT.out.kept hK2)).mono ?_; rintro e w3 ⟨a3, c3, rfl, hm3, hk3⟩; have M3 := Hid.mk' hm3; have K3 : Hid (Nst w w3 a1 a3 c3) := ⟨hK2.tr hk3, HB2.out.kept hk3, hm3.lower (Nat.zero_le _)⟩; clear hm3))
      go_ret
      exact ⟨rfl, (K13.out.tr hk14).below⟩

end Go.Proofs.YtflehhliddcfgaaDoor
