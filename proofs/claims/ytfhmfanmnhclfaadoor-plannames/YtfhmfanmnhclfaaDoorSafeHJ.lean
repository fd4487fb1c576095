/-
  Texts joined: some of those that the proofs of this seat stand on.
-/
import Derived.Test.YtfhmfanmnhclfaaDoorSafeFJ
import Derived.Test.YtfhmfanmnhclfaaDoorTwinA
/-
  THE CONTRACT of copied: a standing in memory of its own.
-/
namespace Go.Proofs.YtfhmfanmnhclfaaDoor
open Go.RowKit Go.Lib Go.Deep
set_option linter.unusedVariables false
set_option linter.unusedSimpArgs false

/-- copy of standings into a row of one's own. -/
theorem run_copy_seen {w : World} {ty : TypeId} {g n cd : Nat} {b off c : Nat} {f : Nat → Sn} {h : Nat → Sn} (hg : OwnG w g n f) (hsrc : ∀ i, i < n → ∀ j, j < 3 → w.cell? ⟨b, off + i * 3 + j, none⟩ = some (snV (h i) j)) :
    ∃ w', (Builtin.copy_ #[59, 59] ty #[.slice (some ⟨g, 0, none⟩) n cd, .slice (some ⟨b, off, none⟩) n c]).run Tryd.prog w = .ok (goInt n) w' ∧ OwnG w' g n h ∧ Kept w w' (some g) := by
  obtain ⟨cur, hb, hn, hc⟩ := hg
  have hl := run_loadCells_list (P := Tryd.prog) w ⟨b, off, none⟩ (cellsL n 3 (fun i j => snV (h i) j)) (cellsL_news (by omega) hsrc)
  have hst := run_storeCells_at Tryd.prog g 0 95 (cellsL n 3 (fun i j => snV (h i) j)) 0 cur w hb (by rw [cellsL_len]; omega) (cellsL_one (fun i j => by unfold snV; split <;> rfl))
  rw [cellsL_len] at hl
  obtain ⟨i, hi, hzz⟩ := Option.map_eq_some_iff.1 Tryd.infoSeen
  simp only [Prod.mk.injEq] at hzz
  obtain ⟨_, hs, _⟩ := hzz
  have hmin : min n n = n := by omega
  have hrow : ((List.take (0 + 0) cur.toList ++ cellsL n 3 (fun i j => snV (h i) j)) ++ List.drop (0 + 0 + (cellsL n 3 (fun i j => snV (h i) j)).length) cur.toList).toArray = (cellsL n 3 (fun i j => snV (h i) j)).toArray := by
    rw [cellsL_len, List.drop_of_length_le (by simp [hn])]
    simp
  rw [hrow] at hst
  refine ⟨w.setRow g (cellsL n 3 (fun i j => snV (h i) j)).toArray, by
    simp [Builtin.copy_, run_underlying Tryd.underlying59, Builtin.lenOf, Builtin.firstCells, sizeOf, typeInfo, hi, hs, hmin, hl, hst], ?_, ?_⟩
  · refine ⟨_, setRow_heap w g cur _ _ _ hb, by simp [cellsL_len], fun q hq => ?_⟩
    rw [List.getElem?_toArray, cellsL_at hq]
    rfl
  · exact ⟨rfl, rfl, rfl, by simp, fun k hk hr => setRow_other w g k _ (fun e => hr (by rw [e]))⟩
set_option maxRecDepth 100000 in
set_option maxHeartbeats 1000000 in
theorem copied_any {w : World} {a : Option Addr} {c : Nat} {F : Sf} (hF : SafeAt w a c F) (hp : 0 < F.groups.length) (hl : F.groups.length ≤ 100) : Calls Tryd.prog 49 #[safeV a c F] w fun e w' => ∃ b, e = .returned (safeV (some ⟨b, 0, none⟩) F.groups.length F) ∧ w.heap.size ≤ b ∧ OwnG w' b F.groups.length F.g ∧ Kept w w' none := by
  obtain ⟨bf, off, rfl, hbf, hcf⟩ := hF.lie.at_ hp
  have hFr := hF.cap.room
  have hFm := hF.cap.max
  have b1 := box_alloc w (.slice (some ⟨bf, off, none⟩) F.groups.length c) (.int .i64 F.start) (.bool F.flashed) 61
  have b2 := box_alloc (w.alloc (.cells #[.slice (some ⟨bf, off, none⟩) F.groups.length c, .int .i64 F.start, .bool F.flashed] 61)) (.slice none 0 0) (.int .i64 0) (.bool false) 61
  rw [World.size_alloc] at b2
  have k1 : Kept w (w.alloc (.cells #[.slice (some ⟨bf, off, none⟩) F.groups.length c, .int .i64 F.start, .bool F.flashed] 61)) none := Kept.alloc _ _ _ _ _
  have k2 : Kept (w.alloc (.cells #[.slice (some ⟨bf, off, none⟩) F.groups.length c, .int .i64 F.start, .bool F.flashed] 61)) ((w.alloc (.cells #[.slice (some ⟨bf, off, none⟩) F.groups.length c, .int .i64 F.start, .bool F.flashed] 61)).alloc (.cells #[.slice none 0 0, .int .i64 0, .bool false] 61)) none := Kept.alloc _ _ _ _ _
  have hsz : ((w.alloc (.cells #[.slice (some ⟨bf, off, none⟩) F.groups.length c, .int .i64 F.start, .bool F.flashed] 61)).alloc (.cells #[.slice none 0 0, .int .i64 0, .bool false] 61)).heap.size = w.heap.size + 1 + 1 := by simp
  have b1' := b1.kept k2
  have hmk := make_seen F.groups.length hl
  have k3 : Kept ((w.alloc (.cells #[.slice (some ⟨bf, off, none⟩) F.groups.length c, .int .i64 F.start, .bool F.flashed] 61)).alloc (.cells #[.slice none 0 0, .int .i64 0, .bool false] 61)) (((w.alloc (.cells #[.slice (some ⟨bf, off, none⟩) F.groups.length c, .int .i64 F.start, .bool F.flashed] 61)).alloc (.cells #[.slice none 0 0, .int .i64 0, .bool false] 61)).alloc (.cells (madeCells #[.int .u8 0, .int .i64 0, .int .i64 0] (F.groups.length * 3)) 95)) none := Kept.alloc _ _ _ _ _
  have hom := own_made ((w.alloc (.cells #[.slice (some ⟨bf, off, none⟩) F.groups.length c, .int .i64 F.start, .bool F.flashed] 61)).alloc (.cells #[.slice none 0 0, .int .i64 0, .bool false] 61)) F.groups.length
  rw [hsz] at hom
  have kw3 := (k1.tr k2).tr k3
  obtain ⟨Wc, hrun, hown, hkc⟩ := run_copy_seen (ty := 3) (cd := F.groups.length) (c := c) (h := F.g) hom (fun i hi j hj => cell_kept0 (hcf i hi j hj) kw3)
  have hnb : some w.heap.size ≠ some (w.heap.size + 1 + 1) := by intro e; have := Option.some.inj e; omega
  have hnb2 : some (w.heap.size + 1) ≠ some (w.heap.size + 1 + 1) := by intro e; have := Option.some.inj e; omega
  have hc1 : ∀ j v, ((w.alloc (.cells #[.slice (some ⟨bf, off, none⟩) F.groups.length c, .int .i64 F.start, .bool F.flashed] 61)).alloc (.cells #[.slice none 0 0, .int .i64 0, .bool false] 61)).cell? ⟨w.heap.size, j, none⟩ = some v → Wc.cell? ⟨w.heap.size, j, none⟩ = some v := fun j v h => cell_keptS (cell_kept0 h k3) hkc hnb
  have d0 := hc1 0 _ b1'.c0
  have d1 := hc1 1 _ b1'.c1
  have d2 := hc1 2 _ b1'.c2
  have b3 := b2.kept k3
  have p0 := cell_keptS b3.c0 hkc hnb2
  have p1 := cell_keptS b3.c1 hkc hnb2
  have p2 := cell_keptS b3.c2 hkc hnb2
  have fz : ∀ b j, b < w.heap.size + 1 + 1 → Wc.frozen? ⟨b, j, none⟩ = (((w.alloc (.cells #[.slice (some ⟨bf, off, none⟩) F.groups.length c, .int .i64 F.start, .bool F.flashed] 61)).alloc (.cells #[.slice none 0 0, .int .i64 0, .bool false] 61)).alloc (.cells (madeCells #[.int .u8 0, .int .i64 0, .int .i64 0] (F.groups.length * 3)) 95)).frozen? ⟨b, j, none⟩ := fun b j hb => World.frozen?_of_block (hkc.block b (by simp; omega) (by intro e; have := Option.some.inj e; omega))
  have q0 := (fz w.heap.size 0 (by omega)).trans (b1'.kept k3).f0
  have r0 := (fz (w.heap.size + 1) 0 (by omega)).trans b3.f0
  have r1 := (fz (w.heap.size + 1) 1 (by omega)).trans b3.f1
  have r2 := (fz (w.heap.size + 1) 2 (by omega)).trans b3.f2
  have hkw : Kept w Wc none := kw3.newRow hkc (fun i hi => by have := Option.some.inj hi; omega)
  have HKW := Hid.mk' hkw
  have HOWN := Hid.mk' hown
  have HGLT := Hid.mk' hown.lt
  clear b1 b2 k1 k2 hsz b1' hcf hF k3 hom kw3 hkc hkw hown hc1 b3 fz hnb hnb2
  go_enter Tryd.func49, Tryd.ntmps49
  go_wp2
  refine bodyPost_ret (v := .agg #[.slice (some ⟨w.heap.size + 1 + 1, 0, none⟩) F.groups.length F.groups.length, .int .i64 F.start, .bool F.flashed]) (by simp [results, Tryd.results49, go_sem, *]) rfl ⟨w.heap.size + 1 + 1, rfl, by omega, ?_, ?_⟩
  · exact (((HOWN.out.setOther (a := ⟨w.heap.size, 0, none⟩) (by show w.heap.size + 1 + 1 ≠ w.heap.size; omega) _).setOther (a := ⟨w.heap.size + 1, 0, none⟩) (by show w.heap.size + 1 + 1 ≠ w.heap.size + 1; omega) _).setOther (a := ⟨w.heap.size + 1, 1, none⟩) (by show w.heap.size + 1 + 1 ≠ w.heap.size + 1; omega) _).setOther (a := ⟨w.heap.size + 1, 2, none⟩) (by show w.heap.size + 1 + 1 ≠ w.heap.size + 1; omega) _
  · exact (((HKW.out.setNew (by simp) _).setNew (by simp) _).setNew (by simp) _).setNew (by simp) _

end Go.Proofs.YtfhmfanmnhclfaaDoor

/-
  THE CONTRACT of mayBe.
-/
namespace Go.Proofs.YtfhmfanmnhclfaaDoor
open Go.RowKit Go.Lib Go.Deep
set_option linter.unusedVariables false
set_option linter.unusedSimpArgs false

theorem Tryd.infoByte : (Tryd.prog.info? 5).map (fun i => (i.zero, i.size, i.bytes)) = some (some (.int .u8 0), 1, 1) := by kernel_rfl
def bcell (k : Nat) (L : List Nat) (i : Nat) : Value := .int .u8 ((if i < k then lg L i else 0 : Nat) : Int)
theorem bcell_set {k : Nat} {L : List Nat} : (fun j => if j = k then Value.int .u8 (lg L k : Int) else bcell k L j) = bcell (k + 1) L := by
  funext j
  unfold bcell
  by_cases h : j = k
  · subst h; simp
  · rw [if_neg h]
    by_cases h2 : j < k
    · rw [if_pos h2, if_pos (by omega)]
    · rw [if_neg h2, if_neg (by omega)]
set_option maxRecDepth 100000 in
set_option maxHeartbeats 1000000 in
theorem maybe_no {w : World} {B : Nat} {X : Sa} {S : St} {a : Option Addr} {c : Nat} {F : Sf} (h : Sbox w B X S) (hb : F.groups.length ≠ S.groups.length ∨ F.start < 0 ∨ 1048576 < F.start) : Calls Tryd.prog 48 #[.pointer (some ⟨B, 0, none⟩), safeV a c F] w fun e w' => e = .returned (.bool false) ∧ Kept w w' none := by
  have c1 := h.c1
  have hBlt := h.lt
  have hkA : Kept w (w.alloc (.cells #[.slice a F.groups.length c, .int .i64 F.start, .bool F.flashed] 61)) none := Kept.alloc _ _ _ _ _
  have HK := Hid.mk' hkA
  clear h hkA
  by_cases h1 : F.groups.length = S.groups.length
  · have h1b : ((F.groups.length : Int) != (S.groups.length : Int)) = false := by simp; omega
    clear h1
    by_cases h2 : F.start < 0
    · clear hb
      go_enter Tryd.func48, Tryd.ntmps48
      go_wp2
      go_quiet (fail)
      go_wp2
      go_ret
      exact ⟨rfl, HK.out.tr (Kept.drewN _ _ _)⟩
    · have h3 : 1048576 < F.start := by rcases hb with hb | hb | hb <;> first | omega | (exfalso; simp at h1b; omega)
      have h2b : decide (F.start < 0) = false := by simp; omega
      clear hb
      go_enter Tryd.func48, Tryd.ntmps48
      go_wp2
      go_quiet (fail)
      go_wp2
      go_ret
      exact ⟨rfl, HK.out.tr (Kept.drewN _ _ _)⟩
  · have h1b : ((F.groups.length : Int) != (S.groups.length : Int)) = true := by simp; omega
    clear h1 hb
    go_enter Tryd.func48, Tryd.ntmps48
    go_wp2
    go_quiet (fail)
    go_wp2
    go_ret
    exact ⟨rfl, HK.out.tr (Kept.drewN _ _ _)⟩
set_option maxRecDepth 100000 in
set_option maxHeartbeats 1000000 in
theorem maybe_yes {w : World} {B : Nat} {X : Sa} {S : St} {a : Option Addr} {c : Nat} {F : Sf} (h : Sbox w B X S) (hSh : Shape S) (hF : SafeAt w a c F) (hf : F.groups.length = S.groups.length) (h0 : 0 ≤ F.start) (h1 : F.start ≤ 1048576) : Calls Tryd.prog 48 #[.pointer (some ⟨B, 0, none⟩), safeV a c F] w fun e w' => e = .returned (.bool (!mtB S (shown F) || allIs (shown F) 4)) ∧ Kept w w' none := by
  have hng := hSh.ok.ng
  have c1 := h.c1
  have hBlt := h.lt
  obtain ⟨bf, off, rfl, hbf, hcf⟩ := hF.lie.at_ (by omega)
  have hFr := hF.cap.room
  have hFm := hF.cap.max
  have hn16 : F.groups.length ≤ 16 := by omega
  have hkA : Kept w (w.alloc (.cells #[.slice (some ⟨bf, off, none⟩) F.groups.length c, .int .i64 F.start, .bool F.flashed] 61)) none := Kept.alloc _ _ _ _ _
  have bx := box_alloc w (.slice (some ⟨bf, off, none⟩) F.groups.length c) (.int .i64 F.start) (.bool F.flashed) 61
  have h1b : ((F.groups.length : Int) != (S.groups.length : Int)) = false := by simp; omega
  have h2b : decide (F.start < 0) = false := by simp; omega
  have h3b : decide (1048576 < F.start) = false := by simp; omega
  have hmk := run_make_row' (P := Tryd.prog) 64 5 (.int .u8 0) 1 Tryd.uB Tryd.infoByte rfl .i64 .i64 F.groups.length (by omega) (by omega)
  have HK := Hid.mk' hkA
  have HBX := Hid.mk' bx
  have HSB := Hid.mk' (h.kept hkA)
  have HSH := Hid.mk' hSh
  have HFN := Hid.mk' hf
  have HCF : Hid (∀ i, i < F.groups.length → ∀ j, j < 3 → (w.alloc (.cells #[.slice (some ⟨bf, off, none⟩) F.groups.length c, .int .i64 F.start, .bool F.flashed] 61)).cell? ⟨bf, off + i * 3 + j, none⟩ = some (snV (F.g i) j)) := fun i hi j hj => cell_kept0 (hcf i hi j hj) hkA
  have HRNG := Hid.mk' hF.rng
  have hsz : (w.alloc (.cells #[.slice (some ⟨bf, off, none⟩) F.groups.length c, .int .i64 F.start, .bool F.flashed] 61)).heap.size = w.heap.size + 1 := by simp
  have HSZ := Hid.mk' hsz
  clear h hF hkA bx hcf hSh hf hsz h0 h1
  go_enter Tryd.func48, Tryd.ntmps48
  go_wp2
  go_quiet (fail)
  go_wp2
  have kD : Kept w ((w.alloc (.cells #[.slice (some ⟨bf, off, none⟩) F.groups.length c, .int .i64 F.start, .bool F.flashed] 61)).drewN nq) none := HK.out.tr (Kept.drewN _ _ _)
  have k0D : Kept (w.alloc (.cells #[.slice (some ⟨bf, off, none⟩) F.groups.length c, .int .i64 F.start, .bool F.flashed] 61)) ((w.alloc (.cells #[.slice (some ⟨bf, off, none⟩) F.groups.length c, .int .i64 F.start, .bool F.flashed] 61)).drewN nq) none := Kept.drewN _ _ _
  have hzD : ((w.alloc (.cells #[.slice (some ⟨bf, off, none⟩) F.groups.length c, .int .i64 F.start, .bool F.flashed] 61)).drewN nq).heap.size = w.heap.size + 1 := HSZ.out
  obtain ⟨WD, hWD⟩ : ∃ WD, (w.alloc (.cells #[.slice (some ⟨bf, off, none⟩) F.groups.length c, .int .i64 F.start, .bool F.flashed] 61)).drewN nq = WD := ⟨_, rfl⟩
  rw [hWD] at kD k0D hzD ⊢
  have HSBD := Hid.mk' (HSB.out.kept k0D)
  have HCFD : Hid (∀ i, i < F.groups.length → ∀ j, j < 3 → WD.cell? ⟨bf, off + i * 3 + j, none⟩ = some (snV (F.g i) j)) := fun i hi j hj => cell_kept0 (HCF.out i hi j hj) k0D
  have hrw := World.rowIs_made WD (.int .u8 0) F.groups.length 5
  have kM : Kept WD (WD.alloc (.cells (madeCells #[.int .u8 0] F.groups.length) 5)) none := Kept.alloc _ _ _ _ _
  rw [hzD] at hrw
  obtain ⟨W3, hW3⟩ : ∃ W3, WD.alloc (.cells (madeCells #[.int .u8 0] F.groups.length) 5) = W3 := ⟨_, rfl⟩
  rw [hW3] at hrw kM ⊢
  have HRW := Hid.mk' hrw
  have KM := Hid.mk' kM
  have KD := Hid.mk' kD
  have HZD := Hid.mk' hzD
  clear hW3 hWD hrw kM kD k0D hzD HSB HCF HBX HK HSZ hmk c1
  go_loopw [6, 7, 34] (fun _ _ i wr => ∃ k : Nat, k ≤ F.groups.length ∧ i = .int .i64 k ∧ Kept WD wr none ∧ wr.rowIs (w.heap.size + 1) 5 F.groups.length (bcell k (shown F))) (fun _ _ i _ => F.groups.length - (intOf i).toNat)
  case atStart => exact ⟨0, by omega, rfl, KM.out, HRW.out.congr (fun i hi => by unfold bcell; simp)⟩
  case round =>
    obtain ⟨k, hk, rfl, hkw, hrow⟩ := hrel
    have HKW := Hid.mk' hkw
    have HRO := Hid.mk' hrow
    have hlr := hrow.lt
    clear hkw hrow
    by_cases hlt : k < F.groups.length
    · have s0 := cell_kept0 (HCFD.out k hlt 0 (by omega)) HKW.out
      have s1 := cell_kept0 (HCFD.out k hlt 1 (by omega)) HKW.out
      have s2 := cell_kept0 (HCFD.out k hlt 2 (by omega)) HKW.out
      simp only [snV, Nat.add_zero] at s0 s1 s2
      have hbl := block_lt s0
      have hsl : lg (shown F) k = (F.g k).asp := shown_lg hlt
      have y0 := HRO.out.cell hlt
      have z0 := HRO.out.frozen k
      have HSL := Hid.mk' hsl
      clear hsl
      generalize F.g k = N at *
      go_wp2
      go_roundw
      case rel =>
        refine ⟨k + 1, by omega, by go_num, (HKW.out.setNew (p := ⟨w.heap.size + 1, k, none⟩) (by rw [HZD.out]; exact Nat.le_refl _) _).tr (Kept.alloc _ _ _ _ _), ?_⟩
        rw [← bcell_set, HSL.out]
        exact (HRO.out.set k _).alloc _
      case measure => simp [intOf]; omega
    · have e : k = F.groups.length := by omega
      subst e
      have HBY : Hid (By wr (some ⟨w.heap.size + 1, 0, none⟩) F.groups.length (shown F)) := By.row HRO.out (shown F) F.groups.length (Nat.le_refl _) (shown_len F) (by omega) (fun x hx => by
        simp only [shown, List.mem_map] at hx
        obtain ⟨s, hs, rfl⟩ := hx
        exact (HRNG.out s hs).1) (fun i hi => by unfold bcell; rw [if_pos hi]; rfl)
      have HME := Hid.mk' (fun w' (q : Kept wr w' none) => meet_any (c := F.groups.length) ((HSBD.out.kept HKW.out).kept q) HSH.out.ok (HBY.out.kept q) HFN.out)
      have HAL := Hid.mk' (fun w' (q : Kept wr w' none) => all_any (c := F.groups.length) (HBY.out.kept q) 4)
      by_cases hm : mtB S (shown F) = true
      · rw [hm] at HME
        have HM := Hid.mk' hm
        clear hm
        go_wp2_with (first
          | (go_at_call 87; refine (HME.out _ (Kept.refl _ _)).mono ?_; rintro e wD ⟨rfl, hwD⟩; have hwD := hwD.symm; subst hwD)
          | (go_at_call 88; refine (HAL.out _ (Kept.refl _ _)).mono ?_; rintro e wA ⟨rfl, hkA⟩))
        go_ret
        exact ⟨by rw [HM.out]; rfl, (KD.out.tr HKW.out).tr hkA⟩
      · have hm : mtB S (shown F) = false := by simpa using hm
        rw [hm] at HME
        have HM := Hid.mk' hm
        clear hm
        go_wp2_with (go_at_call 87; refine (HME.out _ (Kept.refl _ _)).mono ?_; rintro e wD ⟨rfl, hwD⟩; have hwD := hwD.symm; subst hwD)
        go_ret
        exact ⟨by rw [HM.out]; rfl, KD.out.tr HKW.out⟩
theorem maybe_any {w : World} {B : Nat} {X : Sa} {S : St} {a : Option Addr} {c : Nat} {F : Sf} (h : Sbox w B X S) (hSh : Shape S) (hF : SafeAt w a c F) : Calls Tryd.prog 48 #[.pointer (some ⟨B, 0, none⟩), safeV a c F] w fun e w' => e = .returned (.bool (mayS S F)) ∧ Kept w w' none := by
  unfold mayS
  by_cases h1 : F.groups.length = S.groups.length
  · by_cases h2 : inB F.start 0 1048576 = true
    · rw [h2, decide_eq_true h1, Bool.true_and, Bool.true_and]
      have := inB_iff.1 h2
      exact maybe_yes h hSh hF h1 this.1 this.2
    · have h2 : inB F.start 0 1048576 = false := by simpa using h2
      rw [h2, Bool.false_and, Bool.and_false]
      exact maybe_no h (.inr (inB_no.1 h2))
  · rw [decide_eq_false h1, Bool.false_and]
    exact maybe_no h (.inl h1)

end Go.Proofs.YtfhmfanmnhclfaaDoor

/-
  THE CONTRACT of Next (made by a program).
-/
namespace Go.Proofs.YtfhmfanmnhclfaaDoor
open Go.RowKit Go.Lib Go.Deep
set_option linter.unusedVariables false
set_option linter.unusedSimpArgs false

set_option maxRecDepth 100000 in
set_option maxHeartbeats 1000000 in
theorem next_no {X : Sa} {S : St} {w : World} {a : Option Addr} {c : Nat} {F : Sf} {al : Option Addr} {n cl : Nat} {L : List Nat} (h : Sat w X S) (hT : Tabb w) (hF : SafeAt w a c F) (hB : By w al n L) (hs : siteB S = false) : Calls Tryd.prog 26 #[siteV X S, safeV a c F, .slice al n cl] w fun e w' => e = .returned (.tuple #[safe0, .int .u8 0, .int .i64 50]) ∧ Kept w w' none := by
  have k1 : Kept w (w.alloc (.cells #[.int .i64 S.id, .slice X.g S.groups.length X.gc, .slice X.a S.apart.length X.ac, .slice X.b S.between.length X.bc, .slice X.p S.phases.length X.pc, .slice X.e S.eyes.length X.ec, .int .i64 S.watch, .int .i64 S.feed, .int .i64 S.heal, .int .i64 S.low, .int .i64 S.high, .slice X.l S.plans.length X.lc] 35)) none := Kept.alloc _ _ _ _ _
  have k2 : Kept (w.alloc (.cells #[.int .i64 S.id, .slice X.g S.groups.length X.gc, .slice X.a S.apart.length X.ac, .slice X.b S.between.length X.bc, .slice X.p S.phases.length X.pc, .slice X.e S.eyes.length X.ec, .int .i64 S.watch, .int .i64 S.feed, .int .i64 S.heal, .int .i64 S.low, .int .i64 S.high, .slice X.l S.plans.length X.lc] 35)) ((w.alloc (.cells #[.int .i64 S.id, .slice X.g S.groups.length X.gc, .slice X.a S.apart.length X.ac, .slice X.b S.between.length X.bc, .slice X.p S.phases.length X.pc, .slice X.e S.eyes.length X.ec, .int .i64 S.watch, .int .i64 S.feed, .int .i64 S.heal, .int .i64 S.low, .int .i64 S.high, .slice X.l S.plans.length X.lc] 35)).alloc (.cells #[.slice a F.groups.length c, .int .i64 F.start, .bool F.flashed] 61)) none := Kept.alloc _ _ _ _ _
  have k3 : Kept ((w.alloc (.cells #[.int .i64 S.id, .slice X.g S.groups.length X.gc, .slice X.a S.apart.length X.ac, .slice X.b S.between.length X.bc, .slice X.p S.phases.length X.pc, .slice X.e S.eyes.length X.ec, .int .i64 S.watch, .int .i64 S.feed, .int .i64 S.heal, .int .i64 S.low, .int .i64 S.high, .slice X.l S.plans.length X.lc] 35)).alloc (.cells #[.slice a F.groups.length c, .int .i64 F.start, .bool F.flashed] 61)) (((w.alloc (.cells #[.int .i64 S.id, .slice X.g S.groups.length X.gc, .slice X.a S.apart.length X.ac, .slice X.b S.between.length X.bc, .slice X.p S.phases.length X.pc, .slice X.e S.eyes.length X.ec, .int .i64 S.watch, .int .i64 S.feed, .int .i64 S.heal, .int .i64 S.low, .int .i64 S.high, .slice X.l S.plans.length X.lc] 35)).alloc (.cells #[.slice a F.groups.length c, .int .i64 F.start, .bool F.flashed] 61)).alloc (.cells #[.slice none 0 0, .int .i64 0, .bool false] 61)) none := Kept.alloc _ _ _ _ _
  have hsb := (sbox_alloc h 35).kept (k2.tr k3)
  have bn := (box_alloc (w.alloc (.cells #[.int .i64 S.id, .slice X.g S.groups.length X.gc, .slice X.a S.apart.length X.ac, .slice X.b S.between.length X.bc, .slice X.p S.phases.length X.pc, .slice X.e S.eyes.length X.ec, .int .i64 S.watch, .int .i64 S.feed, .int .i64 S.heal, .int .i64 S.low, .int .i64 S.high, .slice X.l S.plans.length X.lc] 35)) (.slice a F.groups.length c) (.int .i64 F.start) (.bool F.flashed) 61).kept k3
  have br := box_alloc ((w.alloc (.cells #[.int .i64 S.id, .slice X.g S.groups.length X.gc, .slice X.a S.apart.length X.ac, .slice X.b S.between.length X.bc, .slice X.p S.phases.length X.pc, .slice X.e S.eyes.length X.ec, .int .i64 S.watch, .int .i64 S.feed, .int .i64 S.heal, .int .i64 S.low, .int .i64 S.high, .slice X.l S.plans.length X.lc] 35)).alloc (.cells #[.slice a F.groups.length c, .int .i64 F.start, .bool F.flashed] 61)) (.slice none 0 0) (.int .i64 0) (.bool false) 61
  have hsz : (((w.alloc (.cells #[.int .i64 S.id, .slice X.g S.groups.length X.gc, .slice X.a S.apart.length X.ac, .slice X.b S.between.length X.bc, .slice X.p S.phases.length X.pc, .slice X.e S.eyes.length X.ec, .int .i64 S.watch, .int .i64 S.feed, .int .i64 S.heal, .int .i64 S.low, .int .i64 S.high, .slice X.l S.plans.length X.lc] 35)).alloc (.cells #[.slice a F.groups.length c, .int .i64 F.start, .bool F.flashed] 61)).alloc (.cells #[.slice none 0 0, .int .i64 0, .bool false] 61)).heap.size = w.heap.size + 1 + 1 + 1 := by simp
  rw [World.size_alloc] at bn br
  rw [World.size_alloc] at br
  have hkA := (k1.tr k2).tr k3
  have hSA := h.kept hkA
  have hTA := hT.kept hkA
  have hFA := hF.kept hkA
  have hBA := hB.kept hkA
  obtain ⟨WA, hWA⟩ : ∃ WA, (((w.alloc (.cells #[.int .i64 S.id, .slice X.g S.groups.length X.gc, .slice X.a S.apart.length X.ac, .slice X.b S.between.length X.bc, .slice X.p S.phases.length X.pc, .slice X.e S.eyes.length X.ec, .int .i64 S.watch, .int .i64 S.feed, .int .i64 S.heal, .int .i64 S.low, .int .i64 S.high, .slice X.l S.plans.length X.lc] 35)).alloc (.cells #[.slice a F.groups.length c, .int .i64 F.start, .bool F.flashed] 61)).alloc (.cells #[.slice none 0 0, .int .i64 0, .bool false] 61)) = WA := ⟨_, rfl⟩
  rw [hWA] at hsb bn br hsz hkA hSA hTA hFA hBA
  have HSB := Hid.mk' hsb
  have HBN := Hid.mk' bn
  have HBR := Hid.mk' br
  have HSZ := Hid.mk' hsz
  have HK := Hid.mk' hkA
  have HS := Hid.mk' hSA
  have HT := Hid.mk' hTA
  have HF := Hid.mk' hFA
  have HB := Hid.mk' hBA
  have n0_ : ∀ w', Kept WA w' none → w'.cell? ⟨w.heap.size + 1, 0, none⟩ = some (.slice a F.groups.length c) := fun w' q => (HBN.out.kept q).c0
  have n1_ : ∀ w', Kept WA w' none → w'.cell? ⟨w.heap.size + 1, 1, none⟩ = some (.int .i64 F.start) := fun w' q => (HBN.out.kept q).c1
  have n2_ : ∀ w', Kept WA w' none → w'.cell? ⟨w.heap.size + 1, 2, none⟩ = some (.bool F.flashed) := fun w' q => (HBN.out.kept q).c2
  have r0_ : ∀ w', Kept WA w' none → w'.cell? ⟨w.heap.size + 1 + 1, 0, none⟩ = some (.slice none 0 0) := fun w' q => (HBR.out.kept q).c0
  have r1_ : ∀ w', Kept WA w' none → w'.cell? ⟨w.heap.size + 1 + 1, 1, none⟩ = some (.int .i64 0) := fun w' q => (HBR.out.kept q).c1
  have r2_ : ∀ w', Kept WA w' none → w'.cell? ⟨w.heap.size + 1 + 1, 2, none⟩ = some (.bool false) := fun w' q => (HBR.out.kept q).c2
  have z0_ : ∀ w', Kept WA w' none → w'.frozen? ⟨w.heap.size + 1 + 1, 0, none⟩ = false := fun w' q => (HBR.out.kept q).f0
  have z1_ : ∀ w', Kept WA w' none → w'.frozen? ⟨w.heap.size + 1 + 1, 1, none⟩ = false := fun w' q => (HBR.out.kept q).f1
  have z2_ : ∀ w', Kept WA w' none → w'.frozen? ⟨w.heap.size + 1 + 1, 2, none⟩ = false := fun w' q => (HBR.out.kept q).f2
  have s0_ := HSB.out.c0
  have s1_ := HSB.out.c1
  have s2_ := HSB.out.c2
  have s3_ := HSB.out.c3
  have s4_ := HSB.out.c4
  have s5_ := HSB.out.c5
  have s6_ := HSB.out.c6
  have s7_ := HSB.out.c7
  have s8_ := HSB.out.c8
  have s9_ := HSB.out.c9
  have s10_ := HSB.out.c10
  have s11_ := HSB.out.c11
  clear h hT hF hB k1 k2 k3 hsb bn br hsz hkA hSA hTA hFA hBA
  go_enter Tryd.func26, Tryd.ntmps26
  go_wp2_with (first | rw [hWA] | (go_at_call 43; refine (great_no HS.out HT.out hs).mono ?_; rintro e wG ⟨rfl, hkG⟩; have hKG : Kept WA wG none := hkG))
  exact bodyPost_ret (v := .tuple #[safe0, .int .u8 0, .int .i64 50]) (by simp [results, Tryd.results26, go_sem, *]) rfl ⟨rfl, by
    have hb : Kept w _ none := HK.out.tr hKG
    exact ((hb.setNew (by show w.heap.size ≤ w.heap.size + 1 + 1; omega) _).setNew (by show w.heap.size ≤ w.heap.size + 1 + 1; omega) _).setNew (by show w.heap.size ≤ w.heap.size + 1 + 1; omega) _⟩
set_option maxRecDepth 100000 in
set_option maxHeartbeats 1000000 in
theorem next_bad {X : Sa} {S : St} {w : World} {a : Option Addr} {c : Nat} {F : Sf} {al : Option Addr} {n cl : Nat} {L : List Nat} (h : Sat w X S) (hT : Tabb w) (hF : SafeAt w a c F) (hB : By w al n L) (hs : siteB S = true) (hm : mayS S F = false) : Calls Tryd.prog 26 #[siteV X S, safeV a c F, .slice al n cl] w fun e w' => e = .returned (.tuple #[safe0, .int .u8 0, .int .i64 8]) ∧ Kept w w' none := by
  have HSH := Hid.mk' (span_may hs).base.sh
  have k1 : Kept w (w.alloc (.cells #[.int .i64 S.id, .slice X.g S.groups.length X.gc, .slice X.a S.apart.length X.ac, .slice X.b S.between.length X.bc, .slice X.p S.phases.length X.pc, .slice X.e S.eyes.length X.ec, .int .i64 S.watch, .int .i64 S.feed, .int .i64 S.heal, .int .i64 S.low, .int .i64 S.high, .slice X.l S.plans.length X.lc] 35)) none := Kept.alloc _ _ _ _ _
  have k2 : Kept (w.alloc (.cells #[.int .i64 S.id, .slice X.g S.groups.length X.gc, .slice X.a S.apart.length X.ac, .slice X.b S.between.length X.bc, .slice X.p S.phases.length X.pc, .slice X.e S.eyes.length X.ec, .int .i64 S.watch, .int .i64 S.feed, .int .i64 S.heal, .int .i64 S.low, .int .i64 S.high, .slice X.l S.plans.length X.lc] 35)) ((w.alloc (.cells #[.int .i64 S.id, .slice X.g S.groups.length X.gc, .slice X.a S.apart.length X.ac, .slice X.b S.between.length X.bc, .slice X.p S.phases.length X.pc, .slice X.e S.eyes.length X.ec, .int .i64 S.watch, .int .i64 S.feed, .int .i64 S.heal, .int .i64 S.low, .int .i64 S.high, .slice X.l S.plans.length X.lc] 35)).alloc (.cells #[.slice a F.groups.length c, .int .i64 F.start, .bool F.flashed] 61)) none := Kept.alloc _ _ _ _ _
  have k3 : Kept ((w.alloc (.cells #[.int .i64 S.id, .slice X.g S.groups.length X.gc, .slice X.a S.apart.length X.ac, .slice X.b S.between.length X.bc, .slice X.p S.phases.length X.pc, .slice X.e S.eyes.length X.ec, .int .i64 S.watch, .int .i64 S.feed, .int .i64 S.heal, .int .i64 S.low, .int .i64 S.high, .slice X.l S.plans.length X.lc] 35)).alloc (.cells #[.slice a F.groups.length c, .int .i64 F.start, .bool F.flashed] 61)) (((w.alloc (.cells #[.int .i64 S.id, .slice X.g S.groups.length X.gc, .slice X.a S.apart.length X.ac, .slice X.b S.between.length X.bc, .slice X.p S.phases.length X.pc, .slice X.e S.eyes.length X.ec, .int .i64 S.watch, .int .i64 S.feed, .int .i64 S.heal, .int .i64 S.low, .int .i64 S.high, .slice X.l S.plans.length X.lc] 35)).alloc (.cells #[.slice a F.groups.length c, .int .i64 F.start, .bool F.flashed] 61)).alloc (.cells #[.slice none 0 0, .int .i64 0, .bool false] 61)) none := Kept.alloc _ _ _ _ _
  have hsb := (sbox_alloc h 35).kept (k2.tr k3)
  have bn := (box_alloc (w.alloc (.cells #[.int .i64 S.id, .slice X.g S.groups.length X.gc, .slice X.a S.apart.length X.ac, .slice X.b S.between.length X.bc, .slice X.p S.phases.length X.pc, .slice X.e S.eyes.length X.ec, .int .i64 S.watch, .int .i64 S.feed, .int .i64 S.heal, .int .i64 S.low, .int .i64 S.high, .slice X.l S.plans.length X.lc] 35)) (.slice a F.groups.length c) (.int .i64 F.start) (.bool F.flashed) 61).kept k3
  have br := box_alloc ((w.alloc (.cells #[.int .i64 S.id, .slice X.g S.groups.length X.gc, .slice X.a S.apart.length X.ac, .slice X.b S.between.length X.bc, .slice X.p S.phases.length X.pc, .slice X.e S.eyes.length X.ec, .int .i64 S.watch, .int .i64 S.feed, .int .i64 S.heal, .int .i64 S.low, .int .i64 S.high, .slice X.l S.plans.length X.lc] 35)).alloc (.cells #[.slice a F.groups.length c, .int .i64 F.start, .bool F.flashed] 61)) (.slice none 0 0) (.int .i64 0) (.bool false) 61
  have hsz : (((w.alloc (.cells #[.int .i64 S.id, .slice X.g S.groups.length X.gc, .slice X.a S.apart.length X.ac, .slice X.b S.between.length X.bc, .slice X.p S.phases.length X.pc, .slice X.e S.eyes.length X.ec, .int .i64 S.watch, .int .i64 S.feed, .int .i64 S.heal, .int .i64 S.low, .int .i64 S.high, .slice X.l S.plans.length X.lc] 35)).alloc (.cells #[.slice a F.groups.length c, .int .i64 F.start, .bool F.flashed] 61)).alloc (.cells #[.slice none 0 0, .int .i64 0, .bool false] 61)).heap.size = w.heap.size + 1 + 1 + 1 := by simp
  rw [World.size_alloc] at bn br
  rw [World.size_alloc] at br
  have hkA := (k1.tr k2).tr k3
  have hSA := h.kept hkA
  have hTA := hT.kept hkA
  have hFA := hF.kept hkA
  have hBA := hB.kept hkA
  obtain ⟨WA, hWA⟩ : ∃ WA, (((w.alloc (.cells #[.int .i64 S.id, .slice X.g S.groups.length X.gc, .slice X.a S.apart.length X.ac, .slice X.b S.between.length X.bc, .slice X.p S.phases.length X.pc, .slice X.e S.eyes.length X.ec, .int .i64 S.watch, .int .i64 S.feed, .int .i64 S.heal, .int .i64 S.low, .int .i64 S.high, .slice X.l S.plans.length X.lc] 35)).alloc (.cells #[.slice a F.groups.length c, .int .i64 F.start, .bool F.flashed] 61)).alloc (.cells #[.slice none 0 0, .int .i64 0, .bool false] 61)) = WA := ⟨_, rfl⟩
  rw [hWA] at hsb bn br hsz hkA hSA hTA hFA hBA
  have HSB := Hid.mk' hsb
  have HBN := Hid.mk' bn
  have HBR := Hid.mk' br
  have HSZ := Hid.mk' hsz
  have HK := Hid.mk' hkA
  have HS := Hid.mk' hSA
  have HT := Hid.mk' hTA
  have HF := Hid.mk' hFA
  have HB := Hid.mk' hBA
  have n0_ : ∀ w', Kept WA w' none → w'.cell? ⟨w.heap.size + 1, 0, none⟩ = some (.slice a F.groups.length c) := fun w' q => (HBN.out.kept q).c0
  have n1_ : ∀ w', Kept WA w' none → w'.cell? ⟨w.heap.size + 1, 1, none⟩ = some (.int .i64 F.start) := fun w' q => (HBN.out.kept q).c1
  have n2_ : ∀ w', Kept WA w' none → w'.cell? ⟨w.heap.size + 1, 2, none⟩ = some (.bool F.flashed) := fun w' q => (HBN.out.kept q).c2
  have r0_ : ∀ w', Kept WA w' none → w'.cell? ⟨w.heap.size + 1 + 1, 0, none⟩ = some (.slice none 0 0) := fun w' q => (HBR.out.kept q).c0
  have r1_ : ∀ w', Kept WA w' none → w'.cell? ⟨w.heap.size + 1 + 1, 1, none⟩ = some (.int .i64 0) := fun w' q => (HBR.out.kept q).c1
  have r2_ : ∀ w', Kept WA w' none → w'.cell? ⟨w.heap.size + 1 + 1, 2, none⟩ = some (.bool false) := fun w' q => (HBR.out.kept q).c2
  have z0_ : ∀ w', Kept WA w' none → w'.frozen? ⟨w.heap.size + 1 + 1, 0, none⟩ = false := fun w' q => (HBR.out.kept q).f0
  have z1_ : ∀ w', Kept WA w' none → w'.frozen? ⟨w.heap.size + 1 + 1, 1, none⟩ = false := fun w' q => (HBR.out.kept q).f1
  have z2_ : ∀ w', Kept WA w' none → w'.frozen? ⟨w.heap.size + 1 + 1, 2, none⟩ = false := fun w' q => (HBR.out.kept q).f2
  have s0_ := HSB.out.c0
  have s1_ := HSB.out.c1
  have s2_ := HSB.out.c2
  have s3_ := HSB.out.c3
  have s4_ := HSB.out.c4
  have s5_ := HSB.out.c5
  have s6_ := HSB.out.c6
  have s7_ := HSB.out.c7
  have s8_ := HSB.out.c8
  have s9_ := HSB.out.c9
  have s10_ := HSB.out.c10
  have s11_ := HSB.out.c11
  clear h hT hF hB k1 k2 k3 hsb bn br hsz hkA hSA hTA hFA hBA
  go_enter Tryd.func26, Tryd.ntmps26
  go_wp2_with (first | rw [hWA] | (go_at_call 43; refine (great_yes HS.out HT.out hs).mono ?_; rintro e wG ⟨rfl, hkG⟩; have hKG : Kept WA wG none := hkG) | (go_at_call 48; refine (maybe_any (HSB.out.kept hKG) HSH.out (HF.out.kept hKG)).mono ?_; rintro e wM ⟨rfl, hkM⟩; have hKM : Kept WA wM none := Kept.tr hKG hkM; rw [hm]))
  exact bodyPost_ret (v := .tuple #[safe0, .int .u8 0, .int .i64 8]) (by simp [results, Tryd.results26, go_sem, *]) rfl ⟨rfl, by
    have hb : Kept w _ none := HK.out.tr hKM
    exact ((hb.setNew (by show w.heap.size ≤ w.heap.size + 1 + 1; omega) _).setNew (by show w.heap.size ≤ w.heap.size + 1 + 1; omega) _).setNew (by show w.heap.size ≤ w.heap.size + 1 + 1; omega) _⟩
set_option maxRecDepth 100000 in
set_option maxHeartbeats 2000000 in
theorem next_fault {X : Sa} {S : St} {w : World} {a : Option Addr} {c : Nat} {F : Sf} {al : Option Addr} {n cl : Nat} {L : List Nat} (h : Sat w X S) (hT : Tabb w) (hF : SafeAt w a c F) (hB : By w al n L) (hs : siteB S = true) (hm : mayS S F = true) (hz : faultV S F L ≠ 0) : Calls Tryd.prog 26 #[siteV X S, safeV a c F, .slice al n cl] w fun e w' => ∃ b, e = .returned (.tuple #[safeV (some ⟨b, 0, none⟩) F.groups.length F, .int .u8 (faultV S F L), .int .i64 0]) ∧ w.heap.size ≤ b ∧ OwnG w' b F.groups.length F.g ∧ Kept w w' none := by
  have HSH := Hid.mk' (span_may hs).base.sh
  have hng := HSH.out.ok.ng
  have hm0 := hm
  unfold mayS at hm0
  simp only [Bool.and_eq_true, decide_eq_true_eq, inB_iff] at hm0
  obtain ⟨hfn, ⟨hst0, hst1⟩, _⟩ := hm0
  have HFN := Hid.mk' hfn
  have hFpos : 0 < F.groups.length := by omega
  have hFle : F.groups.length ≤ 100 := by omega
  have HRNG := Hid.mk' hF.rng
  have HWR := Hid.mk' (worst_rng hs)
  clear hfn
  have k1 : Kept w (w.alloc (.cells #[.int .i64 S.id, .slice X.g S.groups.length X.gc, .slice X.a S.apart.length X.ac, .slice X.b S.between.length X.bc, .slice X.p S.phases.length X.pc, .slice X.e S.eyes.length X.ec, .int .i64 S.watch, .int .i64 S.feed, .int .i64 S.heal, .int .i64 S.low, .int .i64 S.high, .slice X.l S.plans.length X.lc] 35)) none := Kept.alloc _ _ _ _ _
  have k2 : Kept (w.alloc (.cells #[.int .i64 S.id, .slice X.g S.groups.length X.gc, .slice X.a S.apart.length X.ac, .slice X.b S.between.length X.bc, .slice X.p S.phases.length X.pc, .slice X.e S.eyes.length X.ec, .int .i64 S.watch, .int .i64 S.feed, .int .i64 S.heal, .int .i64 S.low, .int .i64 S.high, .slice X.l S.plans.length X.lc] 35)) ((w.alloc (.cells #[.int .i64 S.id, .slice X.g S.groups.length X.gc, .slice X.a S.apart.length X.ac, .slice X.b S.between.length X.bc, .slice X.p S.phases.length X.pc, .slice X.e S.eyes.length X.ec, .int .i64 S.watch, .int .i64 S.feed, .int .i64 S.heal, .int .i64 S.low, .int .i64 S.high, .slice X.l S.plans.length X.lc] 35)).alloc (.cells #[.slice a F.groups.length c, .int .i64 F.start, .bool F.flashed] 61)) none := Kept.alloc _ _ _ _ _
  have k3 : Kept ((w.alloc (.cells #[.int .i64 S.id, .slice X.g S.groups.length X.gc, .slice X.a S.apart.length X.ac, .slice X.b S.between.length X.bc, .slice X.p S.phases.length X.pc, .slice X.e S.eyes.length X.ec, .int .i64 S.watch, .int .i64 S.feed, .int .i64 S.heal, .int .i64 S.low, .int .i64 S.high, .slice X.l S.plans.length X.lc] 35)).alloc (.cells #[.slice a F.groups.length c, .int .i64 F.start, .bool F.flashed] 61)) (((w.alloc (.cells #[.int .i64 S.id, .slice X.g S.groups.length X.gc, .slice X.a S.apart.length X.ac, .slice X.b S.between.length X.bc, .slice X.p S.phases.length X.pc, .slice X.e S.eyes.length X.ec, .int .i64 S.watch, .int .i64 S.feed, .int .i64 S.heal, .int .i64 S.low, .int .i64 S.high, .slice X.l S.plans.length X.lc] 35)).alloc (.cells #[.slice a F.groups.length c, .int .i64 F.start, .bool F.flashed] 61)).alloc (.cells #[.slice none 0 0, .int .i64 0, .bool false] 61)) none := Kept.alloc _ _ _ _ _
  have hsb := (sbox_alloc h 35).kept (k2.tr k3)
  have bn := (box_alloc (w.alloc (.cells #[.int .i64 S.id, .slice X.g S.groups.length X.gc, .slice X.a S.apart.length X.ac, .slice X.b S.between.length X.bc, .slice X.p S.phases.length X.pc, .slice X.e S.eyes.length X.ec, .int .i64 S.watch, .int .i64 S.feed, .int .i64 S.heal, .int .i64 S.low, .int .i64 S.high, .slice X.l S.plans.length X.lc] 35)) (.slice a F.groups.length c) (.int .i64 F.start) (.bool F.flashed) 61).kept k3
  have br := box_alloc ((w.alloc (.cells #[.int .i64 S.id, .slice X.g S.groups.length X.gc, .slice X.a S.apart.length X.ac, .slice X.b S.between.length X.bc, .slice X.p S.phases.length X.pc, .slice X.e S.eyes.length X.ec, .int .i64 S.watch, .int .i64 S.feed, .int .i64 S.heal, .int .i64 S.low, .int .i64 S.high, .slice X.l S.plans.length X.lc] 35)).alloc (.cells #[.slice a F.groups.length c, .int .i64 F.start, .bool F.flashed] 61)) (.slice none 0 0) (.int .i64 0) (.bool false) 61
  have hsz : (((w.alloc (.cells #[.int .i64 S.id, .slice X.g S.groups.length X.gc, .slice X.a S.apart.length X.ac, .slice X.b S.between.length X.bc, .slice X.p S.phases.length X.pc, .slice X.e S.eyes.length X.ec, .int .i64 S.watch, .int .i64 S.feed, .int .i64 S.heal, .int .i64 S.low, .int .i64 S.high, .slice X.l S.plans.length X.lc] 35)).alloc (.cells #[.slice a F.groups.length c, .int .i64 F.start, .bool F.flashed] 61)).alloc (.cells #[.slice none 0 0, .int .i64 0, .bool false] 61)).heap.size = w.heap.size + 1 + 1 + 1 := by simp
  rw [World.size_alloc] at bn br
  rw [World.size_alloc] at br
  have hkA := (k1.tr k2).tr k3
  have hSA := h.kept hkA
  have hTA := hT.kept hkA
  have hFA := hF.kept hkA
  have hBA := hB.kept hkA
  obtain ⟨WA, hWA⟩ : ∃ WA, (((w.alloc (.cells #[.int .i64 S.id, .slice X.g S.groups.length X.gc, .slice X.a S.apart.length X.ac, .slice X.b S.between.length X.bc, .slice X.p S.phases.length X.pc, .slice X.e S.eyes.length X.ec, .int .i64 S.watch, .int .i64 S.feed, .int .i64 S.heal, .int .i64 S.low, .int .i64 S.high, .slice X.l S.plans.length X.lc] 35)).alloc (.cells #[.slice a F.groups.length c, .int .i64 F.start, .bool F.flashed] 61)).alloc (.cells #[.slice none 0 0, .int .i64 0, .bool false] 61)) = WA := ⟨_, rfl⟩
  rw [hWA] at hsb bn br hsz hkA hSA hTA hFA hBA
  have HSB := Hid.mk' hsb
  have HBN := Hid.mk' bn
  have HBR := Hid.mk' br
  have HSZ := Hid.mk' hsz
  have HK := Hid.mk' hkA
  have HS := Hid.mk' hSA
  have HT := Hid.mk' hTA
  have HF := Hid.mk' hFA
  have HB := Hid.mk' hBA
  have n0_ : ∀ w', Kept WA w' none → w'.cell? ⟨w.heap.size + 1, 0, none⟩ = some (.slice a F.groups.length c) := fun w' q => (HBN.out.kept q).c0
  have n1_ : ∀ w', Kept WA w' none → w'.cell? ⟨w.heap.size + 1, 1, none⟩ = some (.int .i64 F.start) := fun w' q => (HBN.out.kept q).c1
  have n2_ : ∀ w', Kept WA w' none → w'.cell? ⟨w.heap.size + 1, 2, none⟩ = some (.bool F.flashed) := fun w' q => (HBN.out.kept q).c2
  have r0_ : ∀ w', Kept WA w' none → w'.cell? ⟨w.heap.size + 1 + 1, 0, none⟩ = some (.slice none 0 0) := fun w' q => (HBR.out.kept q).c0
  have r1_ : ∀ w', Kept WA w' none → w'.cell? ⟨w.heap.size + 1 + 1, 1, none⟩ = some (.int .i64 0) := fun w' q => (HBR.out.kept q).c1
  have r2_ : ∀ w', Kept WA w' none → w'.cell? ⟨w.heap.size + 1 + 1, 2, none⟩ = some (.bool false) := fun w' q => (HBR.out.kept q).c2
  have z0_ : ∀ w', Kept WA w' none → w'.frozen? ⟨w.heap.size + 1 + 1, 0, none⟩ = false := fun w' q => (HBR.out.kept q).f0
  have z1_ : ∀ w', Kept WA w' none → w'.frozen? ⟨w.heap.size + 1 + 1, 1, none⟩ = false := fun w' q => (HBR.out.kept q).f1
  have z2_ : ∀ w', Kept WA w' none → w'.frozen? ⟨w.heap.size + 1 + 1, 2, none⟩ = false := fun w' q => (HBR.out.kept q).f2
  have s0_ := HSB.out.c0
  have s1_ := HSB.out.c1
  have s2_ := HSB.out.c2
  have s3_ := HSB.out.c3
  have s4_ := HSB.out.c4
  have s5_ := HSB.out.c5
  have s6_ := HSB.out.c6
  have s7_ := HSB.out.c7
  have s8_ := HSB.out.c8
  have s9_ := HSB.out.c9
  have s10_ := HSB.out.c10
  have s11_ := HSB.out.c11
  clear h hT hF hB k1 k2 k3 hsb bn br hsz hkA hSA hTA hFA hBA
  go_enter Tryd.func26, Tryd.ntmps26
  go_wp2_with (first | rw [hWA] | (go_at_call 43; refine (great_yes HS.out HT.out hs).mono ?_; rintro e wG ⟨rfl, hkG⟩; have hKG : Kept WA wG none := hkG) | (go_at_call 48; refine (maybe_any (HSB.out.kept hKG) HSH.out (HF.out.kept hKG)).mono ?_; rintro e wM ⟨rfl, hkM⟩; have hKM : Kept WA wM none := Kept.tr hKG hkM; rw [hm]) | (go_at_call 49; refine (copied_any (HF.out.kept hKM) hFpos hFle).mono ?_; rintro e wC ⟨b, rfl, hbm, hog, hkC⟩; have hKC : Kept WA wC none := Kept.tr hKM hkC))
  have kN : Kept wC (wC.alloc (.cells #[.slice (some ⟨b, 0, none⟩) F.groups.length F.groups.length, .int .i64 F.start, .bool F.flashed] 61)) none := Kept.alloc _ _ _ _ _
  have bN := box_alloc wC (.slice (some ⟨b, 0, none⟩) F.groups.length F.groups.length) (.int .i64 F.start) (.bool F.flashed) 61
  obtain ⟨W5, hW5⟩ : ∃ W5, wC.alloc (.cells #[.slice (some ⟨b, 0, none⟩) F.groups.length F.groups.length, .int .i64 F.start, .bool F.flashed] 61) = W5 := ⟨_, rfl⟩
  rw [hW5] at kN bN ⊢
  have hog5 : OwnG W5 b F.groups.length F.g := row_kept hog kN (by simp)
  have HSA := Hid.mk' (hog5.safe (F := F) rfl (fun _ _ => rfl) (by omega) HRNG.out)
  have HOG := Hid.mk' hog5
  have BN := Hid.mk' bN
  have hK5 : Kept WA W5 none := hKC.tr kN
  have hM5 : Kept wM W5 none := hkC.tr kN
  have HMC := Hid.mk' hkC.size
  have hbC := hog.lt
  have m0_ : ∀ w', Kept W5 w' none → w'.cell? ⟨wC.heap.size, 0, none⟩ = some (.slice (some ⟨b, 0, none⟩) F.groups.length F.groups.length) := fun w' q => (BN.out.kept q).c0
  have m1_ : ∀ w', Kept W5 w' none → w'.cell? ⟨wC.heap.size, 1, none⟩ = some (.int .i64 F.start) := fun w' q => (BN.out.kept q).c1
  have m2_ : ∀ w', Kept W5 w' none → w'.cell? ⟨wC.heap.size, 2, none⟩ = some (.bool F.flashed) := fun w' q => (BN.out.kept q).c2
  have hR5 := Kept.refl W5 none
  have hAsz := hKM.size
  rw [HSZ.out] at hAsz
  clear hW5 kN bN hog5 hog hkC
  have hzb : (faultV S F L == 0) = false := by simpa using hz
  have hbR : b ≠ w.heap.size + 1 + 1 := by omega
  go_wp2_with (go_at_call 50; refine (fault_any (HSB.out.kept hK5) HSH.out HSA.out HFN.out (HB.out.kept hK5)).mono ?_; rintro e wF ⟨rfl, hkF⟩; have hKF : Kept WA wF none := Kept.tr hK5 hkF)
  have g0_ := m0_ wF hkF
  have g1_ := m1_ wF hkF
  have g2_ := m2_ wF hkF
  refine bodyPost_ret (v := .tuple #[.agg #[.slice (some ⟨b, 0, none⟩) F.groups.length F.groups.length, .int .i64 F.start, .bool F.flashed], .int .u8 (faultV S F L), .int .i64 0]) (by simp [results, Tryd.results26, go_sem, *]) rfl ⟨b, rfl, by omega, (((row_kept HOG.out hkF (by simp)).setOther (a := ⟨w.heap.size + 1 + 1, 0, none⟩) hbR _).setOther (a := ⟨w.heap.size + 1 + 1, 1, none⟩) hbR _).setOther (a := ⟨w.heap.size + 1 + 1, 2, none⟩) hbR _, ?_⟩
  have hb : Kept w _ none := HK.out.tr hKF
  exact ((hb.setNew (by show w.heap.size ≤ w.heap.size + 1 + 1; omega) _).setNew (by show w.heap.size ≤ w.heap.size + 1 + 1; omega) _).setNew (by show w.heap.size ≤ w.heap.size + 1 + 1; omega) _
theorem fault_len {S : St} {F : Sf} {L : List Nat} (h : faultV S F L = 0) : L.length = S.groups.length := by
  unfold faultV at h
  by_cases e : L.length = S.groups.length
  · exact e
  · rw [if_pos e] at h; cases h
set_option maxRecDepth 100000 in
set_option maxHeartbeats 2000000 in
theorem next_go {X : Sa} {S : St} {w : World} {a : Option Addr} {c : Nat} {F : Sf} {al : Option Addr} {n cl : Nat} {L : List Nat} (h : Sat w X S) (hT : Tabb w) (hF : SafeAt w a c F) (hB : By w al n L) (hs : siteB S = true) (hm : mayS S F = true) (hz : faultV S F L = 0) : Calls Tryd.prog 26 #[siteV X S, safeV a c F, .slice al n cl] w fun e w' => ∃ b, e = .returned (.tuple #[safeV (some ⟨b, 0, none⟩) S.groups.length (behindV S F L), .int .u8 0, .int .i64 0]) ∧ w.heap.size ≤ b ∧ OwnG w' b S.groups.length (fun i => sndV (F.g i) (lg L i)) ∧ Kept w w' none := by
  have hLn := fault_len hz
  have hnn := hB.size
  have HLEN : Hid ((behindV S F L).groups.length = S.groups.length) := (behindV_len S F L).trans hLn
  have HSH := Hid.mk' (span_may hs).base.sh
  have hng := HSH.out.ok.ng
  have hm0 := hm
  unfold mayS at hm0
  simp only [Bool.and_eq_true, decide_eq_true_eq, inB_iff] at hm0
  obtain ⟨hfn, ⟨hst0, hst1⟩, _⟩ := hm0
  have HFN := Hid.mk' hfn
  have hFpos : 0 < F.groups.length := by omega
  have hFle : F.groups.length ≤ 100 := by omega
  have HRNG := Hid.mk' hF.rng
  have HWR := Hid.mk' (worst_rng hs)
  clear hfn
  have k1 : Kept w (w.alloc (.cells #[.int .i64 S.id, .slice X.g S.groups.length X.gc, .slice X.a S.apart.length X.ac, .slice X.b S.between.length X.bc, .slice X.p S.phases.length X.pc, .slice X.e S.eyes.length X.ec, .int .i64 S.watch, .int .i64 S.feed, .int .i64 S.heal, .int .i64 S.low, .int .i64 S.high, .slice X.l S.plans.length X.lc] 35)) none := Kept.alloc _ _ _ _ _
  have k2 : Kept (w.alloc (.cells #[.int .i64 S.id, .slice X.g S.groups.length X.gc, .slice X.a S.apart.length X.ac, .slice X.b S.between.length X.bc, .slice X.p S.phases.length X.pc, .slice X.e S.eyes.length X.ec, .int .i64 S.watch, .int .i64 S.feed, .int .i64 S.heal, .int .i64 S.low, .int .i64 S.high, .slice X.l S.plans.length X.lc] 35)) ((w.alloc (.cells #[.int .i64 S.id, .slice X.g S.groups.length X.gc, .slice X.a S.apart.length X.ac, .slice X.b S.between.length X.bc, .slice X.p S.phases.length X.pc, .slice X.e S.eyes.length X.ec, .int .i64 S.watch, .int .i64 S.feed, .int .i64 S.heal, .int .i64 S.low, .int .i64 S.high, .slice X.l S.plans.length X.lc] 35)).alloc (.cells #[.slice a F.groups.length c, .int .i64 F.start, .bool F.flashed] 61)) none := Kept.alloc _ _ _ _ _
  have k3 : Kept ((w.alloc (.cells #[.int .i64 S.id, .slice X.g S.groups.length X.gc, .slice X.a S.apart.length X.ac, .slice X.b S.between.length X.bc, .slice X.p S.phases.length X.pc, .slice X.e S.eyes.length X.ec, .int .i64 S.watch, .int .i64 S.feed, .int .i64 S.heal, .int .i64 S.low, .int .i64 S.high, .slice X.l S.plans.length X.lc] 35)).alloc (.cells #[.slice a F.groups.length c, .int .i64 F.start, .bool F.flashed] 61)) (((w.alloc (.cells #[.int .i64 S.id, .slice X.g S.groups.length X.gc, .slice X.a S.apart.length X.ac, .slice X.b S.between.length X.bc, .slice X.p S.phases.length X.pc, .slice X.e S.eyes.length X.ec, .int .i64 S.watch, .int .i64 S.feed, .int .i64 S.heal, .int .i64 S.low, .int .i64 S.high, .slice X.l S.plans.length X.lc] 35)).alloc (.cells #[.slice a F.groups.length c, .int .i64 F.start, .bool F.flashed] 61)).alloc (.cells #[.slice none 0 0, .int .i64 0, .bool false] 61)) none := Kept.alloc _ _ _ _ _
  have hsb := (sbox_alloc h 35).kept (k2.tr k3)
  have bn := (box_alloc (w.alloc (.cells #[.int .i64 S.id, .slice X.g S.groups.length X.gc, .slice X.a S.apart.length X.ac, .slice X.b S.between.length X.bc, .slice X.p S.phases.length X.pc, .slice X.e S.eyes.length X.ec, .int .i64 S.watch, .int .i64 S.feed, .int .i64 S.heal, .int .i64 S.low, .int .i64 S.high, .slice X.l S.plans.length X.lc] 35)) (.slice a F.groups.length c) (.int .i64 F.start) (.bool F.flashed) 61).kept k3
  have br := box_alloc ((w.alloc (.cells #[.int .i64 S.id, .slice X.g S.groups.length X.gc, .slice X.a S.apart.length X.ac, .slice X.b S.between.length X.bc, .slice X.p S.phases.length X.pc, .slice X.e S.eyes.length X.ec, .int .i64 S.watch, .int .i64 S.feed, .int .i64 S.heal, .int .i64 S.low, .int .i64 S.high, .slice X.l S.plans.length X.lc] 35)).alloc (.cells #[.slice a F.groups.length c, .int .i64 F.start, .bool F.flashed] 61)) (.slice none 0 0) (.int .i64 0) (.bool false) 61
  have hsz : (((w.alloc (.cells #[.int .i64 S.id, .slice X.g S.groups.length X.gc, .slice X.a S.apart.length X.ac, .slice X.b S.between.length X.bc, .slice X.p S.phases.length X.pc, .slice X.e S.eyes.length X.ec, .int .i64 S.watch, .int .i64 S.feed, .int .i64 S.heal, .int .i64 S.low, .int .i64 S.high, .slice X.l S.plans.length X.lc] 35)).alloc (.cells #[.slice a F.groups.length c, .int .i64 F.start, .bool F.flashed] 61)).alloc (.cells #[.slice none 0 0, .int .i64 0, .bool false] 61)).heap.size = w.heap.size + 1 + 1 + 1 := by simp
  rw [World.size_alloc] at bn br
  rw [World.size_alloc] at br
  have hkA := (k1.tr k2).tr k3
  have hSA := h.kept hkA
  have hTA := hT.kept hkA
  have hFA := hF.kept hkA
  have hBA := hB.kept hkA
  obtain ⟨WA, hWA⟩ : ∃ WA, (((w.alloc (.cells #[.int .i64 S.id, .slice X.g S.groups.length X.gc, .slice X.a S.apart.length X.ac, .slice X.b S.between.length X.bc, .slice X.p S.phases.length X.pc, .slice X.e S.eyes.length X.ec, .int .i64 S.watch, .int .i64 S.feed, .int .i64 S.heal, .int .i64 S.low, .int .i64 S.high, .slice X.l S.plans.length X.lc] 35)).alloc (.cells #[.slice a F.groups.length c, .int .i64 F.start, .bool F.flashed] 61)).alloc (.cells #[.slice none 0 0, .int .i64 0, .bool false] 61)) = WA := ⟨_, rfl⟩
  rw [hWA] at hsb bn br hsz hkA hSA hTA hFA hBA
  have HSB := Hid.mk' hsb
  have HBN := Hid.mk' bn
  have HBR := Hid.mk' br
  have HSZ := Hid.mk' hsz
  have HK := Hid.mk' hkA
  have HS := Hid.mk' hSA
  have HT := Hid.mk' hTA
  have HF := Hid.mk' hFA
  have HB := Hid.mk' hBA
  have n0_ : ∀ w', Kept WA w' none → w'.cell? ⟨w.heap.size + 1, 0, none⟩ = some (.slice a F.groups.length c) := fun w' q => (HBN.out.kept q).c0
  have n1_ : ∀ w', Kept WA w' none → w'.cell? ⟨w.heap.size + 1, 1, none⟩ = some (.int .i64 F.start) := fun w' q => (HBN.out.kept q).c1
  have n2_ : ∀ w', Kept WA w' none → w'.cell? ⟨w.heap.size + 1, 2, none⟩ = some (.bool F.flashed) := fun w' q => (HBN.out.kept q).c2
  have r0_ : ∀ w', Kept WA w' none → w'.cell? ⟨w.heap.size + 1 + 1, 0, none⟩ = some (.slice none 0 0) := fun w' q => (HBR.out.kept q).c0
  have r1_ : ∀ w', Kept WA w' none → w'.cell? ⟨w.heap.size + 1 + 1, 1, none⟩ = some (.int .i64 0) := fun w' q => (HBR.out.kept q).c1
  have r2_ : ∀ w', Kept WA w' none → w'.cell? ⟨w.heap.size + 1 + 1, 2, none⟩ = some (.bool false) := fun w' q => (HBR.out.kept q).c2
  have z0_ : ∀ w', Kept WA w' none → w'.frozen? ⟨w.heap.size + 1 + 1, 0, none⟩ = false := fun w' q => (HBR.out.kept q).f0
  have z1_ : ∀ w', Kept WA w' none → w'.frozen? ⟨w.heap.size + 1 + 1, 1, none⟩ = false := fun w' q => (HBR.out.kept q).f1
  have z2_ : ∀ w', Kept WA w' none → w'.frozen? ⟨w.heap.size + 1 + 1, 2, none⟩ = false := fun w' q => (HBR.out.kept q).f2
  have s0_ := HSB.out.c0
  have s1_ := HSB.out.c1
  have s2_ := HSB.out.c2
  have s3_ := HSB.out.c3
  have s4_ := HSB.out.c4
  have s5_ := HSB.out.c5
  have s6_ := HSB.out.c6
  have s7_ := HSB.out.c7
  have s8_ := HSB.out.c8
  have s9_ := HSB.out.c9
  have s10_ := HSB.out.c10
  have s11_ := HSB.out.c11
  clear h hT hF hB k1 k2 k3 hsb bn br hsz hkA hSA hTA hFA hBA
  go_enter Tryd.func26, Tryd.ntmps26
  go_wp2_with (first | rw [hWA] | (go_at_call 43; refine (great_yes HS.out HT.out hs).mono ?_; rintro e wG ⟨rfl, hkG⟩; have hKG : Kept WA wG none := hkG) | (go_at_call 48; refine (maybe_any (HSB.out.kept hKG) HSH.out (HF.out.kept hKG)).mono ?_; rintro e wM ⟨rfl, hkM⟩; have hKM : Kept WA wM none := Kept.tr hKG hkM; rw [hm]) | (go_at_call 49; refine (copied_any (HF.out.kept hKM) hFpos hFle).mono ?_; rintro e wC ⟨b, rfl, hbm, hog, hkC⟩; have hKC : Kept WA wC none := Kept.tr hKM hkC))
  have kN : Kept wC (wC.alloc (.cells #[.slice (some ⟨b, 0, none⟩) F.groups.length F.groups.length, .int .i64 F.start, .bool F.flashed] 61)) none := Kept.alloc _ _ _ _ _
  have bN := box_alloc wC (.slice (some ⟨b, 0, none⟩) F.groups.length F.groups.length) (.int .i64 F.start) (.bool F.flashed) 61
  obtain ⟨W5, hW5⟩ : ∃ W5, wC.alloc (.cells #[.slice (some ⟨b, 0, none⟩) F.groups.length F.groups.length, .int .i64 F.start, .bool F.flashed] 61) = W5 := ⟨_, rfl⟩
  rw [hW5] at kN bN ⊢
  have hog5 : OwnG W5 b F.groups.length F.g := row_kept hog kN (by simp)
  have HSA := Hid.mk' (hog5.safe (F := F) rfl (fun _ _ => rfl) (by omega) HRNG.out)
  have HOG := Hid.mk' hog5
  have BN := Hid.mk' bN
  have hK5 : Kept WA W5 none := hKC.tr kN
  have hM5 : Kept wM W5 none := hkC.tr kN
  have HMC := Hid.mk' hkC.size
  have hbC := hog.lt
  have m0_ : ∀ w', Kept W5 w' none → w'.cell? ⟨wC.heap.size, 0, none⟩ = some (.slice (some ⟨b, 0, none⟩) F.groups.length F.groups.length) := fun w' q => (BN.out.kept q).c0
  have m1_ : ∀ w', Kept W5 w' none → w'.cell? ⟨wC.heap.size, 1, none⟩ = some (.int .i64 F.start) := fun w' q => (BN.out.kept q).c1
  have m2_ : ∀ w', Kept W5 w' none → w'.cell? ⟨wC.heap.size, 2, none⟩ = some (.bool F.flashed) := fun w' q => (BN.out.kept q).c2
  have hR5 := Kept.refl W5 none
  have hAsz := hKM.size
  rw [HSZ.out] at hAsz
  clear hW5 kN bN hog5 hog hkC
  have hnF : n = F.groups.length := by have := HFN.out; omega
  subst hnF
  have hbR : b ≠ w.heap.size + 1 + 1 := by omega
  have hcR : wC.heap.size ≠ w.heap.size + 1 + 1 := by have := HMC.out; omega
  clear hLn hnn
  go_wp2_with (first | (go_at_call 50; refine (fault_any (HSB.out.kept hK5) HSH.out HSA.out HFN.out (HB.out.kept hK5)).mono ?_; rintro e wF ⟨rfl, hkF⟩; have hKF : Kept WA wF none := Kept.tr hK5 hkF) | (go_at_call 51; refine (move_loop (HSB.out.kept hKM) HSH.out.ok (HB.out.kept hKM) HFN.out (hM5.tr hkF) HMC.out hbm (by omega) (Nat.le_refl _) (by omega) (BN.out.kept hkF) (row_kept HOG.out hkF (by simp)) _ ⟨hst0, hst1⟩ HWR.out).mono ?_; rintro e w7 ⟨⟨v, rfl⟩, hk7, hb7, hg7⟩; have hK7 : Kept WA w7 none := Kept.tr hKM hk7; have g0_ := hb7.c0; have g1_ := hb7.c1; have g2_ := hb7.c2))
  have hfn := HFN.out
  refine bodyPost_ret (v := .tuple #[.agg #[.slice (some ⟨b, 0, none⟩) F.groups.length F.groups.length, .int .i64 (nextS (worstM S) F.start F.flashed (allIs L 4)), .bool (allIs L 4)], .int .u8 0, .int .i64 0]) (by simp [results, Tryd.results26, go_sem, g0_, g1_, g2_, r0_, r1_, r2_, z0_, z1_, z2_, hK7, hcR]) rfl ⟨b, ?_, by omega, ?_, ?_⟩
  · rw [safeV, HLEN.out, hfn]
    rfl
  · rw [← hfn]
    exact (((hg7).setOther (a := ⟨w.heap.size + 1 + 1, 0, none⟩) hbR _).setOther (a := ⟨w.heap.size + 1 + 1, 1, none⟩) hbR _).setOther (a := ⟨w.heap.size + 1 + 1, 2, none⟩) hbR _
  · have hb : Kept w _ none := HK.out.tr hK7
    exact ((hb.setNew (by show w.heap.size ≤ w.heap.size + 1 + 1; omega) _).setNew (by show w.heap.size ≤ w.heap.size + 1 + 1; omega) _).setNew (by show w.heap.size ≤ w.heap.size + 1 + 1; omega) _

end Go.Proofs.YtfhmfanmnhclfaaDoor

/-
  THE CONTRACT of Check: a trace's first fault (made by a program).
-/
namespace Go.Proofs.YtfhmfanmnhclfaaDoor
open Go.RowKit Go.Lib Go.Deep
set_option linter.unusedVariables false
set_option linter.unusedSimpArgs false

/-- A trace's lights lie where a slice leads. -/
structure Trc (w : World) (pa : Option Addr) (n : Nat) (T : List (List Nat)) : Prop where
  size : T.length = n
  max : n ≤ 9223372036854775807
  at_ : 0 < n → ∃ b off, pa = some ⟨b, off, none⟩ ∧ b < w.heap.size ∧ ∀ i, i < n → ∃ a c, w.cell? ⟨b, off + i, none⟩ = some (.slice a (tk T i).length c) ∧ By w a (tk T i).length (tk T i)
theorem Trc.kept {w w' : World} {pa : Option Addr} {n : Nat} {T : List (List Nat)} (h : Trc w pa n T) (k : Kept w w' none) : Trc w' pa n T := by
  refine ⟨h.size, h.max, fun hp => ?_⟩
  obtain ⟨b, off, rfl, hb, hc⟩ := h.at_ hp
  refine ⟨b, off, rfl, Nat.lt_of_lt_of_le hb k.size, fun i hi => ?_⟩
  obtain ⟨a, c, h1, h2⟩ := hc i hi
  exact ⟨a, c, cell_kept0 h1 k, h2.kept k⟩
theorem Trc.lt {w : World} {pa : Option Addr} {n : Nat} {T : List (List Nat)} (h : Trc w pa n T) (k : Nat) : ∀ x ∈ tk T k, x < 256 := by
  by_cases hk : k < n
  · obtain ⟨b, off, rfl, hb, hc⟩ := h.at_ (by omega)
    obtain ⟨a, c, h1, h2⟩ := hc k hk
    exact h2.lt
  · have : tk T k = [] := by unfold tk; simp [show T.length ≤ k by have := h.size; omega]
    rw [this]; simp
theorem atV_len {S : St} {T : List (List Nat)} : ∀ k, (∀ j, j < k → fltV S T j = 0) → (atV S T k).groups.length = S.groups.length
  | 0, _ => firstV_len S
  | k + 1, h => (behindV_len S (atV S T k) (tk T k)).trans (fault_len (h k (by omega)))
theorem startV_rng {S : St} {F : Sf} {L : List Nat} (hs : siteB S = true) (h : 0 ≤ F.start ∧ F.start ≤ 1048576) : 0 ≤ startV S F L ∧ startV S F L ≤ 1048576 := by
  have := worst_rng hs
  unfold startV
  split
  · exact this
  · split <;> omega
theorem atV_start {S : St} {T : List (List Nat)} (hs : siteB S = true) : ∀ k, 0 ≤ (atV S T k).start ∧ (atV S T k).start ≤ 1048576
  | 0 => worst_rng hs
  | k + 1 => startV_rng hs (atV_start hs k)
theorem more_rng (x : Int) : 0 ≤ more x ∧ more x ≤ 1048576 := by
  have := stp_ge x; have := stp_le x
  unfold more; split <;> omega
theorem sndV_rng (s : Sn) (b : Nat) (hb : b < 256) : (sndV s b).asp < 256 ∧ i64B (sndV s b).since ∧ i64B (sndV s b).ended := by
  refine ⟨hb, ?_, ?_⟩
  · have := more_rng s.since
    show i64B (sinceV _ _ _)
    unfold sinceV i64B; split <;> omega
  · have := more_rng s.ended
    show i64B (endedV _ _)
    unfold endedV i64B; split <;> omega
theorem atV_rng {S : St} {T : List (List Nat)} (h : ∀ k, ∀ x ∈ tk T k, x < 256) : ∀ k, ∀ s ∈ (atV S T k).groups, s.asp < 256 ∧ i64B s.since ∧ i64B s.ended
  | 0, s, hs => by
    have : s = seen1 := by
      unfold atV firstV at hs
      exact (List.mem_replicate.1 hs).2
    subst this
    unfold i64B; simp
  | k + 1, s, hs => by
    unfold atV behindV at hs
    simp only [List.mem_map, List.mem_range] at hs
    obtain ⟨i, hi, rfl⟩ := hs
    exact sndV_rng _ _ (h k _ (lg_mem hi))
theorem first_yes2 {X : Sa} {S : St} {w : World} (h : Sat w X S) (hT : Tabb w) (hs : siteB S = true) : Calls Tryd.prog 22 #[siteV X S] w fun e w' => ∃ b, e = .returned (.tuple #[.agg #[.slice (some ⟨b, 0, none⟩) S.groups.length S.groups.length, .int .i64 (worstM S), .bool false], .int .i64 0]) ∧ w.heap.size ≤ b ∧ OwnG w' b S.groups.length (fun _ => seen1) ∧ Kept w w' none := by
  refine (first_yes h hT hs).mono ?_
  rintro e w' ⟨b, rfl, h1, h2, h3⟩
  have hl := firstV_len S
  exact ⟨b, by rw [safeV, hl]; rfl, h1, h2, h3⟩
end Go.Proofs.YtfhmfanmnhclfaaDoor

