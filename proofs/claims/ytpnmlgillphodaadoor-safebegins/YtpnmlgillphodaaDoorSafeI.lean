/-
  THE CONTRACT of mayBe.
-/
import Derived.Test.YtpnmlgillphodaaDoorSafeH
namespace Go.Proofs.YtpnmlgillphodaaDoor
open Go.RowKit Go.Lib Go.Deep
set_option linter.unusedVariables false
set_option linter.unusedSimpArgs false

theorem Tryd.infoByte : (Tryd.prog.info? 5).map (fun i => (i.zero, i.size, i.bytes)) = some (some (.int .u8 0), 1, 1) := by kernel_rfl
def bcell (k : Nat) (L : List Nat) (i : Nat) : Value := .int .u8 ((if i < k then lg L i else 0 : Nat) : Int)
theorem bcell_set {k : Nat} {L : List Nat} : (fun j => if j = k then Value.int .u8 (lg L k : Int) else bcell k L j) = bcell (k + 1) L := by
  funext j
  unfold bcell
  by_cases h : j = k
  · subst h; simp
  · rw [if_neg h]
    by_cases h2 : j < k
    · rw [if_pos h2, if_pos (by omega)]
    · rw [if_neg h2, if_neg (by omega)]
set_option maxRecDepth 100000 in
set_option maxHeartbeats 1000000 in
theorem maybe_no {w : World} {B : Nat} {X : Sa} {S : St} {a : Option Addr} {c : Nat} {F : Sf} (h : Sbox w B X S) (hb : F.groups.length ≠ S.groups.length ∨ F.start < 0 ∨ 1048576 < F.start) : Calls Tryd.prog 30 #[.pointer (some ⟨B, 0, none⟩), safeV a c F] w fun e w' => e = .returned (.bool false) ∧ Kept w w' none := by
  have c1 := h.c1
  have hBlt := h.lt
  have hkA : Kept w (w.alloc (.cells #[.slice a F.groups.length c, .int .i64 F.start, .bool F.flashed] 41)) none := Kept.alloc _ _ _ _ _
  have HK := Hid.mk' hkA
  clear h hkA
  by_cases h1 : F.groups.length = S.groups.length
  · have h1b : ((F.groups.length : Int) != (S.groups.length : Int)) = false := by simp; omega
    clear h1
    by_cases h2 : F.start < 0
    · clear hb
      go_enter Tryd.func30, Tryd.ntmps30
      go_wp2
      go_quiet (fail)
      go_wp2
      go_ret
      exact ⟨rfl, HK.out.tr (Kept.drewN _ _ _)⟩
    · have h3 : 1048576 < F.start := by rcases hb with hb | hb | hb <;> first | omega | (exfalso; simp at h1b; omega)
      have h2b : decide (F.start < 0) = false := by simp; omega
      clear hb
      go_enter Tryd.func30, Tryd.ntmps30
      go_wp2
      go_quiet (fail)
      go_wp2
      go_ret
      exact ⟨rfl, HK.out.tr (Kept.drewN _ _ _)⟩
  · have h1b : ((F.groups.length : Int) != (S.groups.length : Int)) = true := by simp; omega
    clear h1 hb
    go_enter Tryd.func30, Tryd.ntmps30
    go_wp2
    go_quiet (fail)
    go_wp2
    go_ret
    exact ⟨rfl, HK.out.tr (Kept.drewN _ _ _)⟩
set_option maxRecDepth 100000 in
set_option maxHeartbeats 1000000 in
theorem maybe_yes {w : World} {B : Nat} {X : Sa} {S : St} {a : Option Addr} {c : Nat} {F : Sf} (h : Sbox w B X S) (hSh : Shape S) (hF : SafeAt w a c F) (hf : F.groups.length = S.groups.length) (h0 : 0 ≤ F.start) (h1 : F.start ≤ 1048576) : Calls Tryd.prog 30 #[.pointer (some ⟨B, 0, none⟩), safeV a c F] w fun e w' => e = .returned (.bool (!meetB S (shown F) || allIs (shown F) 4)) ∧ Kept w w' none := by
  have hng := hSh.ok.ng
  have c1 := h.c1
  have hBlt := h.lt
  obtain ⟨bf, off, rfl, hbf, hcf⟩ := hF.lie.at_ (by omega)
  have hFr := hF.cap.room
  have hFm := hF.cap.max
  have hn16 : F.groups.length ≤ 16 := by omega
  have hkA : Kept w (w.alloc (.cells #[.slice (some ⟨bf, off, none⟩) F.groups.length c, .int .i64 F.start, .bool F.flashed] 41)) none := Kept.alloc _ _ _ _ _
  have bx := box_alloc w (.slice (some ⟨bf, off, none⟩) F.groups.length c) (.int .i64 F.start) (.bool F.flashed) 41
  have h1b : ((F.groups.length : Int) != (S.groups.length : Int)) = false := by simp; omega
  have h2b : decide (F.start < 0) = false := by simp; omega
  have h3b : decide (1048576 < F.start) = false := by simp; omega
  have hmk := run_make_row' (P := Tryd.prog) 35 5 (.int .u8 0) 1 Tryd.uB Tryd.infoByte rfl .i64 .i64 F.groups.length (by omega) (by omega)
  have HK := Hid.mk' hkA
  have HBX := Hid.mk' bx
  have HSB := Hid.mk' (h.kept hkA)
  have HSH := Hid.mk' hSh
  have HFN := Hid.mk' hf
  have HCF : Hid (∀ i, i < F.groups.length → ∀ j, j < 3 → (w.alloc (.cells #[.slice (some ⟨bf, off, none⟩) F.groups.length c, .int .i64 F.start, .bool F.flashed] 41)).cell? ⟨bf, off + i * 3 + j, none⟩ = some (snV (F.g i) j)) := fun i hi j hj => cell_kept0 (hcf i hi j hj) hkA
  have HRNG := Hid.mk' hF.rng
  have hsz : (w.alloc (.cells #[.slice (some ⟨bf, off, none⟩) F.groups.length c, .int .i64 F.start, .bool F.flashed] 41)).heap.size = w.heap.size + 1 := by simp
  have HSZ := Hid.mk' hsz
  clear h hF hkA bx hcf hSh hf hsz h0 h1
  go_enter Tryd.func30, Tryd.ntmps30
  go_wp2
  go_quiet (fail)
  go_wp2
  have kD : Kept w ((w.alloc (.cells #[.slice (some ⟨bf, off, none⟩) F.groups.length c, .int .i64 F.start, .bool F.flashed] 41)).drewN nq) none := HK.out.tr (Kept.drewN _ _ _)
  have k0D : Kept (w.alloc (.cells #[.slice (some ⟨bf, off, none⟩) F.groups.length c, .int .i64 F.start, .bool F.flashed] 41)) ((w.alloc (.cells #[.slice (some ⟨bf, off, none⟩) F.groups.length c, .int .i64 F.start, .bool F.flashed] 41)).drewN nq) none := Kept.drewN _ _ _
  have hzD : ((w.alloc (.cells #[.slice (some ⟨bf, off, none⟩) F.groups.length c, .int .i64 F.start, .bool F.flashed] 41)).drewN nq).heap.size = w.heap.size + 1 := HSZ.out
  obtain ⟨WD, hWD⟩ : ∃ WD, (w.alloc (.cells #[.slice (some ⟨bf, off, none⟩) F.groups.length c, .int .i64 F.start, .bool F.flashed] 41)).drewN nq = WD := ⟨_, rfl⟩
  rw [hWD] at kD k0D hzD ⊢
  have HSBD := Hid.mk' (HSB.out.kept k0D)
  have HCFD : Hid (∀ i, i < F.groups.length → ∀ j, j < 3 → WD.cell? ⟨bf, off + i * 3 + j, none⟩ = some (snV (F.g i) j)) := fun i hi j hj => cell_kept0 (HCF.out i hi j hj) k0D
  have hrw := World.rowIs_made WD (.int .u8 0) F.groups.length 5
  have kM : Kept WD (WD.alloc (.cells (madeCells #[.int .u8 0] F.groups.length) 5)) none := Kept.alloc _ _ _ _ _
  rw [hzD] at hrw
  obtain ⟨W3, hW3⟩ : ∃ W3, WD.alloc (.cells (madeCells #[.int .u8 0] F.groups.length) 5) = W3 := ⟨_, rfl⟩
  rw [hW3] at hrw kM ⊢
  have HRW := Hid.mk' hrw
  have KM := Hid.mk' kM
  have KD := Hid.mk' kD
  have HZD := Hid.mk' hzD
  clear hW3 hWD hrw kM kD k0D hzD HSB HCF HBX HK HSZ hmk c1
  go_loopw [6, 7, 34] (fun _ _ i wr => ∃ k : Nat, k ≤ F.groups.length ∧ i = .int .i64 k ∧ Kept WD wr none ∧ wr.rowIs (w.heap.size + 1) 5 F.groups.length (bcell k (shown F))) (fun _ _ i _ => F.groups.length - (intOf i).toNat)
  case atStart => exact ⟨0, by omega, rfl, KM.out, HRW.out.congr (fun i hi => by unfold bcell; simp)⟩
  case round =>
    obtain ⟨k, hk, rfl, hkw, hrow⟩ := hrel
    have HKW := Hid.mk' hkw
    have HRO := Hid.mk' hrow
    have hlr := hrow.lt
    clear hkw hrow
    by_cases hlt : k < F.groups.length
    · have s0 := cell_kept0 (HCFD.out k hlt 0 (by omega)) HKW.out
      have s1 := cell_kept0 (HCFD.out k hlt 1 (by omega)) HKW.out
      have s2 := cell_kept0 (HCFD.out k hlt 2 (by omega)) HKW.out
      simp only [snV, Nat.add_zero] at s0 s1 s2
      have hbl := block_lt s0
      have hsl : lg (shown F) k = (F.g k).asp := shown_lg hlt
      have y0 := HRO.out.cell hlt
      have z0 := HRO.out.frozen k
      have HSL := Hid.mk' hsl
      clear hsl
      generalize F.g k = N at *
      go_wp2
      go_roundw
      case rel =>
        refine ⟨k + 1, by omega, by go_num, (HKW.out.setNew (p := ⟨w.heap.size + 1, k, none⟩) (by rw [HZD.out]; exact Nat.le_refl _) _).tr (Kept.alloc _ _ _ _ _), ?_⟩
        rw [← bcell_set, HSL.out]
        exact (HRO.out.set k _).alloc _
      case measure => simp [intOf]; omega
    · have e : k = F.groups.length := by omega
      subst e
      have HBY : Hid (By wr (some ⟨w.heap.size + 1, 0, none⟩) F.groups.length (shown F)) := By.row HRO.out (shown F) F.groups.length (Nat.le_refl _) (shown_len F) (by omega) (fun x hx => by
        simp only [shown, List.mem_map] at hx
        obtain ⟨s, hs, rfl⟩ := hx
        exact (HRNG.out s hs).1) (fun i hi => by unfold bcell; rw [if_pos hi]; rfl)
      have HME := Hid.mk' (fun w' (q : Kept wr w' none) => meet_any (c := F.groups.length) ((HSBD.out.kept HKW.out).kept q) HSH.out.ok (HBY.out.kept q) HFN.out)
      have HAL := Hid.mk' (fun w' (q : Kept wr w' none) => all_any (c := F.groups.length) (HBY.out.kept q) 4)
      by_cases hm : meetB S (shown F) = true
      · rw [hm] at HME
        have HM := Hid.mk' hm
        clear hm
        go_wp2_with (first
          | (go_at_call 41; refine (HME.out _ (Kept.refl _ _)).mono ?_; rintro e wD ⟨rfl, hwD⟩; have hwD := hwD.symm; subst hwD)
          | (go_at_call 38; refine (HAL.out _ (Kept.refl _ _)).mono ?_; rintro e wA ⟨rfl, hkA⟩))
        go_ret
        exact ⟨by rw [HM.out]; rfl, (KD.out.tr HKW.out).tr hkA⟩
      · have hm : meetB S (shown F) = false := by simpa using hm
        rw [hm] at HME
        have HM := Hid.mk' hm
        clear hm
        go_wp2_with (go_at_call 41; refine (HME.out _ (Kept.refl _ _)).mono ?_; rintro e wD ⟨rfl, hwD⟩; have hwD := hwD.symm; subst hwD)
        go_ret
        exact ⟨by rw [HM.out]; rfl, KD.out.tr HKW.out⟩
theorem maybe_any {w : World} {B : Nat} {X : Sa} {S : St} {a : Option Addr} {c : Nat} {F : Sf} (h : Sbox w B X S) (hSh : Shape S) (hF : SafeAt w a c F) : Calls Tryd.prog 30 #[.pointer (some ⟨B, 0, none⟩), safeV a c F] w fun e w' => e = .returned (.bool (mayS S F)) ∧ Kept w w' none := by
  unfold mayS
  by_cases h1 : F.groups.length = S.groups.length
  · by_cases h2 : inB F.start 0 1048576 = true
    · rw [h2, decide_eq_true h1, Bool.true_and, Bool.true_and]
      have := inB_iff.1 h2
      exact maybe_yes h hSh hF h1 this.1 this.2
    · have h2 : inB F.start 0 1048576 = false := by simpa using h2
      rw [h2, Bool.false_and, Bool.and_false]
      exact maybe_no h (.inr (inB_no.1 h2))
  · rw [decide_eq_false h1, Bool.false_and]
    exact maybe_no h (.inl h1)

end Go.Proofs.YtpnmlgillphodaaDoor
