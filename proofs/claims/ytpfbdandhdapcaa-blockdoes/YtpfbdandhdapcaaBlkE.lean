/-
  THE STATEMENTS' ones AND alive (made by a program).
-/
import Derived.Test.YtpfbdandhdapcaaBlkD
namespace Go.Proofs.Ytpfbdandhdapcaa
open Go.RowKit Go.Lib Go.Deep
set_option linter.unusedVariables false
set_option linter.unusedSimpArgs false

abbrev onesL : List Nat := List.replicate 64 1
theorem ones_step {w : World} {g k : Nat} (h : Row w g (List.replicate k 1 ++ List.replicate (64 - k) 0)) (hk : k < 64) : Row (w.setCell ⟨g, k, none⟩ (.int .u8 1)) g (List.replicate (k + 1) 1 ++ List.replicate (64 - (k + 1)) 0) := by
  have h2 := h.set k 1
  have e : (List.replicate k 1 ++ List.replicate (64 - k) 0).set k 1 = List.replicate (k + 1) 1 ++ List.replicate (64 - (k + 1)) 0 := by
    rw [List.set_append_right _ _ (by simp), List.length_replicate, Nat.sub_self, show 64 - k = (64 - (k + 1)) + 1 by omega, List.replicate_succ, List.set_cons_zero, List.replicate_succ', List.append_assoc]
    rfl
  rw [e] at h2
  exact h2
theorem ones_any (w : World) : Calls Try.prog 11 #[.int .u8 1] w fun e w' => ∃ g, e = .returned (.slice (some ⟨g, 0, none⟩) 64 64) ∧ w.heap.size ≤ g ∧ Row w' g onesL ∧ Kept w w' none := by
  have hmk : ∀ w, (Instr.makeSlice 22 (.int .i64 64) (.int .i64 64)).run Try.prog w = .ok (.slice (some ⟨w.heap.size, 0, none⟩) 64 64) (w.alloc (.cells (madeCells #[.int .u8 0] 64) 5)) := fun w => run_make_row' (P := Try.prog) 22 5 (.int .u8 0) 1 Try.uB Try.info5 rfl .i64 .i64 64 (by omega) (by omega) w
  have HR := Hid.mk' (row_made w 64)
  go_enter Try.func11, Try.ntmps11
  go_wp2
  obtain ⟨W, hW⟩ : ∃ W, Hid (W = w.alloc (.cells (madeCells #[.int .u8 0] 64) 5)) := ⟨_, Hid.mk' rfl⟩
  rw [← hW.out] at HR ⊢
  have hK : Kept w W none := by rw [hW.out]; exact Kept.alloc _ _ _ _ _
  clear hmk
  go_loopw [4] (fun i wr => ∃ k : Nat, k ≤ 64 ∧ i = .int .i64 k ∧ Hid (Row wr w.heap.size (List.replicate k 1 ++ List.replicate (64 - k) 0)) ∧ Hid (Kept w wr none)) (fun i _ => 64 - (intOf i).toNat)
  case atStart => exact ⟨0, Nat.zero_le _, rfl, HR, Hid.mk' hK⟩
  case round =>
    obtain ⟨k, hk, rfl, hr, hkp⟩ := hrel
    by_cases hlt : k < 64
    · have hcell := hr.out.cell (i := k) (by simp; omega)
      have hfz := hr.out.frozen k
      generalize (((List.replicate k 1 ++ List.replicate (64 - k) 0).getD k 0 : Nat) : Int) = z at hcell
      go_wp2
      go_roundw
      case rel => exact ⟨k + 1, by omega, by go_num, Hid.mk' (ones_step hr.out hlt), Hid.mk' (hkp.out.setNew (Nat.le_refl _) _)⟩
      case measure => simp [intOf]; omega
    · have hkq : k = 64 := by omega
      subst hkq
      go_wp2
      go_ret
      exact ⟨_, rfl, Nat.le_refl _, hr.out, hkp.out⟩
theorem onesL_lt : ∀ x ∈ onesL, x < 256 := by
  intro x hx
  rw [List.eq_of_mem_replicate hx]
  omega
theorem zer_lt (n : Nat) : ∀ x ∈ List.replicate n 0, x < 256 := by
  intro x hx
  rw [List.eq_of_mem_replicate hx]
  omega
theorem Row.cm {w : World} {g : Nat} {L : List Nat} (h : Row w g L) (n : Nat) (hl : L.length = n) (hm : n ≤ 4096) (hb : ∀ x ∈ L, x < 256) : Come w (some ⟨g, 0, none⟩) n n L := by
  subst hl
  exact ⟨h.by_ (by omega) hb, fun e => (nomatch e), Nat.le_refl _, by omega⟩
theorem plw_two {w : World} {a b : Option Addr} {n c m d : Nat} {A B : List Nat} (i j : Int) (h : Come w a n c A) (k : Come w b m d B) (t : TypeId) : Plw (w.alloc (.cells #[.int .i64 i, .slice a n c, .int .i64 j, .slice b m d] t)) (some ⟨w.heap.size, 0, none⟩) 2 [⟨i, A⟩, ⟨j, B⟩] := by
  refine ⟨rfl, by omega, fun _ => ⟨_, 0, rfl, by simp, fun q p hp => ?_⟩⟩
  match q, hp with
  | 0, hp =>
    obtain rfl : (⟨i, A⟩ : Pw) = p := by simpa using hp
    have hs := h.by_.size
    exact ⟨a, c, World.cell?_alloc_mark .., by show World.cell? _ _ = some (.slice a A.length c); rw [hs]; exact World.cell?_alloc_mark .., by show Come _ a A.length c A; rw [hs]; exact h.kpt (Kept.alloc _ _ _ _ _)⟩
  | 1, hp =>
    obtain rfl : (⟨j, B⟩ : Pw) = p := by simpa using hp
    have hs := k.by_.size
    exact ⟨b, d, World.cell?_alloc_mark .., by show World.cell? _ _ = some (.slice b B.length d); rw [hs]; exact World.cell?_alloc_mark .., by show Come _ b B.length d B; rw [hs]; exact k.kpt (Kept.alloc _ _ _ _ _)⟩
  | q + 2, hp => simp at hp
/-- The device behind alive's writes. -/
def aliD : List Nat := doD [⟨0, onesL⟩, ⟨1, onesL⟩] 1 2 (List.replicate 128 0)
theorem aliD_len : aliD.length = 128 := by decide +kernel
theorem aliD_0 : blD aliD 0 = onesL := by decide +kernel
theorem aliD_1 : (blD aliD 1).length = 64 ∧ (blD aliD 1).getD 1 0 = 1 ∧ (blD aliD 1).getD 2 0 = 0 := by decide +kernel
theorem aliD_lt : ∀ x ∈ aliD, x < 256 := doD_lt _ _ _ _ (by intro p hp; simp at hp; rcases hp with rfl | rfl <;> exact onesL_lt) (zer_lt _)
theorem ali_do {w : World} {g s c : Nat} (hg : Row w g (List.replicate 128 0)) (hP : Plw w (some ⟨s, 0, none⟩) 2 [⟨0, onesL⟩, ⟨1, onesL⟩]) : Calls Try.prog 13 #[dvV (some ⟨g, 0, none⟩) 128 128, .slice (some ⟨s, 0, none⟩) 2 c, .int .i64 1, .int .i64 2] w fun e w' => ∃ g', e = dvR (some ⟨g', 0, none⟩) 128 128 0 ∧ w.heap.size ≤ g' ∧ Row w' g' aliD ∧ Kept w w' none :=
  do_ok c w (by omega) hP (hg.cm 128 (by simp) (by omega) (zer_lt _)) 1 2 (by decide +kernel) (by omega) (by omega)
theorem ali_new (w : World) : Calls Try.prog 8 #[.int .i64 2] w fun e w' => e = dvR (some ⟨w.heap.size + 1, 0, none⟩) 128 128 0 ∧ Row w' (w.heap.size + 1) (List.replicate 128 0) ∧ Kept w w' none := bnew_yes (n := 2) w rfl
theorem ali_read {w : World} {g : Nat} (k : Int) (hg : Row w g aliD) (h : hasV 128 k = true) (h0 : 0 ≤ k) (h1 : 64 * k + 64 ≤ ((128 : Nat) : Int)) : Calls Try.prog 12 #[dvV (some ⟨g, 0, none⟩) 128 128, .int .i64 k] w fun e w' => ∃ g', e = slR (some ⟨g', 0, none⟩) 64 64 0 ∧ w.heap.size ≤ g' ∧ Row w' g' (blD aliD k.toNat) ∧ Kept w w' none := bread_yes w (hg.cm 128 aliD_len (by omega) aliD_lt) rfl h h0 h1
/-- Behind a region that makes five things. -/
def R5 (A : Nat → Nat → Nat → Nat → Nat → Act) (P : Nat → Nat → World → Prop) (e : Exit) (a : Act) (w : World) : Prop := match e with
  | .normal => ∃ o1 o2 s g b, a = A o1 o2 s g b ∧ P g b w
  | _ => False
theorem R5.out {A : Nat → Nat → Nat → Nat → Nat → Act} {P : Nat → Nat → World → Prop} {e : Exit} {a : Act} {w : World} (h : R5 A P e a w) : e = .normal ∧ ∃ o1 o2 s g b, a = A o1 o2 s g b ∧ P g b w := by
  cases e with
  | normal => exact ⟨rfl, h⟩
  | _ => exact h.elim
def R1 (A : Nat → Act) (P : Nat → World → Prop) (e : Exit) (a : Act) (w : World) : Prop := match e with
  | .normal => ∃ o, a = A o ∧ P o w
  | _ => False
theorem R1.out {A : Nat → Act} {P : Nat → World → Prop} {e : Exit} {a : Act} {w : World} (h : R1 A P e a w) : e = .normal ∧ ∃ o, a = A o ∧ P o w := by
  cases e with
  | normal => exact ⟨rfl, h⟩
  | _ => exact h.elim
structure Ali (W w' : World) (g b : Nat) : Prop where
  kept : Kept W w' none
  row : Row w' g aliD
  bx : Db w' b (some ⟨g, 0, none⟩) 128 128
set_option maxHeartbeats 4000000 in
theorem alive_any (w : World) : Calls Try.prog 14 #[] w fun e w' => e = .returned (.bool true) ∧ Kept w w' none := by
  go_enter Try.func14, Try.ntmps14
  go_wp2_with (go_at_call 8; refine (ali_new w).mono ?_; rintro e w1 ⟨rfl, hr1, hk1⟩)
  generalize w.heap.size + 1 = g0 at hr1 ⊢
  obtain ⟨W, hW⟩ : ∃ W, Hid (W = w1.alloc (.cells (dvC (some ⟨g0, 0, none⟩) 128 128) 24)) := ⟨_, Hid.mk' rfl⟩
  have hKW : Kept w W none := by rw [hW.out]; exact hk1.tr (Kept.alloc _ _ _ _ _)
  have hB0 : Db W w1.heap.size (some ⟨g0, 0, none⟩) 128 128 := by rw [hW.out]; exact db_alloc _ _ _ _ _
  have hG0 : Row W g0 (List.replicate 128 0) := by rw [hW.out]; exact hr1.kept (Kept.alloc _ _ _ _ none) (by simp)
  rw [← hW.out]
  generalize w1.heap.size = b0 at hB0 ⊢
  clear hr1 hk1 hW
  have HBW := Hid.mk' hB0
  have hU : ∀ w', Kept W w' none → w'.cell? ⟨b0, 0, none⟩ = some (.slice (some ⟨g0, 0, none⟩) 128 128) := fun w' hk => (HBW.out.kept hk).c0
  have HG0 := Hid.mk' (hG0.kept (kept_drw W none) (by simp))
  have HKW := Hid.mk' hKW
  clear hKW hB0 hG0
  refine Code.wp_mono (Q := R5 ?A1 (fun g b w' => Ali W w' g b)) ?cont1 ?reg1
  case reg1 =>
    repeat (rename_i hh; clear hh)
    refine wp_region_held_drew (S := fun w' => Kept W w' none) (by kernel_rfl) (kept_drw _ _) (fun hHeld => ?_)
    refine hold_take (i := 0) (v := ?rv1) rfl rfl (by kernel_rfl) (by kernel_rfl) (by kernel_rfl) (fun _ _ _ h => h) (Or.inl ⟨by rfl, ?rhy1⟩) hHeld ?rrest1
    case rhy1 => first | (intro w hSw; (try dsimp only at hSw); go_simp; done) | (intro w hSw; (try dsimp only at hSw); go_simp; with_reducible rfl)
    try simp only [List.setIfInBounds_toArray, List.set_cons_zero, List.set_cons_succ]
    refine wpAnyH_ready (rs := [1, 10]) (by kernel_rfl) (by simp) ?_
    refine (AllReadyH.cons rfl (fun K hK => ?rz2x1) (AllReadyH.cons rfl (fun K hK => ?rz2x10) AllReadyH.nil))
    case rz2x1 =>
      go_simp
      go_wp2_with (go_at_call 11; refine (ones_any W.drew).mono ?_; rintro e wv3 ⟨o1, rfl, hge, hr, hk⟩)
      have hnew := hHeld.tr hk
      have HG0 := Hid.mk' (HG0.out.kept hk (by simp))
      have HO1 := Hid.mk' hr
      clear hr
      refine hK.out _ _ hnew (fun hHeld => ?_)
      clear hK K hk hnew
      refine hold_take (i := 2) (v := ?rv4) rfl rfl (by kernel_rfl) (by kernel_rfl) (by kernel_rfl) (fun _ _ _ h => h) (Or.inl ⟨by rfl, ?rhy4⟩) hHeld ?rrest4
      case rhy4 => first | (intro w hSw; (try dsimp only at hSw); go_simp; done) | (intro w hSw; (try dsimp only at hSw); go_simp; with_reducible rfl)
      try simp only [List.setIfInBounds_toArray, List.set_cons_zero, List.set_cons_succ]
      refine wpAnyH_ready (rs := [3, 10]) (by kernel_rfl) (by simp) ?_
      refine (AllReadyH.cons rfl (fun K hK => ?rz5x3) (AllReadyH.cons rfl (fun K hK => ?rz5x10) AllReadyH.nil))
      case rz5x3 =>
        go_simp
        go_wp2_with (go_at_call 11; refine (ones_any wv3).mono ?_; rintro e wv6 ⟨o2, rfl, hge, hr, hk⟩)
        have hnew := hHeld.tr hk
        have HG0 := Hid.mk' (HG0.out.kept hk (by simp))
        have HO1 := Hid.mk' (HO1.out.kept hk (by simp))
        have HO2 := Hid.mk' hr
        clear hr
        refine hK.out _ _ hnew (fun hHeld => ?_)
        clear hK K hk hnew
        refine hold_take (i := 4) (v := ?rv7) rfl rfl (by kernel_rfl) (by kernel_rfl) (by kernel_rfl) (fun _ _ _ h => h) (Or.inl ⟨by rfl, ?rhy7⟩) hHeld ?rrest7
        case rhy7 => first | (intro w hSw; (try dsimp only at hSw); go_simp; done) | (intro w hSw; (try dsimp only at hSw); go_simp; with_reducible rfl)
        try simp only [List.setIfInBounds_toArray, List.set_cons_zero, List.set_cons_succ]
        refine wpAnyH_ready (rs := [5, 10]) (by kernel_rfl) (by simp) ?_
        refine (AllReadyH.cons rfl (fun K hK => ?rz8x5) (AllReadyH.cons rfl (fun K hK => ?rz8x10) AllReadyH.nil))
        case rz8x5 =>
          go_simp
          have hk : Kept wv6 (wv6.alloc (.cells #[.int .i64 0, .slice (some ⟨o1, 0, none⟩) 64 64, .int .i64 1, .slice (some ⟨o2, 0, none⟩) 64 64] 36)) none := Kept.alloc _ _ _ _ _
          have hnew := hHeld.tr hk
          have HPU := Hid.mk' (plw_two 0 1 (HO1.out.cm 64 (by simp) (by omega) onesL_lt) (HO2.out.cm 64 (by simp) (by omega) onesL_lt) 36)
          have HG0 := Hid.mk' (HG0.out.kept hk (by simp))
          have HO1 := Hid.mk' (HO1.out.kept hk (by simp))
          have HO2 := Hid.mk' (HO2.out.kept hk (by simp))
          refine hK.out _ _ hnew (fun hHeld => ?_)
          clear hK K hnew hk
          obtain ⟨wv9, hwv9⟩ : ∃ v, (wv6.alloc (.cells #[.int .i64 0, .slice (some ⟨o1, 0, none⟩) 64 64, .int .i64 1, .slice (some ⟨o2, 0, none⟩) 64 64] 36)) = v := ⟨_, rfl⟩
          rw [hwv9] at hHeld HG0 HO1 HO2 HPU ⊢
          clear hwv9
          refine wpAnyH_ready (rs := [6, 10]) (by kernel_rfl) (by simp) ?_
          refine (AllReadyH.cons rfl (fun K hK => ?rz10x6) (AllReadyH.cons rfl (fun K hK => ?rz10x10) AllReadyH.nil))
          case rz10x6 =>
            go_simp
            go_wp2_with (go_at_call 13; refine (ali_do HG0.out HPU.out).mono ?_; rintro e wv11 ⟨g, rfl, hge, hr, hk⟩)
            have hnew := hHeld.tr hk
            have HG0 := Hid.mk' (HG0.out.kept hk (by simp))
            have HO1 := Hid.mk' (HO1.out.kept hk (by simp))
            have HO2 := Hid.mk' (HO2.out.kept hk (by simp))
            have HPU := Hid.mk' (HPU.out.kept hk)
            have HG := Hid.mk' hr
            clear hr
            refine hK.out _ _ hnew (fun hHeld => ?_)
            clear hK K hk hnew
            refine hold_take (i := 7) (v := ?rv12) rfl rfl (by kernel_rfl) (by kernel_rfl) (by kernel_rfl) (fun _ _ _ h => h) (Or.inl ⟨by rfl, ?rhy12⟩) hHeld ?rrest12
            case rhy12 => first | (intro w hSw; (try dsimp only at hSw); go_simp; done) | (intro w hSw; (try dsimp only at hSw); go_simp; with_reducible rfl)
            try simp only [List.setIfInBounds_toArray, List.set_cons_zero, List.set_cons_succ]
            refine hold_take (i := 8) (v := ?rv13) rfl rfl (by kernel_rfl) (by kernel_rfl) (by kernel_rfl) (fun _ _ _ h => h) (Or.inl ⟨by rfl, ?rhy13⟩) hHeld ?rrest13
            case rhy13 => first | (intro w hSw; (try dsimp only at hSw); go_simp; done) | (intro w hSw; (try dsimp only at hSw); go_simp; with_reducible rfl)
            try simp only [List.setIfInBounds_toArray, List.set_cons_zero, List.set_cons_succ]
            refine hold_take (i := 9) (v := ?rv14) rfl rfl (by kernel_rfl) (by kernel_rfl) (by kernel_rfl) (fun _ _ _ h => h) (Or.inl ⟨by rfl, ?rhy14⟩) hHeld ?rrest14
            case rhy14 => first | (intro w hSw; (try dsimp only at hSw); go_simp; done) | (intro w hSw; (try dsimp only at hSw); go_simp; with_reducible rfl)
            try simp only [List.setIfInBounds_toArray, List.set_cons_zero, List.set_cons_succ]
            refine wpAnyH_ready (rs := [10]) (by kernel_rfl) (by simp) ?_
            refine (AllReadyH.cons rfl (fun K hK => ?rz15x10) AllReadyH.nil)
            case rz15x10 =>
              have hgl := HG.out.lt
              have hbg : wv11.heap.size ≠ g := by omega
              go_simp
              have hk : Kept wv11 (wv11.alloc (.cells #[.slice none 0 0] 24)) none := Kept.alloc _ _ _ _ _
              have hnew := hHeld.tr hk
              have hBw : W.heap.size ≤ wv11.heap.size := hHeld.size
              have HBX := Hid.mk' (db_alloc wv11 none 0 0 24)
              have HG0 := Hid.mk' (HG0.out.kept hk (by simp))
              have HO1 := Hid.mk' (HO1.out.kept hk (by simp))
              have HO2 := Hid.mk' (HO2.out.kept hk (by simp))
              have HPU := Hid.mk' (HPU.out.kept hk)
              have HG := Hid.mk' (HG.out.kept hk (by simp))
              refine hK.out _ _ hnew (fun hHeld => ?_)
              clear hK K hnew hk
              obtain ⟨wv16, hwv16⟩ : ∃ v, (wv11.alloc (.cells #[.slice none 0 0] 24)) = v := ⟨_, rfl⟩
              rw [hwv16] at hHeld HG0 HO1 HO2 HPU HG HBX ⊢
              clear hwv16
              refine wpAnyH_ready (rs := [11]) (by kernel_rfl) (by simp) ?_
              refine (AllReadyH.cons rfl (fun K hK => ?rz17x11) AllReadyH.nil)
              case rz17x11 =>
                have d0 := HBX.out.c0
                have e0 := HBX.out.f0
                have d1 := HBX.out.lt
                go_simp
                have hnew := hHeld.setNew (p := ⟨wv11.heap.size, 0, none⟩) hBw (.slice (some ⟨g, 0, none⟩) 128 128)
                have hfin : Ali W _ g (wv11.heap.size) := ⟨hnew, HG.out.far (b := wv11.heap.size) hbg 0 _, HBX.out.set _ _ _⟩
                refine hK.out _ _ hnew (fun hHeld => ?_)
                clear hK K hnew
                refine hold_take (i := 12) (v := ?rv18) rfl rfl (by kernel_rfl) (by kernel_rfl) (by kernel_rfl) (fun _ _ _ h => h) (Or.inl ⟨by rfl, ?rhy18⟩) hHeld ?rrest18
                case rhy18 => first | (intro w hSw; (try dsimp only at hSw); go_simp; done) | (intro w hSw; (try dsimp only at hSw); go_simp; with_reducible rfl)
                try simp only [List.setIfInBounds_toArray, List.set_cons_zero, List.set_cons_succ]
                refine wpAnyH_done (by kernel_rfl) ?_ _
                refine ⟨o1, o2, wv6.heap.size, g, wv11.heap.size, ?_, hfin⟩
                generalize wv6.heap.size = s'
                generalize wv11.heap.size = b'
                with_reducible rfl
          case rz10x10 =>
            go_simp
            have hk : Kept wv9 (wv9.alloc (.cells #[.slice none 0 0] 24)) none := Kept.alloc _ _ _ _ _
            have hnew := hHeld.tr hk
            have hBw : W.heap.size ≤ wv9.heap.size := hHeld.size
            have HBX := Hid.mk' (db_alloc wv9 none 0 0 24)
            have HG0 := Hid.mk' (HG0.out.kept hk (by simp))
            have HO1 := Hid.mk' (HO1.out.kept hk (by simp))
            have HO2 := Hid.mk' (HO2.out.kept hk (by simp))
            have HPU := Hid.mk' (HPU.out.kept hk)
            refine hK.out _ _ hnew (fun hHeld => ?_)
            clear hK K hnew hk
            obtain ⟨wv19, hwv19⟩ : ∃ v, (wv9.alloc (.cells #[.slice none 0 0] 24)) = v := ⟨_, rfl⟩
            rw [hwv19] at hHeld HG0 HO1 HO2 HPU HBX ⊢
            clear hwv19
            refine wpAnyH_ready (rs := [6]) (by kernel_rfl) (by simp) ?_
            refine (AllReadyH.cons rfl (fun K hK => ?rz20x6) AllReadyH.nil)
            case rz20x6 =>
              have hbl := HBX.out.lt
              go_simp
              go_wp2_with (go_at_call 13; refine (ali_do HG0.out HPU.out).mono ?_; rintro e wv21 ⟨g, rfl, hge, hr, hk⟩)
              have hnew := hHeld.tr hk
              have HG0 := Hid.mk' (HG0.out.kept hk (by simp))
              have HO1 := Hid.mk' (HO1.out.kept hk (by simp))
              have HO2 := Hid.mk' (HO2.out.kept hk (by simp))
              have HPU := Hid.mk' (HPU.out.kept hk)
              have HBX := Hid.mk' (HBX.out.kept hk)
              have HG := Hid.mk' hr
              have hbg : wv9.heap.size ≠ g := by omega
              clear hr
              refine hK.out _ _ hnew (fun hHeld => ?_)
              clear hK K hk hnew
              refine hold_take (i := 7) (v := ?rv22) rfl rfl (by kernel_rfl) (by kernel_rfl) (by kernel_rfl) (fun _ _ _ h => h) (Or.inl ⟨by rfl, ?rhy22⟩) hHeld ?rrest22
              case rhy22 => first | (intro w hSw; (try dsimp only at hSw); go_simp; done) | (intro w hSw; (try dsimp only at hSw); go_simp; with_reducible rfl)
              try simp only [List.setIfInBounds_toArray, List.set_cons_zero, List.set_cons_succ]
              refine hold_take (i := 8) (v := ?rv23) rfl rfl (by kernel_rfl) (by kernel_rfl) (by kernel_rfl) (fun _ _ _ h => h) (Or.inl ⟨by rfl, ?rhy23⟩) hHeld ?rrest23
              case rhy23 => first | (intro w hSw; (try dsimp only at hSw); go_simp; done) | (intro w hSw; (try dsimp only at hSw); go_simp; with_reducible rfl)
              try simp only [List.setIfInBounds_toArray, List.set_cons_zero, List.set_cons_succ]
              refine hold_take (i := 9) (v := ?rv24) rfl rfl (by kernel_rfl) (by kernel_rfl) (by kernel_rfl) (fun _ _ _ h => h) (Or.inl ⟨by rfl, ?rhy24⟩) hHeld ?rrest24
              case rhy24 => first | (intro w hSw; (try dsimp only at hSw); go_simp; done) | (intro w hSw; (try dsimp only at hSw); go_simp; with_reducible rfl)
              try simp only [List.setIfInBounds_toArray, List.set_cons_zero, List.set_cons_succ]
              refine wpAnyH_ready (rs := [11]) (by kernel_rfl) (by simp) ?_
              refine (AllReadyH.cons rfl (fun K hK => ?rz25x11) AllReadyH.nil)
              case rz25x11 =>
                have d0 := HBX.out.c0
                have e0 := HBX.out.f0
                have d1 := HBX.out.lt
                go_simp
                have hnew := hHeld.setNew (p := ⟨wv9.heap.size, 0, none⟩) hBw (.slice (some ⟨g, 0, none⟩) 128 128)
                have hfin : Ali W _ g (wv9.heap.size) := ⟨hnew, HG.out.far (b := wv9.heap.size) hbg 0 _, HBX.out.set _ _ _⟩
                refine hK.out _ _ hnew (fun hHeld => ?_)
                clear hK K hnew
                refine hold_take (i := 12) (v := ?rv26) rfl rfl (by kernel_rfl) (by kernel_rfl) (by kernel_rfl) (fun _ _ _ h => h) (Or.inl ⟨by rfl, ?rhy26⟩) hHeld ?rrest26
                case rhy26 => first | (intro w hSw; (try dsimp only at hSw); go_simp; done) | (intro w hSw; (try dsimp only at hSw); go_simp; with_reducible rfl)
                try simp only [List.setIfInBounds_toArray, List.set_cons_zero, List.set_cons_succ]
                refine wpAnyH_done (by kernel_rfl) ?_ _
                refine ⟨o1, o2, wv6.heap.size, g, wv9.heap.size, ?_, hfin⟩
                generalize wv6.heap.size = s'
                generalize wv9.heap.size = b'
                with_reducible rfl
        case rz8x10 =>
          go_simp
          have hk : Kept wv6 (wv6.alloc (.cells #[.slice none 0 0] 24)) none := Kept.alloc _ _ _ _ _
          have hnew := hHeld.tr hk
          have hBw : W.heap.size ≤ wv6.heap.size := hHeld.size
          have HBX := Hid.mk' (db_alloc wv6 none 0 0 24)
          have HG0 := Hid.mk' (HG0.out.kept hk (by simp))
          have HO1 := Hid.mk' (HO1.out.kept hk (by simp))
          have HO2 := Hid.mk' (HO2.out.kept hk (by simp))
          refine hK.out _ _ hnew (fun hHeld => ?_)
          clear hK K hnew hk
          obtain ⟨wv27, hwv27⟩ : ∃ v, (wv6.alloc (.cells #[.slice none 0 0] 24)) = v := ⟨_, rfl⟩
          rw [hwv27] at hHeld HG0 HO1 HO2 HBX ⊢
          clear hwv27
          refine wpAnyH_ready (rs := [5]) (by kernel_rfl) (by simp) ?_
          refine (AllReadyH.cons rfl (fun K hK => ?rz28x5) AllReadyH.nil)
          case rz28x5 =>
            go_simp
            have hk : Kept wv27 (wv27.alloc (.cells #[.int .i64 0, .slice (some ⟨o1, 0, none⟩) 64 64, .int .i64 1, .slice (some ⟨o2, 0, none⟩) 64 64] 36)) none := Kept.alloc _ _ _ _ _
            have hnew := hHeld.tr hk
            have HPU := Hid.mk' (plw_two 0 1 (HO1.out.cm 64 (by simp) (by omega) onesL_lt) (HO2.out.cm 64 (by simp) (by omega) onesL_lt) 36)
            have HG0 := Hid.mk' (HG0.out.kept hk (by simp))
            have HO1 := Hid.mk' (HO1.out.kept hk (by simp))
            have HO2 := Hid.mk' (HO2.out.kept hk (by simp))
            have HBX := Hid.mk' (HBX.out.kept hk)
            refine hK.out _ _ hnew (fun hHeld => ?_)
            clear hK K hnew hk
            obtain ⟨wv29, hwv29⟩ : ∃ v, (wv27.alloc (.cells #[.int .i64 0, .slice (some ⟨o1, 0, none⟩) 64 64, .int .i64 1, .slice (some ⟨o2, 0, none⟩) 64 64] 36)) = v := ⟨_, rfl⟩
            rw [hwv29] at hHeld HG0 HO1 HO2 HBX HPU ⊢
            clear hwv29
            refine wpAnyH_ready (rs := [6]) (by kernel_rfl) (by simp) ?_
            refine (AllReadyH.cons rfl (fun K hK => ?rz30x6) AllReadyH.nil)
            case rz30x6 =>
              have hbl := HBX.out.lt
              go_simp
              go_wp2_with (go_at_call 13; refine (ali_do HG0.out HPU.out).mono ?_; rintro e wv31 ⟨g, rfl, hge, hr, hk⟩)
              have hnew := hHeld.tr hk
              have HG0 := Hid.mk' (HG0.out.kept hk (by simp))
              have HO1 := Hid.mk' (HO1.out.kept hk (by simp))
              have HO2 := Hid.mk' (HO2.out.kept hk (by simp))
              have HBX := Hid.mk' (HBX.out.kept hk)
              have HPU := Hid.mk' (HPU.out.kept hk)
              have HG := Hid.mk' hr
              have hbg : wv6.heap.size ≠ g := by omega
              clear hr
              refine hK.out _ _ hnew (fun hHeld => ?_)
              clear hK K hk hnew
              refine hold_take (i := 7) (v := ?rv32) rfl rfl (by kernel_rfl) (by kernel_rfl) (by kernel_rfl) (fun _ _ _ h => h) (Or.inl ⟨by rfl, ?rhy32⟩) hHeld ?rrest32
              case rhy32 => first | (intro w hSw; (try dsimp only at hSw); go_simp; done) | (intro w hSw; (try dsimp only at hSw); go_simp; with_reducible rfl)
              try simp only [List.setIfInBounds_toArray, List.set_cons_zero, List.set_cons_succ]
              refine hold_take (i := 8) (v := ?rv33) rfl rfl (by kernel_rfl) (by kernel_rfl) (by kernel_rfl) (fun _ _ _ h => h) (Or.inl ⟨by rfl, ?rhy33⟩) hHeld ?rrest33
              case rhy33 => first | (intro w hSw; (try dsimp only at hSw); go_simp; done) | (intro w hSw; (try dsimp only at hSw); go_simp; with_reducible rfl)
              try simp only [List.setIfInBounds_toArray, List.set_cons_zero, List.set_cons_succ]
              refine hold_take (i := 9) (v := ?rv34) rfl rfl (by kernel_rfl) (by kernel_rfl) (by kernel_rfl) (fun _ _ _ h => h) (Or.inl ⟨by rfl, ?rhy34⟩) hHeld ?rrest34
              case rhy34 => first | (intro w hSw; (try dsimp only at hSw); go_simp; done) | (intro w hSw; (try dsimp only at hSw); go_simp; with_reducible rfl)
              try simp only [List.setIfInBounds_toArray, List.set_cons_zero, List.set_cons_succ]
              refine wpAnyH_ready (rs := [11]) (by kernel_rfl) (by simp) ?_
              refine (AllReadyH.cons rfl (fun K hK => ?rz35x11) AllReadyH.nil)
              case rz35x11 =>
                have d0 := HBX.out.c0
                have e0 := HBX.out.f0
                have d1 := HBX.out.lt
                go_simp
                have hnew := hHeld.setNew (p := ⟨wv6.heap.size, 0, none⟩) hBw (.slice (some ⟨g, 0, none⟩) 128 128)
                have hfin : Ali W _ g (wv6.heap.size) := ⟨hnew, HG.out.far (b := wv6.heap.size) hbg 0 _, HBX.out.set _ _ _⟩
                refine hK.out _ _ hnew (fun hHeld => ?_)
                clear hK K hnew
                refine hold_take (i := 12) (v := ?rv36) rfl rfl (by kernel_rfl) (by kernel_rfl) (by kernel_rfl) (fun _ _ _ h => h) (Or.inl ⟨by rfl, ?rhy36⟩) hHeld ?rrest36
                case rhy36 => first | (intro w hSw; (try dsimp only at hSw); go_simp; done) | (intro w hSw; (try dsimp only at hSw); go_simp; with_reducible rfl)
                try simp only [List.setIfInBounds_toArray, List.set_cons_zero, List.set_cons_succ]
                refine wpAnyH_done (by kernel_rfl) ?_ _
                refine ⟨o1, o2, wv27.heap.size, g, wv6.heap.size, ?_, hfin⟩
                generalize wv27.heap.size = s'
                generalize wv6.heap.size = b'
                with_reducible rfl
      case rz5x10 =>
        go_simp
        have hk : Kept wv3 (wv3.alloc (.cells #[.slice none 0 0] 24)) none := Kept.alloc _ _ _ _ _
        have hnew := hHeld.tr hk
        have hBw : W.heap.size ≤ wv3.heap.size := hHeld.size
        have HBX := Hid.mk' (db_alloc wv3 none 0 0 24)
        have HG0 := Hid.mk' (HG0.out.kept hk (by simp))
        have HO1 := Hid.mk' (HO1.out.kept hk (by simp))
        refine hK.out _ _ hnew (fun hHeld => ?_)
        clear hK K hnew hk
        obtain ⟨wv37, hwv37⟩ : ∃ v, (wv3.alloc (.cells #[.slice none 0 0] 24)) = v := ⟨_, rfl⟩
        rw [hwv37] at hHeld HG0 HO1 HBX ⊢
        clear hwv37
        refine wpAnyH_ready (rs := [3]) (by kernel_rfl) (by simp) ?_
        refine (AllReadyH.cons rfl (fun K hK => ?rz38x3) AllReadyH.nil)
        case rz38x3 =>
          go_simp
          go_wp2_with (go_at_call 11; refine (ones_any wv37).mono ?_; rintro e wv39 ⟨o2, rfl, hge, hr, hk⟩)
          have hnew := hHeld.tr hk
          have HG0 := Hid.mk' (HG0.out.kept hk (by simp))
          have HO1 := Hid.mk' (HO1.out.kept hk (by simp))
          have HBX := Hid.mk' (HBX.out.kept hk)
          have HO2 := Hid.mk' hr
          clear hr
          refine hK.out _ _ hnew (fun hHeld => ?_)
          clear hK K hk hnew
          refine hold_take (i := 4) (v := ?rv40) rfl rfl (by kernel_rfl) (by kernel_rfl) (by kernel_rfl) (fun _ _ _ h => h) (Or.inl ⟨by rfl, ?rhy40⟩) hHeld ?rrest40
          case rhy40 => first | (intro w hSw; (try dsimp only at hSw); go_simp; done) | (intro w hSw; (try dsimp only at hSw); go_simp; with_reducible rfl)
          try simp only [List.setIfInBounds_toArray, List.set_cons_zero, List.set_cons_succ]
          refine wpAnyH_ready (rs := [5]) (by kernel_rfl) (by simp) ?_
          refine (AllReadyH.cons rfl (fun K hK => ?rz41x5) AllReadyH.nil)
          case rz41x5 =>
            go_simp
            have hk : Kept wv39 (wv39.alloc (.cells #[.int .i64 0, .slice (some ⟨o1, 0, none⟩) 64 64, .int .i64 1, .slice (some ⟨o2, 0, none⟩) 64 64] 36)) none := Kept.alloc _ _ _ _ _
            have hnew := hHeld.tr hk
            have HPU := Hid.mk' (plw_two 0 1 (HO1.out.cm 64 (by simp) (by omega) onesL_lt) (HO2.out.cm 64 (by simp) (by omega) onesL_lt) 36)
            have HG0 := Hid.mk' (HG0.out.kept hk (by simp))
            have HO1 := Hid.mk' (HO1.out.kept hk (by simp))
            have HBX := Hid.mk' (HBX.out.kept hk)
            have HO2 := Hid.mk' (HO2.out.kept hk (by simp))
            refine hK.out _ _ hnew (fun hHeld => ?_)
            clear hK K hnew hk
            obtain ⟨wv42, hwv42⟩ : ∃ v, (wv39.alloc (.cells #[.int .i64 0, .slice (some ⟨o1, 0, none⟩) 64 64, .int .i64 1, .slice (some ⟨o2, 0, none⟩) 64 64] 36)) = v := ⟨_, rfl⟩
            rw [hwv42] at hHeld HG0 HO1 HBX HO2 HPU ⊢
            clear hwv42
            refine wpAnyH_ready (rs := [6]) (by kernel_rfl) (by simp) ?_
            refine (AllReadyH.cons rfl (fun K hK => ?rz43x6) AllReadyH.nil)
            case rz43x6 =>
              have hbl := HBX.out.lt
              go_simp
              go_wp2_with (go_at_call 13; refine (ali_do HG0.out HPU.out).mono ?_; rintro e wv44 ⟨g, rfl, hge, hr, hk⟩)
              have hnew := hHeld.tr hk
              have HG0 := Hid.mk' (HG0.out.kept hk (by simp))
              have HO1 := Hid.mk' (HO1.out.kept hk (by simp))
              have HBX := Hid.mk' (HBX.out.kept hk)
              have HO2 := Hid.mk' (HO2.out.kept hk (by simp))
              have HPU := Hid.mk' (HPU.out.kept hk)
              have HG := Hid.mk' hr
              have hbg : wv3.heap.size ≠ g := by omega
              clear hr
              refine hK.out _ _ hnew (fun hHeld => ?_)
              clear hK K hk hnew
              refine hold_take (i := 7) (v := ?rv45) rfl rfl (by kernel_rfl) (by kernel_rfl) (by kernel_rfl) (fun _ _ _ h => h) (Or.inl ⟨by rfl, ?rhy45⟩) hHeld ?rrest45
              case rhy45 => first | (intro w hSw; (try dsimp only at hSw); go_simp; done) | (intro w hSw; (try dsimp only at hSw); go_simp; with_reducible rfl)
              try simp only [List.setIfInBounds_toArray, List.set_cons_zero, List.set_cons_succ]
              refine hold_take (i := 8) (v := ?rv46) rfl rfl (by kernel_rfl) (by kernel_rfl) (by kernel_rfl) (fun _ _ _ h => h) (Or.inl ⟨by rfl, ?rhy46⟩) hHeld ?rrest46
              case rhy46 => first | (intro w hSw; (try dsimp only at hSw); go_simp; done) | (intro w hSw; (try dsimp only at hSw); go_simp; with_reducible rfl)
              try simp only [List.setIfInBounds_toArray, List.set_cons_zero, List.set_cons_succ]
              refine hold_take (i := 9) (v := ?rv47) rfl rfl (by kernel_rfl) (by kernel_rfl) (by kernel_rfl) (fun _ _ _ h => h) (Or.inl ⟨by rfl, ?rhy47⟩) hHeld ?rrest47
              case rhy47 => first | (intro w hSw; (try dsimp only at hSw); go_simp; done) | (intro w hSw; (try dsimp only at hSw); go_simp; with_reducible rfl)
              try simp only [List.setIfInBounds_toArray, List.set_cons_zero, List.set_cons_succ]
              refine wpAnyH_ready (rs := [11]) (by kernel_rfl) (by simp) ?_
              refine (AllReadyH.cons rfl (fun K hK => ?rz48x11) AllReadyH.nil)
              case rz48x11 =>
                have d0 := HBX.out.c0
                have e0 := HBX.out.f0
                have d1 := HBX.out.lt
                go_simp
                have hnew := hHeld.setNew (p := ⟨wv3.heap.size, 0, none⟩) hBw (.slice (some ⟨g, 0, none⟩) 128 128)
                have hfin : Ali W _ g (wv3.heap.size) := ⟨hnew, HG.out.far (b := wv3.heap.size) hbg 0 _, HBX.out.set _ _ _⟩
                refine hK.out _ _ hnew (fun hHeld => ?_)
                clear hK K hnew
                refine hold_take (i := 12) (v := ?rv49) rfl rfl (by kernel_rfl) (by kernel_rfl) (by kernel_rfl) (fun _ _ _ h => h) (Or.inl ⟨by rfl, ?rhy49⟩) hHeld ?rrest49
                case rhy49 => first | (intro w hSw; (try dsimp only at hSw); go_simp; done) | (intro w hSw; (try dsimp only at hSw); go_simp; with_reducible rfl)
                try simp only [List.setIfInBounds_toArray, List.set_cons_zero, List.set_cons_succ]
                refine wpAnyH_done (by kernel_rfl) ?_ _
                refine ⟨o1, o2, wv39.heap.size, g, wv3.heap.size, ?_, hfin⟩
                generalize wv39.heap.size = s'
                generalize wv3.heap.size = b'
                with_reducible rfl
    case rz2x10 =>
      go_simp
      have hk : Kept W.drew (W.alloc (.cells #[.slice none 0 0] 24)).drew none := ⟨rfl, rfl, rfl, Nat.le_of_lt (by simp), fun i hi _ => Below.heap_alloc _ _ _ hi⟩
      have hnew := hHeld.tr hk
      have hBw : W.heap.size ≤ W.heap.size := Nat.le_refl _
      have HBX := Hid.mk' ((db_alloc W none 0 0 24).kept (kept_drw _ none))
      have HG0 := Hid.mk' (HG0.out.kept hk (by simp))
      refine hK.out _ _ hnew (fun hHeld => ?_)
      clear hK K hnew hk
      obtain ⟨wv50, hwv50⟩ : ∃ v, (W.alloc (.cells #[.slice none 0 0] 24)).drew = v := ⟨_, rfl⟩
      rw [hwv50] at hHeld HG0 HBX ⊢
      clear hwv50
      refine wpAnyH_ready (rs := [1]) (by kernel_rfl) (by simp) ?_
      refine (AllReadyH.cons rfl (fun K hK => ?rz51x1) AllReadyH.nil)
      case rz51x1 =>
        go_simp
        go_wp2_with (go_at_call 11; refine (ones_any wv50).mono ?_; rintro e wv52 ⟨o1, rfl, hge, hr, hk⟩)
        have hnew := hHeld.tr hk
        have HG0 := Hid.mk' (HG0.out.kept hk (by simp))
        have HBX := Hid.mk' (HBX.out.kept hk)
        have HO1 := Hid.mk' hr
        clear hr
        refine hK.out _ _ hnew (fun hHeld => ?_)
        clear hK K hk hnew
        refine hold_take (i := 2) (v := ?rv53) rfl rfl (by kernel_rfl) (by kernel_rfl) (by kernel_rfl) (fun _ _ _ h => h) (Or.inl ⟨by rfl, ?rhy53⟩) hHeld ?rrest53
        case rhy53 => first | (intro w hSw; (try dsimp only at hSw); go_simp; done) | (intro w hSw; (try dsimp only at hSw); go_simp; with_reducible rfl)
        try simp only [List.setIfInBounds_toArray, List.set_cons_zero, List.set_cons_succ]
        refine wpAnyH_ready (rs := [3]) (by kernel_rfl) (by simp) ?_
        refine (AllReadyH.cons rfl (fun K hK => ?rz54x3) AllReadyH.nil)
        case rz54x3 =>
          go_simp
          go_wp2_with (go_at_call 11; refine (ones_any wv52).mono ?_; rintro e wv55 ⟨o2, rfl, hge, hr, hk⟩)
          have hnew := hHeld.tr hk
          have HG0 := Hid.mk' (HG0.out.kept hk (by simp))
          have HBX := Hid.mk' (HBX.out.kept hk)
          have HO1 := Hid.mk' (HO1.out.kept hk (by simp))
          have HO2 := Hid.mk' hr
          clear hr
          refine hK.out _ _ hnew (fun hHeld => ?_)
          clear hK K hk hnew
          refine hold_take (i := 4) (v := ?rv56) rfl rfl (by kernel_rfl) (by kernel_rfl) (by kernel_rfl) (fun _ _ _ h => h) (Or.inl ⟨by rfl, ?rhy56⟩) hHeld ?rrest56
          case rhy56 => first | (intro w hSw; (try dsimp only at hSw); go_simp; done) | (intro w hSw; (try dsimp only at hSw); go_simp; with_reducible rfl)
          try simp only [List.setIfInBounds_toArray, List.set_cons_zero, List.set_cons_succ]
          refine wpAnyH_ready (rs := [5]) (by kernel_rfl) (by simp) ?_
          refine (AllReadyH.cons rfl (fun K hK => ?rz57x5) AllReadyH.nil)
          case rz57x5 =>
            go_simp
            have hk : Kept wv55 (wv55.alloc (.cells #[.int .i64 0, .slice (some ⟨o1, 0, none⟩) 64 64, .int .i64 1, .slice (some ⟨o2, 0, none⟩) 64 64] 36)) none := Kept.alloc _ _ _ _ _
            have hnew := hHeld.tr hk
            have HPU := Hid.mk' (plw_two 0 1 (HO1.out.cm 64 (by simp) (by omega) onesL_lt) (HO2.out.cm 64 (by simp) (by omega) onesL_lt) 36)
            have HG0 := Hid.mk' (HG0.out.kept hk (by simp))
            have HBX := Hid.mk' (HBX.out.kept hk)
            have HO1 := Hid.mk' (HO1.out.kept hk (by simp))
            have HO2 := Hid.mk' (HO2.out.kept hk (by simp))
            refine hK.out _ _ hnew (fun hHeld => ?_)
            clear hK K hnew hk
            obtain ⟨wv58, hwv58⟩ : ∃ v, (wv55.alloc (.cells #[.int .i64 0, .slice (some ⟨o1, 0, none⟩) 64 64, .int .i64 1, .slice (some ⟨o2, 0, none⟩) 64 64] 36)) = v := ⟨_, rfl⟩
            rw [hwv58] at hHeld HG0 HBX HO1 HO2 HPU ⊢
            clear hwv58
            refine wpAnyH_ready (rs := [6]) (by kernel_rfl) (by simp) ?_
            refine (AllReadyH.cons rfl (fun K hK => ?rz59x6) AllReadyH.nil)
            case rz59x6 =>
              have hbl := HBX.out.lt
              go_simp
              go_wp2_with (go_at_call 13; refine (ali_do HG0.out HPU.out).mono ?_; rintro e wv60 ⟨g, rfl, hge, hr, hk⟩)
              have hnew := hHeld.tr hk
              have HG0 := Hid.mk' (HG0.out.kept hk (by simp))
              have HBX := Hid.mk' (HBX.out.kept hk)
              have HO1 := Hid.mk' (HO1.out.kept hk (by simp))
              have HO2 := Hid.mk' (HO2.out.kept hk (by simp))
              have HPU := Hid.mk' (HPU.out.kept hk)
              have HG := Hid.mk' hr
              have hbg : W.heap.size ≠ g := by omega
              clear hr
              refine hK.out _ _ hnew (fun hHeld => ?_)
              clear hK K hk hnew
              refine hold_take (i := 7) (v := ?rv61) rfl rfl (by kernel_rfl) (by kernel_rfl) (by kernel_rfl) (fun _ _ _ h => h) (Or.inl ⟨by rfl, ?rhy61⟩) hHeld ?rrest61
              case rhy61 => first | (intro w hSw; (try dsimp only at hSw); go_simp; done) | (intro w hSw; (try dsimp only at hSw); go_simp; with_reducible rfl)
              try simp only [List.setIfInBounds_toArray, List.set_cons_zero, List.set_cons_succ]
              refine hold_take (i := 8) (v := ?rv62) rfl rfl (by kernel_rfl) (by kernel_rfl) (by kernel_rfl) (fun _ _ _ h => h) (Or.inl ⟨by rfl, ?rhy62⟩) hHeld ?rrest62
              case rhy62 => first | (intro w hSw; (try dsimp only at hSw); go_simp; done) | (intro w hSw; (try dsimp only at hSw); go_simp; with_reducible rfl)
              try simp only [List.setIfInBounds_toArray, List.set_cons_zero, List.set_cons_succ]
              refine hold_take (i := 9) (v := ?rv63) rfl rfl (by kernel_rfl) (by kernel_rfl) (by kernel_rfl) (fun _ _ _ h => h) (Or.inl ⟨by rfl, ?rhy63⟩) hHeld ?rrest63
              case rhy63 => first | (intro w hSw; (try dsimp only at hSw); go_simp; done) | (intro w hSw; (try dsimp only at hSw); go_simp; with_reducible rfl)
              try simp only [List.setIfInBounds_toArray, List.set_cons_zero, List.set_cons_succ]
              refine wpAnyH_ready (rs := [11]) (by kernel_rfl) (by simp) ?_
              refine (AllReadyH.cons rfl (fun K hK => ?rz64x11) AllReadyH.nil)
              case rz64x11 =>
                have d0 := HBX.out.c0
                have e0 := HBX.out.f0
                have d1 := HBX.out.lt
                go_simp
                have hnew := hHeld.setNew (p := ⟨W.heap.size, 0, none⟩) hBw (.slice (some ⟨g, 0, none⟩) 128 128)
                have hfin : Ali W _ g (W.heap.size) := ⟨hnew, HG.out.far (b := W.heap.size) hbg 0 _, HBX.out.set _ _ _⟩
                refine hK.out _ _ hnew (fun hHeld => ?_)
                clear hK K hnew
                refine hold_take (i := 12) (v := ?rv65) rfl rfl (by kernel_rfl) (by kernel_rfl) (by kernel_rfl) (fun _ _ _ h => h) (Or.inl ⟨by rfl, ?rhy65⟩) hHeld ?rrest65
                case rhy65 => first | (intro w hSw; (try dsimp only at hSw); go_simp; done) | (intro w hSw; (try dsimp only at hSw); go_simp; with_reducible rfl)
                try simp only [List.setIfInBounds_toArray, List.set_cons_zero, List.set_cons_succ]
                refine wpAnyH_done (by kernel_rfl) ?_ _
                refine ⟨o1, o2, wv55.heap.size, g, W.heap.size, ?_, hfin⟩
                generalize wv55.heap.size = s'
                generalize W.heap.size = b'
                with_reducible rfl
  case cont1 =>
  intro e a' w2 hq
  obtain ⟨rfl, o1, o2, s, g, b, rfl, hA⟩ := hq.out
  have HA := Hid.mk' hA
  have c0 := hA.bx.c0
  have hl := hA.bx.lt
  clear hA hU
  go_wp2_with (first | (go_at_call 12; refine (ali_read 1 (HA.out.row.kept hk3 (by simp)) rfl (by omega) (by omega)).mono ?_; rintro e w4 ⟨g4, rfl, hg4, hr4, hk4⟩) | (go_at_call 12; refine (ali_read 0 HA.out.row rfl (by omega) (by omega)).mono ?_; rintro e w3 ⟨g3, rfl, hg3, hr3, hk3⟩; have c3 := (HA.out.bx.kept hk3).c0; have hl3 := (HA.out.bx.kept hk3).lt; clear c0 hl))
  rw [show (Int.toNat 0) = 0 from rfl, aliD_0] at hr3
  rw [show (Int.toNat 1) = 1 from rfl] at hr4
  have HKF := Hid.mk' (((HKW.out.tr HA.out.kept).tr hk3).tr hk4)
  have HT := Hid.mk' ((hr3.kept hk4 (by simp)).cm 64 (by simp) (by omega) onesL_lt)
  have HF := Hid.mk' hr4
  have hT3 : ∀ w', Kept w4 w' none → (convert 22 9 (.slice (some ⟨g3, 0, none⟩) 64 64)).run Try.prog w' = .ok (.string (textOf onesL)) w' := fun w' hk => run_text (HT.out.by_.kept hk) 64
  have hf1 : ∀ w', Kept w4 w' none → w'.cell? ⟨g4, 1, none⟩ = some (.int .u8 1) := fun w' hk => by
    have := (HF.out.kept hk (by simp)).cell (i := 1) (by rw [aliD_1.1]; omega)
    rw [aliD_1.2.1] at this
    exact this
  have hf2 : ∀ w', Kept w4 w' none → w'.cell? ⟨g4, 2, none⟩ = some (.int .u8 0) := fun w' hk => by
    have := (HF.out.kept hk (by simp)).cell (i := 2) (by rw [aliD_1.1]; omega)
    rw [aliD_1.2.2] at this
    exact this
  clear hr3 hr4 hk3 hk4 hg3 hg4 c3 hl3
  refine Code.wp_mono (Q := R1 ?A2 (fun o w' => Kept w4 w' none)) ?cont2 ?reg2
  case reg2 =>
    repeat (rename_i hh; clear hh)
    refine wp_region_held_drew (S := fun w' => Kept w4 w' none) (by kernel_rfl) (kept_drw _ _) (fun hHeld => ?_)
    refine hold_take (i := 0) (v := ?rv66) rfl rfl (by kernel_rfl) (by kernel_rfl) (by kernel_rfl) (fun _ _ _ h => h) (Or.inl ⟨by rfl, ?rhy66⟩) hHeld ?rrest66
    case rhy66 => first | (intro w hSw; (try dsimp only at hSw); go_simp; done) | (intro w hSw; (try dsimp only at hSw); go_simp; with_reducible rfl)
    try simp only [List.setIfInBounds_toArray, List.set_cons_zero, List.set_cons_succ]
    refine hold_take (i := 1) (v := ?rv67) rfl rfl (by kernel_rfl) (by kernel_rfl) (by kernel_rfl) (fun _ _ _ h => h) (Or.inl ⟨by rfl, ?rhy67⟩) hHeld ?rrest67
    case rhy67 => first | (intro w hSw; (try dsimp only at hSw); go_simp; done) | (intro w hSw; (try dsimp only at hSw); go_simp; with_reducible rfl)
    try simp only [List.setIfInBounds_toArray, List.set_cons_zero, List.set_cons_succ]
    refine hold_take (i := 2) (v := ?rv68) rfl rfl (by kernel_rfl) (by kernel_rfl) (by kernel_rfl) (fun _ _ _ h => h) (Or.inl ⟨by rfl, ?rhy68⟩) hHeld ?rrest68
    case rhy68 => first | (intro w hSw; (try dsimp only at hSw); go_simp; done) | (intro w hSw; (try dsimp only at hSw); go_simp; with_reducible rfl)
    try simp only [List.setIfInBounds_toArray, List.set_cons_zero, List.set_cons_succ]
    refine hold_take (i := 3) (v := ?rv69) rfl rfl (by kernel_rfl) (by kernel_rfl) (by kernel_rfl) (fun _ _ _ h => h) (Or.inl ⟨by rfl, ?rhy69⟩) hHeld ?rrest69
    case rhy69 => first | (intro w hSw; (try dsimp only at hSw); go_simp; done) | (intro w hSw; (try dsimp only at hSw); go_simp; with_reducible rfl)
    try simp only [List.setIfInBounds_toArray, List.set_cons_zero, List.set_cons_succ]
    refine hold_take (i := 4) (v := ?rv70) rfl rfl (by kernel_rfl) (by kernel_rfl) (by kernel_rfl) (fun _ _ _ h => h) (Or.inl ⟨by rfl, ?rhy70⟩) hHeld ?rrest70
    case rhy70 => first | (intro w hSw; (try dsimp only at hSw); go_simp; done) | (intro w hSw; (try dsimp only at hSw); go_simp; with_reducible rfl)
    try simp only [List.setIfInBounds_toArray, List.set_cons_zero, List.set_cons_succ]
    refine hold_take (i := 5) (v := ?rv71) rfl rfl (by kernel_rfl) (by kernel_rfl) (by kernel_rfl) (fun _ _ _ h => h) (Or.inl ⟨by rfl, ?rhy71⟩) hHeld ?rrest71
    case rhy71 => first | (intro w hSw; (try dsimp only at hSw); go_simp; done) | (intro w hSw; (try dsimp only at hSw); go_simp; with_reducible rfl)
    try simp only [List.setIfInBounds_toArray, List.set_cons_zero, List.set_cons_succ]
    refine hold_take (i := 6) (v := ?rv72) rfl rfl (by kernel_rfl) (by kernel_rfl) (by kernel_rfl) (fun _ _ _ h => h) (Or.inl ⟨by rfl, ?rhy72⟩) hHeld ?rrest72
    case rhy72 => first | (intro w hSw; (try dsimp only at hSw); go_simp; done) | (intro w hSw; (try dsimp only at hSw); go_simp; with_reducible rfl)
    try simp only [List.setIfInBounds_toArray, List.set_cons_zero, List.set_cons_succ]
    refine hold_take (i := 7) (v := ?rv73) rfl rfl (by kernel_rfl) (by kernel_rfl) (by kernel_rfl) (fun _ _ _ h => h) (Or.inl ⟨by rfl, ?rhy73⟩) hHeld ?rrest73
    case rhy73 => first | (intro w hSw; (try dsimp only at hSw); go_simp; done) | (intro w hSw; (try dsimp only at hSw); go_simp; with_reducible rfl)
    try simp only [List.setIfInBounds_toArray, List.set_cons_zero, List.set_cons_succ]
    refine hold_take (i := 8) (v := ?rv74) rfl rfl (by kernel_rfl) (by kernel_rfl) (by kernel_rfl) (fun _ _ _ h => h) (Or.inl ⟨by rfl, ?rhy74⟩) hHeld ?rrest74
    case rhy74 => first | (intro w hSw; (try dsimp only at hSw); go_simp; done) | (intro w hSw; (try dsimp only at hSw); go_simp; with_reducible rfl)
    try simp only [List.setIfInBounds_toArray, List.set_cons_zero, List.set_cons_succ]
    refine hold_take (i := 9) (v := ?rv75) rfl rfl (by kernel_rfl) (by kernel_rfl) (by kernel_rfl) (fun _ _ _ h => h) (Or.inl ⟨by rfl, ?rhy75⟩) hHeld ?rrest75
    case rhy75 => first | (intro w hSw; (try dsimp only at hSw); go_simp; done) | (intro w hSw; (try dsimp only at hSw); go_simp; with_reducible rfl)
    try simp only [List.setIfInBounds_toArray, List.set_cons_zero, List.set_cons_succ]
    refine hold_take (i := 10) (v := ?rv76) rfl rfl (by kernel_rfl) (by kernel_rfl) (by kernel_rfl) (fun _ _ _ h => h) (Or.inl ⟨by rfl, ?rhy76⟩) hHeld ?rrest76
    case rhy76 => first | (intro w hSw; (try dsimp only at hSw); go_simp; done) | (intro w hSw; (try dsimp only at hSw); go_simp; with_reducible rfl)
    try simp only [List.setIfInBounds_toArray, List.set_cons_zero, List.set_cons_succ]
    refine hold_take (i := 11) (v := ?rv77) rfl rfl (by kernel_rfl) (by kernel_rfl) (by kernel_rfl) (fun _ _ _ h => h) (Or.inl ⟨by rfl, ?rhy77⟩) hHeld ?rrest77
    case rhy77 => first | (intro w hSw; (try dsimp only at hSw); go_simp; done) | (intro w hSw; (try dsimp only at hSw); go_simp; with_reducible rfl)
    try simp only [List.setIfInBounds_toArray, List.set_cons_zero, List.set_cons_succ]
    refine hold_take (i := 12) (v := ?rv78) rfl rfl (by kernel_rfl) (by kernel_rfl) (by kernel_rfl) (fun _ _ _ h => h) (Or.inl ⟨by rfl, ?rhy78⟩) hHeld ?rrest78
    case rhy78 => first | (intro w hSw; (try dsimp only at hSw); go_simp; done) | (intro w hSw; (try dsimp only at hSw); go_simp; with_reducible rfl)
    try simp only [List.setIfInBounds_toArray, List.set_cons_zero, List.set_cons_succ]
    refine hold_take (i := 13) (v := ?rv79) rfl rfl (by kernel_rfl) (by kernel_rfl) (by kernel_rfl) (fun _ _ _ h => h) (Or.inl ⟨by rfl, ?rhy79⟩) hHeld ?rrest79
    case rhy79 => first | (intro w hSw; (try dsimp only at hSw); go_simp; done) | (intro w hSw; (try dsimp only at hSw); go_simp; with_reducible rfl)
    try simp only [List.setIfInBounds_toArray, List.set_cons_zero, List.set_cons_succ]
    refine hold_take (i := 14) (v := ?rv80) rfl rfl (by kernel_rfl) (by kernel_rfl) (by kernel_rfl) (fun _ _ _ h => h) (Or.inl ⟨by rfl, ?rhy80⟩) hHeld ?rrest80
    case rhy80 => first | (intro w hSw; (try dsimp only at hSw); go_simp; done) | (intro w hSw; (try dsimp only at hSw); go_simp; with_reducible rfl)
    try simp only [List.setIfInBounds_toArray, List.set_cons_zero, List.set_cons_succ]
    refine hold_take (i := 15) (v := ?rv81) rfl rfl (by kernel_rfl) (by kernel_rfl) (by kernel_rfl) (fun _ _ _ h => h) (Or.inl ⟨by rfl, ?rhy81⟩) hHeld ?rrest81
    case rhy81 => first | (intro w hSw; (try dsimp only at hSw); go_simp; done) | (intro w hSw; (try dsimp only at hSw); go_simp; with_reducible rfl)
    try simp only [List.setIfInBounds_toArray, List.set_cons_zero, List.set_cons_succ]
    refine hold_take (i := 16) (v := ?rv82) rfl rfl (by kernel_rfl) (by kernel_rfl) (by kernel_rfl) (fun _ _ _ h => h) (Or.inl ⟨by rfl, ?rhy82⟩) hHeld ?rrest82
    case rhy82 => first | (intro w hSw; (try dsimp only at hSw); go_simp; done) | (intro w hSw; (try dsimp only at hSw); go_simp; with_reducible rfl)
    try simp only [List.setIfInBounds_toArray, List.set_cons_zero, List.set_cons_succ]
    refine wpAnyH_ready (rs := [17]) (by kernel_rfl) (by simp) ?_
    refine (AllReadyH.cons rfl (fun K hK => ?rz83x17) AllReadyH.nil)
    case rz83x17 =>
      go_simp
      go_wp2_with (go_at_call 11; refine (ones_any w4.drew).mono ?_; rintro e wv84 ⟨o5, rfl, hge, hr, hk⟩)
      have hnew := hHeld.tr hk
      have HO := Hid.mk' hr
      clear hr
      refine hK.out _ _ hnew (fun hHeld => ?_)
      clear hK K hk hnew
      refine wpAnyH_ready (rs := [18]) (by kernel_rfl) (by simp) ?_
      refine (AllReadyH.cons rfl (fun K hK => ?rz85x18) AllReadyH.nil)
      case rz85x18 =>
        have hrun := run_text (HO.out.cm 64 (by simp) (by omega) onesL_lt).by_ 64
        go_simp
        refine hK.out _ _ hHeld (fun hHeld => ?_)
        clear hK K hrun
        refine hold_take (i := 19) (v := ?rv86) rfl rfl (by kernel_rfl) (by kernel_rfl) (by kernel_rfl) (fun _ _ _ h => h) (Or.inl ⟨by rfl, ?rhy86⟩) hHeld ?rrest86
        case rhy86 => first | (intro w hSw; (try dsimp only at hSw); go_simp; done) | (intro w hSw; (try dsimp only at hSw); go_simp; with_reducible rfl)
        try simp only [List.setIfInBounds_toArray, List.set_cons_zero, List.set_cons_succ]
        refine hold_take (i := 20) (v := ?rv87) rfl rfl (by kernel_rfl) (by kernel_rfl) (by kernel_rfl) (fun _ _ _ h => h) (Or.inl ⟨by rfl, ?rhy87⟩) hHeld ?rrest87
        case rhy87 => first | (intro w hSw; (try dsimp only at hSw); go_simp; done) | (intro w hSw; (try dsimp only at hSw); go_simp; with_reducible rfl)
        try simp only [List.setIfInBounds_toArray, List.set_cons_zero, List.set_cons_succ]
        refine hold_take (i := 21) (v := ?rv88) rfl rfl (by kernel_rfl) (by kernel_rfl) (by kernel_rfl) (fun _ _ _ h => h) (Or.inl ⟨by rfl, ?rhy88⟩) hHeld ?rrest88
        case rhy88 => first | (intro w hSw; (try dsimp only at hSw); go_simp; done) | (intro w hSw; (try dsimp only at hSw); go_simp; with_reducible rfl)
        try simp only [List.setIfInBounds_toArray, List.set_cons_zero, List.set_cons_succ]
        refine hold_take (i := 22) (v := ?rv89) rfl rfl (by kernel_rfl) (by kernel_rfl) (by kernel_rfl) (fun _ _ _ h => h) (Or.inl ⟨by rfl, ?rhy89⟩) hHeld ?rrest89
        case rhy89 => first | (intro w hSw; (try dsimp only at hSw); go_simp; done) | (intro w hSw; (try dsimp only at hSw); go_simp; with_reducible rfl)
        try simp only [List.setIfInBounds_toArray, List.set_cons_zero, List.set_cons_succ]
        refine hold_take (i := 23) (v := ?rv90) rfl rfl (by kernel_rfl) (by kernel_rfl) (by kernel_rfl) (fun _ _ _ h => h) (Or.inl ⟨by rfl, ?rhy90⟩) hHeld ?rrest90
        case rhy90 => first | (intro w hSw; (try dsimp only at hSw); go_simp; done) | (intro w hSw; (try dsimp only at hSw); go_simp; with_reducible rfl)
        try simp only [List.setIfInBounds_toArray, List.set_cons_zero, List.set_cons_succ]
        refine hold_take (i := 24) (v := ?rv91) rfl rfl (by kernel_rfl) (by kernel_rfl) (by kernel_rfl) (fun _ _ _ h => h) (Or.inl ⟨by rfl, ?rhy91⟩) hHeld ?rrest91
        case rhy91 => first | (intro w hSw; (try dsimp only at hSw); go_simp; done) | (intro w hSw; (try dsimp only at hSw); go_simp; with_reducible rfl)
        try simp only [List.setIfInBounds_toArray, List.set_cons_zero, List.set_cons_succ]
        refine hold_take (i := 25) (v := ?rv92) rfl rfl (by kernel_rfl) (by kernel_rfl) (by kernel_rfl) (fun _ _ _ h => h) (Or.inl ⟨by rfl, ?rhy92⟩) hHeld ?rrest92
        case rhy92 => first | (intro w hSw; (try dsimp only at hSw); go_simp; done) | (intro w hSw; (try dsimp only at hSw); go_simp; with_reducible rfl)
        try simp only [List.setIfInBounds_toArray, List.set_cons_zero, List.set_cons_succ]
        refine hold_take (i := 26) (v := ?rv93) rfl rfl (by kernel_rfl) (by kernel_rfl) (by kernel_rfl) (fun _ _ _ h => h) (Or.inl ⟨by rfl, ?rhy93⟩) hHeld ?rrest93
        case rhy93 => first | (intro w hSw; (try dsimp only at hSw); go_simp; done) | (intro w hSw; (try dsimp only at hSw); go_simp; with_reducible rfl)
        try simp only [List.setIfInBounds_toArray, List.set_cons_zero, List.set_cons_succ]
        refine hold_take (i := 27) (v := ?rv94) rfl rfl (by kernel_rfl) (by kernel_rfl) (by kernel_rfl) (fun _ _ _ h => h) (Or.inl ⟨by rfl, ?rhy94⟩) hHeld ?rrest94
        case rhy94 => first | (intro w hSw; (try dsimp only at hSw); go_simp; done) | (intro w hSw; (try dsimp only at hSw); go_simp; with_reducible rfl)
        try simp only [List.setIfInBounds_toArray, List.set_cons_zero, List.set_cons_succ]
        refine hold_take (i := 28) (v := ?rv95) rfl rfl (by kernel_rfl) (by kernel_rfl) (by kernel_rfl) (fun _ _ _ h => h) (Or.inl ⟨by rfl, ?rhy95⟩) hHeld ?rrest95
        case rhy95 => first | (intro w hSw; (try dsimp only at hSw); go_simp; done) | (intro w hSw; (try dsimp only at hSw); go_simp; with_reducible rfl)
        try simp only [List.setIfInBounds_toArray, List.set_cons_zero, List.set_cons_succ]
        refine hold_take (i := 29) (v := ?rv96) rfl rfl (by kernel_rfl) (by kernel_rfl) (by kernel_rfl) (fun _ _ _ h => h) (Or.inl ⟨by rfl, ?rhy96⟩) hHeld ?rrest96
        case rhy96 => first | (intro w hSw; (try dsimp only at hSw); go_simp; done) | (intro w hSw; (try dsimp only at hSw); go_simp; with_reducible rfl)
        try simp only [List.setIfInBounds_toArray, List.set_cons_zero, List.set_cons_succ]
        refine hold_take (i := 30) (v := ?rv97) rfl rfl (by kernel_rfl) (by kernel_rfl) (by kernel_rfl) (fun _ _ _ h => h) (Or.inl ⟨by rfl, ?rhy97⟩) hHeld ?rrest97
        case rhy97 => first | (intro w hSw; (try dsimp only at hSw); go_simp; done) | (intro w hSw; (try dsimp only at hSw); go_simp; with_reducible rfl)
        try simp only [List.setIfInBounds_toArray, List.set_cons_zero, List.set_cons_succ]
        refine hold_take (i := 31) (v := ?rv98) rfl rfl (by kernel_rfl) (by kernel_rfl) (by kernel_rfl) (fun _ _ _ h => h) (Or.inl ⟨by rfl, ?rhy98⟩) hHeld ?rrest98
        case rhy98 => first | (intro w hSw; (try dsimp only at hSw); go_simp; done) | (intro w hSw; (try dsimp only at hSw); go_simp; with_reducible rfl)
        try simp only [List.setIfInBounds_toArray, List.set_cons_zero, List.set_cons_succ]
        refine hold_take (i := 32) (v := ?rv99) rfl rfl (by kernel_rfl) (by kernel_rfl) (by kernel_rfl) (fun _ _ _ h => h) (Or.inl ⟨by rfl, ?rhy99⟩) hHeld ?rrest99
        case rhy99 => first | (intro w hSw; (try dsimp only at hSw); go_simp; done) | (intro w hSw; (try dsimp only at hSw); go_simp; with_reducible rfl)
        try simp only [List.setIfInBounds_toArray, List.set_cons_zero, List.set_cons_succ]
        refine hold_take (i := 33) (v := ?rv100) rfl rfl (by kernel_rfl) (by kernel_rfl) (by kernel_rfl) (fun _ _ _ h => h) (Or.inl ⟨by rfl, ?rhy100⟩) hHeld ?rrest100
        case rhy100 => first | (intro w hSw; (try dsimp only at hSw); go_simp; done) | (intro w hSw; (try dsimp only at hSw); go_simp; with_reducible rfl)
        try simp only [List.setIfInBounds_toArray, List.set_cons_zero, List.set_cons_succ]
        refine hold_take (i := 34) (v := ?rv101) rfl rfl (by kernel_rfl) (by kernel_rfl) (by kernel_rfl) (fun _ _ _ h => h) (Or.inl ⟨by rfl, ?rhy101⟩) hHeld ?rrest101
        case rhy101 => first | (intro w hSw; (try dsimp only at hSw); go_simp; done) | (intro w hSw; (try dsimp only at hSw); go_simp; with_reducible rfl)
        try simp only [List.setIfInBounds_toArray, List.set_cons_zero, List.set_cons_succ]
        refine hold_take (i := 35) (v := ?rv102) rfl rfl (by kernel_rfl) (by kernel_rfl) (by kernel_rfl) (fun _ _ _ h => h) (Or.inl ⟨by rfl, ?rhy102⟩) hHeld ?rrest102
        case rhy102 => first | (intro w hSw; (try dsimp only at hSw); go_simp; done) | (intro w hSw; (try dsimp only at hSw); go_simp; with_reducible rfl)
        try simp only [List.setIfInBounds_toArray, List.set_cons_zero, List.set_cons_succ]
        refine hold_take (i := 36) (v := ?rv103) rfl rfl (by kernel_rfl) (by kernel_rfl) (by kernel_rfl) (fun _ _ _ h => h) (Or.inl ⟨by rfl, ?rhy103⟩) hHeld ?rrest103
        case rhy103 => first | (intro w hSw; (try dsimp only at hSw); go_simp; done) | (intro w hSw; (try dsimp only at hSw); go_simp; with_reducible rfl)
        try simp only [List.setIfInBounds_toArray, List.set_cons_zero, List.set_cons_succ]
        refine hold_take (i := 37) (v := ?rv104) rfl rfl (by kernel_rfl) (by kernel_rfl) (by kernel_rfl) (fun _ _ _ h => h) (Or.inl ⟨by rfl, ?rhy104⟩) hHeld ?rrest104
        case rhy104 => first | (intro w hSw; (try dsimp only at hSw); go_simp; done) | (intro w hSw; (try dsimp only at hSw); go_simp; with_reducible rfl)
        try simp only [List.setIfInBounds_toArray, List.set_cons_zero, List.set_cons_succ]
        refine hold_take (i := 38) (v := ?rv105) rfl rfl (by kernel_rfl) (by kernel_rfl) (by kernel_rfl) (fun _ _ _ h => h) (Or.inl ⟨by rfl, ?rhy105⟩) hHeld ?rrest105
        case rhy105 => first | (intro w hSw; (try dsimp only at hSw); go_simp; done) | (intro w hSw; (try dsimp only at hSw); go_simp; with_reducible rfl)
        try simp only [List.setIfInBounds_toArray, List.set_cons_zero, List.set_cons_succ]
        refine wpAnyH_done (by kernel_rfl) ?_ _
        refine ⟨o5, ?_, hHeld⟩
        with_reducible rfl
  case cont2 =>
  intro e a' w5 hq2
  obtain ⟨rfl, o', rfl, hk5⟩ := hq2.out
  go_wp2
  go_ret
  exact ⟨rfl, HKF.out.tr hk5⟩

end Go.Proofs.Ytpfbdandhdapcaa
