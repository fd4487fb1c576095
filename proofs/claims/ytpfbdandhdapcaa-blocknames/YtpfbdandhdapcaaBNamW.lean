/-
  BLOCKNAMES' WALK (made by a program).
-/
import Derived.Test.YtpfbdandhdapcaaBNamM
namespace Go.Proofs.Ytpfbdandhdapcaa
open Go.RowKit Go.Lib Go.Deep
set_option linter.unusedVariables false
set_option linter.unusedSimpArgs false

abbrev zerL : List Nat := List.replicate 128 0
def NamX : List Nat := doL zerL [⟨1, onesL⟩] 1 0
theorem nam_e1 : doE 128 [⟨1, onesL⟩] 1 0 = 0 := by decide +kernel
theorem nam_l1 : NamX.length = 128 := by decide +kernel
theorem nam_e2 : doE 128 [⟨0, onesL.take 63⟩] 1 0 = 8 := by decide +kernel
theorem nam_l2 : doL zerL [⟨0, onesL.take 63⟩] 1 0 = [] := by decide +kernel
theorem nam_e3 : doE 128 [⟨0, onesL⟩] 2 0 = 2 := by decide +kernel
theorem nam_l3 : doL zerL [⟨0, onesL⟩] 2 0 = [] := by decide +kernel
theorem nam_r1 : brE 128 1 = 0 := by decide +kernel
theorem nam_r2 : brL NamX 1 = onesL := by decide +kernel
theorem nam_r3 : brE 128 2 = 2 := by decide +kernel
theorem nam_r4 : brL zerL 2 = [] := by decide +kernel
theorem nam_ne : decide (zerL = NamX) = false := by decide +kernel
theorem nam_63 {w : World} {o : Nat} (h : Row w o onesL) : Come w (some ⟨o, 0, none⟩) 63 64 (onesL.take 63) :=
  ⟨(h.by_ (by simp) onesL_lt).take 63 (by simp), fun e => (nomatch e), by omega, by omega⟩
theorem nam_chk0 (w : World) : Calls Try.prog 15 #[dvV none 0 0] w fun e w' => e = .returned (.int .i64 180) ∧ Kept w w' none := bchk_any none 0 0 w (by omega)
theorem nam_chk65 (a : Option Addr) (c : Nat) (w : World) : Calls Try.prog 15 #[dvV a 65 c] w fun e w' => e = .returned (.int .i64 180) ∧ Kept w w' none := bchk_any a 65 c w (by omega)
theorem nam_same {a b : Option Addr} {n m c d : Nat} {w : World} (h : By w a n zerL) (k : By w b m NamX) : Calls Try.prog 16 #[dvV a n c, dvV b m d] w fun e w' => e = .returned (.bool false) ∧ Kept w w' none := (bsame_any h k).mono fun e w' h => ⟨by rw [h.1, nam_ne], h.2⟩
set_option maxRecDepth 100000 in
set_option maxHeartbeats 3000000 in
theorem bnam_any (w : World) : Calls Try.prog 3 #[] w fun e w' => e = .returned (.bool true) ∧ Kept w w' none := by
  go_enter Try.func3, Try.ntmps3
  go_wp2_with (first
    | (go_at_call 9; refine (bmany_any a0 128 c0 _ (by omega)).mono ?_; rw [show manV 128 = 2 by decide +kernel, show chkE 128 = 0 by decide +kernel]; rintro e w2 ⟨rfl, hk2⟩)
    | (go_at_call 8; refine (nw_new 2 w (E := 0) (M := zerL) (n2 := 128) rfl rfl (by simp)).mono ?_; rintro e w1 ⟨a0, c0, rfl, hn1, hk1⟩))
  have HK2 := Hid.mk' ((hk1.tr (Kept.alloc w1 (dvC a0 128 c0) 24 (0, 0) none)).tr hk2)
  have HD2 := Hid.mk' ((db_alloc w1 a0 128 c0 24).kept hk2)
  have HCW := Hid.mk' ((hn1.out.come.kpt (Kept.alloc w1 (dvC a0 128 c0) 24 (0, 0) none)).kpt hk2)
  generalize w1.heap.size = bd at HD2 ⊢
  clear hn1 hk1 hk2
  obtain ⟨W, hW⟩ : ∃ W, W = w2 := ⟨_, rfl⟩
  subst hW
  have hD : ∀ w', Kept W w' none → w'.cell? ⟨bd, 0, none⟩ = some (.slice a0 128 c0) := fun w' hk => (HD2.out.kept hk).c0
  refine Code.wp_mono (Q := R4 ?A1 (fun oa c b w' => Dbx W w' 128 NamX oa c b)) ?cont1 ?reg1
  case reg1 =>
    repeat (rename_i hh; clear hh)
    refine wp_region_held_drew (S := fun w' => Kept W w' none) (by kernel_rfl) (kept_drw _ _) (fun hHeld => ?_)
    have HCD := Hid.mk' (HCW.out.kpt (kept_drw W none))
    refine hold_take (i := 0) (v := ?rv1) rfl rfl (by kernel_rfl) (by kernel_rfl) (by kernel_rfl) (fun _ _ _ h => h) (Or.inl ⟨by rfl, ?rhy1⟩) hHeld ?rrest1
    case rhy1 => first | (intro w hSw; (try dsimp only at hSw); go_simp; done) | (intro w hSw; (try dsimp only at hSw); go_simp; with_reducible rfl)
    try simp only [List.setIfInBounds_toArray, List.set_cons_zero, List.set_cons_succ]
    refine wpAnyH_ready (rs := [1, 6]) (by kernel_rfl) (by simp) ?_
    refine (AllReadyH.cons rfl (fun K hK => ?rz2x1) (AllReadyH.cons rfl (fun K hK => ?rz2x6) AllReadyH.nil))
    case rz2x1 =>
      go_simp
      refine (ones_any W.drew).mono ?_
      rintro e wv3 ⟨o1, rfl, hge, hr, hk⟩
      dsimp only
      have hnew := hHeld.tr hk
      have HCD := Hid.mk' (HCD.out.kpt hk)
      have HO1 := Hid.mk' hr
      clear hr
      refine hK.out _ _ hnew (fun hHeld => ?_)
      clear hK K hk hnew
      refine wpAnyH_ready (rs := [2, 6]) (by kernel_rfl) (by simp) ?_
      refine (AllReadyH.cons rfl (fun K hK => ?rz4x2) (AllReadyH.cons rfl (fun K hK => ?rz4x6) AllReadyH.nil))
      case rz4x2 =>
        go_simp
        refine (nw_write wv3 HCD.out (HO1.out.cm 64 (by simp) (by omega) onesL_lt) (E := 0) (M := NamX) (n2 := 128) nam_e1 rfl nam_l1).mono ?_
        rintro e wv5 ⟨oa, cn, rfl, hcz, hk⟩
        dsimp only
        have hnew := hHeld.tr hk
        have HCD := Hid.mk' (HCD.out.kpt hk)
        have HO1 := Hid.mk' (HO1.out.kept hk (by simp))
        have HN2 := Hid.mk' hcz.out.come
        have HNL := Hid.mk' hcz.out.lt
        refine hK.out _ _ hnew (fun hHeld => ?_)
        clear hK K hk hnew
        refine hold_take (i := 3) (v := ?rv6) rfl rfl (by kernel_rfl) (by kernel_rfl) (by kernel_rfl) (fun _ _ _ h => h) (Or.inl ⟨by rfl, ?rhy6⟩) hHeld ?rrest6
        case rhy6 => first | (intro w hSw; (try dsimp only at hSw); go_simp; done) | (intro w hSw; (try dsimp only at hSw); go_simp; with_reducible rfl)
        try simp only [List.setIfInBounds_toArray, List.set_cons_zero, List.set_cons_succ]
        refine hold_take (i := 4) (v := ?rv7) rfl rfl (by kernel_rfl) (by kernel_rfl) (by kernel_rfl) (fun _ _ _ h => h) (Or.inl ⟨by rfl, ?rhy7⟩) hHeld ?rrest7
        case rhy7 => first | (intro w hSw; (try dsimp only at hSw); go_simp; done) | (intro w hSw; (try dsimp only at hSw); go_simp; with_reducible rfl)
        try simp only [List.setIfInBounds_toArray, List.set_cons_zero, List.set_cons_succ]
        refine hold_take (i := 5) (v := ?rv8) rfl rfl (by kernel_rfl) (by kernel_rfl) (by kernel_rfl) (fun _ _ _ h => h) (Or.inl ⟨by rfl, ?rhy8⟩) hHeld ?rrest8
        case rhy8 => first | (intro w hSw; (try dsimp only at hSw); go_simp; done) | (intro w hSw; (try dsimp only at hSw); go_simp; with_reducible rfl)
        try simp only [List.setIfInBounds_toArray, List.set_cons_zero, List.set_cons_succ]
        refine wpAnyH_ready (rs := [6]) (by kernel_rfl) (by simp) ?_
        refine (AllReadyH.cons rfl (fun K hK => ?rz9x6) AllReadyH.nil)
        case rz9x6 =>
          go_simp
          have hk : Kept wv5 (wv5.alloc (.cells #[.slice none 0 0] 24)) none := Kept.alloc _ _ _ _ _
          have hnew := hHeld.tr hk
          have hBw : W.heap.size ≤ wv5.heap.size := hHeld.size
          have HBX := Hid.mk' (db_alloc wv5 none 0 0 24)
          have hbd : ∀ x, oa = some x → x.block ≠ wv5.heap.size := fun x hx => by have := HNL.out x hx; omega
          have hbd := Hid.mk' hbd
          have HCD := Hid.mk' (HCD.out.kpt hk)
          have HO1 := Hid.mk' (HO1.out.kept hk (by simp))
          have HN2 := Hid.mk' (HN2.out.kpt hk)
          refine hK.out _ _ hnew (fun hHeld => ?_)
          clear hK K hnew hk
          obtain ⟨wv10, hwv10⟩ : ∃ v, (wv5.alloc (.cells #[.slice none 0 0] 24)) = v := ⟨_, rfl⟩
          rw [hwv10] at hHeld HCD HO1 HN2 HBX ⊢
          clear hwv10
          refine wpAnyH_ready (rs := [7]) (by kernel_rfl) (by simp) ?_
          refine (AllReadyH.cons rfl (fun K hK => ?rz11x7) AllReadyH.nil)
          case rz11x7 =>
            have d0 := HBX.out.c0
            have e0 := HBX.out.f0
            have d1 := HBX.out.lt
            go_simp
            have hnew := hHeld.setNew (p := ⟨wv5.heap.size, 0, none⟩) hBw (.slice oa 128 cn)
            have hfin : Dbx W _ 128 NamX oa cn (wv5.heap.size) := ⟨hnew, HN2.out.far (b := wv5.heap.size) 0 _ hbd.out, HBX.out.set _ _ _⟩
            refine hK.out _ _ hnew (fun hHeld => ?_)
            clear hK K hnew
            refine hold_take (i := 8) (v := ?rv12) rfl rfl (by kernel_rfl) (by kernel_rfl) (by kernel_rfl) (fun _ _ _ h => h) (Or.inl ⟨by rfl, ?rhy12⟩) hHeld ?rrest12
            case rhy12 => first | (intro w hSw; (try dsimp only at hSw); go_simp; done) | (intro w hSw; (try dsimp only at hSw); go_simp; with_reducible rfl)
            try simp only [List.setIfInBounds_toArray, List.set_cons_zero, List.set_cons_succ]
            refine wpAnyH_done (by kernel_rfl) ?_ _
            obtain ⟨zz, hzz⟩ : ∃ zz : Nat, zz = 0 := ⟨_, rfl⟩
            clear hzz
            refine ⟨o1, oa, cn, zz, wv5.heap.size, ?_, hfin⟩
            generalize wv5.heap.size = b'
            with_reducible rfl
      case rz4x6 =>
        go_simp
        have hk : Kept wv3 (wv3.alloc (.cells #[.slice none 0 0] 24)) none := Kept.alloc _ _ _ _ _
        have hnew := hHeld.tr hk
        have hBw : W.heap.size ≤ wv3.heap.size := hHeld.size
        have HBX := Hid.mk' (db_alloc wv3 none 0 0 24)
        have HCD := Hid.mk' (HCD.out.kpt hk)
        have HO1 := Hid.mk' (HO1.out.kept hk (by simp))
        refine hK.out _ _ hnew (fun hHeld => ?_)
        clear hK K hnew hk
        obtain ⟨wv13, hwv13⟩ : ∃ v, (wv3.alloc (.cells #[.slice none 0 0] 24)) = v := ⟨_, rfl⟩
        rw [hwv13] at hHeld HCD HO1 HBX ⊢
        clear hwv13
        refine wpAnyH_ready (rs := [2]) (by kernel_rfl) (by simp) ?_
        refine (AllReadyH.cons rfl (fun K hK => ?rz14x2) AllReadyH.nil)
        case rz14x2 =>
          have hbl0 := HBX.out.lt
          go_simp
          refine (nw_write wv13 HCD.out (HO1.out.cm 64 (by simp) (by omega) onesL_lt) (E := 0) (M := NamX) (n2 := 128) nam_e1 rfl nam_l1).mono ?_
          rintro e wv15 ⟨oa, cn, rfl, hcz, hk⟩
          dsimp only
          have hnew := hHeld.tr hk
          have HCD := Hid.mk' (HCD.out.kpt hk)
          have HO1 := Hid.mk' (HO1.out.kept hk (by simp))
          have HBX := Hid.mk' (HBX.out.kept hk)
          have HN2 := Hid.mk' hcz.out.come
          have hbd := Hid.mk' (fun (x : Addr) (hx : oa = some x) => (by have := hcz.out.ge x hx; omega : x.block ≠ wv3.heap.size))
          refine hK.out _ _ hnew (fun hHeld => ?_)
          clear hK K hk hnew
          refine hold_take (i := 3) (v := ?rv16) rfl rfl (by kernel_rfl) (by kernel_rfl) (by kernel_rfl) (fun _ _ _ h => h) (Or.inl ⟨by rfl, ?rhy16⟩) hHeld ?rrest16
          case rhy16 => first | (intro w hSw; (try dsimp only at hSw); go_simp; done) | (intro w hSw; (try dsimp only at hSw); go_simp; with_reducible rfl)
          try simp only [List.setIfInBounds_toArray, List.set_cons_zero, List.set_cons_succ]
          refine hold_take (i := 4) (v := ?rv17) rfl rfl (by kernel_rfl) (by kernel_rfl) (by kernel_rfl) (fun _ _ _ h => h) (Or.inl ⟨by rfl, ?rhy17⟩) hHeld ?rrest17
          case rhy17 => first | (intro w hSw; (try dsimp only at hSw); go_simp; done) | (intro w hSw; (try dsimp only at hSw); go_simp; with_reducible rfl)
          try simp only [List.setIfInBounds_toArray, List.set_cons_zero, List.set_cons_succ]
          refine hold_take (i := 5) (v := ?rv18) rfl rfl (by kernel_rfl) (by kernel_rfl) (by kernel_rfl) (fun _ _ _ h => h) (Or.inl ⟨by rfl, ?rhy18⟩) hHeld ?rrest18
          case rhy18 => first | (intro w hSw; (try dsimp only at hSw); go_simp; done) | (intro w hSw; (try dsimp only at hSw); go_simp; with_reducible rfl)
          try simp only [List.setIfInBounds_toArray, List.set_cons_zero, List.set_cons_succ]
          refine wpAnyH_ready (rs := [7]) (by kernel_rfl) (by simp) ?_
          refine (AllReadyH.cons rfl (fun K hK => ?rz19x7) AllReadyH.nil)
          case rz19x7 =>
            have d0 := HBX.out.c0
            have e0 := HBX.out.f0
            have d1 := HBX.out.lt
            go_simp
            have hnew := hHeld.setNew (p := ⟨wv3.heap.size, 0, none⟩) hBw (.slice oa 128 cn)
            have hfin : Dbx W _ 128 NamX oa cn (wv3.heap.size) := ⟨hnew, HN2.out.far (b := wv3.heap.size) 0 _ hbd.out, HBX.out.set _ _ _⟩
            refine hK.out _ _ hnew (fun hHeld => ?_)
            clear hK K hnew
            refine hold_take (i := 8) (v := ?rv20) rfl rfl (by kernel_rfl) (by kernel_rfl) (by kernel_rfl) (fun _ _ _ h => h) (Or.inl ⟨by rfl, ?rhy20⟩) hHeld ?rrest20
            case rhy20 => first | (intro w hSw; (try dsimp only at hSw); go_simp; done) | (intro w hSw; (try dsimp only at hSw); go_simp; with_reducible rfl)
            try simp only [List.setIfInBounds_toArray, List.set_cons_zero, List.set_cons_succ]
            refine wpAnyH_done (by kernel_rfl) ?_ _
            obtain ⟨zz, hzz⟩ : ∃ zz : Nat, zz = 0 := ⟨_, rfl⟩
            clear hzz
            refine ⟨o1, oa, cn, zz, wv3.heap.size, ?_, hfin⟩
            generalize wv3.heap.size = b'
            with_reducible rfl
    case rz2x6 =>
      go_simp
      have hk : Kept W.drew (W.alloc (.cells #[.slice none 0 0] 24)).drew none := ⟨rfl, rfl, rfl, Nat.le_of_lt (by simp), fun i hi _ => Below.heap_alloc _ _ _ hi⟩
      have hnew := hHeld.tr hk
      have hBw : W.heap.size ≤ W.heap.size := Nat.le_refl _
      have HBX := Hid.mk' ((db_alloc W none 0 0 24).kept (kept_drw _ none))
      have HCD := Hid.mk' (HCD.out.kpt hk)
      refine hK.out _ _ hnew (fun hHeld => ?_)
      clear hK K hnew hk
      obtain ⟨wv21, hwv21⟩ : ∃ v, (W.alloc (.cells #[.slice none 0 0] 24)).drew = v := ⟨_, rfl⟩
      rw [hwv21] at hHeld HCD HBX ⊢
      clear hwv21
      refine wpAnyH_ready (rs := [1]) (by kernel_rfl) (by simp) ?_
      refine (AllReadyH.cons rfl (fun K hK => ?rz22x1) AllReadyH.nil)
      case rz22x1 =>
        go_simp
        refine (ones_any wv21).mono ?_
        rintro e wv23 ⟨o1, rfl, hge, hr, hk⟩
        dsimp only
        have hnew := hHeld.tr hk
        have HCD := Hid.mk' (HCD.out.kpt hk)
        have HBX := Hid.mk' (HBX.out.kept hk)
        have HO1 := Hid.mk' hr
        clear hr
        refine hK.out _ _ hnew (fun hHeld => ?_)
        clear hK K hk hnew
        refine wpAnyH_ready (rs := [2]) (by kernel_rfl) (by simp) ?_
        refine (AllReadyH.cons rfl (fun K hK => ?rz24x2) AllReadyH.nil)
        case rz24x2 =>
          have hbl0 := HBX.out.lt
          go_simp
          refine (nw_write wv23 HCD.out (HO1.out.cm 64 (by simp) (by omega) onesL_lt) (E := 0) (M := NamX) (n2 := 128) nam_e1 rfl nam_l1).mono ?_
          rintro e wv25 ⟨oa, cn, rfl, hcz, hk⟩
          dsimp only
          have hnew := hHeld.tr hk
          have HCD := Hid.mk' (HCD.out.kpt hk)
          have HBX := Hid.mk' (HBX.out.kept hk)
          have HO1 := Hid.mk' (HO1.out.kept hk (by simp))
          have HN2 := Hid.mk' hcz.out.come
          have hbd := Hid.mk' (fun (x : Addr) (hx : oa = some x) => (by have := hcz.out.ge x hx; omega : x.block ≠ W.heap.size))
          refine hK.out _ _ hnew (fun hHeld => ?_)
          clear hK K hk hnew
          refine hold_take (i := 3) (v := ?rv26) rfl rfl (by kernel_rfl) (by kernel_rfl) (by kernel_rfl) (fun _ _ _ h => h) (Or.inl ⟨by rfl, ?rhy26⟩) hHeld ?rrest26
          case rhy26 => first | (intro w hSw; (try dsimp only at hSw); go_simp; done) | (intro w hSw; (try dsimp only at hSw); go_simp; with_reducible rfl)
          try simp only [List.setIfInBounds_toArray, List.set_cons_zero, List.set_cons_succ]
          refine hold_take (i := 4) (v := ?rv27) rfl rfl (by kernel_rfl) (by kernel_rfl) (by kernel_rfl) (fun _ _ _ h => h) (Or.inl ⟨by rfl, ?rhy27⟩) hHeld ?rrest27
          case rhy27 => first | (intro w hSw; (try dsimp only at hSw); go_simp; done) | (intro w hSw; (try dsimp only at hSw); go_simp; with_reducible rfl)
          try simp only [List.setIfInBounds_toArray, List.set_cons_zero, List.set_cons_succ]
          refine hold_take (i := 5) (v := ?rv28) rfl rfl (by kernel_rfl) (by kernel_rfl) (by kernel_rfl) (fun _ _ _ h => h) (Or.inl ⟨by rfl, ?rhy28⟩) hHeld ?rrest28
          case rhy28 => first | (intro w hSw; (try dsimp only at hSw); go_simp; done) | (intro w hSw; (try dsimp only at hSw); go_simp; with_reducible rfl)
          try simp only [List.setIfInBounds_toArray, List.set_cons_zero, List.set_cons_succ]
          refine wpAnyH_ready (rs := [7]) (by kernel_rfl) (by simp) ?_
          refine (AllReadyH.cons rfl (fun K hK => ?rz29x7) AllReadyH.nil)
          case rz29x7 =>
            have d0 := HBX.out.c0
            have e0 := HBX.out.f0
            have d1 := HBX.out.lt
            go_simp
            have hnew := hHeld.setNew (p := ⟨W.heap.size, 0, none⟩) hBw (.slice oa 128 cn)
            have hfin : Dbx W _ 128 NamX oa cn (W.heap.size) := ⟨hnew, HN2.out.far (b := W.heap.size) 0 _ hbd.out, HBX.out.set _ _ _⟩
            refine hK.out _ _ hnew (fun hHeld => ?_)
            clear hK K hnew
            refine hold_take (i := 8) (v := ?rv30) rfl rfl (by kernel_rfl) (by kernel_rfl) (by kernel_rfl) (fun _ _ _ h => h) (Or.inl ⟨by rfl, ?rhy30⟩) hHeld ?rrest30
            case rhy30 => first | (intro w hSw; (try dsimp only at hSw); go_simp; done) | (intro w hSw; (try dsimp only at hSw); go_simp; with_reducible rfl)
            try simp only [List.setIfInBounds_toArray, List.set_cons_zero, List.set_cons_succ]
            refine wpAnyH_done (by kernel_rfl) ?_ _
            obtain ⟨zz, hzz⟩ : ∃ zz : Nat, zz = 0 := ⟨_, rfl⟩
            clear hzz
            refine ⟨o1, oa, cn, zz, W.heap.size, ?_, hfin⟩
            generalize W.heap.size = b'
            with_reducible rfl
  case cont1 =>
  intro e a' w3 hq
  obtain ⟨rfl, o1, oa, cx, zz, bx, rfl, hA⟩ := hq.out
  have HA := Hid.mk' hA
  have HK3 := Hid.mk' (HK2.out.tr hA.kept)
  have HD3 := Hid.mk' (HD2.out.kept hA.kept)
  have HCD3 := Hid.mk' (HCW.out.kpt hA.kept)
  have x1 := hA.bx.c0
  have x2 := hA.bx.lt
  clear hA hD HCW HD2 HK2
  go_wp2_with (first
    | (go_at_call 12; have hgo := HK6; refine (nw_read 2 _ (HCD3.out.kpt ((((hk4.tr hk5).tr (Kept.alloc w5 (dvC a5 0 c5) 24 (0, 0) none)).tr hk6).tr (Kept.alloc w6 (dvC a6 0 c6) 24 (0, 0) none))) (E := 2) (M := []) (n2 := 0) nam_r3 nam_r4 rfl).mono ?_; rintro e w7 ⟨a7, c7, rfl, hn7, hk7⟩; have HK7 := Hid.mk' (HK6.out.tr hk7))
    | (go_at_call 8; have hgo := HK5; refine (nw_new 65 _ (E := 180) (M := []) (n2 := 0) rfl rfl rfl).mono ?_; rintro e w6 ⟨a6, c6, rfl, hn6, hk6⟩; have HK6 := Hid.mk' ((HK5.out.tr hk6).tr (Kept.alloc w6 (dvC a6 0 c6) 24 (0, 0) none)); have HD6 := Hid.mk' (HD3.out.kept (((((hk4.tr hk5).tr (Kept.alloc w5 (dvC a5 0 c5) 24 (0, 0) none)).tr hk6).tr (Kept.alloc w6 (dvC a6 0 c6) 24 (0, 0) none)))); have y1 := HD6.out.c0; have y2 := HD6.out.lt)
    | (go_at_call 8; refine (nw_new 0 w4 (E := 180) (M := []) (n2 := 0) rfl rfl rfl).mono ?_; rintro e w5 ⟨a5, c5, rfl, hn5, hk5⟩; have HK5 := Hid.mk' (((HK3.out.tr hk4).tr hk5).tr (Kept.alloc w5 (dvC a5 0 c5) 24 (0, 0) none)))
    | (go_at_call 12; refine (nw_read 1 w3 HA.out.come (E := 0) (M := onesL) (n2 := 64) nam_r1 nam_r2 (by simp)).mono ?_; rintro e w4 ⟨a4, c4, rfl, hn4, hk4⟩))
  have K47 := (((hk5.tr (Kept.alloc w5 (dvC a5 0 c5) 24 (0, 0) none)).tr hk6).tr (Kept.alloc w6 (dvC a6 0 c6) 24 (0, 0) none)).tr hk7
  have K37 := hk4.tr K47
  have HK7 := Hid.mk' (HK3.out.tr K37)
  have HD7 := Hid.mk' (HD3.out.kept K37)
  have HCD7 := Hid.mk' (HCD3.out.kpt K37)
  have HX7 := Hid.mk' (HA.out.bx.kept K37)
  have HCX7 := Hid.mk' (HA.out.come.kpt K37)
  have HY7 := Hid.mk' (hn4.out.come.kpt K47)
  clear K47 K37 hn4 hn5 hn6 hn7 hk4 hk5 hk6 hk7 HK6 HK5 HA HK3 HD3 HCD3 y1 y2 HD6
  generalize w5.heap.size = b5
  generalize w6.heap.size = b6
  obtain ⟨W, hW⟩ : ∃ W, W = w7 := ⟨_, rfl⟩
  subst hW
  have hD : ∀ w', Kept W w' none → w'.cell? ⟨bd, 0, none⟩ = some (.slice a0 128 c0) := fun w' hk => (HD7.out.kept hk).c0
  have HCW := HCD7
  refine Code.wp_mono (Q := R4 ?A2 (fun oa c b w' => Dbx W w' 0 [] oa c b)) ?cont2 ?reg2
  case reg2 =>
    repeat (rename_i hh; clear hh)
    refine wp_region_held_drew (S := fun w' => Kept W w' none) (by kernel_rfl) (kept_drw _ _) (fun hHeld => ?_)
    have HCD := Hid.mk' (HCW.out.kpt (kept_drw W none))
    refine hold_take (i := 0) (v := ?rv31) rfl rfl (by kernel_rfl) (by kernel_rfl) (by kernel_rfl) (fun _ _ _ h => h) (Or.inl ⟨by rfl, ?rhy31⟩) hHeld ?rrest31
    case rhy31 => first | (intro w hSw; (try dsimp only at hSw); go_simp; done) | (intro w hSw; (try dsimp only at hSw); go_simp; with_reducible rfl)
    try simp only [List.setIfInBounds_toArray, List.set_cons_zero, List.set_cons_succ]
    refine wpAnyH_ready (rs := [1, 7]) (by kernel_rfl) (by simp) ?_
    refine (AllReadyH.cons rfl (fun K hK => ?rz32x1) (AllReadyH.cons rfl (fun K hK => ?rz32x7) AllReadyH.nil))
    case rz32x1 =>
      go_simp
      refine (ones_any W.drew).mono ?_
      rintro e wv33 ⟨o1, rfl, hge, hr, hk⟩
      dsimp only
      have hnew := hHeld.tr hk
      have HCD := Hid.mk' (HCD.out.kpt hk)
      have HO1 := Hid.mk' hr
      clear hr
      refine hK.out _ _ hnew (fun hHeld => ?_)
      clear hK K hk hnew
      refine hold_take (i := 2) (v := ?rv34) rfl rfl (by kernel_rfl) (by kernel_rfl) (by kernel_rfl) (fun _ _ _ h => h) (Or.inl ⟨by rfl, ?rhy34⟩) hHeld ?rrest34
      case rhy34 => first | (intro w hSw; (try dsimp only at hSw); go_simp; done) | (intro w hSw; (try dsimp only at hSw); go_simp; with_reducible rfl)
      try simp only [List.setIfInBounds_toArray, List.set_cons_zero, List.set_cons_succ]
      refine wpAnyH_ready (rs := [3, 7]) (by kernel_rfl) (by simp) ?_
      refine (AllReadyH.cons rfl (fun K hK => ?rz35x3) (AllReadyH.cons rfl (fun K hK => ?rz35x7) AllReadyH.nil))
      case rz35x3 =>
        go_simp
        refine (nw_write wv33 HCD.out (nam_63 HO1.out) (E := 8) (M := []) (n2 := 0) nam_e2 nam_l2 rfl).mono ?_
        rintro e wv36 ⟨oa, cn, rfl, hcz, hk⟩
        dsimp only
        have hnew := hHeld.tr hk
        have HCD := Hid.mk' (HCD.out.kpt hk)
        have HO1 := Hid.mk' (HO1.out.kept hk (by simp))
        have HN2 := Hid.mk' hcz.out.come
        have HNL := Hid.mk' hcz.out.lt
        refine hK.out _ _ hnew (fun hHeld => ?_)
        clear hK K hk hnew
        refine hold_take (i := 4) (v := ?rv37) rfl rfl (by kernel_rfl) (by kernel_rfl) (by kernel_rfl) (fun _ _ _ h => h) (Or.inl ⟨by rfl, ?rhy37⟩) hHeld ?rrest37
        case rhy37 => first | (intro w hSw; (try dsimp only at hSw); go_simp; done) | (intro w hSw; (try dsimp only at hSw); go_simp; with_reducible rfl)
        try simp only [List.setIfInBounds_toArray, List.set_cons_zero, List.set_cons_succ]
        refine hold_take (i := 5) (v := ?rv38) rfl rfl (by kernel_rfl) (by kernel_rfl) (by kernel_rfl) (fun _ _ _ h => h) (Or.inl ⟨by rfl, ?rhy38⟩) hHeld ?rrest38
        case rhy38 => first | (intro w hSw; (try dsimp only at hSw); go_simp; done) | (intro w hSw; (try dsimp only at hSw); go_simp; with_reducible rfl)
        try simp only [List.setIfInBounds_toArray, List.set_cons_zero, List.set_cons_succ]
        refine hold_take (i := 6) (v := ?rv39) rfl rfl (by kernel_rfl) (by kernel_rfl) (by kernel_rfl) (fun _ _ _ h => h) (Or.inl ⟨by rfl, ?rhy39⟩) hHeld ?rrest39
        case rhy39 => first | (intro w hSw; (try dsimp only at hSw); go_simp; done) | (intro w hSw; (try dsimp only at hSw); go_simp; with_reducible rfl)
        try simp only [List.setIfInBounds_toArray, List.set_cons_zero, List.set_cons_succ]
        refine wpAnyH_ready (rs := [7]) (by kernel_rfl) (by simp) ?_
        refine (AllReadyH.cons rfl (fun K hK => ?rz40x7) AllReadyH.nil)
        case rz40x7 =>
          go_simp
          have hk : Kept wv36 (wv36.alloc (.cells #[.slice none 0 0] 24)) none := Kept.alloc _ _ _ _ _
          have hnew := hHeld.tr hk
          have hBw : W.heap.size ≤ wv36.heap.size := hHeld.size
          have HBX := Hid.mk' (db_alloc wv36 none 0 0 24)
          have hbd : ∀ x, oa = some x → x.block ≠ wv36.heap.size := fun x hx => by have := HNL.out x hx; omega
          have hbd := Hid.mk' hbd
          have HCD := Hid.mk' (HCD.out.kpt hk)
          have HO1 := Hid.mk' (HO1.out.kept hk (by simp))
          have HN2 := Hid.mk' (HN2.out.kpt hk)
          refine hK.out _ _ hnew (fun hHeld => ?_)
          clear hK K hnew hk
          obtain ⟨wv41, hwv41⟩ : ∃ v, (wv36.alloc (.cells #[.slice none 0 0] 24)) = v := ⟨_, rfl⟩
          rw [hwv41] at hHeld HCD HO1 HN2 HBX ⊢
          clear hwv41
          refine wpAnyH_ready (rs := [8]) (by kernel_rfl) (by simp) ?_
          refine (AllReadyH.cons rfl (fun K hK => ?rz42x8) AllReadyH.nil)
          case rz42x8 =>
            have d0 := HBX.out.c0
            have e0 := HBX.out.f0
            have d1 := HBX.out.lt
            go_simp
            have hnew := hHeld.setNew (p := ⟨wv36.heap.size, 0, none⟩) hBw (.slice oa 0 cn)
            have hfin : Dbx W _ 0 [] oa cn (wv36.heap.size) := ⟨hnew, HN2.out.far (b := wv36.heap.size) 0 _ hbd.out, HBX.out.set _ _ _⟩
            refine hK.out _ _ hnew (fun hHeld => ?_)
            clear hK K hnew
            refine hold_take (i := 9) (v := ?rv43) rfl rfl (by kernel_rfl) (by kernel_rfl) (by kernel_rfl) (fun _ _ _ h => h) (Or.inl ⟨by rfl, ?rhy43⟩) hHeld ?rrest43
            case rhy43 => first | (intro w hSw; (try dsimp only at hSw); go_simp; done) | (intro w hSw; (try dsimp only at hSw); go_simp; with_reducible rfl)
            try simp only [List.setIfInBounds_toArray, List.set_cons_zero, List.set_cons_succ]
            refine wpAnyH_done (by kernel_rfl) ?_ _
            obtain ⟨zz, hzz⟩ : ∃ zz : Nat, zz = 0 := ⟨_, rfl⟩
            clear hzz
            refine ⟨o1, oa, cn, zz, wv36.heap.size, ?_, hfin⟩
            generalize wv36.heap.size = b'
            with_reducible rfl
      case rz35x7 =>
        go_simp
        have hk : Kept wv33 (wv33.alloc (.cells #[.slice none 0 0] 24)) none := Kept.alloc _ _ _ _ _
        have hnew := hHeld.tr hk
        have hBw : W.heap.size ≤ wv33.heap.size := hHeld.size
        have HBX := Hid.mk' (db_alloc wv33 none 0 0 24)
        have HCD := Hid.mk' (HCD.out.kpt hk)
        have HO1 := Hid.mk' (HO1.out.kept hk (by simp))
        refine hK.out _ _ hnew (fun hHeld => ?_)
        clear hK K hnew hk
        obtain ⟨wv44, hwv44⟩ : ∃ v, (wv33.alloc (.cells #[.slice none 0 0] 24)) = v := ⟨_, rfl⟩
        rw [hwv44] at hHeld HCD HO1 HBX ⊢
        clear hwv44
        refine wpAnyH_ready (rs := [3]) (by kernel_rfl) (by simp) ?_
        refine (AllReadyH.cons rfl (fun K hK => ?rz45x3) AllReadyH.nil)
        case rz45x3 =>
          have hbl0 := HBX.out.lt
          go_simp
          refine (nw_write wv44 HCD.out (nam_63 HO1.out) (E := 8) (M := []) (n2 := 0) nam_e2 nam_l2 rfl).mono ?_
          rintro e wv46 ⟨oa, cn, rfl, hcz, hk⟩
          dsimp only
          have hnew := hHeld.tr hk
          have HCD := Hid.mk' (HCD.out.kpt hk)
          have HO1 := Hid.mk' (HO1.out.kept hk (by simp))
          have HBX := Hid.mk' (HBX.out.kept hk)
          have HN2 := Hid.mk' hcz.out.come
          have hbd := Hid.mk' (fun (x : Addr) (hx : oa = some x) => (by have := hcz.out.ge x hx; omega : x.block ≠ wv33.heap.size))
          refine hK.out _ _ hnew (fun hHeld => ?_)
          clear hK K hk hnew
          refine hold_take (i := 4) (v := ?rv47) rfl rfl (by kernel_rfl) (by kernel_rfl) (by kernel_rfl) (fun _ _ _ h => h) (Or.inl ⟨by rfl, ?rhy47⟩) hHeld ?rrest47
          case rhy47 => first | (intro w hSw; (try dsimp only at hSw); go_simp; done) | (intro w hSw; (try dsimp only at hSw); go_simp; with_reducible rfl)
          try simp only [List.setIfInBounds_toArray, List.set_cons_zero, List.set_cons_succ]
          refine hold_take (i := 5) (v := ?rv48) rfl rfl (by kernel_rfl) (by kernel_rfl) (by kernel_rfl) (fun _ _ _ h => h) (Or.inl ⟨by rfl, ?rhy48⟩) hHeld ?rrest48
          case rhy48 => first | (intro w hSw; (try dsimp only at hSw); go_simp; done) | (intro w hSw; (try dsimp only at hSw); go_simp; with_reducible rfl)
          try simp only [List.setIfInBounds_toArray, List.set_cons_zero, List.set_cons_succ]
          refine hold_take (i := 6) (v := ?rv49) rfl rfl (by kernel_rfl) (by kernel_rfl) (by kernel_rfl) (fun _ _ _ h => h) (Or.inl ⟨by rfl, ?rhy49⟩) hHeld ?rrest49
          case rhy49 => first | (intro w hSw; (try dsimp only at hSw); go_simp; done) | (intro w hSw; (try dsimp only at hSw); go_simp; with_reducible rfl)
          try simp only [List.setIfInBounds_toArray, List.set_cons_zero, List.set_cons_succ]
          refine wpAnyH_ready (rs := [8]) (by kernel_rfl) (by simp) ?_
          refine (AllReadyH.cons rfl (fun K hK => ?rz50x8) AllReadyH.nil)
          case rz50x8 =>
            have d0 := HBX.out.c0
            have e0 := HBX.out.f0
            have d1 := HBX.out.lt
            go_simp
            have hnew := hHeld.setNew (p := ⟨wv33.heap.size, 0, none⟩) hBw (.slice oa 0 cn)
            have hfin : Dbx W _ 0 [] oa cn (wv33.heap.size) := ⟨hnew, HN2.out.far (b := wv33.heap.size) 0 _ hbd.out, HBX.out.set _ _ _⟩
            refine hK.out _ _ hnew (fun hHeld => ?_)
            clear hK K hnew
            refine hold_take (i := 9) (v := ?rv51) rfl rfl (by kernel_rfl) (by kernel_rfl) (by kernel_rfl) (fun _ _ _ h => h) (Or.inl ⟨by rfl, ?rhy51⟩) hHeld ?rrest51
            case rhy51 => first | (intro w hSw; (try dsimp only at hSw); go_simp; done) | (intro w hSw; (try dsimp only at hSw); go_simp; with_reducible rfl)
            try simp only [List.setIfInBounds_toArray, List.set_cons_zero, List.set_cons_succ]
            refine wpAnyH_done (by kernel_rfl) ?_ _
            obtain ⟨zz, hzz⟩ : ∃ zz : Nat, zz = 0 := ⟨_, rfl⟩
            clear hzz
            refine ⟨o1, oa, cn, zz, wv33.heap.size, ?_, hfin⟩
            generalize wv33.heap.size = b'
            with_reducible rfl
    case rz32x7 =>
      go_simp
      have hk : Kept W.drew (W.alloc (.cells #[.slice none 0 0] 24)).drew none := ⟨rfl, rfl, rfl, Nat.le_of_lt (by simp), fun i hi _ => Below.heap_alloc _ _ _ hi⟩
      have hnew := hHeld.tr hk
      have hBw : W.heap.size ≤ W.heap.size := Nat.le_refl _
      have HBX := Hid.mk' ((db_alloc W none 0 0 24).kept (kept_drw _ none))
      have HCD := Hid.mk' (HCD.out.kpt hk)
      refine hK.out _ _ hnew (fun hHeld => ?_)
      clear hK K hnew hk
      obtain ⟨wv52, hwv52⟩ : ∃ v, (W.alloc (.cells #[.slice none 0 0] 24)).drew = v := ⟨_, rfl⟩
      rw [hwv52] at hHeld HCD HBX ⊢
      clear hwv52
      refine wpAnyH_ready (rs := [1]) (by kernel_rfl) (by simp) ?_
      refine (AllReadyH.cons rfl (fun K hK => ?rz53x1) AllReadyH.nil)
      case rz53x1 =>
        go_simp
        refine (ones_any wv52).mono ?_
        rintro e wv54 ⟨o1, rfl, hge, hr, hk⟩
        dsimp only
        have hnew := hHeld.tr hk
        have HCD := Hid.mk' (HCD.out.kpt hk)
        have HBX := Hid.mk' (HBX.out.kept hk)
        have HO1 := Hid.mk' hr
        clear hr
        refine hK.out _ _ hnew (fun hHeld => ?_)
        clear hK K hk hnew
        refine hold_take (i := 2) (v := ?rv55) rfl rfl (by kernel_rfl) (by kernel_rfl) (by kernel_rfl) (fun _ _ _ h => h) (Or.inl ⟨by rfl, ?rhy55⟩) hHeld ?rrest55
        case rhy55 => first | (intro w hSw; (try dsimp only at hSw); go_simp; done) | (intro w hSw; (try dsimp only at hSw); go_simp; with_reducible rfl)
        try simp only [List.setIfInBounds_toArray, List.set_cons_zero, List.set_cons_succ]
        refine wpAnyH_ready (rs := [3]) (by kernel_rfl) (by simp) ?_
        refine (AllReadyH.cons rfl (fun K hK => ?rz56x3) AllReadyH.nil)
        case rz56x3 =>
          have hbl0 := HBX.out.lt
          go_simp
          refine (nw_write wv54 HCD.out (nam_63 HO1.out) (E := 8) (M := []) (n2 := 0) nam_e2 nam_l2 rfl).mono ?_
          rintro e wv57 ⟨oa, cn, rfl, hcz, hk⟩
          dsimp only
          have hnew := hHeld.tr hk
          have HCD := Hid.mk' (HCD.out.kpt hk)
          have HBX := Hid.mk' (HBX.out.kept hk)
          have HO1 := Hid.mk' (HO1.out.kept hk (by simp))
          have HN2 := Hid.mk' hcz.out.come
          have hbd := Hid.mk' (fun (x : Addr) (hx : oa = some x) => (by have := hcz.out.ge x hx; omega : x.block ≠ W.heap.size))
          refine hK.out _ _ hnew (fun hHeld => ?_)
          clear hK K hk hnew
          refine hold_take (i := 4) (v := ?rv58) rfl rfl (by kernel_rfl) (by kernel_rfl) (by kernel_rfl) (fun _ _ _ h => h) (Or.inl ⟨by rfl, ?rhy58⟩) hHeld ?rrest58
          case rhy58 => first | (intro w hSw; (try dsimp only at hSw); go_simp; done) | (intro w hSw; (try dsimp only at hSw); go_simp; with_reducible rfl)
          try simp only [List.setIfInBounds_toArray, List.set_cons_zero, List.set_cons_succ]
          refine hold_take (i := 5) (v := ?rv59) rfl rfl (by kernel_rfl) (by kernel_rfl) (by kernel_rfl) (fun _ _ _ h => h) (Or.inl ⟨by rfl, ?rhy59⟩) hHeld ?rrest59
          case rhy59 => first | (intro w hSw; (try dsimp only at hSw); go_simp; done) | (intro w hSw; (try dsimp only at hSw); go_simp; with_reducible rfl)
          try simp only [List.setIfInBounds_toArray, List.set_cons_zero, List.set_cons_succ]
          refine hold_take (i := 6) (v := ?rv60) rfl rfl (by kernel_rfl) (by kernel_rfl) (by kernel_rfl) (fun _ _ _ h => h) (Or.inl ⟨by rfl, ?rhy60⟩) hHeld ?rrest60
          case rhy60 => first | (intro w hSw; (try dsimp only at hSw); go_simp; done) | (intro w hSw; (try dsimp only at hSw); go_simp; with_reducible rfl)
          try simp only [List.setIfInBounds_toArray, List.set_cons_zero, List.set_cons_succ]
          refine wpAnyH_ready (rs := [8]) (by kernel_rfl) (by simp) ?_
          refine (AllReadyH.cons rfl (fun K hK => ?rz61x8) AllReadyH.nil)
          case rz61x8 =>
            have d0 := HBX.out.c0
            have e0 := HBX.out.f0
            have d1 := HBX.out.lt
            go_simp
            have hnew := hHeld.setNew (p := ⟨W.heap.size, 0, none⟩) hBw (.slice oa 0 cn)
            have hfin : Dbx W _ 0 [] oa cn (W.heap.size) := ⟨hnew, HN2.out.far (b := W.heap.size) 0 _ hbd.out, HBX.out.set _ _ _⟩
            refine hK.out _ _ hnew (fun hHeld => ?_)
            clear hK K hnew
            refine hold_take (i := 9) (v := ?rv62) rfl rfl (by kernel_rfl) (by kernel_rfl) (by kernel_rfl) (fun _ _ _ h => h) (Or.inl ⟨by rfl, ?rhy62⟩) hHeld ?rrest62
            case rhy62 => first | (intro w hSw; (try dsimp only at hSw); go_simp; done) | (intro w hSw; (try dsimp only at hSw); go_simp; with_reducible rfl)
            try simp only [List.setIfInBounds_toArray, List.set_cons_zero, List.set_cons_succ]
            refine wpAnyH_done (by kernel_rfl) ?_ _
            obtain ⟨zz, hzz⟩ : ∃ zz : Nat, zz = 0 := ⟨_, rfl⟩
            clear hzz
            refine ⟨o1, oa, cn, zz, W.heap.size, ?_, hfin⟩
            generalize W.heap.size = b'
            with_reducible rfl
  case cont2 =>
  intro e a' w8 hq
  obtain ⟨rfl, o8, ob8, cb8, zz8, bb8, rfl, hA⟩ := hq.out
  have HK8 := Hid.mk' (HK7.out.tr hA.kept)
  have HD8 := Hid.mk' (HD7.out.kept hA.kept)
  have HCD8 := Hid.mk' (HCD7.out.kpt hA.kept)
  have HX8 := Hid.mk' (HX7.out.kept hA.kept)
  have HCX8 := Hid.mk' (HCX7.out.kpt hA.kept)
  have HY8 := Hid.mk' (HY7.out.kpt hA.kept)
  clear hA hD HCW HD7 HK7 HX7 HCX7 HY7 HCD7
  go_wp2
  obtain ⟨W, hW⟩ : ∃ W, W = w8 := ⟨_, rfl⟩
  subst hW
  have hD : ∀ w', Kept W w' none → w'.cell? ⟨bd, 0, none⟩ = some (.slice a0 128 c0) := fun w' hk => (HD8.out.kept hk).c0
  have HCW := HCD8
  refine Code.wp_mono (Q := R4 ?A3 (fun oa c b w' => Dbx W w' 0 [] oa c b)) ?cont3 ?reg3
  case reg3 =>
    repeat (rename_i hh; clear hh)
    refine wp_region_held_drew (S := fun w' => Kept W w' none) (by kernel_rfl) (kept_drw _ _) (fun hHeld => ?_)
    have HCD := Hid.mk' (HCW.out.kpt (kept_drw W none))
    refine hold_take (i := 0) (v := ?rv63) rfl rfl (by kernel_rfl) (by kernel_rfl) (by kernel_rfl) (fun _ _ _ h => h) (Or.inl ⟨by rfl, ?rhy63⟩) hHeld ?rrest63
    case rhy63 => first | (intro w hSw; (try dsimp only at hSw); go_simp; done) | (intro w hSw; (try dsimp only at hSw); go_simp; with_reducible rfl)
    try simp only [List.setIfInBounds_toArray, List.set_cons_zero, List.set_cons_succ]
    refine wpAnyH_ready (rs := [1, 8]) (by kernel_rfl) (by simp) ?_
    refine (AllReadyH.cons rfl (fun K hK => ?rz64x1) (AllReadyH.cons rfl (fun K hK => ?rz64x8) AllReadyH.nil))
    case rz64x1 =>
      go_simp
      refine (ones_any W.drew).mono ?_
      rintro e wv65 ⟨o1, rfl, hge, hr, hk⟩
      dsimp only
      have hnew := hHeld.tr hk
      have HCD := Hid.mk' (HCD.out.kpt hk)
      have HO1 := Hid.mk' hr
      clear hr
      refine hK.out _ _ hnew (fun hHeld => ?_)
      clear hK K hk hnew
      refine hold_take (i := 2) (v := ?rv66) rfl rfl (by kernel_rfl) (by kernel_rfl) (by kernel_rfl) (fun _ _ _ h => h) (Or.inl ⟨by rfl, ?rhy66⟩) hHeld ?rrest66
      case rhy66 => first | (intro w hSw; (try dsimp only at hSw); go_simp; done) | (intro w hSw; (try dsimp only at hSw); go_simp; with_reducible rfl)
      try simp only [List.setIfInBounds_toArray, List.set_cons_zero, List.set_cons_succ]
      refine wpAnyH_ready (rs := [3, 8]) (by kernel_rfl) (by simp) ?_
      refine (AllReadyH.cons rfl (fun K hK => ?rz67x3) (AllReadyH.cons rfl (fun K hK => ?rz67x8) AllReadyH.nil))
      case rz67x3 =>
        go_simp
        have hk : Kept wv65 (wv65.alloc (.cells #[.int .i64 0, .slice (some ⟨o1, 0, none⟩) 64 64] 36)) none := Kept.alloc _ _ _ _ _
        have hnew := hHeld.tr hk
        have HPU := Hid.mk' (plw_one 0 (HO1.out.cm 64 (by simp) (by omega) onesL_lt) 36)
        have HCD := Hid.mk' (HCD.out.kpt hk)
        have HO1 := Hid.mk' (HO1.out.kept hk (by simp))
        refine hK.out _ _ hnew (fun hHeld => ?_)
        clear hK K hnew hk
        obtain ⟨wv68, hwv68⟩ : ∃ v, (wv65.alloc (.cells #[.int .i64 0, .slice (some ⟨o1, 0, none⟩) 64 64] 36)) = v := ⟨_, rfl⟩
        rw [hwv68] at hHeld HCD HO1 HPU ⊢
        clear hwv68
        refine wpAnyH_ready (rs := [4, 8]) (by kernel_rfl) (by simp) ?_
        refine (AllReadyH.cons rfl (fun K hK => ?rz69x4) (AllReadyH.cons rfl (fun K hK => ?rz69x8) AllReadyH.nil))
        case rz69x4 =>
          go_simp
          refine (nw_do 1 wv68 HCD.out HPU.out (E := 2) (M := []) (n2 := 0) nam_e3 nam_l3 rfl).mono ?_
          rintro e wv70 ⟨oa, cn, rfl, hcz, hk⟩
          dsimp only
          have hnew := hHeld.tr hk
          have HCD := Hid.mk' (HCD.out.kpt hk)
          have HO1 := Hid.mk' (HO1.out.kept hk (by simp))
          have HPU := Hid.mk' (HPU.out.kept hk)
          have HN2 := Hid.mk' hcz.out.come
          have HNL := Hid.mk' hcz.out.lt
          refine hK.out _ _ hnew (fun hHeld => ?_)
          clear hK K hk hnew
          refine hold_take (i := 5) (v := ?rv71) rfl rfl (by kernel_rfl) (by kernel_rfl) (by kernel_rfl) (fun _ _ _ h => h) (Or.inl ⟨by rfl, ?rhy71⟩) hHeld ?rrest71
          case rhy71 => first | (intro w hSw; (try dsimp only at hSw); go_simp; done) | (intro w hSw; (try dsimp only at hSw); go_simp; with_reducible rfl)
          try simp only [List.setIfInBounds_toArray, List.set_cons_zero, List.set_cons_succ]
          refine hold_take (i := 6) (v := ?rv72) rfl rfl (by kernel_rfl) (by kernel_rfl) (by kernel_rfl) (fun _ _ _ h => h) (Or.inl ⟨by rfl, ?rhy72⟩) hHeld ?rrest72
          case rhy72 => first | (intro w hSw; (try dsimp only at hSw); go_simp; done) | (intro w hSw; (try dsimp only at hSw); go_simp; with_reducible rfl)
          try simp only [List.setIfInBounds_toArray, List.set_cons_zero, List.set_cons_succ]
          refine hold_take (i := 7) (v := ?rv73) rfl rfl (by kernel_rfl) (by kernel_rfl) (by kernel_rfl) (fun _ _ _ h => h) (Or.inl ⟨by rfl, ?rhy73⟩) hHeld ?rrest73
          case rhy73 => first | (intro w hSw; (try dsimp only at hSw); go_simp; done) | (intro w hSw; (try dsimp only at hSw); go_simp; with_reducible rfl)
          try simp only [List.setIfInBounds_toArray, List.set_cons_zero, List.set_cons_succ]
          refine wpAnyH_ready (rs := [8]) (by kernel_rfl) (by simp) ?_
          refine (AllReadyH.cons rfl (fun K hK => ?rz74x8) AllReadyH.nil)
          case rz74x8 =>
            go_simp
            have hk : Kept wv70 (wv70.alloc (.cells #[.slice none 0 0] 24)) none := Kept.alloc _ _ _ _ _
            have hnew := hHeld.tr hk
            have hBw : W.heap.size ≤ wv70.heap.size := hHeld.size
            have HBX := Hid.mk' (db_alloc wv70 none 0 0 24)
            have hbd : ∀ x, oa = some x → x.block ≠ wv70.heap.size := fun x hx => by have := HNL.out x hx; omega
            have hbd := Hid.mk' hbd
            have HCD := Hid.mk' (HCD.out.kpt hk)
            have HO1 := Hid.mk' (HO1.out.kept hk (by simp))
            have HPU := Hid.mk' (HPU.out.kept hk)
            have HN2 := Hid.mk' (HN2.out.kpt hk)
            refine hK.out _ _ hnew (fun hHeld => ?_)
            clear hK K hnew hk
            obtain ⟨wv75, hwv75⟩ : ∃ v, (wv70.alloc (.cells #[.slice none 0 0] 24)) = v := ⟨_, rfl⟩
            rw [hwv75] at hHeld HCD HO1 HPU HN2 HBX ⊢
            clear hwv75
            refine wpAnyH_ready (rs := [9]) (by kernel_rfl) (by simp) ?_
            refine (AllReadyH.cons rfl (fun K hK => ?rz76x9) AllReadyH.nil)
            case rz76x9 =>
              have d0 := HBX.out.c0
              have e0 := HBX.out.f0
              have d1 := HBX.out.lt
              go_simp
              have hnew := hHeld.setNew (p := ⟨wv70.heap.size, 0, none⟩) hBw (.slice oa 0 cn)
              have hfin : Dbx W _ 0 [] oa cn (wv70.heap.size) := ⟨hnew, HN2.out.far (b := wv70.heap.size) 0 _ hbd.out, HBX.out.set _ _ _⟩
              refine hK.out _ _ hnew (fun hHeld => ?_)
              clear hK K hnew
              refine hold_take (i := 10) (v := ?rv77) rfl rfl (by kernel_rfl) (by kernel_rfl) (by kernel_rfl) (fun _ _ _ h => h) (Or.inl ⟨by rfl, ?rhy77⟩) hHeld ?rrest77
              case rhy77 => first | (intro w hSw; (try dsimp only at hSw); go_simp; done) | (intro w hSw; (try dsimp only at hSw); go_simp; with_reducible rfl)
              try simp only [List.setIfInBounds_toArray, List.set_cons_zero, List.set_cons_succ]
              refine wpAnyH_done (by kernel_rfl) ?_ _
              refine ⟨o1, oa, cn, wv65.heap.size, wv70.heap.size, ?_, hfin⟩
              generalize wv65.heap.size = s'
              generalize wv70.heap.size = b'
              with_reducible rfl
        case rz69x8 =>
          go_simp
          have hk : Kept wv68 (wv68.alloc (.cells #[.slice none 0 0] 24)) none := Kept.alloc _ _ _ _ _
          have hnew := hHeld.tr hk
          have hBw : W.heap.size ≤ wv68.heap.size := hHeld.size
          have HBX := Hid.mk' (db_alloc wv68 none 0 0 24)
          have HCD := Hid.mk' (HCD.out.kpt hk)
          have HO1 := Hid.mk' (HO1.out.kept hk (by simp))
          have HPU := Hid.mk' (HPU.out.kept hk)
          refine hK.out _ _ hnew (fun hHeld => ?_)
          clear hK K hnew hk
          obtain ⟨wv78, hwv78⟩ : ∃ v, (wv68.alloc (.cells #[.slice none 0 0] 24)) = v := ⟨_, rfl⟩
          rw [hwv78] at hHeld HCD HO1 HPU HBX ⊢
          clear hwv78
          refine wpAnyH_ready (rs := [4]) (by kernel_rfl) (by simp) ?_
          refine (AllReadyH.cons rfl (fun K hK => ?rz79x4) AllReadyH.nil)
          case rz79x4 =>
            have hbl0 := HBX.out.lt
            go_simp
            refine (nw_do 1 wv78 HCD.out HPU.out (E := 2) (M := []) (n2 := 0) nam_e3 nam_l3 rfl).mono ?_
            rintro e wv80 ⟨oa, cn, rfl, hcz, hk⟩
            dsimp only
            have hnew := hHeld.tr hk
            have HCD := Hid.mk' (HCD.out.kpt hk)
            have HO1 := Hid.mk' (HO1.out.kept hk (by simp))
            have HPU := Hid.mk' (HPU.out.kept hk)
            have HBX := Hid.mk' (HBX.out.kept hk)
            have HN2 := Hid.mk' hcz.out.come
            have hbd := Hid.mk' (fun (x : Addr) (hx : oa = some x) => (by have := hcz.out.ge x hx; omega : x.block ≠ wv68.heap.size))
            refine hK.out _ _ hnew (fun hHeld => ?_)
            clear hK K hk hnew
            refine hold_take (i := 5) (v := ?rv81) rfl rfl (by kernel_rfl) (by kernel_rfl) (by kernel_rfl) (fun _ _ _ h => h) (Or.inl ⟨by rfl, ?rhy81⟩) hHeld ?rrest81
            case rhy81 => first | (intro w hSw; (try dsimp only at hSw); go_simp; done) | (intro w hSw; (try dsimp only at hSw); go_simp; with_reducible rfl)
            try simp only [List.setIfInBounds_toArray, List.set_cons_zero, List.set_cons_succ]
            refine hold_take (i := 6) (v := ?rv82) rfl rfl (by kernel_rfl) (by kernel_rfl) (by kernel_rfl) (fun _ _ _ h => h) (Or.inl ⟨by rfl, ?rhy82⟩) hHeld ?rrest82
            case rhy82 => first | (intro w hSw; (try dsimp only at hSw); go_simp; done) | (intro w hSw; (try dsimp only at hSw); go_simp; with_reducible rfl)
            try simp only [List.setIfInBounds_toArray, List.set_cons_zero, List.set_cons_succ]
            refine hold_take (i := 7) (v := ?rv83) rfl rfl (by kernel_rfl) (by kernel_rfl) (by kernel_rfl) (fun _ _ _ h => h) (Or.inl ⟨by rfl, ?rhy83⟩) hHeld ?rrest83
            case rhy83 => first | (intro w hSw; (try dsimp only at hSw); go_simp; done) | (intro w hSw; (try dsimp only at hSw); go_simp; with_reducible rfl)
            try simp only [List.setIfInBounds_toArray, List.set_cons_zero, List.set_cons_succ]
            refine wpAnyH_ready (rs := [9]) (by kernel_rfl) (by simp) ?_
            refine (AllReadyH.cons rfl (fun K hK => ?rz84x9) AllReadyH.nil)
            case rz84x9 =>
              have d0 := HBX.out.c0
              have e0 := HBX.out.f0
              have d1 := HBX.out.lt
              go_simp
              have hnew := hHeld.setNew (p := ⟨wv68.heap.size, 0, none⟩) hBw (.slice oa 0 cn)
              have hfin : Dbx W _ 0 [] oa cn (wv68.heap.size) := ⟨hnew, HN2.out.far (b := wv68.heap.size) 0 _ hbd.out, HBX.out.set _ _ _⟩
              refine hK.out _ _ hnew (fun hHeld => ?_)
              clear hK K hnew
              refine hold_take (i := 10) (v := ?rv85) rfl rfl (by kernel_rfl) (by kernel_rfl) (by kernel_rfl) (fun _ _ _ h => h) (Or.inl ⟨by rfl, ?rhy85⟩) hHeld ?rrest85
              case rhy85 => first | (intro w hSw; (try dsimp only at hSw); go_simp; done) | (intro w hSw; (try dsimp only at hSw); go_simp; with_reducible rfl)
              try simp only [List.setIfInBounds_toArray, List.set_cons_zero, List.set_cons_succ]
              refine wpAnyH_done (by kernel_rfl) ?_ _
              refine ⟨o1, oa, cn, wv65.heap.size, wv68.heap.size, ?_, hfin⟩
              generalize wv65.heap.size = s'
              generalize wv68.heap.size = b'
              with_reducible rfl
      case rz67x8 =>
        go_simp
        have hk : Kept wv65 (wv65.alloc (.cells #[.slice none 0 0] 24)) none := Kept.alloc _ _ _ _ _
        have hnew := hHeld.tr hk
        have hBw : W.heap.size ≤ wv65.heap.size := hHeld.size
        have HBX := Hid.mk' (db_alloc wv65 none 0 0 24)
        have HCD := Hid.mk' (HCD.out.kpt hk)
        have HO1 := Hid.mk' (HO1.out.kept hk (by simp))
        refine hK.out _ _ hnew (fun hHeld => ?_)
        clear hK K hnew hk
        obtain ⟨wv86, hwv86⟩ : ∃ v, (wv65.alloc (.cells #[.slice none 0 0] 24)) = v := ⟨_, rfl⟩
        rw [hwv86] at hHeld HCD HO1 HBX ⊢
        clear hwv86
        refine wpAnyH_ready (rs := [3]) (by kernel_rfl) (by simp) ?_
        refine (AllReadyH.cons rfl (fun K hK => ?rz87x3) AllReadyH.nil)
        case rz87x3 =>
          go_simp
          have hk : Kept wv86 (wv86.alloc (.cells #[.int .i64 0, .slice (some ⟨o1, 0, none⟩) 64 64] 36)) none := Kept.alloc _ _ _ _ _
          have hnew := hHeld.tr hk
          have HPU := Hid.mk' (plw_one 0 (HO1.out.cm 64 (by simp) (by omega) onesL_lt) 36)
          have HCD := Hid.mk' (HCD.out.kpt hk)
          have HO1 := Hid.mk' (HO1.out.kept hk (by simp))
          have HBX := Hid.mk' (HBX.out.kept hk)
          refine hK.out _ _ hnew (fun hHeld => ?_)
          clear hK K hnew hk
          obtain ⟨wv88, hwv88⟩ : ∃ v, (wv86.alloc (.cells #[.int .i64 0, .slice (some ⟨o1, 0, none⟩) 64 64] 36)) = v := ⟨_, rfl⟩
          rw [hwv88] at hHeld HCD HO1 HBX HPU ⊢
          clear hwv88
          refine wpAnyH_ready (rs := [4]) (by kernel_rfl) (by simp) ?_
          refine (AllReadyH.cons rfl (fun K hK => ?rz89x4) AllReadyH.nil)
          case rz89x4 =>
            have hbl0 := HBX.out.lt
            go_simp
            refine (nw_do 1 wv88 HCD.out HPU.out (E := 2) (M := []) (n2 := 0) nam_e3 nam_l3 rfl).mono ?_
            rintro e wv90 ⟨oa, cn, rfl, hcz, hk⟩
            dsimp only
            have hnew := hHeld.tr hk
            have HCD := Hid.mk' (HCD.out.kpt hk)
            have HO1 := Hid.mk' (HO1.out.kept hk (by simp))
            have HBX := Hid.mk' (HBX.out.kept hk)
            have HPU := Hid.mk' (HPU.out.kept hk)
            have HN2 := Hid.mk' hcz.out.come
            have hbd := Hid.mk' (fun (x : Addr) (hx : oa = some x) => (by have := hcz.out.ge x hx; omega : x.block ≠ wv65.heap.size))
            refine hK.out _ _ hnew (fun hHeld => ?_)
            clear hK K hk hnew
            refine hold_take (i := 5) (v := ?rv91) rfl rfl (by kernel_rfl) (by kernel_rfl) (by kernel_rfl) (fun _ _ _ h => h) (Or.inl ⟨by rfl, ?rhy91⟩) hHeld ?rrest91
            case rhy91 => first | (intro w hSw; (try dsimp only at hSw); go_simp; done) | (intro w hSw; (try dsimp only at hSw); go_simp; with_reducible rfl)
            try simp only [List.setIfInBounds_toArray, List.set_cons_zero, List.set_cons_succ]
            refine hold_take (i := 6) (v := ?rv92) rfl rfl (by kernel_rfl) (by kernel_rfl) (by kernel_rfl) (fun _ _ _ h => h) (Or.inl ⟨by rfl, ?rhy92⟩) hHeld ?rrest92
            case rhy92 => first | (intro w hSw; (try dsimp only at hSw); go_simp; done) | (intro w hSw; (try dsimp only at hSw); go_simp; with_reducible rfl)
            try simp only [List.setIfInBounds_toArray, List.set_cons_zero, List.set_cons_succ]
            refine hold_take (i := 7) (v := ?rv93) rfl rfl (by kernel_rfl) (by kernel_rfl) (by kernel_rfl) (fun _ _ _ h => h) (Or.inl ⟨by rfl, ?rhy93⟩) hHeld ?rrest93
            case rhy93 => first | (intro w hSw; (try dsimp only at hSw); go_simp; done) | (intro w hSw; (try dsimp only at hSw); go_simp; with_reducible rfl)
            try simp only [List.setIfInBounds_toArray, List.set_cons_zero, List.set_cons_succ]
            refine wpAnyH_ready (rs := [9]) (by kernel_rfl) (by simp) ?_
            refine (AllReadyH.cons rfl (fun K hK => ?rz94x9) AllReadyH.nil)
            case rz94x9 =>
              have d0 := HBX.out.c0
              have e0 := HBX.out.f0
              have d1 := HBX.out.lt
              go_simp
              have hnew := hHeld.setNew (p := ⟨wv65.heap.size, 0, none⟩) hBw (.slice oa 0 cn)
              have hfin : Dbx W _ 0 [] oa cn (wv65.heap.size) := ⟨hnew, HN2.out.far (b := wv65.heap.size) 0 _ hbd.out, HBX.out.set _ _ _⟩
              refine hK.out _ _ hnew (fun hHeld => ?_)
              clear hK K hnew
              refine hold_take (i := 10) (v := ?rv95) rfl rfl (by kernel_rfl) (by kernel_rfl) (by kernel_rfl) (fun _ _ _ h => h) (Or.inl ⟨by rfl, ?rhy95⟩) hHeld ?rrest95
              case rhy95 => first | (intro w hSw; (try dsimp only at hSw); go_simp; done) | (intro w hSw; (try dsimp only at hSw); go_simp; with_reducible rfl)
              try simp only [List.setIfInBounds_toArray, List.set_cons_zero, List.set_cons_succ]
              refine wpAnyH_done (by kernel_rfl) ?_ _
              refine ⟨o1, oa, cn, wv86.heap.size, wv65.heap.size, ?_, hfin⟩
              generalize wv86.heap.size = s'
              generalize wv65.heap.size = b'
              with_reducible rfl
    case rz64x8 =>
      go_simp
      have hk : Kept W.drew (W.alloc (.cells #[.slice none 0 0] 24)).drew none := ⟨rfl, rfl, rfl, Nat.le_of_lt (by simp), fun i hi _ => Below.heap_alloc _ _ _ hi⟩
      have hnew := hHeld.tr hk
      have hBw : W.heap.size ≤ W.heap.size := Nat.le_refl _
      have HBX := Hid.mk' ((db_alloc W none 0 0 24).kept (kept_drw _ none))
      have HCD := Hid.mk' (HCD.out.kpt hk)
      refine hK.out _ _ hnew (fun hHeld => ?_)
      clear hK K hnew hk
      obtain ⟨wv96, hwv96⟩ : ∃ v, (W.alloc (.cells #[.slice none 0 0] 24)).drew = v := ⟨_, rfl⟩
      rw [hwv96] at hHeld HCD HBX ⊢
      clear hwv96
      refine wpAnyH_ready (rs := [1]) (by kernel_rfl) (by simp) ?_
      refine (AllReadyH.cons rfl (fun K hK => ?rz97x1) AllReadyH.nil)
      case rz97x1 =>
        go_simp
        refine (ones_any wv96).mono ?_
        rintro e wv98 ⟨o1, rfl, hge, hr, hk⟩
        dsimp only
        have hnew := hHeld.tr hk
        have HCD := Hid.mk' (HCD.out.kpt hk)
        have HBX := Hid.mk' (HBX.out.kept hk)
        have HO1 := Hid.mk' hr
        clear hr
        refine hK.out _ _ hnew (fun hHeld => ?_)
        clear hK K hk hnew
        refine hold_take (i := 2) (v := ?rv99) rfl rfl (by kernel_rfl) (by kernel_rfl) (by kernel_rfl) (fun _ _ _ h => h) (Or.inl ⟨by rfl, ?rhy99⟩) hHeld ?rrest99
        case rhy99 => first | (intro w hSw; (try dsimp only at hSw); go_simp; done) | (intro w hSw; (try dsimp only at hSw); go_simp; with_reducible rfl)
        try simp only [List.setIfInBounds_toArray, List.set_cons_zero, List.set_cons_succ]
        refine wpAnyH_ready (rs := [3]) (by kernel_rfl) (by simp) ?_
        refine (AllReadyH.cons rfl (fun K hK => ?rz100x3) AllReadyH.nil)
        case rz100x3 =>
          go_simp
          have hk : Kept wv98 (wv98.alloc (.cells #[.int .i64 0, .slice (some ⟨o1, 0, none⟩) 64 64] 36)) none := Kept.alloc _ _ _ _ _
          have hnew := hHeld.tr hk
          have HPU := Hid.mk' (plw_one 0 (HO1.out.cm 64 (by simp) (by omega) onesL_lt) 36)
          have HCD := Hid.mk' (HCD.out.kpt hk)
          have HBX := Hid.mk' (HBX.out.kept hk)
          have HO1 := Hid.mk' (HO1.out.kept hk (by simp))
          refine hK.out _ _ hnew (fun hHeld => ?_)
          clear hK K hnew hk
          obtain ⟨wv101, hwv101⟩ : ∃ v, (wv98.alloc (.cells #[.int .i64 0, .slice (some ⟨o1, 0, none⟩) 64 64] 36)) = v := ⟨_, rfl⟩
          rw [hwv101] at hHeld HCD HBX HO1 HPU ⊢
          clear hwv101
          refine wpAnyH_ready (rs := [4]) (by kernel_rfl) (by simp) ?_
          refine (AllReadyH.cons rfl (fun K hK => ?rz102x4) AllReadyH.nil)
          case rz102x4 =>
            have hbl0 := HBX.out.lt
            go_simp
            refine (nw_do 1 wv101 HCD.out HPU.out (E := 2) (M := []) (n2 := 0) nam_e3 nam_l3 rfl).mono ?_
            rintro e wv103 ⟨oa, cn, rfl, hcz, hk⟩
            dsimp only
            have hnew := hHeld.tr hk
            have HCD := Hid.mk' (HCD.out.kpt hk)
            have HBX := Hid.mk' (HBX.out.kept hk)
            have HO1 := Hid.mk' (HO1.out.kept hk (by simp))
            have HPU := Hid.mk' (HPU.out.kept hk)
            have HN2 := Hid.mk' hcz.out.come
            have hbd := Hid.mk' (fun (x : Addr) (hx : oa = some x) => (by have := hcz.out.ge x hx; omega : x.block ≠ W.heap.size))
            refine hK.out _ _ hnew (fun hHeld => ?_)
            clear hK K hk hnew
            refine hold_take (i := 5) (v := ?rv104) rfl rfl (by kernel_rfl) (by kernel_rfl) (by kernel_rfl) (fun _ _ _ h => h) (Or.inl ⟨by rfl, ?rhy104⟩) hHeld ?rrest104
            case rhy104 => first | (intro w hSw; (try dsimp only at hSw); go_simp; done) | (intro w hSw; (try dsimp only at hSw); go_simp; with_reducible rfl)
            try simp only [List.setIfInBounds_toArray, List.set_cons_zero, List.set_cons_succ]
            refine hold_take (i := 6) (v := ?rv105) rfl rfl (by kernel_rfl) (by kernel_rfl) (by kernel_rfl) (fun _ _ _ h => h) (Or.inl ⟨by rfl, ?rhy105⟩) hHeld ?rrest105
            case rhy105 => first | (intro w hSw; (try dsimp only at hSw); go_simp; done) | (intro w hSw; (try dsimp only at hSw); go_simp; with_reducible rfl)
            try simp only [List.setIfInBounds_toArray, List.set_cons_zero, List.set_cons_succ]
            refine hold_take (i := 7) (v := ?rv106) rfl rfl (by kernel_rfl) (by kernel_rfl) (by kernel_rfl) (fun _ _ _ h => h) (Or.inl ⟨by rfl, ?rhy106⟩) hHeld ?rrest106
            case rhy106 => first | (intro w hSw; (try dsimp only at hSw); go_simp; done) | (intro w hSw; (try dsimp only at hSw); go_simp; with_reducible rfl)
            try simp only [List.setIfInBounds_toArray, List.set_cons_zero, List.set_cons_succ]
            refine wpAnyH_ready (rs := [9]) (by kernel_rfl) (by simp) ?_
            refine (AllReadyH.cons rfl (fun K hK => ?rz107x9) AllReadyH.nil)
            case rz107x9 =>
              have d0 := HBX.out.c0
              have e0 := HBX.out.f0
              have d1 := HBX.out.lt
              go_simp
              have hnew := hHeld.setNew (p := ⟨W.heap.size, 0, none⟩) hBw (.slice oa 0 cn)
              have hfin : Dbx W _ 0 [] oa cn (W.heap.size) := ⟨hnew, HN2.out.far (b := W.heap.size) 0 _ hbd.out, HBX.out.set _ _ _⟩
              refine hK.out _ _ hnew (fun hHeld => ?_)
              clear hK K hnew
              refine hold_take (i := 10) (v := ?rv108) rfl rfl (by kernel_rfl) (by kernel_rfl) (by kernel_rfl) (fun _ _ _ h => h) (Or.inl ⟨by rfl, ?rhy108⟩) hHeld ?rrest108
              case rhy108 => first | (intro w hSw; (try dsimp only at hSw); go_simp; done) | (intro w hSw; (try dsimp only at hSw); go_simp; with_reducible rfl)
              try simp only [List.setIfInBounds_toArray, List.set_cons_zero, List.set_cons_succ]
              refine wpAnyH_done (by kernel_rfl) ?_ _
              refine ⟨o1, oa, cn, wv98.heap.size, W.heap.size, ?_, hfin⟩
              generalize wv98.heap.size = s'
              generalize W.heap.size = b'
              with_reducible rfl
  case cont3 =>
  intro e a' w9 hq
  obtain ⟨rfl, o9, ob9, cb9, zz9, bb9, rfl, hA⟩ := hq.out
  have HK9 := Hid.mk' (HK8.out.tr hA.kept)
  have HD9 := Hid.mk' (HD8.out.kept hA.kept)
  have HCDF := Hid.mk' (HCD8.out.kpt hA.kept)
  have HX9 := Hid.mk' (HX8.out.kept hA.kept)
  have HCXF := Hid.mk' (HCX8.out.kpt hA.kept)
  have HY9 := Hid.mk' (HY8.out.kpt hA.kept)
  clear hA hD HCW HD8 HK8 HX8 HCX8 HY8 HCD8
  go_wp2
  obtain ⟨W, hW⟩ : ∃ W, W = w9 := ⟨_, rfl⟩
  subst hW
  have hD : ∀ w', Kept W w' none → w'.cell? ⟨bd, 0, none⟩ = some (.slice a0 128 c0) := fun w' hk => (HD9.out.kept hk).c0
  have hX : ∀ w', Kept W w' none → w'.cell? ⟨bx, 0, none⟩ = some (.slice oa 128 cx) := fun w' hk => (HX9.out.kept hk).c0
  have hT : ∀ w', Kept W w' none → (convert 22 9 (.slice a4 64 c4)).run Try.prog w' = .ok (.string (textOf onesL)) w' := fun w' hk => run_text (HY9.out.kpt hk).by_ c4
  have hmk : ∀ w', Kept W w' none → (Instr.makeSlice 22 (.int .i64 65) (.int .i64 65)).run Try.prog w' = .ok (.slice (some ⟨w'.heap.size, 0, none⟩) 65 65) (w'.alloc (.cells (madeCells #[.int .u8 0] 65) 5)) := fun w' _ => run_make_row' (P := Try.prog) 22 5 (.int .u8 0) 1 Try.uB Try.info5 rfl .i64 .i64 65 (by omega) (by omega) w'
  refine Code.wp_mono (Q := R22 ?A4 (fun w' => Kept W w' none)) ?cont4 ?reg4
  case reg4 =>
    repeat (rename_i hh; clear hh)
    refine wp_region_held_drew (S := fun w' => Kept W w' none) (by kernel_rfl) (kept_drw _ _) (fun hHeld => ?_)
    refine hold_take (i := 0) (v := ?rv109) rfl rfl (by kernel_rfl) (by kernel_rfl) (by kernel_rfl) (fun _ _ _ h => h) (Or.inl ⟨by rfl, ?rhy109⟩) hHeld ?rrest109
    case rhy109 => first | (intro w hSw; (try dsimp only at hSw); go_simp; done) | (intro w hSw; (try dsimp only at hSw); go_simp; with_reducible rfl)
    try simp only [List.setIfInBounds_toArray, List.set_cons_zero, List.set_cons_succ]
    refine wpAnyH_ready (rs := [1]) (by kernel_rfl) (by simp) ?_
    refine (AllReadyH.cons rfl (fun K hK => ?rz110x1) AllReadyH.nil)
    case rz110x1 =>
      go_simp
      refine (alive_any W.drew).mono ?_
      rintro e wv111 ⟨rfl, hk⟩
      dsimp only
      have hnew := hHeld.tr hk
      refine hK.out _ _ hnew (fun hHeld => ?_)
      clear hK K hk hnew
      refine hold_take (i := 2) (v := ?rv112) rfl rfl (by kernel_rfl) (by kernel_rfl) (by kernel_rfl) (fun _ _ _ h => h) (Or.inl ⟨by rfl, ?rhy112⟩) hHeld ?rrest112
      case rhy112 => first | (intro w hSw; (try dsimp only at hSw); go_simp; done) | (intro w hSw; (try dsimp only at hSw); go_simp; with_reducible rfl)
      try simp only [List.setIfInBounds_toArray, List.set_cons_zero, List.set_cons_succ]
      refine hold_take (i := 3) (v := ?rv113) rfl rfl (by kernel_rfl) (by kernel_rfl) (by kernel_rfl) (fun _ _ _ h => h) (Or.inl ⟨by rfl, ?rhy113⟩) hHeld ?rrest113
      case rhy113 => first | (intro w hSw; (try dsimp only at hSw); go_simp; done) | (intro w hSw; (try dsimp only at hSw); go_simp; with_reducible rfl)
      try simp only [List.setIfInBounds_toArray, List.set_cons_zero, List.set_cons_succ]
      refine hold_take (i := 4) (v := ?rv114) rfl rfl (by kernel_rfl) (by kernel_rfl) (by kernel_rfl) (fun _ _ _ h => h) (Or.inl ⟨by rfl, ?rhy114⟩) hHeld ?rrest114
      case rhy114 => first | (intro w hSw; (try dsimp only at hSw); go_simp; done) | (intro w hSw; (try dsimp only at hSw); go_simp; with_reducible rfl)
      try simp only [List.setIfInBounds_toArray, List.set_cons_zero, List.set_cons_succ]
      refine hold_take (i := 5) (v := ?rv115) rfl rfl (by kernel_rfl) (by kernel_rfl) (by kernel_rfl) (fun _ _ _ h => h) (Or.inl ⟨by rfl, ?rhy115⟩) hHeld ?rrest115
      case rhy115 => first | (intro w hSw; (try dsimp only at hSw); go_simp; done) | (intro w hSw; (try dsimp only at hSw); go_simp; with_reducible rfl)
      try simp only [List.setIfInBounds_toArray, List.set_cons_zero, List.set_cons_succ]
      refine hold_take (i := 6) (v := ?rv116) rfl rfl (by kernel_rfl) (by kernel_rfl) (by kernel_rfl) (fun _ _ _ h => h) (Or.inl ⟨by rfl, ?rhy116⟩) hHeld ?rrest116
      case rhy116 => first | (intro w hSw; (try dsimp only at hSw); go_simp; done) | (intro w hSw; (try dsimp only at hSw); go_simp; with_reducible rfl)
      try simp only [List.setIfInBounds_toArray, List.set_cons_zero, List.set_cons_succ]
      refine hold_take (i := 7) (v := ?rv117) rfl rfl (by kernel_rfl) (by kernel_rfl) (by kernel_rfl) (fun _ _ _ h => h) (Or.inl ⟨by rfl, ?rhy117⟩) hHeld ?rrest117
      case rhy117 => first | (intro w hSw; (try dsimp only at hSw); go_simp; done) | (intro w hSw; (try dsimp only at hSw); go_simp; with_reducible rfl)
      try simp only [List.setIfInBounds_toArray, List.set_cons_zero, List.set_cons_succ]
      refine hold_take (i := 8) (v := ?rv118) rfl rfl (by kernel_rfl) (by kernel_rfl) (by kernel_rfl) (fun _ _ _ h => h) (Or.inl ⟨by rfl, ?rhy118⟩) hHeld ?rrest118
      case rhy118 => first | (intro w hSw; (try dsimp only at hSw); go_simp; done) | (intro w hSw; (try dsimp only at hSw); go_simp; with_reducible rfl)
      try simp only [List.setIfInBounds_toArray, List.set_cons_zero, List.set_cons_succ]
      refine hold_take (i := 9) (v := ?rv119) rfl rfl (by kernel_rfl) (by kernel_rfl) (by kernel_rfl) (fun _ _ _ h => h) (Or.inl ⟨by rfl, ?rhy119⟩) hHeld ?rrest119
      case rhy119 => first | (intro w hSw; (try dsimp only at hSw); go_simp; done) | (intro w hSw; (try dsimp only at hSw); go_simp; with_reducible rfl)
      try simp only [List.setIfInBounds_toArray, List.set_cons_zero, List.set_cons_succ]
      refine hold_take (i := 10) (v := ?rv120) rfl rfl (by kernel_rfl) (by kernel_rfl) (by kernel_rfl) (fun _ _ _ h => h) (Or.inl ⟨by rfl, ?rhy120⟩) hHeld ?rrest120
      case rhy120 => first | (intro w hSw; (try dsimp only at hSw); go_simp; done) | (intro w hSw; (try dsimp only at hSw); go_simp; with_reducible rfl)
      try simp only [List.setIfInBounds_toArray, List.set_cons_zero, List.set_cons_succ]
      refine hold_take (i := 11) (v := ?rv121) rfl rfl (by kernel_rfl) (by kernel_rfl) (by kernel_rfl) (fun _ _ _ h => h) (Or.inl ⟨by rfl, ?rhy121⟩) hHeld ?rrest121
      case rhy121 => first | (intro w hSw; (try dsimp only at hSw); go_simp; done) | (intro w hSw; (try dsimp only at hSw); go_simp; with_reducible rfl)
      try simp only [List.setIfInBounds_toArray, List.set_cons_zero, List.set_cons_succ]
      refine hold_take (i := 12) (v := ?rv122) rfl rfl (by kernel_rfl) (by kernel_rfl) (by kernel_rfl) (fun _ _ _ h => h) (Or.inl ⟨by rfl, ?rhy122⟩) hHeld ?rrest122
      case rhy122 => first | (intro w hSw; (try dsimp only at hSw); go_simp; done) | (intro w hSw; (try dsimp only at hSw); go_simp; with_reducible rfl)
      try simp only [List.setIfInBounds_toArray, List.set_cons_zero, List.set_cons_succ]
      refine hold_take (i := 13) (v := ?rv123) rfl rfl (by kernel_rfl) (by kernel_rfl) (by kernel_rfl) (fun _ _ _ h => h) (Or.inl ⟨by rfl, ?rhy123⟩) hHeld ?rrest123
      case rhy123 => first | (intro w hSw; (try dsimp only at hSw); go_simp; done) | (intro w hSw; (try dsimp only at hSw); go_simp; with_reducible rfl)
      try simp only [List.setIfInBounds_toArray, List.set_cons_zero, List.set_cons_succ]
      refine hold_take (i := 14) (v := ?rv124) rfl rfl (by kernel_rfl) (by kernel_rfl) (by kernel_rfl) (fun _ _ _ h => h) (Or.inl ⟨by rfl, ?rhy124⟩) hHeld ?rrest124
      case rhy124 => first | (intro w hSw; (try dsimp only at hSw); go_simp; done) | (intro w hSw; (try dsimp only at hSw); go_simp; with_reducible rfl)
      try simp only [List.setIfInBounds_toArray, List.set_cons_zero, List.set_cons_succ]
      refine hold_take (i := 15) (v := ?rv125) rfl rfl (by kernel_rfl) (by kernel_rfl) (by kernel_rfl) (fun _ _ _ h => h) (Or.inl ⟨by rfl, ?rhy125⟩) hHeld ?rrest125
      case rhy125 => first | (intro w hSw; (try dsimp only at hSw); go_simp; done) | (intro w hSw; (try dsimp only at hSw); go_simp; with_reducible rfl)
      try simp only [List.setIfInBounds_toArray, List.set_cons_zero, List.set_cons_succ]
      refine hold_take (i := 16) (v := ?rv126) rfl rfl (by kernel_rfl) (by kernel_rfl) (by kernel_rfl) (fun _ _ _ h => h) (Or.inl ⟨by rfl, ?rhy126⟩) hHeld ?rrest126
      case rhy126 => first | (intro w hSw; (try dsimp only at hSw); go_simp; done) | (intro w hSw; (try dsimp only at hSw); go_simp; with_reducible rfl)
      try simp only [List.setIfInBounds_toArray, List.set_cons_zero, List.set_cons_succ]
      refine hold_take (i := 17) (v := ?rv127) rfl rfl (by kernel_rfl) (by kernel_rfl) (by kernel_rfl) (fun _ _ _ h => h) (Or.inl ⟨by rfl, ?rhy127⟩) hHeld ?rrest127
      case rhy127 => first | (intro w hSw; (try dsimp only at hSw); go_simp; done) | (intro w hSw; (try dsimp only at hSw); go_simp; with_reducible rfl)
      try simp only [List.setIfInBounds_toArray, List.set_cons_zero, List.set_cons_succ]
      refine hold_take (i := 18) (v := ?rv128) rfl rfl (by kernel_rfl) (by kernel_rfl) (by kernel_rfl) (fun _ _ _ h => h) (Or.inl ⟨by rfl, ?rhy128⟩) hHeld ?rrest128
      case rhy128 => first | (intro w hSw; (try dsimp only at hSw); go_simp; done) | (intro w hSw; (try dsimp only at hSw); go_simp; with_reducible rfl)
      try simp only [List.setIfInBounds_toArray, List.set_cons_zero, List.set_cons_succ]
      refine hold_take (i := 19) (v := ?rv129) rfl rfl (by kernel_rfl) (by kernel_rfl) (by kernel_rfl) (fun _ _ _ h => h) (Or.inl ⟨by rfl, ?rhy129⟩) hHeld ?rrest129
      case rhy129 => first | (intro w hSw; (try dsimp only at hSw); go_simp; done) | (intro w hSw; (try dsimp only at hSw); go_simp; with_reducible rfl)
      try simp only [List.setIfInBounds_toArray, List.set_cons_zero, List.set_cons_succ]
      refine hold_take (i := 20) (v := ?rv130) rfl rfl (by kernel_rfl) (by kernel_rfl) (by kernel_rfl) (fun _ _ _ h => h) (Or.inl ⟨by rfl, ?rhy130⟩) hHeld ?rrest130
      case rhy130 => first | (intro w hSw; (try dsimp only at hSw); go_simp; done) | (intro w hSw; (try dsimp only at hSw); go_simp; with_reducible rfl)
      try simp only [List.setIfInBounds_toArray, List.set_cons_zero, List.set_cons_succ]
      refine hold_take (i := 21) (v := ?rv131) rfl rfl (by kernel_rfl) (by kernel_rfl) (by kernel_rfl) (fun _ _ _ h => h) (Or.inl ⟨by rfl, ?rhy131⟩) hHeld ?rrest131
      case rhy131 => first | (intro w hSw; (try dsimp only at hSw); go_simp; done) | (intro w hSw; (try dsimp only at hSw); go_simp; with_reducible rfl)
      try simp only [List.setIfInBounds_toArray, List.set_cons_zero, List.set_cons_succ]
      refine wpAnyH_ready (rs := [22]) (by kernel_rfl) (by simp) ?_
      refine (AllReadyH.cons rfl (fun K hK => ?rz132x22) AllReadyH.nil)
      case rz132x22 =>
        go_simp
        refine (ones_any wv111).mono ?_
        rintro e wv133 ⟨o1, rfl, hge, hr, hk⟩
        dsimp only
        have hnew := hHeld.tr hk
        have HO1 := Hid.mk' hr
        clear hr
        refine hK.out _ _ hnew (fun hHeld => ?_)
        clear hK K hk hnew
        refine wpAnyH_ready (rs := [23]) (by kernel_rfl) (by simp) ?_
        refine (AllReadyH.cons rfl (fun K hK => ?rz134x23) AllReadyH.nil)
        case rz134x23 =>
          have hrun := run_text (HO1.out.cm 64 (by simp) (by omega) onesL_lt).by_ 64
          go_simp
          refine hK.out _ _ hHeld (fun hHeld => ?_)
          clear hK K hrun
          refine hold_take (i := 24) (v := ?rv135) rfl rfl (by kernel_rfl) (by kernel_rfl) (by kernel_rfl) (fun _ _ _ h => h) (Or.inl ⟨by rfl, ?rhy135⟩) hHeld ?rrest135
          case rhy135 => first | (intro w hSw; (try dsimp only at hSw); go_simp; done) | (intro w hSw; (try dsimp only at hSw); go_simp; with_reducible rfl)
          try simp only [List.setIfInBounds_toArray, List.set_cons_zero, List.set_cons_succ]
          refine hold_take (i := 25) (v := ?rv136) rfl rfl (by kernel_rfl) (by kernel_rfl) (by kernel_rfl) (fun _ _ _ h => h) (Or.inl ⟨by rfl, ?rhy136⟩) hHeld ?rrest136
          case rhy136 => first | (intro w hSw; (try dsimp only at hSw); go_simp; done) | (intro w hSw; (try dsimp only at hSw); go_simp; with_reducible rfl)
          try simp only [List.setIfInBounds_toArray, List.set_cons_zero, List.set_cons_succ]
          refine hold_take (i := 26) (v := ?rv137) rfl rfl (by kernel_rfl) (by kernel_rfl) (by kernel_rfl) (fun _ _ _ h => h) (Or.inl ⟨by rfl, ?rhy137⟩) hHeld ?rrest137
          case rhy137 => first | (intro w hSw; (try dsimp only at hSw); go_simp; done) | (intro w hSw; (try dsimp only at hSw); go_simp; with_reducible rfl)
          try simp only [List.setIfInBounds_toArray, List.set_cons_zero, List.set_cons_succ]
          refine hold_take (i := 27) (v := ?rv138) rfl rfl (by kernel_rfl) (by kernel_rfl) (by kernel_rfl) (fun _ _ _ h => h) (Or.inl ⟨by rfl, ?rhy138⟩) hHeld ?rrest138
          case rhy138 => first | (intro w hSw; (try dsimp only at hSw); go_simp; done) | (intro w hSw; (try dsimp only at hSw); go_simp; with_reducible rfl)
          try simp only [List.setIfInBounds_toArray, List.set_cons_zero, List.set_cons_succ]
          refine hold_take (i := 28) (v := ?rv139) rfl rfl (by kernel_rfl) (by kernel_rfl) (by kernel_rfl) (fun _ _ _ h => h) (Or.inl ⟨by rfl, ?rhy139⟩) hHeld ?rrest139
          case rhy139 => first | (intro w hSw; (try dsimp only at hSw); go_simp; done) | (intro w hSw; (try dsimp only at hSw); go_simp; with_reducible rfl)
          try simp only [List.setIfInBounds_toArray, List.set_cons_zero, List.set_cons_succ]
          refine hold_take (i := 29) (v := ?rv140) rfl rfl (by kernel_rfl) (by kernel_rfl) (by kernel_rfl) (fun _ _ _ h => h) (Or.inl ⟨by rfl, ?rhy140⟩) hHeld ?rrest140
          case rhy140 => first | (intro w hSw; (try dsimp only at hSw); go_simp; done) | (intro w hSw; (try dsimp only at hSw); go_simp; with_reducible rfl)
          try simp only [List.setIfInBounds_toArray, List.set_cons_zero, List.set_cons_succ]
          refine hold_take (i := 30) (v := ?rv141) rfl rfl (by kernel_rfl) (by kernel_rfl) (by kernel_rfl) (fun _ _ _ h => h) (Or.inl ⟨by rfl, ?rhy141⟩) hHeld ?rrest141
          case rhy141 => first | (intro w hSw; (try dsimp only at hSw); go_simp; done) | (intro w hSw; (try dsimp only at hSw); go_simp; with_reducible rfl)
          try simp only [List.setIfInBounds_toArray, List.set_cons_zero, List.set_cons_succ]
          refine hold_take (i := 31) (v := ?rv142) rfl rfl (by kernel_rfl) (by kernel_rfl) (by kernel_rfl) (fun _ _ _ h => h) (Or.inl ⟨by rfl, ?rhy142⟩) hHeld ?rrest142
          case rhy142 => first | (intro w hSw; (try dsimp only at hSw); go_simp; done) | (intro w hSw; (try dsimp only at hSw); go_simp; with_reducible rfl)
          try simp only [List.setIfInBounds_toArray, List.set_cons_zero, List.set_cons_succ]
          refine hold_take (i := 32) (v := ?rv143) rfl rfl (by kernel_rfl) (by kernel_rfl) (by kernel_rfl) (fun _ _ _ h => h) (Or.inl ⟨by rfl, ?rhy143⟩) hHeld ?rrest143
          case rhy143 => first | (intro w hSw; (try dsimp only at hSw); go_simp; done) | (intro w hSw; (try dsimp only at hSw); go_simp; with_reducible rfl)
          try simp only [List.setIfInBounds_toArray, List.set_cons_zero, List.set_cons_succ]
          refine hold_take (i := 33) (v := ?rv144) rfl rfl (by kernel_rfl) (by kernel_rfl) (by kernel_rfl) (fun _ _ _ h => h) (Or.inl ⟨by rfl, ?rhy144⟩) hHeld ?rrest144
          case rhy144 => first | (intro w hSw; (try dsimp only at hSw); go_simp; done) | (intro w hSw; (try dsimp only at hSw); go_simp; with_reducible rfl)
          try simp only [List.setIfInBounds_toArray, List.set_cons_zero, List.set_cons_succ]
          refine hold_take (i := 34) (v := ?rv145) rfl rfl (by kernel_rfl) (by kernel_rfl) (by kernel_rfl) (fun _ _ _ h => h) (Or.inl ⟨by rfl, ?rhy145⟩) hHeld ?rrest145
          case rhy145 => first | (intro w hSw; (try dsimp only at hSw); go_simp; done) | (intro w hSw; (try dsimp only at hSw); go_simp; with_reducible rfl)
          try simp only [List.setIfInBounds_toArray, List.set_cons_zero, List.set_cons_succ]
          refine hold_take (i := 35) (v := ?rv146) rfl rfl (by kernel_rfl) (by kernel_rfl) (by kernel_rfl) (fun _ _ _ h => h) (Or.inl ⟨by rfl, ?rhy146⟩) hHeld ?rrest146
          case rhy146 => first | (intro w hSw; (try dsimp only at hSw); go_simp; done) | (intro w hSw; (try dsimp only at hSw); go_simp; with_reducible rfl)
          try simp only [List.setIfInBounds_toArray, List.set_cons_zero, List.set_cons_succ]
          refine hold_take (i := 36) (v := ?rv147) rfl rfl (by kernel_rfl) (by kernel_rfl) (by kernel_rfl) (fun _ _ _ h => h) (Or.inl ⟨by rfl, ?rhy147⟩) hHeld ?rrest147
          case rhy147 => first | (intro w hSw; (try dsimp only at hSw); go_simp; done) | (intro w hSw; (try dsimp only at hSw); go_simp; with_reducible rfl)
          try simp only [List.setIfInBounds_toArray, List.set_cons_zero, List.set_cons_succ]
          refine hold_take (i := 37) (v := ?rv148) rfl rfl (by kernel_rfl) (by kernel_rfl) (by kernel_rfl) (fun _ _ _ h => h) (Or.inl ⟨by rfl, ?rhy148⟩) hHeld ?rrest148
          case rhy148 => first | (intro w hSw; (try dsimp only at hSw); go_simp; done) | (intro w hSw; (try dsimp only at hSw); go_simp; with_reducible rfl)
          try simp only [List.setIfInBounds_toArray, List.set_cons_zero, List.set_cons_succ]
          refine hold_take (i := 38) (v := ?rv149) rfl rfl (by kernel_rfl) (by kernel_rfl) (by kernel_rfl) (fun _ _ _ h => h) (Or.inl ⟨by rfl, ?rhy149⟩) hHeld ?rrest149
          case rhy149 => first | (intro w hSw; (try dsimp only at hSw); go_simp; done) | (intro w hSw; (try dsimp only at hSw); go_simp; with_reducible rfl)
          try simp only [List.setIfInBounds_toArray, List.set_cons_zero, List.set_cons_succ]
          refine hold_take (i := 39) (v := ?rv150) rfl rfl (by kernel_rfl) (by kernel_rfl) (by kernel_rfl) (fun _ _ _ h => h) (Or.inl ⟨by rfl, ?rhy150⟩) hHeld ?rrest150
          case rhy150 => first | (intro w hSw; (try dsimp only at hSw); go_simp; done) | (intro w hSw; (try dsimp only at hSw); go_simp; with_reducible rfl)
          try simp only [List.setIfInBounds_toArray, List.set_cons_zero, List.set_cons_succ]
          refine hold_take (i := 40) (v := ?rv151) rfl rfl (by kernel_rfl) (by kernel_rfl) (by kernel_rfl) (fun _ _ _ h => h) (Or.inl ⟨by rfl, ?rhy151⟩) hHeld ?rrest151
          case rhy151 => first | (intro w hSw; (try dsimp only at hSw); go_simp; done) | (intro w hSw; (try dsimp only at hSw); go_simp; with_reducible rfl)
          try simp only [List.setIfInBounds_toArray, List.set_cons_zero, List.set_cons_succ]
          refine hold_take (i := 41) (v := ?rv152) rfl rfl (by kernel_rfl) (by kernel_rfl) (by kernel_rfl) (fun _ _ _ h => h) (Or.inl ⟨by rfl, ?rhy152⟩) hHeld ?rrest152
          case rhy152 => first | (intro w hSw; (try dsimp only at hSw); go_simp; done) | (intro w hSw; (try dsimp only at hSw); go_simp; with_reducible rfl)
          try simp only [List.setIfInBounds_toArray, List.set_cons_zero, List.set_cons_succ]
          refine hold_take (i := 42) (v := ?rv153) rfl rfl (by kernel_rfl) (by kernel_rfl) (by kernel_rfl) (fun _ _ _ h => h) (Or.inl ⟨by rfl, ?rhy153⟩) hHeld ?rrest153
          case rhy153 => first | (intro w hSw; (try dsimp only at hSw); go_simp; done) | (intro w hSw; (try dsimp only at hSw); go_simp; with_reducible rfl)
          try simp only [List.setIfInBounds_toArray, List.set_cons_zero, List.set_cons_succ]
          refine hold_take (i := 43) (v := ?rv154) rfl rfl (by kernel_rfl) (by kernel_rfl) (by kernel_rfl) (fun _ _ _ h => h) (Or.inl ⟨by rfl, ?rhy154⟩) hHeld ?rrest154
          case rhy154 => first | (intro w hSw; (try dsimp only at hSw); go_simp; done) | (intro w hSw; (try dsimp only at hSw); go_simp; with_reducible rfl)
          try simp only [List.setIfInBounds_toArray, List.set_cons_zero, List.set_cons_succ]
          refine hold_take (i := 44) (v := ?rv155) rfl rfl (by kernel_rfl) (by kernel_rfl) (by kernel_rfl) (fun _ _ _ h => h) (Or.inl ⟨by rfl, ?rhy155⟩) hHeld ?rrest155
          case rhy155 => first | (intro w hSw; (try dsimp only at hSw); go_simp; done) | (intro w hSw; (try dsimp only at hSw); go_simp; with_reducible rfl)
          try simp only [List.setIfInBounds_toArray, List.set_cons_zero, List.set_cons_succ]
          refine hold_take (i := 45) (v := ?rv156) rfl rfl (by kernel_rfl) (by kernel_rfl) (by kernel_rfl) (fun _ _ _ h => h) (Or.inl ⟨by rfl, ?rhy156⟩) hHeld ?rrest156
          case rhy156 => first | (intro w hSw; (try dsimp only at hSw); go_simp; done) | (intro w hSw; (try dsimp only at hSw); go_simp; with_reducible rfl)
          try simp only [List.setIfInBounds_toArray, List.set_cons_zero, List.set_cons_succ]
          refine hold_take (i := 46) (v := ?rv157) rfl rfl (by kernel_rfl) (by kernel_rfl) (by kernel_rfl) (fun _ _ _ h => h) (Or.inl ⟨by rfl, ?rhy157⟩) hHeld ?rrest157
          case rhy157 => first | (intro w hSw; (try dsimp only at hSw); go_simp; done) | (intro w hSw; (try dsimp only at hSw); go_simp; with_reducible rfl)
          try simp only [List.setIfInBounds_toArray, List.set_cons_zero, List.set_cons_succ]
          refine hold_take (i := 47) (v := ?rv158) rfl rfl (by kernel_rfl) (by kernel_rfl) (by kernel_rfl) (fun _ _ _ h => h) (Or.inl ⟨by rfl, ?rhy158⟩) hHeld ?rrest158
          case rhy158 => first | (intro w hSw; (try dsimp only at hSw); go_simp; done) | (intro w hSw; (try dsimp only at hSw); go_simp; with_reducible rfl)
          try simp only [List.setIfInBounds_toArray, List.set_cons_zero, List.set_cons_succ]
          refine wpAnyH_ready (rs := [48]) (by kernel_rfl) (by simp) ?_
          refine (AllReadyH.cons rfl (fun K hK => ?rz159x48) AllReadyH.nil)
          case rz159x48 =>
            go_simp
            refine (nam_chk0 wv133).mono ?_
            rintro e wv160 ⟨rfl, hk⟩
            dsimp only
            have hnew := hHeld.tr hk
            have HO1 := Hid.mk' (HO1.out.kept hk (by simp))
            refine hK.out _ _ hnew (fun hHeld => ?_)
            clear hK K hk hnew
            refine hold_take (i := 49) (v := ?rv161) rfl rfl (by kernel_rfl) (by kernel_rfl) (by kernel_rfl) (fun _ _ _ h => h) (Or.inl ⟨by rfl, ?rhy161⟩) hHeld ?rrest161
            case rhy161 => first | (intro w hSw; (try dsimp only at hSw); go_simp; done) | (intro w hSw; (try dsimp only at hSw); go_simp; with_reducible rfl)
            try simp only [List.setIfInBounds_toArray, List.set_cons_zero, List.set_cons_succ]
            refine hold_take (i := 50) (v := ?rv162) rfl rfl (by kernel_rfl) (by kernel_rfl) (by kernel_rfl) (fun _ _ _ h => h) (Or.inl ⟨by rfl, ?rhy162⟩) hHeld ?rrest162
            case rhy162 => first | (intro w hSw; (try dsimp only at hSw); go_simp; done) | (intro w hSw; (try dsimp only at hSw); go_simp; with_reducible rfl)
            try simp only [List.setIfInBounds_toArray, List.set_cons_zero, List.set_cons_succ]
            refine hold_take (i := 51) (v := ?rv163) rfl rfl (by kernel_rfl) (by kernel_rfl) (by kernel_rfl) (fun _ _ _ h => h) (Or.inl ⟨by rfl, ?rhy163⟩) hHeld ?rrest163
            case rhy163 => first | (intro w hSw; (try dsimp only at hSw); go_simp; done) | (intro w hSw; (try dsimp only at hSw); go_simp; with_reducible rfl)
            try simp only [List.setIfInBounds_toArray, List.set_cons_zero, List.set_cons_succ]
            refine wpAnyH_ready (rs := [52]) (by kernel_rfl) (by simp) ?_
            refine (AllReadyH.cons rfl (fun K hK => ?rz164x52) AllReadyH.nil)
            case rz164x52 =>
              go_simp
              have hk : Kept wv160 (wv160.alloc (.cells (madeCells #[.int .u8 0] 65) 5)) none := Kept.alloc _ _ _ _ _
              have hnew := hHeld.tr hk
              have HO1 := Hid.mk' (HO1.out.kept hk (by simp))
              refine hK.out _ _ hnew (fun hHeld => ?_)
              clear hK K hnew hk
              obtain ⟨wv165, hwv165⟩ : ∃ v, (wv160.alloc (.cells (madeCells #[.int .u8 0] 65) 5)) = v := ⟨_, rfl⟩
              rw [hwv165] at hHeld HO1 ⊢
              clear hwv165
              refine hold_take (i := 53) (v := ?rv166) rfl rfl (by kernel_rfl) (by kernel_rfl) (by kernel_rfl) (fun _ _ _ h => h) (Or.inl ⟨by rfl, ?rhy166⟩) hHeld ?rrest166
              case rhy166 => first | (intro w hSw; (try dsimp only at hSw); go_simp; done) | (intro w hSw; (try dsimp only at hSw); go_simp; with_reducible rfl)
              try simp only [List.setIfInBounds_toArray, List.set_cons_zero, List.set_cons_succ]
              refine wpAnyH_ready (rs := [54]) (by kernel_rfl) (by simp) ?_
              refine (AllReadyH.cons rfl (fun K hK => ?rz167x54) AllReadyH.nil)
              case rz167x54 =>
                go_simp
                refine (nam_chk65 _ _ wv165).mono ?_
                rintro e wv168 ⟨rfl, hk⟩
                dsimp only
                have hnew := hHeld.tr hk
                have HO1 := Hid.mk' (HO1.out.kept hk (by simp))
                refine hK.out _ _ hnew (fun hHeld => ?_)
                clear hK K hk hnew
                refine hold_take (i := 55) (v := ?rv169) rfl rfl (by kernel_rfl) (by kernel_rfl) (by kernel_rfl) (fun _ _ _ h => h) (Or.inl ⟨by rfl, ?rhy169⟩) hHeld ?rrest169
                case rhy169 => first | (intro w hSw; (try dsimp only at hSw); go_simp; done) | (intro w hSw; (try dsimp only at hSw); go_simp; with_reducible rfl)
                try simp only [List.setIfInBounds_toArray, List.set_cons_zero, List.set_cons_succ]
                refine hold_take (i := 56) (v := ?rv170) rfl rfl (by kernel_rfl) (by kernel_rfl) (by kernel_rfl) (fun _ _ _ h => h) (Or.inl ⟨by rfl, ?rhy170⟩) hHeld ?rrest170
                case rhy170 => first | (intro w hSw; (try dsimp only at hSw); go_simp; done) | (intro w hSw; (try dsimp only at hSw); go_simp; with_reducible rfl)
                try simp only [List.setIfInBounds_toArray, List.set_cons_zero, List.set_cons_succ]
                refine hold_take (i := 57) (v := ?rv171) rfl rfl (by kernel_rfl) (by kernel_rfl) (by kernel_rfl) (fun _ _ _ h => h) (Or.inl ⟨by rfl, ?rhy171⟩) hHeld ?rrest171
                case rhy171 => first | (intro w hSw; (try dsimp only at hSw); go_simp; done) | (intro w hSw; (try dsimp only at hSw); go_simp; with_reducible rfl)
                try simp only [List.setIfInBounds_toArray, List.set_cons_zero, List.set_cons_succ]
                refine hold_take (i := 58) (v := ?rv172) rfl rfl (by kernel_rfl) (by kernel_rfl) (by kernel_rfl) (fun _ _ _ h => h) (Or.inl ⟨by rfl, ?rhy172⟩) hHeld ?rrest172
                case rhy172 => first | (intro w hSw; (try dsimp only at hSw); go_simp; done) | (intro w hSw; (try dsimp only at hSw); go_simp; with_reducible rfl)
                try simp only [List.setIfInBounds_toArray, List.set_cons_zero, List.set_cons_succ]
                refine hold_take (i := 59) (v := ?rv173) rfl rfl (by kernel_rfl) (by kernel_rfl) (by kernel_rfl) (fun _ _ _ h => h) (Or.inl ⟨by rfl, ?rhy173⟩) hHeld ?rrest173
                case rhy173 => first | (intro w hSw; (try dsimp only at hSw); go_simp; done) | (intro w hSw; (try dsimp only at hSw); go_simp; with_reducible rfl)
                try simp only [List.setIfInBounds_toArray, List.set_cons_zero, List.set_cons_succ]
                refine wpAnyH_ready (rs := [60]) (by kernel_rfl) (by simp) ?_
                refine (AllReadyH.cons rfl (fun K hK => ?rz174x60) AllReadyH.nil)
                case rz174x60 =>
                  go_simp
                  refine (nam_same (HCDF.out.kpt hHeld).by_ (HCXF.out.kpt hHeld).by_).mono ?_
                  rintro e wv175 ⟨rfl, hk⟩
                  dsimp only
                  have hnew := hHeld.tr hk
                  have HO1 := Hid.mk' (HO1.out.kept hk (by simp))
                  refine hK.out _ _ hnew (fun hHeld => ?_)
                  clear hK K hk hnew
                  refine hold_take (i := 61) (v := ?rv176) rfl rfl (by kernel_rfl) (by kernel_rfl) (by kernel_rfl) (fun _ _ _ h => h) (Or.inl ⟨by rfl, ?rhy176⟩) hHeld ?rrest176
                  case rhy176 => first | (intro w hSw; (try dsimp only at hSw); go_simp; done) | (intro w hSw; (try dsimp only at hSw); go_simp; with_reducible rfl)
                  try simp only [List.setIfInBounds_toArray, List.set_cons_zero, List.set_cons_succ]
                  refine hold_take (i := 62) (v := ?rv177) rfl rfl (by kernel_rfl) (by kernel_rfl) (by kernel_rfl) (fun _ _ _ h => h) (Or.inl ⟨by rfl, ?rhy177⟩) hHeld ?rrest177
                  case rhy177 => first | (intro w hSw; (try dsimp only at hSw); go_simp; done) | (intro w hSw; (try dsimp only at hSw); go_simp; with_reducible rfl)
                  try simp only [List.setIfInBounds_toArray, List.set_cons_zero, List.set_cons_succ]
                  refine hold_take (i := 63) (v := ?rv178) rfl rfl (by kernel_rfl) (by kernel_rfl) (by kernel_rfl) (fun _ _ _ h => h) (Or.inl ⟨by rfl, ?rhy178⟩) hHeld ?rrest178
                  case rhy178 => first | (intro w hSw; (try dsimp only at hSw); go_simp; done) | (intro w hSw; (try dsimp only at hSw); go_simp; with_reducible rfl)
                  try simp only [List.setIfInBounds_toArray, List.set_cons_zero, List.set_cons_succ]
                  refine hold_take (i := 64) (v := ?rv179) rfl rfl (by kernel_rfl) (by kernel_rfl) (by kernel_rfl) (fun _ _ _ h => h) (Or.inl ⟨by rfl, ?rhy179⟩) hHeld ?rrest179
                  case rhy179 => first | (intro w hSw; (try dsimp only at hSw); go_simp; done) | (intro w hSw; (try dsimp only at hSw); go_simp; with_reducible rfl)
                  try simp only [List.setIfInBounds_toArray, List.set_cons_zero, List.set_cons_succ]
                  refine hold_take (i := 65) (v := ?rv180) rfl rfl (by kernel_rfl) (by kernel_rfl) (by kernel_rfl) (fun _ _ _ h => h) (Or.inl ⟨by rfl, ?rhy180⟩) hHeld ?rrest180
                  case rhy180 => first | (intro w hSw; (try dsimp only at hSw); go_simp; done) | (intro w hSw; (try dsimp only at hSw); go_simp; with_reducible rfl)
                  try simp only [List.setIfInBounds_toArray, List.set_cons_zero, List.set_cons_succ]
                  refine wpAnyH_ready (rs := [66]) (by kernel_rfl) (by simp) ?_
                  refine (AllReadyH.cons rfl (fun K hK => ?rz181x66) AllReadyH.nil)
                  case rz181x66 =>
                    go_simp
                    refine (bsame_yes (HCDF.out.kpt hHeld).by_ (HCDF.out.kpt hHeld).by_).mono ?_
                    rintro e wv182 ⟨rfl, hk⟩
                    dsimp only
                    have hnew := hHeld.tr hk
                    have HO1 := Hid.mk' (HO1.out.kept hk (by simp))
                    refine hK.out _ _ hnew (fun hHeld => ?_)
                    clear hK K hk hnew
                    refine hold_take (i := 67) (v := ?rv183) rfl rfl (by kernel_rfl) (by kernel_rfl) (by kernel_rfl) (fun _ _ _ h => h) (Or.inl ⟨by rfl, ?rhy183⟩) hHeld ?rrest183
                    case rhy183 => first | (intro w hSw; (try dsimp only at hSw); go_simp; done) | (intro w hSw; (try dsimp only at hSw); go_simp; with_reducible rfl)
                    try simp only [List.setIfInBounds_toArray, List.set_cons_zero, List.set_cons_succ]
                    refine hold_take (i := 68) (v := ?rv184) rfl rfl (by kernel_rfl) (by kernel_rfl) (by kernel_rfl) (fun _ _ _ h => h) (Or.inl ⟨by rfl, ?rhy184⟩) hHeld ?rrest184
                    case rhy184 => first | (intro w hSw; (try dsimp only at hSw); go_simp; done) | (intro w hSw; (try dsimp only at hSw); go_simp; with_reducible rfl)
                    try simp only [List.setIfInBounds_toArray, List.set_cons_zero, List.set_cons_succ]
                    refine wpAnyH_done (by kernel_rfl) ?_ _
                    refine ⟨o1, wv160.heap.size, ?_, hHeld⟩
                    generalize wv160.heap.size = s'
                    with_reducible rfl
  case cont4 =>
  intro e a' w10 hq
  obtain ⟨rfl, o10, s10, rfl, hk10⟩ := hq.out
  go_wp2
  go_ret
  exact ⟨rfl, HK9.out.tr hk10⟩

end Go.Proofs.Ytpfbdandhdapcaa
