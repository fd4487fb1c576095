/-
  THE WALK of LinkRises (made by a program).
-/
import Derived.Test.YtnmfigcemknjbaaLnkE
namespace Go.Proofs.Ytnmfigcemknjbaa
open Go.RowKit Go.Lib Go.Deep
set_option linter.unusedVariables false
set_option linter.unusedSimpArgs false

/-- How the ticks' loop stands. -/
structure Ris (w wr : World) (s : Lk) : Prop where
  lb : Lb wr w.heap.size s
  kept : Kept w wr none
  lt : s.last < 4294967296
theorem Ris.keptN {w wr w' : World} {s : Lk} (h : Ris w wr s) (k : Kept wr w' none) : Ris w w' s := ⟨row_kept h.lb k (by simp), h.kept.tr k, h.lt⟩
theorem Mw.ms' {w0 w : World} {l : List Msg} {v : Value} (h : Mw w0 w l v) (hok : ∀ m ∈ l, Mok m) : ∃ a c, v = .slice a l.length c ∧ Ms w a l.length l := by
  obtain ⟨a, c, rfl, _⟩ := h.slice
  exact ⟨a, c, rfl, h.ms hok⟩
theorem run_textL {w : World} {a : Option Addr} {len : Nat} {L : List Nat} (h : By w a len L) (cap : Nat) : ∀ q, (convert 34 9 (.slice a len cap)).run Try.prog (w.drewN q) = .ok (.string (textOf L)) (w.drewN q) := fun q => run_text (h.drewN q) cap
def okTs (ls : List (List Msg)) : Prop := ∀ l ∈ ls, ∀ m ∈ l, Mok m
set_option maxRecDepth 100000 in
set_option maxHeartbeats 8000000 in
theorem lrises_any (s0 : Lk) (h0 : s0.last < 4294967296) {la : Option Addr} {n c : Nat} {ls : List (List Msg)} {w : World} (h : Ts w la n ls) (hok : okTs ls) : Calls Try.prog 6 #[lkV s0, .slice la n c] w fun e w' => e = .returned (.bool true) ∧ Kept w w' none := by
  have HM := Hid.mk' h
  have HO := Hid.mk' hok
  have hmx := h.max
  have HS := Hid.mk' h.size
  have HL0 := Hid.mk' h0
  clear h hok h0
  by_cases hb : 30 < n
  · go_enter Try.func6, Try.ntmps6
    go_wp2_with (go_at_call 16; refine (alive_any _).mono ?_; rintro e w1 ⟨rfl, hk1⟩)
    go_ret
    exact ⟨rfl, (Kept.alloc _ _ _ _ _).tr hk1⟩
  go_enter Try.func6, Try.ntmps6
  go_wp2_with (go_at_call 16; refine (alive_any _).mono ?_; rintro e w1 ⟨rfl, hk1⟩; have hR := row_kept (lb_alloc w s0) hk1 (by simp); obtain ⟨c0, c1, c2, f0, f1, f2, lt⟩ := Lb.lc hR; have HR := Hid.mk' (Ris.mk hR ((Kept.alloc _ _ _ _ _).tr hk1) HL0.out); clear hR hk1)
  go_quiet (fail)
  clear c0 c1 c2 f0 f1 f2 lt
  go_wp2
  go_loopw [6, 7, 8] (fun x y i wr => ∃ (k : Nat) (s : Lk), k ≤ n ∧ x = .int .u32 (s.last : Int) ∧ y = .bool s.any ∧ i = .int .i64 k ∧ Hid (Ris w wr s)) (fun _ _ i _ => n - (intOf i).toNat)
  case atStart => exact ⟨0, s0, Nat.zero_le _, rfl, rfl, rfl, Hid.mk' (HR.out.keptN (Kept.drewN _ _ _))⟩
  case round =>
    obtain ⟨k, s, hk, rfl, rfl, rfl, HX⟩ := hrel
    by_cases hlt : k < n
    case neg =>
      go_wp2
      go_ret
      exact ⟨rfl, HX.out.kept⟩
    obtain ⟨b, off, l, al, cl, rfl, hbl, hl, p0', hMl⟩ := HM.out.at_is hlt
    have p0 := (cell_kl HX.out.kept hbl).trans p0'
    have HMl := Hid.mk' (hMl.kept HX.out.kept)
    have HOl : Hid (∀ m ∈ l, Mok m) := Hid.mk' (HO.out l (List.mem_of_getElem? hl))
    have hlm := hMl.max
    clear hMl p0' hl
    by_cases hb2 : 30 < l.length
    · go_wp2
      go_ret
      exact ⟨rfl, HX.out.kept⟩
    by_cases hb3 : hevB l = true
    · go_wp2_with (go_at_call 17; refine (heavy_any (HMl.out)).mono ?_; rintro e w3 ⟨rfl, hk3⟩; rw [hb3])
      go_ret
      exact ⟨rfl, HX.out.kept.tr hk3⟩
    have hb3' : hevB l = false := by simpa using hb3
    obtain ⟨c0, c1, c2, f0, f1, f2, lt⟩ := Lb.lc HX.out.lb
    have HBL := Hid.mk' hbl
    clear hbl hb3
    go_wp2_with (go_at_call 17; refine (heavy_any (HMl.out)).mono ?_; rintro e w3 ⟨rfl, hk3⟩; rw [hb3']; replace HX := Hid.mk' (HX.out.keptN hk3); replace HMl := Hid.mk' (HMl.out.kept hk3); replace p0 := (cell_kl hk3 (Nat.lt_of_lt_of_le HBL.out (by have := HX.out.kept; have := HR.out.kept.size; omega))).trans p0; obtain ⟨c0, c1, c2, f0, f1, f2, lt⟩ := Lb.lc HX.out.lb)
    obtain ⟨q, hq⟩ : ∃ q, nxL s l = q := ⟨_, rfl⟩
    obtain ⟨T, hT⟩ : ∃ T, nxT s l = T := ⟨_, rfl⟩
    obtain ⟨E, hE⟩ : ∃ E, nxE s l = E := ⟨_, rfl⟩
    obtain ⟨QA, QL, QG⟩ := q
    have HQ := Hid.mk' hq
    have HTT := Hid.mk' hT
    have HEE := Hid.mk' hE
    clear hq hT hE
    have hcA : ∀ w', Kept w3 w' none → w'.cell? ⟨w.heap.size, 0, none⟩ = some (.bool s.any) := fun w' hk => cell_kept0 c0 hk
    have hcB : ∀ w', Kept w3 w' none → w'.cell? ⟨w.heap.size, 1, none⟩ = some (.int .u32 (s.last : Int)) := fun w' hk => cell_kept0 c1 hk
    have hcC : ∀ w', Kept w3 w' none → w'.cell? ⟨w.heap.size, 2, none⟩ = some (.int .i64 s.age) := fun w' hk => cell_kept0 c2 hk
    have hcP : ∀ w', Kept w3 w' none → w'.cell? ⟨b, off + k, none⟩ = some (.slice al l.length cl) := fun w' hk => cell_kept0 p0 hk
    clear c0 c1 c2 f0 f1 f2 p0
    refine Code.wp_mono (Q := Rn ?A1 (fun b v w' => Hid (Mw w3 w' T v) ∧ Hid (Lb w' b ⟨QA, QL, QG⟩) ∧ Hid (Kept w3 w' none))) ?cont1 ?reg1
    case reg1 =>
      repeat (rename_i hh; clear hh)
      refine wp_region_held_drew (S := fun w' => Kept w3 w' none) (by kernel_rfl) (kept_drl _ _) (fun hHeld => ?_)
      obtain ⟨w0, hw0⟩ : ∃ v, w3.drew = v := ⟨_, rfl⟩
      rw [hw0] at hHeld ⊢
      clear hw0
      refine held_take (i := 0) (v := ?rv1) rfl rfl (by kernel_rfl) (by kernel_rfl) (by kernel_rfl) (fun _ _ _ h => h) (Or.inl ⟨by rfl, ?rhy1⟩) hHeld ?rrest1
      case rhy1 => first | (intro w hSw; (try dsimp only at hSw); go_simp; done) | (intro w hSw; (try dsimp only at hSw); go_simp; with_reducible rfl)
      try simp only [List.setIfInBounds_toArray, List.set_cons_zero, List.set_cons_succ]
      refine held_take (i := 1) (v := ?rv2) rfl rfl (by kernel_rfl) (by kernel_rfl) (by kernel_rfl) (fun _ _ _ h => h) (Or.inl ⟨by rfl, ?rhy2⟩) hHeld ?rrest2
      case rhy2 => first | (intro w hSw; (try dsimp only at hSw); go_simp; done) | (intro w hSw; (try dsimp only at hSw); go_simp; with_reducible rfl)
      try simp only [List.setIfInBounds_toArray, List.set_cons_zero, List.set_cons_succ]
      refine held_take (i := 2) (v := ?rv3) rfl rfl (by kernel_rfl) (by kernel_rfl) (by kernel_rfl) (fun _ _ _ h => h) (Or.inl ⟨by rfl, ?rhy3⟩) hHeld ?rrest3
      case rhy3 => first | (intro w hSw; (try dsimp only at hSw); go_simp; done) | (intro w hSw; (try dsimp only at hSw); go_simp; with_reducible rfl)
      try simp only [List.setIfInBounds_toArray, List.set_cons_zero, List.set_cons_succ]
      refine held_take (i := 3) (v := ?rv4) rfl rfl (by kernel_rfl) (by kernel_rfl) (by kernel_rfl) (fun _ _ _ h => h) (Or.inl ⟨by rfl, ?rhy4⟩) hHeld ?rrest4
      case rhy4 => first | (intro w hSw; (try dsimp only at hSw); go_simp; done) | (intro w hSw; (try dsimp only at hSw); go_simp; with_reducible rfl)
      try simp only [List.setIfInBounds_toArray, List.set_cons_zero, List.set_cons_succ]
      refine held_take (i := 4) (v := ?rv5) rfl rfl (by kernel_rfl) (by kernel_rfl) (by kernel_rfl) (fun _ _ _ h => h) (Or.inl ⟨by rfl, ?rhy5⟩) hHeld ?rrest5
      case rhy5 => first | (intro w hSw; (try dsimp only at hSw); go_simp; done) | (intro w hSw; (try dsimp only at hSw); go_simp; with_reducible rfl)
      try simp only [List.setIfInBounds_toArray, List.set_cons_zero, List.set_cons_succ]
      refine wpAnyH_ready (rs := [5, 10]) (by kernel_rfl) (by simp) ?_
      refine (AllReadyH.cons rfl (fun K hK => ?rz6x5) (AllReadyH.cons rfl (fun K hK => ?rz6x10) AllReadyH.nil))
      case rz6x5 =>
        have HNX := Hid.mk' (lnext_any (c := cl) s ((HMl.out.kept hHeld)))
        unfold NxP at HNX
        rw [HQ.out, HTT.out, HEE.out] at HNX
        go_simp
        refine HNX.out.mono ?_
        rintro e wv7 ⟨v2, rfl, hM2⟩
        dsimp only
        have hk := hM2.kw
        have M1 := Hid.mk' (hM2.of hHeld)
        clear HNX hM2
        have hnew : Kept w3 wv7 none := hHeld.tr hk
        refine hK.out _ _ hnew (fun hHeld => ?_)
        clear hK K hnew hk
        refine held_take (i := 6) (v := ?rv8) rfl rfl (by kernel_rfl) (by kernel_rfl) (by kernel_rfl) (fun _ _ _ h => h) (Or.inl ⟨by rfl, ?rhy8⟩) hHeld ?rrest8
        case rhy8 => first | (intro w hSw; (try dsimp only at hSw); go_simp; done) | (intro w hSw; (try dsimp only at hSw); go_simp; with_reducible rfl)
        try simp only [List.setIfInBounds_toArray, List.set_cons_zero, List.set_cons_succ]
        refine held_take (i := 7) (v := ?rv9) rfl rfl (by kernel_rfl) (by kernel_rfl) (by kernel_rfl) (fun _ _ _ h => h) (Or.inl ⟨by rfl, ?rhy9⟩) hHeld ?rrest9
        case rhy9 => first | (intro w hSw; (try dsimp only at hSw); go_simp; done) | (intro w hSw; (try dsimp only at hSw); go_simp; with_reducible rfl)
        try simp only [List.setIfInBounds_toArray, List.set_cons_zero, List.set_cons_succ]
        refine held_take (i := 8) (v := ?rv10) rfl rfl (by kernel_rfl) (by kernel_rfl) (by kernel_rfl) (fun _ _ _ h => h) (Or.inl ⟨by rfl, ?rhy10⟩) hHeld ?rrest10
        case rhy10 => first | (intro w hSw; (try dsimp only at hSw); go_simp; done) | (intro w hSw; (try dsimp only at hSw); go_simp; with_reducible rfl)
        try simp only [List.setIfInBounds_toArray, List.set_cons_zero, List.set_cons_succ]
        refine held_take (i := 9) (v := ?rv11) rfl rfl (by kernel_rfl) (by kernel_rfl) (by kernel_rfl) (fun _ _ _ h => h) (Or.inl ⟨by rfl, ?rhy11⟩) hHeld ?rrest11
        case rhy11 => first | (intro w hSw; (try dsimp only at hSw); go_simp; done) | (intro w hSw; (try dsimp only at hSw); go_simp; with_reducible rfl)
        try simp only [List.setIfInBounds_toArray, List.set_cons_zero, List.set_cons_succ]
        refine wpAnyH_ready (rs := [10]) (by kernel_rfl) (by simp) ?_
        refine (AllReadyH.cons rfl (fun K hK => ?rz12x10) AllReadyH.nil)
        case rz12x10 =>
          go_simp
          have hk : Kept wv7 (wv7.alloc (.cells #[.bool false, .int .u32 0, .int .i64 0] 24)) none := Kept.alloc _ _ _ _ _
          have M1 := Hid.mk' (M1.out.keptN hk)
          have R1 := Hid.mk' (lb_alloc wv7 lk0)
          have N1 : Hid (w3.heap.size ≤ wv7.heap.size) := Hid.mk' hHeld.size
          have hnew : Kept w3 (wv7.alloc (.cells #[.bool false, .int .u32 0, .int .i64 0] 24)) none := hHeld.tr hk
          refine hK.out _ _ hnew (fun hHeld => ?_)
          clear hK K hnew hk
          have R1 : Hid (Lb (wv7.alloc (.cells #[.bool false, .int .u32 0, .int .i64 0] 24)) wv7.heap.size lk0) := R1
          obtain ⟨wv13, hwv13⟩ : ∃ v, (wv7.alloc (.cells #[.bool false, .int .u32 0, .int .i64 0] 24)) = v := ⟨_, rfl⟩
          rw [hwv13] at hHeld R1 M1 ⊢
          clear hwv13
          obtain ⟨bN, hbN⟩ : ∃ v, wv7.heap.size = v := ⟨_, rfl⟩
          rw [hbN] at R1 N1
          rw [hbN]
          clear hbN
          refine wpAnyH_ready (rs := [11]) (by kernel_rfl) (by simp) ?_
          refine (AllReadyH.cons rfl (fun K hK => ?rz14x11) AllReadyH.nil)
          case rz14x11 =>
            obtain ⟨t0, t1, t2, y0, y1, y2, ylt⟩ := Lb.lc R1.out
            go_simp
            have M1 := Hid.mk' (M1.out.set3 R1.out N1.out ⟨QA, QL, QG⟩)
            have R1 := Hid.mk' (Lb.set3 R1.out ⟨QA, QL, QG⟩)
            have hnew : Kept w3 (((wv13.setCell ⟨bN, 0, none⟩ (.bool QA)).setCell ⟨bN, 1, none⟩ (.int .u32 (QL : Int))).setCell ⟨bN, 2, none⟩ (.int .i64 QG)) none := kept_rowL hHeld (Lb.set3K wv13 bN ⟨QA, QL, QG⟩) (fun g e => by cases e; exact N1.out)
            refine hK.out _ _ hnew (fun hHeld => ?_)
            clear hK K hnew t0 t1 t2 y0 y1 y2
            obtain ⟨wv15, hwv15⟩ : ∃ v, (((wv13.setCell ⟨bN, 0, none⟩ (.bool QA)).setCell ⟨bN, 1, none⟩ (.int .u32 (QL : Int))).setCell ⟨bN, 2, none⟩ (.int .i64 QG)) = v := ⟨_, rfl⟩
            rw [hwv15] at hHeld ⊢
            replace M1 := Hid.mk' (hwv15 ▸ M1.out)
            replace R1 := Hid.mk' (hwv15 ▸ R1.out)
            clear hwv15
            refine held_take (i := 12) (v := ?rv16) rfl rfl (by kernel_rfl) (by kernel_rfl) (by kernel_rfl) (fun _ _ _ h => h) (Or.inl ⟨by rfl, ?rhy16⟩) hHeld ?rrest16
            case rhy16 => first | (intro w hSw; (try dsimp only at hSw); go_simp; done) | (intro w hSw; (try dsimp only at hSw); go_simp; with_reducible rfl)
            try simp only [List.setIfInBounds_toArray, List.set_cons_zero, List.set_cons_succ]
            refine held_take (i := 13) (v := ?rv17) rfl rfl (by kernel_rfl) (by kernel_rfl) (by kernel_rfl) (fun _ _ _ h => h) (Or.inl ⟨by rfl, ?rhy17⟩) hHeld ?rrest17
            case rhy17 => first | (intro w hSw; (try dsimp only at hSw); go_simp; done) | (intro w hSw; (try dsimp only at hSw); go_simp; with_reducible rfl)
            try simp only [List.setIfInBounds_toArray, List.set_cons_zero, List.set_cons_succ]
            refine wpAnyH_done (by kernel_rfl) ?_ _
            refine Rn.mk (b := bN) (v := v2) ?_ ⟨M1, R1, Hid.mk' hHeld⟩
            with_reducible rfl
      case rz6x10 =>
        go_simp
        have hk : Kept w0 (w0.alloc (.cells #[.bool false, .int .u32 0, .int .i64 0] 24)) none := Kept.alloc _ _ _ _ _
        have R1 := Hid.mk' (lb_alloc w0 lk0)
        have N1 : Hid (w3.heap.size ≤ w0.heap.size) := Hid.mk' hHeld.size
        have hnew : Kept w3 (w0.alloc (.cells #[.bool false, .int .u32 0, .int .i64 0] 24)) none := hHeld.tr hk
        refine hK.out _ _ hnew (fun hHeld => ?_)
        clear hK K hnew hk
        have R1 : Hid (Lb (w0.alloc (.cells #[.bool false, .int .u32 0, .int .i64 0] 24)) w0.heap.size lk0) := R1
        obtain ⟨wv18, hwv18⟩ : ∃ v, (w0.alloc (.cells #[.bool false, .int .u32 0, .int .i64 0] 24)) = v := ⟨_, rfl⟩
        rw [hwv18] at hHeld R1 ⊢
        clear hwv18
        obtain ⟨bN, hbN⟩ : ∃ v, w0.heap.size = v := ⟨_, rfl⟩
        rw [hbN] at R1 N1
        rw [hbN]
        clear hbN
        refine wpAnyH_ready (rs := [5]) (by kernel_rfl) (by simp) ?_
        refine (AllReadyH.cons rfl (fun K hK => ?rz19x5) AllReadyH.nil)
        case rz19x5 =>
          have HNX := Hid.mk' (lnext_any (c := cl) s ((HMl.out.kept hHeld)))
          unfold NxP at HNX
          rw [HQ.out, HTT.out, HEE.out] at HNX
          go_simp
          refine HNX.out.mono ?_
          rintro e wv20 ⟨v2, rfl, hM2⟩
          dsimp only
          have hk := hM2.kw
          have M1 := Hid.mk' (hM2.of hHeld)
          clear HNX hM2
          have R1 := Hid.mk' (row_kept R1.out hk (by simp))
          have hnew : Kept w3 wv20 none := hHeld.tr hk
          refine hK.out _ _ hnew (fun hHeld => ?_)
          clear hK K hnew hk
          refine held_take (i := 6) (v := ?rv21) rfl rfl (by kernel_rfl) (by kernel_rfl) (by kernel_rfl) (fun _ _ _ h => h) (Or.inl ⟨by rfl, ?rhy21⟩) hHeld ?rrest21
          case rhy21 => first | (intro w hSw; (try dsimp only at hSw); go_simp; done) | (intro w hSw; (try dsimp only at hSw); go_simp; with_reducible rfl)
          try simp only [List.setIfInBounds_toArray, List.set_cons_zero, List.set_cons_succ]
          refine held_take (i := 7) (v := ?rv22) rfl rfl (by kernel_rfl) (by kernel_rfl) (by kernel_rfl) (fun _ _ _ h => h) (Or.inl ⟨by rfl, ?rhy22⟩) hHeld ?rrest22
          case rhy22 => first | (intro w hSw; (try dsimp only at hSw); go_simp; done) | (intro w hSw; (try dsimp only at hSw); go_simp; with_reducible rfl)
          try simp only [List.setIfInBounds_toArray, List.set_cons_zero, List.set_cons_succ]
          refine held_take (i := 8) (v := ?rv23) rfl rfl (by kernel_rfl) (by kernel_rfl) (by kernel_rfl) (fun _ _ _ h => h) (Or.inl ⟨by rfl, ?rhy23⟩) hHeld ?rrest23
          case rhy23 => first | (intro w hSw; (try dsimp only at hSw); go_simp; done) | (intro w hSw; (try dsimp only at hSw); go_simp; with_reducible rfl)
          try simp only [List.setIfInBounds_toArray, List.set_cons_zero, List.set_cons_succ]
          refine held_take (i := 9) (v := ?rv24) rfl rfl (by kernel_rfl) (by kernel_rfl) (by kernel_rfl) (fun _ _ _ h => h) (Or.inl ⟨by rfl, ?rhy24⟩) hHeld ?rrest24
          case rhy24 => first | (intro w hSw; (try dsimp only at hSw); go_simp; done) | (intro w hSw; (try dsimp only at hSw); go_simp; with_reducible rfl)
          try simp only [List.setIfInBounds_toArray, List.set_cons_zero, List.set_cons_succ]
          refine wpAnyH_ready (rs := [11]) (by kernel_rfl) (by simp) ?_
          refine (AllReadyH.cons rfl (fun K hK => ?rz25x11) AllReadyH.nil)
          case rz25x11 =>
            obtain ⟨t0, t1, t2, y0, y1, y2, ylt⟩ := Lb.lc R1.out
            go_simp
            have M1 := Hid.mk' (M1.out.set3 R1.out N1.out ⟨QA, QL, QG⟩)
            have R1 := Hid.mk' (Lb.set3 R1.out ⟨QA, QL, QG⟩)
            have hnew : Kept w3 (((wv20.setCell ⟨bN, 0, none⟩ (.bool QA)).setCell ⟨bN, 1, none⟩ (.int .u32 (QL : Int))).setCell ⟨bN, 2, none⟩ (.int .i64 QG)) none := kept_rowL hHeld (Lb.set3K wv20 bN ⟨QA, QL, QG⟩) (fun g e => by cases e; exact N1.out)
            refine hK.out _ _ hnew (fun hHeld => ?_)
            clear hK K hnew t0 t1 t2 y0 y1 y2
            obtain ⟨wv26, hwv26⟩ : ∃ v, (((wv20.setCell ⟨bN, 0, none⟩ (.bool QA)).setCell ⟨bN, 1, none⟩ (.int .u32 (QL : Int))).setCell ⟨bN, 2, none⟩ (.int .i64 QG)) = v := ⟨_, rfl⟩
            rw [hwv26] at hHeld ⊢
            replace M1 := Hid.mk' (hwv26 ▸ M1.out)
            replace R1 := Hid.mk' (hwv26 ▸ R1.out)
            clear hwv26
            refine held_take (i := 12) (v := ?rv27) rfl rfl (by kernel_rfl) (by kernel_rfl) (by kernel_rfl) (fun _ _ _ h => h) (Or.inl ⟨by rfl, ?rhy27⟩) hHeld ?rrest27
            case rhy27 => first | (intro w hSw; (try dsimp only at hSw); go_simp; done) | (intro w hSw; (try dsimp only at hSw); go_simp; with_reducible rfl)
            try simp only [List.setIfInBounds_toArray, List.set_cons_zero, List.set_cons_succ]
            refine held_take (i := 13) (v := ?rv28) rfl rfl (by kernel_rfl) (by kernel_rfl) (by kernel_rfl) (fun _ _ _ h => h) (Or.inl ⟨by rfl, ?rhy28⟩) hHeld ?rrest28
            case rhy28 => first | (intro w hSw; (try dsimp only at hSw); go_simp; done) | (intro w hSw; (try dsimp only at hSw); go_simp; with_reducible rfl)
            try simp only [List.setIfInBounds_toArray, List.set_cons_zero, List.set_cons_succ]
            refine wpAnyH_done (by kernel_rfl) ?_ _
            refine Rn.mk (b := bN) (v := v2) ?_ ⟨M1, R1, Hid.mk' hHeld⟩
            with_reducible rfl
    case cont1 =>
    intro e act w5 hq5
    obtain ⟨rfl, bN, v2, rfl, M1, R1, K1⟩ := hq5.out
    have p0 := hcP w5 K1.out
    clear hq5 hcA hcB hcC hcP
    have HMT := Hid.mk' (M1.out.ms' (fun m hm => by
      by_cases h0 : nxE s l = 0
      · have := HTT.out
        unfold nxT at this
        rw [if_pos h0] at this
        rw [← this] at hm
        exact HOl.out m (ru_mem _ _ m hm)
      · have := HTT.out
        unfold nxT at this
        rw [if_neg h0] at this
        rw [← this] at hm
        cases hm))
    obtain ⟨a2, c2, hv2, hms⟩ := HMT.out
    subst hv2
    have HMT := Hid.mk' hms
    have hTm := hms.max
    clear hms
    have HX5 := Hid.mk' (HX.out.keptN K1.out)
    have HMl5 := Hid.mk' (HMl.out.kept K1.out)
    have HLQ : Hid (QL < 4294967296) := Hid.mk' (by have := nxL_last s l HX.out.lt (fun m hm => (HOl.out m hm).seq); rw [HQ.out] at this; exact this)
    clear HX HMl K1
    by_cases hE : E = 0
    case neg =>
      have HT0 : T = [] := by have := HTT.out; unfold nxT at this; rw [if_neg (by rw [HEE.out]; exact hE)] at this; exact this.symm
      subst HT0
      have he : ((E : Int) != 0) = true := by simp; omega
      go_wp2
      go_ret
      exact ⟨rfl, HX5.out.kept⟩
    subst hE
    have HRU : Hid ((ruK (ageK s) l).1 = ⟨QA, QL, QG⟩ ∧ (ruK (ageK s) l).2 = T) := Hid.mk' (by
      have h1 := HQ.out
      have h2 := HTT.out
      unfold nxL at h1
      unfold nxT at h2
      rw [if_pos HEE.out] at h1 h2
      exact ⟨h1, h2⟩)
    have HAG : Hid (QG = 0 ↔ T ≠ []) := Hid.mk' (by have := nxL_age HEE.out; rw [HQ.out, HTT.out] at this; exact this)
    go_wp2
    go_loopw [6, 7, 12, 13] (fun x y a i wr => ∃ j : Nat, j ≤ l.length ∧ x = .int .u32 ((ruK (ageK s) (l.take j)).1.last : Int) ∧ y = .bool (ruK (ageK s) (l.take j)).1.any ∧ a = .int .i64 ((ruK (ageK s) (l.take j)).2.length : Int) ∧ i = .int .i64 j ∧ Hid (Kept w5 wr none)) (fun _ _ _ i _ => l.length - (intOf i).toNat)
    case atStart => exact ⟨0, Nat.zero_le _, rfl, rfl, rfl, rfl, Hid.mk' (Kept.refl _ _)⟩
    case round =>
      obtain ⟨j, hj, rfl, rfl, rfl, rfl, HK⟩ := hrel
      have p0 := cell_kept0 p0 HK.out
      by_cases hlj : j < l.length
      case pos =>
        obtain ⟨b3, off3, m, am, cm, e3, hb3, hm, p1', p2', p3', p4'⟩ := HMl5.out.at_is hlj
        subst e3
        have p1 := (cell_kl HK.out hb3).trans p1'
        have p2 := (cell_kl HK.out hb3).trans p2'
        have p3 := (cell_kl HK.out hb3).trans p3'
        have p4 := Hid.mk' (p4'.keptL HK.out)
        have HST := Hid.mk' (ru_step (ageK s) hm)
        have HAT := Hid.mk' (ru_at (ageK s) hm)
        have hlr : (ruK (ageK s) (l.take j)).2.length ≤ 9223372036854775806 := by have := ru_len (ageK s) (l.take j); rw [List.length_take] at this; omega
        generalize ruK (ageK s) (l.take j) = P at *
        obtain ⟨⟨PA, PL, PG⟩, PT⟩ := P
        clear hm p1' p2' p3' p4'
        dsimp only at HAT hlr ⊢
        by_cases hold : oldK ⟨PA, PL, PG⟩ m
        · rw [stK_old hold] at HST
          obtain ⟨hPA, hPL⟩ := hold
          dsimp only at hPA hPL
          subst hPA
          go_wp2
          go_roundw
          case rel => exact ⟨j + 1, by omega, by rw [HST.out], by rw [HST.out], by rw [HST.out], by go_num, Hid.mk' (HK.out.tr (Kept.alloc _ _ _ _ _))⟩
          case measure => simp [intOf]; omega
        · rw [stK_new hold] at HST
          have hTi := HAT.out hold
          rw [HRU.out.2] at hTi
          clear HAT
          obtain ⟨hti, _⟩ := List.getElem?_eq_some_iff.1 hTi
          obtain ⟨b4, off4, e4, hb4, hc4⟩ := HMT.out.at_ (by omega)
          subst e4
          obtain ⟨a6, c6, q1', q2', q3', q4'⟩ := hc4 _ _ hTi
          have q1 := (cell_kl HK.out hb4).trans q1'
          have q2 := (cell_kl HK.out hb4).trans q2'
          have q3 := (cell_kl HK.out hb4).trans q3'
          clear hc4 q1' q2' q3' hTi
          obtain ⟨t, ht⟩ : ∃ t, PT.length = t := ⟨_, rfl⟩
          rw [ht] at hti q1 q2 q3 ⊢
          have hPT := Hid.mk' ht
          clear ht
          have g1 : (0 : Int) ≤ (t : Int) := by omega
          have g2 : (t : Int) < (T.length : Int) := by omega
          obtain ⟨mk, mq, mb⟩ := m
          dsimp only at *
          have hkW : Kept wr (wr.alloc (.cells (msC (mk, mq, mb) am cm) 47)) none := Kept.alloc _ _ _ _ _
          have hMb := mb_alloc wr (mk, mq, mb) am cm
          have C6 := (q4'.keptL HK.out).keptL hkW
          have C4 := p4.out.keptL hkW
          have hKW := Hid.mk' (HK.out.tr hkW)
          have q1 := cell_kept0 q1 hkW
          have q2 := cell_kept0 q2 hkW
          have q3 := cell_kept0 q3 hkW
          have d1 : ((mk : Int) != (mk : Int)) = false := by simp
          have d2 : ((mq : Int) != (mq : Int)) = false := by simp
          clear q4'
          cases PA with
          | true =>
            have hgt : ¬ mq ≤ PL := fun q => hold ⟨rfl, q⟩
            clear hold
            go_wp2
            obtain ⟨W, hW⟩ : ∃ W, wr.alloc (.cells (msC (mk, mq, mb) am cm) 47) = W := ⟨_, rfl⟩
            have hWr := hW
            rw [hW] at hMb C6 C4 hKW q1 q2 q3
            unfold msC at hW
            rw [hW]
            clear hW hWr hkW
            have t1 : ∀ w', Kept W w' none → (convert 34 9 (.slice a6 mb.length c6)).run Try.prog w' = .ok (.string (textOf mb)) w' := fun w' hk => run_text (C6.keptL hk).by_ c6
            have t2 : ∀ w', Kept W w' none → (convert 34 9 (.slice am mb.length cm)).run Try.prog w' = .ok (.string (textOf mb)) w' := fun w' hk => run_text (C4.keptL hk).by_ cm
            have x0 : ∀ w', Kept W w' none → w'.cell? ⟨wr.heap.size, 0, none⟩ = some (.int .u8 (mk : Int)) := fun w' hk => cell_kept0 (Mb.c0 hMb) hk
            have x1 : ∀ w', Kept W w' none → w'.cell? ⟨wr.heap.size, 1, none⟩ = some (.int .u32 (mq : Int)) := fun w' hk => cell_kept0 (Mb.c1 hMb) hk
            have x2 : ∀ w', Kept W w' none → w'.cell? ⟨wr.heap.size, 2, none⟩ = some (.slice am mb.length cm) := fun w' hk => cell_kept0 (Mb.c2 hMb) hk
            have y0 : ∀ w', Kept W w' none → w'.cell? ⟨b4, off4 + t * 3, none⟩ = some (.int .u8 (mk : Int)) := fun w' hk => cell_kept0 q1 hk
            have y1 : ∀ w', Kept W w' none → w'.cell? ⟨b4, off4 + t * 3 + 1, none⟩ = some (.int .u32 (mq : Int)) := fun w' hk => cell_kept0 q2 hk
            have y2 : ∀ w', Kept W w' none → w'.cell? ⟨b4, off4 + t * 3 + 2, none⟩ = some (.slice a6 mb.length c6) := fun w' hk => cell_kept0 q3 hk
            have z1 := x1 _ (kept_drl W none)
            have gd : decide ((T.length : Int) ≤ (t : Int)) = false := decide_eq_false (by omega)
            clear C6 C4 hMb q1 q2 q3
            refine Code.wp_mono (Q := Rz ?A2 W.drew) ?cont2 ?reg2
            case reg2 =>
              repeat (rename_i hh; clear hh)
              refine wp_region_held_drew (S := fun w' => Kept W w' none) (by kernel_rfl) (kept_drl _ _) (fun hHeld => ?_)
              refine held_take (i := 0) (v := ?rq30) rfl rfl (by kernel_rfl) (by kernel_rfl) (by kernel_rfl) (fun _ _ _ h => h) (Or.inl ⟨by rfl, ?rqy30⟩) hHeld ?rqr30
              case rqy30 => first | (intro w hSw; (try dsimp only at hSw); go_simp; done) | (intro w hSw; (try dsimp only at hSw); go_simp; with_reducible rfl)
              try simp only [List.setIfInBounds_toArray, List.set_cons_zero, List.set_cons_succ]
              refine held_take (i := 1) (v := ?rq32) rfl rfl (by kernel_rfl) (by kernel_rfl) (by kernel_rfl) (fun _ _ _ h => h) (Or.inl ⟨by rfl, ?rqy32⟩) hHeld ?rqr32
              case rqy32 => first | (intro w hSw; (try dsimp only at hSw); go_simp; done) | (intro w hSw; (try dsimp only at hSw); go_simp; with_reducible rfl)
              try simp only [List.setIfInBounds_toArray, List.set_cons_zero, List.set_cons_succ]
              refine held_take (i := 2) (v := ?rq34) rfl rfl (by kernel_rfl) (by kernel_rfl) (by kernel_rfl) (fun _ _ _ h => h) (Or.inl ⟨by rfl, ?rqy34⟩) hHeld ?rqr34
              case rqy34 => first | (intro w hSw; (try dsimp only at hSw); go_simp; done) | (intro w hSw; (try dsimp only at hSw); go_simp; with_reducible rfl)
              try simp only [List.setIfInBounds_toArray, List.set_cons_zero, List.set_cons_succ]
              refine held_take (i := 3) (v := .bool false) rfl rfl (by kernel_rfl) (by kernel_rfl) (by kernel_rfl) (fun _ _ _ h => h) (Or.inl ⟨by rfl, ?rhy35⟩) hHeld ?rrest35
              case rhy35 => (intro w hSw; (try dsimp only at hSw); first | (go_simp; done) | (go_simp; simp [*]; done) | (go_simp; rfl))
              try simp only [List.setIfInBounds_toArray, List.set_cons_zero, List.set_cons_succ]
              refine held_take (i := 4) (v := .bool false) rfl rfl (by kernel_rfl) (by kernel_rfl) (by kernel_rfl) (fun _ _ _ h => h) (Or.inl ⟨by rfl, ?rhy36⟩) hHeld ?rrest36
              case rhy36 => (intro w hSw; (try dsimp only at hSw); first | (go_simp; done) | (go_simp; simp [*]; done) | (go_simp; rfl))
              try simp only [List.setIfInBounds_toArray, List.set_cons_zero, List.set_cons_succ]
              refine held_take (i := 5) (v := ?rq38) rfl rfl (by kernel_rfl) (by kernel_rfl) (by kernel_rfl) (fun _ _ _ h => h) (Or.inl ⟨by rfl, ?rqy38⟩) hHeld ?rqr38
              case rqy38 => first | (intro w hSw; (try dsimp only at hSw); go_simp; done) | (intro w hSw; (try dsimp only at hSw); go_simp; with_reducible rfl)
              try simp only [List.setIfInBounds_toArray, List.set_cons_zero, List.set_cons_succ]
              refine held_take (i := 6) (v := ?rq40) rfl rfl (by kernel_rfl) (by kernel_rfl) (by kernel_rfl) (fun _ _ _ h => h) (Or.inl ⟨by rfl, ?rqy40⟩) hHeld ?rqr40
              case rqy40 => first | (intro w hSw; (try dsimp only at hSw); go_simp; done) | (intro w hSw; (try dsimp only at hSw); go_simp; with_reducible rfl)
              try simp only [List.setIfInBounds_toArray, List.set_cons_zero, List.set_cons_succ]
              refine held_take (i := 7) (v := ?rq42) rfl rfl (by kernel_rfl) (by kernel_rfl) (by kernel_rfl) (fun _ _ _ h => h) (Or.inl ⟨by rfl, ?rqy42⟩) hHeld ?rqr42
              case rqy42 => first | (intro w hSw; (try dsimp only at hSw); go_simp; done) | (intro w hSw; (try dsimp only at hSw); go_simp; with_reducible rfl)
              try simp only [List.setIfInBounds_toArray, List.set_cons_zero, List.set_cons_succ]
              refine held_take (i := 8) (v := ?rq44) rfl rfl (by kernel_rfl) (by kernel_rfl) (by kernel_rfl) (fun _ _ _ h => h) (Or.inl ⟨by rfl, ?rqy44⟩) hHeld ?rqr44
              case rqy44 => first | (intro w hSw; (try dsimp only at hSw); go_simp; done) | (intro w hSw; (try dsimp only at hSw); go_simp; with_reducible rfl)
              try simp only [List.setIfInBounds_toArray, List.set_cons_zero, List.set_cons_succ]
              refine held_take (i := 9) (v := ?rq46) rfl rfl (by kernel_rfl) (by kernel_rfl) (by kernel_rfl) (fun _ _ _ h => h) (Or.inl ⟨by rfl, ?rqy46⟩) hHeld ?rqr46
              case rqy46 => first | (intro w hSw; (try dsimp only at hSw); go_simp; done) | (intro w hSw; (try dsimp only at hSw); go_simp; with_reducible rfl)
              try simp only [List.setIfInBounds_toArray, List.set_cons_zero, List.set_cons_succ]
              refine held_take (i := 10) (v := ?rq48) rfl rfl (by kernel_rfl) (by kernel_rfl) (by kernel_rfl) (fun _ _ _ h => h) (Or.inl ⟨by rfl, ?rqy48⟩) hHeld ?rqr48
              case rqy48 => first | (intro w hSw; (try dsimp only at hSw); go_simp; done) | (intro w hSw; (try dsimp only at hSw); go_simp; with_reducible rfl)
              try simp only [List.setIfInBounds_toArray, List.set_cons_zero, List.set_cons_succ]
              refine held_take (i := 11) (v := ?rq50) rfl rfl (by kernel_rfl) (by kernel_rfl) (by kernel_rfl) (fun _ _ _ h => h) (Or.inl ⟨by rfl, ?rqy50⟩) hHeld ?rqr50
              case rqy50 => first | (intro w hSw; (try dsimp only at hSw); go_simp; done) | (intro w hSw; (try dsimp only at hSw); go_simp; with_reducible rfl)
              try simp only [List.setIfInBounds_toArray, List.set_cons_zero, List.set_cons_succ]
              refine held_take (i := 12) (v := .bool false) rfl rfl (by kernel_rfl) (by kernel_rfl) (by kernel_rfl) (fun _ _ _ h => h) (Or.inl ⟨by rfl, ?rhy51⟩) hHeld ?rrest51
              case rhy51 => (intro w hSw; (try dsimp only at hSw); first | (go_simp; done) | (go_simp; simp [*]; done) | (go_simp; rfl))
              try simp only [List.setIfInBounds_toArray, List.set_cons_zero, List.set_cons_succ]
              refine held_take (i := 13) (v := .bool false) rfl rfl (by kernel_rfl) (by kernel_rfl) (by kernel_rfl) (fun _ _ _ h => h) (Or.inl ⟨by rfl, ?rhy52⟩) hHeld ?rrest52
              case rhy52 => (intro w hSw; (try dsimp only at hSw); first | (go_simp; done) | (go_simp; simp [*]; done) | (go_simp; rfl))
              try simp only [List.setIfInBounds_toArray, List.set_cons_zero, List.set_cons_succ]
              refine held_take (i := 14) (v := .bool false) rfl rfl (by kernel_rfl) (by kernel_rfl) (by kernel_rfl) (fun _ _ _ h => h) (Or.inl ⟨by rfl, ?rhy53⟩) hHeld ?rrest53
              case rhy53 => (intro w hSw; (try dsimp only at hSw); first | (go_simp; done) | (go_simp; simp [*]; done) | (go_simp; rfl))
              try simp only [List.setIfInBounds_toArray, List.set_cons_zero, List.set_cons_succ]
              refine held_take (i := 15) (v := ?rq55) rfl rfl (by kernel_rfl) (by kernel_rfl) (by kernel_rfl) (fun _ _ _ h => h) (Or.inl ⟨by rfl, ?rqy55⟩) hHeld ?rqr55
              case rqy55 => first | (intro w hSw; (try dsimp only at hSw); go_simp; done) | (intro w hSw; (try dsimp only at hSw); go_simp; with_reducible rfl)
              try simp only [List.setIfInBounds_toArray, List.set_cons_zero, List.set_cons_succ]
              refine held_take (i := 16) (v := ?rq57) rfl rfl (by kernel_rfl) (by kernel_rfl) (by kernel_rfl) (fun _ _ _ h => h) (Or.inl ⟨by rfl, ?rqy57⟩) hHeld ?rqr57
              case rqy57 => first | (intro w hSw; (try dsimp only at hSw); go_simp; done) | (intro w hSw; (try dsimp only at hSw); go_simp; with_reducible rfl)
              try simp only [List.setIfInBounds_toArray, List.set_cons_zero, List.set_cons_succ]
              refine held_take (i := 17) (v := ?rq59) rfl rfl (by kernel_rfl) (by kernel_rfl) (by kernel_rfl) (fun _ _ _ h => h) (Or.inl ⟨by rfl, ?rqy59⟩) hHeld ?rqr59
              case rqy59 => first | (intro w hSw; (try dsimp only at hSw); go_simp; done) | (intro w hSw; (try dsimp only at hSw); go_simp; with_reducible rfl)
              try simp only [List.setIfInBounds_toArray, List.set_cons_zero, List.set_cons_succ]
              refine held_take (i := 18) (v := ?rq61) rfl rfl (by kernel_rfl) (by kernel_rfl) (by kernel_rfl) (fun _ _ _ h => h) (Or.inl ⟨by rfl, ?rqy61⟩) hHeld ?rqr61
              case rqy61 => first | (intro w hSw; (try dsimp only at hSw); go_simp; done) | (intro w hSw; (try dsimp only at hSw); go_simp; with_reducible rfl)
              try simp only [List.setIfInBounds_toArray, List.set_cons_zero, List.set_cons_succ]
              refine held_take (i := 19) (v := ?rq63) rfl rfl (by kernel_rfl) (by kernel_rfl) (by kernel_rfl) (fun _ _ _ h => h) (Or.inl ⟨by rfl, ?rqy63⟩) hHeld ?rqr63
              case rqy63 => first | (intro w hSw; (try dsimp only at hSw); go_simp; done) | (intro w hSw; (try dsimp only at hSw); go_simp; with_reducible rfl)
              try simp only [List.setIfInBounds_toArray, List.set_cons_zero, List.set_cons_succ]
              refine held_take (i := 20) (v := ?rq65) rfl rfl (by kernel_rfl) (by kernel_rfl) (by kernel_rfl) (fun _ _ _ h => h) (Or.inl ⟨by rfl, ?rqy65⟩) hHeld ?rqr65
              case rqy65 => first | (intro w hSw; (try dsimp only at hSw); go_simp; done) | (intro w hSw; (try dsimp only at hSw); go_simp; with_reducible rfl)
              try simp only [List.setIfInBounds_toArray, List.set_cons_zero, List.set_cons_succ]
              refine held_take (i := 21) (v := ?rq67) rfl rfl (by kernel_rfl) (by kernel_rfl) (by kernel_rfl) (fun _ _ _ h => h) (Or.inl ⟨by rfl, ?rqy67⟩) hHeld ?rqr67
              case rqy67 => first | (intro w hSw; (try dsimp only at hSw); go_simp; done) | (intro w hSw; (try dsimp only at hSw); go_simp; with_reducible rfl)
              try simp only [List.setIfInBounds_toArray, List.set_cons_zero, List.set_cons_succ]
              refine held_take (i := 22) (v := .bool false) rfl rfl (by kernel_rfl) (by kernel_rfl) (by kernel_rfl) (fun _ _ _ h => h) (Or.inl ⟨by rfl, ?rhy68⟩) hHeld ?rrest68
              case rhy68 => (intro w hSw; (try dsimp only at hSw); first | (go_simp; done) | (go_simp; simp [*]; done) | (go_simp; rfl))
              try simp only [List.setIfInBounds_toArray, List.set_cons_zero, List.set_cons_succ]
              refine held_take (i := 23) (v := .bool false) rfl rfl (by kernel_rfl) (by kernel_rfl) (by kernel_rfl) (fun _ _ _ h => h) (Or.inl ⟨by rfl, ?rhy69⟩) hHeld ?rrest69
              case rhy69 => (intro w hSw; (try dsimp only at hSw); first | (go_simp; done) | (go_simp; simp [*]; done) | (go_simp; rfl))
              try simp only [List.setIfInBounds_toArray, List.set_cons_zero, List.set_cons_succ]
              refine held_take (i := 24) (v := .bool false) rfl rfl (by kernel_rfl) (by kernel_rfl) (by kernel_rfl) (fun _ _ _ h => h) (Or.inl ⟨by rfl, ?rhy70⟩) hHeld ?rrest70
              case rhy70 => (intro w hSw; (try dsimp only at hSw); first | (go_simp; done) | (go_simp; simp [*]; done) | (go_simp; rfl))
              try simp only [List.setIfInBounds_toArray, List.set_cons_zero, List.set_cons_succ]
              refine held_take (i := 25) (v := ?rq72) rfl rfl (by kernel_rfl) (by kernel_rfl) (by kernel_rfl) (fun _ _ _ h => h) (Or.inl ⟨by rfl, ?rqy72⟩) hHeld ?rqr72
              case rqy72 => first | (intro w hSw; (try dsimp only at hSw); go_simp; done) | (intro w hSw; (try dsimp only at hSw); go_simp; with_reducible rfl)
              try simp only [List.setIfInBounds_toArray, List.set_cons_zero, List.set_cons_succ]
              refine held_take (i := 26) (v := ?rq74) rfl rfl (by kernel_rfl) (by kernel_rfl) (by kernel_rfl) (fun _ _ _ h => h) (Or.inl ⟨by rfl, ?rqy74⟩) hHeld ?rqr74
              case rqy74 => first | (intro w hSw; (try dsimp only at hSw); go_simp; done) | (intro w hSw; (try dsimp only at hSw); go_simp; with_reducible rfl)
              try simp only [List.setIfInBounds_toArray, List.set_cons_zero, List.set_cons_succ]
              refine held_take (i := 27) (v := ?rq76) rfl rfl (by kernel_rfl) (by kernel_rfl) (by kernel_rfl) (fun _ _ _ h => h) (Or.inl ⟨by rfl, ?rqy76⟩) hHeld ?rqr76
              case rqy76 => first | (intro w hSw; (try dsimp only at hSw); go_simp; done) | (intro w hSw; (try dsimp only at hSw); go_simp; with_reducible rfl)
              try simp only [List.setIfInBounds_toArray, List.set_cons_zero, List.set_cons_succ]
              refine held_take (i := 28) (v := ?rq78) rfl rfl (by kernel_rfl) (by kernel_rfl) (by kernel_rfl) (fun _ _ _ h => h) (Or.inl ⟨by rfl, ?rqy78⟩) hHeld ?rqr78
              case rqy78 => first | (intro w hSw; (try dsimp only at hSw); go_simp; done) | (intro w hSw; (try dsimp only at hSw); go_simp; with_reducible rfl)
              try simp only [List.setIfInBounds_toArray, List.set_cons_zero, List.set_cons_succ]
              refine held_take (i := 29) (v := ?rq80) rfl rfl (by kernel_rfl) (by kernel_rfl) (by kernel_rfl) (fun _ _ _ h => h) (Or.inl ⟨by rfl, ?rqy80⟩) hHeld ?rqr80
              case rqy80 => first | (intro w hSw; (try dsimp only at hSw); go_simp; done) | (intro w hSw; (try dsimp only at hSw); go_simp; with_reducible rfl)
              try simp only [List.setIfInBounds_toArray, List.set_cons_zero, List.set_cons_succ]
              refine held_take (i := 30) (v := ?rq82) rfl rfl (by kernel_rfl) (by kernel_rfl) (by kernel_rfl) (fun _ _ _ h => h) (Or.inl ⟨by rfl, ?rqy82⟩) hHeld ?rqr82
              case rqy82 => first | (intro w hSw; (try dsimp only at hSw); go_simp; done) | (intro w hSw; (try dsimp only at hSw); go_simp; with_reducible rfl)
              try simp only [List.setIfInBounds_toArray, List.set_cons_zero, List.set_cons_succ]
              refine held_take (i := 31) (v := ?rq84) rfl rfl (by kernel_rfl) (by kernel_rfl) (by kernel_rfl) (fun _ _ _ h => h) (Or.inl ⟨by rfl, ?rqy84⟩) hHeld ?rqr84
              case rqy84 => first | (intro w hSw; (try dsimp only at hSw); go_simp; done) | (intro w hSw; (try dsimp only at hSw); go_simp; with_reducible rfl)
              try simp only [List.setIfInBounds_toArray, List.set_cons_zero, List.set_cons_succ]
              refine held_take (i := 32) (v := ?rq86) rfl rfl (by kernel_rfl) (by kernel_rfl) (by kernel_rfl) (fun _ _ _ h => h) (Or.inl ⟨by rfl, ?rqy86⟩) hHeld ?rqr86
              case rqy86 => first | (intro w hSw; (try dsimp only at hSw); go_simp; done) | (intro w hSw; (try dsimp only at hSw); go_simp; with_reducible rfl)
              try simp only [List.setIfInBounds_toArray, List.set_cons_zero, List.set_cons_succ]
              refine held_take (i := 33) (v := ?rq88) rfl rfl (by kernel_rfl) (by kernel_rfl) (by kernel_rfl) (fun _ _ _ h => h) (Or.inl ⟨by rfl, ?rqy88⟩) hHeld ?rqr88
              case rqy88 => first | (intro w hSw; (try dsimp only at hSw); go_simp; done) | (intro w hSw; (try dsimp only at hSw); go_simp; with_reducible rfl)
              try simp only [List.setIfInBounds_toArray, List.set_cons_zero, List.set_cons_succ]
              refine held_take (i := 34) (v := .bool false) rfl rfl (by kernel_rfl) (by kernel_rfl) (by kernel_rfl) (fun _ _ _ h => h) (Or.inl ⟨by rfl, ?rhy89⟩) hHeld ?rrest89
              case rhy89 => (intro w hSw; (try dsimp only at hSw); first | (go_simp; done) | (go_simp; simp [*]; done) | (go_simp; rfl))
              try simp only [List.setIfInBounds_toArray, List.set_cons_zero, List.set_cons_succ]
              refine held_take (i := 35) (v := .bool false) rfl rfl (by kernel_rfl) (by kernel_rfl) (by kernel_rfl) (fun _ _ _ h => h) (Or.inl ⟨by rfl, ?rhy90⟩) hHeld ?rrest90
              case rhy90 => (intro w hSw; (try dsimp only at hSw); first | (go_simp; done) | (go_simp; simp [*]; done) | (go_simp; rfl))
              try simp only [List.setIfInBounds_toArray, List.set_cons_zero, List.set_cons_succ]
              refine wpAnyH_done (by kernel_rfl) ?_ _
              refine Rz.mk ?_
              with_reducible rfl
            case cont2 =>
            intro e act wz hqz
            obtain ⟨rfl, rfl, rfl⟩ := hqz.out
            go_wp2
            go_roundw
            case rel => exact ⟨j + 1, by omega, by rw [HST.out], by rw [HST.out], by rw [HST.out]; simp [hPT.out], by go_num, Hid.mk' (hKW.out.tr (kept_drl _ _))⟩
            case measure => simp [intOf]; omega
          | false =>
            clear hold
            go_wp2
            obtain ⟨W, hW⟩ : ∃ W, wr.alloc (.cells (msC (mk, mq, mb) am cm) 47) = W := ⟨_, rfl⟩
            have hWr := hW
            rw [hW] at hMb C6 C4 hKW q1 q2 q3
            unfold msC at hW
            rw [hW]
            clear hW hWr hkW
            have t1 : ∀ w', Kept W w' none → (convert 34 9 (.slice a6 mb.length c6)).run Try.prog w' = .ok (.string (textOf mb)) w' := fun w' hk => run_text (C6.keptL hk).by_ c6
            have t2 : ∀ w', Kept W w' none → (convert 34 9 (.slice am mb.length cm)).run Try.prog w' = .ok (.string (textOf mb)) w' := fun w' hk => run_text (C4.keptL hk).by_ cm
            have x0 : ∀ w', Kept W w' none → w'.cell? ⟨wr.heap.size, 0, none⟩ = some (.int .u8 (mk : Int)) := fun w' hk => cell_kept0 (Mb.c0 hMb) hk
            have x1 : ∀ w', Kept W w' none → w'.cell? ⟨wr.heap.size, 1, none⟩ = some (.int .u32 (mq : Int)) := fun w' hk => cell_kept0 (Mb.c1 hMb) hk
            have x2 : ∀ w', Kept W w' none → w'.cell? ⟨wr.heap.size, 2, none⟩ = some (.slice am mb.length cm) := fun w' hk => cell_kept0 (Mb.c2 hMb) hk
            have y0 : ∀ w', Kept W w' none → w'.cell? ⟨b4, off4 + t * 3, none⟩ = some (.int .u8 (mk : Int)) := fun w' hk => cell_kept0 q1 hk
            have y1 : ∀ w', Kept W w' none → w'.cell? ⟨b4, off4 + t * 3 + 1, none⟩ = some (.int .u32 (mq : Int)) := fun w' hk => cell_kept0 q2 hk
            have y2 : ∀ w', Kept W w' none → w'.cell? ⟨b4, off4 + t * 3 + 2, none⟩ = some (.slice a6 mb.length c6) := fun w' hk => cell_kept0 q3 hk
            have z1 := x1 _ (kept_drl W none)
            have gd : decide ((T.length : Int) ≤ (t : Int)) = false := decide_eq_false (by omega)
            clear C6 C4 hMb q1 q2 q3
            refine Code.wp_mono (Q := Rz ?A3 W.drew) ?cont3 ?reg3
            case reg3 =>
              repeat (rename_i hh; clear hh)
              refine wp_region_held_drew (S := fun w' => Kept W w' none) (by kernel_rfl) (kept_drl _ _) (fun hHeld => ?_)
              refine held_take (i := 0) (v := ?rq92) rfl rfl (by kernel_rfl) (by kernel_rfl) (by kernel_rfl) (fun _ _ _ h => h) (Or.inl ⟨by rfl, ?rqy92⟩) hHeld ?rqr92
              case rqy92 => first | (intro w hSw; (try dsimp only at hSw); go_simp; done) | (intro w hSw; (try dsimp only at hSw); go_simp; with_reducible rfl)
              try simp only [List.setIfInBounds_toArray, List.set_cons_zero, List.set_cons_succ]
              refine held_take (i := 1) (v := ?rq94) rfl rfl (by kernel_rfl) (by kernel_rfl) (by kernel_rfl) (fun _ _ _ h => h) (Or.inl ⟨by rfl, ?rqy94⟩) hHeld ?rqr94
              case rqy94 => first | (intro w hSw; (try dsimp only at hSw); go_simp; done) | (intro w hSw; (try dsimp only at hSw); go_simp; with_reducible rfl)
              try simp only [List.setIfInBounds_toArray, List.set_cons_zero, List.set_cons_succ]
              refine held_take (i := 2) (v := ?rq96) rfl rfl (by kernel_rfl) (by kernel_rfl) (by kernel_rfl) (fun _ _ _ h => h) (Or.inl ⟨by rfl, ?rqy96⟩) hHeld ?rqr96
              case rqy96 => first | (intro w hSw; (try dsimp only at hSw); go_simp; done) | (intro w hSw; (try dsimp only at hSw); go_simp; with_reducible rfl)
              try simp only [List.setIfInBounds_toArray, List.set_cons_zero, List.set_cons_succ]
              refine held_take (i := 3) (v := .bool false) rfl rfl (by kernel_rfl) (by kernel_rfl) (by kernel_rfl) (fun _ _ _ h => h) (Or.inl ⟨by rfl, ?rhy97⟩) hHeld ?rrest97
              case rhy97 => (intro w hSw; (try dsimp only at hSw); first | (go_simp; done) | (go_simp; simp [*]; done) | (go_simp; rfl))
              try simp only [List.setIfInBounds_toArray, List.set_cons_zero, List.set_cons_succ]
              refine held_take (i := 4) (v := .bool false) rfl rfl (by kernel_rfl) (by kernel_rfl) (by kernel_rfl) (fun _ _ _ h => h) (Or.inl ⟨by rfl, ?rhy98⟩) hHeld ?rrest98
              case rhy98 => (intro w hSw; (try dsimp only at hSw); first | (go_simp; done) | (go_simp; simp [*]; done) | (go_simp; rfl))
              try simp only [List.setIfInBounds_toArray, List.set_cons_zero, List.set_cons_succ]
              refine held_take (i := 5) (v := ?rq100) rfl rfl (by kernel_rfl) (by kernel_rfl) (by kernel_rfl) (fun _ _ _ h => h) (Or.inl ⟨by rfl, ?rqy100⟩) hHeld ?rqr100
              case rqy100 => first | (intro w hSw; (try dsimp only at hSw); go_simp; done) | (intro w hSw; (try dsimp only at hSw); go_simp; with_reducible rfl)
              try simp only [List.setIfInBounds_toArray, List.set_cons_zero, List.set_cons_succ]
              refine held_take (i := 6) (v := ?rq102) rfl rfl (by kernel_rfl) (by kernel_rfl) (by kernel_rfl) (fun _ _ _ h => h) (Or.inl ⟨by rfl, ?rqy102⟩) hHeld ?rqr102
              case rqy102 => first | (intro w hSw; (try dsimp only at hSw); go_simp; done) | (intro w hSw; (try dsimp only at hSw); go_simp; with_reducible rfl)
              try simp only [List.setIfInBounds_toArray, List.set_cons_zero, List.set_cons_succ]
              refine held_take (i := 7) (v := ?rq104) rfl rfl (by kernel_rfl) (by kernel_rfl) (by kernel_rfl) (fun _ _ _ h => h) (Or.inl ⟨by rfl, ?rqy104⟩) hHeld ?rqr104
              case rqy104 => first | (intro w hSw; (try dsimp only at hSw); go_simp; done) | (intro w hSw; (try dsimp only at hSw); go_simp; with_reducible rfl)
              try simp only [List.setIfInBounds_toArray, List.set_cons_zero, List.set_cons_succ]
              refine held_take (i := 8) (v := ?rq106) rfl rfl (by kernel_rfl) (by kernel_rfl) (by kernel_rfl) (fun _ _ _ h => h) (Or.inl ⟨by rfl, ?rqy106⟩) hHeld ?rqr106
              case rqy106 => first | (intro w hSw; (try dsimp only at hSw); go_simp; done) | (intro w hSw; (try dsimp only at hSw); go_simp; with_reducible rfl)
              try simp only [List.setIfInBounds_toArray, List.set_cons_zero, List.set_cons_succ]
              refine held_take (i := 9) (v := ?rq108) rfl rfl (by kernel_rfl) (by kernel_rfl) (by kernel_rfl) (fun _ _ _ h => h) (Or.inl ⟨by rfl, ?rqy108⟩) hHeld ?rqr108
              case rqy108 => first | (intro w hSw; (try dsimp only at hSw); go_simp; done) | (intro w hSw; (try dsimp only at hSw); go_simp; with_reducible rfl)
              try simp only [List.setIfInBounds_toArray, List.set_cons_zero, List.set_cons_succ]
              refine held_take (i := 10) (v := ?rq110) rfl rfl (by kernel_rfl) (by kernel_rfl) (by kernel_rfl) (fun _ _ _ h => h) (Or.inl ⟨by rfl, ?rqy110⟩) hHeld ?rqr110
              case rqy110 => first | (intro w hSw; (try dsimp only at hSw); go_simp; done) | (intro w hSw; (try dsimp only at hSw); go_simp; with_reducible rfl)
              try simp only [List.setIfInBounds_toArray, List.set_cons_zero, List.set_cons_succ]
              refine held_take (i := 11) (v := ?rq112) rfl rfl (by kernel_rfl) (by kernel_rfl) (by kernel_rfl) (fun _ _ _ h => h) (Or.inl ⟨by rfl, ?rqy112⟩) hHeld ?rqr112
              case rqy112 => first | (intro w hSw; (try dsimp only at hSw); go_simp; done) | (intro w hSw; (try dsimp only at hSw); go_simp; with_reducible rfl)
              try simp only [List.setIfInBounds_toArray, List.set_cons_zero, List.set_cons_succ]
              refine held_take (i := 12) (v := .bool false) rfl rfl (by kernel_rfl) (by kernel_rfl) (by kernel_rfl) (fun _ _ _ h => h) (Or.inl ⟨by rfl, ?rhy113⟩) hHeld ?rrest113
              case rhy113 => (intro w hSw; (try dsimp only at hSw); first | (go_simp; done) | (go_simp; simp [*]; done) | (go_simp; rfl))
              try simp only [List.setIfInBounds_toArray, List.set_cons_zero, List.set_cons_succ]
              refine held_take (i := 13) (v := .bool false) rfl rfl (by kernel_rfl) (by kernel_rfl) (by kernel_rfl) (fun _ _ _ h => h) (Or.inl ⟨by rfl, ?rhy114⟩) hHeld ?rrest114
              case rhy114 => (intro w hSw; (try dsimp only at hSw); first | (go_simp; done) | (go_simp; simp [*]; done) | (go_simp; rfl))
              try simp only [List.setIfInBounds_toArray, List.set_cons_zero, List.set_cons_succ]
              refine held_take (i := 14) (v := .bool false) rfl rfl (by kernel_rfl) (by kernel_rfl) (by kernel_rfl) (fun _ _ _ h => h) (Or.inl ⟨by rfl, ?rhy115⟩) hHeld ?rrest115
              case rhy115 => (intro w hSw; (try dsimp only at hSw); first | (go_simp; done) | (go_simp; simp [*]; done) | (go_simp; rfl))
              try simp only [List.setIfInBounds_toArray, List.set_cons_zero, List.set_cons_succ]
              refine held_take (i := 15) (v := ?rq117) rfl rfl (by kernel_rfl) (by kernel_rfl) (by kernel_rfl) (fun _ _ _ h => h) (Or.inl ⟨by rfl, ?rqy117⟩) hHeld ?rqr117
              case rqy117 => first | (intro w hSw; (try dsimp only at hSw); go_simp; done) | (intro w hSw; (try dsimp only at hSw); go_simp; with_reducible rfl)
              try simp only [List.setIfInBounds_toArray, List.set_cons_zero, List.set_cons_succ]
              refine held_take (i := 16) (v := ?rq119) rfl rfl (by kernel_rfl) (by kernel_rfl) (by kernel_rfl) (fun _ _ _ h => h) (Or.inl ⟨by rfl, ?rqy119⟩) hHeld ?rqr119
              case rqy119 => first | (intro w hSw; (try dsimp only at hSw); go_simp; done) | (intro w hSw; (try dsimp only at hSw); go_simp; with_reducible rfl)
              try simp only [List.setIfInBounds_toArray, List.set_cons_zero, List.set_cons_succ]
              refine held_take (i := 17) (v := ?rq121) rfl rfl (by kernel_rfl) (by kernel_rfl) (by kernel_rfl) (fun _ _ _ h => h) (Or.inl ⟨by rfl, ?rqy121⟩) hHeld ?rqr121
              case rqy121 => first | (intro w hSw; (try dsimp only at hSw); go_simp; done) | (intro w hSw; (try dsimp only at hSw); go_simp; with_reducible rfl)
              try simp only [List.setIfInBounds_toArray, List.set_cons_zero, List.set_cons_succ]
              refine held_take (i := 18) (v := ?rq123) rfl rfl (by kernel_rfl) (by kernel_rfl) (by kernel_rfl) (fun _ _ _ h => h) (Or.inl ⟨by rfl, ?rqy123⟩) hHeld ?rqr123
              case rqy123 => first | (intro w hSw; (try dsimp only at hSw); go_simp; done) | (intro w hSw; (try dsimp only at hSw); go_simp; with_reducible rfl)
              try simp only [List.setIfInBounds_toArray, List.set_cons_zero, List.set_cons_succ]
              refine held_take (i := 19) (v := ?rq125) rfl rfl (by kernel_rfl) (by kernel_rfl) (by kernel_rfl) (fun _ _ _ h => h) (Or.inl ⟨by rfl, ?rqy125⟩) hHeld ?rqr125
              case rqy125 => first | (intro w hSw; (try dsimp only at hSw); go_simp; done) | (intro w hSw; (try dsimp only at hSw); go_simp; with_reducible rfl)
              try simp only [List.setIfInBounds_toArray, List.set_cons_zero, List.set_cons_succ]
              refine held_take (i := 20) (v := ?rq127) rfl rfl (by kernel_rfl) (by kernel_rfl) (by kernel_rfl) (fun _ _ _ h => h) (Or.inl ⟨by rfl, ?rqy127⟩) hHeld ?rqr127
              case rqy127 => first | (intro w hSw; (try dsimp only at hSw); go_simp; done) | (intro w hSw; (try dsimp only at hSw); go_simp; with_reducible rfl)
              try simp only [List.setIfInBounds_toArray, List.set_cons_zero, List.set_cons_succ]
              refine held_take (i := 21) (v := ?rq129) rfl rfl (by kernel_rfl) (by kernel_rfl) (by kernel_rfl) (fun _ _ _ h => h) (Or.inl ⟨by rfl, ?rqy129⟩) hHeld ?rqr129
              case rqy129 => first | (intro w hSw; (try dsimp only at hSw); go_simp; done) | (intro w hSw; (try dsimp only at hSw); go_simp; with_reducible rfl)
              try simp only [List.setIfInBounds_toArray, List.set_cons_zero, List.set_cons_succ]
              refine held_take (i := 22) (v := .bool false) rfl rfl (by kernel_rfl) (by kernel_rfl) (by kernel_rfl) (fun _ _ _ h => h) (Or.inl ⟨by rfl, ?rhy130⟩) hHeld ?rrest130
              case rhy130 => (intro w hSw; (try dsimp only at hSw); first | (go_simp; done) | (go_simp; simp [*]; done) | (go_simp; rfl))
              try simp only [List.setIfInBounds_toArray, List.set_cons_zero, List.set_cons_succ]
              refine held_take (i := 23) (v := .bool false) rfl rfl (by kernel_rfl) (by kernel_rfl) (by kernel_rfl) (fun _ _ _ h => h) (Or.inl ⟨by rfl, ?rhy131⟩) hHeld ?rrest131
              case rhy131 => (intro w hSw; (try dsimp only at hSw); first | (go_simp; done) | (go_simp; simp [*]; done) | (go_simp; rfl))
              try simp only [List.setIfInBounds_toArray, List.set_cons_zero, List.set_cons_succ]
              refine held_take (i := 24) (v := .bool false) rfl rfl (by kernel_rfl) (by kernel_rfl) (by kernel_rfl) (fun _ _ _ h => h) (Or.inl ⟨by rfl, ?rhy132⟩) hHeld ?rrest132
              case rhy132 => (intro w hSw; (try dsimp only at hSw); first | (go_simp; done) | (go_simp; simp [*]; done) | (go_simp; rfl))
              try simp only [List.setIfInBounds_toArray, List.set_cons_zero, List.set_cons_succ]
              refine held_take (i := 25) (v := ?rq134) rfl rfl (by kernel_rfl) (by kernel_rfl) (by kernel_rfl) (fun _ _ _ h => h) (Or.inl ⟨by rfl, ?rqy134⟩) hHeld ?rqr134
              case rqy134 => first | (intro w hSw; (try dsimp only at hSw); go_simp; done) | (intro w hSw; (try dsimp only at hSw); go_simp; with_reducible rfl)
              try simp only [List.setIfInBounds_toArray, List.set_cons_zero, List.set_cons_succ]
              refine held_take (i := 26) (v := ?rq136) rfl rfl (by kernel_rfl) (by kernel_rfl) (by kernel_rfl) (fun _ _ _ h => h) (Or.inl ⟨by rfl, ?rqy136⟩) hHeld ?rqr136
              case rqy136 => first | (intro w hSw; (try dsimp only at hSw); go_simp; done) | (intro w hSw; (try dsimp only at hSw); go_simp; with_reducible rfl)
              try simp only [List.setIfInBounds_toArray, List.set_cons_zero, List.set_cons_succ]
              refine held_take (i := 27) (v := ?rq138) rfl rfl (by kernel_rfl) (by kernel_rfl) (by kernel_rfl) (fun _ _ _ h => h) (Or.inl ⟨by rfl, ?rqy138⟩) hHeld ?rqr138
              case rqy138 => first | (intro w hSw; (try dsimp only at hSw); go_simp; done) | (intro w hSw; (try dsimp only at hSw); go_simp; with_reducible rfl)
              try simp only [List.setIfInBounds_toArray, List.set_cons_zero, List.set_cons_succ]
              refine held_take (i := 28) (v := ?rq140) rfl rfl (by kernel_rfl) (by kernel_rfl) (by kernel_rfl) (fun _ _ _ h => h) (Or.inl ⟨by rfl, ?rqy140⟩) hHeld ?rqr140
              case rqy140 => first | (intro w hSw; (try dsimp only at hSw); go_simp; done) | (intro w hSw; (try dsimp only at hSw); go_simp; with_reducible rfl)
              try simp only [List.setIfInBounds_toArray, List.set_cons_zero, List.set_cons_succ]
              refine held_take (i := 29) (v := ?rq142) rfl rfl (by kernel_rfl) (by kernel_rfl) (by kernel_rfl) (fun _ _ _ h => h) (Or.inl ⟨by rfl, ?rqy142⟩) hHeld ?rqr142
              case rqy142 => first | (intro w hSw; (try dsimp only at hSw); go_simp; done) | (intro w hSw; (try dsimp only at hSw); go_simp; with_reducible rfl)
              try simp only [List.setIfInBounds_toArray, List.set_cons_zero, List.set_cons_succ]
              refine held_take (i := 30) (v := ?rq144) rfl rfl (by kernel_rfl) (by kernel_rfl) (by kernel_rfl) (fun _ _ _ h => h) (Or.inl ⟨by rfl, ?rqy144⟩) hHeld ?rqr144
              case rqy144 => first | (intro w hSw; (try dsimp only at hSw); go_simp; done) | (intro w hSw; (try dsimp only at hSw); go_simp; with_reducible rfl)
              try simp only [List.setIfInBounds_toArray, List.set_cons_zero, List.set_cons_succ]
              refine held_take (i := 31) (v := ?rq146) rfl rfl (by kernel_rfl) (by kernel_rfl) (by kernel_rfl) (fun _ _ _ h => h) (Or.inl ⟨by rfl, ?rqy146⟩) hHeld ?rqr146
              case rqy146 => first | (intro w hSw; (try dsimp only at hSw); go_simp; done) | (intro w hSw; (try dsimp only at hSw); go_simp; with_reducible rfl)
              try simp only [List.setIfInBounds_toArray, List.set_cons_zero, List.set_cons_succ]
              refine held_take (i := 32) (v := ?rq148) rfl rfl (by kernel_rfl) (by kernel_rfl) (by kernel_rfl) (fun _ _ _ h => h) (Or.inl ⟨by rfl, ?rqy148⟩) hHeld ?rqr148
              case rqy148 => first | (intro w hSw; (try dsimp only at hSw); go_simp; done) | (intro w hSw; (try dsimp only at hSw); go_simp; with_reducible rfl)
              try simp only [List.setIfInBounds_toArray, List.set_cons_zero, List.set_cons_succ]
              refine held_take (i := 33) (v := ?rq150) rfl rfl (by kernel_rfl) (by kernel_rfl) (by kernel_rfl) (fun _ _ _ h => h) (Or.inl ⟨by rfl, ?rqy150⟩) hHeld ?rqr150
              case rqy150 => first | (intro w hSw; (try dsimp only at hSw); go_simp; done) | (intro w hSw; (try dsimp only at hSw); go_simp; with_reducible rfl)
              try simp only [List.setIfInBounds_toArray, List.set_cons_zero, List.set_cons_succ]
              refine held_take (i := 34) (v := .bool false) rfl rfl (by kernel_rfl) (by kernel_rfl) (by kernel_rfl) (fun _ _ _ h => h) (Or.inl ⟨by rfl, ?rhy151⟩) hHeld ?rrest151
              case rhy151 => (intro w hSw; (try dsimp only at hSw); first | (go_simp; done) | (go_simp; simp [*]; done) | (go_simp; rfl))
              try simp only [List.setIfInBounds_toArray, List.set_cons_zero, List.set_cons_succ]
              refine held_take (i := 35) (v := .bool false) rfl rfl (by kernel_rfl) (by kernel_rfl) (by kernel_rfl) (fun _ _ _ h => h) (Or.inl ⟨by rfl, ?rhy152⟩) hHeld ?rrest152
              case rhy152 => (intro w hSw; (try dsimp only at hSw); first | (go_simp; done) | (go_simp; simp [*]; done) | (go_simp; rfl))
              try simp only [List.setIfInBounds_toArray, List.set_cons_zero, List.set_cons_succ]
              refine wpAnyH_done (by kernel_rfl) ?_ _
              refine Rz.mk ?_
              with_reducible rfl
            case cont3 =>
            intro e act wz hqz
            obtain ⟨rfl, rfl, rfl⟩ := hqz.out
            go_wp2
            go_roundw
            case rel => exact ⟨j + 1, by omega, by rw [HST.out], by rw [HST.out], by rw [HST.out]; simp [hPT.out], by go_num, Hid.mk' (hKW.out.tr (kept_drl _ _))⟩
            case measure => simp [intOf]; omega
      case neg =>
        have ej : j = l.length := by omega
        subst ej
        rw [List.take_length]
        rw [HRU.out.1, HRU.out.2]
        have hR5 := HX5.out.keptN HK.out
        obtain ⟨c0, c1, c2, f0, f1, f2, lt⟩ := Lb.lc hR5.lb
        obtain ⟨e0, e1, e2, g0, g1, g2, lt2⟩ := Lb.lc (row_kept R1.out HK.out (by simp))
        dsimp only at e0 e1 e2
        have HF : Hid (Ris w (((wr.setCell ⟨w.heap.size, 0, none⟩ (.bool QA)).setCell ⟨w.heap.size, 1, none⟩ (.int .u32 (QL : Int))).setCell ⟨w.heap.size, 2, none⟩ (.int .i64 QG)) ⟨QA, QL, QG⟩) := Hid.mk' ⟨Lb.set3 hR5.lb ⟨QA, QL, QG⟩, kept_rowL hR5.kept (Lb.set3K wr w.heap.size ⟨QA, QL, QG⟩) (fun g e => by cases e; exact Nat.le_refl _), HLQ.out⟩
        have d3 : (((T.length : Nat) : Int) != ((T.length : Nat) : Int)) = false := by simp
        have d4 : ((QL : Int) != (QL : Int)) = false := by simp
        have hTe : (QG = 0 ∧ 0 < T.length) ∨ (QG ≠ 0 ∧ T.length = 0) := by
          by_cases hT0 : T = []
          · exact .inr ⟨fun q => HAG.out.1 q hT0, by rw [hT0]; rfl⟩
          · exact .inl ⟨HAG.out.2 hT0, List.length_pos_iff.2 hT0⟩
        generalize T.length = tn at *
        clear hR5
        rcases hTe with ⟨hq0, ht0⟩ | ⟨hq0, ht0⟩
        · subst hq0
          have ht1 : (0 : Int) < (tn : Int) := by omega
          cases QA with
          | true =>
            go_wp2
            go_roundw
            case rel => exact ⟨k + 1, ⟨true, QL, 0⟩, by omega, rfl, rfl, by go_num, HF⟩
            case measure => simp [intOf]; omega
          | false =>
            go_wp2
            go_roundw
            case rel => exact ⟨k + 1, ⟨false, QL, 0⟩, by omega, rfl, rfl, by go_num, HF⟩
            case measure => simp [intOf]; omega
        · subst ht0
          have hq1 : (QG == 0) = false := by simpa using hq0
          cases QA with
          | true =>
            go_wp2
            go_roundw
            case rel => exact ⟨k + 1, ⟨true, QL, QG⟩, by omega, rfl, rfl, by go_num, HF⟩
            case measure => simp [intOf]; omega
          | false =>
            go_wp2
            go_roundw
            case rel => exact ⟨k + 1, ⟨false, QL, QG⟩, by omega, rfl, rfl, by go_num, HF⟩
            case measure => simp [intOf]; omega

end Go.Proofs.Ytnmfigcemknjbaa
