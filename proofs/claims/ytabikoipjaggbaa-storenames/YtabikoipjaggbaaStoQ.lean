/-
  THE CONTRACTS of the laws' one and alive (made by a program).
-/
import Derived.Test.YtabikoipjaggbaaStoLJ
namespace Go.Proofs.Ytabikoipjaggbaa
open Go.RowKit Go.Lib Go.Deep
set_option linter.unusedVariables false
set_option linter.unusedSimpArgs false

theorem one_any (w : World) : Calls Try.prog 8 #[] w fun e w' => ∃ g, e = .returned (.slice (some ⟨g, 0, none⟩) 1 1) ∧ Plans w' (some ⟨g, 0, none⟩) 1 1 [p51] ∧ Kept w w' none := by
  go_enter Try.func8, Try.ntmps8
  go_wp2
  go_ret
  refine ⟨w.heap.size + 1, rfl, ⟨⟨fun _ => (some ⟨w.heap.size, 0, none⟩, 1), ⟨fun _ => ⟨w.heap.size + 1, 0, rfl, by simp, fun i hi j hj => ?_⟩⟩, fun i hi => ?_⟩, rfl, ⟨fun e => (nomatch e), Nat.le_refl _, by omega⟩, fun p hp => ?_⟩, (Kept.alloc _ _ _ _ _).tr (Kept.alloc _ _ _ _ _)⟩
  · obtain rfl : i = 0 := by omega
    have h := World.cell?_alloc_mark (w.alloc (.cells #[.int .i64 5] 3)) #[.int .i64 5, .int .i64 0, .slice (some ⟨w.heap.size, 0, none⟩) 1 1] 44 (0, 0)
    simp only [World.size_alloc] at h
    have : j = 0 ∨ j = 1 ∨ j = 2 := by omega
    rcases this with rfl | rfl | rfl
    · exact h 0
    · exact h 1
    · exact h 2
  · obtain rfl : i = 0 := by omega
    refine ⟨⟨fun _ => ⟨w.heap.size, 0, rfl, by simp; omega, fun i hi j hj => ?_⟩⟩, rfl, ⟨fun e => (nomatch e), Nat.le_refl _, by show 1 ≤ 9223372036854775807; omega⟩, fun x hx => ?_⟩
    · have hi1 : i < 1 := hi
      obtain rfl : i = 0 := by omega
      obtain rfl : j = 0 := by omega
      have h := World.cell?_alloc_mark w #[.int .i64 5] 3 (0, 0) 0
      exact (cell_kpt (Kept.alloc _ _ _ _ _) (by simp)).trans h
    · have : x = 5 := by simpa [p51] using hx
      omega
  · have : p = p51 := by simpa using hp
    subst this
    exact ⟨by unfold i64B p51; decide, by unfold i64B p51; decide⟩
/-- A block of one slice is no block of bytes. -/
theorem come_setB {w : World} {a : Option Addr} {n c : Nat} {L : List Nat} {b : Nat} {t : TypeId} {x : Option Addr} {y z : Nat} (h : Come w a n c L) (hr : w.rowIs b t 1 (fun _ => .slice x y z)) (i : Nat) (v : Value) : Come (w.setCell ⟨b, i, none⟩ v) a n c L := by
  by_cases hp : 0 < n
  · refine h.kptR (dkept_set w b i v) (fun q e f => ?_)
    obtain ⟨b', off, e', hb, hc⟩ := h.by_.at_ hp
    rw [e'] at e
    cases e
    dsimp only at f
    subst f
    have h1 := hc 0 hp
    rw [Nat.add_zero] at h1
    obtain ⟨cs, e1, e2, e3⟩ := hr
    by_cases h0 : off = 0
    · subst h0
      have h2 := World.rowIs.cell (w := w) (b := b') (t := t) (n := 1) (f := fun _ => .slice x y z) ⟨cs, e1, e2, e3⟩ (i := 0) (by omega)
      rw [h2] at h1
      cases h1
    · unfold World.cell? at h1
      rw [e1] at h1
      simp at h1
      have : cs[off]? = none := by rw [Array.getElem?_eq_none (by omega)]
      rw [this] at h1
      cases h1
  · exact ⟨⟨h.by_.size, h.by_.max, h.by_.lt, fun q => absurd q hp⟩, h.nil, h.room, h.max⟩
theorem row1 (w : World) (v : Value) (t : TypeId) : (w.alloc (.cells #[v] t)).rowIs w.heap.size t 1 (fun _ => v) := World.rowIs_alloc w #[v] t _ (fun i hi => by simp at hi; subst hi; rfl)
/-- Behind the region that does the put. -/
def ALQ (W : World) (b1 : Nat) (a1 : Option Addr) (n1 c1 : Nat) (e : Exit) (act : Act) (w' : World) : Prop := match e with
  | .normal => ∃ b3 a3 n3 c3 g, act = { tmps := #[.bool false, .pointer (some ⟨b1, 0, none⟩), .int .i64 0, .pointer (some ⟨b3, 0, none⟩), .bool true, undef, undef, .tuple #[dvV a1 n1 c1, .int .i64 0], .tuple #[dvV a1 n1 c1, .int .i64 0], dvV a1 n1 c1, .int .i64 0, .tuple #[dvV a3 n3 c3, .bool true], dvV a1 n1 c1, .slice (some ⟨g, 0, none⟩) 1 1, .tuple #[dvV a3 n3 c3, .bool true], dvV a3 n3 c3, .bool true, undef, undef, undef, undef, undef, undef, undef, undef, undef, undef, undef, undef, undef, undef, undef, undef, undef, undef, undef, undef, undef, undef, undef, undef, undef, undef, undef, undef, undef, undef], defers := [] } ∧ Hid (w'.cell? ⟨b3, 0, none⟩ = some (.slice a3 n3 c3)) ∧ Hid (Come w' a3 n3 c3 a256) ∧ Hid (Kept W w' none)
  | _ => False
theorem ALQ.out {W : World} {b1 : Nat} {a1 : Option Addr} {n1 c1 : Nat} {e : Exit} {act : Act} {w' : World} (h : ALQ W b1 a1 n1 c1 e act w') : e = .normal ∧ ALQ W b1 a1 n1 c1 .normal act w' := by
  cases e with
  | normal => exact ⟨rfl, h⟩
  | _ => exact h.elim
set_option maxRecDepth 100000 in
set_option maxHeartbeats 4000000 in
theorem alive_any (w : World) : Calls Try.prog 9 #[] w fun e w' => e = .returned (.bool true) ∧ Kept w w' none := by
  have HF := Hid.mk' (format_any 4 w)
  rw [al_fo.1, al_fo.2] at HF
  go_enter Try.func9, Try.ntmps9
  go_wp2_with (go_at_call 5; refine HF.out.mono ?_; rintro e w1 ⟨⟨a1, n1, c1, rfl, hd1⟩, hk1⟩; have DD := Hid.mk' hd1; have K1 := Hid.mk' hk1; clear hd1 hk1)
  have DB0 := db_alloc w1 a1 n1 c1 24
  have D0 := DD.out.come.kpt (Kept.alloc w1 #[.slice a1 n1 c1] 24 (0, 0) none)
  have KW := K1.out.tr (Kept.alloc w1 #[.slice a1 n1 c1] 24 (0, 0) none)
  obtain ⟨W, hW⟩ : ∃ v, w1.alloc (.cells #[.slice a1 n1 c1] 24) = v := ⟨_, rfl⟩
  rw [hW] at DB0 D0 KW ⊢
  clear hW
  obtain ⟨b1, hb1⟩ : ∃ v, w1.heap.size = v := ⟨_, rfl⟩
  rw [hb1] at DB0 ⊢
  clear hb1
  have D1 := Hid.mk' D0
  have DB := Hid.mk' DB0
  have KW := Hid.mk' KW
  clear D0 DB0
  refine Code.wp_mono (Q := ALQ W b1 a1 n1 c1) ?cont1 ?reg1
  case reg1 =>
    have hd1 := DB.out.c0
    have HB1 : Hid (b1 < W.heap.size) := Hid.mk' DB.out.lt
    repeat (rename_i hh; clear hh)
    refine wp_region_held_drew (S := fun w' => Kept W w' none ∧ w'.cell? ⟨b1, 0, none⟩ = some (.slice a1 n1 c1)) (by kernel_rfl) ⟨kept_drw _ _, hd1⟩ (fun hHeld => ?_)
    obtain ⟨w0, hw0⟩ : ∃ v, W.drew = v := ⟨_, rfl⟩
    rw [hw0] at hHeld ⊢
    clear hw0
    refine hold_take (i := 0) (v := ?rv1) rfl rfl (by kernel_rfl) (by kernel_rfl) (by kernel_rfl) (fun _ _ _ h => h) (Or.inl ⟨by rfl, ?rhy1⟩) hHeld ?rrest1
    case rhy1 => (intro w hSw; have q0 := hSw.2; clear hSw; first | (go_simp; done) | (go_simp; with_reducible rfl))
    try simp only [List.setIfInBounds_toArray, List.set_cons_zero, List.set_cons_succ]
    refine wpAnyH_ready (rs := [1, 6]) (by kernel_rfl) (by simp) ?_
    refine (AllReadyH.cons rfl (fun K hK => ?rz2x1) (AllReadyH.cons rfl (fun K hK => ?rz2x6) AllReadyH.nil))
    case rz2x1 =>
      go_simp
      go_wp2_with (go_at_call 8; refine (one_any _).mono ?_; rintro e wv3 ⟨g, rfl, hp, hk⟩)
      have P1 := Hid.mk' hp
      have hnew : Kept W wv3 none ∧ wv3.cell? ⟨b1, 0, none⟩ = some (.slice a1 n1 c1) := ⟨hHeld.1.tr hk, (cell_kpt hk (Nat.lt_of_lt_of_le HB1.out hHeld.1.size)).trans hHeld.2⟩
      refine hK.out _ _ hnew (fun hHeld => ?_)
      clear hK K hnew hk hp
      refine wpAnyH_ready (rs := [2, 6]) (by kernel_rfl) (by simp) ?_
      refine (AllReadyH.cons rfl (fun K hK => ?rz4x2) (AllReadyH.cons rfl (fun K hK => ?rz4x6) AllReadyH.nil))
      case rz4x2 =>
        have HDN := Hid.mk' (ldone_any (m := 2) (wh := 99) (tn := 0) (D1.out.kpt hHeld.1) P1.out)
        unfold DonP at HDN
        rw [al_dn.1, al_dn.2] at HDN
        go_simp
        go_wp2_with (go_at_call 10; refine HDN.out.mono ?_; rintro e wv5 ⟨a3, n3, c3, rfl, hc, hk⟩)
        have P1 := Hid.mk' (P1.out.kept hk)
        have C3 := Hid.mk' hc
        have hnew : Kept W wv5 none ∧ wv5.cell? ⟨b1, 0, none⟩ = some (.slice a1 n1 c1) := ⟨hHeld.1.tr hk, (cell_kpt hk (Nat.lt_of_lt_of_le HB1.out hHeld.1.size)).trans hHeld.2⟩
        refine hK.out _ _ hnew (fun hHeld => ?_)
        clear hK K hnew hk hc HDN
        refine hold_take (i := 3) (v := ?rv6) rfl rfl (by kernel_rfl) (by kernel_rfl) (by kernel_rfl) (fun _ _ _ h => h) (Or.inl ⟨by rfl, ?rhy6⟩) hHeld ?rrest6
        case rhy6 => (intro w hSw; have q0 := hSw.2; clear hSw; first | (go_simp; done) | (go_simp; with_reducible rfl))
        try simp only [List.setIfInBounds_toArray, List.set_cons_zero, List.set_cons_succ]
        refine hold_take (i := 4) (v := ?rv7) rfl rfl (by kernel_rfl) (by kernel_rfl) (by kernel_rfl) (fun _ _ _ h => h) (Or.inl ⟨by rfl, ?rhy7⟩) hHeld ?rrest7
        case rhy7 => (intro w hSw; have q0 := hSw.2; clear hSw; first | (go_simp; done) | (go_simp; with_reducible rfl))
        try simp only [List.setIfInBounds_toArray, List.set_cons_zero, List.set_cons_succ]
        refine hold_take (i := 5) (v := ?rv8) rfl rfl (by kernel_rfl) (by kernel_rfl) (by kernel_rfl) (fun _ _ _ h => h) (Or.inl ⟨by rfl, ?rhy8⟩) hHeld ?rrest8
        case rhy8 => (intro w hSw; have q0 := hSw.2; clear hSw; first | (go_simp; done) | (go_simp; with_reducible rfl))
        try simp only [List.setIfInBounds_toArray, List.set_cons_zero, List.set_cons_succ]
        refine wpAnyH_ready (rs := [6]) (by kernel_rfl) (by simp) ?_
        refine (AllReadyH.cons rfl (fun K hK => ?rz9x6) AllReadyH.nil)
        case rz9x6 =>
          go_simp
          have hk : Kept wv5 (wv5.alloc (.cells #[.slice none 0 0] 24)) none := Kept.alloc _ _ _ _ _
          have P1 := Hid.mk' (P1.out.kept hk)
          have C3 := Hid.mk' (C3.out.kpt hk)
          have R3 := Hid.mk' (row1 wv5 (.slice none 0 0) 24)
          have N3 : Hid (W.heap.size ≤ wv5.heap.size) := Hid.mk' hHeld.1.size
          have hnew : Kept W (wv5.alloc (.cells #[.slice none 0 0] 24)) none ∧ (wv5.alloc (.cells #[.slice none 0 0] 24)).cell? ⟨b1, 0, none⟩ = some (.slice a1 n1 c1) := ⟨hHeld.1.tr hk, (cell_kpt hk (Nat.lt_of_lt_of_le HB1.out hHeld.1.size)).trans hHeld.2⟩
          refine hK.out _ _ hnew (fun hHeld => ?_)
          clear hK K hnew hk
          obtain ⟨wv10, hwv10⟩ : ∃ v, (wv5.alloc (.cells #[.slice none 0 0] 24)) = v := ⟨_, rfl⟩
          rw [hwv10] at hHeld R3 P1 C3 ⊢
          clear hwv10
          obtain ⟨b3, hb3⟩ : ∃ v, wv5.heap.size = v := ⟨_, rfl⟩
          rw [hb3] at R3 N3
          rw [hb3]
          clear hb3
          refine wpAnyH_ready (rs := [7]) (by kernel_rfl) (by simp) ?_
          refine (AllReadyH.cons rfl (fun K hK => ?rz11x7) AllReadyH.nil)
          case rz11x7 =>
            have t0 := R3.out.cell (i := 0) (by omega)
            have y0 := R3.out.frozen 0
            go_simp
            have C3 := Hid.mk' (come_setB C3.out R3.out 0 (.slice a3 n3 c3))
            have R3 := Hid.mk' (R3.out.set 0 (.slice a3 n3 c3))
            have hnew : Kept W (wv10.setCell ⟨b3, 0, none⟩ (.slice a3 n3 c3)) none ∧ (wv10.setCell ⟨b3, 0, none⟩ (.slice a3 n3 c3)).cell? ⟨b1, 0, none⟩ = some (.slice a1 n1 c1) := ⟨hHeld.1.setNew (p := ⟨b3, 0, none⟩) N3.out _, (World.cell?_setCell_other _ _ _ _ (by have := N3.out; have := HB1.out; first | (simp; done) | (simp; omega))).trans hHeld.2⟩
            refine hK.out _ _ hnew (fun hHeld => ?_)
            clear hK K hnew t0 y0
            obtain ⟨wv12, hwv12⟩ : ∃ v, (wv10.setCell ⟨b3, 0, none⟩ (.slice a3 n3 c3)) = v := ⟨_, rfl⟩
            rw [hwv12] at hHeld R3 C3 ⊢
            clear hwv12
            refine hold_take (i := 8) (v := ?rv13) rfl rfl (by kernel_rfl) (by kernel_rfl) (by kernel_rfl) (fun _ _ _ h => h) (Or.inl ⟨by rfl, ?rhy13⟩) hHeld ?rrest13
            case rhy13 => (intro w hSw; have q0 := hSw.2; clear hSw; first | (go_simp; done) | (go_simp; with_reducible rfl))
            try simp only [List.setIfInBounds_toArray, List.set_cons_zero, List.set_cons_succ]
            refine wpAnyH_done (by kernel_rfl) ?_ _
            have hc3 := R3.out.cell (i := 0) (by omega)
            simp at hc3
            with_unfolding_all exact ⟨b3, a3, n3, c3, g, rfl, Hid.mk' hc3, C3, Hid.mk' hHeld.1⟩
      case rz4x6 =>
        go_simp
        have hk : Kept wv3 (wv3.alloc (.cells #[.slice none 0 0] 24)) none := Kept.alloc _ _ _ _ _
        have P1 := Hid.mk' (P1.out.kept hk)
        have R3 := Hid.mk' (row1 wv3 (.slice none 0 0) 24)
        have N3 : Hid (W.heap.size ≤ wv3.heap.size) := Hid.mk' hHeld.1.size
        have hnew : Kept W (wv3.alloc (.cells #[.slice none 0 0] 24)) none ∧ (wv3.alloc (.cells #[.slice none 0 0] 24)).cell? ⟨b1, 0, none⟩ = some (.slice a1 n1 c1) := ⟨hHeld.1.tr hk, (cell_kpt hk (Nat.lt_of_lt_of_le HB1.out hHeld.1.size)).trans hHeld.2⟩
        refine hK.out _ _ hnew (fun hHeld => ?_)
        clear hK K hnew hk
        obtain ⟨wv14, hwv14⟩ : ∃ v, (wv3.alloc (.cells #[.slice none 0 0] 24)) = v := ⟨_, rfl⟩
        rw [hwv14] at hHeld R3 P1 ⊢
        clear hwv14
        obtain ⟨b3, hb3⟩ : ∃ v, wv3.heap.size = v := ⟨_, rfl⟩
        rw [hb3] at R3 N3
        rw [hb3]
        clear hb3
        refine wpAnyH_ready (rs := [2]) (by kernel_rfl) (by simp) ?_
        refine (AllReadyH.cons rfl (fun K hK => ?rz15x2) AllReadyH.nil)
        case rz15x2 =>
          have HDN := Hid.mk' (ldone_any (m := 2) (wh := 99) (tn := 0) (D1.out.kpt hHeld.1) P1.out)
          unfold DonP at HDN
          rw [al_dn.1, al_dn.2] at HDN
          go_simp
          go_wp2_with (go_at_call 10; refine HDN.out.mono ?_; rintro e wv16 ⟨a3, n3, c3, rfl, hc, hk⟩)
          have P1 := Hid.mk' (P1.out.kept hk)
          have R3 := Hid.mk' (rowK R3.out hk)
          have C3 := Hid.mk' hc
          have hnew : Kept W wv16 none ∧ wv16.cell? ⟨b1, 0, none⟩ = some (.slice a1 n1 c1) := ⟨hHeld.1.tr hk, (cell_kpt hk (Nat.lt_of_lt_of_le HB1.out hHeld.1.size)).trans hHeld.2⟩
          refine hK.out _ _ hnew (fun hHeld => ?_)
          clear hK K hnew hk hc HDN
          refine hold_take (i := 3) (v := ?rv17) rfl rfl (by kernel_rfl) (by kernel_rfl) (by kernel_rfl) (fun _ _ _ h => h) (Or.inl ⟨by rfl, ?rhy17⟩) hHeld ?rrest17
          case rhy17 => (intro w hSw; have q0 := hSw.2; clear hSw; first | (go_simp; done) | (go_simp; with_reducible rfl))
          try simp only [List.setIfInBounds_toArray, List.set_cons_zero, List.set_cons_succ]
          refine hold_take (i := 4) (v := ?rv18) rfl rfl (by kernel_rfl) (by kernel_rfl) (by kernel_rfl) (fun _ _ _ h => h) (Or.inl ⟨by rfl, ?rhy18⟩) hHeld ?rrest18
          case rhy18 => (intro w hSw; have q0 := hSw.2; clear hSw; first | (go_simp; done) | (go_simp; with_reducible rfl))
          try simp only [List.setIfInBounds_toArray, List.set_cons_zero, List.set_cons_succ]
          refine hold_take (i := 5) (v := ?rv19) rfl rfl (by kernel_rfl) (by kernel_rfl) (by kernel_rfl) (fun _ _ _ h => h) (Or.inl ⟨by rfl, ?rhy19⟩) hHeld ?rrest19
          case rhy19 => (intro w hSw; have q0 := hSw.2; clear hSw; first | (go_simp; done) | (go_simp; with_reducible rfl))
          try simp only [List.setIfInBounds_toArray, List.set_cons_zero, List.set_cons_succ]
          refine wpAnyH_ready (rs := [7]) (by kernel_rfl) (by simp) ?_
          refine (AllReadyH.cons rfl (fun K hK => ?rz20x7) AllReadyH.nil)
          case rz20x7 =>
            have t0 := R3.out.cell (i := 0) (by omega)
            have y0 := R3.out.frozen 0
            go_simp
            have C3 := Hid.mk' (come_setB C3.out R3.out 0 (.slice a3 n3 c3))
            have R3 := Hid.mk' (R3.out.set 0 (.slice a3 n3 c3))
            have hnew : Kept W (wv16.setCell ⟨b3, 0, none⟩ (.slice a3 n3 c3)) none ∧ (wv16.setCell ⟨b3, 0, none⟩ (.slice a3 n3 c3)).cell? ⟨b1, 0, none⟩ = some (.slice a1 n1 c1) := ⟨hHeld.1.setNew (p := ⟨b3, 0, none⟩) N3.out _, (World.cell?_setCell_other _ _ _ _ (by have := N3.out; have := HB1.out; first | (simp; done) | (simp; omega))).trans hHeld.2⟩
            refine hK.out _ _ hnew (fun hHeld => ?_)
            clear hK K hnew t0 y0
            obtain ⟨wv21, hwv21⟩ : ∃ v, (wv16.setCell ⟨b3, 0, none⟩ (.slice a3 n3 c3)) = v := ⟨_, rfl⟩
            rw [hwv21] at hHeld R3 C3 ⊢
            clear hwv21
            refine hold_take (i := 8) (v := ?rv22) rfl rfl (by kernel_rfl) (by kernel_rfl) (by kernel_rfl) (fun _ _ _ h => h) (Or.inl ⟨by rfl, ?rhy22⟩) hHeld ?rrest22
            case rhy22 => (intro w hSw; have q0 := hSw.2; clear hSw; first | (go_simp; done) | (go_simp; with_reducible rfl))
            try simp only [List.setIfInBounds_toArray, List.set_cons_zero, List.set_cons_succ]
            refine wpAnyH_done (by kernel_rfl) ?_ _
            have hc3 := R3.out.cell (i := 0) (by omega)
            simp at hc3
            with_unfolding_all exact ⟨b3, a3, n3, c3, g, rfl, Hid.mk' hc3, C3, Hid.mk' hHeld.1⟩
    case rz2x6 =>
      go_simp
      have hk : Kept w0 (w0.alloc (.cells #[.slice none 0 0] 24)) none := Kept.alloc _ _ _ _ _
      have R3 := Hid.mk' (row1 w0 (.slice none 0 0) 24)
      have N3 : Hid (W.heap.size ≤ w0.heap.size) := Hid.mk' hHeld.1.size
      have hnew : Kept W (w0.alloc (.cells #[.slice none 0 0] 24)) none ∧ (w0.alloc (.cells #[.slice none 0 0] 24)).cell? ⟨b1, 0, none⟩ = some (.slice a1 n1 c1) := ⟨hHeld.1.tr hk, (cell_kpt hk (Nat.lt_of_lt_of_le HB1.out hHeld.1.size)).trans hHeld.2⟩
      refine hK.out _ _ hnew (fun hHeld => ?_)
      clear hK K hnew hk
      obtain ⟨wv23, hwv23⟩ : ∃ v, (w0.alloc (.cells #[.slice none 0 0] 24)) = v := ⟨_, rfl⟩
      rw [hwv23] at hHeld R3 ⊢
      clear hwv23
      obtain ⟨b3, hb3⟩ : ∃ v, w0.heap.size = v := ⟨_, rfl⟩
      rw [hb3] at R3 N3
      rw [hb3]
      clear hb3
      refine wpAnyH_ready (rs := [1]) (by kernel_rfl) (by simp) ?_
      refine (AllReadyH.cons rfl (fun K hK => ?rz24x1) AllReadyH.nil)
      case rz24x1 =>
        go_simp
        go_wp2_with (go_at_call 8; refine (one_any _).mono ?_; rintro e wv25 ⟨g, rfl, hp, hk⟩)
        have R3 := Hid.mk' (rowK R3.out hk)
        have P1 := Hid.mk' hp
        have hnew : Kept W wv25 none ∧ wv25.cell? ⟨b1, 0, none⟩ = some (.slice a1 n1 c1) := ⟨hHeld.1.tr hk, (cell_kpt hk (Nat.lt_of_lt_of_le HB1.out hHeld.1.size)).trans hHeld.2⟩
        refine hK.out _ _ hnew (fun hHeld => ?_)
        clear hK K hnew hk hp
        refine wpAnyH_ready (rs := [2]) (by kernel_rfl) (by simp) ?_
        refine (AllReadyH.cons rfl (fun K hK => ?rz26x2) AllReadyH.nil)
        case rz26x2 =>
          have HDN := Hid.mk' (ldone_any (m := 2) (wh := 99) (tn := 0) (D1.out.kpt hHeld.1) P1.out)
          unfold DonP at HDN
          rw [al_dn.1, al_dn.2] at HDN
          go_simp
          go_wp2_with (go_at_call 10; refine HDN.out.mono ?_; rintro e wv27 ⟨a3, n3, c3, rfl, hc, hk⟩)
          have P1 := Hid.mk' (P1.out.kept hk)
          have R3 := Hid.mk' (rowK R3.out hk)
          have C3 := Hid.mk' hc
          have hnew : Kept W wv27 none ∧ wv27.cell? ⟨b1, 0, none⟩ = some (.slice a1 n1 c1) := ⟨hHeld.1.tr hk, (cell_kpt hk (Nat.lt_of_lt_of_le HB1.out hHeld.1.size)).trans hHeld.2⟩
          refine hK.out _ _ hnew (fun hHeld => ?_)
          clear hK K hnew hk hc HDN
          refine hold_take (i := 3) (v := ?rv28) rfl rfl (by kernel_rfl) (by kernel_rfl) (by kernel_rfl) (fun _ _ _ h => h) (Or.inl ⟨by rfl, ?rhy28⟩) hHeld ?rrest28
          case rhy28 => (intro w hSw; have q0 := hSw.2; clear hSw; first | (go_simp; done) | (go_simp; with_reducible rfl))
          try simp only [List.setIfInBounds_toArray, List.set_cons_zero, List.set_cons_succ]
          refine hold_take (i := 4) (v := ?rv29) rfl rfl (by kernel_rfl) (by kernel_rfl) (by kernel_rfl) (fun _ _ _ h => h) (Or.inl ⟨by rfl, ?rhy29⟩) hHeld ?rrest29
          case rhy29 => (intro w hSw; have q0 := hSw.2; clear hSw; first | (go_simp; done) | (go_simp; with_reducible rfl))
          try simp only [List.setIfInBounds_toArray, List.set_cons_zero, List.set_cons_succ]
          refine hold_take (i := 5) (v := ?rv30) rfl rfl (by kernel_rfl) (by kernel_rfl) (by kernel_rfl) (fun _ _ _ h => h) (Or.inl ⟨by rfl, ?rhy30⟩) hHeld ?rrest30
          case rhy30 => (intro w hSw; have q0 := hSw.2; clear hSw; first | (go_simp; done) | (go_simp; with_reducible rfl))
          try simp only [List.setIfInBounds_toArray, List.set_cons_zero, List.set_cons_succ]
          refine wpAnyH_ready (rs := [7]) (by kernel_rfl) (by simp) ?_
          refine (AllReadyH.cons rfl (fun K hK => ?rz31x7) AllReadyH.nil)
          case rz31x7 =>
            have t0 := R3.out.cell (i := 0) (by omega)
            have y0 := R3.out.frozen 0
            go_simp
            have C3 := Hid.mk' (come_setB C3.out R3.out 0 (.slice a3 n3 c3))
            have R3 := Hid.mk' (R3.out.set 0 (.slice a3 n3 c3))
            have hnew : Kept W (wv27.setCell ⟨b3, 0, none⟩ (.slice a3 n3 c3)) none ∧ (wv27.setCell ⟨b3, 0, none⟩ (.slice a3 n3 c3)).cell? ⟨b1, 0, none⟩ = some (.slice a1 n1 c1) := ⟨hHeld.1.setNew (p := ⟨b3, 0, none⟩) N3.out _, (World.cell?_setCell_other _ _ _ _ (by have := N3.out; have := HB1.out; first | (simp; done) | (simp; omega))).trans hHeld.2⟩
            refine hK.out _ _ hnew (fun hHeld => ?_)
            clear hK K hnew t0 y0
            obtain ⟨wv32, hwv32⟩ : ∃ v, (wv27.setCell ⟨b3, 0, none⟩ (.slice a3 n3 c3)) = v := ⟨_, rfl⟩
            rw [hwv32] at hHeld R3 C3 ⊢
            clear hwv32
            refine hold_take (i := 8) (v := ?rv33) rfl rfl (by kernel_rfl) (by kernel_rfl) (by kernel_rfl) (fun _ _ _ h => h) (Or.inl ⟨by rfl, ?rhy33⟩) hHeld ?rrest33
            case rhy33 => (intro w hSw; have q0 := hSw.2; clear hSw; first | (go_simp; done) | (go_simp; with_reducible rfl))
            try simp only [List.setIfInBounds_toArray, List.set_cons_zero, List.set_cons_succ]
            refine wpAnyH_done (by kernel_rfl) ?_ _
            have hc3 := R3.out.cell (i := 0) (by omega)
            simp at hc3
            with_unfolding_all exact ⟨b3, a3, n3, c3, g, rfl, Hid.mk' hc3, C3, Hid.mk' hHeld.1⟩
  case cont1 =>
    intro e act w2 hq
    obtain ⟨rfl, b3, a3, n3, c3, g, rfl, Q3, C3, K3⟩ := hq.out
    have q3 := Q3.out
    have HRD := Hid.mk' (sread_any C3.out)
    unfold RdP at HRD
    rw [al_rd.1, al_rd.2] at HRD
    go_wp2_with (go_at_call 6; refine HRD.out.mono ?_; rintro e w4 ⟨pa, n4, c4, rfl, hp4, hk4⟩; have P4 := Hid.mk' hp4; have K4 := Hid.mk' ((KW.out.tr K3.out).tr hk4); clear hp4 hk4)
    have hn4 : n4 = 1 := P4.out.size.symm
    subst hn4
    have RK0 := row3 w4 (.int .i64 1) (.int .u8 2) (.slice pa 1 c4) 30
    have KK0 := K4.out.tr (Kept.alloc w4 #[.int .i64 1, .int .u8 2, .slice pa 1 c4] 30 (0, 0) none)
    have PP0 := P4.out.plans.kept (Kept.alloc w4 #[.int .i64 1, .int .u8 2, .slice pa 1 c4] 30 (0, 0) none)
    refine wp_region_held_drew (S := fun w' => w'.rowIs w4.heap.size 30 3 (f3 (.int .i64 1) (.int .u8 2) (.slice pa 1 c4))) (by kernel_rfl) (rowK RK0 (kept_drw _ none)) (fun hHeld => ?_)
    have KK := Hid.mk' (KK0.tr (kept_drw _ none))
    have PP := Hid.mk' (PP0.kept (kept_drw _ none))
    clear RK0 KK0 PP0
    refine hold_take (i := 0) (v := ?rv34) rfl rfl (by kernel_rfl) (by kernel_rfl) (by kernel_rfl) (fun _ _ _ h => h) (Or.inl ⟨by rfl, ?rhy34⟩) hHeld ?rrest34
    case rhy34 => (intro w hSw; have q0 := hSw.cell (i := 0) (by omega); have q1 := hSw.cell (i := 1) (by omega); have q2 := hSw.cell (i := 2) (by omega); clear hSw; simp [f3] at q0 q1 q2; first | (go_simp; done) | (go_simp; with_reducible rfl))
    try simp only [List.setIfInBounds_toArray, List.set_cons_zero, List.set_cons_succ]
    refine hold_take (i := 1) (v := ?rv35) rfl rfl (by kernel_rfl) (by kernel_rfl) (by kernel_rfl) (fun _ _ _ h => h) (Or.inl ⟨by rfl, ?rhy35⟩) hHeld ?rrest35
    case rhy35 => (intro w hSw; have q0 := hSw.cell (i := 0) (by omega); have q1 := hSw.cell (i := 1) (by omega); have q2 := hSw.cell (i := 2) (by omega); clear hSw; simp [f3] at q0 q1 q2; first | (go_simp; done) | (go_simp; with_reducible rfl))
    try simp only [List.setIfInBounds_toArray, List.set_cons_zero, List.set_cons_succ]
    refine hold_take (i := 2) (v := ?rv36) rfl rfl (by kernel_rfl) (by kernel_rfl) (by kernel_rfl) (fun _ _ _ h => h) (Or.inl ⟨by rfl, ?rhy36⟩) hHeld ?rrest36
    case rhy36 => (intro w hSw; have q0 := hSw.cell (i := 0) (by omega); have q1 := hSw.cell (i := 1) (by omega); have q2 := hSw.cell (i := 2) (by omega); clear hSw; simp [f3] at q0 q1 q2; first | (go_simp; done) | (go_simp; with_reducible rfl))
    try simp only [List.setIfInBounds_toArray, List.set_cons_zero, List.set_cons_succ]
    refine hold_take (i := 3) (v := ?rv37) rfl rfl (by kernel_rfl) (by kernel_rfl) (by kernel_rfl) (fun _ _ _ h => h) (Or.inl ⟨by rfl, ?rhy37⟩) hHeld ?rrest37
    case rhy37 => (intro w hSw; have q0 := hSw.cell (i := 0) (by omega); have q1 := hSw.cell (i := 1) (by omega); have q2 := hSw.cell (i := 2) (by omega); clear hSw; simp [f3] at q0 q1 q2; first | (go_simp; done) | (go_simp; with_reducible rfl))
    try simp only [List.setIfInBounds_toArray, List.set_cons_zero, List.set_cons_succ]
    refine hold_take (i := 4) (v := ?rv38) rfl rfl (by kernel_rfl) (by kernel_rfl) (by kernel_rfl) (fun _ _ _ h => h) (Or.inl ⟨by rfl, ?rhy38⟩) hHeld ?rrest38
    case rhy38 => (intro w hSw; have q0 := hSw.cell (i := 0) (by omega); have q1 := hSw.cell (i := 1) (by omega); have q2 := hSw.cell (i := 2) (by omega); clear hSw; simp [f3] at q0 q1 q2; first | (go_simp; done) | (go_simp; with_reducible rfl))
    try simp only [List.setIfInBounds_toArray, List.set_cons_zero, List.set_cons_succ]
    refine hold_take (i := 5) (v := ?rv39) rfl rfl (by kernel_rfl) (by kernel_rfl) (by kernel_rfl) (fun _ _ _ h => h) (Or.inl ⟨by rfl, ?rhy39⟩) hHeld ?rrest39
    case rhy39 => (intro w hSw; have q0 := hSw.cell (i := 0) (by omega); have q1 := hSw.cell (i := 1) (by omega); have q2 := hSw.cell (i := 2) (by omega); clear hSw; simp [f3] at q0 q1 q2; first | (go_simp; done) | (go_simp; with_reducible rfl))
    try simp only [List.setIfInBounds_toArray, List.set_cons_zero, List.set_cons_succ]
    refine hold_take (i := 6) (v := ?rv40) rfl rfl (by kernel_rfl) (by kernel_rfl) (by kernel_rfl) (fun _ _ _ h => h) (Or.inl ⟨by rfl, ?rhy40⟩) hHeld ?rrest40
    case rhy40 => (intro w hSw; have q0 := hSw.cell (i := 0) (by omega); have q1 := hSw.cell (i := 1) (by omega); have q2 := hSw.cell (i := 2) (by omega); clear hSw; simp [f3] at q0 q1 q2; first | (go_simp; done) | (go_simp; with_reducible rfl))
    try simp only [List.setIfInBounds_toArray, List.set_cons_zero, List.set_cons_succ]
    refine hold_take (i := 7) (v := ?rv41) rfl rfl (by kernel_rfl) (by kernel_rfl) (by kernel_rfl) (fun _ _ _ h => h) (Or.inl ⟨by rfl, ?rhy41⟩) hHeld ?rrest41
    case rhy41 => (intro w hSw; have q0 := hSw.cell (i := 0) (by omega); have q1 := hSw.cell (i := 1) (by omega); have q2 := hSw.cell (i := 2) (by omega); clear hSw; simp [f3] at q0 q1 q2; first | (go_simp; done) | (go_simp; with_reducible rfl))
    try simp only [List.setIfInBounds_toArray, List.set_cons_zero, List.set_cons_succ]
    refine hold_take (i := 8) (v := ?rv42) rfl rfl (by kernel_rfl) (by kernel_rfl) (by kernel_rfl) (fun _ _ _ h => h) (Or.inl ⟨by rfl, ?rhy42⟩) hHeld ?rrest42
    case rhy42 => (intro w hSw; have q0 := hSw.cell (i := 0) (by omega); have q1 := hSw.cell (i := 1) (by omega); have q2 := hSw.cell (i := 2) (by omega); clear hSw; simp [f3] at q0 q1 q2; first | (go_simp; done) | (go_simp; with_reducible rfl))
    try simp only [List.setIfInBounds_toArray, List.set_cons_zero, List.set_cons_succ]
    refine hold_take (i := 9) (v := ?rv43) rfl rfl (by kernel_rfl) (by kernel_rfl) (by kernel_rfl) (fun _ _ _ h => h) (Or.inl ⟨by rfl, ?rhy43⟩) hHeld ?rrest43
    case rhy43 => (intro w hSw; have q0 := hSw.cell (i := 0) (by omega); have q1 := hSw.cell (i := 1) (by omega); have q2 := hSw.cell (i := 2) (by omega); clear hSw; simp [f3] at q0 q1 q2; first | (go_simp; done) | (go_simp; with_reducible rfl))
    try simp only [List.setIfInBounds_toArray, List.set_cons_zero, List.set_cons_succ]
    refine hold_take (i := 10) (v := ?rv44) rfl rfl (by kernel_rfl) (by kernel_rfl) (by kernel_rfl) (fun _ _ _ h => h) (Or.inl ⟨by rfl, ?rhy44⟩) hHeld ?rrest44
    case rhy44 => (intro w hSw; have q0 := hSw.cell (i := 0) (by omega); have q1 := hSw.cell (i := 1) (by omega); have q2 := hSw.cell (i := 2) (by omega); clear hSw; simp [f3] at q0 q1 q2; first | (go_simp; done) | (go_simp; with_reducible rfl))
    try simp only [List.setIfInBounds_toArray, List.set_cons_zero, List.set_cons_succ]
    refine hold_take (i := 11) (v := ?rv45) rfl rfl (by kernel_rfl) (by kernel_rfl) (by kernel_rfl) (fun _ _ _ h => h) (Or.inl ⟨by rfl, ?rhy45⟩) hHeld ?rrest45
    case rhy45 => (intro w hSw; have q0 := hSw.cell (i := 0) (by omega); have q1 := hSw.cell (i := 1) (by omega); have q2 := hSw.cell (i := 2) (by omega); clear hSw; simp [f3] at q0 q1 q2; first | (go_simp; done) | (go_simp; with_reducible rfl))
    try simp only [List.setIfInBounds_toArray, List.set_cons_zero, List.set_cons_succ]
    refine hold_take (i := 12) (v := ?rv46) rfl rfl (by kernel_rfl) (by kernel_rfl) (by kernel_rfl) (fun _ _ _ h => h) (Or.inl ⟨by rfl, ?rhy46⟩) hHeld ?rrest46
    case rhy46 => (intro w hSw; have q0 := hSw.cell (i := 0) (by omega); have q1 := hSw.cell (i := 1) (by omega); have q2 := hSw.cell (i := 2) (by omega); clear hSw; simp [f3] at q0 q1 q2; first | (go_simp; done) | (go_simp; with_reducible rfl))
    try simp only [List.setIfInBounds_toArray, List.set_cons_zero, List.set_cons_succ]
    refine hold_take (i := 13) (v := ?rv47) rfl rfl (by kernel_rfl) (by kernel_rfl) (by kernel_rfl) (fun _ _ _ h => h) (Or.inl ⟨by rfl, ?rhy47⟩) hHeld ?rrest47
    case rhy47 => (intro w hSw; have q0 := hSw.cell (i := 0) (by omega); have q1 := hSw.cell (i := 1) (by omega); have q2 := hSw.cell (i := 2) (by omega); clear hSw; simp [f3] at q0 q1 q2; first | (go_simp; done) | (go_simp; with_reducible rfl))
    try simp only [List.setIfInBounds_toArray, List.set_cons_zero, List.set_cons_succ]
    refine hold_take (i := 14) (v := ?rv48) rfl rfl (by kernel_rfl) (by kernel_rfl) (by kernel_rfl) (fun _ _ _ h => h) (Or.inl ⟨by rfl, ?rhy48⟩) hHeld ?rrest48
    case rhy48 => (intro w hSw; have q0 := hSw.cell (i := 0) (by omega); have q1 := hSw.cell (i := 1) (by omega); have q2 := hSw.cell (i := 2) (by omega); clear hSw; simp [f3] at q0 q1 q2; first | (go_simp; done) | (go_simp; with_reducible rfl))
    try simp only [List.setIfInBounds_toArray, List.set_cons_zero, List.set_cons_succ]
    refine hold_take (i := 15) (v := ?rv49) rfl rfl (by kernel_rfl) (by kernel_rfl) (by kernel_rfl) (fun _ _ _ h => h) (Or.inl ⟨by rfl, ?rhy49⟩) hHeld ?rrest49
    case rhy49 => (intro w hSw; have q0 := hSw.cell (i := 0) (by omega); have q1 := hSw.cell (i := 1) (by omega); have q2 := hSw.cell (i := 2) (by omega); clear hSw; simp [f3] at q0 q1 q2; first | (go_simp; done) | (go_simp; with_reducible rfl))
    try simp only [List.setIfInBounds_toArray, List.set_cons_zero, List.set_cons_succ]
    refine hold_take (i := 16) (v := ?rv50) rfl rfl (by kernel_rfl) (by kernel_rfl) (by kernel_rfl) (fun _ _ _ h => h) (Or.inl ⟨by rfl, ?rhy50⟩) hHeld ?rrest50
    case rhy50 => (intro w hSw; have q0 := hSw.cell (i := 0) (by omega); have q1 := hSw.cell (i := 1) (by omega); have q2 := hSw.cell (i := 2) (by omega); clear hSw; simp [f3] at q0 q1 q2; first | (go_simp; done) | (go_simp; with_reducible rfl))
    try simp only [List.setIfInBounds_toArray, List.set_cons_zero, List.set_cons_succ]
    refine hold_take (i := 17) (v := ?rv51) rfl rfl (by kernel_rfl) (by kernel_rfl) (by kernel_rfl) (fun _ _ _ h => h) (Or.inl ⟨by rfl, ?rhy51⟩) hHeld ?rrest51
    case rhy51 => (intro w hSw; have q0 := hSw.cell (i := 0) (by omega); have q1 := hSw.cell (i := 1) (by omega); have q2 := hSw.cell (i := 2) (by omega); clear hSw; simp [f3] at q0 q1 q2; first | (go_simp; done) | (go_simp; with_reducible rfl))
    try simp only [List.setIfInBounds_toArray, List.set_cons_zero, List.set_cons_succ]
    refine hold_take (i := 18) (v := ?rv52) rfl rfl (by kernel_rfl) (by kernel_rfl) (by kernel_rfl) (fun _ _ _ h => h) (Or.inl ⟨by rfl, ?rhy52⟩) hHeld ?rrest52
    case rhy52 => (intro w hSw; have q0 := hSw.cell (i := 0) (by omega); have q1 := hSw.cell (i := 1) (by omega); have q2 := hSw.cell (i := 2) (by omega); clear hSw; simp [f3] at q0 q1 q2; first | (go_simp; done) | (go_simp; with_reducible rfl))
    try simp only [List.setIfInBounds_toArray, List.set_cons_zero, List.set_cons_succ]
    refine hold_take (i := 19) (v := ?rv53) rfl rfl (by kernel_rfl) (by kernel_rfl) (by kernel_rfl) (fun _ _ _ h => h) (Or.inl ⟨by rfl, ?rhy53⟩) hHeld ?rrest53
    case rhy53 => (intro w hSw; have q0 := hSw.cell (i := 0) (by omega); have q1 := hSw.cell (i := 1) (by omega); have q2 := hSw.cell (i := 2) (by omega); clear hSw; simp [f3] at q0 q1 q2; first | (go_simp; done) | (go_simp; with_reducible rfl))
    try simp only [List.setIfInBounds_toArray, List.set_cons_zero, List.set_cons_succ]
    refine hold_take (i := 20) (v := ?rv54) rfl rfl (by kernel_rfl) (by kernel_rfl) (by kernel_rfl) (fun _ _ _ h => h) (Or.inl ⟨by rfl, ?rhy54⟩) hHeld ?rrest54
    case rhy54 => (intro w hSw; have q0 := hSw.cell (i := 0) (by omega); have q1 := hSw.cell (i := 1) (by omega); have q2 := hSw.cell (i := 2) (by omega); clear hSw; simp [f3] at q0 q1 q2; first | (go_simp; done) | (go_simp; with_reducible rfl))
    try simp only [List.setIfInBounds_toArray, List.set_cons_zero, List.set_cons_succ]
    refine hold_take (i := 21) (v := ?rv55) rfl rfl (by kernel_rfl) (by kernel_rfl) (by kernel_rfl) (fun _ _ _ h => h) (Or.inl ⟨by rfl, ?rhy55⟩) hHeld ?rrest55
    case rhy55 => (intro w hSw; have q0 := hSw.cell (i := 0) (by omega); have q1 := hSw.cell (i := 1) (by omega); have q2 := hSw.cell (i := 2) (by omega); clear hSw; simp [f3] at q0 q1 q2; first | (go_simp; done) | (go_simp; with_reducible rfl))
    try simp only [List.setIfInBounds_toArray, List.set_cons_zero, List.set_cons_succ]
    refine wpAnyH_ready (rs := [22]) (by kernel_rfl) (by simp) ?_
    refine AllReadyH.cons rfl (fun K hK => ?_) AllReadyH.nil
    go_simp
    go_wp2_with (go_at_call 8; refine (one_any _).mono ?_; rintro e w6 ⟨g6, rfl, hp6, hk6⟩)
    have hnew := rowK hHeld hk6
    have KK := Hid.mk' (KK.out.tr hk6)
    have PP := Hid.mk' (PP.out.kept hk6)
    have P6 := Hid.mk' hp6
    refine hK.out _ _ hnew (fun hHeld => ?_)
    clear hK K hnew hk6 hp6
    refine wpAnyH_ready (rs := [23]) (by kernel_rfl) (by simp) ?_
    refine AllReadyH.cons rfl (fun K hK => ?_) AllReadyH.nil
    go_simp
    go_wp2_with (go_at_call 21; refine (rsamePlans_yes PP.out P6.out).mono ?_; rintro e w7 ⟨rfl, hk7⟩)
    have hnew := rowK hHeld hk7
    have KK := Hid.mk' (KK.out.tr hk7)
    refine hK.out _ _ hnew (fun hHeld => ?_)
    clear hK K hnew hk7
    refine hold_take (i := 24) (v := ?rv56) rfl rfl (by kernel_rfl) (by kernel_rfl) (by kernel_rfl) (fun _ _ _ h => h) (Or.inl ⟨by rfl, ?rhy56⟩) hHeld ?rrest56
    case rhy56 => (intro w hSw; have q0 := hSw.cell (i := 0) (by omega); have q1 := hSw.cell (i := 1) (by omega); have q2 := hSw.cell (i := 2) (by omega); clear hSw; simp [f3] at q0 q1 q2; first | (go_simp; done) | (go_simp; with_reducible rfl))
    try simp only [List.setIfInBounds_toArray, List.set_cons_zero, List.set_cons_succ]
    refine hold_take (i := 25) (v := ?rv57) rfl rfl (by kernel_rfl) (by kernel_rfl) (by kernel_rfl) (fun _ _ _ h => h) (Or.inl ⟨by rfl, ?rhy57⟩) hHeld ?rrest57
    case rhy57 => (intro w hSw; have q0 := hSw.cell (i := 0) (by omega); have q1 := hSw.cell (i := 1) (by omega); have q2 := hSw.cell (i := 2) (by omega); clear hSw; simp [f3] at q0 q1 q2; first | (go_simp; done) | (go_simp; with_reducible rfl))
    try simp only [List.setIfInBounds_toArray, List.set_cons_zero, List.set_cons_succ]
    refine wpAnyH_done (by kernel_rfl) ?_ _
    go_wp2
    go_ret
    exact ⟨rfl, KK.out⟩

end Go.Proofs.Ytabikoipjaggbaa
