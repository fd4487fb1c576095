/-
  LampRuns' walk: whatever is asked, tick by tick.
-/
import Derived.Test.YtpokkeobnflijaaLampA
import Derived.Test.YtpokkeobnflijaaLampK
import Derived.Deep.RegionHeld
namespace Go.Proofs.Ytpokkeobnflijaa
open Go.RowKit Go.Lib Go.Deep
set_option linter.unusedVariables false
set_option linter.unusedSimpArgs false

theorem Box.s0 {w : World} {b : Nat} {v0 v1 v2 : Value} (h : Box w b v0 v1 v2) (u : Value) : Box (w.setCell ⟨b, 0, none⟩ u) b u v1 v2 :=
  ⟨World.cell?_setCell_same _ _ _ h.c0, (World.cell?_setCell_other _ _ _ _ (by simp)).trans h.c1, (World.cell?_setCell_other _ _ _ _ (by simp)).trans h.c2, by rw [World.frozen?_setCell]; exact h.f0, by rw [World.frozen?_setCell]; exact h.f1, by rw [World.frozen?_setCell]; exact h.f2, by simpa [World.setCell] using h.lt⟩
theorem Box.s1 {w : World} {b : Nat} {v0 v1 v2 : Value} (h : Box w b v0 v1 v2) (u : Value) : Box (w.setCell ⟨b, 1, none⟩ u) b v0 u v2 :=
  ⟨(World.cell?_setCell_other _ _ _ _ (by simp)).trans h.c0, World.cell?_setCell_same _ _ _ h.c1, (World.cell?_setCell_other _ _ _ _ (by simp)).trans h.c2, by rw [World.frozen?_setCell]; exact h.f0, by rw [World.frozen?_setCell]; exact h.f1, by rw [World.frozen?_setCell]; exact h.f2, by simpa [World.setCell] using h.lt⟩
theorem Box.s2 {w : World} {b : Nat} {v0 v1 v2 : Value} (h : Box w b v0 v1 v2) (u : Value) : Box (w.setCell ⟨b, 2, none⟩ u) b v0 v1 u :=
  ⟨(World.cell?_setCell_other _ _ _ _ (by simp)).trans h.c0, (World.cell?_setCell_other _ _ _ _ (by simp)).trans h.c1, World.cell?_setCell_same _ _ _ h.c2, by rw [World.frozen?_setCell]; exact h.f0, by rw [World.frozen?_setCell]; exact h.f1, by rw [World.frozen?_setCell]; exact h.f2, by simpa [World.setCell] using h.lt⟩
theorem Box.far {w : World} {g : Nat} {v0 v1 v2 : Value} (h : Box w g v0 v1 v2) {b : Nat} (hne : b ≠ g) (i : Nat) (u : Value) : Box (w.setCell ⟨b, i, none⟩ u) g v0 v1 v2 :=
  ⟨(World.cell?_setCell_other _ _ _ _ (by simp [hne])).trans h.c0, (World.cell?_setCell_other _ _ _ _ (by simp [hne])).trans h.c1, (World.cell?_setCell_other _ _ _ _ (by simp [hne])).trans h.c2, by rw [World.frozen?_setCell]; exact h.f0, by rw [World.frozen?_setCell]; exact h.f1, by rw [World.frozen?_setCell]; exact h.f2, by simpa [World.setCell] using h.lt⟩
/-- All that is known between two ticks: the group's cells, the standing's, what was there. -/
structure Lst (w wr : World) (B : Nat) (k m y p l e : Int) : Prop where
  kept : Kept w wr none
  g : Box wr w.heap.size (.int .u8 k) (.int .i64 m) (.int .i64 y)
  s : Box wr B (.int .u8 p) (.int .i64 l) (.int .i64 e)
  new : w.heap.size < B
theorem Lst.tr {w wr w' : World} {B : Nat} {k m y p l e : Int} (h : Lst w wr B k m y p l e) (q : Kept wr w' none) : Lst w w' B k m y p l e := ⟨h.kept.tr q, h.g.kept q, h.s.kept q, h.new⟩
theorem Lst.set {w wr : World} {B : Nat} {k m y p l e : Int} (h : Lst w wr B k m y p l e) (p' l' e' : Int) : Lst w (((wr.setCell ⟨B, 0, none⟩ (.int .u8 p')).setCell ⟨B, 1, none⟩ (.int .i64 l')).setCell ⟨B, 2, none⟩ (.int .i64 e')) B k m y p' l' e' := by
  have hne : B ≠ w.heap.size := by have := h.new; omega
  have hle : w.heap.size ≤ B := by have := h.new; omega
  exact ⟨((h.kept.setNew (p := ⟨B, 0, none⟩) hle _).setNew (p := ⟨B, 1, none⟩) hle _).setNew (p := ⟨B, 2, none⟩) hle _, ((h.g.far hne 0 _).far hne 1 _).far hne 2 _, ((h.s.s0 _).s1 _).s2 _, h.new⟩
/-- The numbers between two ticks: behind k ticks aspect p for l ticks. -/
structure Run (y p l : Int) (k : Nat) : Prop where
  p1 : 1 ≤ p
  p3 : p ≤ 3
  l1 : 1 ≤ l
  lk : l ≤ (k : Int) + 1
  yl : p = 3 → l ≤ max 1 y

theorem runs_long (k m y : Int) {a : Option Addr} {len cap : Nat} (w : World) (h : 4000 < len) (hl : len ≤ 9223372036854775807) : Calls Try.prog 6 #[grpV k m y, .slice a len cap] w fun e' w' => e' = .returned (.bool true) ∧ Kept w w' none := by
  go_enter Try.func6, Try.ntmps6
  go_wp2_with (go_at_call 10; refine (alive_any _).mono ?_; rintro e1 w1 ⟨rfl, hk1⟩)
  go_ret
  exact ⟨rfl, (Kept.alloc _ _ _ _ _).tr hk1⟩
theorem run_step {m y p l q : Int} {i : Nat} (hR : Run y p l i) (hi : i < 4000) : (wantV m y p l q = p ∧ sinceV p l p = l + 1 ∧ Run y p (l + 1) (i + 1)) ∨ (p = 1 ∧ wantV m y 1 l q = 2 ∧ Run y 2 1 (i + 1)) ∨ (p = 2 ∧ wantV m y 2 l q = 3 ∧ m ≤ l ∧ Run y 3 1 (i + 1)) ∨ (p = 3 ∧ wantV m y 3 l q = 1 ∧ l = max 1 y ∧ Run y 1 1 (i + 1)) := by
  obtain ⟨h1, h2, h3, h4, h5⟩ := hR
  have hs : stp l = l := stp_id (by omega) (by omega)
  have hm : sinceV p l p = l + 1 := by unfold sinceV more; rw [if_pos rfl, hs, if_pos (by omega)]
  have hp : p = 1 ∨ p = 2 ∨ p = 3 := by omega
  unfold wantV
  rw [hs]
  rcases hp with rfl | rfl | rfl
  · by_cases hq : q = 2
    · exact .inr (.inl ⟨rfl, by simp [hq], ⟨by omega, by omega, by omega, by omega, fun h => absurd h (by decide)⟩⟩)
    · exact .inl ⟨by simp [hq], hm, ⟨by omega, by omega, by omega, by omega, fun h => absurd h (by decide)⟩⟩
  · by_cases hq : q = 2
    · exact .inl ⟨by simp [hq], hm, ⟨by omega, by omega, by omega, by omega, fun h => absurd h (by decide)⟩⟩
    · by_cases hl : l < m
      · exact .inl ⟨by simp [hl], hm, ⟨by omega, by omega, by omega, by omega, fun h => absurd h (by decide)⟩⟩
      · exact .inr (.inr (.inl ⟨rfl, by simp [hq, hl], by omega, ⟨by omega, by omega, by omega, by omega, fun h => by omega⟩⟩))
  · have := h5 rfl
    by_cases hl : l < y
    · exact .inl ⟨by simp [hl], hm, ⟨by omega, by omega, by omega, by omega, fun h => by omega⟩⟩
    · exact .inr (.inr (.inr ⟨rfl, by simp [hl], by omega, ⟨by omega, by omega, by omega, by omega, fun h => absurd h (by decide)⟩⟩))
theorem runs_zero (k m y : Int) {a : Option Addr} {cap : Nat} (w : World) : Calls Try.prog 6 #[grpV k m y, .slice a 0 cap] w fun e' w' => e' = .returned (.bool true) ∧ Kept w w' none := by
  go_enter Try.func6, Try.ntmps6
  go_wp2_with (go_at_call 10; refine (alive_any _).mono ?_; rintro e1 w1 ⟨rfl, hk1⟩)
  have K := ((Kept.alloc w #[.int .u8 k, .int .i64 m, .int .i64 y] 23 (0, 0) none).tr hk1).tr (Kept.alloc w1 #[.int .u8 1, .int .i64 1, .int .i64 5] 26 (0, 0) none)
  go_loopw [7, 8] (fun lv iv wr => iv = .int .i64 0 ∧ Kept w wr none) (fun _ _ _ => 0)
  case atStart => exact ⟨rfl, K⟩
  case round =>
    obtain ⟨rfl, hkr⟩ := hrel
    go_wp2
    go_ret
    exact ⟨rfl, hkr⟩
set_option maxHeartbeats 8000000 in
theorem runs_main (k m y : Int) {b off len cap : Nat} {L : List Nat} (w : World) (h : len ≤ 4000) (hby : By w (some ⟨b, off, none⟩) len L) : Calls Try.prog 6 #[grpV k m y, .slice (some ⟨b, off, none⟩) len cap] w fun e' w' => e' = .returned (.bool true) ∧ Kept w w' none := by
  have HBY : Hid (By w (some ⟨b, off, none⟩) len L) := hby
  clear hby
  go_enter Try.func6, Try.ntmps6
  go_wp2_with (go_at_call 10; refine (alive_any _).mono ?_; rintro e1 w1 ⟨rfl, hk1⟩; have HB1 := (box_alloc w (.int .u8 k) (.int .i64 m) (.int .i64 y) 23).kept hk1)
  have hL1 : Lst w (w1.alloc (.cells #[.int .u8 1, .int .i64 1, .int .i64 5] 26)) w1.heap.size k m y 1 1 5 :=
    ⟨((Kept.alloc _ _ _ _ _).tr hk1).tr (Kept.alloc _ _ _ _ _), HB1.kept (Kept.alloc _ _ _ _ _), box_alloc w1 _ _ _ _, HB1.lt⟩
  clear HB1 hk1
  obtain ⟨B, hBe⟩ : ∃ B, B = w1.heap.size := ⟨_, rfl⟩
  rw [← hBe] at hL1 ⊢
  have hBn := hL1.new
  go_loopw [7, 8] (fun lv iv wr => ∃ (i : Nat) (p l e : Int), i ≤ len ∧ iv = .int .i64 i ∧ lv = .int .i64 l ∧ Run y p l i ∧ Lst w wr B k m y p l e) (fun _ iv _ => len - (intOf iv).toNat)
  case atStart => exact ⟨0, 1, 1, 5, Nat.zero_le _, rfl, rfl, ⟨by omega, by omega, by omega, by omega, fun h => absurd h (by decide)⟩, hL1⟩
  case round =>
    obtain ⟨i, p, l, e, hi, rfl, rfl, hR, hLs⟩ := hrel
    clear hL1 hBe
    by_cases hlt : i < len
    case neg =>
      have hie : i = len := by omega
      subst hie
      have K := hLs.kept
      go_wp2
      go_ret
      exact ⟨rfl, K⟩
    case pos =>
      have hlb1 := hR.l1
      have hlb2 : l ≤ 4001 := by have := hR.lk; omega
      obtain ⟨q, hq⟩ : ∃ q : Int, q = ((L.getD i 0 : Nat) : Int) := ⟨_, rfl⟩
      have g0 : ∀ w', Kept wr w' none → w'.cell? ⟨b, off + i, none⟩ = some (.int .u8 q) := fun w' z => by
        obtain ⟨b', o', e', _, hc⟩ := (HBY.out.kept (hLs.kept.tr z)).at_ (by omega)
        injection e' with e'; injection e' with e1 e2
        subst e1 e2
        rw [hq]; exact hc i hlt
      clear hq
      have x0 : ∀ w', Kept wr w' none → w'.cell? ⟨w.heap.size, 0, none⟩ = some (.int .u8 k) := fun w' z => (hLs.tr z).g.c0
      have x1 : ∀ w', Kept wr w' none → w'.cell? ⟨w.heap.size, 1, none⟩ = some (.int .i64 m) := fun w' z => (hLs.tr z).g.c1
      have x2 : ∀ w', Kept wr w' none → w'.cell? ⟨w.heap.size, 2, none⟩ = some (.int .i64 y) := fun w' z => (hLs.tr z).g.c2
      have z0 : ∀ w', Kept wr w' none → w'.cell? ⟨B, 0, none⟩ = some (.int .u8 p) := fun w' z => (hLs.tr z).s.c0
      have z1 : ∀ w', Kept wr w' none → w'.cell? ⟨B, 1, none⟩ = some (.int .i64 l) := fun w' z => (hLs.tr z).s.c1
      have z2 : ∀ w', Kept wr w' none → w'.cell? ⟨B, 2, none⟩ = some (.int .i64 e) := fun w' z => (hLs.tr z).s.c2
      have hst := run_step (m := m) (q := q) hR (by omega)
      clear hR
      rcases hst with hst | hst | hst | hst
      · obtain ⟨hwn, hsi, hrn⟩ := hst
        have HWN : Hid (wantV m y p l q = p) := hwn
        clear hwn
        obtain ⟨e', he'⟩ : ∃ e', e' = endedV e p := ⟨_, rfl⟩
        have HE : Hid (e' = endedV e p) := he'
        have HSI : Hid (sinceV p l p = l + 1) := hsi
        have HRN : Hid (Run y p (l + 1) (i + 1)) := hrn
        clear he' hsi hrn
        go_wp2_with fail
        go_region_held (fun w' => Kept wr w' none)
          ((first | exact Kept.refl _ _ | exact Kept.drew _ _ | assumption | exact Kept.tr (by assumption) (Kept.drew _ _)))
          ((go_at_call 7; refine (want_any _ _ _ _ _ _ _ _).mono ?_; rw [HWN.out]; rintro e2 w2 ⟨rfl, hk2⟩; have hK2 : Kept wr w2 none := Kept.tr (by assumption) hk2))
        have hL2 := hLs.tr hK2
        have x0' := hL2.g.c0
        have x1' := hL2.g.c1
        have x2' := hL2.g.c2
        have z0' := hL2.s.c0
        have z1' := hL2.s.c1
        have z2' := hL2.s.c2
        clear g0 x0 x1 x2 z0 z1 z2
        go_wp2_with (first
          | (go_at_call 9; refine (next_any _ _ _ _ _ _ _ _).mono ?_; rw [HSI.out, ← HE.out]; rintro e4 w4 ⟨rfl, hk4⟩; have hL4 := hL2.tr hk4; have y0 := hL4.s.c0; have y1 := hL4.s.c1; have y2 := hL4.s.c2; have f0 := hL4.s.f0; have f1 := hL4.s.f1; have f2 := hL4.s.f2))
        go_roundw
        case rel => exact ⟨i + 1, p, l + 1, e', by omega, by go_num, rfl, HRN.out, hL4.set _ _ _⟩
        case measure => simp [intOf]; omega
      · obtain ⟨rfl, hwn, hrn⟩ := hst
        have hsi : sinceV 1 l 2 = 1 := rfl
        have HWN : Hid (wantV m y 1 l q = 2) := hwn
        clear hwn
        obtain ⟨e', he'⟩ : ∃ e', e' = endedV e 2 := ⟨_, rfl⟩
        have HE : Hid (e' = endedV e 2) := he'
        have HSI : Hid (sinceV 1 l 2 = 1) := hsi
        have HRN : Hid (Run y 2 (1) (i + 1)) := hrn
        clear he' hsi hrn
        go_wp2_with fail
        go_region_held (fun w' => Kept wr w' none)
          ((first | exact Kept.refl _ _ | exact Kept.drew _ _ | assumption | exact Kept.tr (by assumption) (Kept.drew _ _)))
          ((go_at_call 7; refine (want_any _ _ _ _ _ _ _ _).mono ?_; rw [HWN.out]; rintro e2 w2 ⟨rfl, hk2⟩; have hK2 : Kept wr w2 none := Kept.tr (by assumption) hk2))
        have hL2 := hLs.tr hK2
        have x0' := hL2.g.c0
        have x1' := hL2.g.c1
        have x2' := hL2.g.c2
        have z0' := hL2.s.c0
        have z1' := hL2.s.c1
        have z2' := hL2.s.c2
        clear g0 x0 x1 x2 z0 z1 z2
        go_wp2_with (first
          | (go_at_call 9; refine (next_any _ _ _ _ _ _ _ _).mono ?_; rw [HSI.out, ← HE.out]; rintro e4 w4 ⟨rfl, hk4⟩; have hL4 := hL3.tr hk4; have y0 := hL4.s.c0; have y1 := hL4.s.c1; have y2 := hL4.s.c2; have f0 := hL4.s.f0; have f1 := hL4.s.f1; have f2 := hL4.s.f2)
          | (go_at_call 14; refine (follows_any _ _ _).mono ?_; rw [show folB 1 2 = true from rfl]; rintro e3 w3 ⟨rfl, hk3⟩; have hL3 := hL2.tr hk3; have x0 := hL3.g.c0; have x1 := hL3.g.c1; have x2 := hL3.g.c2; have z0 := hL3.s.c0; have z1 := hL3.s.c1; have z2 := hL3.s.c2))
        go_roundw
        case rel => exact ⟨i + 1, 2, 1, e', by omega, by go_num, rfl, HRN.out, hL4.set _ _ _⟩
        case measure => simp [intOf]; omega
      · obtain ⟨rfl, hwn, hml, hrn⟩ := hst
        have hsi : sinceV 2 l 3 = 1 := rfl
        have HWN : Hid (wantV m y 2 l q = 3) := hwn
        clear hwn
        obtain ⟨e', he'⟩ : ∃ e', e' = endedV e 3 := ⟨_, rfl⟩
        have HE : Hid (e' = endedV e 3) := he'
        have HSI : Hid (sinceV 2 l 3 = 1) := hsi
        have HRN : Hid (Run y 3 (1) (i + 1)) := hrn
        clear he' hsi hrn
        go_wp2_with fail
        go_region_held (fun w' => Kept wr w' none)
          ((first | exact Kept.refl _ _ | exact Kept.drew _ _ | assumption | exact Kept.tr (by assumption) (Kept.drew _ _)))
          ((go_at_call 7; refine (want_any _ _ _ _ _ _ _ _).mono ?_; rw [HWN.out]; rintro e2 w2 ⟨rfl, hk2⟩; have hK2 : Kept wr w2 none := Kept.tr (by assumption) hk2))
        have hL2 := hLs.tr hK2
        have x0' := hL2.g.c0
        have x1' := hL2.g.c1
        have x2' := hL2.g.c2
        have z0' := hL2.s.c0
        have z1' := hL2.s.c1
        have z2' := hL2.s.c2
        clear g0 x0 x1 x2 z0 z1 z2
        go_wp2_with (first
          | (go_at_call 9; refine (next_any _ _ _ _ _ _ _ _).mono ?_; rw [HSI.out, ← HE.out]; rintro e4 w4 ⟨rfl, hk4⟩; have hL4 := hL3.tr hk4; have y0 := hL4.s.c0; have y1 := hL4.s.c1; have y2 := hL4.s.c2; have f0 := hL4.s.f0; have f1 := hL4.s.f1; have f2 := hL4.s.f2)
          | (go_at_call 14; refine (follows_any _ _ _).mono ?_; rw [show folB 2 3 = true from rfl]; rintro e3 w3 ⟨rfl, hk3⟩; have hL3 := hL2.tr hk3; have x0 := hL3.g.c0; have x1 := hL3.g.c1; have x2 := hL3.g.c2; have z0 := hL3.s.c0; have z1 := hL3.s.c1; have z2 := hL3.s.c2))
        go_roundw
        case rel => exact ⟨i + 1, 3, 1, e', by omega, by go_num, rfl, HRN.out, hL4.set _ _ _⟩
        case measure => simp [intOf]; omega
      · obtain ⟨rfl, hwn, hly, hrn⟩ := hst
        have hsi : sinceV 3 l 1 = 1 := rfl
        replace hly := hly.symm
        have HWN : Hid (wantV m y 3 l q = 1) := hwn
        clear hwn
        obtain ⟨e', he'⟩ : ∃ e', e' = endedV e 1 := ⟨_, rfl⟩
        have HE : Hid (e' = endedV e 1) := he'
        have HSI : Hid (sinceV 3 l 1 = 1) := hsi
        have HRN : Hid (Run y 1 (1) (i + 1)) := hrn
        clear he' hsi hrn
        go_wp2_with fail
        go_region_held (fun w' => Kept wr w' none)
          ((first | exact Kept.refl _ _ | exact Kept.drew _ _ | assumption | exact Kept.tr (by assumption) (Kept.drew _ _)))
          ((go_at_call 7; refine (want_any _ _ _ _ _ _ _ _).mono ?_; rw [HWN.out]; rintro e2 w2 ⟨rfl, hk2⟩; have hK2 : Kept wr w2 none := Kept.tr (by assumption) hk2))
        have hL2 := hLs.tr hK2
        have x0' := hL2.g.c0
        have x1' := hL2.g.c1
        have x2' := hL2.g.c2
        have z0' := hL2.s.c0
        have z1' := hL2.s.c1
        have z2' := hL2.s.c2
        clear g0 x0 x1 x2 z0 z1 z2
        go_wp2_with (first
          | (go_at_call 9; refine (next_any _ _ _ _ _ _ _ _).mono ?_; rw [HSI.out, ← HE.out]; rintro e4 w4 ⟨rfl, hk4⟩; have hL4 := hL3.tr hk4; have y0 := hL4.s.c0; have y1 := hL4.s.c1; have y2 := hL4.s.c2; have f0 := hL4.s.f0; have f1 := hL4.s.f1; have f2 := hL4.s.f2)
          | (go_at_call 14; refine (follows_any _ _ _).mono ?_; rw [show folB 3 1 = true from rfl]; rintro e3 w3 ⟨rfl, hk3⟩; have hL3 := hL2.tr hk3; have x0 := hL3.g.c0; have x1 := hL3.g.c1; have x2 := hL3.g.c2; have z0 := hL3.s.c0; have z1 := hL3.s.c1; have z2 := hL3.s.c2))
        go_roundw
        case rel => exact ⟨i + 1, 1, 1, e', by omega, by go_num, rfl, HRN.out, hL4.set _ _ _⟩
        case measure => simp [intOf]; omega

end Go.Proofs.Ytpokkeobnflijaa
