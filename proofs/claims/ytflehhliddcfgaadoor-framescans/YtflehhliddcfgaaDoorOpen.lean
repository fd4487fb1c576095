/-
  THE CONTRACT of frame.Open.
-/
import Derived.Test.YtflehhliddcfgaaDoorWrite
namespace Go.Proofs.YtflehhliddcfgaaDoor
open Go.RowKit Go.Lib Go.Deep
set_option linter.unusedVariables false
set_option linter.unusedSimpArgs false

theorem By.drop {w : World} {b off len : Nat} {L : List Nat} (h : By w (some ⟨b, off, none⟩) len L) (k : Nat) (hk : k ≤ len) : By w (some ⟨b, off + k, none⟩) (len - k) (L.drop k) := by
  obtain ⟨h1, h2, h3, h4⟩ := h
  refine ⟨by simp; omega, by omega, fun x hx => h3 x (List.mem_of_mem_drop hx), fun hp => ?_⟩
  obtain ⟨b', off', e, hb, hc⟩ := h4 (by omega)
  injection e with e
  injection e with e1 e2
  subst e1 e2
  refine ⟨b, off + k, rfl, hb, fun i hi => ?_⟩
  rw [Nat.add_assoc, hc (k + i) (by omega)]
  simp
set_option maxRecDepth 100000 in
set_option maxHeartbeats 1000000 in
theorem open_no {a : Option Addr} {len c : Nat} (w : World) (h : len < 9 ∨ 521 < len) (h2 : len ≤ 9223372036854775807) :
    Calls Tryd.prog 12 #[.slice a len c] w fun e w' => e = .returned (.tuple #[.agg #[.int .u8 0, .int .u32 0, .slice none 0 0], .int .i64 8]) ∧ Kept w w' none := by
  by_cases h9 : len < 9
  · go_enter Tryd.func12, Tryd.ntmps12
    go_wp2
    exact bodyPost_ret (v := .tuple #[.agg #[.int .u8 0, .int .u32 0, .slice none 0 0], .int .i64 8]) (by simp [results, Tryd.results12, go_sem]) rfl ⟨rfl, Kept.alloc _ _ _ _ _⟩
  · have h5 : 521 < len := by omega
    clear h
    go_enter Tryd.func12, Tryd.ntmps12
    go_wp2
    exact bodyPost_ret (v := .tuple #[.agg #[.int .u8 0, .int .u32 0, .slice none 0 0], .int .i64 8]) (by simp [results, Tryd.results12, go_sem]) rfl ⟨rfl, Kept.alloc _ _ _ _ _⟩
/-- A struct's cells of the call's own. -/
structure Box (w : World) (b : Nat) (v0 v1 v2 : Value) : Prop where
  c0 : w.cell? ⟨b, 0, none⟩ = some v0
  c1 : w.cell? ⟨b, 1, none⟩ = some v1
  c2 : w.cell? ⟨b, 2, none⟩ = some v2
  f0 : w.frozen? ⟨b, 0, none⟩ = false
  f1 : w.frozen? ⟨b, 1, none⟩ = false
  f2 : w.frozen? ⟨b, 2, none⟩ = false
  lt : b < w.heap.size
theorem box_alloc (w : World) (v0 v1 v2 : Value) (t : TypeId) : Box (w.alloc (.cells #[v0, v1, v2] t)) w.heap.size v0 v1 v2 := by
  have h := heap_alloc_new w (.cells #[v0, v1, v2] t)
  exact ⟨World.cell?_alloc_mark .., World.cell?_alloc_mark .., World.cell?_alloc_mark .., by simp only [World.frozen?, h]; rfl, by simp only [World.frozen?, h]; rfl, by simp only [World.frozen?, h]; rfl, by simp⟩
theorem Box.kept {w w' : World} {b : Nat} {v0 v1 v2 : Value} (h : Box w b v0 v1 v2) (k : Kept w w' none) : Box w' b v0 v1 v2 :=
  ⟨(cell_kept k h.lt).trans h.c0, (cell_kept k h.lt).trans h.c1, (cell_kept k h.lt).trans h.c2, (frozen_kept k h.lt).trans h.f0, (frozen_kept k h.lt).trans h.f1, (frozen_kept k h.lt).trans h.f2, Nat.lt_of_lt_of_le h.lt k.size⟩
theorem Kept.set3 {a b : World} (h : Kept a b none) {g : Nat} (hg : a.heap.size ≤ g) (v0 v1 v2 : Value) : Kept a (((b.setCell ⟨g, 0, none⟩ v0).setCell ⟨g, 1, none⟩ v1).setCell ⟨g, 2, none⟩ v2) none :=
  ((h.setNew (p := ⟨g, 0, none⟩) hg v0).setNew (p := ⟨g, 1, none⟩) hg v1).setNew (p := ⟨g, 2, none⟩) hg v2
theorem Mine.set {w : World} {base : Nat} {a : Option Addr} {n cap : Nat} {L : List Nat} (h : Mine w base a n cap L) {g : Nat} (hg : g < base) (o : Nat) (v : Value) : Mine (w.setCell ⟨g, o, none⟩ v) base a n cap L :=
  ⟨own_sep h.own (Sep.set w g o v) (fun i hi e => by have := h.new i hi; omega), h.nil, h.room, h.max⟩
theorem Mine.set3 {w : World} {base : Nat} {a : Option Addr} {n cap : Nat} {L : List Nat} (h : Mine w base a n cap L) {g : Nat} (hg : g < base) (v0 v1 v2 : Value) : Mine (((w.setCell ⟨g, 0, none⟩ v0).setCell ⟨g, 1, none⟩ v1).setCell ⟨g, 2, none⟩ v2) base a n cap L :=
  ((h.set hg 0 v0).set hg 1 v1).set hg 2 v2
theorem wrap32n (q : Nat) (h : q < 4294967296) : IntKind.u32.wrap (q : Int) = (q : Int) := by
  simp [IntKind.wrap, IntKind.bits, IntKind.signed]; omega
set_option maxRecDepth 100000 in
set_option maxHeartbeats 1000000 in
theorem open_bad {b off len c : Nat} {L : List Nat} {w : World} (hC : Come w (some ⟨b, off, none⟩) len c L) (h9 : 9 ≤ len) (h5 : len ≤ 521) (ht : Table w) (hne : tolds L ≠ leb 4 (sumB (told L))) :
    Calls Tryd.prog 12 #[.slice (some ⟨b, off, none⟩) len c] w fun e w' => e = .returned (.tuple #[.agg #[.int .u8 0, .int .u32 0, .slice none 0 0], .int .i64 8]) ∧ Kept w w' none := by
  have HT : Hid (Table w) := ht
  have hr := hC.room
  have hmx := hC.max
  have hL := hC.by_.size
  have HD : Hid (decide (tolds L = leb 4 (sumB (told L))) = false) := decide_eq_false hne
  have B1 : Hid (By w (some ⟨b, off, none⟩) (len - 4) (told L)) := by
    have := hC.by_.take (len - 4) (by omega)
    unfold told; rw [hL]; exact this
  have B2 : Hid (By w (some ⟨b, off + (len - 4), none⟩) (len - (len - 4)) (tolds L)) := by
    have := hC.by_.drop (len - 4) (by omega)
    unfold tolds; rw [hL]; exact this
  have HS : Hid (sumB (told L) < 4294967296) := sumB_lt _ (told_lt hC.by_.lt)
  clear hC ht hne hL
  go_enter Tryd.func12, Tryd.ntmps12
  go_wp2
  go_quiet (fail)
  have hB0 : Box ((w.alloc (.cells #[.int .u8 0, .int .u32 0, .slice none 0 0] 30)).drewN nq) w.heap.size (.int .u8 0) (.int .u32 0) (.slice none 0 0) := (box_alloc w _ _ _ 30).kept (Kept.drewN _ _ _)
  have hkW : Kept w ((w.alloc (.cells #[.int .u8 0, .int .u32 0, .slice none 0 0] 30)).drewN nq) none := (Kept.alloc _ _ _ _ _).tr (Kept.drewN _ _ _)
  generalize (w.alloc (.cells #[.int .u8 0, .int .u32 0, .slice none 0 0] 30)).drewN nq = W at *
  go_wp2_with (first
    | (have hgo := hk2; clear hgo; go_at_call 32; refine (equal_any (B2.out.kept (hkW.tr (hk1.tr hk2))) hB2).mono ?_; rintro e w2 ⟨rfl, rfl⟩; rw [HD.out]; have hX := hB0.kept (hk1.tr hk2); have x0 := hX.c0; have x1 := hX.c1; have x2 := hX.c2; have y0 := hX.f0; have y1 := hX.f1; have y2 := hX.f2)
    | (have hgo := hk1; clear hgo; go_at_call 33; refine (four_any (sumB (told L)) _ HS.out).mono ?_; rintro e w2 ⟨rfl, hB2, hk2⟩)
    | (go_at_call 34; refine (sum_any (B1.out.kept hkW) (HT.out.kept hkW)).mono ?_; rintro e w1 ⟨rfl, hk1'⟩; have hk1 : Kept W w1 none := by obtain ⟨mm, rfl⟩ := hk1'; exact Kept.drewN _ _ _))
  exact bodyPost_ret (v := .tuple #[.agg #[.int .u8 0, .int .u32 0, .slice none 0 0], .int .i64 8]) (by simp [results, Tryd.results12, go_sem, x0, x1, x2]) rfl ⟨rfl, (hkW.tr (hk1.tr hk2)).set3 (Nat.le_refl _) _ _ _⟩

set_option maxRecDepth 100000 in
set_option maxHeartbeats 1000000 in
theorem open_yes {b off len c : Nat} {L : List Nat} {w : World} (hC : Come w (some ⟨b, off, none⟩) len c L) (h9 : 9 ≤ len) (h5 : len ≤ 521) (ht : Table w) (hne : tolds L = leb 4 (sumB (told L))) :
    Calls Tryd.prog 12 #[.slice (some ⟨b, off, none⟩) len c] w fun e w' => ∃ a' c', e = .returned (.tuple #[.agg #[.int .u8 (((told L).getD 0 0 : Nat) : Int), .int .u32 ((v256 (((told L).take 5).drop 1) : Nat) : Int), .slice a' (len - 9) c'], .int .i64 0]) ∧ Mine w' w.heap.size a' (len - 9) c' ((told L).drop 5) ∧ Kept w w' none := by
  have HT : Hid (Table w) := ht
  have hr := hC.room
  have hmx := hC.max
  have hL := hC.by_.size
  have HD : Hid (decide (tolds L = leb 4 (sumB (told L))) = true) := decide_eq_true hne
  have B1 : Hid (By w (some ⟨b, off, none⟩) (len - 4) (told L)) := by
    have := hC.by_.take (len - 4) (by omega)
    unfold told; rw [hL]; exact this
  have B2 : Hid (By w (some ⟨b, off + (len - 4), none⟩) (len - (len - 4)) (tolds L)) := by
    have := hC.by_.drop (len - 4) (by omega)
    unfold tolds; rw [hL]; exact this
  have B3 : Hid (By w (some ⟨b, off + 1, none⟩) 4 (((told L).take 5).drop 1)) := (B1.out.take 5 (by omega)).drop 1 (by omega)
  have B4 : Hid (Come w (some ⟨b, off + 5, none⟩) (len - 4 - 5) (c - 5) ((told L).drop 5)) := ⟨B1.out.drop 5 (by omega), (fun e => nomatch e), by omega, by omega⟩
  have HS : Hid (sumB (told L) < 4294967296) := sumB_lt _ (told_lt hC.by_.lt)
  have hq : v256 (((told L).take 5).drop 1) < 4294967296 := by
    have := v256_lt _ B3.out.lt
    rw [B3.out.size] at this
    exact this
  obtain ⟨b', off', e, hb, hcell⟩ := B1.out.at_ (by omega)
  injection e with e
  injection e with e1 e2
  subst e1 e2
  have hc0 := hcell 0 (by omega)
  rw [Nat.add_zero] at hc0
  have hk := B1.out.getD 0
  obtain ⟨q, hqe⟩ : ∃ q, q = v256 (((told L).take 5).drop 1) := ⟨_, rfl⟩
  obtain ⟨k, hke⟩ : ∃ k, k = (told L).getD 0 0 := ⟨_, rfl⟩
  have HQ : Hid (q = v256 (((told L).take 5).drop 1)) := hqe
  rw [← hqe] at hq ⊢
  rw [← hke] at hc0 hk ⊢
  clear hC ht hne hL hcell hqe hke
  go_enter Tryd.func12, Tryd.ntmps12
  go_wp2
  go_quiet (fail)
  have hB0 : Box ((w.alloc (.cells #[.int .u8 0, .int .u32 0, .slice none 0 0] 30)).drewN nq) w.heap.size (.int .u8 0) (.int .u32 0) (.slice none 0 0) := (box_alloc w _ _ _ 30).kept (Kept.drewN _ _ _)
  have hkW : Kept w ((w.alloc (.cells #[.int .u8 0, .int .u32 0, .slice none 0 0] 30)).drewN nq) none := (Kept.alloc _ _ _ _ _).tr (Kept.drewN _ _ _)
  generalize (w.alloc (.cells #[.int .u8 0, .int .u32 0, .slice none 0 0] 30)).drewN nq = W at *
  go_wp2_with (first
    | (have hgo := hX; clear hgo; go_at_call 35; refine (get_yes (B3.out.kept (hkW.tr hk12)) (by omega) (by omega)).mono ?_; rintro e w3 ⟨rfl, hk3'⟩; rw [← HQ.out]; have hk3 : Kept w2 w3 none := by obtain ⟨mm, rfl⟩ := hk3'; exact Kept.drewN _ _ _)
    | (have hgo := hk2; clear hgo; go_at_call 32; refine (equal_any (B2.out.kept (hkW.tr (hk1.tr hk2))) hB2).mono ?_; rintro e w2 ⟨rfl, rfl⟩; rw [HD.out]; have hk12 := hk1.tr hk2; have hX := hB0.kept hk12)
    | (have hgo := hk1; clear hgo; go_at_call 33; refine (four_any (sumB (told L)) _ HS.out).mono ?_; rintro e w2 ⟨rfl, hB2, hk2⟩)
    | (go_at_call 34; refine (sum_any (B1.out.kept hkW) (HT.out.kept hkW)).mono ?_; rintro e w1 ⟨rfl, hk1'⟩; have hk1 : Kept W w1 none := by obtain ⟨mm, rfl⟩ := hk1'; exact Kept.drewN _ _ _))
  have hK3 : Kept w w3 none := hkW.tr (hk12.tr hk3)
  have hX3 := hX.kept hk3
  have z0 : w3.cell? ⟨b, off, none⟩ = some (.int .u8 (k : Int)) := (cell_kept hK3 hb).trans hc0
  clear hk12 hk3 hX hk1' hk1 hk2 hB2 hB0 hkW hk3'
  have g1 : (0 : Int) < ((len - 4 : Nat) : Int) := by omega
  have g2 : (5 : Int) ≤ ((len - 4 : Nat) : Int) := by omega
  have g3 : 0 < len - 4 := by omega
  have g4 : ¬ c = 5 := by omega
  have HR : Hid (∀ w', Kept w w' none → w'.cell? ⟨b, off, none⟩ = some (.int .u8 (k : Int)) ∧ Kept w w' none) := fun w' h => ⟨(cell_kept h hb).trans hc0, h⟩
  go_region_held3 (fun w' => w'.cell? ⟨b, off, none⟩ = some (.int .u8 (k : Int)) ∧ Kept w w' none)
    ((refine HR.out _ ?_; (first | exact hK3 | exact hK3.tr (Kept.drew _ _) | exact hK3.tr hK4 | exact (hK3.tr hK4).set3 (Nat.le_refl _) _ _ _)))
    (first
      | (go_at_call 36; refine (clone_any (B4.out.kept (hK3.tr (Kept.drew _ _))) (by omega)).mono ?_; rintro e w4 ⟨a4, c4, rfl, hm4, hk4⟩; have hK4 : Kept w3 w4 none := (Kept.drew _ _).tr hk4; have hX4 := hX3.kept hK4; have x0 := hX4.c0; have x1 := hX4.c1; have x2 := hX4.c2; have y0 := hX4.f0; have y1 := hX4.f1; have y2 := hX4.f2))
  go_wp2
  have hwr := wrap32n q hq
  rw [show len - 9 = len - 4 - 5 by omega]
  refine bodyPost_ret (v := .tuple #[.agg #[.int .u8 (k : Int), .int .u32 (q : Int), .slice a4 (len - 4 - 5) c4], .int .i64 0]) (by simp [results, Tryd.results12, go_sem, x0, x1, x2, hwr]) rfl ⟨a4, c4, rfl, ?_, (hK3.tr hK4).set3 (Nat.le_refl _) _ _ _⟩
  exact (hm4.set3 (show w.heap.size < w3.drew.heap.size from hX3.lt) _ _ _).lower (show w.heap.size ≤ w3.drew.heap.size from hK3.size)
theorem opnM_body (L : List Nat) (h : opnB L = true) : (opnM L).2.2 = (told L).drop 5 := by unfold opnM; rw [if_pos h]
theorem open_any {a : Option Addr} {len c : Nat} {L : List Nat} {w : World} (hC : Come w a len c L) (ht : Table w) :
    Calls Tryd.prog 12 #[.slice a len c] w fun e w' => ∃ a' c', e = .returned (.tuple #[msgV (opnM L) a' (opnM L).2.2.length c', .int .i64 ((opnE L : Nat) : Int)]) ∧ Mine w' w.heap.size a' (opnM L).2.2.length c' (opnM L).2.2 ∧ Kept w w' none := by
  have hl := hC.by_.size
  have hno : opnB L = false → ∀ (w' : World), Kept w w' none → ∃ a' c', Ending.returned (.tuple #[.agg #[.int .u8 0, .int .u32 0, .slice none 0 0], .int .i64 8]) = Ending.returned (.tuple #[msgV (opnM L) a' (opnM L).2.2.length c', .int .i64 ((opnE L : Nat) : Int)]) ∧ Mine w' w.heap.size a' (opnM L).2.2.length c' (opnM L).2.2 ∧ Kept w w' none := by
    intro hB w' hk
    unfold opnM opnE
    rw [hB]
    exact ⟨none, 0, rfl, ⟨World.ownsRow_nil _ _ _ _, fun _ => ⟨rfl, rfl⟩, Nat.le_refl _, by omega⟩, hk⟩
  by_cases h9 : 9 ≤ len
  · by_cases h5 : len ≤ 521
    · obtain ⟨b, off, rfl, _⟩ := hC.by_.at_ (by omega)
      by_cases hs : tolds L = leb 4 (sumB (told L))
      · have hB : opnB L = true := (opnB_iff L).2 ⟨by omega, by omega, hs⟩
        refine (open_yes hC h9 h5 ht hs).mono ?_
        rintro e w' ⟨a', c', rfl, hm, hk⟩
        have h2 : ((told L).drop 5).length = len - 9 := by simp [told_len]; omega
        refine ⟨a', c', ?_, ?_, hk⟩
        · unfold opnM opnE
          rw [if_pos hB, if_pos hB]
          simp only [h2]
          rfl
        · rw [opnM_body L hB, h2]; exact hm
      · have hB : opnB L = false := by
          cases e : opnB L with
          | false => rfl
          | true => exact absurd ((opnB_iff L).1 e).2.2 hs
        refine (open_bad hC h9 h5 ht hs).mono ?_
        rintro e w' ⟨rfl, hk⟩
        exact hno hB w' hk
    · have hB : opnB L = false := by
        cases e : opnB L with
        | false => rfl
        | true => have := (opnB_iff L).1 e; omega
      refine (open_no w (by omega) (by have := hC.room; have := hC.max; omega)).mono ?_
      rintro e w' ⟨rfl, hk⟩
      exact hno hB w' hk
  · have hB : opnB L = false := by
      cases e : opnB L with
      | false => rfl
      | true => have := (opnB_iff L).1 e; omega
    refine (open_no w (by omega) (by omega)).mono ?_
    rintro e w' ⟨rfl, hk⟩
    exact hno hB w' hk

end Go.Proofs.YtflehhliddcfgaaDoor
