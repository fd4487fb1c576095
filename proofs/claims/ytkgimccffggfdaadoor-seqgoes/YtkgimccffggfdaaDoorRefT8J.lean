/-
  Texts joined: some of those that the proofs of this seat stand on.
-/
import Derived.Test.YtkgimccffggfdaaDoorRefE8
import Derived.Laws.AppendOwnNone
/-
  THE DOCUMENT'S Twin of layer 8 (made by a program).
-/
namespace Go.Proofs.YtkgimccffggfdaaDoor
open Go.RowKit Go.Lib Go.Deep
set_option linter.unusedVariables false
set_option linter.unusedSimpArgs false

theorem SnS.whole {w : World} {base : Nat} {a : Option Addr} {c : Nat} {F : Sf} (hF : SafeAt w a c F) (hl : F.groups.length ≤ 900) (hb : base ≤ w.heap.size) :
    ∃ a' c' w', (Builtin.append_ #[24, 24] 24 #[.slice none 0 0, .slice a F.groups.length c]).run Tryd.prog w = .ok (.slice a' F.groups.length c') w' ∧ SnS w' base (.slice a' F.groups.length c') F.groups ∧ Kept w w' none := by
  obtain ⟨i, hi, hz, hs, hby⟩ := info_parts Tryd.infoSeen
  cases a with
  | none =>
    obtain ⟨h0, rfl⟩ := hF.cap.nil rfl
    have hrun := run_append_owned_none (P := Tryd.prog) (w := w) base 24 24 23 i 3 Tryd.underlying24 hi (.slice none 0 0) 0 _ (World.ownsRow_nil _ _ _ _)
    refine ⟨none, 0, w, ?_, ?_, Kept.refl _ _⟩
    · rw [h0]; exact hrun
    · have hg : F.groups = [] := List.length_eq_zero_iff.1 h0
      rw [hg]
      exact Ow8.nil ..
  | some ad =>
    have hnews : ∀ j u, (cellsL F.groups.length 3 (fun i j => snV (F.g i) j))[j]? = some u → w.cell? (ad.add j) = some u := by
      by_cases hp : 0 < F.groups.length
      · obtain ⟨b, off, e, _, hcell⟩ := hF.lie.at_ hp
        injection e with e
        subst e
        exact cellsL_news (by omega) hcell
      · intro j u hu
        rw [show F.groups.length = 0 by omega] at hu
        simp [cellsL] at hu
    have hbytes : (0 + F.groups.length) * 24 ≤ 140737488355328 := by omega
    obtain ⟨v', w', hr, g1, g2, _, g3⟩ := run_append_own_at (P := Tryd.prog) w base 24 24 23 i _ 3 24 Tryd.underlying24 hi hz hs hby rfl (by omega) (.slice none 0 0) 0 _ (World.ownsRow_nil _ _ _ _) ad F.groups.length c _ (by rw [cellsL_len]) hnews (cellsL_one (fun i j => by unfold snV; split <;> rfl)) (by unfold maxLen; omega) hbytes hb
    rw [Nat.zero_add, List.nil_append] at g1
    obtain ⟨a', c', rfl, _⟩ := lie_own (by omega) g1
    exact ⟨a', c', w', hr, g1, g2⟩
set_option maxRecDepth 100000 in
set_option maxHeartbeats 1000000 in
theorem rtwin_any {w : World} {a : Option Addr} {c : Nat} {F : Sf} (hF : SafeAt w a c F) (hl : F.groups.length ≤ 900) : Calls Tryd.prog 12 #[.agg #[.slice a F.groups.length c, .int .i64 F.start, .bool F.flashed]] w fun e w' => ∃ a' c', e = .returned (.agg #[.slice a' F.groups.length c', .int .i64 F.start, .bool F.flashed]) ∧ SafeAt w' a' c' F ∧ (∀ b, a' = some b → w.heap.size ≤ b.block) ∧ Kept w w' none := by
  have k1 : Kept w (w.alloc (.cells #[.slice a F.groups.length c, .int .i64 F.start, .bool F.flashed] 26)) none := Kept.alloc _ _ _ _ _
  have b1 := box_alloc w (.slice a F.groups.length c) (.int .i64 F.start) (.bool F.flashed) 26
  have hz1 : (w.alloc (.cells #[.slice a F.groups.length c, .int .i64 F.start, .bool F.flashed] 26)).heap.size = w.heap.size + 1 := by simp
  obtain ⟨W1, hW1⟩ : ∃ W1, w.alloc (.cells #[.slice a F.groups.length c, .int .i64 F.start, .bool F.flashed] 26) = W1 := ⟨_, rfl⟩
  rw [hW1] at k1 b1 hz1
  have k2 : Kept W1 (W1.alloc (.cells #[.slice none 0 0, .int .i64 0, .bool false] 26)) none := Kept.alloc _ _ _ _ _
  have b2 := box_alloc W1 (.slice none 0 0) (.int .i64 0) (.bool false) 26
  have hz2 : (W1.alloc (.cells #[.slice none 0 0, .int .i64 0, .bool false] 26)).heap.size = w.heap.size + 1 + 1 := by simp [hz1]
  obtain ⟨W2, hW2⟩ : ∃ W2, W1.alloc (.cells #[.slice none 0 0, .int .i64 0, .bool false] 26) = W2 := ⟨_, rfl⟩
  rw [hW2] at k2 b2 hz2
  have k3 : Kept W2 (W2.alloc (.cells #[.slice a F.groups.length c, .int .i64 F.start, .bool F.flashed] 26)) none := Kept.alloc _ _ _ _ _
  have b3 := box_alloc W2 (.slice a F.groups.length c) (.int .i64 F.start) (.bool F.flashed) 26
  have hz3 : (W2.alloc (.cells #[.slice a F.groups.length c, .int .i64 F.start, .bool F.flashed] 26)).heap.size = w.heap.size + 1 + 1 + 1 := by simp [hz2]
  obtain ⟨W3, hW3⟩ : ∃ W3, W2.alloc (.cells #[.slice a F.groups.length c, .int .i64 F.start, .bool F.flashed] 26) = W3 := ⟨_, rfl⟩
  rw [hW3] at k3 b3 hz3
  rw [hz1] at b2
  rw [hz2] at b3
  have k4 : Kept W2 (W3.setCell ⟨w.heap.size + 1 + 1, 0, none⟩ (.slice none 0 0)) none := k3.setNew (by rw [hz2]; exact Nat.le_refl _) _
  have b4 := b3.set0 (.slice none 0 0)
  have hz4 : (W3.setCell ⟨w.heap.size + 1 + 1, 0, none⟩ (.slice none 0 0)).heap.size = w.heap.size + 1 + 1 + 1 := by simp [World.setCell, hz3]
  obtain ⟨W4, hW4⟩ : ∃ W4, W3.setCell ⟨w.heap.size + 1 + 1, 0, none⟩ (.slice none 0 0) = W4 := ⟨_, rfl⟩
  rw [hW4] at k4 b4 hz4
  obtain ⟨a5, c5, w5, hr5, hs5, k5⟩ := SnS.whole (base := w.heap.size + 1 + 1 + 1) ((hF.kept (k1.tr k2)).kept k4) hl (by rw [hz4]; exact Nat.le_refl _)
  have b1' := ((b1.kept k2).kept k4)
  have b2' := (b2.kept k4).kept k5
  have b5 := (b4.kept k5).set0 (.slice a5 F.groups.length c5)
  have HR5 := Hid.mk' hr5
  have B1 := Hid.mk' b1
  have HS5 := Hid.mk' hs5
  have HK : Hid (Kept w w5 none) := ((k1.tr k2).tr k4).tr k5
  have HRN := Hid.mk' hF.rng
  have hA0 := (b1.kept k2).c0
  have hA1 := (b1.kept k2).c1
  have hA2 := (b1.kept k2).c2
  have x0 := b1.c0
  have x1 := b1.c1
  have x2 := b1.c2
  have y0 := b3.f0
  have y1 := b3.c0
  have u1 := (b4.kept k5).c0
  have z0 := b4.c0
  have v0 := b1'.c0
  have u0 := (b4.kept k5).f0
  have q0 := b5.c0
  have q1 := b5.c1
  have q2 := b5.c2
  have B2 := Hid.mk' b2'
  have r2 := (b2'.other (p := ⟨w.heap.size + 1 + 1, 0, none⟩) (by show w.heap.size + 1 + 1 ≠ w.heap.size + 1; omega) (.slice a5 F.groups.length c5))
  have HR2 := Hid.mk' r2
  have t0 := r2.c0
  have t1 := r2.c1
  have t2 := r2.c2
  have f0 := r2.f0
  have f1 := r2.f1
  have f2 := r2.f2
  clear hF b1 b1' b2 b2' b3 b4 b5 k1 k2 k3 k4 k5 hr5 hs5 r2
  generalize hst : F.start = st at *
  generalize hfl : F.flashed = fl at *
  go_enter Tryd.func12, Tryd.ntmps12
  go_wp2_with (first | rw [hW1] | rw [hz1] | rw [hW2] | rw [hz2] | rw [hW3] | rw [hW4] | (at_builtin; refine wpList_app8 (by rfl) _ _ _ (by rfl) (by rfl) (by rfl) HR5.out ?_))
  have bx7 := ((HR2.out.set0 (.slice a5 F.groups.length c5)).set1 (.int .i64 st)).set2 (.bool fl)
  have p0 := bx7.c0
  have p1 := bx7.c1
  have p2 := bx7.c2
  have hsafe := SnS.safe (F := F) (SnS.setOther (SnS.setOther (SnS.setOther (SnS.setOther HS5.out (b := w.heap.size + 1 + 1) (i := 0) (by omega) (.slice a5 F.groups.length c5)) (b := w.heap.size + 1) (i := 0) (by omega) (.slice a5 F.groups.length c5)) (b := w.heap.size + 1) (i := 1) (by omega) (.int .i64 st)) (b := w.heap.size + 1) (i := 2) (by omega) (.bool fl)) rfl HRN.out
  refine bodyPost_ret (v := .agg #[.slice a5 F.groups.length c5, .int .i64 st, .bool fl]) (by simp [results, Tryd.results12, go_sem, p0, p1, p2]) rfl ⟨a5, c5, rfl, hsafe.2, (fun b e => by have := SnS.own HS5.out b e; omega), ?_⟩
  exact (((HK.out.setNew (by show w.heap.size ≤ w.heap.size + 1 + 1; omega) _).setNew (by show w.heap.size ≤ w.heap.size + 1; omega) _).setNew (by show w.heap.size ≤ w.heap.size + 1; omega) _).setNew (by show w.heap.size ≤ w.heap.size + 1; omega) _

end Go.Proofs.YtkgimccffggfdaaDoor

/-
  THE DOCUMENT'S Same of layer 8, of equal standings.
-/
namespace Go.Proofs.YtkgimccffggfdaaDoor
open Go.RowKit Go.Lib Go.Deep
set_option linter.unusedVariables false
set_option linter.unusedSimpArgs false

set_option maxRecDepth 100000 in
set_option maxHeartbeats 4000000 in
theorem rsame8_yes {w : World} {a1 a2 : Option Addr} {c1 c2 n : Nat} {F1 F2 : Sf} (h1 : SafeAt w a1 c1 F1) (h2 : SafeAt w a2 c2 F2) (e : F1 = F2) (hn : F1.groups.length = n) : Calls Tryd.prog 15 #[.agg #[.slice a1 n c1, .int .i64 F1.start, .bool F1.flashed], .agg #[.slice a2 n c2, .int .i64 F2.start, .bool F2.flashed]] w fun e w' => e = .returned (.bool true) ∧ Kept w w' none := by
  subst e
  subst hn
  have hc1r := h1.cap.room
  have hc1m := h1.cap.max
  have hc2r := h2.cap.room
  have hc2m := h2.cap.max
  have k1 : Kept w (w.alloc (.cells #[.slice a1 F1.groups.length c1, .int .i64 F1.start, .bool F1.flashed] 26)) none := Kept.alloc _ _ _ _ _
  have b1 := box_alloc w (.slice a1 F1.groups.length c1) (.int .i64 F1.start) (.bool F1.flashed) 26
  have hsz : (w.alloc (.cells #[.slice a1 F1.groups.length c1, .int .i64 F1.start, .bool F1.flashed] 26)).heap.size = w.heap.size + 1 := by simp
  obtain ⟨W1, hW1⟩ : ∃ W1, w.alloc (.cells #[.slice a1 F1.groups.length c1, .int .i64 F1.start, .bool F1.flashed] 26) = W1 := ⟨_, rfl⟩
  rw [hW1] at k1 b1 hsz
  have k2 : Kept W1 (W1.alloc (.cells #[.slice a2 F1.groups.length c2, .int .i64 F1.start, .bool F1.flashed] 26)) none := Kept.alloc _ _ _ _ _
  have b2 := box_alloc W1 (.slice a2 F1.groups.length c2) (.int .i64 F1.start) (.bool F1.flashed) 26
  obtain ⟨W2, hW2⟩ : ∃ W2, W1.alloc (.cells #[.slice a2 F1.groups.length c2, .int .i64 F1.start, .bool F1.flashed] 26) = W2 := ⟨_, rfl⟩
  rw [hW2] at k2 b2
  rw [hsz] at b2
  have b1' := b1.kept k2
  have x0 := b1'.c0
  have x1 := b1'.c1
  have x2 := b1'.c2
  have y0 := b2.c0
  have y1 := b2.c1
  have y2 := b2.c2
  have H1 := Hid.mk' (h1.kept (k1.tr k2))
  have H2 := Hid.mk' (h2.kept (k1.tr k2))
  have HK := Hid.mk' (k1.tr k2)
  clear h1 h2 k1 k2 b1 b1' b2
  generalize hst : F1.start = st at *
  generalize hfl : F1.flashed = fl at *
  clear hst hfl
  go_enter Tryd.func15, Tryd.ntmps15
  go_wp2_with (first | rw [hW1] | rw [hsz] | rw [hW2])
  go_loopw [5] (fun i wr => ∃ k : Nat, k ≤ F1.groups.length ∧ i = .int .i64 k ∧ Kept W2 wr none) (fun i _ => F1.groups.length - (intOf i).toNat)
  case atStart => exact ⟨0, by omega, rfl, Kept.refl _ _⟩
  case round =>
    obtain ⟨k, hk, rfl, hkw⟩ := hrel
    have x0r := cell_kept0 x0 hkw
    have y0r := cell_kept0 y0 hkw
    by_cases hlt : k < F1.groups.length
    · obtain ⟨b1, o1, rfl, _, g0, g1, g2⟩ := (H1.out.kept hkw).at_ hlt
      obtain ⟨b2, o2, rfl, _, t0, t1, t2⟩ := (H2.out.kept hkw).at_ hlt
      clear x0 y0 x1 y1 x2 y2
      generalize F1.g k = N at *
      go_wp2
      go_quiet (fail)
      go_wp2
      go_roundw
      case rel => exact ⟨k + 1, by omega, by go_num, hkw.tr (Kept.drewN _ _ _)⟩
      case measure => simp [intOf]; omega
    · have e : k = F1.groups.length := by omega
      clear x0 y0 x1 y1 x2 y2
      subst e
      go_wp2
      go_ret
      exact ⟨rfl, HK.out.tr hkw⟩

end Go.Proofs.YtkgimccffggfdaaDoor

