/-
  THE CONTRACT of eye.later (made by a program).
-/
import Derived.Test.YtommijjacknkpaaDoorEyeC
namespace Go.Proofs.YtommijjacknkpaaDoor
open Go.RowKit Go.Lib Go.Deep
set_option linter.unusedVariables false
set_option linter.unusedSimpArgs false

theorem drew_cell (w : World) (a : Addr) : w.drew.cell? a = w.cell? a := rfl
theorem b5_at {w : World} {v0 v1 v2 v3 v4 : Value} {t : TypeId} {n : Nat} (h : w.heap.size = n) : B5 (w.alloc (.cells #[v0, v1, v2, v3, v4] t)) n v0 v1 v2 v3 v4 := by
  subst h
  exact b5_alloc w _ _ _ _ _ t
theorem ill_at {w W : World} {E : Ey} {u : Bool} {N Z : Int} {I : Bool} {x : Lk} {Q : Ending → World → Prop} (h : ∀ w', Calls Tryd.prog 37 #[eyU E, lkV ⟨u, N, Z, false, 0⟩] w' fun e w'' => e = .returned (.bool I) ∧ Kept w' w'' none)
    (hN : Kbox W (w.heap.size + 1 + 1 + 1) ⟨u, N, Z, false, 0⟩) (hR : Kbox W (w.heap.size + 1 + 1) Lk.zero) (hX : Kbox W (w.heap.size + 1) x) (hK : Kept w W none)
    (k : ∀ w1, Kbox w1 (w.heap.size + 1 + 1 + 1) ⟨u, N, Z, false, 0⟩ → Kbox w1 (w.heap.size + 1 + 1) Lk.zero → Kbox w1 (w.heap.size + 1) x → Kept w w1 none → Q (.returned (.bool I)) w1) : Calls Tryd.prog 37 #[eyU E, lkV ⟨u, N, Z, false, 0⟩] W Q := by
  refine (h W).mono ?_
  rintro e w1 ⟨rfl, hk⟩
  exact k w1 (hN.kept hk) (hR.kept hk) (hX.kept hk) (hK.tr hk)
set_option maxHeartbeats 1000000 in
theorem later_yi (E : Ey) (h : Int) (u q : Bool) (a z : Int) (b : Bool) (c : Int) (Z : Int) (I : Bool) (w : World) (i0 : 0 ≤ a) (i1 : a ≤ 1048576) (c0 : 0 ≤ c) (c1 : c ≤ 1048576) (hb0 : 0 ≤ Z) (hb1 : Z + 1 ≤ 18446744073709551615) (hz : IntKind.u64.wrap (z * 2) = Z) (ho : bits BinOp.or IntKind.u64 Z 1 = Z + 1) (hq : (u == q) = true) (hm : a + 1 < 1048576) (hI : I = true) (HI : Hid (∀ w', Calls Tryd.prog 37 #[eyU E, lkV ⟨u, a + 1, Z, false, 0⟩] w' fun e w'' => e = .returned (.bool I) ∧ Kept w' w'' none)) : Calls Tryd.prog 26 #[eyU E, .int .i64 h, lkV ⟨q, a, z, b, c⟩, .bool u] w fun e w' => e = .returned (lkV ⟨u, a + 1, Z, true, 0⟩) ∧ Kept w w' none := by
  have hwr : IntKind.i64.wrap (c + 1) = c + 1 := wrap_in (by omega) (by omega)
  obtain ⟨p, o, f, t⟩ := E
  subst hI
  go_enter Tryd.func26, Tryd.ntmps26
  go_wp2_with (go_at_call 37; refine ill_at (w := w) (E := ⟨p, o, f, t⟩) (u := u) (N := a + 1) (Z := Z) (x := ⟨q, a, z, b, c⟩) HI.out (b5_at (by simp)) (B5.kept (b5_at (by simp)) (Kept.alloc _ _ _ _ _)) (B5.kept (B5.kept (b5_at (by simp)) (Kept.alloc _ _ _ _ _)) (Kept.alloc _ _ _ _ _)) ((((Kept.alloc _ _ _ _ _).tr (Kept.alloc _ _ _ _ _)).tr (Kept.alloc _ _ _ _ _)).tr (Kept.alloc _ _ _ _ _)) ?_; intro w1 hN hR hX hk1; have n0 := hN.c0; have n1 := hN.c1; have n2 := hN.c2; have n3 := hN.c3; have n4 := hN.c4; have m0 := hN.f0; have m1 := hN.f1; have m2 := hN.f2; have m3 := hN.f3; have m4 := hN.f4; have r0 := hR.c0; have r1 := hR.c1; have r2 := hR.c2; have r3 := hR.c3; have r4 := hR.c4; have s0 := hR.f0; have s1 := hR.f1; have s2 := hR.f2; have s3 := hR.f3; have s4 := hR.f4; have x0 := hX.c0; have x1 := hX.c1; have x2 := hX.c2; have x3 := hX.c3; have x4 := hX.c4; have lN := hN.lt)
  refine bodyPost_ret (v := lkV _) (by simp [results, Tryd.results26, go_sem, *]; done) rfl ⟨rfl, ?_⟩
  exact kept_set5 (hk1.setNew (p := ⟨w.heap.size + 1 + 1 + 1, 3, none⟩) (by simp <;> omega) _) (by omega) _ _ _ _ _
set_option maxHeartbeats 1000000 in
theorem later_yh (E : Ey) (h : Int) (u q : Bool) (a z : Int) (b : Bool) (c : Int) (Z : Int) (I : Bool) (w : World) (i0 : 0 ≤ a) (i1 : a ≤ 1048576) (c0 : 0 ≤ c) (c1 : c ≤ 1048576) (hb0 : 0 ≤ Z) (hb1 : Z + 1 ≤ 18446744073709551615) (hz : IntKind.u64.wrap (z * 2) = Z) (ho : bits BinOp.or IntKind.u64 Z 1 = Z + 1) (hq : (u == q) = true) (hm : a + 1 < 1048576) (hI : I = false) (hb : b = true) (hc : c + 1 < h) (HI : Hid (∀ w', Calls Tryd.prog 37 #[eyU E, lkV ⟨u, a + 1, Z, false, 0⟩] w' fun e w'' => e = .returned (.bool I) ∧ Kept w' w'' none)) : Calls Tryd.prog 26 #[eyU E, .int .i64 h, lkV ⟨q, a, z, b, c⟩, .bool u] w fun e w' => e = .returned (lkV ⟨u, a + 1, Z, true, c + 1⟩) ∧ Kept w w' none := by
  have hwr : IntKind.i64.wrap (c + 1) = c + 1 := wrap_in (by omega) (by omega)
  obtain ⟨p, o, f, t⟩ := E
  subst hI hb
  go_enter Tryd.func26, Tryd.ntmps26
  go_wp2_with (go_at_call 37; refine ill_at (w := w) (E := ⟨p, o, f, t⟩) (u := u) (N := a + 1) (Z := Z) (x := ⟨q, a, z, true, c⟩) HI.out (b5_at (by simp)) (B5.kept (b5_at (by simp)) (Kept.alloc _ _ _ _ _)) (B5.kept (B5.kept (b5_at (by simp)) (Kept.alloc _ _ _ _ _)) (Kept.alloc _ _ _ _ _)) ((((Kept.alloc _ _ _ _ _).tr (Kept.alloc _ _ _ _ _)).tr (Kept.alloc _ _ _ _ _)).tr (Kept.alloc _ _ _ _ _)) ?_; intro w1 hN hR hX hk1; have n0 := hN.c0; have n1 := hN.c1; have n2 := hN.c2; have n3 := hN.c3; have n4 := hN.c4; have m0 := hN.f0; have m1 := hN.f1; have m2 := hN.f2; have m3 := hN.f3; have m4 := hN.f4; have r0 := hR.c0; have r1 := hR.c1; have r2 := hR.c2; have r3 := hR.c3; have r4 := hR.c4; have s0 := hR.f0; have s1 := hR.f1; have s2 := hR.f2; have s3 := hR.f3; have s4 := hR.f4; have x0 := hX.c0; have x1 := hX.c1; have x2 := hX.c2; have x3 := hX.c3; have x4 := hX.c4; have lN := hN.lt)
  go_region_held (fun w' => w'.cell? ⟨w.heap.size + 1, 4, none⟩ = some (.int .i64 c)) ((first | (try simp only [drew_cell]); (first | exact x4 | exact (World.cell?_setCell_far _ _ _ _ (by simp <;> omega)).trans x4 | exact (World.cell?_setCell_far _ _ _ _ (by simp <;> omega)).trans ((World.cell?_setCell_far _ _ _ _ (by simp <;> omega)).trans x4)))) (fail)
  try rw [hwr]
  have hN5 : Kbox (((w1.setCell ⟨w.heap.size + 1 + 1 + 1, 3, none⟩ (.bool true)).setCell ⟨w.heap.size + 1 + 1 + 1, 4, none⟩ (.int .i64 (c + 1))).drew) (w.heap.size + 1 + 1 + 1) ⟨u, a + 1, Z, true, c + 1⟩ := ((hN.s3 _).s4 _).kept (Kept.drew _ _)
  have hR5 : Kbox (((w1.setCell ⟨w.heap.size + 1 + 1 + 1, 3, none⟩ (.bool true)).setCell ⟨w.heap.size + 1 + 1 + 1, 4, none⟩ (.int .i64 (c + 1))).drew) (w.heap.size + 1 + 1) Lk.zero := ((hR.far (by omega) 3 _).far (by omega) 4 _).kept (Kept.drew _ _)
  have hk5 : Kept w (((w1.setCell ⟨w.heap.size + 1 + 1 + 1, 3, none⟩ (.bool true)).setCell ⟨w.heap.size + 1 + 1 + 1, 4, none⟩ (.int .i64 (c + 1))).drew) none := ((hk1.setNew (p := ⟨w.heap.size + 1 + 1 + 1, 3, none⟩) (by simp <;> omega) _).setNew (p := ⟨w.heap.size + 1 + 1 + 1, 4, none⟩) (by simp <;> omega) _).tr (Kept.drew _ _)
  obtain ⟨W5, hW5⟩ : ∃ W5, (((w1.setCell ⟨w.heap.size + 1 + 1 + 1, 3, none⟩ (.bool true)).setCell ⟨w.heap.size + 1 + 1 + 1, 4, none⟩ (.int .i64 (c + 1))).drew) = W5 := ⟨_, rfl⟩
  rw [hW5] at hN5 hR5 hk5 ⊢
  clear hW5 n0 n1 n2 n3 n4 m0 m1 m2 m3 m4 r0 r1 r2 r3 r4 s0 s1 s2 s3 s4 x0 x1 x2 x3 x4 lN hN hR hX hk1
  have n0 := hN5.c0; have n1 := hN5.c1; have n2 := hN5.c2; have n3 := hN5.c3; have n4 := hN5.c4; have m0 := hN5.f0; have m1 := hN5.f1; have m2 := hN5.f2; have m3 := hN5.f3; have m4 := hN5.f4; have r0 := hR5.c0; have r1 := hR5.c1; have r2 := hR5.c2; have r3 := hR5.c3; have r4 := hR5.c4; have s0 := hR5.f0; have s1 := hR5.f1; have s2 := hR5.f2; have s3 := hR5.f3; have s4 := hR5.f4;
  go_wp2
  refine bodyPost_ret (v := lkV _) (by simp [results, Tryd.results26, go_sem, *]; done) rfl ⟨rfl, ?_⟩
  exact kept_set5 hk5 (by omega) _ _ _ _ _
set_option maxHeartbeats 1000000 in
theorem later_yo (E : Ey) (h : Int) (u q : Bool) (a z : Int) (b : Bool) (c : Int) (Z : Int) (I : Bool) (w : World) (i0 : 0 ≤ a) (i1 : a ≤ 1048576) (c0 : 0 ≤ c) (c1 : c ≤ 1048576) (hb0 : 0 ≤ Z) (hb1 : Z + 1 ≤ 18446744073709551615) (hz : IntKind.u64.wrap (z * 2) = Z) (ho : bits BinOp.or IntKind.u64 Z 1 = Z + 1) (hq : (u == q) = true) (hm : a + 1 < 1048576) (hI : I = false) (hb : b = true) (hc : ¬ c + 1 < h) (HI : Hid (∀ w', Calls Tryd.prog 37 #[eyU E, lkV ⟨u, a + 1, Z, false, 0⟩] w' fun e w'' => e = .returned (.bool I) ∧ Kept w' w'' none)) : Calls Tryd.prog 26 #[eyU E, .int .i64 h, lkV ⟨q, a, z, b, c⟩, .bool u] w fun e w' => e = .returned (lkV ⟨u, a + 1, Z, false, 0⟩) ∧ Kept w w' none := by
  have hwr : IntKind.i64.wrap (c + 1) = c + 1 := wrap_in (by omega) (by omega)
  obtain ⟨p, o, f, t⟩ := E
  subst hI hb
  go_enter Tryd.func26, Tryd.ntmps26
  go_wp2_with (go_at_call 37; refine ill_at (w := w) (E := ⟨p, o, f, t⟩) (u := u) (N := a + 1) (Z := Z) (x := ⟨q, a, z, true, c⟩) HI.out (b5_at (by simp)) (B5.kept (b5_at (by simp)) (Kept.alloc _ _ _ _ _)) (B5.kept (B5.kept (b5_at (by simp)) (Kept.alloc _ _ _ _ _)) (Kept.alloc _ _ _ _ _)) ((((Kept.alloc _ _ _ _ _).tr (Kept.alloc _ _ _ _ _)).tr (Kept.alloc _ _ _ _ _)).tr (Kept.alloc _ _ _ _ _)) ?_; intro w1 hN hR hX hk1; have n0 := hN.c0; have n1 := hN.c1; have n2 := hN.c2; have n3 := hN.c3; have n4 := hN.c4; have m0 := hN.f0; have m1 := hN.f1; have m2 := hN.f2; have m3 := hN.f3; have m4 := hN.f4; have r0 := hR.c0; have r1 := hR.c1; have r2 := hR.c2; have r3 := hR.c3; have r4 := hR.c4; have s0 := hR.f0; have s1 := hR.f1; have s2 := hR.f2; have s3 := hR.f3; have s4 := hR.f4; have x0 := hX.c0; have x1 := hX.c1; have x2 := hX.c2; have x3 := hX.c3; have x4 := hX.c4; have lN := hN.lt)
  refine bodyPost_ret (v := lkV _) (by simp [results, Tryd.results26, go_sem, *]; done) rfl ⟨rfl, ?_⟩
  exact kept_set5 hk1 (by omega) _ _ _ _ _
set_option maxHeartbeats 1000000 in
theorem later_yf (E : Ey) (h : Int) (u q : Bool) (a z : Int) (b : Bool) (c : Int) (Z : Int) (I : Bool) (w : World) (i0 : 0 ≤ a) (i1 : a ≤ 1048576) (c0 : 0 ≤ c) (c1 : c ≤ 1048576) (hb0 : 0 ≤ Z) (hb1 : Z + 1 ≤ 18446744073709551615) (hz : IntKind.u64.wrap (z * 2) = Z) (ho : bits BinOp.or IntKind.u64 Z 1 = Z + 1) (hq : (u == q) = true) (hm : a + 1 < 1048576) (hI : I = false) (hb : b = false) (HI : Hid (∀ w', Calls Tryd.prog 37 #[eyU E, lkV ⟨u, a + 1, Z, false, 0⟩] w' fun e w'' => e = .returned (.bool I) ∧ Kept w' w'' none)) : Calls Tryd.prog 26 #[eyU E, .int .i64 h, lkV ⟨q, a, z, b, c⟩, .bool u] w fun e w' => e = .returned (lkV ⟨u, a + 1, Z, false, 0⟩) ∧ Kept w w' none := by
  have hwr : IntKind.i64.wrap (c + 1) = c + 1 := wrap_in (by omega) (by omega)
  obtain ⟨p, o, f, t⟩ := E
  subst hI hb
  go_enter Tryd.func26, Tryd.ntmps26
  go_wp2_with (go_at_call 37; refine ill_at (w := w) (E := ⟨p, o, f, t⟩) (u := u) (N := a + 1) (Z := Z) (x := ⟨q, a, z, false, c⟩) HI.out (b5_at (by simp)) (B5.kept (b5_at (by simp)) (Kept.alloc _ _ _ _ _)) (B5.kept (B5.kept (b5_at (by simp)) (Kept.alloc _ _ _ _ _)) (Kept.alloc _ _ _ _ _)) ((((Kept.alloc _ _ _ _ _).tr (Kept.alloc _ _ _ _ _)).tr (Kept.alloc _ _ _ _ _)).tr (Kept.alloc _ _ _ _ _)) ?_; intro w1 hN hR hX hk1; have n0 := hN.c0; have n1 := hN.c1; have n2 := hN.c2; have n3 := hN.c3; have n4 := hN.c4; have m0 := hN.f0; have m1 := hN.f1; have m2 := hN.f2; have m3 := hN.f3; have m4 := hN.f4; have r0 := hR.c0; have r1 := hR.c1; have r2 := hR.c2; have r3 := hR.c3; have r4 := hR.c4; have s0 := hR.f0; have s1 := hR.f1; have s2 := hR.f2; have s3 := hR.f3; have s4 := hR.f4; have x0 := hX.c0; have x1 := hX.c1; have x2 := hX.c2; have x3 := hX.c3; have x4 := hX.c4; have lN := hN.lt)
  refine bodyPost_ret (v := lkV _) (by simp [results, Tryd.results26, go_sem, *]; done) rfl ⟨rfl, ?_⟩
  exact kept_set5 hk1 (by omega) _ _ _ _ _
set_option maxHeartbeats 1000000 in
theorem later_zi (E : Ey) (h : Int) (u q : Bool) (a z : Int) (b : Bool) (c : Int) (Z : Int) (I : Bool) (w : World) (i0 : 0 ≤ a) (i1 : a ≤ 1048576) (c0 : 0 ≤ c) (c1 : c ≤ 1048576) (hb0 : 0 ≤ Z) (hb1 : Z + 1 ≤ 18446744073709551615) (hz : IntKind.u64.wrap (z * 2) = Z) (ho : bits BinOp.or IntKind.u64 Z 1 = Z + 1) (hq : (u == q) = true) (hm : a = 1048575) (hI : I = true) (HI : Hid (∀ w', Calls Tryd.prog 37 #[eyU E, lkV ⟨u, 1048576, Z, false, 0⟩] w' fun e w'' => e = .returned (.bool I) ∧ Kept w' w'' none)) : Calls Tryd.prog 26 #[eyU E, .int .i64 h, lkV ⟨q, a, z, b, c⟩, .bool u] w fun e w' => e = .returned (lkV ⟨u, 1048576, Z, true, 0⟩) ∧ Kept w w' none := by
  have hwr : IntKind.i64.wrap (c + 1) = c + 1 := wrap_in (by omega) (by omega)
  obtain ⟨p, o, f, t⟩ := E
  subst hm
  subst hI
  go_enter Tryd.func26, Tryd.ntmps26
  go_wp2_with (go_at_call 37; refine ill_at (w := w) (E := ⟨p, o, f, t⟩) (u := u) (N := 1048576) (Z := Z) (x := ⟨q, 1048575, z, b, c⟩) HI.out (b5_at (by simp)) (B5.kept (b5_at (by simp)) (Kept.alloc _ _ _ _ _)) (B5.kept (B5.kept (b5_at (by simp)) (Kept.alloc _ _ _ _ _)) (Kept.alloc _ _ _ _ _)) ((((Kept.alloc _ _ _ _ _).tr (Kept.alloc _ _ _ _ _)).tr (Kept.alloc _ _ _ _ _)).tr (Kept.alloc _ _ _ _ _)) ?_; intro w1 hN hR hX hk1; have n0 := hN.c0; have n1 := hN.c1; have n2 := hN.c2; have n3 := hN.c3; have n4 := hN.c4; have m0 := hN.f0; have m1 := hN.f1; have m2 := hN.f2; have m3 := hN.f3; have m4 := hN.f4; have r0 := hR.c0; have r1 := hR.c1; have r2 := hR.c2; have r3 := hR.c3; have r4 := hR.c4; have s0 := hR.f0; have s1 := hR.f1; have s2 := hR.f2; have s3 := hR.f3; have s4 := hR.f4; have x0 := hX.c0; have x1 := hX.c1; have x2 := hX.c2; have x3 := hX.c3; have x4 := hX.c4; have lN := hN.lt)
  refine bodyPost_ret (v := lkV _) (by simp [results, Tryd.results26, go_sem, *]; done) rfl ⟨rfl, ?_⟩
  exact kept_set5 (hk1.setNew (p := ⟨w.heap.size + 1 + 1 + 1, 3, none⟩) (by simp <;> omega) _) (by omega) _ _ _ _ _
set_option maxHeartbeats 1000000 in
theorem later_zh (E : Ey) (h : Int) (u q : Bool) (a z : Int) (b : Bool) (c : Int) (Z : Int) (I : Bool) (w : World) (i0 : 0 ≤ a) (i1 : a ≤ 1048576) (c0 : 0 ≤ c) (c1 : c ≤ 1048576) (hb0 : 0 ≤ Z) (hb1 : Z + 1 ≤ 18446744073709551615) (hz : IntKind.u64.wrap (z * 2) = Z) (ho : bits BinOp.or IntKind.u64 Z 1 = Z + 1) (hq : (u == q) = true) (hm : a = 1048575) (hI : I = false) (hb : b = true) (hc : c + 1 < h) (HI : Hid (∀ w', Calls Tryd.prog 37 #[eyU E, lkV ⟨u, 1048576, Z, false, 0⟩] w' fun e w'' => e = .returned (.bool I) ∧ Kept w' w'' none)) : Calls Tryd.prog 26 #[eyU E, .int .i64 h, lkV ⟨q, a, z, b, c⟩, .bool u] w fun e w' => e = .returned (lkV ⟨u, 1048576, Z, true, c + 1⟩) ∧ Kept w w' none := by
  have hwr : IntKind.i64.wrap (c + 1) = c + 1 := wrap_in (by omega) (by omega)
  obtain ⟨p, o, f, t⟩ := E
  subst hm
  subst hI hb
  go_enter Tryd.func26, Tryd.ntmps26
  go_wp2_with (go_at_call 37; refine ill_at (w := w) (E := ⟨p, o, f, t⟩) (u := u) (N := 1048576) (Z := Z) (x := ⟨q, 1048575, z, true, c⟩) HI.out (b5_at (by simp)) (B5.kept (b5_at (by simp)) (Kept.alloc _ _ _ _ _)) (B5.kept (B5.kept (b5_at (by simp)) (Kept.alloc _ _ _ _ _)) (Kept.alloc _ _ _ _ _)) ((((Kept.alloc _ _ _ _ _).tr (Kept.alloc _ _ _ _ _)).tr (Kept.alloc _ _ _ _ _)).tr (Kept.alloc _ _ _ _ _)) ?_; intro w1 hN hR hX hk1; have n0 := hN.c0; have n1 := hN.c1; have n2 := hN.c2; have n3 := hN.c3; have n4 := hN.c4; have m0 := hN.f0; have m1 := hN.f1; have m2 := hN.f2; have m3 := hN.f3; have m4 := hN.f4; have r0 := hR.c0; have r1 := hR.c1; have r2 := hR.c2; have r3 := hR.c3; have r4 := hR.c4; have s0 := hR.f0; have s1 := hR.f1; have s2 := hR.f2; have s3 := hR.f3; have s4 := hR.f4; have x0 := hX.c0; have x1 := hX.c1; have x2 := hX.c2; have x3 := hX.c3; have x4 := hX.c4; have lN := hN.lt)
  go_region_held (fun w' => w'.cell? ⟨w.heap.size + 1, 4, none⟩ = some (.int .i64 c)) ((first | (try simp only [drew_cell]); (first | exact x4 | exact (World.cell?_setCell_far _ _ _ _ (by simp <;> omega)).trans x4 | exact (World.cell?_setCell_far _ _ _ _ (by simp <;> omega)).trans ((World.cell?_setCell_far _ _ _ _ (by simp <;> omega)).trans x4)))) (fail)
  try rw [hwr]
  have hN5 : Kbox (((w1.setCell ⟨w.heap.size + 1 + 1 + 1, 3, none⟩ (.bool true)).setCell ⟨w.heap.size + 1 + 1 + 1, 4, none⟩ (.int .i64 (c + 1))).drew) (w.heap.size + 1 + 1 + 1) ⟨u, 1048576, Z, true, c + 1⟩ := ((hN.s3 _).s4 _).kept (Kept.drew _ _)
  have hR5 : Kbox (((w1.setCell ⟨w.heap.size + 1 + 1 + 1, 3, none⟩ (.bool true)).setCell ⟨w.heap.size + 1 + 1 + 1, 4, none⟩ (.int .i64 (c + 1))).drew) (w.heap.size + 1 + 1) Lk.zero := ((hR.far (by omega) 3 _).far (by omega) 4 _).kept (Kept.drew _ _)
  have hk5 : Kept w (((w1.setCell ⟨w.heap.size + 1 + 1 + 1, 3, none⟩ (.bool true)).setCell ⟨w.heap.size + 1 + 1 + 1, 4, none⟩ (.int .i64 (c + 1))).drew) none := ((hk1.setNew (p := ⟨w.heap.size + 1 + 1 + 1, 3, none⟩) (by simp <;> omega) _).setNew (p := ⟨w.heap.size + 1 + 1 + 1, 4, none⟩) (by simp <;> omega) _).tr (Kept.drew _ _)
  obtain ⟨W5, hW5⟩ : ∃ W5, (((w1.setCell ⟨w.heap.size + 1 + 1 + 1, 3, none⟩ (.bool true)).setCell ⟨w.heap.size + 1 + 1 + 1, 4, none⟩ (.int .i64 (c + 1))).drew) = W5 := ⟨_, rfl⟩
  rw [hW5] at hN5 hR5 hk5 ⊢
  clear hW5 n0 n1 n2 n3 n4 m0 m1 m2 m3 m4 r0 r1 r2 r3 r4 s0 s1 s2 s3 s4 x0 x1 x2 x3 x4 lN hN hR hX hk1
  have n0 := hN5.c0; have n1 := hN5.c1; have n2 := hN5.c2; have n3 := hN5.c3; have n4 := hN5.c4; have m0 := hN5.f0; have m1 := hN5.f1; have m2 := hN5.f2; have m3 := hN5.f3; have m4 := hN5.f4; have r0 := hR5.c0; have r1 := hR5.c1; have r2 := hR5.c2; have r3 := hR5.c3; have r4 := hR5.c4; have s0 := hR5.f0; have s1 := hR5.f1; have s2 := hR5.f2; have s3 := hR5.f3; have s4 := hR5.f4;
  go_wp2
  refine bodyPost_ret (v := lkV _) (by simp [results, Tryd.results26, go_sem, *]; done) rfl ⟨rfl, ?_⟩
  exact kept_set5 hk5 (by omega) _ _ _ _ _
set_option maxHeartbeats 1000000 in
theorem later_zo (E : Ey) (h : Int) (u q : Bool) (a z : Int) (b : Bool) (c : Int) (Z : Int) (I : Bool) (w : World) (i0 : 0 ≤ a) (i1 : a ≤ 1048576) (c0 : 0 ≤ c) (c1 : c ≤ 1048576) (hb0 : 0 ≤ Z) (hb1 : Z + 1 ≤ 18446744073709551615) (hz : IntKind.u64.wrap (z * 2) = Z) (ho : bits BinOp.or IntKind.u64 Z 1 = Z + 1) (hq : (u == q) = true) (hm : a = 1048575) (hI : I = false) (hb : b = true) (hc : ¬ c + 1 < h) (HI : Hid (∀ w', Calls Tryd.prog 37 #[eyU E, lkV ⟨u, 1048576, Z, false, 0⟩] w' fun e w'' => e = .returned (.bool I) ∧ Kept w' w'' none)) : Calls Tryd.prog 26 #[eyU E, .int .i64 h, lkV ⟨q, a, z, b, c⟩, .bool u] w fun e w' => e = .returned (lkV ⟨u, 1048576, Z, false, 0⟩) ∧ Kept w w' none := by
  have hwr : IntKind.i64.wrap (c + 1) = c + 1 := wrap_in (by omega) (by omega)
  obtain ⟨p, o, f, t⟩ := E
  subst hm
  subst hI hb
  go_enter Tryd.func26, Tryd.ntmps26
  go_wp2_with (go_at_call 37; refine ill_at (w := w) (E := ⟨p, o, f, t⟩) (u := u) (N := 1048576) (Z := Z) (x := ⟨q, 1048575, z, true, c⟩) HI.out (b5_at (by simp)) (B5.kept (b5_at (by simp)) (Kept.alloc _ _ _ _ _)) (B5.kept (B5.kept (b5_at (by simp)) (Kept.alloc _ _ _ _ _)) (Kept.alloc _ _ _ _ _)) ((((Kept.alloc _ _ _ _ _).tr (Kept.alloc _ _ _ _ _)).tr (Kept.alloc _ _ _ _ _)).tr (Kept.alloc _ _ _ _ _)) ?_; intro w1 hN hR hX hk1; have n0 := hN.c0; have n1 := hN.c1; have n2 := hN.c2; have n3 := hN.c3; have n4 := hN.c4; have m0 := hN.f0; have m1 := hN.f1; have m2 := hN.f2; have m3 := hN.f3; have m4 := hN.f4; have r0 := hR.c0; have r1 := hR.c1; have r2 := hR.c2; have r3 := hR.c3; have r4 := hR.c4; have s0 := hR.f0; have s1 := hR.f1; have s2 := hR.f2; have s3 := hR.f3; have s4 := hR.f4; have x0 := hX.c0; have x1 := hX.c1; have x2 := hX.c2; have x3 := hX.c3; have x4 := hX.c4; have lN := hN.lt)
  refine bodyPost_ret (v := lkV _) (by simp [results, Tryd.results26, go_sem, *]; done) rfl ⟨rfl, ?_⟩
  exact kept_set5 hk1 (by omega) _ _ _ _ _
set_option maxHeartbeats 1000000 in
theorem later_zf (E : Ey) (h : Int) (u q : Bool) (a z : Int) (b : Bool) (c : Int) (Z : Int) (I : Bool) (w : World) (i0 : 0 ≤ a) (i1 : a ≤ 1048576) (c0 : 0 ≤ c) (c1 : c ≤ 1048576) (hb0 : 0 ≤ Z) (hb1 : Z + 1 ≤ 18446744073709551615) (hz : IntKind.u64.wrap (z * 2) = Z) (ho : bits BinOp.or IntKind.u64 Z 1 = Z + 1) (hq : (u == q) = true) (hm : a = 1048575) (hI : I = false) (hb : b = false) (HI : Hid (∀ w', Calls Tryd.prog 37 #[eyU E, lkV ⟨u, 1048576, Z, false, 0⟩] w' fun e w'' => e = .returned (.bool I) ∧ Kept w' w'' none)) : Calls Tryd.prog 26 #[eyU E, .int .i64 h, lkV ⟨q, a, z, b, c⟩, .bool u] w fun e w' => e = .returned (lkV ⟨u, 1048576, Z, false, 0⟩) ∧ Kept w w' none := by
  have hwr : IntKind.i64.wrap (c + 1) = c + 1 := wrap_in (by omega) (by omega)
  obtain ⟨p, o, f, t⟩ := E
  subst hm
  subst hI hb
  go_enter Tryd.func26, Tryd.ntmps26
  go_wp2_with (go_at_call 37; refine ill_at (w := w) (E := ⟨p, o, f, t⟩) (u := u) (N := 1048576) (Z := Z) (x := ⟨q, 1048575, z, false, c⟩) HI.out (b5_at (by simp)) (B5.kept (b5_at (by simp)) (Kept.alloc _ _ _ _ _)) (B5.kept (B5.kept (b5_at (by simp)) (Kept.alloc _ _ _ _ _)) (Kept.alloc _ _ _ _ _)) ((((Kept.alloc _ _ _ _ _).tr (Kept.alloc _ _ _ _ _)).tr (Kept.alloc _ _ _ _ _)).tr (Kept.alloc _ _ _ _ _)) ?_; intro w1 hN hR hX hk1; have n0 := hN.c0; have n1 := hN.c1; have n2 := hN.c2; have n3 := hN.c3; have n4 := hN.c4; have m0 := hN.f0; have m1 := hN.f1; have m2 := hN.f2; have m3 := hN.f3; have m4 := hN.f4; have r0 := hR.c0; have r1 := hR.c1; have r2 := hR.c2; have r3 := hR.c3; have r4 := hR.c4; have s0 := hR.f0; have s1 := hR.f1; have s2 := hR.f2; have s3 := hR.f3; have s4 := hR.f4; have x0 := hX.c0; have x1 := hX.c1; have x2 := hX.c2; have x3 := hX.c3; have x4 := hX.c4; have lN := hN.lt)
  refine bodyPost_ret (v := lkV _) (by simp [results, Tryd.results26, go_sem, *]; done) rfl ⟨rfl, ?_⟩
  exact kept_set5 hk1 (by omega) _ _ _ _ _
set_option maxHeartbeats 1000000 in
theorem later_xi (E : Ey) (h : Int) (u q : Bool) (a z : Int) (b : Bool) (c : Int) (Z : Int) (I : Bool) (w : World) (i0 : 0 ≤ a) (i1 : a ≤ 1048576) (c0 : 0 ≤ c) (c1 : c ≤ 1048576) (hb0 : 0 ≤ Z) (hb1 : Z + 1 ≤ 18446744073709551615) (hz : IntKind.u64.wrap (z * 2) = Z) (ho : bits BinOp.or IntKind.u64 Z 1 = Z + 1) (hq : (u == q) = true) (hm : a = 1048576) (hI : I = true) (HI : Hid (∀ w', Calls Tryd.prog 37 #[eyU E, lkV ⟨u, 1048576, Z, false, 0⟩] w' fun e w'' => e = .returned (.bool I) ∧ Kept w' w'' none)) : Calls Tryd.prog 26 #[eyU E, .int .i64 h, lkV ⟨q, a, z, b, c⟩, .bool u] w fun e w' => e = .returned (lkV ⟨u, 1048576, Z, true, 0⟩) ∧ Kept w w' none := by
  have hwr : IntKind.i64.wrap (c + 1) = c + 1 := wrap_in (by omega) (by omega)
  obtain ⟨p, o, f, t⟩ := E
  subst hm
  subst hI
  go_enter Tryd.func26, Tryd.ntmps26
  go_wp2_with (go_at_call 37; refine ill_at (w := w) (E := ⟨p, o, f, t⟩) (u := u) (N := 1048576) (Z := Z) (x := ⟨q, 1048576, z, b, c⟩) HI.out (b5_at (by simp)) (B5.kept (b5_at (by simp)) (Kept.alloc _ _ _ _ _)) (B5.kept (B5.kept (b5_at (by simp)) (Kept.alloc _ _ _ _ _)) (Kept.alloc _ _ _ _ _)) ((((Kept.alloc _ _ _ _ _).tr (Kept.alloc _ _ _ _ _)).tr (Kept.alloc _ _ _ _ _)).tr (Kept.alloc _ _ _ _ _)) ?_; intro w1 hN hR hX hk1; have n0 := hN.c0; have n1 := hN.c1; have n2 := hN.c2; have n3 := hN.c3; have n4 := hN.c4; have m0 := hN.f0; have m1 := hN.f1; have m2 := hN.f2; have m3 := hN.f3; have m4 := hN.f4; have r0 := hR.c0; have r1 := hR.c1; have r2 := hR.c2; have r3 := hR.c3; have r4 := hR.c4; have s0 := hR.f0; have s1 := hR.f1; have s2 := hR.f2; have s3 := hR.f3; have s4 := hR.f4; have x0 := hX.c0; have x1 := hX.c1; have x2 := hX.c2; have x3 := hX.c3; have x4 := hX.c4; have lN := hN.lt)
  refine bodyPost_ret (v := lkV _) (by simp [results, Tryd.results26, go_sem, *]; done) rfl ⟨rfl, ?_⟩
  exact kept_set5 (hk1.setNew (p := ⟨w.heap.size + 1 + 1 + 1, 3, none⟩) (by simp <;> omega) _) (by omega) _ _ _ _ _
set_option maxHeartbeats 1000000 in
theorem later_xh (E : Ey) (h : Int) (u q : Bool) (a z : Int) (b : Bool) (c : Int) (Z : Int) (I : Bool) (w : World) (i0 : 0 ≤ a) (i1 : a ≤ 1048576) (c0 : 0 ≤ c) (c1 : c ≤ 1048576) (hb0 : 0 ≤ Z) (hb1 : Z + 1 ≤ 18446744073709551615) (hz : IntKind.u64.wrap (z * 2) = Z) (ho : bits BinOp.or IntKind.u64 Z 1 = Z + 1) (hq : (u == q) = true) (hm : a = 1048576) (hI : I = false) (hb : b = true) (hc : c + 1 < h) (HI : Hid (∀ w', Calls Tryd.prog 37 #[eyU E, lkV ⟨u, 1048576, Z, false, 0⟩] w' fun e w'' => e = .returned (.bool I) ∧ Kept w' w'' none)) : Calls Tryd.prog 26 #[eyU E, .int .i64 h, lkV ⟨q, a, z, b, c⟩, .bool u] w fun e w' => e = .returned (lkV ⟨u, 1048576, Z, true, c + 1⟩) ∧ Kept w w' none := by
  have hwr : IntKind.i64.wrap (c + 1) = c + 1 := wrap_in (by omega) (by omega)
  obtain ⟨p, o, f, t⟩ := E
  subst hm
  subst hI hb
  go_enter Tryd.func26, Tryd.ntmps26
  go_wp2_with (go_at_call 37; refine ill_at (w := w) (E := ⟨p, o, f, t⟩) (u := u) (N := 1048576) (Z := Z) (x := ⟨q, 1048576, z, true, c⟩) HI.out (b5_at (by simp)) (B5.kept (b5_at (by simp)) (Kept.alloc _ _ _ _ _)) (B5.kept (B5.kept (b5_at (by simp)) (Kept.alloc _ _ _ _ _)) (Kept.alloc _ _ _ _ _)) ((((Kept.alloc _ _ _ _ _).tr (Kept.alloc _ _ _ _ _)).tr (Kept.alloc _ _ _ _ _)).tr (Kept.alloc _ _ _ _ _)) ?_; intro w1 hN hR hX hk1; have n0 := hN.c0; have n1 := hN.c1; have n2 := hN.c2; have n3 := hN.c3; have n4 := hN.c4; have m0 := hN.f0; have m1 := hN.f1; have m2 := hN.f2; have m3 := hN.f3; have m4 := hN.f4; have r0 := hR.c0; have r1 := hR.c1; have r2 := hR.c2; have r3 := hR.c3; have r4 := hR.c4; have s0 := hR.f0; have s1 := hR.f1; have s2 := hR.f2; have s3 := hR.f3; have s4 := hR.f4; have x0 := hX.c0; have x1 := hX.c1; have x2 := hX.c2; have x3 := hX.c3; have x4 := hX.c4; have lN := hN.lt)
  go_region_held (fun w' => w'.cell? ⟨w.heap.size + 1, 4, none⟩ = some (.int .i64 c)) ((first | (try simp only [drew_cell]); (first | exact x4 | exact (World.cell?_setCell_far _ _ _ _ (by simp <;> omega)).trans x4 | exact (World.cell?_setCell_far _ _ _ _ (by simp <;> omega)).trans ((World.cell?_setCell_far _ _ _ _ (by simp <;> omega)).trans x4)))) (fail)
  try rw [hwr]
  have hN5 : Kbox (((w1.setCell ⟨w.heap.size + 1 + 1 + 1, 3, none⟩ (.bool true)).setCell ⟨w.heap.size + 1 + 1 + 1, 4, none⟩ (.int .i64 (c + 1))).drew) (w.heap.size + 1 + 1 + 1) ⟨u, 1048576, Z, true, c + 1⟩ := ((hN.s3 _).s4 _).kept (Kept.drew _ _)
  have hR5 : Kbox (((w1.setCell ⟨w.heap.size + 1 + 1 + 1, 3, none⟩ (.bool true)).setCell ⟨w.heap.size + 1 + 1 + 1, 4, none⟩ (.int .i64 (c + 1))).drew) (w.heap.size + 1 + 1) Lk.zero := ((hR.far (by omega) 3 _).far (by omega) 4 _).kept (Kept.drew _ _)
  have hk5 : Kept w (((w1.setCell ⟨w.heap.size + 1 + 1 + 1, 3, none⟩ (.bool true)).setCell ⟨w.heap.size + 1 + 1 + 1, 4, none⟩ (.int .i64 (c + 1))).drew) none := ((hk1.setNew (p := ⟨w.heap.size + 1 + 1 + 1, 3, none⟩) (by simp <;> omega) _).setNew (p := ⟨w.heap.size + 1 + 1 + 1, 4, none⟩) (by simp <;> omega) _).tr (Kept.drew _ _)
  obtain ⟨W5, hW5⟩ : ∃ W5, (((w1.setCell ⟨w.heap.size + 1 + 1 + 1, 3, none⟩ (.bool true)).setCell ⟨w.heap.size + 1 + 1 + 1, 4, none⟩ (.int .i64 (c + 1))).drew) = W5 := ⟨_, rfl⟩
  rw [hW5] at hN5 hR5 hk5 ⊢
  clear hW5 n0 n1 n2 n3 n4 m0 m1 m2 m3 m4 r0 r1 r2 r3 r4 s0 s1 s2 s3 s4 x0 x1 x2 x3 x4 lN hN hR hX hk1
  have n0 := hN5.c0; have n1 := hN5.c1; have n2 := hN5.c2; have n3 := hN5.c3; have n4 := hN5.c4; have m0 := hN5.f0; have m1 := hN5.f1; have m2 := hN5.f2; have m3 := hN5.f3; have m4 := hN5.f4; have r0 := hR5.c0; have r1 := hR5.c1; have r2 := hR5.c2; have r3 := hR5.c3; have r4 := hR5.c4; have s0 := hR5.f0; have s1 := hR5.f1; have s2 := hR5.f2; have s3 := hR5.f3; have s4 := hR5.f4;
  go_wp2
  refine bodyPost_ret (v := lkV _) (by simp [results, Tryd.results26, go_sem, *]; done) rfl ⟨rfl, ?_⟩
  exact kept_set5 hk5 (by omega) _ _ _ _ _
set_option maxHeartbeats 1000000 in
theorem later_xo (E : Ey) (h : Int) (u q : Bool) (a z : Int) (b : Bool) (c : Int) (Z : Int) (I : Bool) (w : World) (i0 : 0 ≤ a) (i1 : a ≤ 1048576) (c0 : 0 ≤ c) (c1 : c ≤ 1048576) (hb0 : 0 ≤ Z) (hb1 : Z + 1 ≤ 18446744073709551615) (hz : IntKind.u64.wrap (z * 2) = Z) (ho : bits BinOp.or IntKind.u64 Z 1 = Z + 1) (hq : (u == q) = true) (hm : a = 1048576) (hI : I = false) (hb : b = true) (hc : ¬ c + 1 < h) (HI : Hid (∀ w', Calls Tryd.prog 37 #[eyU E, lkV ⟨u, 1048576, Z, false, 0⟩] w' fun e w'' => e = .returned (.bool I) ∧ Kept w' w'' none)) : Calls Tryd.prog 26 #[eyU E, .int .i64 h, lkV ⟨q, a, z, b, c⟩, .bool u] w fun e w' => e = .returned (lkV ⟨u, 1048576, Z, false, 0⟩) ∧ Kept w w' none := by
  have hwr : IntKind.i64.wrap (c + 1) = c + 1 := wrap_in (by omega) (by omega)
  obtain ⟨p, o, f, t⟩ := E
  subst hm
  subst hI hb
  go_enter Tryd.func26, Tryd.ntmps26
  go_wp2_with (go_at_call 37; refine ill_at (w := w) (E := ⟨p, o, f, t⟩) (u := u) (N := 1048576) (Z := Z) (x := ⟨q, 1048576, z, true, c⟩) HI.out (b5_at (by simp)) (B5.kept (b5_at (by simp)) (Kept.alloc _ _ _ _ _)) (B5.kept (B5.kept (b5_at (by simp)) (Kept.alloc _ _ _ _ _)) (Kept.alloc _ _ _ _ _)) ((((Kept.alloc _ _ _ _ _).tr (Kept.alloc _ _ _ _ _)).tr (Kept.alloc _ _ _ _ _)).tr (Kept.alloc _ _ _ _ _)) ?_; intro w1 hN hR hX hk1; have n0 := hN.c0; have n1 := hN.c1; have n2 := hN.c2; have n3 := hN.c3; have n4 := hN.c4; have m0 := hN.f0; have m1 := hN.f1; have m2 := hN.f2; have m3 := hN.f3; have m4 := hN.f4; have r0 := hR.c0; have r1 := hR.c1; have r2 := hR.c2; have r3 := hR.c3; have r4 := hR.c4; have s0 := hR.f0; have s1 := hR.f1; have s2 := hR.f2; have s3 := hR.f3; have s4 := hR.f4; have x0 := hX.c0; have x1 := hX.c1; have x2 := hX.c2; have x3 := hX.c3; have x4 := hX.c4; have lN := hN.lt)
  refine bodyPost_ret (v := lkV _) (by simp [results, Tryd.results26, go_sem, *]; done) rfl ⟨rfl, ?_⟩
  exact kept_set5 hk1 (by omega) _ _ _ _ _
set_option maxHeartbeats 1000000 in
theorem later_xf (E : Ey) (h : Int) (u q : Bool) (a z : Int) (b : Bool) (c : Int) (Z : Int) (I : Bool) (w : World) (i0 : 0 ≤ a) (i1 : a ≤ 1048576) (c0 : 0 ≤ c) (c1 : c ≤ 1048576) (hb0 : 0 ≤ Z) (hb1 : Z + 1 ≤ 18446744073709551615) (hz : IntKind.u64.wrap (z * 2) = Z) (ho : bits BinOp.or IntKind.u64 Z 1 = Z + 1) (hq : (u == q) = true) (hm : a = 1048576) (hI : I = false) (hb : b = false) (HI : Hid (∀ w', Calls Tryd.prog 37 #[eyU E, lkV ⟨u, 1048576, Z, false, 0⟩] w' fun e w'' => e = .returned (.bool I) ∧ Kept w' w'' none)) : Calls Tryd.prog 26 #[eyU E, .int .i64 h, lkV ⟨q, a, z, b, c⟩, .bool u] w fun e w' => e = .returned (lkV ⟨u, 1048576, Z, false, 0⟩) ∧ Kept w w' none := by
  have hwr : IntKind.i64.wrap (c + 1) = c + 1 := wrap_in (by omega) (by omega)
  obtain ⟨p, o, f, t⟩ := E
  subst hm
  subst hI hb
  go_enter Tryd.func26, Tryd.ntmps26
  go_wp2_with (go_at_call 37; refine ill_at (w := w) (E := ⟨p, o, f, t⟩) (u := u) (N := 1048576) (Z := Z) (x := ⟨q, 1048576, z, false, c⟩) HI.out (b5_at (by simp)) (B5.kept (b5_at (by simp)) (Kept.alloc _ _ _ _ _)) (B5.kept (B5.kept (b5_at (by simp)) (Kept.alloc _ _ _ _ _)) (Kept.alloc _ _ _ _ _)) ((((Kept.alloc _ _ _ _ _).tr (Kept.alloc _ _ _ _ _)).tr (Kept.alloc _ _ _ _ _)).tr (Kept.alloc _ _ _ _ _)) ?_; intro w1 hN hR hX hk1; have n0 := hN.c0; have n1 := hN.c1; have n2 := hN.c2; have n3 := hN.c3; have n4 := hN.c4; have m0 := hN.f0; have m1 := hN.f1; have m2 := hN.f2; have m3 := hN.f3; have m4 := hN.f4; have r0 := hR.c0; have r1 := hR.c1; have r2 := hR.c2; have r3 := hR.c3; have r4 := hR.c4; have s0 := hR.f0; have s1 := hR.f1; have s2 := hR.f2; have s3 := hR.f3; have s4 := hR.f4; have x0 := hX.c0; have x1 := hX.c1; have x2 := hX.c2; have x3 := hX.c3; have x4 := hX.c4; have lN := hN.lt)
  refine bodyPost_ret (v := lkV _) (by simp [results, Tryd.results26, go_sem, *]; done) rfl ⟨rfl, ?_⟩
  exact kept_set5 hk1 (by omega) _ _ _ _ _
set_option maxHeartbeats 1000000 in
theorem later_ni (E : Ey) (h : Int) (u q : Bool) (a z : Int) (b : Bool) (c : Int) (Z : Int) (I : Bool) (w : World) (i0 : 0 ≤ a) (i1 : a ≤ 1048576) (c0 : 0 ≤ c) (c1 : c ≤ 1048576) (hb0 : 0 ≤ Z) (hb1 : Z + 1 ≤ 18446744073709551615) (hz : IntKind.u64.wrap (z * 2) = Z) (ho : bits BinOp.or IntKind.u64 Z 1 = Z + 1) (hq : (u == q) = false) (hI : I = true) (HI : Hid (∀ w', Calls Tryd.prog 37 #[eyU E, lkV ⟨u, 1, Z + 1, false, 0⟩] w' fun e w'' => e = .returned (.bool I) ∧ Kept w' w'' none)) : Calls Tryd.prog 26 #[eyU E, .int .i64 h, lkV ⟨q, a, z, b, c⟩, .bool u] w fun e w' => e = .returned (lkV ⟨u, 1, Z + 1, true, 0⟩) ∧ Kept w w' none := by
  have hwr : IntKind.i64.wrap (c + 1) = c + 1 := wrap_in (by omega) (by omega)
  obtain ⟨p, o, f, t⟩ := E
  subst hI
  go_enter Tryd.func26, Tryd.ntmps26
  go_wp2_with (go_at_call 37; refine ill_at (w := w) (E := ⟨p, o, f, t⟩) (u := u) (N := 1) (Z := Z + 1) (x := ⟨q, a, z, b, c⟩) HI.out (b5_at (by simp)) (B5.kept (b5_at (by simp)) (Kept.alloc _ _ _ _ _)) (B5.kept (B5.kept (b5_at (by simp)) (Kept.alloc _ _ _ _ _)) (Kept.alloc _ _ _ _ _)) ((((Kept.alloc _ _ _ _ _).tr (Kept.alloc _ _ _ _ _)).tr (Kept.alloc _ _ _ _ _)).tr (Kept.alloc _ _ _ _ _)) ?_; intro w1 hN hR hX hk1; have n0 := hN.c0; have n1 := hN.c1; have n2 := hN.c2; have n3 := hN.c3; have n4 := hN.c4; have m0 := hN.f0; have m1 := hN.f1; have m2 := hN.f2; have m3 := hN.f3; have m4 := hN.f4; have r0 := hR.c0; have r1 := hR.c1; have r2 := hR.c2; have r3 := hR.c3; have r4 := hR.c4; have s0 := hR.f0; have s1 := hR.f1; have s2 := hR.f2; have s3 := hR.f3; have s4 := hR.f4; have x0 := hX.c0; have x1 := hX.c1; have x2 := hX.c2; have x3 := hX.c3; have x4 := hX.c4; have lN := hN.lt)
  refine bodyPost_ret (v := lkV _) (by simp [results, Tryd.results26, go_sem, *]; done) rfl ⟨rfl, ?_⟩
  exact kept_set5 (hk1.setNew (p := ⟨w.heap.size + 1 + 1 + 1, 3, none⟩) (by simp <;> omega) _) (by omega) _ _ _ _ _
set_option maxHeartbeats 1000000 in
theorem later_nh (E : Ey) (h : Int) (u q : Bool) (a z : Int) (b : Bool) (c : Int) (Z : Int) (I : Bool) (w : World) (i0 : 0 ≤ a) (i1 : a ≤ 1048576) (c0 : 0 ≤ c) (c1 : c ≤ 1048576) (hb0 : 0 ≤ Z) (hb1 : Z + 1 ≤ 18446744073709551615) (hz : IntKind.u64.wrap (z * 2) = Z) (ho : bits BinOp.or IntKind.u64 Z 1 = Z + 1) (hq : (u == q) = false) (hI : I = false) (hb : b = true) (hc : c + 1 < h) (HI : Hid (∀ w', Calls Tryd.prog 37 #[eyU E, lkV ⟨u, 1, Z + 1, false, 0⟩] w' fun e w'' => e = .returned (.bool I) ∧ Kept w' w'' none)) : Calls Tryd.prog 26 #[eyU E, .int .i64 h, lkV ⟨q, a, z, b, c⟩, .bool u] w fun e w' => e = .returned (lkV ⟨u, 1, Z + 1, true, c + 1⟩) ∧ Kept w w' none := by
  have hwr : IntKind.i64.wrap (c + 1) = c + 1 := wrap_in (by omega) (by omega)
  obtain ⟨p, o, f, t⟩ := E
  subst hI hb
  go_enter Tryd.func26, Tryd.ntmps26
  go_wp2_with (go_at_call 37; refine ill_at (w := w) (E := ⟨p, o, f, t⟩) (u := u) (N := 1) (Z := Z + 1) (x := ⟨q, a, z, true, c⟩) HI.out (b5_at (by simp)) (B5.kept (b5_at (by simp)) (Kept.alloc _ _ _ _ _)) (B5.kept (B5.kept (b5_at (by simp)) (Kept.alloc _ _ _ _ _)) (Kept.alloc _ _ _ _ _)) ((((Kept.alloc _ _ _ _ _).tr (Kept.alloc _ _ _ _ _)).tr (Kept.alloc _ _ _ _ _)).tr (Kept.alloc _ _ _ _ _)) ?_; intro w1 hN hR hX hk1; have n0 := hN.c0; have n1 := hN.c1; have n2 := hN.c2; have n3 := hN.c3; have n4 := hN.c4; have m0 := hN.f0; have m1 := hN.f1; have m2 := hN.f2; have m3 := hN.f3; have m4 := hN.f4; have r0 := hR.c0; have r1 := hR.c1; have r2 := hR.c2; have r3 := hR.c3; have r4 := hR.c4; have s0 := hR.f0; have s1 := hR.f1; have s2 := hR.f2; have s3 := hR.f3; have s4 := hR.f4; have x0 := hX.c0; have x1 := hX.c1; have x2 := hX.c2; have x3 := hX.c3; have x4 := hX.c4; have lN := hN.lt)
  go_region_held (fun w' => w'.cell? ⟨w.heap.size + 1, 4, none⟩ = some (.int .i64 c)) ((first | (try simp only [drew_cell]); (first | exact x4 | exact (World.cell?_setCell_far _ _ _ _ (by simp <;> omega)).trans x4 | exact (World.cell?_setCell_far _ _ _ _ (by simp <;> omega)).trans ((World.cell?_setCell_far _ _ _ _ (by simp <;> omega)).trans x4)))) (fail)
  try rw [hwr]
  have hN5 : Kbox (((w1.setCell ⟨w.heap.size + 1 + 1 + 1, 3, none⟩ (.bool true)).setCell ⟨w.heap.size + 1 + 1 + 1, 4, none⟩ (.int .i64 (c + 1))).drew) (w.heap.size + 1 + 1 + 1) ⟨u, 1, Z + 1, true, c + 1⟩ := ((hN.s3 _).s4 _).kept (Kept.drew _ _)
  have hR5 : Kbox (((w1.setCell ⟨w.heap.size + 1 + 1 + 1, 3, none⟩ (.bool true)).setCell ⟨w.heap.size + 1 + 1 + 1, 4, none⟩ (.int .i64 (c + 1))).drew) (w.heap.size + 1 + 1) Lk.zero := ((hR.far (by omega) 3 _).far (by omega) 4 _).kept (Kept.drew _ _)
  have hk5 : Kept w (((w1.setCell ⟨w.heap.size + 1 + 1 + 1, 3, none⟩ (.bool true)).setCell ⟨w.heap.size + 1 + 1 + 1, 4, none⟩ (.int .i64 (c + 1))).drew) none := ((hk1.setNew (p := ⟨w.heap.size + 1 + 1 + 1, 3, none⟩) (by simp <;> omega) _).setNew (p := ⟨w.heap.size + 1 + 1 + 1, 4, none⟩) (by simp <;> omega) _).tr (Kept.drew _ _)
  obtain ⟨W5, hW5⟩ : ∃ W5, (((w1.setCell ⟨w.heap.size + 1 + 1 + 1, 3, none⟩ (.bool true)).setCell ⟨w.heap.size + 1 + 1 + 1, 4, none⟩ (.int .i64 (c + 1))).drew) = W5 := ⟨_, rfl⟩
  rw [hW5] at hN5 hR5 hk5 ⊢
  clear hW5 n0 n1 n2 n3 n4 m0 m1 m2 m3 m4 r0 r1 r2 r3 r4 s0 s1 s2 s3 s4 x0 x1 x2 x3 x4 lN hN hR hX hk1
  have n0 := hN5.c0; have n1 := hN5.c1; have n2 := hN5.c2; have n3 := hN5.c3; have n4 := hN5.c4; have m0 := hN5.f0; have m1 := hN5.f1; have m2 := hN5.f2; have m3 := hN5.f3; have m4 := hN5.f4; have r0 := hR5.c0; have r1 := hR5.c1; have r2 := hR5.c2; have r3 := hR5.c3; have r4 := hR5.c4; have s0 := hR5.f0; have s1 := hR5.f1; have s2 := hR5.f2; have s3 := hR5.f3; have s4 := hR5.f4;
  go_wp2
  refine bodyPost_ret (v := lkV _) (by simp [results, Tryd.results26, go_sem, *]; done) rfl ⟨rfl, ?_⟩
  exact kept_set5 hk5 (by omega) _ _ _ _ _
set_option maxHeartbeats 1000000 in
theorem later_no (E : Ey) (h : Int) (u q : Bool) (a z : Int) (b : Bool) (c : Int) (Z : Int) (I : Bool) (w : World) (i0 : 0 ≤ a) (i1 : a ≤ 1048576) (c0 : 0 ≤ c) (c1 : c ≤ 1048576) (hb0 : 0 ≤ Z) (hb1 : Z + 1 ≤ 18446744073709551615) (hz : IntKind.u64.wrap (z * 2) = Z) (ho : bits BinOp.or IntKind.u64 Z 1 = Z + 1) (hq : (u == q) = false) (hI : I = false) (hb : b = true) (hc : ¬ c + 1 < h) (HI : Hid (∀ w', Calls Tryd.prog 37 #[eyU E, lkV ⟨u, 1, Z + 1, false, 0⟩] w' fun e w'' => e = .returned (.bool I) ∧ Kept w' w'' none)) : Calls Tryd.prog 26 #[eyU E, .int .i64 h, lkV ⟨q, a, z, b, c⟩, .bool u] w fun e w' => e = .returned (lkV ⟨u, 1, Z + 1, false, 0⟩) ∧ Kept w w' none := by
  have hwr : IntKind.i64.wrap (c + 1) = c + 1 := wrap_in (by omega) (by omega)
  obtain ⟨p, o, f, t⟩ := E
  subst hI hb
  go_enter Tryd.func26, Tryd.ntmps26
  go_wp2_with (go_at_call 37; refine ill_at (w := w) (E := ⟨p, o, f, t⟩) (u := u) (N := 1) (Z := Z + 1) (x := ⟨q, a, z, true, c⟩) HI.out (b5_at (by simp)) (B5.kept (b5_at (by simp)) (Kept.alloc _ _ _ _ _)) (B5.kept (B5.kept (b5_at (by simp)) (Kept.alloc _ _ _ _ _)) (Kept.alloc _ _ _ _ _)) ((((Kept.alloc _ _ _ _ _).tr (Kept.alloc _ _ _ _ _)).tr (Kept.alloc _ _ _ _ _)).tr (Kept.alloc _ _ _ _ _)) ?_; intro w1 hN hR hX hk1; have n0 := hN.c0; have n1 := hN.c1; have n2 := hN.c2; have n3 := hN.c3; have n4 := hN.c4; have m0 := hN.f0; have m1 := hN.f1; have m2 := hN.f2; have m3 := hN.f3; have m4 := hN.f4; have r0 := hR.c0; have r1 := hR.c1; have r2 := hR.c2; have r3 := hR.c3; have r4 := hR.c4; have s0 := hR.f0; have s1 := hR.f1; have s2 := hR.f2; have s3 := hR.f3; have s4 := hR.f4; have x0 := hX.c0; have x1 := hX.c1; have x2 := hX.c2; have x3 := hX.c3; have x4 := hX.c4; have lN := hN.lt)
  refine bodyPost_ret (v := lkV _) (by simp [results, Tryd.results26, go_sem, *]; done) rfl ⟨rfl, ?_⟩
  exact kept_set5 hk1 (by omega) _ _ _ _ _
set_option maxHeartbeats 1000000 in
theorem later_nf (E : Ey) (h : Int) (u q : Bool) (a z : Int) (b : Bool) (c : Int) (Z : Int) (I : Bool) (w : World) (i0 : 0 ≤ a) (i1 : a ≤ 1048576) (c0 : 0 ≤ c) (c1 : c ≤ 1048576) (hb0 : 0 ≤ Z) (hb1 : Z + 1 ≤ 18446744073709551615) (hz : IntKind.u64.wrap (z * 2) = Z) (ho : bits BinOp.or IntKind.u64 Z 1 = Z + 1) (hq : (u == q) = false) (hI : I = false) (hb : b = false) (HI : Hid (∀ w', Calls Tryd.prog 37 #[eyU E, lkV ⟨u, 1, Z + 1, false, 0⟩] w' fun e w'' => e = .returned (.bool I) ∧ Kept w' w'' none)) : Calls Tryd.prog 26 #[eyU E, .int .i64 h, lkV ⟨q, a, z, b, c⟩, .bool u] w fun e w' => e = .returned (lkV ⟨u, 1, Z + 1, false, 0⟩) ∧ Kept w w' none := by
  have hwr : IntKind.i64.wrap (c + 1) = c + 1 := wrap_in (by omega) (by omega)
  obtain ⟨p, o, f, t⟩ := E
  subst hI hb
  go_enter Tryd.func26, Tryd.ntmps26
  go_wp2_with (go_at_call 37; refine ill_at (w := w) (E := ⟨p, o, f, t⟩) (u := u) (N := 1) (Z := Z + 1) (x := ⟨q, a, z, false, c⟩) HI.out (b5_at (by simp)) (B5.kept (b5_at (by simp)) (Kept.alloc _ _ _ _ _)) (B5.kept (B5.kept (b5_at (by simp)) (Kept.alloc _ _ _ _ _)) (Kept.alloc _ _ _ _ _)) ((((Kept.alloc _ _ _ _ _).tr (Kept.alloc _ _ _ _ _)).tr (Kept.alloc _ _ _ _ _)).tr (Kept.alloc _ _ _ _ _)) ?_; intro w1 hN hR hX hk1; have n0 := hN.c0; have n1 := hN.c1; have n2 := hN.c2; have n3 := hN.c3; have n4 := hN.c4; have m0 := hN.f0; have m1 := hN.f1; have m2 := hN.f2; have m3 := hN.f3; have m4 := hN.f4; have r0 := hR.c0; have r1 := hR.c1; have r2 := hR.c2; have r3 := hR.c3; have r4 := hR.c4; have s0 := hR.f0; have s1 := hR.f1; have s2 := hR.f2; have s3 := hR.f3; have s4 := hR.f4; have x0 := hX.c0; have x1 := hX.c1; have x2 := hX.c2; have x3 := hX.c3; have x4 := hX.c4; have lN := hN.lt)
  refine bodyPost_ret (v := lkV _) (by simp [results, Tryd.results26, go_sem, *]; done) rfl ⟨rfl, ?_⟩
  exact kept_set5 hk1 (by omega) _ _ _ _ _
theorem later_out (E : Ey) (h : Int) (x : Lk) (u : Bool) (w : World) (hx : mayK x = true) (N Z : Int) (hN : samK x u = N) (hZ : turK x u = Z)
    (H : ∀ (I B : Bool) (W : Int), illK E u N Z = I → ((I = true ∧ B = true ∧ W = 0) ∨ (I = false ∧ x.bad = true ∧ x.well + 1 < h ∧ B = true ∧ W = x.well + 1) ∨ (I = false ∧ x.bad = true ∧ ¬ x.well + 1 < h ∧ B = false ∧ W = 0) ∨ (I = false ∧ x.bad = false ∧ B = false ∧ W = 0)) → Calls Tryd.prog 26 #[eyU E, .int .i64 h, lkV x, .bool u] w fun e w' => e = .returned (lkV ⟨u, N, Z, B, W⟩) ∧ Kept w w' none) : Calls Tryd.prog 26 #[eyU E, .int .i64 h, lkV x, .bool u] w fun e w' => e = .returned (lkV (stepK E h x u)) ∧ Kept w w' none := by
  cases hi : illK E u N Z
  · have hi' : illK E u (samK x u) (turK x u) = false := by rw [hN, hZ]; exact hi
    cases hb : x.bad
    · rw [step_well hi' (.inl hb), hN, hZ]
      exact H false false 0 hi (.inr (.inr (.inr ⟨rfl, hb, rfl, rfl⟩)))
    · by_cases hw : x.well + 1 < h
      · rw [step_heal hi' hb hw, hN, hZ]
        exact H false true _ hi (.inr (.inl ⟨rfl, hb, hw, rfl, rfl⟩))
      · rw [step_well hi' (.inr hw), hN, hZ]
        exact H false false 0 hi (.inr (.inr (.inl ⟨rfl, hb, hw, rfl, rfl⟩)))
  · have hi' : illK E u (samK x u) (turK x u) = true := by rw [hN, hZ]; exact hi
    rw [step_ill hi', hN, hZ]
    exact H true true 0 hi (.inl ⟨rfl, rfl, rfl⟩)
theorem later_any (E : Ey) (h : Int) (x : Lk) (u : Bool) (w : World) (hx : mayK x = true) (t0 : 0 ≤ x.turns) (t1 : x.turns < 18446744073709551616) : Calls Tryd.prog 26 #[eyU E, .int .i64 h, lkV x, .bool u] w fun e w' => e = .returned (lkV (stepK E h x u)) ∧ Kept w w' none := by
  obtain ⟨s0, s1, w0, w1, bw⟩ := mayK_iff.1 hx
  obtain ⟨q, a, z, b, c⟩ := x
  dsimp only at *
  have hz : IntKind.u64.wrap (z * 2) = z * 2 % 18446744073709551616 := IntKind.wrap_u64 _
  have ho := or_one (z := z)
  have hb0 : 0 ≤ z * 2 % 18446744073709551616 := by omega
  have hb1 : z * 2 % 18446744073709551616 + 1 ≤ 18446744073709551615 := by omega
  have hL : ∀ v, lasG z v = if v = true then z * 2 % 18446744073709551616 + 1 else z * 2 % 18446744073709551616 := fun v => rfl
  generalize z * 2 % 18446744073709551616 = Z at *
  cases hq : (u == q)
  · have e1 : samK ⟨q, a, z, b, c⟩ u = 1 := by unfold samK; rw [if_neg (by simpa using hq)]
    have e2 : turK ⟨q, a, z, b, c⟩ u = Z + 1 := by unfold turK; rw [hL, if_pos (by simpa using hq)]
    refine later_out E h _ u w hx _ _ e1 e2 ?_
    intro I B W hI hc
    have HI := Hid.mk' (fun w' => ill_any E ⟨u, 1, Z + 1, false, 0⟩ w' (by dsimp only; omega) (by dsimp only; omega))
    dsimp only at HI
    rw [hI] at HI
    rcases hc with ⟨rfl, rfl, rfl⟩ | ⟨rfl, hb, hw, rfl, rfl⟩ | ⟨rfl, hb, hw, rfl, rfl⟩ | ⟨rfl, hb, rfl, rfl⟩
    · exact later_ni E h u q a z b c Z _ w s0 s1 w0 w1 hb0 hb1 hz ho hq rfl HI
    · exact later_nh E h u q a z b c Z _ w s0 s1 w0 w1 hb0 hb1 hz ho hq rfl hb hw HI
    · exact later_no E h u q a z b c Z _ w s0 s1 w0 w1 hb0 hb1 hz ho hq rfl hb hw HI
    · exact later_nf E h u q a z b c Z _ w s0 s1 w0 w1 hb0 hb1 hz ho hq rfl hb HI
  · have e2 : turK ⟨q, a, z, b, c⟩ u = Z := by unfold turK; rw [hL, if_neg (by simpa using hq)]
    have e1 : samK ⟨q, a, z, b, c⟩ u = incG a 1048576 := by unfold samK; rw [if_pos (by simpa using hq)]
    unfold incG at e1
    by_cases hm : a + 1 < 1048576
    · rw [if_pos hm] at e1
      refine later_out E h _ u w hx _ _ e1 e2 ?_
      intro I B W hI hc
      have HI := Hid.mk' (fun w' => ill_any E ⟨u, a + 1, Z, false, 0⟩ w' (by dsimp only; omega) (by dsimp only; omega))
      dsimp only at HI
      rw [hI] at HI
      rcases hc with ⟨rfl, rfl, rfl⟩ | ⟨rfl, hb, hw, rfl, rfl⟩ | ⟨rfl, hb, hw, rfl, rfl⟩ | ⟨rfl, hb, rfl, rfl⟩
      · exact later_yi E h u q a z b c Z _ w s0 s1 w0 w1 hb0 hb1 hz ho hq hm rfl HI
      · exact later_yh E h u q a z b c Z _ w s0 s1 w0 w1 hb0 hb1 hz ho hq hm rfl hb hw HI
      · exact later_yo E h u q a z b c Z _ w s0 s1 w0 w1 hb0 hb1 hz ho hq hm rfl hb hw HI
      · exact later_yf E h u q a z b c Z _ w s0 s1 w0 w1 hb0 hb1 hz ho hq hm rfl hb HI
    · rw [if_neg hm] at e1
      refine later_out E h _ u w hx _ _ e1 e2 ?_
      by_cases hk : a = 1048575
      · skip
        intro I B W hI hc
        have HI := Hid.mk' (fun w' => ill_any E ⟨u, 1048576, Z, false, 0⟩ w' (by dsimp only; omega) (by dsimp only; omega))
        dsimp only at HI
        rw [hI] at HI
        rcases hc with ⟨rfl, rfl, rfl⟩ | ⟨rfl, hb, hw, rfl, rfl⟩ | ⟨rfl, hb, hw, rfl, rfl⟩ | ⟨rfl, hb, rfl, rfl⟩
        · exact later_zi E h u q a z b c Z _ w s0 s1 w0 w1 hb0 hb1 hz ho hq hk rfl HI
        · exact later_zh E h u q a z b c Z _ w s0 s1 w0 w1 hb0 hb1 hz ho hq hk rfl hb hw HI
        · exact later_zo E h u q a z b c Z _ w s0 s1 w0 w1 hb0 hb1 hz ho hq hk rfl hb hw HI
        · exact later_zf E h u q a z b c Z _ w s0 s1 w0 w1 hb0 hb1 hz ho hq hk rfl hb HI
      · have hk : a = 1048576 := by omega
        intro I B W hI hc
        have HI := Hid.mk' (fun w' => ill_any E ⟨u, 1048576, Z, false, 0⟩ w' (by dsimp only; omega) (by dsimp only; omega))
        dsimp only at HI
        rw [hI] at HI
        rcases hc with ⟨rfl, rfl, rfl⟩ | ⟨rfl, hb, hw, rfl, rfl⟩ | ⟨rfl, hb, hw, rfl, rfl⟩ | ⟨rfl, hb, rfl, rfl⟩
        · exact later_xi E h u q a z b c Z _ w s0 s1 w0 w1 hb0 hb1 hz ho hq hk rfl HI
        · exact later_xh E h u q a z b c Z _ w s0 s1 w0 w1 hb0 hb1 hz ho hq hk rfl hb hw HI
        · exact later_xo E h u q a z b c Z _ w s0 s1 w0 w1 hb0 hb1 hz ho hq hk rfl hb hw HI
        · exact later_xf E h u q a z b c Z _ w s0 s1 w0 w1 hb0 hb1 hz ho hq hk rfl hb HI

end Go.Proofs.YtommijjacknkpaaDoor
