/-
  Texts joined: some of those that the proofs of this seat stand on.
-/
import Derived.Test.YtommijjacknkpaaDoorEyeR
import Derived.Test.YtommijjacknkpaaDoorEyeD
/-
  THE CONTRACT of the document's step, a part (made by a program).
-/
namespace Go.Proofs.YtommijjacknkpaaDoor
open Go.RowKit Go.Lib Go.Deep
set_option linter.unusedVariables false
set_option linter.unusedSimpArgs false

set_option maxRecDepth 100000 in
set_option maxHeartbeats 4000000 in
theorem rstep_xt {X : Sa} {S : St} {w : World} (h : Sat w X S) (k : Nat) (hi : k < S.eyes.length) (u q : Bool) (hu : u = true) (a z : Int) (b : Bool) (c : Int) (Z : Int) (i0 : 0 ≤ a) (i1 : a ≤ 1048576) (c0 : 0 ≤ c) (c1 : c ≤ 1048576) (bw : b = false → c = 0) (hb0 : 0 ≤ Z) (hb1 : Z + 1 ≤ 18446744073709551615) (hz : IntKind.u64.wrap (z * 2) = Z) (HN : Hid (samK ⟨q, a, z, b, c⟩ u = 1048576)) (HZ : Hid (turK ⟨q, a, z, b, c⟩ u = Z)) (hq : (u == q) = true) (hm : a = 1048576) : Calls Tryd.prog 32 #[siteV X S, .int .i64 (k : Int), lkV ⟨q, a, z, b, c⟩, .bool u] w fun e w' => e = .returned (lkV (stepK (S.ey k) S.heal ⟨q, a, z, b, c⟩ u)) ∧ Kept w w' none := by
  have hwr : IntKind.i64.wrap (c + 1) = c + 1 := wrap_in (by omega) (by omega)
  have HCT := Hid.mk' (fun w' => rcnt_any (Z) w' (by omega) (by omega))
  have hqn : (u != q) = !(u == q) := by cases u <;> cases q <;> rfl
  rw [hq] at hqn
  subst hm
  have hE9 : S.eyes.length ≤ 9223372036854775807 := by have := h.ek.room; have := h.ek.max; omega
  obtain ⟨eb, eo, hea, hel, hec⟩ := h.e.at_ (by omega)
  have ey0 := hec k hi 0 (by omega)
  have ey1 := hec k hi 1 (by omega)
  have ey2 := hec k hi 2 (by omega)
  have ey3 := hec k hi 3 (by omega)
  simp only [eyV] at ey0 ey1 ey2 ey3
  clear hec
  generalize S.ey k = EE at *
  obtain ⟨e0', e1', e2', e3'⟩ := EE
  dsimp only at ey0 ey1 ey2 ey3
  have k1 : Kept w (w.alloc (.cells #[.int .i64 S.id, .slice X.g S.groups.length X.gc, .slice X.a S.apart.length X.ac, .slice X.b S.between.length X.bc, .slice X.p S.phases.length X.pc, .slice X.e S.eyes.length X.ec, .int .i64 S.watch, .int .i64 S.feed, .int .i64 S.heal, .int .i64 S.low, .int .i64 S.high, .slice X.l S.plans.length X.lc] 29)) none := Kept.alloc _ _ _ _ _
  have k2 : Kept (w.alloc (.cells #[.int .i64 S.id, .slice X.g S.groups.length X.gc, .slice X.a S.apart.length X.ac, .slice X.b S.between.length X.bc, .slice X.p S.phases.length X.pc, .slice X.e S.eyes.length X.ec, .int .i64 S.watch, .int .i64 S.feed, .int .i64 S.heal, .int .i64 S.low, .int .i64 S.high, .slice X.l S.plans.length X.lc] 29)) ((w.alloc (.cells #[.int .i64 S.id, .slice X.g S.groups.length X.gc, .slice X.a S.apart.length X.ac, .slice X.b S.between.length X.bc, .slice X.p S.phases.length X.pc, .slice X.e S.eyes.length X.ec, .int .i64 S.watch, .int .i64 S.feed, .int .i64 S.heal, .int .i64 S.low, .int .i64 S.high, .slice X.l S.plans.length X.lc] 29)).alloc (.cells (lkC ⟨q, 1048576, z, b, c⟩) 33)) none := Kept.alloc _ _ _ _ _
  have k3 : Kept ((w.alloc (.cells #[.int .i64 S.id, .slice X.g S.groups.length X.gc, .slice X.a S.apart.length X.ac, .slice X.b S.between.length X.bc, .slice X.p S.phases.length X.pc, .slice X.e S.eyes.length X.ec, .int .i64 S.watch, .int .i64 S.feed, .int .i64 S.heal, .int .i64 S.low, .int .i64 S.high, .slice X.l S.plans.length X.lc] 29)).alloc (.cells (lkC ⟨q, 1048576, z, b, c⟩) 33)) (((w.alloc (.cells #[.int .i64 S.id, .slice X.g S.groups.length X.gc, .slice X.a S.apart.length X.ac, .slice X.b S.between.length X.bc, .slice X.p S.phases.length X.pc, .slice X.e S.eyes.length X.ec, .int .i64 S.watch, .int .i64 S.feed, .int .i64 S.heal, .int .i64 S.low, .int .i64 S.high, .slice X.l S.plans.length X.lc] 29)).alloc (.cells (lkC ⟨q, 1048576, z, b, c⟩) 33)).alloc (.cells #[.bool false, .int .i64 0, .int .u64 0, .bool false, .int .i64 0] 33)) none := Kept.alloc _ _ _ _ _
  have hkA := (k1.tr k2).tr k3
  have hsb := ((sbox_alloc h 29).kept k2).kept k3
  have hxb : Kbox (((w.alloc (.cells #[.int .i64 S.id, .slice X.g S.groups.length X.gc, .slice X.a S.apart.length X.ac, .slice X.b S.between.length X.bc, .slice X.p S.phases.length X.pc, .slice X.e S.eyes.length X.ec, .int .i64 S.watch, .int .i64 S.feed, .int .i64 S.heal, .int .i64 S.low, .int .i64 S.high, .slice X.l S.plans.length X.lc] 29)).alloc (.cells (lkC ⟨q, 1048576, z, b, c⟩) 33)).alloc (.cells #[.bool false, .int .i64 0, .int .u64 0, .bool false, .int .i64 0] 33)) (w.heap.size + 1) ⟨q, 1048576, z, b, c⟩ := B5.kept (b5_at (by simp)) k3
  have hrb : Kbox (((w.alloc (.cells #[.int .i64 S.id, .slice X.g S.groups.length X.gc, .slice X.a S.apart.length X.ac, .slice X.b S.between.length X.bc, .slice X.p S.phases.length X.pc, .slice X.e S.eyes.length X.ec, .int .i64 S.watch, .int .i64 S.feed, .int .i64 S.heal, .int .i64 S.low, .int .i64 S.high, .slice X.l S.plans.length X.lc] 29)).alloc (.cells (lkC ⟨q, 1048576, z, b, c⟩) 33)).alloc (.cells #[.bool false, .int .i64 0, .int .u64 0, .bool false, .int .i64 0] 33)) (w.heap.size + 1 + 1) Lk.zero := b5_at (by simp)
  have hsz : (((w.alloc (.cells #[.int .i64 S.id, .slice X.g S.groups.length X.gc, .slice X.a S.apart.length X.ac, .slice X.b S.between.length X.bc, .slice X.p S.phases.length X.pc, .slice X.e S.eyes.length X.ec, .int .i64 S.watch, .int .i64 S.feed, .int .i64 S.heal, .int .i64 S.low, .int .i64 S.high, .slice X.l S.plans.length X.lc] 29)).alloc (.cells (lkC ⟨q, 1048576, z, b, c⟩) 33)).alloc (.cells #[.bool false, .int .i64 0, .int .u64 0, .bool false, .int .i64 0] 33)).heap.size = w.heap.size + 1 + 1 + 1 := by simp
  clear k1 k2 k3
  obtain ⟨WA, hWA⟩ : ∃ WA, (((w.alloc (.cells #[.int .i64 S.id, .slice X.g S.groups.length X.gc, .slice X.a S.apart.length X.ac, .slice X.b S.between.length X.bc, .slice X.p S.phases.length X.pc, .slice X.e S.eyes.length X.ec, .int .i64 S.watch, .int .i64 S.feed, .int .i64 S.heal, .int .i64 S.low, .int .i64 S.high, .slice X.l S.plans.length X.lc] 29)).alloc (.cells (lkC ⟨q, 1048576, z, b, c⟩) 33)).alloc (.cells #[.bool false, .int .i64 0, .int .u64 0, .bool false, .int .i64 0] 33)) = WA := ⟨_, rfl⟩
  rw [hWA] at hkA hsb hxb hrb hsz
  have g0 : WA.cell? ⟨eb, eo + k * 4, none⟩ = some (.int .i64 e0') := (cell_kept' hkA hel).trans ey0
  have g1 := (cell_kept' hkA hel).trans ey1
  have g2 := (cell_kept' hkA hel).trans ey2
  have g3 := (cell_kept' hkA hel).trans ey3
  have s5 := hsb.c5
  have s8 := hsb.c8
  rw [hea] at s5
  clear hea
  have x0 := hxb.c0
  have x1 := hxb.c1
  have x2 := hxb.c2
  have x3 := hxb.c3
  have x4 := hxb.c4
 
  have HK := Hid.mk' hkA
  clear ey0 ey1 ey2 ey3 h
  subst hu
  go_enter Tryd.func32, Tryd.ntmps32
  go_wp2_with (first | rw [hWA] | rw [hsz])
  have kB : Kept WA (WA.alloc (.cells #[.int .i64 e0', .int .i64 e1', .int .i64 e2', .int .i64 e3'] 60)) none := Kept.alloc _ _ _ _ _
  have kC : Kept (WA.alloc (.cells #[.int .i64 e0', .int .i64 e1', .int .i64 e2', .int .i64 e3'] 60)) ((WA.alloc (.cells #[.int .i64 e0', .int .i64 e1', .int .i64 e2', .int .i64 e3'] 60)).alloc (.cells #[.bool true, .int .i64 (1048576), .int .u64 (Z), .bool b, .int .i64 c] 33)) none := Kept.alloc _ _ _ _ _
  have s8' := ((hsb.kept kB).kept kC).c8
  have xb := (hxb.kept kB).kept kC
  have rb := (hrb.kept kB).kept kC
  have ob : Kbox ((WA.alloc (.cells #[.int .i64 e0', .int .i64 e1', .int .i64 e2', .int .i64 e3'] 60)).alloc (.cells #[.bool true, .int .i64 (1048576), .int .u64 (Z), .bool b, .int .i64 c] 33)) (w.heap.size + 1 + 1 + 1 + 1) ⟨true, 1048576, Z, b, c⟩ := b5_at (by simp [hsz])
  obtain ⟨y0, y1, y2, y3⟩ := b4_alloc (w := WA) (v0 := .int .i64 e0') (v1 := .int .i64 e1') (v2 := .int .i64 e2') (v3 := .int .i64 e3') (t := 60) hsz
  have y1' := cell_kept0 y1 kC
  have y2' := cell_kept0 y2 kC
  have y3' := cell_kept0 y3 kC
  have HKN := Hid.mk' ((hkA.tr kB).tr kC)
  obtain ⟨W5, hW5⟩ : ∃ W5, ((WA.alloc (.cells #[.int .i64 e0', .int .i64 e1', .int .i64 e2', .int .i64 e3'] 60)).alloc (.cells #[.bool true, .int .i64 (1048576), .int .u64 (Z), .bool b, .int .i64 c] 33)) = W5 := ⟨_, rfl⟩
  rw [hW5] at s8' xb rb ob y1' y2' y3' HKN ⊢
  clear hW5 kB kC y0 y1 y2 y3 s5 s8 x0 x1 x2 x3 x4 hsb hxb hrb g0 g1 g2 g3 hkA
  have x0 := xb.c0
  have x1 := xb.c1
  have x2 := xb.c2
  have x3 := xb.c3
  have x4 := xb.c4
 
  have r0 := rb.c0
  have r1 := rb.c1
  have r2 := rb.c2
  have r3 := rb.c3
  have r4 := rb.c4
 
  have f0 := rb.f0
  have f1 := rb.f1
  have f2 := rb.f2
  have f3 := rb.f3
  have f4 := rb.f4
 
  have o0 := ob.c0
  have o1 := ob.c1
  have o2 := ob.c2
  have o3 := ob.c3
  have o4 := ob.c4
 
  have m0 := ob.f0
  have m1 := ob.f1
  have m2 := ob.f2
  have m3 := ob.f3
  have m4 := ob.f4
 
  have hlo := ob.lt
  clear xb rb ob
  by_cases hlim : e1' ≤ 1048576
  · have hill : illK ⟨e0', e1', e2', e3'⟩ true (1048576) (Z) = true := by unfold illK; simp [hlim]
    go_quiet (first | (go_at_call 44; exact Calls.quiet_of_same (HCT.out _)))
    go_wp2
    refine bodyPost_ret (v := lkV ⟨true, 1048576, Z, true, 0⟩) (by simp [results, Tryd.results32, go_sem, *]; done) rfl ⟨by rw [step_ill (e := ⟨e0', e1', e2', e3'⟩) (h := S.heal) (x := ⟨q, 1048576, z, _, _⟩) (u := true) (by rw [HN.out, HZ.out]; exact hill), HN.out, HZ.out], ?_⟩
    exact kept_set5 (((HKN.out.tr (Kept.drewN _ _ _)).setNew (p := ⟨(w.heap.size + 1 + 1 + 1 + 1), 3, none⟩) (by simp <;> omega) _).setNew (p := ⟨(w.heap.size + 1 + 1 + 1 + 1), 4, none⟩) (by simp <;> omega) _) (by omega) _ _ _ _ _
  by_cases htu : e3' < stand (Z) 64
  · have hill : illK ⟨e0', e1', e2', e3'⟩ true (1048576) (Z) = true := by unfold illK; simp [htu]
    generalize stand (Z) 64 = T at *
    go_quiet (first | (go_at_call 44; exact Calls.quiet_of_same (HCT.out _)))
    go_wp2
    refine bodyPost_ret (v := lkV ⟨true, 1048576, Z, true, 0⟩) (by simp [results, Tryd.results32, go_sem, *]; done) rfl ⟨by rw [step_ill (e := ⟨e0', e1', e2', e3'⟩) (h := S.heal) (x := ⟨q, 1048576, z, _, _⟩) (u := true) (by rw [HN.out, HZ.out]; exact hill), HN.out, HZ.out], ?_⟩
    exact kept_set5 (((HKN.out.tr (Kept.drewN _ _ _)).setNew (p := ⟨(w.heap.size + 1 + 1 + 1 + 1), 3, none⟩) (by simp <;> omega) _).setNew (p := ⟨(w.heap.size + 1 + 1 + 1 + 1), 4, none⟩) (by simp <;> omega) _) (by omega) _ _ _ _ _
  have hill : illK ⟨e0', e1', e2', e3'⟩ true (1048576) (Z) = false := by unfold illK; simp [hlim, htu]
  generalize stand (Z) 64 = T at *
  cases b
  · obtain rfl : c = 0 := bw rfl
    go_quiet (first | (go_at_call 44; exact Calls.quiet_of_same (HCT.out _)))
    go_wp2
    refine bodyPost_ret (v := lkV ⟨true, 1048576, Z, false, 0⟩) (by simp [results, Tryd.results32, go_sem, *]; done) rfl ⟨by rw [step_well (e := ⟨e0', e1', e2', e3'⟩) (h := S.heal) (x := ⟨q, 1048576, z, _, _⟩) (u := true) (by rw [HN.out, HZ.out]; exact hill) (.inl rfl), HN.out, HZ.out], ?_⟩
    exact kept_set5 (HKN.out.tr (Kept.drewN _ _ _)) (by omega) _ _ _ _ _
  by_cases hw : c + 1 < S.heal
  · go_quiet (first | (go_at_call 44; exact Calls.quiet_of_same (HCT.out _)))
    go_wp2
    refine bodyPost_ret (v := lkV ⟨true, 1048576, Z, true, c + 1⟩) (by simp [results, Tryd.results32, go_sem, *]; done) rfl ⟨by rw [step_heal (e := ⟨e0', e1', e2', e3'⟩) (h := S.heal) (x := ⟨q, 1048576, z, _, _⟩) (u := true) (by rw [HN.out, HZ.out]; exact hill) rfl hw, HN.out, HZ.out], ?_⟩
    exact kept_set5 ((HKN.out.tr (Kept.drewN _ _ _)).setNew (p := ⟨(w.heap.size + 1 + 1 + 1 + 1), 4, none⟩) (by simp <;> omega) _) (by omega) _ _ _ _ _
  · have HWW := Hid.mk' hw
    go_quiet (first | (go_at_call 44; exact Calls.quiet_of_same (HCT.out _)))
    go_wp2
    refine bodyPost_ret (v := lkV ⟨true, 1048576, Z, false, 0⟩) (by simp [results, Tryd.results32, go_sem, *]; done) rfl ⟨by rw [step_well (e := ⟨e0', e1', e2', e3'⟩) (h := S.heal) (x := ⟨q, 1048576, z, _, _⟩) (u := true) (by rw [HN.out, HZ.out]; exact hill) (.inr (Int.not_lt.2 hw)), HN.out, HZ.out], ?_⟩
    exact kept_set5 ((((HKN.out.tr (Kept.drewN _ _ _)).setNew (p := ⟨(w.heap.size + 1 + 1 + 1 + 1), 4, none⟩) (by simp <;> omega) _).setNew (p := ⟨(w.heap.size + 1 + 1 + 1 + 1), 3, none⟩) (by simp <;> omega) _).setNew (p := ⟨(w.heap.size + 1 + 1 + 1 + 1), 4, none⟩) (by simp <;> omega) _) (by omega) _ _ _ _ _
set_option maxRecDepth 100000 in
set_option maxHeartbeats 4000000 in
theorem rstep_xf {X : Sa} {S : St} {w : World} (h : Sat w X S) (k : Nat) (hi : k < S.eyes.length) (u q : Bool) (hu : u = false) (a z : Int) (b : Bool) (c : Int) (Z : Int) (i0 : 0 ≤ a) (i1 : a ≤ 1048576) (c0 : 0 ≤ c) (c1 : c ≤ 1048576) (bw : b = false → c = 0) (hb0 : 0 ≤ Z) (hb1 : Z + 1 ≤ 18446744073709551615) (hz : IntKind.u64.wrap (z * 2) = Z) (HN : Hid (samK ⟨q, a, z, b, c⟩ u = 1048576)) (HZ : Hid (turK ⟨q, a, z, b, c⟩ u = Z)) (hq : (u == q) = true) (hm : a = 1048576) : Calls Tryd.prog 32 #[siteV X S, .int .i64 (k : Int), lkV ⟨q, a, z, b, c⟩, .bool u] w fun e w' => e = .returned (lkV (stepK (S.ey k) S.heal ⟨q, a, z, b, c⟩ u)) ∧ Kept w w' none := by
  have hwr : IntKind.i64.wrap (c + 1) = c + 1 := wrap_in (by omega) (by omega)
  have HCT := Hid.mk' (fun w' => rcnt_any (Z) w' (by omega) (by omega))
  have hqn : (u != q) = !(u == q) := by cases u <;> cases q <;> rfl
  rw [hq] at hqn
  subst hm
  have hE9 : S.eyes.length ≤ 9223372036854775807 := by have := h.ek.room; have := h.ek.max; omega
  obtain ⟨eb, eo, hea, hel, hec⟩ := h.e.at_ (by omega)
  have ey0 := hec k hi 0 (by omega)
  have ey1 := hec k hi 1 (by omega)
  have ey2 := hec k hi 2 (by omega)
  have ey3 := hec k hi 3 (by omega)
  simp only [eyV] at ey0 ey1 ey2 ey3
  clear hec
  generalize S.ey k = EE at *
  obtain ⟨e0', e1', e2', e3'⟩ := EE
  dsimp only at ey0 ey1 ey2 ey3
  have k1 : Kept w (w.alloc (.cells #[.int .i64 S.id, .slice X.g S.groups.length X.gc, .slice X.a S.apart.length X.ac, .slice X.b S.between.length X.bc, .slice X.p S.phases.length X.pc, .slice X.e S.eyes.length X.ec, .int .i64 S.watch, .int .i64 S.feed, .int .i64 S.heal, .int .i64 S.low, .int .i64 S.high, .slice X.l S.plans.length X.lc] 29)) none := Kept.alloc _ _ _ _ _
  have k2 : Kept (w.alloc (.cells #[.int .i64 S.id, .slice X.g S.groups.length X.gc, .slice X.a S.apart.length X.ac, .slice X.b S.between.length X.bc, .slice X.p S.phases.length X.pc, .slice X.e S.eyes.length X.ec, .int .i64 S.watch, .int .i64 S.feed, .int .i64 S.heal, .int .i64 S.low, .int .i64 S.high, .slice X.l S.plans.length X.lc] 29)) ((w.alloc (.cells #[.int .i64 S.id, .slice X.g S.groups.length X.gc, .slice X.a S.apart.length X.ac, .slice X.b S.between.length X.bc, .slice X.p S.phases.length X.pc, .slice X.e S.eyes.length X.ec, .int .i64 S.watch, .int .i64 S.feed, .int .i64 S.heal, .int .i64 S.low, .int .i64 S.high, .slice X.l S.plans.length X.lc] 29)).alloc (.cells (lkC ⟨q, 1048576, z, b, c⟩) 33)) none := Kept.alloc _ _ _ _ _
  have k3 : Kept ((w.alloc (.cells #[.int .i64 S.id, .slice X.g S.groups.length X.gc, .slice X.a S.apart.length X.ac, .slice X.b S.between.length X.bc, .slice X.p S.phases.length X.pc, .slice X.e S.eyes.length X.ec, .int .i64 S.watch, .int .i64 S.feed, .int .i64 S.heal, .int .i64 S.low, .int .i64 S.high, .slice X.l S.plans.length X.lc] 29)).alloc (.cells (lkC ⟨q, 1048576, z, b, c⟩) 33)) (((w.alloc (.cells #[.int .i64 S.id, .slice X.g S.groups.length X.gc, .slice X.a S.apart.length X.ac, .slice X.b S.between.length X.bc, .slice X.p S.phases.length X.pc, .slice X.e S.eyes.length X.ec, .int .i64 S.watch, .int .i64 S.feed, .int .i64 S.heal, .int .i64 S.low, .int .i64 S.high, .slice X.l S.plans.length X.lc] 29)).alloc (.cells (lkC ⟨q, 1048576, z, b, c⟩) 33)).alloc (.cells #[.bool false, .int .i64 0, .int .u64 0, .bool false, .int .i64 0] 33)) none := Kept.alloc _ _ _ _ _
  have hkA := (k1.tr k2).tr k3
  have hsb := ((sbox_alloc h 29).kept k2).kept k3
  have hxb : Kbox (((w.alloc (.cells #[.int .i64 S.id, .slice X.g S.groups.length X.gc, .slice X.a S.apart.length X.ac, .slice X.b S.between.length X.bc, .slice X.p S.phases.length X.pc, .slice X.e S.eyes.length X.ec, .int .i64 S.watch, .int .i64 S.feed, .int .i64 S.heal, .int .i64 S.low, .int .i64 S.high, .slice X.l S.plans.length X.lc] 29)).alloc (.cells (lkC ⟨q, 1048576, z, b, c⟩) 33)).alloc (.cells #[.bool false, .int .i64 0, .int .u64 0, .bool false, .int .i64 0] 33)) (w.heap.size + 1) ⟨q, 1048576, z, b, c⟩ := B5.kept (b5_at (by simp)) k3
  have hrb : Kbox (((w.alloc (.cells #[.int .i64 S.id, .slice X.g S.groups.length X.gc, .slice X.a S.apart.length X.ac, .slice X.b S.between.length X.bc, .slice X.p S.phases.length X.pc, .slice X.e S.eyes.length X.ec, .int .i64 S.watch, .int .i64 S.feed, .int .i64 S.heal, .int .i64 S.low, .int .i64 S.high, .slice X.l S.plans.length X.lc] 29)).alloc (.cells (lkC ⟨q, 1048576, z, b, c⟩) 33)).alloc (.cells #[.bool false, .int .i64 0, .int .u64 0, .bool false, .int .i64 0] 33)) (w.heap.size + 1 + 1) Lk.zero := b5_at (by simp)
  have hsz : (((w.alloc (.cells #[.int .i64 S.id, .slice X.g S.groups.length X.gc, .slice X.a S.apart.length X.ac, .slice X.b S.between.length X.bc, .slice X.p S.phases.length X.pc, .slice X.e S.eyes.length X.ec, .int .i64 S.watch, .int .i64 S.feed, .int .i64 S.heal, .int .i64 S.low, .int .i64 S.high, .slice X.l S.plans.length X.lc] 29)).alloc (.cells (lkC ⟨q, 1048576, z, b, c⟩) 33)).alloc (.cells #[.bool false, .int .i64 0, .int .u64 0, .bool false, .int .i64 0] 33)).heap.size = w.heap.size + 1 + 1 + 1 := by simp
  clear k1 k2 k3
  obtain ⟨WA, hWA⟩ : ∃ WA, (((w.alloc (.cells #[.int .i64 S.id, .slice X.g S.groups.length X.gc, .slice X.a S.apart.length X.ac, .slice X.b S.between.length X.bc, .slice X.p S.phases.length X.pc, .slice X.e S.eyes.length X.ec, .int .i64 S.watch, .int .i64 S.feed, .int .i64 S.heal, .int .i64 S.low, .int .i64 S.high, .slice X.l S.plans.length X.lc] 29)).alloc (.cells (lkC ⟨q, 1048576, z, b, c⟩) 33)).alloc (.cells #[.bool false, .int .i64 0, .int .u64 0, .bool false, .int .i64 0] 33)) = WA := ⟨_, rfl⟩
  rw [hWA] at hkA hsb hxb hrb hsz
  have g0 : WA.cell? ⟨eb, eo + k * 4, none⟩ = some (.int .i64 e0') := (cell_kept' hkA hel).trans ey0
  have g1 := (cell_kept' hkA hel).trans ey1
  have g2 := (cell_kept' hkA hel).trans ey2
  have g3 := (cell_kept' hkA hel).trans ey3
  have s5 := hsb.c5
  have s8 := hsb.c8
  rw [hea] at s5
  clear hea
  have x0 := hxb.c0
  have x1 := hxb.c1
  have x2 := hxb.c2
  have x3 := hxb.c3
  have x4 := hxb.c4
 
  have HK := Hid.mk' hkA
  clear ey0 ey1 ey2 ey3 h
  subst hu
  go_enter Tryd.func32, Tryd.ntmps32
  go_wp2_with (first | rw [hWA] | rw [hsz])
  have kB : Kept WA (WA.alloc (.cells #[.int .i64 e0', .int .i64 e1', .int .i64 e2', .int .i64 e3'] 60)) none := Kept.alloc _ _ _ _ _
  have kC : Kept (WA.alloc (.cells #[.int .i64 e0', .int .i64 e1', .int .i64 e2', .int .i64 e3'] 60)) ((WA.alloc (.cells #[.int .i64 e0', .int .i64 e1', .int .i64 e2', .int .i64 e3'] 60)).alloc (.cells #[.bool false, .int .i64 (1048576), .int .u64 (Z), .bool b, .int .i64 c] 33)) none := Kept.alloc _ _ _ _ _
  have s8' := ((hsb.kept kB).kept kC).c8
  have xb := (hxb.kept kB).kept kC
  have rb := (hrb.kept kB).kept kC
  have ob : Kbox ((WA.alloc (.cells #[.int .i64 e0', .int .i64 e1', .int .i64 e2', .int .i64 e3'] 60)).alloc (.cells #[.bool false, .int .i64 (1048576), .int .u64 (Z), .bool b, .int .i64 c] 33)) (w.heap.size + 1 + 1 + 1 + 1) ⟨false, 1048576, Z, b, c⟩ := b5_at (by simp [hsz])
  obtain ⟨y0, y1, y2, y3⟩ := b4_alloc (w := WA) (v0 := .int .i64 e0') (v1 := .int .i64 e1') (v2 := .int .i64 e2') (v3 := .int .i64 e3') (t := 60) hsz
  have y1' := cell_kept0 y1 kC
  have y2' := cell_kept0 y2 kC
  have y3' := cell_kept0 y3 kC
  have HKN := Hid.mk' ((hkA.tr kB).tr kC)
  obtain ⟨W5, hW5⟩ : ∃ W5, ((WA.alloc (.cells #[.int .i64 e0', .int .i64 e1', .int .i64 e2', .int .i64 e3'] 60)).alloc (.cells #[.bool false, .int .i64 (1048576), .int .u64 (Z), .bool b, .int .i64 c] 33)) = W5 := ⟨_, rfl⟩
  rw [hW5] at s8' xb rb ob y1' y2' y3' HKN ⊢
  clear hW5 kB kC y0 y1 y2 y3 s5 s8 x0 x1 x2 x3 x4 hsb hxb hrb g0 g1 g2 g3 hkA
  have x0 := xb.c0
  have x1 := xb.c1
  have x2 := xb.c2
  have x3 := xb.c3
  have x4 := xb.c4
 
  have r0 := rb.c0
  have r1 := rb.c1
  have r2 := rb.c2
  have r3 := rb.c3
  have r4 := rb.c4
 
  have f0 := rb.f0
  have f1 := rb.f1
  have f2 := rb.f2
  have f3 := rb.f3
  have f4 := rb.f4
 
  have o0 := ob.c0
  have o1 := ob.c1
  have o2 := ob.c2
  have o3 := ob.c3
  have o4 := ob.c4
 
  have m0 := ob.f0
  have m1 := ob.f1
  have m2 := ob.f2
  have m3 := ob.f3
  have m4 := ob.f4
 
  have hlo := ob.lt
  clear xb rb ob
  by_cases hlim : e2' ≤ 1048576
  · have hill : illK ⟨e0', e1', e2', e3'⟩ false (1048576) (Z) = true := by unfold illK; simp [hlim]
    go_quiet (first | (go_at_call 44; exact Calls.quiet_of_same (HCT.out _)))
    go_wp2
    refine bodyPost_ret (v := lkV ⟨false, 1048576, Z, true, 0⟩) (by simp [results, Tryd.results32, go_sem, *]; done) rfl ⟨by rw [step_ill (e := ⟨e0', e1', e2', e3'⟩) (h := S.heal) (x := ⟨q, 1048576, z, _, _⟩) (u := false) (by rw [HN.out, HZ.out]; exact hill), HN.out, HZ.out], ?_⟩
    exact kept_set5 (((HKN.out.tr (Kept.drewN _ _ _)).setNew (p := ⟨(w.heap.size + 1 + 1 + 1 + 1), 3, none⟩) (by simp <;> omega) _).setNew (p := ⟨(w.heap.size + 1 + 1 + 1 + 1), 4, none⟩) (by simp <;> omega) _) (by omega) _ _ _ _ _
  by_cases htu : e3' < stand (Z) 64
  · have hill : illK ⟨e0', e1', e2', e3'⟩ false (1048576) (Z) = true := by unfold illK; simp [htu]
    generalize stand (Z) 64 = T at *
    go_quiet (first | (go_at_call 44; exact Calls.quiet_of_same (HCT.out _)))
    go_wp2
    refine bodyPost_ret (v := lkV ⟨false, 1048576, Z, true, 0⟩) (by simp [results, Tryd.results32, go_sem, *]; done) rfl ⟨by rw [step_ill (e := ⟨e0', e1', e2', e3'⟩) (h := S.heal) (x := ⟨q, 1048576, z, _, _⟩) (u := false) (by rw [HN.out, HZ.out]; exact hill), HN.out, HZ.out], ?_⟩
    exact kept_set5 (((HKN.out.tr (Kept.drewN _ _ _)).setNew (p := ⟨(w.heap.size + 1 + 1 + 1 + 1), 3, none⟩) (by simp <;> omega) _).setNew (p := ⟨(w.heap.size + 1 + 1 + 1 + 1), 4, none⟩) (by simp <;> omega) _) (by omega) _ _ _ _ _
  have hill : illK ⟨e0', e1', e2', e3'⟩ false (1048576) (Z) = false := by unfold illK; simp [hlim, htu]
  generalize stand (Z) 64 = T at *
  cases b
  · obtain rfl : c = 0 := bw rfl
    go_quiet (first | (go_at_call 44; exact Calls.quiet_of_same (HCT.out _)))
    go_wp2
    refine bodyPost_ret (v := lkV ⟨false, 1048576, Z, false, 0⟩) (by simp [results, Tryd.results32, go_sem, *]; done) rfl ⟨by rw [step_well (e := ⟨e0', e1', e2', e3'⟩) (h := S.heal) (x := ⟨q, 1048576, z, _, _⟩) (u := false) (by rw [HN.out, HZ.out]; exact hill) (.inl rfl), HN.out, HZ.out], ?_⟩
    exact kept_set5 (HKN.out.tr (Kept.drewN _ _ _)) (by omega) _ _ _ _ _
  by_cases hw : c + 1 < S.heal
  · go_quiet (first | (go_at_call 44; exact Calls.quiet_of_same (HCT.out _)))
    go_wp2
    refine bodyPost_ret (v := lkV ⟨false, 1048576, Z, true, c + 1⟩) (by simp [results, Tryd.results32, go_sem, *]; done) rfl ⟨by rw [step_heal (e := ⟨e0', e1', e2', e3'⟩) (h := S.heal) (x := ⟨q, 1048576, z, _, _⟩) (u := false) (by rw [HN.out, HZ.out]; exact hill) rfl hw, HN.out, HZ.out], ?_⟩
    exact kept_set5 ((HKN.out.tr (Kept.drewN _ _ _)).setNew (p := ⟨(w.heap.size + 1 + 1 + 1 + 1), 4, none⟩) (by simp <;> omega) _) (by omega) _ _ _ _ _
  · have HWW := Hid.mk' hw
    go_quiet (first | (go_at_call 44; exact Calls.quiet_of_same (HCT.out _)))
    go_wp2
    refine bodyPost_ret (v := lkV ⟨false, 1048576, Z, false, 0⟩) (by simp [results, Tryd.results32, go_sem, *]; done) rfl ⟨by rw [step_well (e := ⟨e0', e1', e2', e3'⟩) (h := S.heal) (x := ⟨q, 1048576, z, _, _⟩) (u := false) (by rw [HN.out, HZ.out]; exact hill) (.inr (Int.not_lt.2 hw)), HN.out, HZ.out], ?_⟩
    exact kept_set5 ((((HKN.out.tr (Kept.drewN _ _ _)).setNew (p := ⟨(w.heap.size + 1 + 1 + 1 + 1), 4, none⟩) (by simp <;> omega) _).setNew (p := ⟨(w.heap.size + 1 + 1 + 1 + 1), 3, none⟩) (by simp <;> omega) _).setNew (p := ⟨(w.heap.size + 1 + 1 + 1 + 1), 4, none⟩) (by simp <;> omega) _) (by omega) _ _ _ _ _

end Go.Proofs.YtommijjacknkpaaDoor

/-
  THE CONTRACT of the document's step, a part (made by a program).
-/
namespace Go.Proofs.YtommijjacknkpaaDoor
open Go.RowKit Go.Lib Go.Deep
set_option linter.unusedVariables false
set_option linter.unusedSimpArgs false

set_option maxRecDepth 100000 in
set_option maxHeartbeats 4000000 in
theorem rstep_nt {X : Sa} {S : St} {w : World} (h : Sat w X S) (k : Nat) (hi : k < S.eyes.length) (u q : Bool) (hu : u = true) (a z : Int) (b : Bool) (c : Int) (Z : Int) (i0 : 0 ≤ a) (i1 : a ≤ 1048576) (c0 : 0 ≤ c) (c1 : c ≤ 1048576) (bw : b = false → c = 0) (hb0 : 0 ≤ Z) (hb1 : Z + 1 ≤ 18446744073709551615) (hz : IntKind.u64.wrap (z * 2) = Z) (HN : Hid (samK ⟨q, a, z, b, c⟩ u = 1)) (HZ : Hid (turK ⟨q, a, z, b, c⟩ u = Z + 1)) (hq : (u == q) = false) (hm : a + 1 < 1048576) : Calls Tryd.prog 32 #[siteV X S, .int .i64 (k : Int), lkV ⟨q, a, z, b, c⟩, .bool u] w fun e w' => e = .returned (lkV (stepK (S.ey k) S.heal ⟨q, a, z, b, c⟩ u)) ∧ Kept w w' none := by
  have hwr : IntKind.i64.wrap (c + 1) = c + 1 := wrap_in (by omega) (by omega)
  have HCT := Hid.mk' (fun w' => rcnt_any (Z + 1) w' (by omega) (by omega))
  have hqn : (u != q) = !(u == q) := by cases u <;> cases q <;> rfl
  rw [hq] at hqn
  have hE9 : S.eyes.length ≤ 9223372036854775807 := by have := h.ek.room; have := h.ek.max; omega
  obtain ⟨eb, eo, hea, hel, hec⟩ := h.e.at_ (by omega)
  have ey0 := hec k hi 0 (by omega)
  have ey1 := hec k hi 1 (by omega)
  have ey2 := hec k hi 2 (by omega)
  have ey3 := hec k hi 3 (by omega)
  simp only [eyV] at ey0 ey1 ey2 ey3
  clear hec
  generalize S.ey k = EE at *
  obtain ⟨e0', e1', e2', e3'⟩ := EE
  dsimp only at ey0 ey1 ey2 ey3
  have k1 : Kept w (w.alloc (.cells #[.int .i64 S.id, .slice X.g S.groups.length X.gc, .slice X.a S.apart.length X.ac, .slice X.b S.between.length X.bc, .slice X.p S.phases.length X.pc, .slice X.e S.eyes.length X.ec, .int .i64 S.watch, .int .i64 S.feed, .int .i64 S.heal, .int .i64 S.low, .int .i64 S.high, .slice X.l S.plans.length X.lc] 29)) none := Kept.alloc _ _ _ _ _
  have k2 : Kept (w.alloc (.cells #[.int .i64 S.id, .slice X.g S.groups.length X.gc, .slice X.a S.apart.length X.ac, .slice X.b S.between.length X.bc, .slice X.p S.phases.length X.pc, .slice X.e S.eyes.length X.ec, .int .i64 S.watch, .int .i64 S.feed, .int .i64 S.heal, .int .i64 S.low, .int .i64 S.high, .slice X.l S.plans.length X.lc] 29)) ((w.alloc (.cells #[.int .i64 S.id, .slice X.g S.groups.length X.gc, .slice X.a S.apart.length X.ac, .slice X.b S.between.length X.bc, .slice X.p S.phases.length X.pc, .slice X.e S.eyes.length X.ec, .int .i64 S.watch, .int .i64 S.feed, .int .i64 S.heal, .int .i64 S.low, .int .i64 S.high, .slice X.l S.plans.length X.lc] 29)).alloc (.cells (lkC ⟨q, a, z, b, c⟩) 33)) none := Kept.alloc _ _ _ _ _
  have k3 : Kept ((w.alloc (.cells #[.int .i64 S.id, .slice X.g S.groups.length X.gc, .slice X.a S.apart.length X.ac, .slice X.b S.between.length X.bc, .slice X.p S.phases.length X.pc, .slice X.e S.eyes.length X.ec, .int .i64 S.watch, .int .i64 S.feed, .int .i64 S.heal, .int .i64 S.low, .int .i64 S.high, .slice X.l S.plans.length X.lc] 29)).alloc (.cells (lkC ⟨q, a, z, b, c⟩) 33)) (((w.alloc (.cells #[.int .i64 S.id, .slice X.g S.groups.length X.gc, .slice X.a S.apart.length X.ac, .slice X.b S.between.length X.bc, .slice X.p S.phases.length X.pc, .slice X.e S.eyes.length X.ec, .int .i64 S.watch, .int .i64 S.feed, .int .i64 S.heal, .int .i64 S.low, .int .i64 S.high, .slice X.l S.plans.length X.lc] 29)).alloc (.cells (lkC ⟨q, a, z, b, c⟩) 33)).alloc (.cells #[.bool false, .int .i64 0, .int .u64 0, .bool false, .int .i64 0] 33)) none := Kept.alloc _ _ _ _ _
  have hkA := (k1.tr k2).tr k3
  have hsb := ((sbox_alloc h 29).kept k2).kept k3
  have hxb : Kbox (((w.alloc (.cells #[.int .i64 S.id, .slice X.g S.groups.length X.gc, .slice X.a S.apart.length X.ac, .slice X.b S.between.length X.bc, .slice X.p S.phases.length X.pc, .slice X.e S.eyes.length X.ec, .int .i64 S.watch, .int .i64 S.feed, .int .i64 S.heal, .int .i64 S.low, .int .i64 S.high, .slice X.l S.plans.length X.lc] 29)).alloc (.cells (lkC ⟨q, a, z, b, c⟩) 33)).alloc (.cells #[.bool false, .int .i64 0, .int .u64 0, .bool false, .int .i64 0] 33)) (w.heap.size + 1) ⟨q, a, z, b, c⟩ := B5.kept (b5_at (by simp)) k3
  have hrb : Kbox (((w.alloc (.cells #[.int .i64 S.id, .slice X.g S.groups.length X.gc, .slice X.a S.apart.length X.ac, .slice X.b S.between.length X.bc, .slice X.p S.phases.length X.pc, .slice X.e S.eyes.length X.ec, .int .i64 S.watch, .int .i64 S.feed, .int .i64 S.heal, .int .i64 S.low, .int .i64 S.high, .slice X.l S.plans.length X.lc] 29)).alloc (.cells (lkC ⟨q, a, z, b, c⟩) 33)).alloc (.cells #[.bool false, .int .i64 0, .int .u64 0, .bool false, .int .i64 0] 33)) (w.heap.size + 1 + 1) Lk.zero := b5_at (by simp)
  have hsz : (((w.alloc (.cells #[.int .i64 S.id, .slice X.g S.groups.length X.gc, .slice X.a S.apart.length X.ac, .slice X.b S.between.length X.bc, .slice X.p S.phases.length X.pc, .slice X.e S.eyes.length X.ec, .int .i64 S.watch, .int .i64 S.feed, .int .i64 S.heal, .int .i64 S.low, .int .i64 S.high, .slice X.l S.plans.length X.lc] 29)).alloc (.cells (lkC ⟨q, a, z, b, c⟩) 33)).alloc (.cells #[.bool false, .int .i64 0, .int .u64 0, .bool false, .int .i64 0] 33)).heap.size = w.heap.size + 1 + 1 + 1 := by simp
  clear k1 k2 k3
  obtain ⟨WA, hWA⟩ : ∃ WA, (((w.alloc (.cells #[.int .i64 S.id, .slice X.g S.groups.length X.gc, .slice X.a S.apart.length X.ac, .slice X.b S.between.length X.bc, .slice X.p S.phases.length X.pc, .slice X.e S.eyes.length X.ec, .int .i64 S.watch, .int .i64 S.feed, .int .i64 S.heal, .int .i64 S.low, .int .i64 S.high, .slice X.l S.plans.length X.lc] 29)).alloc (.cells (lkC ⟨q, a, z, b, c⟩) 33)).alloc (.cells #[.bool false, .int .i64 0, .int .u64 0, .bool false, .int .i64 0] 33)) = WA := ⟨_, rfl⟩
  rw [hWA] at hkA hsb hxb hrb hsz
  have g0 : WA.cell? ⟨eb, eo + k * 4, none⟩ = some (.int .i64 e0') := (cell_kept' hkA hel).trans ey0
  have g1 := (cell_kept' hkA hel).trans ey1
  have g2 := (cell_kept' hkA hel).trans ey2
  have g3 := (cell_kept' hkA hel).trans ey3
  have s5 := hsb.c5
  have s8 := hsb.c8
  rw [hea] at s5
  clear hea
  have x0 := hxb.c0
  have x1 := hxb.c1
  have x2 := hxb.c2
  have x3 := hxb.c3
  have x4 := hxb.c4
 
  have HK := Hid.mk' hkA
  clear ey0 ey1 ey2 ey3 h
  subst hu
  go_enter Tryd.func32, Tryd.ntmps32
  go_wp2_with (first | rw [hWA] | rw [hsz])
  have kB : Kept WA (WA.alloc (.cells #[.int .i64 e0', .int .i64 e1', .int .i64 e2', .int .i64 e3'] 60)) none := Kept.alloc _ _ _ _ _
  have kC : Kept (WA.alloc (.cells #[.int .i64 e0', .int .i64 e1', .int .i64 e2', .int .i64 e3'] 60)) ((WA.alloc (.cells #[.int .i64 e0', .int .i64 e1', .int .i64 e2', .int .i64 e3'] 60)).alloc (.cells #[.bool true, .int .i64 (1), .int .u64 (Z + 1), .bool b, .int .i64 c] 33)) none := Kept.alloc _ _ _ _ _
  have s8' := ((hsb.kept kB).kept kC).c8
  have xb := (hxb.kept kB).kept kC
  have rb := (hrb.kept kB).kept kC
  have ob : Kbox ((WA.alloc (.cells #[.int .i64 e0', .int .i64 e1', .int .i64 e2', .int .i64 e3'] 60)).alloc (.cells #[.bool true, .int .i64 (1), .int .u64 (Z + 1), .bool b, .int .i64 c] 33)) (w.heap.size + 1 + 1 + 1 + 1) ⟨true, 1, Z + 1, b, c⟩ := b5_at (by simp [hsz])
  obtain ⟨y0, y1, y2, y3⟩ := b4_alloc (w := WA) (v0 := .int .i64 e0') (v1 := .int .i64 e1') (v2 := .int .i64 e2') (v3 := .int .i64 e3') (t := 60) hsz
  have y1' := cell_kept0 y1 kC
  have y2' := cell_kept0 y2 kC
  have y3' := cell_kept0 y3 kC
  have HKN := Hid.mk' ((hkA.tr kB).tr kC)
  obtain ⟨W5, hW5⟩ : ∃ W5, ((WA.alloc (.cells #[.int .i64 e0', .int .i64 e1', .int .i64 e2', .int .i64 e3'] 60)).alloc (.cells #[.bool true, .int .i64 (1), .int .u64 (Z + 1), .bool b, .int .i64 c] 33)) = W5 := ⟨_, rfl⟩
  rw [hW5] at s8' xb rb ob y1' y2' y3' HKN ⊢
  clear hW5 kB kC y0 y1 y2 y3 s5 s8 x0 x1 x2 x3 x4 hsb hxb hrb g0 g1 g2 g3 hkA
  have x0 := xb.c0
  have x1 := xb.c1
  have x2 := xb.c2
  have x3 := xb.c3
  have x4 := xb.c4
 
  have r0 := rb.c0
  have r1 := rb.c1
  have r2 := rb.c2
  have r3 := rb.c3
  have r4 := rb.c4
 
  have f0 := rb.f0
  have f1 := rb.f1
  have f2 := rb.f2
  have f3 := rb.f3
  have f4 := rb.f4
 
  have o0 := ob.c0
  have o1 := ob.c1
  have o2 := ob.c2
  have o3 := ob.c3
  have o4 := ob.c4
 
  have m0 := ob.f0
  have m1 := ob.f1
  have m2 := ob.f2
  have m3 := ob.f3
  have m4 := ob.f4
 
  have hlo := ob.lt
  clear xb rb ob
  by_cases hlim : e1' ≤ 1
  · have hill : illK ⟨e0', e1', e2', e3'⟩ true (1) (Z + 1) = true := by unfold illK; simp [hlim]
    go_quiet (first | (go_at_call 44; exact Calls.quiet_of_same (HCT.out _)))
    go_wp2
    refine bodyPost_ret (v := lkV ⟨true, 1, Z + 1, true, 0⟩) (by simp [results, Tryd.results32, go_sem, *]; done) rfl ⟨by rw [step_ill (e := ⟨e0', e1', e2', e3'⟩) (h := S.heal) (x := ⟨q, a, z, _, _⟩) (u := true) (by rw [HN.out, HZ.out]; exact hill), HN.out, HZ.out], ?_⟩
    exact kept_set5 (((HKN.out.tr (Kept.drewN _ _ _)).setNew (p := ⟨(w.heap.size + 1 + 1 + 1 + 1), 3, none⟩) (by simp <;> omega) _).setNew (p := ⟨(w.heap.size + 1 + 1 + 1 + 1), 4, none⟩) (by simp <;> omega) _) (by omega) _ _ _ _ _
  by_cases htu : e3' < stand (Z + 1) 64
  · have hill : illK ⟨e0', e1', e2', e3'⟩ true (1) (Z + 1) = true := by unfold illK; simp [htu]
    generalize stand (Z + 1) 64 = T at *
    go_quiet (first | (go_at_call 44; exact Calls.quiet_of_same (HCT.out _)))
    go_wp2
    refine bodyPost_ret (v := lkV ⟨true, 1, Z + 1, true, 0⟩) (by simp [results, Tryd.results32, go_sem, *]; done) rfl ⟨by rw [step_ill (e := ⟨e0', e1', e2', e3'⟩) (h := S.heal) (x := ⟨q, a, z, _, _⟩) (u := true) (by rw [HN.out, HZ.out]; exact hill), HN.out, HZ.out], ?_⟩
    exact kept_set5 (((HKN.out.tr (Kept.drewN _ _ _)).setNew (p := ⟨(w.heap.size + 1 + 1 + 1 + 1), 3, none⟩) (by simp <;> omega) _).setNew (p := ⟨(w.heap.size + 1 + 1 + 1 + 1), 4, none⟩) (by simp <;> omega) _) (by omega) _ _ _ _ _
  have hill : illK ⟨e0', e1', e2', e3'⟩ true (1) (Z + 1) = false := by unfold illK; simp [hlim, htu]
  generalize stand (Z + 1) 64 = T at *
  cases b
  · obtain rfl : c = 0 := bw rfl
    go_quiet (first | (go_at_call 44; exact Calls.quiet_of_same (HCT.out _)))
    go_wp2
    refine bodyPost_ret (v := lkV ⟨true, 1, Z + 1, false, 0⟩) (by simp [results, Tryd.results32, go_sem, *]; done) rfl ⟨by rw [step_well (e := ⟨e0', e1', e2', e3'⟩) (h := S.heal) (x := ⟨q, a, z, _, _⟩) (u := true) (by rw [HN.out, HZ.out]; exact hill) (.inl rfl), HN.out, HZ.out], ?_⟩
    exact kept_set5 (HKN.out.tr (Kept.drewN _ _ _)) (by omega) _ _ _ _ _
  by_cases hw : c + 1 < S.heal
  · go_quiet (first | (go_at_call 44; exact Calls.quiet_of_same (HCT.out _)))
    go_wp2
    refine bodyPost_ret (v := lkV ⟨true, 1, Z + 1, true, c + 1⟩) (by simp [results, Tryd.results32, go_sem, *]; done) rfl ⟨by rw [step_heal (e := ⟨e0', e1', e2', e3'⟩) (h := S.heal) (x := ⟨q, a, z, _, _⟩) (u := true) (by rw [HN.out, HZ.out]; exact hill) rfl hw, HN.out, HZ.out], ?_⟩
    exact kept_set5 ((HKN.out.tr (Kept.drewN _ _ _)).setNew (p := ⟨(w.heap.size + 1 + 1 + 1 + 1), 4, none⟩) (by simp <;> omega) _) (by omega) _ _ _ _ _
  · have HWW := Hid.mk' hw
    go_quiet (first | (go_at_call 44; exact Calls.quiet_of_same (HCT.out _)))
    go_wp2
    refine bodyPost_ret (v := lkV ⟨true, 1, Z + 1, false, 0⟩) (by simp [results, Tryd.results32, go_sem, *]; done) rfl ⟨by rw [step_well (e := ⟨e0', e1', e2', e3'⟩) (h := S.heal) (x := ⟨q, a, z, _, _⟩) (u := true) (by rw [HN.out, HZ.out]; exact hill) (.inr (Int.not_lt.2 hw)), HN.out, HZ.out], ?_⟩
    exact kept_set5 ((((HKN.out.tr (Kept.drewN _ _ _)).setNew (p := ⟨(w.heap.size + 1 + 1 + 1 + 1), 4, none⟩) (by simp <;> omega) _).setNew (p := ⟨(w.heap.size + 1 + 1 + 1 + 1), 3, none⟩) (by simp <;> omega) _).setNew (p := ⟨(w.heap.size + 1 + 1 + 1 + 1), 4, none⟩) (by simp <;> omega) _) (by omega) _ _ _ _ _
set_option maxRecDepth 100000 in
set_option maxHeartbeats 4000000 in
theorem rstep_nf {X : Sa} {S : St} {w : World} (h : Sat w X S) (k : Nat) (hi : k < S.eyes.length) (u q : Bool) (hu : u = false) (a z : Int) (b : Bool) (c : Int) (Z : Int) (i0 : 0 ≤ a) (i1 : a ≤ 1048576) (c0 : 0 ≤ c) (c1 : c ≤ 1048576) (bw : b = false → c = 0) (hb0 : 0 ≤ Z) (hb1 : Z + 1 ≤ 18446744073709551615) (hz : IntKind.u64.wrap (z * 2) = Z) (HN : Hid (samK ⟨q, a, z, b, c⟩ u = 1)) (HZ : Hid (turK ⟨q, a, z, b, c⟩ u = Z + 1)) (hq : (u == q) = false) (hm : a + 1 < 1048576) : Calls Tryd.prog 32 #[siteV X S, .int .i64 (k : Int), lkV ⟨q, a, z, b, c⟩, .bool u] w fun e w' => e = .returned (lkV (stepK (S.ey k) S.heal ⟨q, a, z, b, c⟩ u)) ∧ Kept w w' none := by
  have hwr : IntKind.i64.wrap (c + 1) = c + 1 := wrap_in (by omega) (by omega)
  have HCT := Hid.mk' (fun w' => rcnt_any (Z + 1) w' (by omega) (by omega))
  have hqn : (u != q) = !(u == q) := by cases u <;> cases q <;> rfl
  rw [hq] at hqn
  have hE9 : S.eyes.length ≤ 9223372036854775807 := by have := h.ek.room; have := h.ek.max; omega
  obtain ⟨eb, eo, hea, hel, hec⟩ := h.e.at_ (by omega)
  have ey0 := hec k hi 0 (by omega)
  have ey1 := hec k hi 1 (by omega)
  have ey2 := hec k hi 2 (by omega)
  have ey3 := hec k hi 3 (by omega)
  simp only [eyV] at ey0 ey1 ey2 ey3
  clear hec
  generalize S.ey k = EE at *
  obtain ⟨e0', e1', e2', e3'⟩ := EE
  dsimp only at ey0 ey1 ey2 ey3
  have k1 : Kept w (w.alloc (.cells #[.int .i64 S.id, .slice X.g S.groups.length X.gc, .slice X.a S.apart.length X.ac, .slice X.b S.between.length X.bc, .slice X.p S.phases.length X.pc, .slice X.e S.eyes.length X.ec, .int .i64 S.watch, .int .i64 S.feed, .int .i64 S.heal, .int .i64 S.low, .int .i64 S.high, .slice X.l S.plans.length X.lc] 29)) none := Kept.alloc _ _ _ _ _
  have k2 : Kept (w.alloc (.cells #[.int .i64 S.id, .slice X.g S.groups.length X.gc, .slice X.a S.apart.length X.ac, .slice X.b S.between.length X.bc, .slice X.p S.phases.length X.pc, .slice X.e S.eyes.length X.ec, .int .i64 S.watch, .int .i64 S.feed, .int .i64 S.heal, .int .i64 S.low, .int .i64 S.high, .slice X.l S.plans.length X.lc] 29)) ((w.alloc (.cells #[.int .i64 S.id, .slice X.g S.groups.length X.gc, .slice X.a S.apart.length X.ac, .slice X.b S.between.length X.bc, .slice X.p S.phases.length X.pc, .slice X.e S.eyes.length X.ec, .int .i64 S.watch, .int .i64 S.feed, .int .i64 S.heal, .int .i64 S.low, .int .i64 S.high, .slice X.l S.plans.length X.lc] 29)).alloc (.cells (lkC ⟨q, a, z, b, c⟩) 33)) none := Kept.alloc _ _ _ _ _
  have k3 : Kept ((w.alloc (.cells #[.int .i64 S.id, .slice X.g S.groups.length X.gc, .slice X.a S.apart.length X.ac, .slice X.b S.between.length X.bc, .slice X.p S.phases.length X.pc, .slice X.e S.eyes.length X.ec, .int .i64 S.watch, .int .i64 S.feed, .int .i64 S.heal, .int .i64 S.low, .int .i64 S.high, .slice X.l S.plans.length X.lc] 29)).alloc (.cells (lkC ⟨q, a, z, b, c⟩) 33)) (((w.alloc (.cells #[.int .i64 S.id, .slice X.g S.groups.length X.gc, .slice X.a S.apart.length X.ac, .slice X.b S.between.length X.bc, .slice X.p S.phases.length X.pc, .slice X.e S.eyes.length X.ec, .int .i64 S.watch, .int .i64 S.feed, .int .i64 S.heal, .int .i64 S.low, .int .i64 S.high, .slice X.l S.plans.length X.lc] 29)).alloc (.cells (lkC ⟨q, a, z, b, c⟩) 33)).alloc (.cells #[.bool false, .int .i64 0, .int .u64 0, .bool false, .int .i64 0] 33)) none := Kept.alloc _ _ _ _ _
  have hkA := (k1.tr k2).tr k3
  have hsb := ((sbox_alloc h 29).kept k2).kept k3
  have hxb : Kbox (((w.alloc (.cells #[.int .i64 S.id, .slice X.g S.groups.length X.gc, .slice X.a S.apart.length X.ac, .slice X.b S.between.length X.bc, .slice X.p S.phases.length X.pc, .slice X.e S.eyes.length X.ec, .int .i64 S.watch, .int .i64 S.feed, .int .i64 S.heal, .int .i64 S.low, .int .i64 S.high, .slice X.l S.plans.length X.lc] 29)).alloc (.cells (lkC ⟨q, a, z, b, c⟩) 33)).alloc (.cells #[.bool false, .int .i64 0, .int .u64 0, .bool false, .int .i64 0] 33)) (w.heap.size + 1) ⟨q, a, z, b, c⟩ := B5.kept (b5_at (by simp)) k3
  have hrb : Kbox (((w.alloc (.cells #[.int .i64 S.id, .slice X.g S.groups.length X.gc, .slice X.a S.apart.length X.ac, .slice X.b S.between.length X.bc, .slice X.p S.phases.length X.pc, .slice X.e S.eyes.length X.ec, .int .i64 S.watch, .int .i64 S.feed, .int .i64 S.heal, .int .i64 S.low, .int .i64 S.high, .slice X.l S.plans.length X.lc] 29)).alloc (.cells (lkC ⟨q, a, z, b, c⟩) 33)).alloc (.cells #[.bool false, .int .i64 0, .int .u64 0, .bool false, .int .i64 0] 33)) (w.heap.size + 1 + 1) Lk.zero := b5_at (by simp)
  have hsz : (((w.alloc (.cells #[.int .i64 S.id, .slice X.g S.groups.length X.gc, .slice X.a S.apart.length X.ac, .slice X.b S.between.length X.bc, .slice X.p S.phases.length X.pc, .slice X.e S.eyes.length X.ec, .int .i64 S.watch, .int .i64 S.feed, .int .i64 S.heal, .int .i64 S.low, .int .i64 S.high, .slice X.l S.plans.length X.lc] 29)).alloc (.cells (lkC ⟨q, a, z, b, c⟩) 33)).alloc (.cells #[.bool false, .int .i64 0, .int .u64 0, .bool false, .int .i64 0] 33)).heap.size = w.heap.size + 1 + 1 + 1 := by simp
  clear k1 k2 k3
  obtain ⟨WA, hWA⟩ : ∃ WA, (((w.alloc (.cells #[.int .i64 S.id, .slice X.g S.groups.length X.gc, .slice X.a S.apart.length X.ac, .slice X.b S.between.length X.bc, .slice X.p S.phases.length X.pc, .slice X.e S.eyes.length X.ec, .int .i64 S.watch, .int .i64 S.feed, .int .i64 S.heal, .int .i64 S.low, .int .i64 S.high, .slice X.l S.plans.length X.lc] 29)).alloc (.cells (lkC ⟨q, a, z, b, c⟩) 33)).alloc (.cells #[.bool false, .int .i64 0, .int .u64 0, .bool false, .int .i64 0] 33)) = WA := ⟨_, rfl⟩
  rw [hWA] at hkA hsb hxb hrb hsz
  have g0 : WA.cell? ⟨eb, eo + k * 4, none⟩ = some (.int .i64 e0') := (cell_kept' hkA hel).trans ey0
  have g1 := (cell_kept' hkA hel).trans ey1
  have g2 := (cell_kept' hkA hel).trans ey2
  have g3 := (cell_kept' hkA hel).trans ey3
  have s5 := hsb.c5
  have s8 := hsb.c8
  rw [hea] at s5
  clear hea
  have x0 := hxb.c0
  have x1 := hxb.c1
  have x2 := hxb.c2
  have x3 := hxb.c3
  have x4 := hxb.c4
 
  have HK := Hid.mk' hkA
  clear ey0 ey1 ey2 ey3 h
  subst hu
  go_enter Tryd.func32, Tryd.ntmps32
  go_wp2_with (first | rw [hWA] | rw [hsz])
  have kB : Kept WA (WA.alloc (.cells #[.int .i64 e0', .int .i64 e1', .int .i64 e2', .int .i64 e3'] 60)) none := Kept.alloc _ _ _ _ _
  have kC : Kept (WA.alloc (.cells #[.int .i64 e0', .int .i64 e1', .int .i64 e2', .int .i64 e3'] 60)) ((WA.alloc (.cells #[.int .i64 e0', .int .i64 e1', .int .i64 e2', .int .i64 e3'] 60)).alloc (.cells #[.bool false, .int .i64 (1), .int .u64 (Z + 1), .bool b, .int .i64 c] 33)) none := Kept.alloc _ _ _ _ _
  have s8' := ((hsb.kept kB).kept kC).c8
  have xb := (hxb.kept kB).kept kC
  have rb := (hrb.kept kB).kept kC
  have ob : Kbox ((WA.alloc (.cells #[.int .i64 e0', .int .i64 e1', .int .i64 e2', .int .i64 e3'] 60)).alloc (.cells #[.bool false, .int .i64 (1), .int .u64 (Z + 1), .bool b, .int .i64 c] 33)) (w.heap.size + 1 + 1 + 1 + 1) ⟨false, 1, Z + 1, b, c⟩ := b5_at (by simp [hsz])
  obtain ⟨y0, y1, y2, y3⟩ := b4_alloc (w := WA) (v0 := .int .i64 e0') (v1 := .int .i64 e1') (v2 := .int .i64 e2') (v3 := .int .i64 e3') (t := 60) hsz
  have y1' := cell_kept0 y1 kC
  have y2' := cell_kept0 y2 kC
  have y3' := cell_kept0 y3 kC
  have HKN := Hid.mk' ((hkA.tr kB).tr kC)
  obtain ⟨W5, hW5⟩ : ∃ W5, ((WA.alloc (.cells #[.int .i64 e0', .int .i64 e1', .int .i64 e2', .int .i64 e3'] 60)).alloc (.cells #[.bool false, .int .i64 (1), .int .u64 (Z + 1), .bool b, .int .i64 c] 33)) = W5 := ⟨_, rfl⟩
  rw [hW5] at s8' xb rb ob y1' y2' y3' HKN ⊢
  clear hW5 kB kC y0 y1 y2 y3 s5 s8 x0 x1 x2 x3 x4 hsb hxb hrb g0 g1 g2 g3 hkA
  have x0 := xb.c0
  have x1 := xb.c1
  have x2 := xb.c2
  have x3 := xb.c3
  have x4 := xb.c4
 
  have r0 := rb.c0
  have r1 := rb.c1
  have r2 := rb.c2
  have r3 := rb.c3
  have r4 := rb.c4
 
  have f0 := rb.f0
  have f1 := rb.f1
  have f2 := rb.f2
  have f3 := rb.f3
  have f4 := rb.f4
 
  have o0 := ob.c0
  have o1 := ob.c1
  have o2 := ob.c2
  have o3 := ob.c3
  have o4 := ob.c4
 
  have m0 := ob.f0
  have m1 := ob.f1
  have m2 := ob.f2
  have m3 := ob.f3
  have m4 := ob.f4
 
  have hlo := ob.lt
  clear xb rb ob
  by_cases hlim : e2' ≤ 1
  · have hill : illK ⟨e0', e1', e2', e3'⟩ false (1) (Z + 1) = true := by unfold illK; simp [hlim]
    go_quiet (first | (go_at_call 44; exact Calls.quiet_of_same (HCT.out _)))
    go_wp2
    refine bodyPost_ret (v := lkV ⟨false, 1, Z + 1, true, 0⟩) (by simp [results, Tryd.results32, go_sem, *]; done) rfl ⟨by rw [step_ill (e := ⟨e0', e1', e2', e3'⟩) (h := S.heal) (x := ⟨q, a, z, _, _⟩) (u := false) (by rw [HN.out, HZ.out]; exact hill), HN.out, HZ.out], ?_⟩
    exact kept_set5 (((HKN.out.tr (Kept.drewN _ _ _)).setNew (p := ⟨(w.heap.size + 1 + 1 + 1 + 1), 3, none⟩) (by simp <;> omega) _).setNew (p := ⟨(w.heap.size + 1 + 1 + 1 + 1), 4, none⟩) (by simp <;> omega) _) (by omega) _ _ _ _ _
  by_cases htu : e3' < stand (Z + 1) 64
  · have hill : illK ⟨e0', e1', e2', e3'⟩ false (1) (Z + 1) = true := by unfold illK; simp [htu]
    generalize stand (Z + 1) 64 = T at *
    go_quiet (first | (go_at_call 44; exact Calls.quiet_of_same (HCT.out _)))
    go_wp2
    refine bodyPost_ret (v := lkV ⟨false, 1, Z + 1, true, 0⟩) (by simp [results, Tryd.results32, go_sem, *]; done) rfl ⟨by rw [step_ill (e := ⟨e0', e1', e2', e3'⟩) (h := S.heal) (x := ⟨q, a, z, _, _⟩) (u := false) (by rw [HN.out, HZ.out]; exact hill), HN.out, HZ.out], ?_⟩
    exact kept_set5 (((HKN.out.tr (Kept.drewN _ _ _)).setNew (p := ⟨(w.heap.size + 1 + 1 + 1 + 1), 3, none⟩) (by simp <;> omega) _).setNew (p := ⟨(w.heap.size + 1 + 1 + 1 + 1), 4, none⟩) (by simp <;> omega) _) (by omega) _ _ _ _ _
  have hill : illK ⟨e0', e1', e2', e3'⟩ false (1) (Z + 1) = false := by unfold illK; simp [hlim, htu]
  generalize stand (Z + 1) 64 = T at *
  cases b
  · obtain rfl : c = 0 := bw rfl
    go_quiet (first | (go_at_call 44; exact Calls.quiet_of_same (HCT.out _)))
    go_wp2
    refine bodyPost_ret (v := lkV ⟨false, 1, Z + 1, false, 0⟩) (by simp [results, Tryd.results32, go_sem, *]; done) rfl ⟨by rw [step_well (e := ⟨e0', e1', e2', e3'⟩) (h := S.heal) (x := ⟨q, a, z, _, _⟩) (u := false) (by rw [HN.out, HZ.out]; exact hill) (.inl rfl), HN.out, HZ.out], ?_⟩
    exact kept_set5 (HKN.out.tr (Kept.drewN _ _ _)) (by omega) _ _ _ _ _
  by_cases hw : c + 1 < S.heal
  · go_quiet (first | (go_at_call 44; exact Calls.quiet_of_same (HCT.out _)))
    go_wp2
    refine bodyPost_ret (v := lkV ⟨false, 1, Z + 1, true, c + 1⟩) (by simp [results, Tryd.results32, go_sem, *]; done) rfl ⟨by rw [step_heal (e := ⟨e0', e1', e2', e3'⟩) (h := S.heal) (x := ⟨q, a, z, _, _⟩) (u := false) (by rw [HN.out, HZ.out]; exact hill) rfl hw, HN.out, HZ.out], ?_⟩
    exact kept_set5 ((HKN.out.tr (Kept.drewN _ _ _)).setNew (p := ⟨(w.heap.size + 1 + 1 + 1 + 1), 4, none⟩) (by simp <;> omega) _) (by omega) _ _ _ _ _
  · have HWW := Hid.mk' hw
    go_quiet (first | (go_at_call 44; exact Calls.quiet_of_same (HCT.out _)))
    go_wp2
    refine bodyPost_ret (v := lkV ⟨false, 1, Z + 1, false, 0⟩) (by simp [results, Tryd.results32, go_sem, *]; done) rfl ⟨by rw [step_well (e := ⟨e0', e1', e2', e3'⟩) (h := S.heal) (x := ⟨q, a, z, _, _⟩) (u := false) (by rw [HN.out, HZ.out]; exact hill) (.inr (Int.not_lt.2 hw)), HN.out, HZ.out], ?_⟩
    exact kept_set5 ((((HKN.out.tr (Kept.drewN _ _ _)).setNew (p := ⟨(w.heap.size + 1 + 1 + 1 + 1), 4, none⟩) (by simp <;> omega) _).setNew (p := ⟨(w.heap.size + 1 + 1 + 1 + 1), 3, none⟩) (by simp <;> omega) _).setNew (p := ⟨(w.heap.size + 1 + 1 + 1 + 1), 4, none⟩) (by simp <;> omega) _) (by omega) _ _ _ _ _

end Go.Proofs.YtommijjacknkpaaDoor

