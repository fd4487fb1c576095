/-
  THE WALK of EyeStays (made by a program).
-/
import Derived.Test.YtommijjacknkpaaDoorEyeT
import Derived.Test.YtommijjacknkpaaDoorRefG
import Derived.Laws.StructEq
namespace Go.Proofs.YtommijjacknkpaaDoor
open Go.RowKit Go.Lib Go.Deep
set_option linter.unusedVariables false
set_option linter.unusedSimpArgs false

theorem and_63 {z : Int} (h0 : 0 ≤ z) (h1 : z < 18446744073709551616) : bits BinOp.and IntKind.u64 z 9223372036854775807 = z % 9223372036854775808 := by
  have h := bits_and_u64_nat z.toNat 9223372036854775807 (by omega) (by omega)
  rw [Int.toNat_of_nonneg h0, show z.toNat &&& 9223372036854775807 = z.toNat % 9223372036854775808 from Nat.and_two_pow_sub_one_eq_mod z.toNat 63] at h
  exact h.trans (by omega)
theorem las_half (z : Int) (v : Bool) : lasG z v / 2 = z % 9223372036854775808 := by unfold lasG; split <;> omega
set_option maxRecDepth 100000 in
set_option maxHeartbeats 2000000 in
theorem esta_no {X : Sa} {S : St} {w : World} (h : Sat w X S) (hT : Tabb w) (i : Int) (x : Lk) (u v : Bool) (hx : Typ x) (E : Int) (he : nxE S i x = E) (h0 : E ≠ 0) : Calls Tryd.prog 7 #[siteV X S, .int .i64 i, lkV x, .bool u, .bool v] w fun e w' => e = .returned (.bool true) ∧ Below w.heap.size w w' := by
  have H1 : Hid (∀ w', Kept w w' none → Calls Tryd.prog 10 #[siteV X S, .int .i64 i, lkV x, .bool u] w' fun e w'' => e = .returned (.tuple #[lkV Lk.zero, .int .i64 E]) ∧ Kept w' w'' none) := fun w' q => by
    have hz := enext_any (h.kept q) (hT.kept q) i x u hx
    rw [nxK_no u (by rw [he]; exact h0), he] at hz
    exact hz
  have hEb : (E != 0) = true := by simpa using h0
  clear he
  have k1 : Kept w (w.alloc (.cells #[.int .i64 S.id, .slice X.g S.groups.length X.gc, .slice X.a S.apart.length X.ac, .slice X.b S.between.length X.bc, .slice X.p S.phases.length X.pc, .slice X.e S.eyes.length X.ec, .int .i64 S.watch, .int .i64 S.feed, .int .i64 S.heal, .int .i64 S.low, .int .i64 S.high, .slice X.l S.plans.length X.lc] 29)) none := Kept.alloc _ _ _ _ _
  have k2 : Kept (w.alloc (.cells #[.int .i64 S.id, .slice X.g S.groups.length X.gc, .slice X.a S.apart.length X.ac, .slice X.b S.between.length X.bc, .slice X.p S.phases.length X.pc, .slice X.e S.eyes.length X.ec, .int .i64 S.watch, .int .i64 S.feed, .int .i64 S.heal, .int .i64 S.low, .int .i64 S.high, .slice X.l S.plans.length X.lc] 29)) ((w.alloc (.cells #[.int .i64 S.id, .slice X.g S.groups.length X.gc, .slice X.a S.apart.length X.ac, .slice X.b S.between.length X.bc, .slice X.p S.phases.length X.pc, .slice X.e S.eyes.length X.ec, .int .i64 S.watch, .int .i64 S.feed, .int .i64 S.heal, .int .i64 S.low, .int .i64 S.high, .slice X.l S.plans.length X.lc] 29)).alloc (.cells (lkC x) 33)) none := Kept.alloc _ _ _ _ _
  have hkA := k1.tr k2
  have hsb := (sbox_alloc h 29).kept k2
  have hxb : Kbox ((w.alloc (.cells #[.int .i64 S.id, .slice X.g S.groups.length X.gc, .slice X.a S.apart.length X.ac, .slice X.b S.between.length X.bc, .slice X.p S.phases.length X.pc, .slice X.e S.eyes.length X.ec, .int .i64 S.watch, .int .i64 S.feed, .int .i64 S.heal, .int .i64 S.low, .int .i64 S.high, .slice X.l S.plans.length X.lc] 29)).alloc (.cells (lkC x) 33)) (w.heap.size + 1) x := b5_at (by simp)
  have HS := Hid.mk' (h.kept hkA)
  have HT := Hid.mk' (hT.kept hkA)
  clear k1 k2
  obtain ⟨WA, hWA⟩ : ∃ WA, ((w.alloc (.cells #[.int .i64 S.id, .slice X.g S.groups.length X.gc, .slice X.a S.apart.length X.ac, .slice X.b S.between.length X.bc, .slice X.p S.phases.length X.pc, .slice X.e S.eyes.length X.ec, .int .i64 S.watch, .int .i64 S.feed, .int .i64 S.heal, .int .i64 S.low, .int .i64 S.high, .slice X.l S.plans.length X.lc] 29)).alloc (.cells (lkC x) 33)) = WA := ⟨_, rfl⟩
  rw [hWA] at hkA hsb hxb HS HT
  have hlA0 : w.heap.size < WA.heap.size := hsb.lt
  have hlA1 : w.heap.size + 1 < WA.heap.size := hxb.lt
  have HK := Hid.mk' hkA
  have HSB := Hid.mk' hsb
  have HXB := Hid.mk' hxb
  have hK0 := Kept.refl WA none
  clear h hT hkA hsb hxb
  have s0_ : ∀ w', Kept WA w' none → w'.cell? ⟨w.heap.size, 0, none⟩ = some (.int .i64 S.id) := fun w' q => (HSB.out.kept q).c0
  have s1_ : ∀ w', Kept WA w' none → w'.cell? ⟨w.heap.size, 1, none⟩ = some (.slice X.g S.groups.length X.gc) := fun w' q => (HSB.out.kept q).c1
  have s2_ : ∀ w', Kept WA w' none → w'.cell? ⟨w.heap.size, 2, none⟩ = some (.slice X.a S.apart.length X.ac) := fun w' q => (HSB.out.kept q).c2
  have s3_ : ∀ w', Kept WA w' none → w'.cell? ⟨w.heap.size, 3, none⟩ = some (.slice X.b S.between.length X.bc) := fun w' q => (HSB.out.kept q).c3
  have s4_ : ∀ w', Kept WA w' none → w'.cell? ⟨w.heap.size, 4, none⟩ = some (.slice X.p S.phases.length X.pc) := fun w' q => (HSB.out.kept q).c4
  have s5_ : ∀ w', Kept WA w' none → w'.cell? ⟨w.heap.size, 5, none⟩ = some (.slice X.e S.eyes.length X.ec) := fun w' q => (HSB.out.kept q).c5
  have s6_ : ∀ w', Kept WA w' none → w'.cell? ⟨w.heap.size, 6, none⟩ = some (.int .i64 S.watch) := fun w' q => (HSB.out.kept q).c6
  have s7_ : ∀ w', Kept WA w' none → w'.cell? ⟨w.heap.size, 7, none⟩ = some (.int .i64 S.feed) := fun w' q => (HSB.out.kept q).c7
  have s8_ : ∀ w', Kept WA w' none → w'.cell? ⟨w.heap.size, 8, none⟩ = some (.int .i64 S.heal) := fun w' q => (HSB.out.kept q).c8
  have s9_ : ∀ w', Kept WA w' none → w'.cell? ⟨w.heap.size, 9, none⟩ = some (.int .i64 S.low) := fun w' q => (HSB.out.kept q).c9
  have s10_ : ∀ w', Kept WA w' none → w'.cell? ⟨w.heap.size, 10, none⟩ = some (.int .i64 S.high) := fun w' q => (HSB.out.kept q).c10
  have s11_ : ∀ w', Kept WA w' none → w'.cell? ⟨w.heap.size, 11, none⟩ = some (.slice X.l S.plans.length X.lc) := fun w' q => (HSB.out.kept q).c11
  have x0_ : ∀ w', Kept WA w' none → w'.cell? ⟨(w.heap.size + 1), 0, none⟩ = some (.bool x.up) := fun w' q => (HXB.out.kept q).c0
  have x1_ : ∀ w', Kept WA w' none → w'.cell? ⟨(w.heap.size + 1), 1, none⟩ = some (.int .i64 x.same) := fun w' q => (HXB.out.kept q).c1
  have x2_ : ∀ w', Kept WA w' none → w'.cell? ⟨(w.heap.size + 1), 2, none⟩ = some (.int .u64 x.turns) := fun w' q => (HXB.out.kept q).c2
  have x3_ : ∀ w', Kept WA w' none → w'.cell? ⟨(w.heap.size + 1), 3, none⟩ = some (.bool x.bad) := fun w' q => (HXB.out.kept q).c3
  have x4_ : ∀ w', Kept WA w' none → w'.cell? ⟨(w.heap.size + 1), 4, none⟩ = some (.int .i64 x.well) := fun w' q => (HXB.out.kept q).c4
  replace H1 : Hid (∀ w', Kept WA w' none → Calls Tryd.prog 10 #[siteV X S, .int .i64 i, lkV x, .bool u] w' fun e w'' => e = .returned (.tuple #[lkV Lk.zero, .int .i64 E]) ∧ Kept w' w'' none) := fun w' q => H1.out w' (HK.out.tr q)
  go_enter Tryd.func7, Tryd.ntmps7
  go_wp2_with (first | rw [hWA] | (go_at_call 13; refine (alive_any HT.out).mono ?_; rintro e wa ⟨rfl, hka⟩; have hKa : Kept WA wa none := hka))
  go_at_call 16
  refine (rgreat_any (HS.out.kept hKa)).mono ?_
  rintro e wg ⟨gr, rfl, hgr, hkg⟩
  have hKg : Kept WA wg none := hKa.tr hkg
  clear hgr
  cases gr with
  | true =>
    go_wp2
    go_ret
    exact ⟨rfl, (HK.out.tr hKg).below⟩
  | false =>
    go_wp2_with (first | (go_at_call 10; refine (H1.out _ hKg).mono ?_; rintro e w2 ⟨rfl, hk2⟩; have hK2 : Kept WA w2 none := hKg.tr hk2; have hl20 : w.heap.size < w2.heap.size := Nat.lt_of_lt_of_le hlA0 hK2.size; have hl21 : w.heap.size + 1 < w2.heap.size := Nat.lt_of_lt_of_le hlA1 hK2.size; have hgo2 := Hid.mk' trivial))
    go_ret
    exact ⟨by simp, (HK.out.tr (hK2.tr (Kept.alloc _ _ _ _ _))).below⟩
set_option maxRecDepth 100000 in
set_option maxHeartbeats 4000000 in
theorem esta_go {X : Sa} {S : St} {w : World} (h : Sat w X S) (hT : Tabb w) (i : Int) (x : Lk) (u v : Bool) (hx : Typ x) (he : nxE S i x = 0) : Calls Tryd.prog 7 #[siteV X S, .int .i64 i, lkV x, .bool u, .bool v] w fun e w' => e = .returned (.bool true) ∧ Below w.heap.size w w' := by
  obtain ⟨A, hA⟩ : ∃ A, A = nxK S i x u := ⟨_, rfl⟩
  obtain ⟨B, hB⟩ : ∃ B, B = nxK S i A v := ⟨_, rfl⟩
  have hAm : mayK A = true ∧ Typ A := by rw [hA]; exact nxK_may u
  obtain ⟨q1, q2, q3, q4⟩ := nxE_zero he
  have hAS : A = stepK (S.ey i.toNat) S.heal x u := by rw [hA]; unfold nxK; rw [if_pos he]
  have he2 : nxE S i A = 0 := by unfold nxE; rw [q1, if_pos rfl, if_pos ⟨q2, q3⟩, hAm.1]; rfl
  have hBS : B = stepK (S.ey i.toNat) S.heal A v := by rw [hB]; unfold nxK; rw [if_pos he2]
  have H1 : Hid (∀ w', Kept w w' none → Calls Tryd.prog 10 #[siteV X S, .int .i64 i, lkV x, .bool u] w' fun e w'' => e = .returned (.tuple #[lkV A, .int .i64 0]) ∧ Kept w' w'' none) := fun w' q => by
    have hz := enext_any (h.kept q) (hT.kept q) i x u hx
    rw [← hA, he] at hz
    exact hz
  have H2 : Hid (∀ w', Kept w w' none → Calls Tryd.prog 10 #[siteV X S, .int .i64 i, lkV A, .bool v] w' fun e w'' => e = .returned (.tuple #[lkV B, .int .i64 0]) ∧ Kept w' w'' none) := fun w' q => by
    have hz := enext_any (h.kept q) (hT.kept q) i A v hAm.2
    rw [← hB, he2] at hz
    exact hz
  have eu : A.up = u := by rw [hAS]; rfl
  have ev : B.up = v := by rw [hBS]; rfl
  have ea := and_63 hAm.2.t0 hAm.2.t1
  have eh : B.turns / 2 = A.turns % 9223372036854775808 := by rw [hBS]; exact las_half _ _
  obtain ⟨f1, f2⟩ : 1 ≤ A.same ∧ A.same ≤ 1048576 := by rw [hAS]; exact samK_bd q4 u
  have hm := mayK_iff.1 hAm.1
  have f3 := hm.w0
  have f4 := hm.w1
  have f5 := hm.bw
  clear hm hA hB hAm q1 q2 q3 q4 hAS hBS he he2
  obtain ⟨A0, A1, A2, A3, A4⟩ := A
  obtain ⟨B0, B1, B2, B3, B4⟩ := B
  dsimp only at eu ev ea eh f1 f2 f3 f4 f5
  subst eu ev
  generalize A2 % 9223372036854775808 = Y at *
  have k1 : Kept w (w.alloc (.cells #[.int .i64 S.id, .slice X.g S.groups.length X.gc, .slice X.a S.apart.length X.ac, .slice X.b S.between.length X.bc, .slice X.p S.phases.length X.pc, .slice X.e S.eyes.length X.ec, .int .i64 S.watch, .int .i64 S.feed, .int .i64 S.heal, .int .i64 S.low, .int .i64 S.high, .slice X.l S.plans.length X.lc] 29)) none := Kept.alloc _ _ _ _ _
  have k2 : Kept (w.alloc (.cells #[.int .i64 S.id, .slice X.g S.groups.length X.gc, .slice X.a S.apart.length X.ac, .slice X.b S.between.length X.bc, .slice X.p S.phases.length X.pc, .slice X.e S.eyes.length X.ec, .int .i64 S.watch, .int .i64 S.feed, .int .i64 S.heal, .int .i64 S.low, .int .i64 S.high, .slice X.l S.plans.length X.lc] 29)) ((w.alloc (.cells #[.int .i64 S.id, .slice X.g S.groups.length X.gc, .slice X.a S.apart.length X.ac, .slice X.b S.between.length X.bc, .slice X.p S.phases.length X.pc, .slice X.e S.eyes.length X.ec, .int .i64 S.watch, .int .i64 S.feed, .int .i64 S.heal, .int .i64 S.low, .int .i64 S.high, .slice X.l S.plans.length X.lc] 29)).alloc (.cells (lkC x) 33)) none := Kept.alloc _ _ _ _ _
  have hkA := k1.tr k2
  have hsb := (sbox_alloc h 29).kept k2
  have hxb : Kbox ((w.alloc (.cells #[.int .i64 S.id, .slice X.g S.groups.length X.gc, .slice X.a S.apart.length X.ac, .slice X.b S.between.length X.bc, .slice X.p S.phases.length X.pc, .slice X.e S.eyes.length X.ec, .int .i64 S.watch, .int .i64 S.feed, .int .i64 S.heal, .int .i64 S.low, .int .i64 S.high, .slice X.l S.plans.length X.lc] 29)).alloc (.cells (lkC x) 33)) (w.heap.size + 1) x := b5_at (by simp)
  have HS := Hid.mk' (h.kept hkA)
  have HT := Hid.mk' (hT.kept hkA)
  clear k1 k2
  obtain ⟨WA, hWA⟩ : ∃ WA, ((w.alloc (.cells #[.int .i64 S.id, .slice X.g S.groups.length X.gc, .slice X.a S.apart.length X.ac, .slice X.b S.between.length X.bc, .slice X.p S.phases.length X.pc, .slice X.e S.eyes.length X.ec, .int .i64 S.watch, .int .i64 S.feed, .int .i64 S.heal, .int .i64 S.low, .int .i64 S.high, .slice X.l S.plans.length X.lc] 29)).alloc (.cells (lkC x) 33)) = WA := ⟨_, rfl⟩
  rw [hWA] at hkA hsb hxb HS HT
  have hlA0 : w.heap.size < WA.heap.size := hsb.lt
  have hlA1 : w.heap.size + 1 < WA.heap.size := hxb.lt
  have HK := Hid.mk' hkA
  have HSB := Hid.mk' hsb
  have HXB := Hid.mk' hxb
  have hK0 := Kept.refl WA none
  clear h hT hkA hsb hxb
  have s0_ : ∀ w', Kept WA w' none → w'.cell? ⟨w.heap.size, 0, none⟩ = some (.int .i64 S.id) := fun w' q => (HSB.out.kept q).c0
  have s1_ : ∀ w', Kept WA w' none → w'.cell? ⟨w.heap.size, 1, none⟩ = some (.slice X.g S.groups.length X.gc) := fun w' q => (HSB.out.kept q).c1
  have s2_ : ∀ w', Kept WA w' none → w'.cell? ⟨w.heap.size, 2, none⟩ = some (.slice X.a S.apart.length X.ac) := fun w' q => (HSB.out.kept q).c2
  have s3_ : ∀ w', Kept WA w' none → w'.cell? ⟨w.heap.size, 3, none⟩ = some (.slice X.b S.between.length X.bc) := fun w' q => (HSB.out.kept q).c3
  have s4_ : ∀ w', Kept WA w' none → w'.cell? ⟨w.heap.size, 4, none⟩ = some (.slice X.p S.phases.length X.pc) := fun w' q => (HSB.out.kept q).c4
  have s5_ : ∀ w', Kept WA w' none → w'.cell? ⟨w.heap.size, 5, none⟩ = some (.slice X.e S.eyes.length X.ec) := fun w' q => (HSB.out.kept q).c5
  have s6_ : ∀ w', Kept WA w' none → w'.cell? ⟨w.heap.size, 6, none⟩ = some (.int .i64 S.watch) := fun w' q => (HSB.out.kept q).c6
  have s7_ : ∀ w', Kept WA w' none → w'.cell? ⟨w.heap.size, 7, none⟩ = some (.int .i64 S.feed) := fun w' q => (HSB.out.kept q).c7
  have s8_ : ∀ w', Kept WA w' none → w'.cell? ⟨w.heap.size, 8, none⟩ = some (.int .i64 S.heal) := fun w' q => (HSB.out.kept q).c8
  have s9_ : ∀ w', Kept WA w' none → w'.cell? ⟨w.heap.size, 9, none⟩ = some (.int .i64 S.low) := fun w' q => (HSB.out.kept q).c9
  have s10_ : ∀ w', Kept WA w' none → w'.cell? ⟨w.heap.size, 10, none⟩ = some (.int .i64 S.high) := fun w' q => (HSB.out.kept q).c10
  have s11_ : ∀ w', Kept WA w' none → w'.cell? ⟨w.heap.size, 11, none⟩ = some (.slice X.l S.plans.length X.lc) := fun w' q => (HSB.out.kept q).c11
  have x0_ : ∀ w', Kept WA w' none → w'.cell? ⟨(w.heap.size + 1), 0, none⟩ = some (.bool x.up) := fun w' q => (HXB.out.kept q).c0
  have x1_ : ∀ w', Kept WA w' none → w'.cell? ⟨(w.heap.size + 1), 1, none⟩ = some (.int .i64 x.same) := fun w' q => (HXB.out.kept q).c1
  have x2_ : ∀ w', Kept WA w' none → w'.cell? ⟨(w.heap.size + 1), 2, none⟩ = some (.int .u64 x.turns) := fun w' q => (HXB.out.kept q).c2
  have x3_ : ∀ w', Kept WA w' none → w'.cell? ⟨(w.heap.size + 1), 3, none⟩ = some (.bool x.bad) := fun w' q => (HXB.out.kept q).c3
  have x4_ : ∀ w', Kept WA w' none → w'.cell? ⟨(w.heap.size + 1), 4, none⟩ = some (.int .i64 x.well) := fun w' q => (HXB.out.kept q).c4
  replace H1 : Hid (∀ w', Kept WA w' none → Calls Tryd.prog 10 #[siteV X S, .int .i64 i, lkV x, .bool A0] w' fun e w'' => e = .returned (.tuple #[lkV ⟨A0, A1, A2, A3, A4⟩, .int .i64 0]) ∧ Kept w' w'' none) := fun w' q => H1.out w' (HK.out.tr q)
  replace H2 : Hid (∀ w', Kept WA w' none → Calls Tryd.prog 10 #[siteV X S, .int .i64 i, lkV ⟨A0, A1, A2, A3, A4⟩, .bool B0] w' fun e w'' => e = .returned (.tuple #[lkV ⟨B0, B1, B2, B3, B4⟩, .int .i64 0]) ∧ Kept w' w'' none) := fun w' q => H2.out w' (HK.out.tr q)
  go_enter Tryd.func7, Tryd.ntmps7
  go_wp2_with (first | rw [hWA] | (go_at_call 13; refine (alive_any HT.out).mono ?_; rintro e wa ⟨rfl, hka⟩; have hKa : Kept WA wa none := hka))
  go_at_call 16
  refine (rgreat_any (HS.out.kept hKa)).mono ?_
  rintro e wg ⟨gr, rfl, hgr, hkg⟩
  have hKg : Kept WA wg none := hKa.tr hkg
  clear hgr
  cases gr with
  | true =>
    go_wp2
    go_ret
    exact ⟨rfl, (HK.out.tr hKg).below⟩
  | false =>
    cases A3 with
    | true =>
      clear f5
      go_wp2_with (first | (go_at_call 10; have hgo := hgo2; clear hgo; refine (H2.out _ (hK2.tr (Kept.alloc _ _ _ _ _))).mono ?_; rintro e w3 ⟨rfl, hk3⟩; have k3 : Kept w2 w3 none := (Kept.alloc _ _ _ _ _).tr hk3; have hA3 := (b5_alloc w2 (.bool A0) (.int .i64 A1) (.int .u64 A2) (.bool true) (.int .i64 A4) 33).kept hk3; have aa0 := hA3.c0; have aa1 := hA3.c1; have aa2 := hA3.c2; have aa3 := hA3.c3; have aa4 := hA3.c4; have la3 := hA3.lt) | (go_at_call 10; refine (H1.out _ hKg).mono ?_; rintro e w2 ⟨rfl, hk2⟩; have hK2 : Kept WA w2 none := hKg.tr hk2; have hl20 : w.heap.size < w2.heap.size := Nat.lt_of_lt_of_le hlA0 hK2.size; have hl21 : w.heap.size + 1 < w2.heap.size := Nat.lt_of_lt_of_le hlA1 hK2.size; have hgo2 := Hid.mk' trivial))
      go_ret
      exact ⟨by simp, (HK.out.tr ((hK2.tr k3).tr (Kept.alloc _ _ _ _ _))).below⟩
    | false =>
      obtain rfl : A4 = 0 := f5 rfl
      clear f5
      go_wp2_with (first | (go_at_call 10; have hgo := hgo2; clear hgo; refine (H2.out _ (hK2.tr (Kept.alloc _ _ _ _ _))).mono ?_; rintro e w3 ⟨rfl, hk3⟩; have k3 : Kept w2 w3 none := (Kept.alloc _ _ _ _ _).tr hk3; have hA3 := (b5_alloc w2 (.bool A0) (.int .i64 A1) (.int .u64 A2) (.bool false) (.int .i64 0) 33).kept hk3; have aa0 := hA3.c0; have aa1 := hA3.c1; have aa2 := hA3.c2; have aa3 := hA3.c3; have aa4 := hA3.c4; have la3 := hA3.lt) | (go_at_call 10; refine (H1.out _ hKg).mono ?_; rintro e w2 ⟨rfl, hk2⟩; have hK2 : Kept WA w2 none := hKg.tr hk2; have hl20 : w.heap.size < w2.heap.size := Nat.lt_of_lt_of_le hlA0 hK2.size; have hl21 : w.heap.size + 1 < w2.heap.size := Nat.lt_of_lt_of_le hlA1 hK2.size; have hgo2 := Hid.mk' trivial))
      go_ret
      exact ⟨by simp, (HK.out.tr ((hK2.tr k3).tr (Kept.alloc _ _ _ _ _))).below⟩
theorem esta_any {X : Sa} {S : St} {w : World} (h : Sat w X S) (hT : Tabb w) (i : Int) (x : Lk) (u v : Bool) (hx : Typ x) : Calls Tryd.prog 7 #[siteV X S, .int .i64 i, lkV x, .bool u, .bool v] w fun e w' => e = .returned (.bool true) ∧ Below w.heap.size w w' := by
  by_cases he : nxE S i x = 0
  · exact esta_go h hT i x u v hx he
  · exact esta_no h hT i x u v hx _ rfl he

end Go.Proofs.YtommijjacknkpaaDoor
