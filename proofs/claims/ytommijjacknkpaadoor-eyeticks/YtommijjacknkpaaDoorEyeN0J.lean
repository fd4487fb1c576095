/-
  Texts joined: some of those that the proofs of this seat stand on.
-/
import Derived.Test.YtommijjacknkpaaDoorEyeD
import Derived.Test.YtommijjacknkpaaDoorCheck
import Derived.Deep.RegionHeld
/-
  THE CONTRACT of eye.Next (made by a program).
-/
namespace Go.Proofs.YtommijjacknkpaaDoor
open Go.RowKit Go.Lib Go.Deep
set_option linter.unusedVariables false
set_option linter.unusedSimpArgs false

theorem cell_kr {w w' : World} {r : Option Nat} {B j : Nat} {v : Value} (h : w.cell? ⟨B, j, none⟩ = some v) (q : Kept w w' r) (hr : some B ≠ r) : w'.cell? ⟨B, j, none⟩ = some v :=
  (World.cell?_of_block (w := w) (a := ⟨B, j, none⟩) (q.block B (block_lt h) hr)).trans h
theorem kept_to {w w' : World} {r : Option Nat} (h : Kept w w' none) : Kept w w' r := ⟨h.os, h.tape, h.output, h.size, fun i hi _ => h.block i hi (by simp)⟩
theorem kept_own {a w : World} {b : Nat} (h : Kept a w (some b)) (j : Nat) (v : Value) : Kept a (w.setCell ⟨b, j, none⟩ v) (some b) :=
  ⟨h.os, h.tape, h.output, by simpa [World.setCell] using h.size, fun i hi hr => (Below.heap_setCell _ _ _ _ (fun e => hr (by rw [e]))).trans (h.block i hi hr)⟩
theorem kept_own5 {a w : World} {b : Nat} (h : Kept a w (some b)) (x0 x1 x2 x3 x4 : Value) : Kept a (set5 w b x0 x1 x2 x3 x4) (some b) := kept_own (kept_own (kept_own (kept_own (kept_own h 0 _) 1 _) 2 _) 3 _) 4 _
/-- What a site that may be tells of its detectors. -/
structure EyeF (S : St) : Prop where
  n : S.eyes.length ≤ 24
  p : S.phases.length ≤ 8
  h0 : 1 ≤ S.heal
  h1 : S.heal ≤ 1048576
  ey : ∀ i, i < S.eyes.length → 0 ≤ (S.ey i).phase ∧ (S.ey i).phase ≤ (S.phases.length : Int) - 1 ∧ 1 ≤ (S.ey i).on ∧ (S.ey i).on ≤ 1048576 ∧ 1 ≤ (S.ey i).off ∧ (S.ey i).off ≤ 1048576 ∧ 1 ≤ (S.ey i).turns ∧ (S.ey i).turns ≤ 64
theorem eye_facts {S : St} (hs : siteB S = true) : EyeF S := by
  unfold siteB countsB ownB at hs
  simp only [Bool.and_eq_true, inB_iff, timeB, decide_eq_true_eq, allB_iff] at hs
  obtain ⟨⟨⟨⟨⟨⟨⟨⟨⟨⟨⟨⟨⟨⟨_, _⟩, _⟩, hp⟩, he⟩, _⟩, ⟨⟨_, _⟩, _⟩, hh⟩, _⟩, _⟩, _⟩, _⟩, _⟩, hy⟩, _⟩, _⟩ := hs
  refine ⟨he, by omega, hh.1, hh.2, fun i hi => ?_⟩
  have := hy i hi
  unfold eyeB at this
  simp only [Bool.and_eq_true, inB_iff, timeB] at this
  omega
def nxE (S : St) (i : Int) (x : Lk) : Int := if siteB S = true then (if 0 ≤ i ∧ i < (S.eyes.length : Int) then (if mayK x = true then 0 else 8) else 2) else 50
def nxK (S : St) (i : Int) (x : Lk) (u : Bool) : Lk := if nxE S i x = 0 then stepK (S.ey i.toNat) S.heal x u else Lk.zero
theorem nxE_zero {S : St} {i : Int} {x : Lk} (h : nxE S i x = 0) : siteB S = true ∧ 0 ≤ i ∧ i < (S.eyes.length : Int) ∧ mayK x = true := by
  unfold nxE at h
  split at h
  · split at h
    · split at h
      · rename_i a b c; exact ⟨a, b.1, b.2, c⟩
      · omega
    · omega
  · omega
theorem nxK_no {S : St} {i : Int} {x : Lk} (u : Bool) (h : nxE S i x ≠ 0) : nxK S i x u = Lk.zero := by unfold nxK; rw [if_neg h]
set_option maxRecDepth 100000 in
set_option maxHeartbeats 2000000 in
theorem enext_site {X : Sa} {S : St} {w : World} (h : Sat w X S) (hT : Tabb w) (i : Int) (x : Lk) (u : Bool) (hx : Typ x) (hs : siteB S = false) : Calls Tryd.prog 10 #[siteV X S, .int .i64 i, lkV x, .bool u] w fun e w' => e = .returned (.tuple #[lkV Lk.zero, .int .i64 50]) ∧ Kept w w' none := by
  have hce : checkE S = 50 := by unfold checkE; rw [hs]; rfl
  have HE9 : Hid (S.eyes.length ≤ 9223372036854775807) := by show _ ≤ _; have := h.ek.room; have := h.ek.max; omega
  have k1 : Kept w (w.alloc (.cells #[.int .i64 S.id, .slice X.g S.groups.length X.gc, .slice X.a S.apart.length X.ac, .slice X.b S.between.length X.bc, .slice X.p S.phases.length X.pc, .slice X.e S.eyes.length X.ec, .int .i64 S.watch, .int .i64 S.feed, .int .i64 S.heal, .int .i64 S.low, .int .i64 S.high, .slice X.l S.plans.length X.lc] 29)) none := Kept.alloc _ _ _ _ _
  have k2 : Kept (w.alloc (.cells #[.int .i64 S.id, .slice X.g S.groups.length X.gc, .slice X.a S.apart.length X.ac, .slice X.b S.between.length X.bc, .slice X.p S.phases.length X.pc, .slice X.e S.eyes.length X.ec, .int .i64 S.watch, .int .i64 S.feed, .int .i64 S.heal, .int .i64 S.low, .int .i64 S.high, .slice X.l S.plans.length X.lc] 29)) ((w.alloc (.cells #[.int .i64 S.id, .slice X.g S.groups.length X.gc, .slice X.a S.apart.length X.ac, .slice X.b S.between.length X.bc, .slice X.p S.phases.length X.pc, .slice X.e S.eyes.length X.ec, .int .i64 S.watch, .int .i64 S.feed, .int .i64 S.heal, .int .i64 S.low, .int .i64 S.high, .slice X.l S.plans.length X.lc] 29)).alloc (.cells (lkC x) 33)) none := Kept.alloc _ _ _ _ _
  have k3 : Kept ((w.alloc (.cells #[.int .i64 S.id, .slice X.g S.groups.length X.gc, .slice X.a S.apart.length X.ac, .slice X.b S.between.length X.bc, .slice X.p S.phases.length X.pc, .slice X.e S.eyes.length X.ec, .int .i64 S.watch, .int .i64 S.feed, .int .i64 S.heal, .int .i64 S.low, .int .i64 S.high, .slice X.l S.plans.length X.lc] 29)).alloc (.cells (lkC x) 33)) (((w.alloc (.cells #[.int .i64 S.id, .slice X.g S.groups.length X.gc, .slice X.a S.apart.length X.ac, .slice X.b S.between.length X.bc, .slice X.p S.phases.length X.pc, .slice X.e S.eyes.length X.ec, .int .i64 S.watch, .int .i64 S.feed, .int .i64 S.heal, .int .i64 S.low, .int .i64 S.high, .slice X.l S.plans.length X.lc] 29)).alloc (.cells (lkC x) 33)).alloc (.cells #[.bool false, .int .i64 0, .int .u64 0, .bool false, .int .i64 0] 33)) none := Kept.alloc _ _ _ _ _
  have hkA := (k1.tr k2).tr k3
  have hsb := ((sbox_alloc h 29).kept k2).kept k3
  have hxb : Kbox (((w.alloc (.cells #[.int .i64 S.id, .slice X.g S.groups.length X.gc, .slice X.a S.apart.length X.ac, .slice X.b S.between.length X.bc, .slice X.p S.phases.length X.pc, .slice X.e S.eyes.length X.ec, .int .i64 S.watch, .int .i64 S.feed, .int .i64 S.heal, .int .i64 S.low, .int .i64 S.high, .slice X.l S.plans.length X.lc] 29)).alloc (.cells (lkC x) 33)).alloc (.cells #[.bool false, .int .i64 0, .int .u64 0, .bool false, .int .i64 0] 33)) (w.heap.size + 1) x := B5.kept (b5_at (by simp)) k3
  have hrb : Kbox (((w.alloc (.cells #[.int .i64 S.id, .slice X.g S.groups.length X.gc, .slice X.a S.apart.length X.ac, .slice X.b S.between.length X.bc, .slice X.p S.phases.length X.pc, .slice X.e S.eyes.length X.ec, .int .i64 S.watch, .int .i64 S.feed, .int .i64 S.heal, .int .i64 S.low, .int .i64 S.high, .slice X.l S.plans.length X.lc] 29)).alloc (.cells (lkC x) 33)).alloc (.cells #[.bool false, .int .i64 0, .int .u64 0, .bool false, .int .i64 0] 33)) (w.heap.size + 1 + 1) Lk.zero := b5_at (by simp)
  have HS := Hid.mk' (h.kept hkA)
  have HT := Hid.mk' (hT.kept hkA)
  clear k1 k2 k3
  obtain ⟨WA, hWA⟩ : ∃ WA, (((w.alloc (.cells #[.int .i64 S.id, .slice X.g S.groups.length X.gc, .slice X.a S.apart.length X.ac, .slice X.b S.between.length X.bc, .slice X.p S.phases.length X.pc, .slice X.e S.eyes.length X.ec, .int .i64 S.watch, .int .i64 S.feed, .int .i64 S.heal, .int .i64 S.low, .int .i64 S.high, .slice X.l S.plans.length X.lc] 29)).alloc (.cells (lkC x) 33)).alloc (.cells #[.bool false, .int .i64 0, .int .u64 0, .bool false, .int .i64 0] 33)) = WA := ⟨_, rfl⟩
  rw [hWA] at hkA hsb hxb hrb HS HT
  have HK := Hid.mk' hkA
  have HSB := Hid.mk' hsb
  have HXB := Hid.mk' hxb
  have HRB := Hid.mk' hrb
  have hK0 := Kept.refl WA none
  clear h hT hkA hsb hxb hrb
  have hE9 : S.eyes.length ≤ 9223372036854775807 := HE9.out
  have s0_ : ∀ w', Kept WA w' none → w'.cell? ⟨w.heap.size, 0, none⟩ = some (.int .i64 S.id) := fun w' q => (HSB.out.kept q).c0
  have s1_ : ∀ w', Kept WA w' none → w'.cell? ⟨w.heap.size, 1, none⟩ = some (.slice X.g S.groups.length X.gc) := fun w' q => (HSB.out.kept q).c1
  have s2_ : ∀ w', Kept WA w' none → w'.cell? ⟨w.heap.size, 2, none⟩ = some (.slice X.a S.apart.length X.ac) := fun w' q => (HSB.out.kept q).c2
  have s3_ : ∀ w', Kept WA w' none → w'.cell? ⟨w.heap.size, 3, none⟩ = some (.slice X.b S.between.length X.bc) := fun w' q => (HSB.out.kept q).c3
  have s4_ : ∀ w', Kept WA w' none → w'.cell? ⟨w.heap.size, 4, none⟩ = some (.slice X.p S.phases.length X.pc) := fun w' q => (HSB.out.kept q).c4
  have s5_ : ∀ w', Kept WA w' none → w'.cell? ⟨w.heap.size, 5, none⟩ = some (.slice X.e S.eyes.length X.ec) := fun w' q => (HSB.out.kept q).c5
  have s6_ : ∀ w', Kept WA w' none → w'.cell? ⟨w.heap.size, 6, none⟩ = some (.int .i64 S.watch) := fun w' q => (HSB.out.kept q).c6
  have s7_ : ∀ w', Kept WA w' none → w'.cell? ⟨w.heap.size, 7, none⟩ = some (.int .i64 S.feed) := fun w' q => (HSB.out.kept q).c7
  have s8_ : ∀ w', Kept WA w' none → w'.cell? ⟨w.heap.size, 8, none⟩ = some (.int .i64 S.heal) := fun w' q => (HSB.out.kept q).c8
  have s9_ : ∀ w', Kept WA w' none → w'.cell? ⟨w.heap.size, 9, none⟩ = some (.int .i64 S.low) := fun w' q => (HSB.out.kept q).c9
  have s10_ : ∀ w', Kept WA w' none → w'.cell? ⟨w.heap.size, 10, none⟩ = some (.int .i64 S.high) := fun w' q => (HSB.out.kept q).c10
  have s11_ : ∀ w', Kept WA w' none → w'.cell? ⟨w.heap.size, 11, none⟩ = some (.slice X.l S.plans.length X.lc) := fun w' q => (HSB.out.kept q).c11
  go_enter Tryd.func10, Tryd.ntmps10
  go_wp2_with (first | rw [hWA] | (go_at_call 22; have hx := check_any HS.out HT.out; rw [hce] at hx; refine hx.mono ?_; rintro e wC ⟨rfl, hkC⟩; have hKC : Kept WA wC none := hkC; clear hx; have hRf := HRB.out.kept hKC; have d0 := hRf.c0; have d1 := hRf.c1; have d2 := hRf.c2; have d3 := hRf.c3; have d4 := hRf.c4; have f0 := hRf.f0; have f1 := hRf.f1; have f2 := hRf.f2; have f3 := hRf.f3; have f4 := hRf.f4))
  refine bodyPost_ret (v := .tuple #[lkV _, .int .i64 _]) (by simp [results, Tryd.results10, go_sem, *]; done) rfl ⟨rfl, ?_⟩
  exact kept_set5 (HK.out.tr hKC) (by omega) _ _ _ _ _
set_option maxRecDepth 100000 in
set_option maxHeartbeats 2000000 in
theorem enext_arg {X : Sa} {S : St} {w : World} (h : Sat w X S) (hT : Tabb w) (i : Int) (x : Lk) (u : Bool) (hx : Typ x) (hs : siteB S = true) (hi : ¬ (0 ≤ i ∧ i < (S.eyes.length : Int))) : Calls Tryd.prog 10 #[siteV X S, .int .i64 i, lkV x, .bool u] w fun e w' => e = .returned (.tuple #[lkV Lk.zero, .int .i64 2]) ∧ Kept w w' none := by
  have hce : checkE S = 0 := by unfold checkE; rw [hs]; rfl
  have HW : Hid (inB i 0 ((S.eyes.length : Int) - 1) = false) := by show _ = _; exact inB_no.2 (by omega)
  clear hi
  have HE9 : Hid (S.eyes.length ≤ 9223372036854775807) := by show _ ≤ _; have := h.ek.room; have := h.ek.max; omega
  have k1 : Kept w (w.alloc (.cells #[.int .i64 S.id, .slice X.g S.groups.length X.gc, .slice X.a S.apart.length X.ac, .slice X.b S.between.length X.bc, .slice X.p S.phases.length X.pc, .slice X.e S.eyes.length X.ec, .int .i64 S.watch, .int .i64 S.feed, .int .i64 S.heal, .int .i64 S.low, .int .i64 S.high, .slice X.l S.plans.length X.lc] 29)) none := Kept.alloc _ _ _ _ _
  have k2 : Kept (w.alloc (.cells #[.int .i64 S.id, .slice X.g S.groups.length X.gc, .slice X.a S.apart.length X.ac, .slice X.b S.between.length X.bc, .slice X.p S.phases.length X.pc, .slice X.e S.eyes.length X.ec, .int .i64 S.watch, .int .i64 S.feed, .int .i64 S.heal, .int .i64 S.low, .int .i64 S.high, .slice X.l S.plans.length X.lc] 29)) ((w.alloc (.cells #[.int .i64 S.id, .slice X.g S.groups.length X.gc, .slice X.a S.apart.length X.ac, .slice X.b S.between.length X.bc, .slice X.p S.phases.length X.pc, .slice X.e S.eyes.length X.ec, .int .i64 S.watch, .int .i64 S.feed, .int .i64 S.heal, .int .i64 S.low, .int .i64 S.high, .slice X.l S.plans.length X.lc] 29)).alloc (.cells (lkC x) 33)) none := Kept.alloc _ _ _ _ _
  have k3 : Kept ((w.alloc (.cells #[.int .i64 S.id, .slice X.g S.groups.length X.gc, .slice X.a S.apart.length X.ac, .slice X.b S.between.length X.bc, .slice X.p S.phases.length X.pc, .slice X.e S.eyes.length X.ec, .int .i64 S.watch, .int .i64 S.feed, .int .i64 S.heal, .int .i64 S.low, .int .i64 S.high, .slice X.l S.plans.length X.lc] 29)).alloc (.cells (lkC x) 33)) (((w.alloc (.cells #[.int .i64 S.id, .slice X.g S.groups.length X.gc, .slice X.a S.apart.length X.ac, .slice X.b S.between.length X.bc, .slice X.p S.phases.length X.pc, .slice X.e S.eyes.length X.ec, .int .i64 S.watch, .int .i64 S.feed, .int .i64 S.heal, .int .i64 S.low, .int .i64 S.high, .slice X.l S.plans.length X.lc] 29)).alloc (.cells (lkC x) 33)).alloc (.cells #[.bool false, .int .i64 0, .int .u64 0, .bool false, .int .i64 0] 33)) none := Kept.alloc _ _ _ _ _
  have hkA := (k1.tr k2).tr k3
  have hsb := ((sbox_alloc h 29).kept k2).kept k3
  have hxb : Kbox (((w.alloc (.cells #[.int .i64 S.id, .slice X.g S.groups.length X.gc, .slice X.a S.apart.length X.ac, .slice X.b S.between.length X.bc, .slice X.p S.phases.length X.pc, .slice X.e S.eyes.length X.ec, .int .i64 S.watch, .int .i64 S.feed, .int .i64 S.heal, .int .i64 S.low, .int .i64 S.high, .slice X.l S.plans.length X.lc] 29)).alloc (.cells (lkC x) 33)).alloc (.cells #[.bool false, .int .i64 0, .int .u64 0, .bool false, .int .i64 0] 33)) (w.heap.size + 1) x := B5.kept (b5_at (by simp)) k3
  have hrb : Kbox (((w.alloc (.cells #[.int .i64 S.id, .slice X.g S.groups.length X.gc, .slice X.a S.apart.length X.ac, .slice X.b S.between.length X.bc, .slice X.p S.phases.length X.pc, .slice X.e S.eyes.length X.ec, .int .i64 S.watch, .int .i64 S.feed, .int .i64 S.heal, .int .i64 S.low, .int .i64 S.high, .slice X.l S.plans.length X.lc] 29)).alloc (.cells (lkC x) 33)).alloc (.cells #[.bool false, .int .i64 0, .int .u64 0, .bool false, .int .i64 0] 33)) (w.heap.size + 1 + 1) Lk.zero := b5_at (by simp)
  have HS := Hid.mk' (h.kept hkA)
  have HT := Hid.mk' (hT.kept hkA)
  clear k1 k2 k3
  obtain ⟨WA, hWA⟩ : ∃ WA, (((w.alloc (.cells #[.int .i64 S.id, .slice X.g S.groups.length X.gc, .slice X.a S.apart.length X.ac, .slice X.b S.between.length X.bc, .slice X.p S.phases.length X.pc, .slice X.e S.eyes.length X.ec, .int .i64 S.watch, .int .i64 S.feed, .int .i64 S.heal, .int .i64 S.low, .int .i64 S.high, .slice X.l S.plans.length X.lc] 29)).alloc (.cells (lkC x) 33)).alloc (.cells #[.bool false, .int .i64 0, .int .u64 0, .bool false, .int .i64 0] 33)) = WA := ⟨_, rfl⟩
  rw [hWA] at hkA hsb hxb hrb HS HT
  have HK := Hid.mk' hkA
  have HSB := Hid.mk' hsb
  have HXB := Hid.mk' hxb
  have HRB := Hid.mk' hrb
  have hK0 := Kept.refl WA none
  clear h hT hkA hsb hxb hrb
  have hE9 : S.eyes.length ≤ 9223372036854775807 := HE9.out
  have s0_ : ∀ w', Kept WA w' none → w'.cell? ⟨w.heap.size, 0, none⟩ = some (.int .i64 S.id) := fun w' q => (HSB.out.kept q).c0
  have s1_ : ∀ w', Kept WA w' none → w'.cell? ⟨w.heap.size, 1, none⟩ = some (.slice X.g S.groups.length X.gc) := fun w' q => (HSB.out.kept q).c1
  have s2_ : ∀ w', Kept WA w' none → w'.cell? ⟨w.heap.size, 2, none⟩ = some (.slice X.a S.apart.length X.ac) := fun w' q => (HSB.out.kept q).c2
  have s3_ : ∀ w', Kept WA w' none → w'.cell? ⟨w.heap.size, 3, none⟩ = some (.slice X.b S.between.length X.bc) := fun w' q => (HSB.out.kept q).c3
  have s4_ : ∀ w', Kept WA w' none → w'.cell? ⟨w.heap.size, 4, none⟩ = some (.slice X.p S.phases.length X.pc) := fun w' q => (HSB.out.kept q).c4
  have s5_ : ∀ w', Kept WA w' none → w'.cell? ⟨w.heap.size, 5, none⟩ = some (.slice X.e S.eyes.length X.ec) := fun w' q => (HSB.out.kept q).c5
  have s6_ : ∀ w', Kept WA w' none → w'.cell? ⟨w.heap.size, 6, none⟩ = some (.int .i64 S.watch) := fun w' q => (HSB.out.kept q).c6
  have s7_ : ∀ w', Kept WA w' none → w'.cell? ⟨w.heap.size, 7, none⟩ = some (.int .i64 S.feed) := fun w' q => (HSB.out.kept q).c7
  have s8_ : ∀ w', Kept WA w' none → w'.cell? ⟨w.heap.size, 8, none⟩ = some (.int .i64 S.heal) := fun w' q => (HSB.out.kept q).c8
  have s9_ : ∀ w', Kept WA w' none → w'.cell? ⟨w.heap.size, 9, none⟩ = some (.int .i64 S.low) := fun w' q => (HSB.out.kept q).c9
  have s10_ : ∀ w', Kept WA w' none → w'.cell? ⟨w.heap.size, 10, none⟩ = some (.int .i64 S.high) := fun w' q => (HSB.out.kept q).c10
  have s11_ : ∀ w', Kept WA w' none → w'.cell? ⟨w.heap.size, 11, none⟩ = some (.slice X.l S.plans.length X.lc) := fun w' q => (HSB.out.kept q).c11
  go_enter Tryd.func10, Tryd.ntmps10
  go_wp2_with (first | rw [hWA] | (go_at_call 24; refine (ewithin_any _ _ _ _).mono ?_; rw [HW.out]; rintro e w2 ⟨rfl, rfl⟩) | (go_at_call 22; have hx := check_any HS.out HT.out; rw [hce] at hx; refine hx.mono ?_; rintro e wC ⟨rfl, hkC⟩; have hKC : Kept WA wC none := hkC; clear hx; have hRf := HRB.out.kept hKC; have d0 := hRf.c0; have d1 := hRf.c1; have d2 := hRf.c2; have d3 := hRf.c3; have d4 := hRf.c4; have f0 := hRf.f0; have f1 := hRf.f1; have f2 := hRf.f2; have f3 := hRf.f3; have f4 := hRf.f4))
  refine bodyPost_ret (v := .tuple #[lkV _, .int .i64 _]) (by simp [results, Tryd.results10, go_sem, *]; done) rfl ⟨rfl, ?_⟩
  exact kept_set5 (HK.out.tr hKC) (by omega) _ _ _ _ _
set_option maxRecDepth 100000 in
set_option maxHeartbeats 2000000 in
theorem enext_bad {X : Sa} {S : St} {w : World} (h : Sat w X S) (hT : Tabb w) (i : Int) (x : Lk) (u : Bool) (hx : Typ x) (hs : siteB S = true) (hi : 0 ≤ i ∧ i < (S.eyes.length : Int)) (hm : mayK x = false) : Calls Tryd.prog 10 #[siteV X S, .int .i64 i, lkV x, .bool u] w fun e w' => e = .returned (.tuple #[lkV Lk.zero, .int .i64 8]) ∧ Kept w w' none := by
  have hce : checkE S = 0 := by unfold checkE; rw [hs]; rfl
  have HW : Hid (inB i 0 ((S.eyes.length : Int) - 1) = true) := by show _ = _; exact inB_iff.2 (by omega)
  clear hi
  have HM := Hid.mk' hm
  clear hm
  have HE9 : Hid (S.eyes.length ≤ 9223372036854775807) := by show _ ≤ _; have := h.ek.room; have := h.ek.max; omega
  have k1 : Kept w (w.alloc (.cells #[.int .i64 S.id, .slice X.g S.groups.length X.gc, .slice X.a S.apart.length X.ac, .slice X.b S.between.length X.bc, .slice X.p S.phases.length X.pc, .slice X.e S.eyes.length X.ec, .int .i64 S.watch, .int .i64 S.feed, .int .i64 S.heal, .int .i64 S.low, .int .i64 S.high, .slice X.l S.plans.length X.lc] 29)) none := Kept.alloc _ _ _ _ _
  have k2 : Kept (w.alloc (.cells #[.int .i64 S.id, .slice X.g S.groups.length X.gc, .slice X.a S.apart.length X.ac, .slice X.b S.between.length X.bc, .slice X.p S.phases.length X.pc, .slice X.e S.eyes.length X.ec, .int .i64 S.watch, .int .i64 S.feed, .int .i64 S.heal, .int .i64 S.low, .int .i64 S.high, .slice X.l S.plans.length X.lc] 29)) ((w.alloc (.cells #[.int .i64 S.id, .slice X.g S.groups.length X.gc, .slice X.a S.apart.length X.ac, .slice X.b S.between.length X.bc, .slice X.p S.phases.length X.pc, .slice X.e S.eyes.length X.ec, .int .i64 S.watch, .int .i64 S.feed, .int .i64 S.heal, .int .i64 S.low, .int .i64 S.high, .slice X.l S.plans.length X.lc] 29)).alloc (.cells (lkC x) 33)) none := Kept.alloc _ _ _ _ _
  have k3 : Kept ((w.alloc (.cells #[.int .i64 S.id, .slice X.g S.groups.length X.gc, .slice X.a S.apart.length X.ac, .slice X.b S.between.length X.bc, .slice X.p S.phases.length X.pc, .slice X.e S.eyes.length X.ec, .int .i64 S.watch, .int .i64 S.feed, .int .i64 S.heal, .int .i64 S.low, .int .i64 S.high, .slice X.l S.plans.length X.lc] 29)).alloc (.cells (lkC x) 33)) (((w.alloc (.cells #[.int .i64 S.id, .slice X.g S.groups.length X.gc, .slice X.a S.apart.length X.ac, .slice X.b S.between.length X.bc, .slice X.p S.phases.length X.pc, .slice X.e S.eyes.length X.ec, .int .i64 S.watch, .int .i64 S.feed, .int .i64 S.heal, .int .i64 S.low, .int .i64 S.high, .slice X.l S.plans.length X.lc] 29)).alloc (.cells (lkC x) 33)).alloc (.cells #[.bool false, .int .i64 0, .int .u64 0, .bool false, .int .i64 0] 33)) none := Kept.alloc _ _ _ _ _
  have hkA := (k1.tr k2).tr k3
  have hsb := ((sbox_alloc h 29).kept k2).kept k3
  have hxb : Kbox (((w.alloc (.cells #[.int .i64 S.id, .slice X.g S.groups.length X.gc, .slice X.a S.apart.length X.ac, .slice X.b S.between.length X.bc, .slice X.p S.phases.length X.pc, .slice X.e S.eyes.length X.ec, .int .i64 S.watch, .int .i64 S.feed, .int .i64 S.heal, .int .i64 S.low, .int .i64 S.high, .slice X.l S.plans.length X.lc] 29)).alloc (.cells (lkC x) 33)).alloc (.cells #[.bool false, .int .i64 0, .int .u64 0, .bool false, .int .i64 0] 33)) (w.heap.size + 1) x := B5.kept (b5_at (by simp)) k3
  have hrb : Kbox (((w.alloc (.cells #[.int .i64 S.id, .slice X.g S.groups.length X.gc, .slice X.a S.apart.length X.ac, .slice X.b S.between.length X.bc, .slice X.p S.phases.length X.pc, .slice X.e S.eyes.length X.ec, .int .i64 S.watch, .int .i64 S.feed, .int .i64 S.heal, .int .i64 S.low, .int .i64 S.high, .slice X.l S.plans.length X.lc] 29)).alloc (.cells (lkC x) 33)).alloc (.cells #[.bool false, .int .i64 0, .int .u64 0, .bool false, .int .i64 0] 33)) (w.heap.size + 1 + 1) Lk.zero := b5_at (by simp)
  have HS := Hid.mk' (h.kept hkA)
  have HT := Hid.mk' (hT.kept hkA)
  clear k1 k2 k3
  obtain ⟨WA, hWA⟩ : ∃ WA, (((w.alloc (.cells #[.int .i64 S.id, .slice X.g S.groups.length X.gc, .slice X.a S.apart.length X.ac, .slice X.b S.between.length X.bc, .slice X.p S.phases.length X.pc, .slice X.e S.eyes.length X.ec, .int .i64 S.watch, .int .i64 S.feed, .int .i64 S.heal, .int .i64 S.low, .int .i64 S.high, .slice X.l S.plans.length X.lc] 29)).alloc (.cells (lkC x) 33)).alloc (.cells #[.bool false, .int .i64 0, .int .u64 0, .bool false, .int .i64 0] 33)) = WA := ⟨_, rfl⟩
  rw [hWA] at hkA hsb hxb hrb HS HT
  have HK := Hid.mk' hkA
  have HSB := Hid.mk' hsb
  have HXB := Hid.mk' hxb
  have HRB := Hid.mk' hrb
  have hK0 := Kept.refl WA none
  clear h hT hkA hsb hxb hrb
  have hE9 : S.eyes.length ≤ 9223372036854775807 := HE9.out
  have s0_ : ∀ w', Kept WA w' none → w'.cell? ⟨w.heap.size, 0, none⟩ = some (.int .i64 S.id) := fun w' q => (HSB.out.kept q).c0
  have s1_ : ∀ w', Kept WA w' none → w'.cell? ⟨w.heap.size, 1, none⟩ = some (.slice X.g S.groups.length X.gc) := fun w' q => (HSB.out.kept q).c1
  have s2_ : ∀ w', Kept WA w' none → w'.cell? ⟨w.heap.size, 2, none⟩ = some (.slice X.a S.apart.length X.ac) := fun w' q => (HSB.out.kept q).c2
  have s3_ : ∀ w', Kept WA w' none → w'.cell? ⟨w.heap.size, 3, none⟩ = some (.slice X.b S.between.length X.bc) := fun w' q => (HSB.out.kept q).c3
  have s4_ : ∀ w', Kept WA w' none → w'.cell? ⟨w.heap.size, 4, none⟩ = some (.slice X.p S.phases.length X.pc) := fun w' q => (HSB.out.kept q).c4
  have s5_ : ∀ w', Kept WA w' none → w'.cell? ⟨w.heap.size, 5, none⟩ = some (.slice X.e S.eyes.length X.ec) := fun w' q => (HSB.out.kept q).c5
  have s6_ : ∀ w', Kept WA w' none → w'.cell? ⟨w.heap.size, 6, none⟩ = some (.int .i64 S.watch) := fun w' q => (HSB.out.kept q).c6
  have s7_ : ∀ w', Kept WA w' none → w'.cell? ⟨w.heap.size, 7, none⟩ = some (.int .i64 S.feed) := fun w' q => (HSB.out.kept q).c7
  have s8_ : ∀ w', Kept WA w' none → w'.cell? ⟨w.heap.size, 8, none⟩ = some (.int .i64 S.heal) := fun w' q => (HSB.out.kept q).c8
  have s9_ : ∀ w', Kept WA w' none → w'.cell? ⟨w.heap.size, 9, none⟩ = some (.int .i64 S.low) := fun w' q => (HSB.out.kept q).c9
  have s10_ : ∀ w', Kept WA w' none → w'.cell? ⟨w.heap.size, 10, none⟩ = some (.int .i64 S.high) := fun w' q => (HSB.out.kept q).c10
  have s11_ : ∀ w', Kept WA w' none → w'.cell? ⟨w.heap.size, 11, none⟩ = some (.slice X.l S.plans.length X.lc) := fun w' q => (HSB.out.kept q).c11
  have x0_ : ∀ w', Kept WA w' none → w'.cell? ⟨(w.heap.size + 1), 0, none⟩ = some (.bool x.up) := fun w' q => (HXB.out.kept q).c0
  have x1_ : ∀ w', Kept WA w' none → w'.cell? ⟨(w.heap.size + 1), 1, none⟩ = some (.int .i64 x.same) := fun w' q => (HXB.out.kept q).c1
  have x2_ : ∀ w', Kept WA w' none → w'.cell? ⟨(w.heap.size + 1), 2, none⟩ = some (.int .u64 x.turns) := fun w' q => (HXB.out.kept q).c2
  have x3_ : ∀ w', Kept WA w' none → w'.cell? ⟨(w.heap.size + 1), 3, none⟩ = some (.bool x.bad) := fun w' q => (HXB.out.kept q).c3
  have x4_ : ∀ w', Kept WA w' none → w'.cell? ⟨(w.heap.size + 1), 4, none⟩ = some (.int .i64 x.well) := fun w' q => (HXB.out.kept q).c4
  go_enter Tryd.func10, Tryd.ntmps10
  go_wp2_with (first | rw [hWA] | (go_at_call 25; refine (emay_any x _).mono ?_; rw [HM.out]; rintro e wM ⟨rfl, hkM⟩; have hKM : Kept WA wM none := hKC.tr hkM; have hRf := HRB.out.kept hKM; have d0 := hRf.c0; have d1 := hRf.c1; have d2 := hRf.c2; have d3 := hRf.c3; have d4 := hRf.c4; have f0 := hRf.f0; have f1 := hRf.f1; have f2 := hRf.f2; have f3 := hRf.f3; have f4 := hRf.f4) | (go_at_call 24; refine (ewithin_any _ _ _ _).mono ?_; rw [HW.out]; rintro e w2 ⟨rfl, rfl⟩) | (go_at_call 22; have hx := check_any HS.out HT.out; rw [hce] at hx; refine hx.mono ?_; rintro e wC ⟨rfl, hkC⟩; have hKC : Kept WA wC none := hkC; clear hx))
  refine bodyPost_ret (v := .tuple #[lkV _, .int .i64 _]) (by simp [results, Tryd.results10, go_sem, *]; done) rfl ⟨rfl, ?_⟩
  exact kept_set5 (HK.out.tr hKM) (by omega) _ _ _ _ _

end Go.Proofs.YtommijjacknkpaaDoor

/-
  THE CONTRACT of eye.Next (made by a program).
-/
namespace Go.Proofs.YtommijjacknkpaaDoor
open Go.RowKit Go.Lib Go.Deep
set_option linter.unusedVariables false
set_option linter.unusedSimpArgs false

set_option maxRecDepth 100000 in
set_option maxHeartbeats 2000000 in
theorem enext_go {X : Sa} {S : St} {w : World} (h : Sat w X S) (hT : Tabb w) (k : Nat) (x : Lk) (u : Bool) (hx : Typ x) (hs : siteB S = true) (hi : k < S.eyes.length) (hm : mayK x = true) : Calls Tryd.prog 10 #[siteV X S, .int .i64 (k : Int), lkV x, .bool u] w fun e w' => e = .returned (.tuple #[lkV (stepK (S.ey k) S.heal x u), .int .i64 0]) ∧ Kept w w' none := by
  have hce : checkE S = 0 := by unfold checkE; rw [hs]; rfl
  have HW : Hid (inB (k : Int) 0 ((S.eyes.length : Int) - 1) = true) := by show _ = _; exact inB_iff.2 (by omega)
  have HM := Hid.mk' hm
  have HLA := Hid.mk' (fun w' => later_any (S.ey k) S.heal x u w' hm hx.t0 hx.t1)
  obtain ⟨eb, eo, hea, hel, hec⟩ := h.e.at_ (by omega)
  have ey0 := hec k hi 0 (by omega)
  have ey1 := hec k hi 1 (by omega)
  have ey2 := hec k hi 2 (by omega)
  have ey3 := hec k hi 3 (by omega)
  simp only [eyV] at ey0 ey1 ey2 ey3
  clear hec
  have HEA := Hid.mk' hea
  clear hea
  generalize S.ey k = EE at *
  obtain ⟨e0', e1', e2', e3'⟩ := EE
  dsimp only at ey0 ey1 ey2 ey3
  generalize stepK ⟨e0', e1', e2', e3'⟩ S.heal x u = Y at *
  obtain ⟨r0', r1', r2', r3', r4'⟩ := Y
  have HE9 : Hid (S.eyes.length ≤ 9223372036854775807) := by show _ ≤ _; have := h.ek.room; have := h.ek.max; omega
  have k1 : Kept w (w.alloc (.cells #[.int .i64 S.id, .slice X.g S.groups.length X.gc, .slice X.a S.apart.length X.ac, .slice X.b S.between.length X.bc, .slice X.p S.phases.length X.pc, .slice X.e S.eyes.length X.ec, .int .i64 S.watch, .int .i64 S.feed, .int .i64 S.heal, .int .i64 S.low, .int .i64 S.high, .slice X.l S.plans.length X.lc] 29)) none := Kept.alloc _ _ _ _ _
  have k2 : Kept (w.alloc (.cells #[.int .i64 S.id, .slice X.g S.groups.length X.gc, .slice X.a S.apart.length X.ac, .slice X.b S.between.length X.bc, .slice X.p S.phases.length X.pc, .slice X.e S.eyes.length X.ec, .int .i64 S.watch, .int .i64 S.feed, .int .i64 S.heal, .int .i64 S.low, .int .i64 S.high, .slice X.l S.plans.length X.lc] 29)) ((w.alloc (.cells #[.int .i64 S.id, .slice X.g S.groups.length X.gc, .slice X.a S.apart.length X.ac, .slice X.b S.between.length X.bc, .slice X.p S.phases.length X.pc, .slice X.e S.eyes.length X.ec, .int .i64 S.watch, .int .i64 S.feed, .int .i64 S.heal, .int .i64 S.low, .int .i64 S.high, .slice X.l S.plans.length X.lc] 29)).alloc (.cells (lkC x) 33)) none := Kept.alloc _ _ _ _ _
  have k3 : Kept ((w.alloc (.cells #[.int .i64 S.id, .slice X.g S.groups.length X.gc, .slice X.a S.apart.length X.ac, .slice X.b S.between.length X.bc, .slice X.p S.phases.length X.pc, .slice X.e S.eyes.length X.ec, .int .i64 S.watch, .int .i64 S.feed, .int .i64 S.heal, .int .i64 S.low, .int .i64 S.high, .slice X.l S.plans.length X.lc] 29)).alloc (.cells (lkC x) 33)) (((w.alloc (.cells #[.int .i64 S.id, .slice X.g S.groups.length X.gc, .slice X.a S.apart.length X.ac, .slice X.b S.between.length X.bc, .slice X.p S.phases.length X.pc, .slice X.e S.eyes.length X.ec, .int .i64 S.watch, .int .i64 S.feed, .int .i64 S.heal, .int .i64 S.low, .int .i64 S.high, .slice X.l S.plans.length X.lc] 29)).alloc (.cells (lkC x) 33)).alloc (.cells #[.bool false, .int .i64 0, .int .u64 0, .bool false, .int .i64 0] 33)) none := Kept.alloc _ _ _ _ _
  have hkA := (k1.tr k2).tr k3
  have hsb := ((sbox_alloc h 29).kept k2).kept k3
  have hxb : Kbox (((w.alloc (.cells #[.int .i64 S.id, .slice X.g S.groups.length X.gc, .slice X.a S.apart.length X.ac, .slice X.b S.between.length X.bc, .slice X.p S.phases.length X.pc, .slice X.e S.eyes.length X.ec, .int .i64 S.watch, .int .i64 S.feed, .int .i64 S.heal, .int .i64 S.low, .int .i64 S.high, .slice X.l S.plans.length X.lc] 29)).alloc (.cells (lkC x) 33)).alloc (.cells #[.bool false, .int .i64 0, .int .u64 0, .bool false, .int .i64 0] 33)) (w.heap.size + 1) x := B5.kept (b5_at (by simp)) k3
  have hrb : Kbox (((w.alloc (.cells #[.int .i64 S.id, .slice X.g S.groups.length X.gc, .slice X.a S.apart.length X.ac, .slice X.b S.between.length X.bc, .slice X.p S.phases.length X.pc, .slice X.e S.eyes.length X.ec, .int .i64 S.watch, .int .i64 S.feed, .int .i64 S.heal, .int .i64 S.low, .int .i64 S.high, .slice X.l S.plans.length X.lc] 29)).alloc (.cells (lkC x) 33)).alloc (.cells #[.bool false, .int .i64 0, .int .u64 0, .bool false, .int .i64 0] 33)) (w.heap.size + 1 + 1) Lk.zero := b5_at (by simp)
  have HS := Hid.mk' (h.kept hkA)
  have HT := Hid.mk' (hT.kept hkA)
  clear k1 k2 k3
  obtain ⟨WA, hWA⟩ : ∃ WA, (((w.alloc (.cells #[.int .i64 S.id, .slice X.g S.groups.length X.gc, .slice X.a S.apart.length X.ac, .slice X.b S.between.length X.bc, .slice X.p S.phases.length X.pc, .slice X.e S.eyes.length X.ec, .int .i64 S.watch, .int .i64 S.feed, .int .i64 S.heal, .int .i64 S.low, .int .i64 S.high, .slice X.l S.plans.length X.lc] 29)).alloc (.cells (lkC x) 33)).alloc (.cells #[.bool false, .int .i64 0, .int .u64 0, .bool false, .int .i64 0] 33)) = WA := ⟨_, rfl⟩
  rw [hWA] at hkA hsb hxb hrb HS HT
  have HK := Hid.mk' hkA
  have HSB := Hid.mk' hsb
  have HXB := Hid.mk' hxb
  have HRB := Hid.mk' hrb
  have hK0 := Kept.refl WA none
  clear h hT hkA hsb hxb hrb
  have hE9 : S.eyes.length ≤ 9223372036854775807 := HE9.out
  have s0_ : ∀ w', Kept WA w' none → w'.cell? ⟨w.heap.size, 0, none⟩ = some (.int .i64 S.id) := fun w' q => (HSB.out.kept q).c0
  have s1_ : ∀ w', Kept WA w' none → w'.cell? ⟨w.heap.size, 1, none⟩ = some (.slice X.g S.groups.length X.gc) := fun w' q => (HSB.out.kept q).c1
  have s2_ : ∀ w', Kept WA w' none → w'.cell? ⟨w.heap.size, 2, none⟩ = some (.slice X.a S.apart.length X.ac) := fun w' q => (HSB.out.kept q).c2
  have s3_ : ∀ w', Kept WA w' none → w'.cell? ⟨w.heap.size, 3, none⟩ = some (.slice X.b S.between.length X.bc) := fun w' q => (HSB.out.kept q).c3
  have s4_ : ∀ w', Kept WA w' none → w'.cell? ⟨w.heap.size, 4, none⟩ = some (.slice X.p S.phases.length X.pc) := fun w' q => (HSB.out.kept q).c4
  have s5_ : ∀ w', Kept WA w' none → w'.cell? ⟨w.heap.size, 5, none⟩ = some (.slice X.e S.eyes.length X.ec) := fun w' q => (HSB.out.kept q).c5
  have s6_ : ∀ w', Kept WA w' none → w'.cell? ⟨w.heap.size, 6, none⟩ = some (.int .i64 S.watch) := fun w' q => (HSB.out.kept q).c6
  have s7_ : ∀ w', Kept WA w' none → w'.cell? ⟨w.heap.size, 7, none⟩ = some (.int .i64 S.feed) := fun w' q => (HSB.out.kept q).c7
  have s8_ : ∀ w', Kept WA w' none → w'.cell? ⟨w.heap.size, 8, none⟩ = some (.int .i64 S.heal) := fun w' q => (HSB.out.kept q).c8
  have s9_ : ∀ w', Kept WA w' none → w'.cell? ⟨w.heap.size, 9, none⟩ = some (.int .i64 S.low) := fun w' q => (HSB.out.kept q).c9
  have s10_ : ∀ w', Kept WA w' none → w'.cell? ⟨w.heap.size, 10, none⟩ = some (.int .i64 S.high) := fun w' q => (HSB.out.kept q).c10
  have s11_ : ∀ w', Kept WA w' none → w'.cell? ⟨w.heap.size, 11, none⟩ = some (.slice X.l S.plans.length X.lc) := fun w' q => (HSB.out.kept q).c11
  have x0_ : ∀ w', Kept WA w' none → w'.cell? ⟨(w.heap.size + 1), 0, none⟩ = some (.bool x.up) := fun w' q => (HXB.out.kept q).c0
  have x1_ : ∀ w', Kept WA w' none → w'.cell? ⟨(w.heap.size + 1), 1, none⟩ = some (.int .i64 x.same) := fun w' q => (HXB.out.kept q).c1
  have x2_ : ∀ w', Kept WA w' none → w'.cell? ⟨(w.heap.size + 1), 2, none⟩ = some (.int .u64 x.turns) := fun w' q => (HXB.out.kept q).c2
  have x3_ : ∀ w', Kept WA w' none → w'.cell? ⟨(w.heap.size + 1), 3, none⟩ = some (.bool x.bad) := fun w' q => (HXB.out.kept q).c3
  have x4_ : ∀ w', Kept WA w' none → w'.cell? ⟨(w.heap.size + 1), 4, none⟩ = some (.int .i64 x.well) := fun w' q => (HXB.out.kept q).c4
  go_enter Tryd.func10, Tryd.ntmps10
  go_wp2_with (first | rw [hWA] | (go_at_call 25; refine (emay_any x _).mono ?_; rw [HM.out]; rintro e wM ⟨rfl, hkM⟩; have hKM : Kept WA wM none := hKC.tr hkM) | (go_at_call 24; refine (ewithin_any _ _ _ _).mono ?_; rw [HW.out]; rintro e w2 ⟨rfl, rfl⟩) | (go_at_call 22; have hx := check_any HS.out HT.out; rw [hce] at hx; refine hx.mono ?_; rintro e wC ⟨rfl, hkC⟩; have hKC : Kept WA wC none := hkC; clear hx))
  have HEL := Hid.mk' hel
  have HKM := Hid.mk' hKM
  clear s0_
  clear s1_
  clear s2_
  clear s3_
  clear s4_
  clear s5_
  clear s6_
  clear s7_
  clear s8_
  clear s9_
  clear s10_
  clear s11_
  clear x0_
  clear x1_
  clear x2_
  clear x3_
  clear x4_
  have y0_ : ∀ w', Kept WA w' (some (w.heap.size + 1 + 1)) → w'.cell? ⟨eb, eo + k * 4, none⟩ = some (.int .i64 e0') := fun w' q => cell_kr (cell_kr ey0 HK.out (by simp)) q (by have := HEL.out; simp <;> omega)
  have y1_ : ∀ w', Kept WA w' (some (w.heap.size + 1 + 1)) → w'.cell? ⟨eb, eo + k * 4 + 1, none⟩ = some (.int .i64 e1') := fun w' q => cell_kr (cell_kr ey1 HK.out (by simp)) q (by have := HEL.out; simp <;> omega)
  have y2_ : ∀ w', Kept WA w' (some (w.heap.size + 1 + 1)) → w'.cell? ⟨eb, eo + k * 4 + 2, none⟩ = some (.int .i64 e2') := fun w' q => cell_kr (cell_kr ey2 HK.out (by simp)) q (by have := HEL.out; simp <;> omega)
  have y3_ : ∀ w', Kept WA w' (some (w.heap.size + 1 + 1)) → w'.cell? ⟨eb, eo + k * 4 + 3, none⟩ = some (.int .i64 e3') := fun w' q => cell_kr (cell_kr ey3 HK.out (by simp)) q (by have := HEL.out; simp <;> omega)
  have t5_ : ∀ w', Kept WA w' (some (w.heap.size + 1 + 1)) → w'.cell? ⟨w.heap.size, 5, none⟩ = some (.slice X.e S.eyes.length X.ec) := fun w' q => cell_kr HSB.out.c5 q (by simp <;> omega)
  have t8_ : ∀ w', Kept WA w' (some (w.heap.size + 1 + 1)) → w'.cell? ⟨w.heap.size, 8, none⟩ = some (.int .i64 S.heal) := fun w' q => cell_kr HSB.out.c8 q (by simp <;> omega)
  have z0_ : ∀ w', Kept WA w' (some (w.heap.size + 1 + 1)) → w'.cell? ⟨(w.heap.size + 1), 0, none⟩ = some (.bool x.up) := fun w' q => cell_kr HXB.out.c0 q (by simp <;> omega)
  have z1_ : ∀ w', Kept WA w' (some (w.heap.size + 1 + 1)) → w'.cell? ⟨(w.heap.size + 1), 1, none⟩ = some (.int .i64 x.same) := fun w' q => cell_kr HXB.out.c1 q (by simp <;> omega)
  have z2_ : ∀ w', Kept WA w' (some (w.heap.size + 1 + 1)) → w'.cell? ⟨(w.heap.size + 1), 2, none⟩ = some (.int .u64 x.turns) := fun w' q => cell_kr HXB.out.c2 q (by simp <;> omega)
  have z3_ : ∀ w', Kept WA w' (some (w.heap.size + 1 + 1)) → w'.cell? ⟨(w.heap.size + 1), 3, none⟩ = some (.bool x.bad) := fun w' q => cell_kr HXB.out.c3 q (by simp <;> omega)
  have z4_ : ∀ w', Kept WA w' (some (w.heap.size + 1 + 1)) → w'.cell? ⟨(w.heap.size + 1), 4, none⟩ = some (.int .i64 x.well) := fun w' q => cell_kr HXB.out.c4 q (by simp <;> omega)
  rw [HEA.out] at t5_
  clear ey0 ey1 ey2 ey3 hel hm hK0 hKC hkC hkM
  refine wp_region_held_drew (S := fun w' => Kept WA w' (some (w.heap.size + 1 + 1))) (by kernel_rfl) (kept_to (hKM.tr (Kept.drew _ _))) (fun hHeld => ?_)
  refine held_take (i := 0) (v := ?v1) rfl rfl (by kernel_rfl) (by kernel_rfl) (by kernel_rfl) (fun _ _ _ h => h) (Or.inl ⟨by rfl, ?hy1⟩) hHeld ?rest1
  case hy1 => first | (intro w hSw; (try dsimp only at hSw); go_simp; done) | (intro w hSw; (try dsimp only at hSw); go_simp; with_reducible rfl)
  try simp only [List.setIfInBounds_toArray, List.set_cons_zero, List.set_cons_succ]
  refine held_take (i := 1) (v := ?v2) rfl rfl (by kernel_rfl) (by kernel_rfl) (by kernel_rfl) (fun _ _ _ h => h) (Or.inl ⟨by rfl, ?hy2⟩) hHeld ?rest2
  case hy2 => first | (intro w hSw; (try dsimp only at hSw); go_simp; done) | (intro w hSw; (try dsimp only at hSw); go_simp; with_reducible rfl)
  try simp only [List.setIfInBounds_toArray, List.set_cons_zero, List.set_cons_succ]
  refine held_take (i := 2) (v := ?v3) rfl rfl (by kernel_rfl) (by kernel_rfl) (by kernel_rfl) (fun _ _ _ h => h) (Or.inl ⟨by rfl, ?hy3⟩) hHeld ?rest3
  case hy3 => first | (intro w hSw; (try dsimp only at hSw); go_simp; done) | (intro w hSw; (try dsimp only at hSw); go_simp; with_reducible rfl)
  try simp only [List.setIfInBounds_toArray, List.set_cons_zero, List.set_cons_succ]
  refine held_take (i := 3) (v := ?v4) rfl rfl (by kernel_rfl) (by kernel_rfl) (by kernel_rfl) (fun _ _ _ h => h) (Or.inl ⟨by rfl, ?hy4⟩) hHeld ?rest4
  case hy4 => first | (intro w hSw; (try dsimp only at hSw); go_simp; done) | (intro w hSw; (try dsimp only at hSw); go_simp; with_reducible rfl)
  try simp only [List.setIfInBounds_toArray, List.set_cons_zero, List.set_cons_succ]
  refine held_take (i := 4) (v := ?v5) rfl rfl (by kernel_rfl) (by kernel_rfl) (by kernel_rfl) (fun _ _ _ h => h) (Or.inl ⟨by rfl, ?hy5⟩) hHeld ?rest5
  case hy5 => first | (intro w hSw; (try dsimp only at hSw); go_simp; done) | (intro w hSw; (try dsimp only at hSw); go_simp; with_reducible rfl)
  try simp only [List.setIfInBounds_toArray, List.set_cons_zero, List.set_cons_succ]
  refine held_take (i := 5) (v := ?v6) rfl rfl (by kernel_rfl) (by kernel_rfl) (by kernel_rfl) (fun _ _ _ h => h) (Or.inl ⟨by rfl, ?hy6⟩) hHeld ?rest6
  case hy6 => first | (intro w hSw; (try dsimp only at hSw); go_simp; done) | (intro w hSw; (try dsimp only at hSw); go_simp; with_reducible rfl)
  try simp only [List.setIfInBounds_toArray, List.set_cons_zero, List.set_cons_succ]
  refine held_take (i := 6) (v := ?v7) rfl rfl (by kernel_rfl) (by kernel_rfl) (by kernel_rfl) (fun _ _ _ h => h) (Or.inl ⟨by rfl, ?hy7⟩) hHeld ?rest7
  case hy7 => first | (intro w hSw; (try dsimp only at hSw); go_simp; done) | (intro w hSw; (try dsimp only at hSw); go_simp; with_reducible rfl)
  try simp only [List.setIfInBounds_toArray, List.set_cons_zero, List.set_cons_succ]
  refine held_take (i := 7) (v := ?v8) rfl rfl (by kernel_rfl) (by kernel_rfl) (by kernel_rfl) (fun _ _ _ h => h) (Or.inl ⟨by rfl, ?hy8⟩) hHeld ?rest8
  case hy8 => first | (intro w hSw; (try dsimp only at hSw); go_simp; done) | (intro w hSw; (try dsimp only at hSw); go_simp; with_reducible rfl)
  try simp only [List.setIfInBounds_toArray, List.set_cons_zero, List.set_cons_succ]
  refine held_take (i := 8) (v := ?v9) rfl rfl (by kernel_rfl) (by kernel_rfl) (by kernel_rfl) (fun _ _ _ h => h) (Or.inl ⟨by rfl, ?hy9⟩) hHeld ?rest9
  case hy9 => first | (intro w hSw; (try dsimp only at hSw); go_simp; done) | (intro w hSw; (try dsimp only at hSw); go_simp; with_reducible rfl)
  try simp only [List.setIfInBounds_toArray, List.set_cons_zero, List.set_cons_succ]
  refine wpAnyH_ready (rs := [9]) (by kernel_rfl) (by simp) ?_
  refine AllReadyH.cons rfl (fun K hK => ?_) AllReadyH.nil
  go_simp
  go_wp2_with (go_at_call 26; refine (HLA.out _).mono ?_; rintro e w3 ⟨rfl, hk3⟩)
  have hKN : Kept WA w3 none := HKM.out.tr ((Kept.drew _ _).tr hk3)
  refine hK.out _ _ (kept_to hKN) (fun hHeld => ?_)
  clear hK K
  have hRf := HRB.out.kept hKN
  have d0 := hRf.c0
  have d1 := hRf.c1
  have d2 := hRf.c2
  have d3 := hRf.c3
  have d4 := hRf.c4
  have f0 := hRf.f0
  have f1 := hRf.f1
  have f2 := hRf.f2
  have f3 := hRf.f3
  have f4 := hRf.f4
 
  refine wpAnyH_ready (rs := [10]) (by kernel_rfl) (by simp) ?_
  refine AllReadyH.cons rfl (fun K hK => ?_) AllReadyH.nil
  go_simp
  refine hK.out _ _ (kept_own5 hHeld _ _ _ _ _) (fun hHeld => ?_)
  clear hK K
  refine held_take (i := 11) (v := ?v10) rfl rfl (by kernel_rfl) (by kernel_rfl) (by kernel_rfl) (fun _ _ _ h => h) (Or.inl ⟨by rfl, ?hy10⟩) hHeld ?rest10
  case hy10 => first | (intro w hSw; (try dsimp only at hSw); go_simp; done) | (intro w hSw; (try dsimp only at hSw); go_simp; with_reducible rfl)
  try simp only [List.setIfInBounds_toArray, List.set_cons_zero, List.set_cons_succ]
  refine wpAnyH_done (by kernel_rfl) ?_ _
  go_wp2
  refine bodyPost_ret (v := .tuple #[lkV _, .int .i64 _]) (by simp [results, Tryd.results10, go_sem, *]; done) rfl ⟨rfl, ?_⟩
  exact kept_set5 (HK.out.tr hKN) (by omega) _ _ _ _ _
theorem enext_any {X : Sa} {S : St} {w : World} (h : Sat w X S) (hT : Tabb w) (i : Int) (x : Lk) (u : Bool) (hx : Typ x) : Calls Tryd.prog 10 #[siteV X S, .int .i64 i, lkV x, .bool u] w fun e w' => e = .returned (.tuple #[lkV (nxK S i x u), .int .i64 (nxE S i x)]) ∧ Kept w w' none := by
  cases hs : siteB S
  · have e : nxE S i x = 50 := by unfold nxE; rw [hs]; rfl
    rw [nxK_no u (by rw [e]; decide), e]
    exact enext_site h hT i x u hx hs
  by_cases hi : 0 ≤ i ∧ i < (S.eyes.length : Int)
  · cases hm : mayK x
    · have e : nxE S i x = 8 := by unfold nxE; rw [hs, if_pos rfl, if_pos hi, hm]; rfl
      rw [nxK_no u (by rw [e]; decide), e]
      exact enext_bad h hT i x u hx hs hi hm
    · have e : nxE S i x = 0 := by unfold nxE; rw [hs, if_pos rfl, if_pos hi, hm]; rfl
      rw [show nxK S i x u = stepK (S.ey i.toNat) S.heal x u by unfold nxK; rw [if_pos e], e]
      obtain ⟨k, rfl⟩ : ∃ k : Nat, i = (k : Int) := ⟨i.toNat, by omega⟩
      exact enext_go h hT k x u hx hs (by omega) hm
  · have e : nxE S i x = 2 := by unfold nxE; rw [hs, if_pos rfl, if_neg hi]
    rw [nxK_no u (by rw [e]; decide), e]
    exact enext_arg h hT i x u hx hs hi
theorem nxK_may {S : St} {i : Int} {x : Lk} (u : Bool) : mayK (nxK S i x u) = true ∧ Typ (nxK S i x u) := by
  by_cases e : nxE S i x = 0
  · obtain ⟨h1, h2, h3, h4⟩ := nxE_zero e
    have hf := eye_facts h1
    rw [show nxK S i x u = stepK (S.ey i.toNat) S.heal x u by unfold nxK; rw [if_pos e]]
    exact ⟨mayK_step _ hf.h1 _ h4, typ_step _ hf.h1 _ h4⟩
  · rw [nxK_no u e]
    exact ⟨mayK_zero, typ_zero⟩

end Go.Proofs.YtommijjacknkpaaDoor

