/-
  Texts joined: some of those that the proofs of this seat stand on.
-/
import Derived.Test.YtommijjacknkpaaDoorEyeR1J
import Derived.Test.YtommijjacknkpaaDoorEyeR4J
import Derived.Test.YtommijjacknkpaaDoorEyeR6
import Derived.Test.YtommijjacknkpaaDoorEyeR7
import Derived.Test.YtommijjacknkpaaDoorEyeN0J
import Derived.Test.YtommijjacknkpaaDoorRefK2
import Derived.Test.YtommijjacknkpaaDoorEyeL
import Derived.Test.YtommijjacknkpaaDoorEyeR
import Derived.Laws.StructEq
import Derived.DeepKeys
import Derived.Deep.QuietTactic
import Derived.BigQuiet
/-
  THE CONTRACTS of the document's step and Next (made by a program).
-/
namespace Go.Proofs.YtommijjacknkpaaDoor
open Go.RowKit Go.Lib Go.Deep
set_option linter.unusedVariables false
set_option linter.unusedSimpArgs false

theorem rstep_any {X : Sa} {S : St} {w : World} (h : Sat w X S) (k : Nat) (hi : k < S.eyes.length) (x : Lk) (u : Bool) (hx : mayK x = true) (t0 : 0 ≤ x.turns) (t1 : x.turns < 18446744073709551616) : Calls Tryd.prog 32 #[siteV X S, .int .i64 (k : Int), lkV x, .bool u] w fun e w' => e = .returned (lkV (stepK (S.ey k) S.heal x u)) ∧ Kept w w' none := by
  obtain ⟨s0, s1, w0, w1, bw⟩ := mayK_iff.1 hx
  obtain ⟨q, a, z, b, c⟩ := x
  dsimp only at *
  have hz : IntKind.u64.wrap (z * 2) = z * 2 % 18446744073709551616 := IntKind.wrap_u64 _
  have hb0 : 0 ≤ z * 2 % 18446744073709551616 := by omega
  have hb1 : z * 2 % 18446744073709551616 + 1 ≤ 18446744073709551615 := by omega
  have hL : ∀ v, lasG z v = if v = true then z * 2 % 18446744073709551616 + 1 else z * 2 % 18446744073709551616 := fun v => rfl
  generalize z * 2 % 18446744073709551616 = Z at *
  cases hq : (u == q)
  · have e1 : samK ⟨q, a, z, b, c⟩ u = 1 := by unfold samK; rw [if_neg (by simpa using hq)]
    have e2 : turK ⟨q, a, z, b, c⟩ u = Z + 1 := by unfold turK; rw [hL, if_pos (by simpa using hq)]
    by_cases hm : a + 1 < 1048576
    · skip
      cases hu : u
      · rw [← hu]; exact rstep_nf h k hi u q hu a z b c Z s0 s1 w0 w1 bw hb0 hb1 hz (Hid.mk' e1) (Hid.mk' e2) hq hm
      · rw [← hu]; exact rstep_nt h k hi u q hu a z b c Z s0 s1 w0 w1 bw hb0 hb1 hz (Hid.mk' e1) (Hid.mk' e2) hq hm
    by_cases hm : a = 1048575
    · skip
      cases hu : u
      · rw [← hu]; exact rstep_mf h k hi u q hu a z b c Z s0 s1 w0 w1 bw hb0 hb1 hz (Hid.mk' e1) (Hid.mk' e2) hq hm
      · rw [← hu]; exact rstep_mt h k hi u q hu a z b c Z s0 s1 w0 w1 bw hb0 hb1 hz (Hid.mk' e1) (Hid.mk' e2) hq hm
    have hm : a = 1048576 := by omega
    cases hu : u
    · rw [← hu]; exact rstep_lf h k hi u q hu a z b c Z s0 s1 w0 w1 bw hb0 hb1 hz (Hid.mk' e1) (Hid.mk' e2) hq hm
    · rw [← hu]; exact rstep_lt h k hi u q hu a z b c Z s0 s1 w0 w1 bw hb0 hb1 hz (Hid.mk' e1) (Hid.mk' e2) hq hm
  · have e2 : turK ⟨q, a, z, b, c⟩ u = Z := by unfold turK; rw [hL, if_neg (by simpa using hq)]
    have e1 : samK ⟨q, a, z, b, c⟩ u = incG a 1048576 := by unfold samK; rw [if_pos (by simpa using hq)]
    unfold incG at e1
    by_cases hm : a + 1 < 1048576
    · rw [if_pos hm] at e1
      cases hu : u
      · rw [← hu]; exact rstep_yf h k hi u q hu a z b c Z s0 s1 w0 w1 bw hb0 hb1 hz (Hid.mk' e1) (Hid.mk' e2) hq hm
      · rw [← hu]; exact rstep_yt h k hi u q hu a z b c Z s0 s1 w0 w1 bw hb0 hb1 hz (Hid.mk' e1) (Hid.mk' e2) hq hm
    rw [if_neg hm] at e1
    by_cases hm : a = 1048575
    · skip
      cases hu : u
      · rw [← hu]; exact rstep_zf h k hi u q hu a z b c Z s0 s1 w0 w1 bw hb0 hb1 hz (Hid.mk' e1) (Hid.mk' e2) hq hm
      · rw [← hu]; exact rstep_zt h k hi u q hu a z b c Z s0 s1 w0 w1 bw hb0 hb1 hz (Hid.mk' e1) (Hid.mk' e2) hq hm
    have hm : a = 1048576 := by omega
    cases hu : u
    · rw [← hu]; exact rstep_xf h k hi u q hu a z b c Z s0 s1 w0 w1 bw hb0 hb1 hz (Hid.mk' e1) (Hid.mk' e2) hq hm
    · rw [← hu]; exact rstep_xt h k hi u q hu a z b c Z s0 s1 w0 w1 bw hb0 hb1 hz (Hid.mk' e1) (Hid.mk' e2) hq hm
set_option maxRecDepth 100000 in
set_option maxHeartbeats 2000000 in
theorem rnext_site {X : Sa} {S : St} {w : World} (h : Sat w X S) (hT : Tabb w) (i : Int) (x : Lk) (u : Bool) (hx : Typ x) (hs : siteB S = false) : Calls Tryd.prog 17 #[siteV X S, .int .i64 i, lkV x, .bool u] w fun e w' => e = .returned (.tuple #[lkV Lk.zero, .int .i64 50]) ∧ Kept w w' none := by
  have hce : checkE S = 50 := by unfold checkE; rw [hs]; rfl
  have HE9 : Hid (S.eyes.length ≤ 9223372036854775807) := by show _ ≤ _; have := h.ek.room; have := h.ek.max; omega
  have k1 : Kept w (w.alloc (.cells #[.int .i64 S.id, .slice X.g S.groups.length X.gc, .slice X.a S.apart.length X.ac, .slice X.b S.between.length X.bc, .slice X.p S.phases.length X.pc, .slice X.e S.eyes.length X.ec, .int .i64 S.watch, .int .i64 S.feed, .int .i64 S.heal, .int .i64 S.low, .int .i64 S.high, .slice X.l S.plans.length X.lc] 29)) none := Kept.alloc _ _ _ _ _
  have k2 : Kept (w.alloc (.cells #[.int .i64 S.id, .slice X.g S.groups.length X.gc, .slice X.a S.apart.length X.ac, .slice X.b S.between.length X.bc, .slice X.p S.phases.length X.pc, .slice X.e S.eyes.length X.ec, .int .i64 S.watch, .int .i64 S.feed, .int .i64 S.heal, .int .i64 S.low, .int .i64 S.high, .slice X.l S.plans.length X.lc] 29)) ((w.alloc (.cells #[.int .i64 S.id, .slice X.g S.groups.length X.gc, .slice X.a S.apart.length X.ac, .slice X.b S.between.length X.bc, .slice X.p S.phases.length X.pc, .slice X.e S.eyes.length X.ec, .int .i64 S.watch, .int .i64 S.feed, .int .i64 S.heal, .int .i64 S.low, .int .i64 S.high, .slice X.l S.plans.length X.lc] 29)).alloc (.cells (lkC x) 33)) none := Kept.alloc _ _ _ _ _
  have k3 : Kept ((w.alloc (.cells #[.int .i64 S.id, .slice X.g S.groups.length X.gc, .slice X.a S.apart.length X.ac, .slice X.b S.between.length X.bc, .slice X.p S.phases.length X.pc, .slice X.e S.eyes.length X.ec, .int .i64 S.watch, .int .i64 S.feed, .int .i64 S.heal, .int .i64 S.low, .int .i64 S.high, .slice X.l S.plans.length X.lc] 29)).alloc (.cells (lkC x) 33)) (((w.alloc (.cells #[.int .i64 S.id, .slice X.g S.groups.length X.gc, .slice X.a S.apart.length X.ac, .slice X.b S.between.length X.bc, .slice X.p S.phases.length X.pc, .slice X.e S.eyes.length X.ec, .int .i64 S.watch, .int .i64 S.feed, .int .i64 S.heal, .int .i64 S.low, .int .i64 S.high, .slice X.l S.plans.length X.lc] 29)).alloc (.cells (lkC x) 33)).alloc (.cells #[.bool false, .int .i64 0, .int .u64 0, .bool false, .int .i64 0] 33)) none := Kept.alloc _ _ _ _ _
  have hkA := (k1.tr k2).tr k3
  have hsb := ((sbox_alloc h 29).kept k2).kept k3
  have hxb : Kbox (((w.alloc (.cells #[.int .i64 S.id, .slice X.g S.groups.length X.gc, .slice X.a S.apart.length X.ac, .slice X.b S.between.length X.bc, .slice X.p S.phases.length X.pc, .slice X.e S.eyes.length X.ec, .int .i64 S.watch, .int .i64 S.feed, .int .i64 S.heal, .int .i64 S.low, .int .i64 S.high, .slice X.l S.plans.length X.lc] 29)).alloc (.cells (lkC x) 33)).alloc (.cells #[.bool false, .int .i64 0, .int .u64 0, .bool false, .int .i64 0] 33)) (w.heap.size + 1) x := B5.kept (b5_at (by simp)) k3
  have hrb : Kbox (((w.alloc (.cells #[.int .i64 S.id, .slice X.g S.groups.length X.gc, .slice X.a S.apart.length X.ac, .slice X.b S.between.length X.bc, .slice X.p S.phases.length X.pc, .slice X.e S.eyes.length X.ec, .int .i64 S.watch, .int .i64 S.feed, .int .i64 S.heal, .int .i64 S.low, .int .i64 S.high, .slice X.l S.plans.length X.lc] 29)).alloc (.cells (lkC x) 33)).alloc (.cells #[.bool false, .int .i64 0, .int .u64 0, .bool false, .int .i64 0] 33)) (w.heap.size + 1 + 1) Lk.zero := b5_at (by simp)
  have HS := Hid.mk' (h.kept hkA)
  have HT := Hid.mk' (hT.kept hkA)
  clear k1 k2 k3
  obtain ⟨WA, hWA⟩ : ∃ WA, (((w.alloc (.cells #[.int .i64 S.id, .slice X.g S.groups.length X.gc, .slice X.a S.apart.length X.ac, .slice X.b S.between.length X.bc, .slice X.p S.phases.length X.pc, .slice X.e S.eyes.length X.ec, .int .i64 S.watch, .int .i64 S.feed, .int .i64 S.heal, .int .i64 S.low, .int .i64 S.high, .slice X.l S.plans.length X.lc] 29)).alloc (.cells (lkC x) 33)).alloc (.cells #[.bool false, .int .i64 0, .int .u64 0, .bool false, .int .i64 0] 33)) = WA := ⟨_, rfl⟩
  rw [hWA] at hkA hsb hxb hrb HS HT
  have HK := Hid.mk' hkA
  have HSB := Hid.mk' hsb
  have HXB := Hid.mk' hxb
  have HRB := Hid.mk' hrb
  have hK0 := Kept.refl WA none
  clear h hT hkA hsb hxb hrb
  have hE9 : S.eyes.length ≤ 9223372036854775807 := HE9.out
  have s0_ : ∀ w', Kept WA w' none → w'.cell? ⟨w.heap.size, 0, none⟩ = some (.int .i64 S.id) := fun w' q => (HSB.out.kept q).c0
  have s1_ : ∀ w', Kept WA w' none → w'.cell? ⟨w.heap.size, 1, none⟩ = some (.slice X.g S.groups.length X.gc) := fun w' q => (HSB.out.kept q).c1
  have s2_ : ∀ w', Kept WA w' none → w'.cell? ⟨w.heap.size, 2, none⟩ = some (.slice X.a S.apart.length X.ac) := fun w' q => (HSB.out.kept q).c2
  have s3_ : ∀ w', Kept WA w' none → w'.cell? ⟨w.heap.size, 3, none⟩ = some (.slice X.b S.between.length X.bc) := fun w' q => (HSB.out.kept q).c3
  have s4_ : ∀ w', Kept WA w' none → w'.cell? ⟨w.heap.size, 4, none⟩ = some (.slice X.p S.phases.length X.pc) := fun w' q => (HSB.out.kept q).c4
  have s5_ : ∀ w', Kept WA w' none → w'.cell? ⟨w.heap.size, 5, none⟩ = some (.slice X.e S.eyes.length X.ec) := fun w' q => (HSB.out.kept q).c5
  have s6_ : ∀ w', Kept WA w' none → w'.cell? ⟨w.heap.size, 6, none⟩ = some (.int .i64 S.watch) := fun w' q => (HSB.out.kept q).c6
  have s7_ : ∀ w', Kept WA w' none → w'.cell? ⟨w.heap.size, 7, none⟩ = some (.int .i64 S.feed) := fun w' q => (HSB.out.kept q).c7
  have s8_ : ∀ w', Kept WA w' none → w'.cell? ⟨w.heap.size, 8, none⟩ = some (.int .i64 S.heal) := fun w' q => (HSB.out.kept q).c8
  have s9_ : ∀ w', Kept WA w' none → w'.cell? ⟨w.heap.size, 9, none⟩ = some (.int .i64 S.low) := fun w' q => (HSB.out.kept q).c9
  have s10_ : ∀ w', Kept WA w' none → w'.cell? ⟨w.heap.size, 10, none⟩ = some (.int .i64 S.high) := fun w' q => (HSB.out.kept q).c10
  have s11_ : ∀ w', Kept WA w' none → w'.cell? ⟨w.heap.size, 11, none⟩ = some (.slice X.l S.plans.length X.lc) := fun w' q => (HSB.out.kept q).c11
  go_enter Tryd.func17, Tryd.ntmps17
  go_wp2_with (first | rw [hWA] | (go_at_call 30; have hx := rcheck_any HS.out; rw [hce] at hx; refine hx.mono ?_; rintro e wC ⟨rfl, hkC⟩; have hKC : Kept WA wC none := hkC; clear hx; have hRf := HRB.out.kept hKC; have d0 := hRf.c0; have d1 := hRf.c1; have d2 := hRf.c2; have d3 := hRf.c3; have d4 := hRf.c4; have f0 := hRf.f0; have f1 := hRf.f1; have f2 := hRf.f2; have f3 := hRf.f3; have f4 := hRf.f4))
  refine bodyPost_ret (v := .tuple #[lkV _, .int .i64 _]) (by simp [results, Tryd.results17, go_sem, *]; done) rfl ⟨rfl, ?_⟩
  exact kept_set5 (HK.out.tr hKC) (by omega) _ _ _ _ _
set_option maxRecDepth 100000 in
set_option maxHeartbeats 2000000 in
theorem rnext_neg {X : Sa} {S : St} {w : World} (h : Sat w X S) (hT : Tabb w) (i : Int) (x : Lk) (u : Bool) (hx : Typ x) (hs : siteB S = true) (hi : i < 0) : Calls Tryd.prog 17 #[siteV X S, .int .i64 i, lkV x, .bool u] w fun e w' => e = .returned (.tuple #[lkV Lk.zero, .int .i64 2]) ∧ Kept w w' none := by
  have hce : checkE S = 0 := by unfold checkE; rw [hs]; rfl
  have HE9 : Hid (S.eyes.length ≤ 9223372036854775807) := by show _ ≤ _; have := h.ek.room; have := h.ek.max; omega
  have k1 : Kept w (w.alloc (.cells #[.int .i64 S.id, .slice X.g S.groups.length X.gc, .slice X.a S.apart.length X.ac, .slice X.b S.between.length X.bc, .slice X.p S.phases.length X.pc, .slice X.e S.eyes.length X.ec, .int .i64 S.watch, .int .i64 S.feed, .int .i64 S.heal, .int .i64 S.low, .int .i64 S.high, .slice X.l S.plans.length X.lc] 29)) none := Kept.alloc _ _ _ _ _
  have k2 : Kept (w.alloc (.cells #[.int .i64 S.id, .slice X.g S.groups.length X.gc, .slice X.a S.apart.length X.ac, .slice X.b S.between.length X.bc, .slice X.p S.phases.length X.pc, .slice X.e S.eyes.length X.ec, .int .i64 S.watch, .int .i64 S.feed, .int .i64 S.heal, .int .i64 S.low, .int .i64 S.high, .slice X.l S.plans.length X.lc] 29)) ((w.alloc (.cells #[.int .i64 S.id, .slice X.g S.groups.length X.gc, .slice X.a S.apart.length X.ac, .slice X.b S.between.length X.bc, .slice X.p S.phases.length X.pc, .slice X.e S.eyes.length X.ec, .int .i64 S.watch, .int .i64 S.feed, .int .i64 S.heal, .int .i64 S.low, .int .i64 S.high, .slice X.l S.plans.length X.lc] 29)).alloc (.cells (lkC x) 33)) none := Kept.alloc _ _ _ _ _
  have k3 : Kept ((w.alloc (.cells #[.int .i64 S.id, .slice X.g S.groups.length X.gc, .slice X.a S.apart.length X.ac, .slice X.b S.between.length X.bc, .slice X.p S.phases.length X.pc, .slice X.e S.eyes.length X.ec, .int .i64 S.watch, .int .i64 S.feed, .int .i64 S.heal, .int .i64 S.low, .int .i64 S.high, .slice X.l S.plans.length X.lc] 29)).alloc (.cells (lkC x) 33)) (((w.alloc (.cells #[.int .i64 S.id, .slice X.g S.groups.length X.gc, .slice X.a S.apart.length X.ac, .slice X.b S.between.length X.bc, .slice X.p S.phases.length X.pc, .slice X.e S.eyes.length X.ec, .int .i64 S.watch, .int .i64 S.feed, .int .i64 S.heal, .int .i64 S.low, .int .i64 S.high, .slice X.l S.plans.length X.lc] 29)).alloc (.cells (lkC x) 33)).alloc (.cells #[.bool false, .int .i64 0, .int .u64 0, .bool false, .int .i64 0] 33)) none := Kept.alloc _ _ _ _ _
  have hkA := (k1.tr k2).tr k3
  have hsb := ((sbox_alloc h 29).kept k2).kept k3
  have hxb : Kbox (((w.alloc (.cells #[.int .i64 S.id, .slice X.g S.groups.length X.gc, .slice X.a S.apart.length X.ac, .slice X.b S.between.length X.bc, .slice X.p S.phases.length X.pc, .slice X.e S.eyes.length X.ec, .int .i64 S.watch, .int .i64 S.feed, .int .i64 S.heal, .int .i64 S.low, .int .i64 S.high, .slice X.l S.plans.length X.lc] 29)).alloc (.cells (lkC x) 33)).alloc (.cells #[.bool false, .int .i64 0, .int .u64 0, .bool false, .int .i64 0] 33)) (w.heap.size + 1) x := B5.kept (b5_at (by simp)) k3
  have hrb : Kbox (((w.alloc (.cells #[.int .i64 S.id, .slice X.g S.groups.length X.gc, .slice X.a S.apart.length X.ac, .slice X.b S.between.length X.bc, .slice X.p S.phases.length X.pc, .slice X.e S.eyes.length X.ec, .int .i64 S.watch, .int .i64 S.feed, .int .i64 S.heal, .int .i64 S.low, .int .i64 S.high, .slice X.l S.plans.length X.lc] 29)).alloc (.cells (lkC x) 33)).alloc (.cells #[.bool false, .int .i64 0, .int .u64 0, .bool false, .int .i64 0] 33)) (w.heap.size + 1 + 1) Lk.zero := b5_at (by simp)
  have HS := Hid.mk' (h.kept hkA)
  have HT := Hid.mk' (hT.kept hkA)
  clear k1 k2 k3
  obtain ⟨WA, hWA⟩ : ∃ WA, (((w.alloc (.cells #[.int .i64 S.id, .slice X.g S.groups.length X.gc, .slice X.a S.apart.length X.ac, .slice X.b S.between.length X.bc, .slice X.p S.phases.length X.pc, .slice X.e S.eyes.length X.ec, .int .i64 S.watch, .int .i64 S.feed, .int .i64 S.heal, .int .i64 S.low, .int .i64 S.high, .slice X.l S.plans.length X.lc] 29)).alloc (.cells (lkC x) 33)).alloc (.cells #[.bool false, .int .i64 0, .int .u64 0, .bool false, .int .i64 0] 33)) = WA := ⟨_, rfl⟩
  rw [hWA] at hkA hsb hxb hrb HS HT
  have HK := Hid.mk' hkA
  have HSB := Hid.mk' hsb
  have HXB := Hid.mk' hxb
  have HRB := Hid.mk' hrb
  have hK0 := Kept.refl WA none
  clear h hT hkA hsb hxb hrb
  have hE9 : S.eyes.length ≤ 9223372036854775807 := HE9.out
  have s0_ : ∀ w', Kept WA w' none → w'.cell? ⟨w.heap.size, 0, none⟩ = some (.int .i64 S.id) := fun w' q => (HSB.out.kept q).c0
  have s1_ : ∀ w', Kept WA w' none → w'.cell? ⟨w.heap.size, 1, none⟩ = some (.slice X.g S.groups.length X.gc) := fun w' q => (HSB.out.kept q).c1
  have s2_ : ∀ w', Kept WA w' none → w'.cell? ⟨w.heap.size, 2, none⟩ = some (.slice X.a S.apart.length X.ac) := fun w' q => (HSB.out.kept q).c2
  have s3_ : ∀ w', Kept WA w' none → w'.cell? ⟨w.heap.size, 3, none⟩ = some (.slice X.b S.between.length X.bc) := fun w' q => (HSB.out.kept q).c3
  have s4_ : ∀ w', Kept WA w' none → w'.cell? ⟨w.heap.size, 4, none⟩ = some (.slice X.p S.phases.length X.pc) := fun w' q => (HSB.out.kept q).c4
  have s5_ : ∀ w', Kept WA w' none → w'.cell? ⟨w.heap.size, 5, none⟩ = some (.slice X.e S.eyes.length X.ec) := fun w' q => (HSB.out.kept q).c5
  have s6_ : ∀ w', Kept WA w' none → w'.cell? ⟨w.heap.size, 6, none⟩ = some (.int .i64 S.watch) := fun w' q => (HSB.out.kept q).c6
  have s7_ : ∀ w', Kept WA w' none → w'.cell? ⟨w.heap.size, 7, none⟩ = some (.int .i64 S.feed) := fun w' q => (HSB.out.kept q).c7
  have s8_ : ∀ w', Kept WA w' none → w'.cell? ⟨w.heap.size, 8, none⟩ = some (.int .i64 S.heal) := fun w' q => (HSB.out.kept q).c8
  have s9_ : ∀ w', Kept WA w' none → w'.cell? ⟨w.heap.size, 9, none⟩ = some (.int .i64 S.low) := fun w' q => (HSB.out.kept q).c9
  have s10_ : ∀ w', Kept WA w' none → w'.cell? ⟨w.heap.size, 10, none⟩ = some (.int .i64 S.high) := fun w' q => (HSB.out.kept q).c10
  have s11_ : ∀ w', Kept WA w' none → w'.cell? ⟨w.heap.size, 11, none⟩ = some (.slice X.l S.plans.length X.lc) := fun w' q => (HSB.out.kept q).c11
  go_enter Tryd.func17, Tryd.ntmps17
  go_wp2_with (first | rw [hWA] | (go_at_call 30; have hx := rcheck_any HS.out; rw [hce] at hx; refine hx.mono ?_; rintro e wC ⟨rfl, hkC⟩; have hKC : Kept WA wC none := hkC; clear hx; have hRf := HRB.out.kept hKC; have d0 := hRf.c0; have d1 := hRf.c1; have d2 := hRf.c2; have d3 := hRf.c3; have d4 := hRf.c4; have f0 := hRf.f0; have f1 := hRf.f1; have f2 := hRf.f2; have f3 := hRf.f3; have f4 := hRf.f4))
  refine bodyPost_ret (v := .tuple #[lkV _, .int .i64 _]) (by simp [results, Tryd.results17, go_sem, *]; done) rfl ⟨rfl, ?_⟩
  exact kept_set5 (HK.out.tr hKC) (by omega) _ _ _ _ _
set_option maxRecDepth 100000 in
set_option maxHeartbeats 2000000 in
theorem rnext_far {X : Sa} {S : St} {w : World} (h : Sat w X S) (hT : Tabb w) (i : Int) (x : Lk) (u : Bool) (hx : Typ x) (hs : siteB S = true) (hi0 : 0 ≤ i) (hi : (S.eyes.length : Int) ≤ i) : Calls Tryd.prog 17 #[siteV X S, .int .i64 i, lkV x, .bool u] w fun e w' => e = .returned (.tuple #[lkV Lk.zero, .int .i64 2]) ∧ Kept w w' none := by
  have hce : checkE S = 0 := by unfold checkE; rw [hs]; rfl
  have HE9 : Hid (S.eyes.length ≤ 9223372036854775807) := by show _ ≤ _; have := h.ek.room; have := h.ek.max; omega
  have k1 : Kept w (w.alloc (.cells #[.int .i64 S.id, .slice X.g S.groups.length X.gc, .slice X.a S.apart.length X.ac, .slice X.b S.between.length X.bc, .slice X.p S.phases.length X.pc, .slice X.e S.eyes.length X.ec, .int .i64 S.watch, .int .i64 S.feed, .int .i64 S.heal, .int .i64 S.low, .int .i64 S.high, .slice X.l S.plans.length X.lc] 29)) none := Kept.alloc _ _ _ _ _
  have k2 : Kept (w.alloc (.cells #[.int .i64 S.id, .slice X.g S.groups.length X.gc, .slice X.a S.apart.length X.ac, .slice X.b S.between.length X.bc, .slice X.p S.phases.length X.pc, .slice X.e S.eyes.length X.ec, .int .i64 S.watch, .int .i64 S.feed, .int .i64 S.heal, .int .i64 S.low, .int .i64 S.high, .slice X.l S.plans.length X.lc] 29)) ((w.alloc (.cells #[.int .i64 S.id, .slice X.g S.groups.length X.gc, .slice X.a S.apart.length X.ac, .slice X.b S.between.length X.bc, .slice X.p S.phases.length X.pc, .slice X.e S.eyes.length X.ec, .int .i64 S.watch, .int .i64 S.feed, .int .i64 S.heal, .int .i64 S.low, .int .i64 S.high, .slice X.l S.plans.length X.lc] 29)).alloc (.cells (lkC x) 33)) none := Kept.alloc _ _ _ _ _
  have k3 : Kept ((w.alloc (.cells #[.int .i64 S.id, .slice X.g S.groups.length X.gc, .slice X.a S.apart.length X.ac, .slice X.b S.between.length X.bc, .slice X.p S.phases.length X.pc, .slice X.e S.eyes.length X.ec, .int .i64 S.watch, .int .i64 S.feed, .int .i64 S.heal, .int .i64 S.low, .int .i64 S.high, .slice X.l S.plans.length X.lc] 29)).alloc (.cells (lkC x) 33)) (((w.alloc (.cells #[.int .i64 S.id, .slice X.g S.groups.length X.gc, .slice X.a S.apart.length X.ac, .slice X.b S.between.length X.bc, .slice X.p S.phases.length X.pc, .slice X.e S.eyes.length X.ec, .int .i64 S.watch, .int .i64 S.feed, .int .i64 S.heal, .int .i64 S.low, .int .i64 S.high, .slice X.l S.plans.length X.lc] 29)).alloc (.cells (lkC x) 33)).alloc (.cells #[.bool false, .int .i64 0, .int .u64 0, .bool false, .int .i64 0] 33)) none := Kept.alloc _ _ _ _ _
  have hkA := (k1.tr k2).tr k3
  have hsb := ((sbox_alloc h 29).kept k2).kept k3
  have hxb : Kbox (((w.alloc (.cells #[.int .i64 S.id, .slice X.g S.groups.length X.gc, .slice X.a S.apart.length X.ac, .slice X.b S.between.length X.bc, .slice X.p S.phases.length X.pc, .slice X.e S.eyes.length X.ec, .int .i64 S.watch, .int .i64 S.feed, .int .i64 S.heal, .int .i64 S.low, .int .i64 S.high, .slice X.l S.plans.length X.lc] 29)).alloc (.cells (lkC x) 33)).alloc (.cells #[.bool false, .int .i64 0, .int .u64 0, .bool false, .int .i64 0] 33)) (w.heap.size + 1) x := B5.kept (b5_at (by simp)) k3
  have hrb : Kbox (((w.alloc (.cells #[.int .i64 S.id, .slice X.g S.groups.length X.gc, .slice X.a S.apart.length X.ac, .slice X.b S.between.length X.bc, .slice X.p S.phases.length X.pc, .slice X.e S.eyes.length X.ec, .int .i64 S.watch, .int .i64 S.feed, .int .i64 S.heal, .int .i64 S.low, .int .i64 S.high, .slice X.l S.plans.length X.lc] 29)).alloc (.cells (lkC x) 33)).alloc (.cells #[.bool false, .int .i64 0, .int .u64 0, .bool false, .int .i64 0] 33)) (w.heap.size + 1 + 1) Lk.zero := b5_at (by simp)
  have HS := Hid.mk' (h.kept hkA)
  have HT := Hid.mk' (hT.kept hkA)
  clear k1 k2 k3
  obtain ⟨WA, hWA⟩ : ∃ WA, (((w.alloc (.cells #[.int .i64 S.id, .slice X.g S.groups.length X.gc, .slice X.a S.apart.length X.ac, .slice X.b S.between.length X.bc, .slice X.p S.phases.length X.pc, .slice X.e S.eyes.length X.ec, .int .i64 S.watch, .int .i64 S.feed, .int .i64 S.heal, .int .i64 S.low, .int .i64 S.high, .slice X.l S.plans.length X.lc] 29)).alloc (.cells (lkC x) 33)).alloc (.cells #[.bool false, .int .i64 0, .int .u64 0, .bool false, .int .i64 0] 33)) = WA := ⟨_, rfl⟩
  rw [hWA] at hkA hsb hxb hrb HS HT
  have HK := Hid.mk' hkA
  have HSB := Hid.mk' hsb
  have HXB := Hid.mk' hxb
  have HRB := Hid.mk' hrb
  have hK0 := Kept.refl WA none
  clear h hT hkA hsb hxb hrb
  have hE9 : S.eyes.length ≤ 9223372036854775807 := HE9.out
  have s0_ : ∀ w', Kept WA w' none → w'.cell? ⟨w.heap.size, 0, none⟩ = some (.int .i64 S.id) := fun w' q => (HSB.out.kept q).c0
  have s1_ : ∀ w', Kept WA w' none → w'.cell? ⟨w.heap.size, 1, none⟩ = some (.slice X.g S.groups.length X.gc) := fun w' q => (HSB.out.kept q).c1
  have s2_ : ∀ w', Kept WA w' none → w'.cell? ⟨w.heap.size, 2, none⟩ = some (.slice X.a S.apart.length X.ac) := fun w' q => (HSB.out.kept q).c2
  have s3_ : ∀ w', Kept WA w' none → w'.cell? ⟨w.heap.size, 3, none⟩ = some (.slice X.b S.between.length X.bc) := fun w' q => (HSB.out.kept q).c3
  have s4_ : ∀ w', Kept WA w' none → w'.cell? ⟨w.heap.size, 4, none⟩ = some (.slice X.p S.phases.length X.pc) := fun w' q => (HSB.out.kept q).c4
  have s5_ : ∀ w', Kept WA w' none → w'.cell? ⟨w.heap.size, 5, none⟩ = some (.slice X.e S.eyes.length X.ec) := fun w' q => (HSB.out.kept q).c5
  have s6_ : ∀ w', Kept WA w' none → w'.cell? ⟨w.heap.size, 6, none⟩ = some (.int .i64 S.watch) := fun w' q => (HSB.out.kept q).c6
  have s7_ : ∀ w', Kept WA w' none → w'.cell? ⟨w.heap.size, 7, none⟩ = some (.int .i64 S.feed) := fun w' q => (HSB.out.kept q).c7
  have s8_ : ∀ w', Kept WA w' none → w'.cell? ⟨w.heap.size, 8, none⟩ = some (.int .i64 S.heal) := fun w' q => (HSB.out.kept q).c8
  have s9_ : ∀ w', Kept WA w' none → w'.cell? ⟨w.heap.size, 9, none⟩ = some (.int .i64 S.low) := fun w' q => (HSB.out.kept q).c9
  have s10_ : ∀ w', Kept WA w' none → w'.cell? ⟨w.heap.size, 10, none⟩ = some (.int .i64 S.high) := fun w' q => (HSB.out.kept q).c10
  have s11_ : ∀ w', Kept WA w' none → w'.cell? ⟨w.heap.size, 11, none⟩ = some (.slice X.l S.plans.length X.lc) := fun w' q => (HSB.out.kept q).c11
  go_enter Tryd.func17, Tryd.ntmps17
  go_wp2_with (first | rw [hWA] | (go_at_call 30; have hx := rcheck_any HS.out; rw [hce] at hx; refine hx.mono ?_; rintro e wC ⟨rfl, hkC⟩; have hKC : Kept WA wC none := hkC; clear hx; have hRf := HRB.out.kept hKC; have d0 := hRf.c0; have d1 := hRf.c1; have d2 := hRf.c2; have d3 := hRf.c3; have d4 := hRf.c4; have f0 := hRf.f0; have f1 := hRf.f1; have f2 := hRf.f2; have f3 := hRf.f3; have f4 := hRf.f4))
  refine bodyPost_ret (v := .tuple #[lkV _, .int .i64 _]) (by simp [results, Tryd.results17, go_sem, *]; done) rfl ⟨rfl, ?_⟩
  exact kept_set5 (HK.out.tr hKC) (by omega) _ _ _ _ _
set_option maxRecDepth 100000 in
set_option maxHeartbeats 2000000 in
theorem rnext_bad {X : Sa} {S : St} {w : World} (h : Sat w X S) (hT : Tabb w) (k : Nat) (x : Lk) (u : Bool) (hx : Typ x) (hs : siteB S = true) (hi : k < S.eyes.length) (hm : mayK x = false) : Calls Tryd.prog 17 #[siteV X S, .int .i64 (k : Int), lkV x, .bool u] w fun e w' => e = .returned (.tuple #[lkV Lk.zero, .int .i64 8]) ∧ Kept w w' none := by
  have hce : checkE S = 0 := by unfold checkE; rw [hs]; rfl
  have HM := Hid.mk' hm
  have hi2 : (k : Int) < (S.eyes.length : Int) := by omega
  clear hm
  have HE9 : Hid (S.eyes.length ≤ 9223372036854775807) := by show _ ≤ _; have := h.ek.room; have := h.ek.max; omega
  have k1 : Kept w (w.alloc (.cells #[.int .i64 S.id, .slice X.g S.groups.length X.gc, .slice X.a S.apart.length X.ac, .slice X.b S.between.length X.bc, .slice X.p S.phases.length X.pc, .slice X.e S.eyes.length X.ec, .int .i64 S.watch, .int .i64 S.feed, .int .i64 S.heal, .int .i64 S.low, .int .i64 S.high, .slice X.l S.plans.length X.lc] 29)) none := Kept.alloc _ _ _ _ _
  have k2 : Kept (w.alloc (.cells #[.int .i64 S.id, .slice X.g S.groups.length X.gc, .slice X.a S.apart.length X.ac, .slice X.b S.between.length X.bc, .slice X.p S.phases.length X.pc, .slice X.e S.eyes.length X.ec, .int .i64 S.watch, .int .i64 S.feed, .int .i64 S.heal, .int .i64 S.low, .int .i64 S.high, .slice X.l S.plans.length X.lc] 29)) ((w.alloc (.cells #[.int .i64 S.id, .slice X.g S.groups.length X.gc, .slice X.a S.apart.length X.ac, .slice X.b S.between.length X.bc, .slice X.p S.phases.length X.pc, .slice X.e S.eyes.length X.ec, .int .i64 S.watch, .int .i64 S.feed, .int .i64 S.heal, .int .i64 S.low, .int .i64 S.high, .slice X.l S.plans.length X.lc] 29)).alloc (.cells (lkC x) 33)) none := Kept.alloc _ _ _ _ _
  have k3 : Kept ((w.alloc (.cells #[.int .i64 S.id, .slice X.g S.groups.length X.gc, .slice X.a S.apart.length X.ac, .slice X.b S.between.length X.bc, .slice X.p S.phases.length X.pc, .slice X.e S.eyes.length X.ec, .int .i64 S.watch, .int .i64 S.feed, .int .i64 S.heal, .int .i64 S.low, .int .i64 S.high, .slice X.l S.plans.length X.lc] 29)).alloc (.cells (lkC x) 33)) (((w.alloc (.cells #[.int .i64 S.id, .slice X.g S.groups.length X.gc, .slice X.a S.apart.length X.ac, .slice X.b S.between.length X.bc, .slice X.p S.phases.length X.pc, .slice X.e S.eyes.length X.ec, .int .i64 S.watch, .int .i64 S.feed, .int .i64 S.heal, .int .i64 S.low, .int .i64 S.high, .slice X.l S.plans.length X.lc] 29)).alloc (.cells (lkC x) 33)).alloc (.cells #[.bool false, .int .i64 0, .int .u64 0, .bool false, .int .i64 0] 33)) none := Kept.alloc _ _ _ _ _
  have hkA := (k1.tr k2).tr k3
  have hsb := ((sbox_alloc h 29).kept k2).kept k3
  have hxb : Kbox (((w.alloc (.cells #[.int .i64 S.id, .slice X.g S.groups.length X.gc, .slice X.a S.apart.length X.ac, .slice X.b S.between.length X.bc, .slice X.p S.phases.length X.pc, .slice X.e S.eyes.length X.ec, .int .i64 S.watch, .int .i64 S.feed, .int .i64 S.heal, .int .i64 S.low, .int .i64 S.high, .slice X.l S.plans.length X.lc] 29)).alloc (.cells (lkC x) 33)).alloc (.cells #[.bool false, .int .i64 0, .int .u64 0, .bool false, .int .i64 0] 33)) (w.heap.size + 1) x := B5.kept (b5_at (by simp)) k3
  have hrb : Kbox (((w.alloc (.cells #[.int .i64 S.id, .slice X.g S.groups.length X.gc, .slice X.a S.apart.length X.ac, .slice X.b S.between.length X.bc, .slice X.p S.phases.length X.pc, .slice X.e S.eyes.length X.ec, .int .i64 S.watch, .int .i64 S.feed, .int .i64 S.heal, .int .i64 S.low, .int .i64 S.high, .slice X.l S.plans.length X.lc] 29)).alloc (.cells (lkC x) 33)).alloc (.cells #[.bool false, .int .i64 0, .int .u64 0, .bool false, .int .i64 0] 33)) (w.heap.size + 1 + 1) Lk.zero := b5_at (by simp)
  have HS := Hid.mk' (h.kept hkA)
  have HT := Hid.mk' (hT.kept hkA)
  clear k1 k2 k3
  obtain ⟨WA, hWA⟩ : ∃ WA, (((w.alloc (.cells #[.int .i64 S.id, .slice X.g S.groups.length X.gc, .slice X.a S.apart.length X.ac, .slice X.b S.between.length X.bc, .slice X.p S.phases.length X.pc, .slice X.e S.eyes.length X.ec, .int .i64 S.watch, .int .i64 S.feed, .int .i64 S.heal, .int .i64 S.low, .int .i64 S.high, .slice X.l S.plans.length X.lc] 29)).alloc (.cells (lkC x) 33)).alloc (.cells #[.bool false, .int .i64 0, .int .u64 0, .bool false, .int .i64 0] 33)) = WA := ⟨_, rfl⟩
  rw [hWA] at hkA hsb hxb hrb HS HT
  have HK := Hid.mk' hkA
  have HSB := Hid.mk' hsb
  have HXB := Hid.mk' hxb
  have HRB := Hid.mk' hrb
  have hK0 := Kept.refl WA none
  clear h hT hkA hsb hxb hrb
  have hE9 : S.eyes.length ≤ 9223372036854775807 := HE9.out
  have s0_ : ∀ w', Kept WA w' none → w'.cell? ⟨w.heap.size, 0, none⟩ = some (.int .i64 S.id) := fun w' q => (HSB.out.kept q).c0
  have s1_ : ∀ w', Kept WA w' none → w'.cell? ⟨w.heap.size, 1, none⟩ = some (.slice X.g S.groups.length X.gc) := fun w' q => (HSB.out.kept q).c1
  have s2_ : ∀ w', Kept WA w' none → w'.cell? ⟨w.heap.size, 2, none⟩ = some (.slice X.a S.apart.length X.ac) := fun w' q => (HSB.out.kept q).c2
  have s3_ : ∀ w', Kept WA w' none → w'.cell? ⟨w.heap.size, 3, none⟩ = some (.slice X.b S.between.length X.bc) := fun w' q => (HSB.out.kept q).c3
  have s4_ : ∀ w', Kept WA w' none → w'.cell? ⟨w.heap.size, 4, none⟩ = some (.slice X.p S.phases.length X.pc) := fun w' q => (HSB.out.kept q).c4
  have s5_ : ∀ w', Kept WA w' none → w'.cell? ⟨w.heap.size, 5, none⟩ = some (.slice X.e S.eyes.length X.ec) := fun w' q => (HSB.out.kept q).c5
  have s6_ : ∀ w', Kept WA w' none → w'.cell? ⟨w.heap.size, 6, none⟩ = some (.int .i64 S.watch) := fun w' q => (HSB.out.kept q).c6
  have s7_ : ∀ w', Kept WA w' none → w'.cell? ⟨w.heap.size, 7, none⟩ = some (.int .i64 S.feed) := fun w' q => (HSB.out.kept q).c7
  have s8_ : ∀ w', Kept WA w' none → w'.cell? ⟨w.heap.size, 8, none⟩ = some (.int .i64 S.heal) := fun w' q => (HSB.out.kept q).c8
  have s9_ : ∀ w', Kept WA w' none → w'.cell? ⟨w.heap.size, 9, none⟩ = some (.int .i64 S.low) := fun w' q => (HSB.out.kept q).c9
  have s10_ : ∀ w', Kept WA w' none → w'.cell? ⟨w.heap.size, 10, none⟩ = some (.int .i64 S.high) := fun w' q => (HSB.out.kept q).c10
  have s11_ : ∀ w', Kept WA w' none → w'.cell? ⟨w.heap.size, 11, none⟩ = some (.slice X.l S.plans.length X.lc) := fun w' q => (HSB.out.kept q).c11
  have x0_ : ∀ w', Kept WA w' none → w'.cell? ⟨(w.heap.size + 1), 0, none⟩ = some (.bool x.up) := fun w' q => (HXB.out.kept q).c0
  have x1_ : ∀ w', Kept WA w' none → w'.cell? ⟨(w.heap.size + 1), 1, none⟩ = some (.int .i64 x.same) := fun w' q => (HXB.out.kept q).c1
  have x2_ : ∀ w', Kept WA w' none → w'.cell? ⟨(w.heap.size + 1), 2, none⟩ = some (.int .u64 x.turns) := fun w' q => (HXB.out.kept q).c2
  have x3_ : ∀ w', Kept WA w' none → w'.cell? ⟨(w.heap.size + 1), 3, none⟩ = some (.bool x.bad) := fun w' q => (HXB.out.kept q).c3
  have x4_ : ∀ w', Kept WA w' none → w'.cell? ⟨(w.heap.size + 1), 4, none⟩ = some (.int .i64 x.well) := fun w' q => (HXB.out.kept q).c4
  go_enter Tryd.func17, Tryd.ntmps17
  go_wp2_with (first | rw [hWA] | (go_at_call 31; refine (rmay_any x _).mono ?_; rw [HM.out]; rintro e wM ⟨rfl, hkM⟩; have hKM : Kept WA wM none := hKC.tr hkM; have hRf := HRB.out.kept hKM; have d0 := hRf.c0; have d1 := hRf.c1; have d2 := hRf.c2; have d3 := hRf.c3; have d4 := hRf.c4; have f0 := hRf.f0; have f1 := hRf.f1; have f2 := hRf.f2; have f3 := hRf.f3; have f4 := hRf.f4) | (go_at_call 30; have hx := rcheck_any HS.out; rw [hce] at hx; refine hx.mono ?_; rintro e wC ⟨rfl, hkC⟩; have hKC : Kept WA wC none := hkC; clear hx))
  refine bodyPost_ret (v := .tuple #[lkV _, .int .i64 _]) (by simp [results, Tryd.results17, go_sem, *]; done) rfl ⟨rfl, ?_⟩
  exact kept_set5 (HK.out.tr hKM) (by omega) _ _ _ _ _
set_option maxRecDepth 100000 in
set_option maxHeartbeats 2000000 in
theorem rnext_go {X : Sa} {S : St} {w : World} (h : Sat w X S) (hT : Tabb w) (k : Nat) (x : Lk) (u : Bool) (hx : Typ x) (hs : siteB S = true) (hi : k < S.eyes.length) (hm : mayK x = true) : Calls Tryd.prog 17 #[siteV X S, .int .i64 (k : Int), lkV x, .bool u] w fun e w' => e = .returned (.tuple #[lkV (stepK (S.ey k) S.heal x u), .int .i64 0]) ∧ Kept w w' none := by
  have hce : checkE S = 0 := by unfold checkE; rw [hs]; rfl
  have HM := Hid.mk' hm
  have hi2 : (k : Int) < (S.eyes.length : Int) := by omega
  have HST0 : Hid (∀ w', Kept w w' none → Calls Tryd.prog 32 #[siteV X S, .int .i64 (k : Int), lkV x, .bool u] w' fun e w'' => e = .returned (lkV (stepK (S.ey k) S.heal x u)) ∧ Kept w' w'' none) := fun w' q => rstep_any (h.kept q) k hi x u hm hx.t0 hx.t1
  clear hm
  generalize stepK (S.ey k) S.heal x u = Y at *
  have HE9 : Hid (S.eyes.length ≤ 9223372036854775807) := by show _ ≤ _; have := h.ek.room; have := h.ek.max; omega
  have k1 : Kept w (w.alloc (.cells #[.int .i64 S.id, .slice X.g S.groups.length X.gc, .slice X.a S.apart.length X.ac, .slice X.b S.between.length X.bc, .slice X.p S.phases.length X.pc, .slice X.e S.eyes.length X.ec, .int .i64 S.watch, .int .i64 S.feed, .int .i64 S.heal, .int .i64 S.low, .int .i64 S.high, .slice X.l S.plans.length X.lc] 29)) none := Kept.alloc _ _ _ _ _
  have k2 : Kept (w.alloc (.cells #[.int .i64 S.id, .slice X.g S.groups.length X.gc, .slice X.a S.apart.length X.ac, .slice X.b S.between.length X.bc, .slice X.p S.phases.length X.pc, .slice X.e S.eyes.length X.ec, .int .i64 S.watch, .int .i64 S.feed, .int .i64 S.heal, .int .i64 S.low, .int .i64 S.high, .slice X.l S.plans.length X.lc] 29)) ((w.alloc (.cells #[.int .i64 S.id, .slice X.g S.groups.length X.gc, .slice X.a S.apart.length X.ac, .slice X.b S.between.length X.bc, .slice X.p S.phases.length X.pc, .slice X.e S.eyes.length X.ec, .int .i64 S.watch, .int .i64 S.feed, .int .i64 S.heal, .int .i64 S.low, .int .i64 S.high, .slice X.l S.plans.length X.lc] 29)).alloc (.cells (lkC x) 33)) none := Kept.alloc _ _ _ _ _
  have k3 : Kept ((w.alloc (.cells #[.int .i64 S.id, .slice X.g S.groups.length X.gc, .slice X.a S.apart.length X.ac, .slice X.b S.between.length X.bc, .slice X.p S.phases.length X.pc, .slice X.e S.eyes.length X.ec, .int .i64 S.watch, .int .i64 S.feed, .int .i64 S.heal, .int .i64 S.low, .int .i64 S.high, .slice X.l S.plans.length X.lc] 29)).alloc (.cells (lkC x) 33)) (((w.alloc (.cells #[.int .i64 S.id, .slice X.g S.groups.length X.gc, .slice X.a S.apart.length X.ac, .slice X.b S.between.length X.bc, .slice X.p S.phases.length X.pc, .slice X.e S.eyes.length X.ec, .int .i64 S.watch, .int .i64 S.feed, .int .i64 S.heal, .int .i64 S.low, .int .i64 S.high, .slice X.l S.plans.length X.lc] 29)).alloc (.cells (lkC x) 33)).alloc (.cells #[.bool false, .int .i64 0, .int .u64 0, .bool false, .int .i64 0] 33)) none := Kept.alloc _ _ _ _ _
  have hkA := (k1.tr k2).tr k3
  have hsb := ((sbox_alloc h 29).kept k2).kept k3
  have hxb : Kbox (((w.alloc (.cells #[.int .i64 S.id, .slice X.g S.groups.length X.gc, .slice X.a S.apart.length X.ac, .slice X.b S.between.length X.bc, .slice X.p S.phases.length X.pc, .slice X.e S.eyes.length X.ec, .int .i64 S.watch, .int .i64 S.feed, .int .i64 S.heal, .int .i64 S.low, .int .i64 S.high, .slice X.l S.plans.length X.lc] 29)).alloc (.cells (lkC x) 33)).alloc (.cells #[.bool false, .int .i64 0, .int .u64 0, .bool false, .int .i64 0] 33)) (w.heap.size + 1) x := B5.kept (b5_at (by simp)) k3
  have hrb : Kbox (((w.alloc (.cells #[.int .i64 S.id, .slice X.g S.groups.length X.gc, .slice X.a S.apart.length X.ac, .slice X.b S.between.length X.bc, .slice X.p S.phases.length X.pc, .slice X.e S.eyes.length X.ec, .int .i64 S.watch, .int .i64 S.feed, .int .i64 S.heal, .int .i64 S.low, .int .i64 S.high, .slice X.l S.plans.length X.lc] 29)).alloc (.cells (lkC x) 33)).alloc (.cells #[.bool false, .int .i64 0, .int .u64 0, .bool false, .int .i64 0] 33)) (w.heap.size + 1 + 1) Lk.zero := b5_at (by simp)
  have HS := Hid.mk' (h.kept hkA)
  have HT := Hid.mk' (hT.kept hkA)
  clear k1 k2 k3
  obtain ⟨WA, hWA⟩ : ∃ WA, (((w.alloc (.cells #[.int .i64 S.id, .slice X.g S.groups.length X.gc, .slice X.a S.apart.length X.ac, .slice X.b S.between.length X.bc, .slice X.p S.phases.length X.pc, .slice X.e S.eyes.length X.ec, .int .i64 S.watch, .int .i64 S.feed, .int .i64 S.heal, .int .i64 S.low, .int .i64 S.high, .slice X.l S.plans.length X.lc] 29)).alloc (.cells (lkC x) 33)).alloc (.cells #[.bool false, .int .i64 0, .int .u64 0, .bool false, .int .i64 0] 33)) = WA := ⟨_, rfl⟩
  rw [hWA] at hkA hsb hxb hrb HS HT
  have HK := Hid.mk' hkA
  have HSB := Hid.mk' hsb
  have HXB := Hid.mk' hxb
  have HRB := Hid.mk' hrb
  have hK0 := Kept.refl WA none
  clear h hT hkA hsb hxb hrb
  have hE9 : S.eyes.length ≤ 9223372036854775807 := HE9.out
  have s0_ : ∀ w', Kept WA w' none → w'.cell? ⟨w.heap.size, 0, none⟩ = some (.int .i64 S.id) := fun w' q => (HSB.out.kept q).c0
  have s1_ : ∀ w', Kept WA w' none → w'.cell? ⟨w.heap.size, 1, none⟩ = some (.slice X.g S.groups.length X.gc) := fun w' q => (HSB.out.kept q).c1
  have s2_ : ∀ w', Kept WA w' none → w'.cell? ⟨w.heap.size, 2, none⟩ = some (.slice X.a S.apart.length X.ac) := fun w' q => (HSB.out.kept q).c2
  have s3_ : ∀ w', Kept WA w' none → w'.cell? ⟨w.heap.size, 3, none⟩ = some (.slice X.b S.between.length X.bc) := fun w' q => (HSB.out.kept q).c3
  have s4_ : ∀ w', Kept WA w' none → w'.cell? ⟨w.heap.size, 4, none⟩ = some (.slice X.p S.phases.length X.pc) := fun w' q => (HSB.out.kept q).c4
  have s5_ : ∀ w', Kept WA w' none → w'.cell? ⟨w.heap.size, 5, none⟩ = some (.slice X.e S.eyes.length X.ec) := fun w' q => (HSB.out.kept q).c5
  have s6_ : ∀ w', Kept WA w' none → w'.cell? ⟨w.heap.size, 6, none⟩ = some (.int .i64 S.watch) := fun w' q => (HSB.out.kept q).c6
  have s7_ : ∀ w', Kept WA w' none → w'.cell? ⟨w.heap.size, 7, none⟩ = some (.int .i64 S.feed) := fun w' q => (HSB.out.kept q).c7
  have s8_ : ∀ w', Kept WA w' none → w'.cell? ⟨w.heap.size, 8, none⟩ = some (.int .i64 S.heal) := fun w' q => (HSB.out.kept q).c8
  have s9_ : ∀ w', Kept WA w' none → w'.cell? ⟨w.heap.size, 9, none⟩ = some (.int .i64 S.low) := fun w' q => (HSB.out.kept q).c9
  have s10_ : ∀ w', Kept WA w' none → w'.cell? ⟨w.heap.size, 10, none⟩ = some (.int .i64 S.high) := fun w' q => (HSB.out.kept q).c10
  have s11_ : ∀ w', Kept WA w' none → w'.cell? ⟨w.heap.size, 11, none⟩ = some (.slice X.l S.plans.length X.lc) := fun w' q => (HSB.out.kept q).c11
  have x0_ : ∀ w', Kept WA w' none → w'.cell? ⟨(w.heap.size + 1), 0, none⟩ = some (.bool x.up) := fun w' q => (HXB.out.kept q).c0
  have x1_ : ∀ w', Kept WA w' none → w'.cell? ⟨(w.heap.size + 1), 1, none⟩ = some (.int .i64 x.same) := fun w' q => (HXB.out.kept q).c1
  have x2_ : ∀ w', Kept WA w' none → w'.cell? ⟨(w.heap.size + 1), 2, none⟩ = some (.int .u64 x.turns) := fun w' q => (HXB.out.kept q).c2
  have x3_ : ∀ w', Kept WA w' none → w'.cell? ⟨(w.heap.size + 1), 3, none⟩ = some (.bool x.bad) := fun w' q => (HXB.out.kept q).c3
  have x4_ : ∀ w', Kept WA w' none → w'.cell? ⟨(w.heap.size + 1), 4, none⟩ = some (.int .i64 x.well) := fun w' q => (HXB.out.kept q).c4
  have HST : Hid (∀ w', Kept WA w' none → Calls Tryd.prog 32 #[siteV X S, .int .i64 (k : Int), lkV x, .bool u] w' fun e w'' => e = .returned (lkV Y) ∧ Kept w' w'' none) := fun w' q => HST0.out w' (HK.out.tr q)
  go_enter Tryd.func17, Tryd.ntmps17
  go_wp2_with (first | rw [hWA] | (go_at_call 32; refine (HST.out _ hKM).mono ?_; rintro e wS ⟨rfl, hkS⟩; have hKS : Kept WA wS none := hKM.tr hkS; have hRf := HRB.out.kept hKS; have d0 := hRf.c0; have d1 := hRf.c1; have d2 := hRf.c2; have d3 := hRf.c3; have d4 := hRf.c4; have f0 := hRf.f0; have f1 := hRf.f1; have f2 := hRf.f2; have f3 := hRf.f3; have f4 := hRf.f4) | (go_at_call 31; refine (rmay_any x _).mono ?_; rw [HM.out]; rintro e wM ⟨rfl, hkM⟩; have hKM : Kept WA wM none := hKC.tr hkM) | (go_at_call 30; have hx := rcheck_any HS.out; rw [hce] at hx; refine hx.mono ?_; rintro e wC ⟨rfl, hkC⟩; have hKC : Kept WA wC none := hkC; clear hx))
  refine bodyPost_ret (v := .tuple #[lkV _, .int .i64 _]) (by simp [results, Tryd.results17, go_sem, *]; done) rfl ⟨rfl, ?_⟩
  exact kept_set5 (HK.out.tr hKS) (by omega) _ _ _ _ _
theorem rnext_any {X : Sa} {S : St} {w : World} (h : Sat w X S) (hT : Tabb w) (i : Int) (x : Lk) (u : Bool) (hx : Typ x) : Calls Tryd.prog 17 #[siteV X S, .int .i64 i, lkV x, .bool u] w fun e w' => e = .returned (.tuple #[lkV (nxK S i x u), .int .i64 (nxE S i x)]) ∧ Kept w w' none := by
  cases hs : siteB S
  · have e : nxE S i x = 50 := by unfold nxE; rw [hs]; rfl
    rw [nxK_no u (by rw [e]; decide), e]
    exact rnext_site h hT i x u hx hs
  by_cases hi : 0 ≤ i ∧ i < (S.eyes.length : Int)
  · obtain ⟨k, rfl⟩ : ∃ k : Nat, i = (k : Int) := ⟨i.toNat, by omega⟩
    cases hm : mayK x
    · have e : nxE S (k : Int) x = 8 := by unfold nxE; rw [hs, if_pos rfl, if_pos hi, hm]; rfl
      rw [nxK_no u (by rw [e]; decide), e]
      exact rnext_bad h hT k x u hx hs (by omega) hm
    · have e : nxE S (k : Int) x = 0 := by unfold nxE; rw [hs, if_pos rfl, if_pos hi, hm]; rfl
      rw [show nxK S (k : Int) x u = stepK (S.ey (k : Int).toNat) S.heal x u by unfold nxK; rw [if_pos e], e]
      exact rnext_go h hT k x u hx hs (by omega) hm
  · have e : nxE S i x = 2 := by unfold nxE; rw [hs, if_pos rfl, if_neg hi]
    rw [nxK_no u (by rw [e]; decide), e]
    by_cases hn : i < 0
    · exact rnext_neg h hT i x u hx hs hn
    · exact rnext_far h hT i x u hx hs (by omega) (by omega)

end Go.Proofs.YtommijjacknkpaaDoor

/-
  THE CONTRACTS of the document's Asked and Same (made by a program).
-/
namespace Go.Proofs.YtommijjacknkpaaDoor
open Go.RowKit Go.Lib Go.Deep
set_option linter.unusedVariables false
set_option linter.unusedSimpArgs false

set_option maxRecDepth 100000 in
set_option maxHeartbeats 2000000 in
theorem rask_site {X : Sa} {S : St} {w : World} (h : Sat w X S) (hT : Tabb w) {a : Option Addr} {n c : Nat} {L : List Lk} (hA : Lks w a n L) (hc : Cap a n c) (hs : siteB S = false) : Calls Tryd.prog 33 #[siteV X S, .slice a n c] w fun e w' => e = .returned (.int .i64 50) ∧ Kept w w' none := by
  have hce : checkE S = 50 := by unfold checkE; rw [hs]; rfl
  have hkA : Kept w (w.alloc (.cells #[.int .i64 S.id, .slice X.g S.groups.length X.gc, .slice X.a S.apart.length X.ac, .slice X.b S.between.length X.bc, .slice X.p S.phases.length X.pc, .slice X.e S.eyes.length X.ec, .int .i64 S.watch, .int .i64 S.feed, .int .i64 S.heal, .int .i64 S.low, .int .i64 S.high, .slice X.l S.plans.length X.lc] 29)) none := Kept.alloc _ _ _ _ _
  have hsb := sbox_alloc h 29
  have HS := Hid.mk' (h.kept hkA)
  have HT := Hid.mk' (hT.kept hkA)
  have HA := Hid.mk' (hA.kept hkA)
  have hE9 : S.eyes.length ≤ 9223372036854775807 := by have := h.ek.room; have := h.ek.max; omega
  have hn9 : n ≤ 9223372036854775807 := by have := hc.room; have := hc.max; omega
  have HSZ := Hid.mk' hA.size
  obtain ⟨WA, hWA⟩ : ∃ WA, (w.alloc (.cells #[.int .i64 S.id, .slice X.g S.groups.length X.gc, .slice X.a S.apart.length X.ac, .slice X.b S.between.length X.bc, .slice X.p S.phases.length X.pc, .slice X.e S.eyes.length X.ec, .int .i64 S.watch, .int .i64 S.feed, .int .i64 S.heal, .int .i64 S.low, .int .i64 S.high, .slice X.l S.plans.length X.lc] 29)) = WA := ⟨_, rfl⟩
  rw [hWA] at hkA hsb HS HT HA
  have hlA : w.heap.size < WA.heap.size := hsb.lt
  have HK := Hid.mk' hkA
  have HSB := Hid.mk' hsb
  have hK0 := Kept.refl WA none
  clear h hT hkA hsb hA
  have s0_ : ∀ w', Kept WA w' none → w'.cell? ⟨w.heap.size, 0, none⟩ = some (.int .i64 S.id) := fun w' q => (HSB.out.kept q).c0
  have s1_ : ∀ w', Kept WA w' none → w'.cell? ⟨w.heap.size, 1, none⟩ = some (.slice X.g S.groups.length X.gc) := fun w' q => (HSB.out.kept q).c1
  have s2_ : ∀ w', Kept WA w' none → w'.cell? ⟨w.heap.size, 2, none⟩ = some (.slice X.a S.apart.length X.ac) := fun w' q => (HSB.out.kept q).c2
  have s3_ : ∀ w', Kept WA w' none → w'.cell? ⟨w.heap.size, 3, none⟩ = some (.slice X.b S.between.length X.bc) := fun w' q => (HSB.out.kept q).c3
  have s4_ : ∀ w', Kept WA w' none → w'.cell? ⟨w.heap.size, 4, none⟩ = some (.slice X.p S.phases.length X.pc) := fun w' q => (HSB.out.kept q).c4
  have s5_ : ∀ w', Kept WA w' none → w'.cell? ⟨w.heap.size, 5, none⟩ = some (.slice X.e S.eyes.length X.ec) := fun w' q => (HSB.out.kept q).c5
  have s6_ : ∀ w', Kept WA w' none → w'.cell? ⟨w.heap.size, 6, none⟩ = some (.int .i64 S.watch) := fun w' q => (HSB.out.kept q).c6
  have s7_ : ∀ w', Kept WA w' none → w'.cell? ⟨w.heap.size, 7, none⟩ = some (.int .i64 S.feed) := fun w' q => (HSB.out.kept q).c7
  have s8_ : ∀ w', Kept WA w' none → w'.cell? ⟨w.heap.size, 8, none⟩ = some (.int .i64 S.heal) := fun w' q => (HSB.out.kept q).c8
  have s9_ : ∀ w', Kept WA w' none → w'.cell? ⟨w.heap.size, 9, none⟩ = some (.int .i64 S.low) := fun w' q => (HSB.out.kept q).c9
  have s10_ : ∀ w', Kept WA w' none → w'.cell? ⟨w.heap.size, 10, none⟩ = some (.int .i64 S.high) := fun w' q => (HSB.out.kept q).c10
  have s11_ : ∀ w', Kept WA w' none → w'.cell? ⟨w.heap.size, 11, none⟩ = some (.slice X.l S.plans.length X.lc) := fun w' q => (HSB.out.kept q).c11
  go_enter Tryd.func33, Tryd.ntmps33
  go_wp2_with (first | rw [hWA] | (go_at_call 30; have hx := rcheck_any HS.out; rw [hce] at hx; refine hx.mono ?_; rintro e wC ⟨rfl, hkC⟩; have hKC : Kept WA wC none := hkC; clear hx))
  go_ret
  exact ⟨rfl, HK.out.tr hKC⟩
set_option maxRecDepth 100000 in
set_option maxHeartbeats 2000000 in
theorem rask_many {X : Sa} {S : St} {w : World} (h : Sat w X S) (hT : Tabb w) {a : Option Addr} {n c : Nat} {L : List Lk} (hA : Lks w a n L) (hc : Cap a n c) (hs : siteB S = true) (hl : ¬ n = S.eyes.length) : Calls Tryd.prog 33 #[siteV X S, .slice a n c] w fun e w' => e = .returned (.int .i64 4) ∧ Kept w w' none := by
  have hce : checkE S = 0 := by unfold checkE; rw [hs]; rfl
  have hnb : ((n : Int) != (S.eyes.length : Int)) = true := by simp; omega
  clear hl
  have hkA : Kept w (w.alloc (.cells #[.int .i64 S.id, .slice X.g S.groups.length X.gc, .slice X.a S.apart.length X.ac, .slice X.b S.between.length X.bc, .slice X.p S.phases.length X.pc, .slice X.e S.eyes.length X.ec, .int .i64 S.watch, .int .i64 S.feed, .int .i64 S.heal, .int .i64 S.low, .int .i64 S.high, .slice X.l S.plans.length X.lc] 29)) none := Kept.alloc _ _ _ _ _
  have hsb := sbox_alloc h 29
  have HS := Hid.mk' (h.kept hkA)
  have HT := Hid.mk' (hT.kept hkA)
  have HA := Hid.mk' (hA.kept hkA)
  have hE9 : S.eyes.length ≤ 9223372036854775807 := by have := h.ek.room; have := h.ek.max; omega
  have hn9 : n ≤ 9223372036854775807 := by have := hc.room; have := hc.max; omega
  have HSZ := Hid.mk' hA.size
  obtain ⟨WA, hWA⟩ : ∃ WA, (w.alloc (.cells #[.int .i64 S.id, .slice X.g S.groups.length X.gc, .slice X.a S.apart.length X.ac, .slice X.b S.between.length X.bc, .slice X.p S.phases.length X.pc, .slice X.e S.eyes.length X.ec, .int .i64 S.watch, .int .i64 S.feed, .int .i64 S.heal, .int .i64 S.low, .int .i64 S.high, .slice X.l S.plans.length X.lc] 29)) = WA := ⟨_, rfl⟩
  rw [hWA] at hkA hsb HS HT HA
  have hlA : w.heap.size < WA.heap.size := hsb.lt
  have HK := Hid.mk' hkA
  have HSB := Hid.mk' hsb
  have hK0 := Kept.refl WA none
  clear h hT hkA hsb hA
  have s0_ : ∀ w', Kept WA w' none → w'.cell? ⟨w.heap.size, 0, none⟩ = some (.int .i64 S.id) := fun w' q => (HSB.out.kept q).c0
  have s1_ : ∀ w', Kept WA w' none → w'.cell? ⟨w.heap.size, 1, none⟩ = some (.slice X.g S.groups.length X.gc) := fun w' q => (HSB.out.kept q).c1
  have s2_ : ∀ w', Kept WA w' none → w'.cell? ⟨w.heap.size, 2, none⟩ = some (.slice X.a S.apart.length X.ac) := fun w' q => (HSB.out.kept q).c2
  have s3_ : ∀ w', Kept WA w' none → w'.cell? ⟨w.heap.size, 3, none⟩ = some (.slice X.b S.between.length X.bc) := fun w' q => (HSB.out.kept q).c3
  have s4_ : ∀ w', Kept WA w' none → w'.cell? ⟨w.heap.size, 4, none⟩ = some (.slice X.p S.phases.length X.pc) := fun w' q => (HSB.out.kept q).c4
  have s5_ : ∀ w', Kept WA w' none → w'.cell? ⟨w.heap.size, 5, none⟩ = some (.slice X.e S.eyes.length X.ec) := fun w' q => (HSB.out.kept q).c5
  have s6_ : ∀ w', Kept WA w' none → w'.cell? ⟨w.heap.size, 6, none⟩ = some (.int .i64 S.watch) := fun w' q => (HSB.out.kept q).c6
  have s7_ : ∀ w', Kept WA w' none → w'.cell? ⟨w.heap.size, 7, none⟩ = some (.int .i64 S.feed) := fun w' q => (HSB.out.kept q).c7
  have s8_ : ∀ w', Kept WA w' none → w'.cell? ⟨w.heap.size, 8, none⟩ = some (.int .i64 S.heal) := fun w' q => (HSB.out.kept q).c8
  have s9_ : ∀ w', Kept WA w' none → w'.cell? ⟨w.heap.size, 9, none⟩ = some (.int .i64 S.low) := fun w' q => (HSB.out.kept q).c9
  have s10_ : ∀ w', Kept WA w' none → w'.cell? ⟨w.heap.size, 10, none⟩ = some (.int .i64 S.high) := fun w' q => (HSB.out.kept q).c10
  have s11_ : ∀ w', Kept WA w' none → w'.cell? ⟨w.heap.size, 11, none⟩ = some (.slice X.l S.plans.length X.lc) := fun w' q => (HSB.out.kept q).c11
  go_enter Tryd.func33, Tryd.ntmps33
  go_wp2_with (first | rw [hWA] | (go_at_call 30; have hx := rcheck_any HS.out; rw [hce] at hx; refine hx.mono ?_; rintro e wC ⟨rfl, hkC⟩; have hKC : Kept WA wC none := hkC; clear hx))
  go_ret
  exact ⟨rfl, HK.out.tr hKC⟩
set_option maxRecDepth 100000 in
set_option maxHeartbeats 2000000 in
theorem rask_go {X : Sa} {S : St} {w : World} (h : Sat w X S) (hT : Tabb w) {a : Option Addr} {n c : Nat} {L : List Lk} (hA : Lks w a n L) (hc : Cap a n c) (hs : siteB S = true) (hl : n = S.eyes.length) (V : Int) (hV : V = if maysB L = true then 0 else 8) : Calls Tryd.prog 33 #[siteV X S, .slice a n c] w fun e w' => e = .returned (.int .i64 V) ∧ Kept w w' none := by
  have HV := Hid.mk' hV
  clear hV
  have hce : checkE S = 0 := by unfold checkE; rw [hs]; rfl
  have hnb : ((n : Int) != (S.eyes.length : Int)) = false := by simp; omega
  clear hl
  have hkA : Kept w (w.alloc (.cells #[.int .i64 S.id, .slice X.g S.groups.length X.gc, .slice X.a S.apart.length X.ac, .slice X.b S.between.length X.bc, .slice X.p S.phases.length X.pc, .slice X.e S.eyes.length X.ec, .int .i64 S.watch, .int .i64 S.feed, .int .i64 S.heal, .int .i64 S.low, .int .i64 S.high, .slice X.l S.plans.length X.lc] 29)) none := Kept.alloc _ _ _ _ _
  have hsb := sbox_alloc h 29
  have HS := Hid.mk' (h.kept hkA)
  have HT := Hid.mk' (hT.kept hkA)
  have HA := Hid.mk' (hA.kept hkA)
  have hE9 : S.eyes.length ≤ 9223372036854775807 := by have := h.ek.room; have := h.ek.max; omega
  have hn9 : n ≤ 9223372036854775807 := by have := hc.room; have := hc.max; omega
  have HSZ := Hid.mk' hA.size
  obtain ⟨WA, hWA⟩ : ∃ WA, (w.alloc (.cells #[.int .i64 S.id, .slice X.g S.groups.length X.gc, .slice X.a S.apart.length X.ac, .slice X.b S.between.length X.bc, .slice X.p S.phases.length X.pc, .slice X.e S.eyes.length X.ec, .int .i64 S.watch, .int .i64 S.feed, .int .i64 S.heal, .int .i64 S.low, .int .i64 S.high, .slice X.l S.plans.length X.lc] 29)) = WA := ⟨_, rfl⟩
  rw [hWA] at hkA hsb HS HT HA
  have hlA : w.heap.size < WA.heap.size := hsb.lt
  have HK := Hid.mk' hkA
  have HSB := Hid.mk' hsb
  have hK0 := Kept.refl WA none
  clear h hT hkA hsb hA
  have s0_ : ∀ w', Kept WA w' none → w'.cell? ⟨w.heap.size, 0, none⟩ = some (.int .i64 S.id) := fun w' q => (HSB.out.kept q).c0
  have s1_ : ∀ w', Kept WA w' none → w'.cell? ⟨w.heap.size, 1, none⟩ = some (.slice X.g S.groups.length X.gc) := fun w' q => (HSB.out.kept q).c1
  have s2_ : ∀ w', Kept WA w' none → w'.cell? ⟨w.heap.size, 2, none⟩ = some (.slice X.a S.apart.length X.ac) := fun w' q => (HSB.out.kept q).c2
  have s3_ : ∀ w', Kept WA w' none → w'.cell? ⟨w.heap.size, 3, none⟩ = some (.slice X.b S.between.length X.bc) := fun w' q => (HSB.out.kept q).c3
  have s4_ : ∀ w', Kept WA w' none → w'.cell? ⟨w.heap.size, 4, none⟩ = some (.slice X.p S.phases.length X.pc) := fun w' q => (HSB.out.kept q).c4
  have s5_ : ∀ w', Kept WA w' none → w'.cell? ⟨w.heap.size, 5, none⟩ = some (.slice X.e S.eyes.length X.ec) := fun w' q => (HSB.out.kept q).c5
  have s6_ : ∀ w', Kept WA w' none → w'.cell? ⟨w.heap.size, 6, none⟩ = some (.int .i64 S.watch) := fun w' q => (HSB.out.kept q).c6
  have s7_ : ∀ w', Kept WA w' none → w'.cell? ⟨w.heap.size, 7, none⟩ = some (.int .i64 S.feed) := fun w' q => (HSB.out.kept q).c7
  have s8_ : ∀ w', Kept WA w' none → w'.cell? ⟨w.heap.size, 8, none⟩ = some (.int .i64 S.heal) := fun w' q => (HSB.out.kept q).c8
  have s9_ : ∀ w', Kept WA w' none → w'.cell? ⟨w.heap.size, 9, none⟩ = some (.int .i64 S.low) := fun w' q => (HSB.out.kept q).c9
  have s10_ : ∀ w', Kept WA w' none → w'.cell? ⟨w.heap.size, 10, none⟩ = some (.int .i64 S.high) := fun w' q => (HSB.out.kept q).c10
  have s11_ : ∀ w', Kept WA w' none → w'.cell? ⟨w.heap.size, 11, none⟩ = some (.slice X.l S.plans.length X.lc) := fun w' q => (HSB.out.kept q).c11
  go_enter Tryd.func33, Tryd.ntmps33
  go_wp2_with (first | rw [hWA] | (go_at_call 30; have hx := rcheck_any HS.out; rw [hce] at hx; refine hx.mono ?_; rintro e wC ⟨rfl, hkC⟩; have hKC : Kept WA wC none := hkC; clear hx))
  go_loopw [6] (fun iv wr => ∃ k : Nat, k ≤ n ∧ iv = .int .i64 k ∧ Kept WA wr none ∧ ∀ j, j < k → mayK (lk L j) = true) (fun iv _ => n - (intOf iv).toNat)
  case atStart => exact ⟨0, by omega, rfl, hKC, fun j hj => by omega⟩
  case round =>
    obtain ⟨k, hk, rfl, hkr, hno⟩ := hrel
    have HNO := Hid.mk' hno
    clear hno
    by_cases hlt : k < n
    · obtain ⟨b, off, ea, hb, c0, c1, c2, c3, c4⟩ := (HA.out.kept hkr).at_ hlt
      subst ea
      cases hm : mayK (lk L k)
      · have HF : Hid (maysB L = false) := by show maysB L = false; exact allB_no (by rw [HSZ.out]; exact hlt) hm
        have HM := Hid.mk' hm
        clear hm
        generalize lk L k = x at *
        go_wp2_with (go_at_call 31; refine (rmay_any x _).mono ?_; rw [HM.out]; rintro e wM ⟨rfl, hkM⟩)
        go_ret
        exact ⟨by rw [HV.out, HF.out]; rfl, HK.out.tr (hkr.tr hkM)⟩
      · have HN2 : Hid (∀ j, j < k + 1 → mayK (lk L j) = true) := fun j hj => by
          by_cases ej : j = k
          · rw [ej]; exact hm
          · exact HNO.out j (by omega)
        have HM := Hid.mk' hm
        clear hm
        generalize lk L k = x at *
        go_wp2_with (go_at_call 31; refine (rmay_any x _).mono ?_; rw [HM.out]; rintro e wM ⟨rfl, hkM⟩)
        go_roundw
        case rel => exact ⟨k + 1, by omega, by go_num, hkr.tr hkM, HN2.out⟩
        case measure => simp [intOf]; omega
    · have HF : Hid (maysB L = true) := by show maysB L = true; exact allB_iff.2 (fun j hj => HNO.out j (by have := HSZ.out; omega))
      go_wp2
      go_ret
      exact ⟨by rw [HV.out, HF.out]; rfl, HK.out.tr hkr⟩
theorem rask_any {X : Sa} {S : St} {w : World} (h : Sat w X S) (hT : Tabb w) {a : Option Addr} {n c : Nat} {L : List Lk} (hA : Lks w a n L) (hc : Cap a n c) : Calls Tryd.prog 33 #[siteV X S, .slice a n c] w fun e w' => e = .returned (.int .i64 (allE S L)) ∧ Kept w w' none := by
  cases hs : siteB S
  · rw [allE_site hs]; exact rask_site h hT hA hc hs
  by_cases hl : n = S.eyes.length
  · have e : allE S L = if maysB L = true then 0 else 8 := by unfold allE; rw [hs, if_pos rfl, if_pos (by rw [hA.size]; exact hl)]
    rw [e]
    exact rask_go h hT hA hc hs hl _ rfl
  · rw [allE_many hs (by rw [hA.size]; exact hl)]
    exact rask_many h hT hA hc hs hl
set_option maxRecDepth 100000 in
set_option maxHeartbeats 2000000 in
theorem rsame_yes13 {a b : Option Addr} {n c d : Nat} {L : List Lk} {w : World} (hA : Lks w a n L) (hB : Lks w b n L) (hn : n ≤ 9223372036854775807) : Calls Tryd.prog 20 #[.slice a n c, .slice b n d] w fun e w' => e = .returned (.bool true) ∧ Kept w w' none := by
  have HA := Hid.mk' hA
  have HB := Hid.mk' hB
  have hK0 := Kept.refl w none
  clear hA hB
  go_enter Tryd.func20, Tryd.ntmps20
  go_wp2
  go_loopw [5] (fun iv wr => ∃ k : Nat, k ≤ n ∧ iv = .int .i64 k ∧ Kept w wr none) (fun iv _ => n - (intOf iv).toNat)
  case atStart => exact ⟨0, by omega, rfl, hK0⟩
  case round =>
    obtain ⟨k, hk, rfl, hkr⟩ := hrel
    have HKR := Hid.mk' hkr
    by_cases hlt : k < n
    · obtain ⟨b1, o1, e1, hb1, c0, c1, c2, c3, c4⟩ := (HA.out.kept hkr).at_ hlt
      obtain ⟨b2, o2, e2, hb2, d0, d1, d2, d3, d4⟩ := (HB.out.kept hkr).at_ hlt
      subst e1 e2
      generalize lk L k = x at *
      go_wp2
      go_quiet (fail)
      go_wp2
      go_roundw
      case rel => exact ⟨k + 1, by omega, by go_num, HKR.out.tr (Kept.drewN _ _ _)⟩
      case measure => simp [intOf]; omega
    · go_wp2
      go_ret
      exact ⟨rfl, HKR.out⟩

end Go.Proofs.YtommijjacknkpaaDoor

