/-
  THE WALK of EyeIll (made by a program).
-/
import Derived.Test.YtommijjacknkpaaDoorEyeJ
import Derived.Test.YtommijjacknkpaaDoorRefG
namespace Go.Proofs.YtommijjacknkpaaDoor
open Go.RowKit Go.Lib Go.Deep
set_option linter.unusedVariables false
set_option linter.unusedSimpArgs false

set_option maxRecDepth 100000 in
set_option maxHeartbeats 2000000 in
theorem eill_long {X : Sa} {S : St} {w : World} (h : Sat w X S) (hT : Tabb w) {a : Option Addr} {n c : Nat} {L : List Bool} (hA : Bs w a n L) (hc : Cap a n c) (i : Int) (hl : 160 < n) : Calls Tryd.prog 5 #[siteV X S, .int .i64 i, .slice a n c] w fun e w' => e = .returned (.bool true) ∧ Below w.heap.size w w' := by
  have hlb : decide ((160 : Int) < (n : Int)) = true := by simp; omega
  have hkA : Kept w (w.alloc (.cells #[.int .i64 S.id, .slice X.g S.groups.length X.gc, .slice X.a S.apart.length X.ac, .slice X.b S.between.length X.bc, .slice X.p S.phases.length X.pc, .slice X.e S.eyes.length X.ec, .int .i64 S.watch, .int .i64 S.feed, .int .i64 S.heal, .int .i64 S.low, .int .i64 S.high, .slice X.l S.plans.length X.lc] 29)) none := Kept.alloc _ _ _ _ _
  have hsb := sbox_alloc h 29
  have HS := Hid.mk' (h.kept hkA)
  have HT := Hid.mk' (hT.kept hkA)
  have HSw := Hid.mk' h
  have HTw := Hid.mk' hT
  have HAw := Hid.mk' hA
  have hE9 : S.eyes.length ≤ 9223372036854775807 := by have := h.ek.room; have := h.ek.max; omega
  have hn9 : n ≤ 9223372036854775807 := by have := hc.room; have := hc.max; omega
  obtain ⟨WA, hWA⟩ : ∃ WA, (w.alloc (.cells #[.int .i64 S.id, .slice X.g S.groups.length X.gc, .slice X.a S.apart.length X.ac, .slice X.b S.between.length X.bc, .slice X.p S.phases.length X.pc, .slice X.e S.eyes.length X.ec, .int .i64 S.watch, .int .i64 S.feed, .int .i64 S.heal, .int .i64 S.low, .int .i64 S.high, .slice X.l S.plans.length X.lc] 29)) = WA := ⟨_, rfl⟩
  rw [hWA] at hkA hsb HS HT
  have hlA0 : w.heap.size < WA.heap.size := hsb.lt
  have HK := Hid.mk' hkA
  have HSB := Hid.mk' hsb
  have hK0 := Kept.refl WA none
  clear h hT hkA hsb hA
  have s0_ : ∀ w', Kept WA w' none → w'.cell? ⟨w.heap.size, 0, none⟩ = some (.int .i64 S.id) := fun w' q => (HSB.out.kept q).c0
  have s1_ : ∀ w', Kept WA w' none → w'.cell? ⟨w.heap.size, 1, none⟩ = some (.slice X.g S.groups.length X.gc) := fun w' q => (HSB.out.kept q).c1
  have s2_ : ∀ w', Kept WA w' none → w'.cell? ⟨w.heap.size, 2, none⟩ = some (.slice X.a S.apart.length X.ac) := fun w' q => (HSB.out.kept q).c2
  have s3_ : ∀ w', Kept WA w' none → w'.cell? ⟨w.heap.size, 3, none⟩ = some (.slice X.b S.between.length X.bc) := fun w' q => (HSB.out.kept q).c3
  have s4_ : ∀ w', Kept WA w' none → w'.cell? ⟨w.heap.size, 4, none⟩ = some (.slice X.p S.phases.length X.pc) := fun w' q => (HSB.out.kept q).c4
  have s5_ : ∀ w', Kept WA w' none → w'.cell? ⟨w.heap.size, 5, none⟩ = some (.slice X.e S.eyes.length X.ec) := fun w' q => (HSB.out.kept q).c5
  have s6_ : ∀ w', Kept WA w' none → w'.cell? ⟨w.heap.size, 6, none⟩ = some (.int .i64 S.watch) := fun w' q => (HSB.out.kept q).c6
  have s7_ : ∀ w', Kept WA w' none → w'.cell? ⟨w.heap.size, 7, none⟩ = some (.int .i64 S.feed) := fun w' q => (HSB.out.kept q).c7
  have s8_ : ∀ w', Kept WA w' none → w'.cell? ⟨w.heap.size, 8, none⟩ = some (.int .i64 S.heal) := fun w' q => (HSB.out.kept q).c8
  have s9_ : ∀ w', Kept WA w' none → w'.cell? ⟨w.heap.size, 9, none⟩ = some (.int .i64 S.low) := fun w' q => (HSB.out.kept q).c9
  have s10_ : ∀ w', Kept WA w' none → w'.cell? ⟨w.heap.size, 10, none⟩ = some (.int .i64 S.high) := fun w' q => (HSB.out.kept q).c10
  have s11_ : ∀ w', Kept WA w' none → w'.cell? ⟨w.heap.size, 11, none⟩ = some (.slice X.l S.plans.length X.lc) := fun w' q => (HSB.out.kept q).c11
  go_enter Tryd.func5, Tryd.ntmps5
  go_wp2_with (first | rw [hWA] | (go_at_call 13; refine (alive_any HT.out).mono ?_; rintro e wa ⟨rfl, hka⟩; have hKa : Kept WA wa none := hka))
  go_at_call 16
  refine (rgreat_any (HS.out.kept hKa)).mono ?_
  rintro e wg ⟨gr, rfl, hgr, hkg⟩
  have hKg : Kept WA wg none := hKa.tr hkg
  clear hgr
  cases gr with
  | true =>
    go_wp2
    go_ret
    exact ⟨rfl, (HK.out.tr hKg).below⟩
  | false =>
    go_wp2
    go_ret
    exact ⟨rfl, (HK.out.tr hKg).below⟩
set_option maxRecDepth 100000 in
set_option maxHeartbeats 2000000 in
theorem eill_site {X : Sa} {S : St} {w : World} (h : Sat w X S) (hT : Tabb w) {a : Option Addr} {n c : Nat} {L : List Bool} (hA : Bs w a n L) (hc : Cap a n c) (i : Int) (hl : n ≤ 160) (hs : siteB S = false) : Calls Tryd.prog 5 #[siteV X S, .int .i64 i, .slice a n c] w fun e w' => e = .returned (.bool true) ∧ Below w.heap.size w w' := by
  have hlb : decide ((160 : Int) < (n : Int)) = false := by simp; omega
  have hce : checkE S = 50 := by unfold checkE; rw [hs]; rfl
  have hkA : Kept w (w.alloc (.cells #[.int .i64 S.id, .slice X.g S.groups.length X.gc, .slice X.a S.apart.length X.ac, .slice X.b S.between.length X.bc, .slice X.p S.phases.length X.pc, .slice X.e S.eyes.length X.ec, .int .i64 S.watch, .int .i64 S.feed, .int .i64 S.heal, .int .i64 S.low, .int .i64 S.high, .slice X.l S.plans.length X.lc] 29)) none := Kept.alloc _ _ _ _ _
  have hsb := sbox_alloc h 29
  have HS := Hid.mk' (h.kept hkA)
  have HT := Hid.mk' (hT.kept hkA)
  have HSw := Hid.mk' h
  have HTw := Hid.mk' hT
  have HAw := Hid.mk' hA
  have hE9 : S.eyes.length ≤ 9223372036854775807 := by have := h.ek.room; have := h.ek.max; omega
  have hn9 : n ≤ 9223372036854775807 := by have := hc.room; have := hc.max; omega
  obtain ⟨WA, hWA⟩ : ∃ WA, (w.alloc (.cells #[.int .i64 S.id, .slice X.g S.groups.length X.gc, .slice X.a S.apart.length X.ac, .slice X.b S.between.length X.bc, .slice X.p S.phases.length X.pc, .slice X.e S.eyes.length X.ec, .int .i64 S.watch, .int .i64 S.feed, .int .i64 S.heal, .int .i64 S.low, .int .i64 S.high, .slice X.l S.plans.length X.lc] 29)) = WA := ⟨_, rfl⟩
  rw [hWA] at hkA hsb HS HT
  have hlA0 : w.heap.size < WA.heap.size := hsb.lt
  have HK := Hid.mk' hkA
  have HSB := Hid.mk' hsb
  have hK0 := Kept.refl WA none
  clear h hT hkA hsb hA
  have s0_ : ∀ w', Kept WA w' none → w'.cell? ⟨w.heap.size, 0, none⟩ = some (.int .i64 S.id) := fun w' q => (HSB.out.kept q).c0
  have s1_ : ∀ w', Kept WA w' none → w'.cell? ⟨w.heap.size, 1, none⟩ = some (.slice X.g S.groups.length X.gc) := fun w' q => (HSB.out.kept q).c1
  have s2_ : ∀ w', Kept WA w' none → w'.cell? ⟨w.heap.size, 2, none⟩ = some (.slice X.a S.apart.length X.ac) := fun w' q => (HSB.out.kept q).c2
  have s3_ : ∀ w', Kept WA w' none → w'.cell? ⟨w.heap.size, 3, none⟩ = some (.slice X.b S.between.length X.bc) := fun w' q => (HSB.out.kept q).c3
  have s4_ : ∀ w', Kept WA w' none → w'.cell? ⟨w.heap.size, 4, none⟩ = some (.slice X.p S.phases.length X.pc) := fun w' q => (HSB.out.kept q).c4
  have s5_ : ∀ w', Kept WA w' none → w'.cell? ⟨w.heap.size, 5, none⟩ = some (.slice X.e S.eyes.length X.ec) := fun w' q => (HSB.out.kept q).c5
  have s6_ : ∀ w', Kept WA w' none → w'.cell? ⟨w.heap.size, 6, none⟩ = some (.int .i64 S.watch) := fun w' q => (HSB.out.kept q).c6
  have s7_ : ∀ w', Kept WA w' none → w'.cell? ⟨w.heap.size, 7, none⟩ = some (.int .i64 S.feed) := fun w' q => (HSB.out.kept q).c7
  have s8_ : ∀ w', Kept WA w' none → w'.cell? ⟨w.heap.size, 8, none⟩ = some (.int .i64 S.heal) := fun w' q => (HSB.out.kept q).c8
  have s9_ : ∀ w', Kept WA w' none → w'.cell? ⟨w.heap.size, 9, none⟩ = some (.int .i64 S.low) := fun w' q => (HSB.out.kept q).c9
  have s10_ : ∀ w', Kept WA w' none → w'.cell? ⟨w.heap.size, 10, none⟩ = some (.int .i64 S.high) := fun w' q => (HSB.out.kept q).c10
  have s11_ : ∀ w', Kept WA w' none → w'.cell? ⟨w.heap.size, 11, none⟩ = some (.slice X.l S.plans.length X.lc) := fun w' q => (HSB.out.kept q).c11
  go_enter Tryd.func5, Tryd.ntmps5
  go_wp2_with (first | rw [hWA] | (go_at_call 13; refine (alive_any HT.out).mono ?_; rintro e wa ⟨rfl, hka⟩; have hKa : Kept WA wa none := hka))
  go_at_call 16
  refine (rgreat_any (HS.out.kept hKa)).mono ?_
  rintro e wg ⟨gr, rfl, hgr, hkg⟩
  have hKg : Kept WA wg none := hKa.tr hkg
  clear hgr
  cases gr with
  | true =>
    go_wp2
    go_ret
    exact ⟨rfl, (HK.out.tr hKg).below⟩
  | false =>
    go_wp2_with (first | (go_at_call 22; have hx := check_any (HS.out.kept hKg) (HT.out.kept hKg); rw [hce] at hx; refine hx.mono ?_; rintro e wC ⟨rfl, hkC⟩; have hKC : Kept WA wC none := hKg.tr hkC; clear hx))
    go_ret
    exact ⟨rfl, (HK.out.tr hKC).below⟩
set_option maxRecDepth 100000 in
set_option maxHeartbeats 2000000 in
theorem eill_neg {X : Sa} {S : St} {w : World} (h : Sat w X S) (hT : Tabb w) {a : Option Addr} {n c : Nat} {L : List Bool} (hA : Bs w a n L) (hc : Cap a n c) (i : Int) (hl : n ≤ 160) (hs : siteB S = true) (hi : i < 0) : Calls Tryd.prog 5 #[siteV X S, .int .i64 i, .slice a n c] w fun e w' => e = .returned (.bool true) ∧ Below w.heap.size w w' := by
  have hlb : decide ((160 : Int) < (n : Int)) = false := by simp; omega
  have hce : checkE S = 0 := by unfold checkE; rw [hs]; rfl
  have hkA : Kept w (w.alloc (.cells #[.int .i64 S.id, .slice X.g S.groups.length X.gc, .slice X.a S.apart.length X.ac, .slice X.b S.between.length X.bc, .slice X.p S.phases.length X.pc, .slice X.e S.eyes.length X.ec, .int .i64 S.watch, .int .i64 S.feed, .int .i64 S.heal, .int .i64 S.low, .int .i64 S.high, .slice X.l S.plans.length X.lc] 29)) none := Kept.alloc _ _ _ _ _
  have hsb := sbox_alloc h 29
  have HS := Hid.mk' (h.kept hkA)
  have HT := Hid.mk' (hT.kept hkA)
  have HSw := Hid.mk' h
  have HTw := Hid.mk' hT
  have HAw := Hid.mk' hA
  have hE9 : S.eyes.length ≤ 9223372036854775807 := by have := h.ek.room; have := h.ek.max; omega
  have hn9 : n ≤ 9223372036854775807 := by have := hc.room; have := hc.max; omega
  obtain ⟨WA, hWA⟩ : ∃ WA, (w.alloc (.cells #[.int .i64 S.id, .slice X.g S.groups.length X.gc, .slice X.a S.apart.length X.ac, .slice X.b S.between.length X.bc, .slice X.p S.phases.length X.pc, .slice X.e S.eyes.length X.ec, .int .i64 S.watch, .int .i64 S.feed, .int .i64 S.heal, .int .i64 S.low, .int .i64 S.high, .slice X.l S.plans.length X.lc] 29)) = WA := ⟨_, rfl⟩
  rw [hWA] at hkA hsb HS HT
  have hlA0 : w.heap.size < WA.heap.size := hsb.lt
  have HK := Hid.mk' hkA
  have HSB := Hid.mk' hsb
  have hK0 := Kept.refl WA none
  clear h hT hkA hsb hA
  have s0_ : ∀ w', Kept WA w' none → w'.cell? ⟨w.heap.size, 0, none⟩ = some (.int .i64 S.id) := fun w' q => (HSB.out.kept q).c0
  have s1_ : ∀ w', Kept WA w' none → w'.cell? ⟨w.heap.size, 1, none⟩ = some (.slice X.g S.groups.length X.gc) := fun w' q => (HSB.out.kept q).c1
  have s2_ : ∀ w', Kept WA w' none → w'.cell? ⟨w.heap.size, 2, none⟩ = some (.slice X.a S.apart.length X.ac) := fun w' q => (HSB.out.kept q).c2
  have s3_ : ∀ w', Kept WA w' none → w'.cell? ⟨w.heap.size, 3, none⟩ = some (.slice X.b S.between.length X.bc) := fun w' q => (HSB.out.kept q).c3
  have s4_ : ∀ w', Kept WA w' none → w'.cell? ⟨w.heap.size, 4, none⟩ = some (.slice X.p S.phases.length X.pc) := fun w' q => (HSB.out.kept q).c4
  have s5_ : ∀ w', Kept WA w' none → w'.cell? ⟨w.heap.size, 5, none⟩ = some (.slice X.e S.eyes.length X.ec) := fun w' q => (HSB.out.kept q).c5
  have s6_ : ∀ w', Kept WA w' none → w'.cell? ⟨w.heap.size, 6, none⟩ = some (.int .i64 S.watch) := fun w' q => (HSB.out.kept q).c6
  have s7_ : ∀ w', Kept WA w' none → w'.cell? ⟨w.heap.size, 7, none⟩ = some (.int .i64 S.feed) := fun w' q => (HSB.out.kept q).c7
  have s8_ : ∀ w', Kept WA w' none → w'.cell? ⟨w.heap.size, 8, none⟩ = some (.int .i64 S.heal) := fun w' q => (HSB.out.kept q).c8
  have s9_ : ∀ w', Kept WA w' none → w'.cell? ⟨w.heap.size, 9, none⟩ = some (.int .i64 S.low) := fun w' q => (HSB.out.kept q).c9
  have s10_ : ∀ w', Kept WA w' none → w'.cell? ⟨w.heap.size, 10, none⟩ = some (.int .i64 S.high) := fun w' q => (HSB.out.kept q).c10
  have s11_ : ∀ w', Kept WA w' none → w'.cell? ⟨w.heap.size, 11, none⟩ = some (.slice X.l S.plans.length X.lc) := fun w' q => (HSB.out.kept q).c11
  go_enter Tryd.func5, Tryd.ntmps5
  go_wp2_with (first | rw [hWA] | (go_at_call 13; refine (alive_any HT.out).mono ?_; rintro e wa ⟨rfl, hka⟩; have hKa : Kept WA wa none := hka))
  go_at_call 16
  refine (rgreat_any (HS.out.kept hKa)).mono ?_
  rintro e wg ⟨gr, rfl, hgr, hkg⟩
  have hKg : Kept WA wg none := hKa.tr hkg
  clear hgr
  cases gr with
  | true =>
    go_wp2
    go_ret
    exact ⟨rfl, (HK.out.tr hKg).below⟩
  | false =>
    go_wp2_with (first | (go_at_call 22; have hx := check_any (HS.out.kept hKg) (HT.out.kept hKg); rw [hce] at hx; refine hx.mono ?_; rintro e wC ⟨rfl, hkC⟩; have hKC : Kept WA wC none := hKg.tr hkC; clear hx))
    go_ret
    exact ⟨rfl, (HK.out.tr hKC).below⟩
set_option maxRecDepth 100000 in
set_option maxHeartbeats 2000000 in
theorem eill_far {X : Sa} {S : St} {w : World} (h : Sat w X S) (hT : Tabb w) {a : Option Addr} {n c : Nat} {L : List Bool} (hA : Bs w a n L) (hc : Cap a n c) (i : Int) (hl : n ≤ 160) (hs : siteB S = true) (hi : 0 ≤ i) (hi2 : (S.eyes.length : Int) ≤ i) : Calls Tryd.prog 5 #[siteV X S, .int .i64 i, .slice a n c] w fun e w' => e = .returned (.bool true) ∧ Below w.heap.size w w' := by
  have hlb : decide ((160 : Int) < (n : Int)) = false := by simp; omega
  have hce : checkE S = 0 := by unfold checkE; rw [hs]; rfl
  have hkA : Kept w (w.alloc (.cells #[.int .i64 S.id, .slice X.g S.groups.length X.gc, .slice X.a S.apart.length X.ac, .slice X.b S.between.length X.bc, .slice X.p S.phases.length X.pc, .slice X.e S.eyes.length X.ec, .int .i64 S.watch, .int .i64 S.feed, .int .i64 S.heal, .int .i64 S.low, .int .i64 S.high, .slice X.l S.plans.length X.lc] 29)) none := Kept.alloc _ _ _ _ _
  have hsb := sbox_alloc h 29
  have HS := Hid.mk' (h.kept hkA)
  have HT := Hid.mk' (hT.kept hkA)
  have HSw := Hid.mk' h
  have HTw := Hid.mk' hT
  have HAw := Hid.mk' hA
  have hE9 : S.eyes.length ≤ 9223372036854775807 := by have := h.ek.room; have := h.ek.max; omega
  have hn9 : n ≤ 9223372036854775807 := by have := hc.room; have := hc.max; omega
  obtain ⟨WA, hWA⟩ : ∃ WA, (w.alloc (.cells #[.int .i64 S.id, .slice X.g S.groups.length X.gc, .slice X.a S.apart.length X.ac, .slice X.b S.between.length X.bc, .slice X.p S.phases.length X.pc, .slice X.e S.eyes.length X.ec, .int .i64 S.watch, .int .i64 S.feed, .int .i64 S.heal, .int .i64 S.low, .int .i64 S.high, .slice X.l S.plans.length X.lc] 29)) = WA := ⟨_, rfl⟩
  rw [hWA] at hkA hsb HS HT
  have hlA0 : w.heap.size < WA.heap.size := hsb.lt
  have HK := Hid.mk' hkA
  have HSB := Hid.mk' hsb
  have hK0 := Kept.refl WA none
  clear h hT hkA hsb hA
  have s0_ : ∀ w', Kept WA w' none → w'.cell? ⟨w.heap.size, 0, none⟩ = some (.int .i64 S.id) := fun w' q => (HSB.out.kept q).c0
  have s1_ : ∀ w', Kept WA w' none → w'.cell? ⟨w.heap.size, 1, none⟩ = some (.slice X.g S.groups.length X.gc) := fun w' q => (HSB.out.kept q).c1
  have s2_ : ∀ w', Kept WA w' none → w'.cell? ⟨w.heap.size, 2, none⟩ = some (.slice X.a S.apart.length X.ac) := fun w' q => (HSB.out.kept q).c2
  have s3_ : ∀ w', Kept WA w' none → w'.cell? ⟨w.heap.size, 3, none⟩ = some (.slice X.b S.between.length X.bc) := fun w' q => (HSB.out.kept q).c3
  have s4_ : ∀ w', Kept WA w' none → w'.cell? ⟨w.heap.size, 4, none⟩ = some (.slice X.p S.phases.length X.pc) := fun w' q => (HSB.out.kept q).c4
  have s5_ : ∀ w', Kept WA w' none → w'.cell? ⟨w.heap.size, 5, none⟩ = some (.slice X.e S.eyes.length X.ec) := fun w' q => (HSB.out.kept q).c5
  have s6_ : ∀ w', Kept WA w' none → w'.cell? ⟨w.heap.size, 6, none⟩ = some (.int .i64 S.watch) := fun w' q => (HSB.out.kept q).c6
  have s7_ : ∀ w', Kept WA w' none → w'.cell? ⟨w.heap.size, 7, none⟩ = some (.int .i64 S.feed) := fun w' q => (HSB.out.kept q).c7
  have s8_ : ∀ w', Kept WA w' none → w'.cell? ⟨w.heap.size, 8, none⟩ = some (.int .i64 S.heal) := fun w' q => (HSB.out.kept q).c8
  have s9_ : ∀ w', Kept WA w' none → w'.cell? ⟨w.heap.size, 9, none⟩ = some (.int .i64 S.low) := fun w' q => (HSB.out.kept q).c9
  have s10_ : ∀ w', Kept WA w' none → w'.cell? ⟨w.heap.size, 10, none⟩ = some (.int .i64 S.high) := fun w' q => (HSB.out.kept q).c10
  have s11_ : ∀ w', Kept WA w' none → w'.cell? ⟨w.heap.size, 11, none⟩ = some (.slice X.l S.plans.length X.lc) := fun w' q => (HSB.out.kept q).c11
  go_enter Tryd.func5, Tryd.ntmps5
  go_wp2_with (first | rw [hWA] | (go_at_call 13; refine (alive_any HT.out).mono ?_; rintro e wa ⟨rfl, hka⟩; have hKa : Kept WA wa none := hka))
  go_at_call 16
  refine (rgreat_any (HS.out.kept hKa)).mono ?_
  rintro e wg ⟨gr, rfl, hgr, hkg⟩
  have hKg : Kept WA wg none := hKa.tr hkg
  clear hgr
  cases gr with
  | true =>
    go_wp2
    go_ret
    exact ⟨rfl, (HK.out.tr hKg).below⟩
  | false =>
    go_wp2_with (first | (go_at_call 22; have hx := check_any (HS.out.kept hKg) (HT.out.kept hKg); rw [hce] at hx; refine hx.mono ?_; rintro e wC ⟨rfl, hkC⟩; have hKC : Kept WA wC none := hKg.tr hkC; clear hx))
    go_ret
    exact ⟨rfl, (HK.out.tr hKC).below⟩
set_option maxRecDepth 100000 in
set_option maxHeartbeats 8000000 in
theorem eill_go {X : Sa} {S : St} {w : World} (h : Sat w X S) (hT : Tabb w) {a : Option Addr} {n c : Nat} {L : List Bool} (hA : Bs w a n L) (hc : Cap a n c) (p : Nat) (hl : n ≤ 160) (hs : siteB S = true) (hp : p < S.eyes.length) : Calls Tryd.prog 5 #[siteV X S, .int .i64 (p : Int), .slice a n c] w fun e w' => e = .returned (.bool true) ∧ Below w.heap.size w w' := by
  have hlb : decide ((160 : Int) < (n : Int)) = false := by simp; omega
  have hce : checkE S = 0 := by unfold checkE; rw [hs]; rfl
  have hH0 := (eye_facts hs).h0
  have hH1 := (eye_facts hs).h1
  have HL := Hid.mk' hA.size
  have hp2 : (p : Int) < (S.eyes.length : Int) := by omega
  have hdc : decide ((S.eyes.length : Int) ≤ (p : Int)) = false := decide_eq_false (by omega)
  have hdc2 : decide (S.eyes.length ≤ p) = false := decide_eq_false (by omega)
  have hdc3 : ¬ S.eyes.length ≤ p := by omega
  have hkA : Kept w (w.alloc (.cells #[.int .i64 S.id, .slice X.g S.groups.length X.gc, .slice X.a S.apart.length X.ac, .slice X.b S.between.length X.bc, .slice X.p S.phases.length X.pc, .slice X.e S.eyes.length X.ec, .int .i64 S.watch, .int .i64 S.feed, .int .i64 S.heal, .int .i64 S.low, .int .i64 S.high, .slice X.l S.plans.length X.lc] 29)) none := Kept.alloc _ _ _ _ _
  have hsb := sbox_alloc h 29
  have HS := Hid.mk' (h.kept hkA)
  have HT := Hid.mk' (hT.kept hkA)
  have HSw := Hid.mk' h
  have HTw := Hid.mk' hT
  have HAw := Hid.mk' hA
  have hE9 : S.eyes.length ≤ 9223372036854775807 := by have := h.ek.room; have := h.ek.max; omega
  have hn9 : n ≤ 9223372036854775807 := by have := hc.room; have := hc.max; omega
  obtain ⟨WA, hWA⟩ : ∃ WA, (w.alloc (.cells #[.int .i64 S.id, .slice X.g S.groups.length X.gc, .slice X.a S.apart.length X.ac, .slice X.b S.between.length X.bc, .slice X.p S.phases.length X.pc, .slice X.e S.eyes.length X.ec, .int .i64 S.watch, .int .i64 S.feed, .int .i64 S.heal, .int .i64 S.low, .int .i64 S.high, .slice X.l S.plans.length X.lc] 29)) = WA := ⟨_, rfl⟩
  rw [hWA] at hkA hsb HS HT
  have hlA0 : w.heap.size < WA.heap.size := hsb.lt
  have HK := Hid.mk' hkA
  have HSB := Hid.mk' hsb
  have hK0 := Kept.refl WA none
  clear h hT hkA hsb hA
  have s0_ : ∀ w', Kept WA w' none → w'.cell? ⟨w.heap.size, 0, none⟩ = some (.int .i64 S.id) := fun w' q => (HSB.out.kept q).c0
  have s1_ : ∀ w', Kept WA w' none → w'.cell? ⟨w.heap.size, 1, none⟩ = some (.slice X.g S.groups.length X.gc) := fun w' q => (HSB.out.kept q).c1
  have s2_ : ∀ w', Kept WA w' none → w'.cell? ⟨w.heap.size, 2, none⟩ = some (.slice X.a S.apart.length X.ac) := fun w' q => (HSB.out.kept q).c2
  have s3_ : ∀ w', Kept WA w' none → w'.cell? ⟨w.heap.size, 3, none⟩ = some (.slice X.b S.between.length X.bc) := fun w' q => (HSB.out.kept q).c3
  have s4_ : ∀ w', Kept WA w' none → w'.cell? ⟨w.heap.size, 4, none⟩ = some (.slice X.p S.phases.length X.pc) := fun w' q => (HSB.out.kept q).c4
  have s5_ : ∀ w', Kept WA w' none → w'.cell? ⟨w.heap.size, 5, none⟩ = some (.slice X.e S.eyes.length X.ec) := fun w' q => (HSB.out.kept q).c5
  have s6_ : ∀ w', Kept WA w' none → w'.cell? ⟨w.heap.size, 6, none⟩ = some (.int .i64 S.watch) := fun w' q => (HSB.out.kept q).c6
  have s7_ : ∀ w', Kept WA w' none → w'.cell? ⟨w.heap.size, 7, none⟩ = some (.int .i64 S.feed) := fun w' q => (HSB.out.kept q).c7
  have s8_ : ∀ w', Kept WA w' none → w'.cell? ⟨w.heap.size, 8, none⟩ = some (.int .i64 S.heal) := fun w' q => (HSB.out.kept q).c8
  have s9_ : ∀ w', Kept WA w' none → w'.cell? ⟨w.heap.size, 9, none⟩ = some (.int .i64 S.low) := fun w' q => (HSB.out.kept q).c9
  have s10_ : ∀ w', Kept WA w' none → w'.cell? ⟨w.heap.size, 10, none⟩ = some (.int .i64 S.high) := fun w' q => (HSB.out.kept q).c10
  have s11_ : ∀ w', Kept WA w' none → w'.cell? ⟨w.heap.size, 11, none⟩ = some (.slice X.l S.plans.length X.lc) := fun w' q => (HSB.out.kept q).c11
  go_enter Tryd.func5, Tryd.ntmps5
  go_wp2_with (first | rw [hWA] | (go_at_call 13; refine (alive_any HT.out).mono ?_; rintro e wa ⟨rfl, hka⟩; have hKa : Kept WA wa none := hka))
  go_at_call 16
  refine (rgreat_any (HS.out.kept hKa)).mono ?_
  rintro e wg ⟨gr, rfl, hgr, hkg⟩
  have hKg : Kept WA wg none := hKa.tr hkg
  clear hgr
  cases gr with
  | true =>
    go_wp2
    go_ret
    exact ⟨rfl, (HK.out.tr hKg).below⟩
  | false =>
  go_wp2_with (first | (go_at_call 22; have hx := check_any (HS.out.kept hKg) (HT.out.kept hKg); rw [hce] at hx; refine hx.mono ?_; rintro e wC ⟨rfl, hkC⟩; have hKC : Kept WA wC none := hKg.tr hkC; clear hx))
  have hlC0 : w.heap.size < wC.heap.size := Nat.lt_of_lt_of_le hlA0 hKC.size
  have k0 : Kept wC (wC.alloc (.cells #[.bool false, .int .i64 0, .int .u64 0, .bool false, .int .i64 0] 33)) none := Kept.alloc _ _ _ _ _
  have hxb : Kbox (wC.alloc (.cells #[.bool false, .int .i64 0, .int .u64 0, .bool false, .int .i64 0] 33)) wC.heap.size Lk.zero := b5_alloc wC _ _ _ _ _ 33
  have HKC0 : Hid (Kept WA (wC.alloc (.cells #[.bool false, .int .i64 0, .int .u64 0, .bool false, .int .i64 0] 33)) none) := hKC.tr k0
  obtain ⟨W0, hW0⟩ : ∃ W0, wC.alloc (.cells #[.bool false, .int .i64 0, .int .u64 0, .bool false, .int .i64 0] 33) = W0 := ⟨_, rfl⟩
  rw [hW0] at hxb HKC0 k0 ⊢
  clear hW0
  have HXB := Hid.mk' hxb
  have HSB0 := Hid.mk' (HSB.out.kept HKC0.out)
  have hK00 := Kept.refl W0 none
  clear hxb k0 s0_ s1_ s2_ s3_ s4_ s5_ s6_ s7_ s8_ s9_ s10_ s11_
  go_loopw [9, 10, 11, 12, 13] (fun bv wv iv _ _ wr => ∃ (k : Nat) (wz : Int), iv = .int .i64 k ∧ bv = .bool (atK (S.ey p) S.heal L k).bad ∧ wv = .int .i64 wz ∧ 0 ≤ wz ∧ wz ≤ k ∧ k ≤ n ∧ ((atK (S.ey p) S.heal L k).bad = true → (atK (S.ey p) S.heal L k).well = wz) ∧ Kbox wr wC.heap.size (atK (S.ey p) S.heal L k) ∧ Kept W0 wr (some wC.heap.size)) (fun _ _ iv _ _ _ => n - (intOf iv).toNat)
  case atStart => exact ⟨0, 0, rfl, rfl, rfl, by omega, by omega, by omega, fun q => (nomatch q), HXB.out, kept_to hK00⟩
  case round =>
    obtain ⟨k, wv, rfl, rfl, rfl, hw0, hwk, hkn, hbw, hbx, hkr⟩ := hrel
    have HBX := Hid.mk' hbx
    have HKR := Hid.mk' hkr
    have hKw : Kept w wr none := (HK.out.tr HKC0.out).newRow HKR.out (fun q e => by injection e with e; omega)
    have HKW := Hid.mk' hKw
    have hrx := hbx.lt
    clear hbx hkr hKw
    by_cases hlt : k < n
    · have hiL : k < L.length := by have := HL.out; omega
      obtain ⟨Q, hQ⟩ : ∃ Q, Q = atK (S.ey p) S.heal L k := ⟨_, rfl⟩
      obtain ⟨Q', hQ'⟩ : ∃ Q', Q' = atK (S.ey p) S.heal L (k + 1) := ⟨_, rfl⟩
      have hst : Q' = stepK (S.ey p) S.heal Q (tr L k) := by rw [hQ', hQ]; exact atK_succ hiL
      have hil : illK (S.ey p) (tr L k) (samK Q (tr L k)) (turK Q (tr L k)) = ilB (S.ey p) L k := by rw [hQ]; exact ilB_is hH1 hiL (by omega)
      obtain ⟨m1, m2, m3⟩ := may_atK (e := S.ey p) hH1 (L := L) k (by omega)
      rw [← hQ] at m1 m2 m3 hbw
      have hNX : ∀ w', Kept w w' none → Calls Tryd.prog 10 #[siteV X S, .int .i64 (p : Int), lkV Q, .bool (tr L k)] w' fun e w'' => e = .returned (.tuple #[lkV Q', .int .i64 0]) ∧ Kept w' w'' none := fun w' q => by
        rw [hst]
        exact enext_go (HSw.out.kept q) (HTw.out.kept q) p Q (tr L k) (typ_may m2 m3 m1) hs hp m1
      have HNX := Hid.mk' hNX
      have HQ' := Hid.mk' hQ'
      have bq := HBX.out
      rw [← hQ] at bq ⊢
      obtain ⟨b3, o3, e3, hb3, kc⟩ := HAw.out.at_ hlt
      have HIL0 : Hid (∀ w', Kept w w' none → Calls Tryd.prog 23 #[eyU (S.ey p), .slice a n c, .int .i64 (k : Int)] w' fun e w'' => e = .returned (.bool (ilB (S.ey p) L k)) ∧ Kept w' w'' none) := fun w' q => lill_any (HAw.out.kept q) (by omega) hlt (S.ey p)
      -- what a tick later is
      have hcase : (ilB (S.ey p) L k = true ∧ Q' = ⟨tr L k, samK Q (tr L k), turK Q (tr L k), true, 0⟩) ∨ (ilB (S.ey p) L k = false ∧ Q.bad = true ∧ Q.well + 1 < S.heal ∧ Q' = ⟨tr L k, samK Q (tr L k), turK Q (tr L k), true, Q.well + 1⟩) ∨ (ilB (S.ey p) L k = false ∧ Q.bad = true ∧ ¬ Q.well + 1 < S.heal ∧ Q' = ⟨tr L k, samK Q (tr L k), turK Q (tr L k), false, 0⟩) ∨ (ilB (S.ey p) L k = false ∧ Q.bad = false ∧ Q' = ⟨tr L k, samK Q (tr L k), turK Q (tr L k), false, 0⟩) := by
        rw [hst]
        cases hI : ilB (S.ey p) L k
        · rw [hI] at hil
          cases hb : Q.bad
          · exact .inr (.inr (.inr ⟨rfl, rfl, step_well hil (.inl hb)⟩))
          · by_cases hw : Q.well + 1 < S.heal
            · exact .inr (.inl ⟨rfl, rfl, hw, step_heal hil hb hw⟩)
            · exact .inr (.inr (.inl ⟨rfl, rfl, hw, step_well hil (.inr hw)⟩))
        · rw [hI] at hil
          exact .inl ⟨rfl, step_ill hil⟩
      have HCS := Hid.mk' hcase
      have hxx : ∃ eb eo, X.e = some ⟨eb, eo, none⟩ ∧ eb < w.heap.size ∧ w.cell? ⟨eb, eo + p * 4, none⟩ = some (.int .i64 (S.ey p).phase) ∧ w.cell? ⟨eb, eo + p * 4 + 1, none⟩ = some (.int .i64 (S.ey p).on) ∧ w.cell? ⟨eb, eo + p * 4 + 2, none⟩ = some (.int .i64 (S.ey p).off) ∧ w.cell? ⟨eb, eo + p * 4 + 3, none⟩ = some (.int .i64 (S.ey p).turns) := HSw.out.eye hp
      obtain ⟨eb, eo, hea, heb, ey0, ey1, ey2, ey3⟩ := hxx
      have HEA := Hid.mk' hea
      clear hst hil m2 m3 hNX hQ hQ' hiL hcase hea
      subst e3
      generalize ilB (S.ey p) L k = IL at *
      generalize tr L k = y at *
      generalize samK Q y = sv at *
      generalize turK Q y = tv at *
      have HBQ := Hid.mk' bq
      have hlC := hKC.size
      have u0_ : ∀ w', Kept wr w' none → w'.cell? ⟨w.heap.size, 0, none⟩ = some (.int .i64 S.id) := fun w' q => cell_kr (HSB0.out.c0) (kept_rto HKR.out q) (by simp <;> omega)
      have u1_ : ∀ w', Kept wr w' none → w'.cell? ⟨w.heap.size, 1, none⟩ = some (.slice X.g S.groups.length X.gc) := fun w' q => cell_kr (HSB0.out.c1) (kept_rto HKR.out q) (by simp <;> omega)
      have u2_ : ∀ w', Kept wr w' none → w'.cell? ⟨w.heap.size, 2, none⟩ = some (.slice X.a S.apart.length X.ac) := fun w' q => cell_kr (HSB0.out.c2) (kept_rto HKR.out q) (by simp <;> omega)
      have u3_ : ∀ w', Kept wr w' none → w'.cell? ⟨w.heap.size, 3, none⟩ = some (.slice X.b S.between.length X.bc) := fun w' q => cell_kr (HSB0.out.c3) (kept_rto HKR.out q) (by simp <;> omega)
      have u4_ : ∀ w', Kept wr w' none → w'.cell? ⟨w.heap.size, 4, none⟩ = some (.slice X.p S.phases.length X.pc) := fun w' q => cell_kr (HSB0.out.c4) (kept_rto HKR.out q) (by simp <;> omega)
      have u5_ : ∀ w', Kept wr w' none → w'.cell? ⟨w.heap.size, 5, none⟩ = some (.slice X.e S.eyes.length X.ec) := fun w' q => cell_kr (HSB0.out.c5) (kept_rto HKR.out q) (by simp <;> omega)
      have u6_ : ∀ w', Kept wr w' none → w'.cell? ⟨w.heap.size, 6, none⟩ = some (.int .i64 S.watch) := fun w' q => cell_kr (HSB0.out.c6) (kept_rto HKR.out q) (by simp <;> omega)
      have u7_ : ∀ w', Kept wr w' none → w'.cell? ⟨w.heap.size, 7, none⟩ = some (.int .i64 S.feed) := fun w' q => cell_kr (HSB0.out.c7) (kept_rto HKR.out q) (by simp <;> omega)
      have u8_ : ∀ w', Kept wr w' none → w'.cell? ⟨w.heap.size, 8, none⟩ = some (.int .i64 S.heal) := fun w' q => cell_kr (HSB0.out.c8) (kept_rto HKR.out q) (by simp <;> omega)
      have u9_ : ∀ w', Kept wr w' none → w'.cell? ⟨w.heap.size, 9, none⟩ = some (.int .i64 S.low) := fun w' q => cell_kr (HSB0.out.c9) (kept_rto HKR.out q) (by simp <;> omega)
      have u10_ : ∀ w', Kept wr w' none → w'.cell? ⟨w.heap.size, 10, none⟩ = some (.int .i64 S.high) := fun w' q => cell_kr (HSB0.out.c10) (kept_rto HKR.out q) (by simp <;> omega)
      have u11_ : ∀ w', Kept wr w' none → w'.cell? ⟨w.heap.size, 11, none⟩ = some (.slice X.l S.plans.length X.lc) := fun w' q => cell_kr (HSB0.out.c11) (kept_rto HKR.out q) (by simp <;> omega)
      have x0_ : ∀ w', Kept wr w' none → w'.cell? ⟨wC.heap.size, 0, none⟩ = some (.bool Q.up) := fun w' q => (HBQ.out.kept q).c0
      have x1_ : ∀ w', Kept wr w' none → w'.cell? ⟨wC.heap.size, 1, none⟩ = some (.int .i64 Q.same) := fun w' q => (HBQ.out.kept q).c1
      have x2_ : ∀ w', Kept wr w' none → w'.cell? ⟨wC.heap.size, 2, none⟩ = some (.int .u64 Q.turns) := fun w' q => (HBQ.out.kept q).c2
      have x3_ : ∀ w', Kept wr w' none → w'.cell? ⟨wC.heap.size, 3, none⟩ = some (.bool Q.bad) := fun w' q => (HBQ.out.kept q).c3
      have x4_ : ∀ w', Kept wr w' none → w'.cell? ⟨wC.heap.size, 4, none⟩ = some (.int .i64 Q.well) := fun w' q => (HBQ.out.kept q).c4
      have c_ : ∀ w', Kept wr w' none → w'.cell? ⟨b3, o3 + k, none⟩ = some (.bool y) := fun w' q => cell_kept0 (cell_kept0 kc HKW.out) q
      have HC3 := Hid.mk' kc
      clear bq kc
      have hKr0 := Kept.refl wr none
      go_wp2
      refine Code.wp_mono (Q := Rr ?A16 (fun B w' => Kept wr w' none ∧ wr.heap.size ≤ B ∧ Kbox w' B Q')) ?cont16 ?reg16
      case reg16 =>
        (repeat (rename_i hh; clear hh))
        refine wp_region_held_drew (S := fun w' => Kept wr w' none) (by kernel_rfl) (Kept.drew _ _) (fun hHeld => ?_)
        refine held_take (i := 0) (v := ?v1) rfl rfl (by kernel_rfl) (by kernel_rfl) (by kernel_rfl) (fun _ _ _ h => h) (Or.inl ⟨by rfl, ?hy1⟩) hHeld ?rest1
        case hy1 => first | (intro w hSw; (try dsimp only at hSw); go_simp; done) | (intro w hSw; (try dsimp only at hSw); go_simp; with_reducible rfl)
        try simp only [List.setIfInBounds_toArray, List.set_cons_zero, List.set_cons_succ]
        refine held_take (i := 1) (v := ?v2) rfl rfl (by kernel_rfl) (by kernel_rfl) (by kernel_rfl) (fun _ _ _ h => h) (Or.inl ⟨by rfl, ?hy2⟩) hHeld ?rest2
        case hy2 => first | (intro w hSw; (try dsimp only at hSw); go_simp; done) | (intro w hSw; (try dsimp only at hSw); go_simp; with_reducible rfl)
        try simp only [List.setIfInBounds_toArray, List.set_cons_zero, List.set_cons_succ]
        refine held_take (i := 2) (v := ?v3) rfl rfl (by kernel_rfl) (by kernel_rfl) (by kernel_rfl) (fun _ _ _ h => h) (Or.inl ⟨by rfl, ?hy3⟩) hHeld ?rest3
        case hy3 => first | (intro w hSw; (try dsimp only at hSw); go_simp; done) | (intro w hSw; (try dsimp only at hSw); go_simp; with_reducible rfl)
        try simp only [List.setIfInBounds_toArray, List.set_cons_zero, List.set_cons_succ]
        refine held_take (i := 3) (v := ?v4) rfl rfl (by kernel_rfl) (by kernel_rfl) (by kernel_rfl) (fun _ _ _ h => h) (Or.inl ⟨by rfl, ?hy4⟩) hHeld ?rest4
        case hy4 => first | (intro w hSw; (try dsimp only at hSw); go_simp; done) | (intro w hSw; (try dsimp only at hSw); go_simp; with_reducible rfl)
        try simp only [List.setIfInBounds_toArray, List.set_cons_zero, List.set_cons_succ]
        refine held_take (i := 4) (v := ?v5) rfl rfl (by kernel_rfl) (by kernel_rfl) (by kernel_rfl) (fun _ _ _ h => h) (Or.inl ⟨by rfl, ?hy5⟩) hHeld ?rest5
        case hy5 => first | (intro w hSw; (try dsimp only at hSw); go_simp; done) | (intro w hSw; (try dsimp only at hSw); go_simp; with_reducible rfl)
        try simp only [List.setIfInBounds_toArray, List.set_cons_zero, List.set_cons_succ]
        refine held_take (i := 5) (v := ?v6) rfl rfl (by kernel_rfl) (by kernel_rfl) (by kernel_rfl) (fun _ _ _ h => h) (Or.inl ⟨by rfl, ?hy6⟩) hHeld ?rest6
        case hy6 => first | (intro w hSw; (try dsimp only at hSw); go_simp; done) | (intro w hSw; (try dsimp only at hSw); go_simp; with_reducible rfl)
        try simp only [List.setIfInBounds_toArray, List.set_cons_zero, List.set_cons_succ]
        refine held_take (i := 6) (v := ?v7) rfl rfl (by kernel_rfl) (by kernel_rfl) (by kernel_rfl) (fun _ _ _ h => h) (Or.inl ⟨by rfl, ?hy7⟩) hHeld ?rest7
        case hy7 => first | (intro w hSw; (try dsimp only at hSw); go_simp; done) | (intro w hSw; (try dsimp only at hSw); go_simp; with_reducible rfl)
        try simp only [List.setIfInBounds_toArray, List.set_cons_zero, List.set_cons_succ]
        refine wpAnyH_ready (rs := [7, 11]) (by kernel_rfl) (by simp) ?_
        refine AllReadyH.cons rfl (fun K hK => ?w1) (AllReadyH.cons rfl (fun K hK => ?w2) AllReadyH.nil)
        case w1 =>
          go_simp
          go_wp2_with (go_at_call 10; refine (HNX.out _ (HKW.out.tr (Kept.drew _ _))).mono ?_; rintro e w3 ⟨rfl, hk3⟩)
          have hK9 : Kept wr w3 none := (Kept.drew _ _).tr hk3
          refine hK.out _ _ hK9 (fun hHeld => ?_)
          clear hK K
          refine held_take (i := 8) (v := ?v8) rfl rfl (by kernel_rfl) (by kernel_rfl) (by kernel_rfl) (fun _ _ _ h => h) (Or.inl ⟨by rfl, ?hy8⟩) hHeld ?rest8
          case hy8 => first | (intro w hSw; (try dsimp only at hSw); go_simp; done) | (intro w hSw; (try dsimp only at hSw); go_simp; with_reducible rfl)
          try simp only [List.setIfInBounds_toArray, List.set_cons_zero, List.set_cons_succ]
          refine held_take (i := 9) (v := ?v9) rfl rfl (by kernel_rfl) (by kernel_rfl) (by kernel_rfl) (fun _ _ _ h => h) (Or.inl ⟨by rfl, ?hy9⟩) hHeld ?rest9
          case hy9 => first | (intro w hSw; (try dsimp only at hSw); go_simp; done) | (intro w hSw; (try dsimp only at hSw); go_simp; with_reducible rfl)
          try simp only [List.setIfInBounds_toArray, List.set_cons_zero, List.set_cons_succ]
          refine held_take (i := 10) (v := ?v10) rfl rfl (by kernel_rfl) (by kernel_rfl) (by kernel_rfl) (fun _ _ _ h => h) (Or.inl ⟨by rfl, ?hy10⟩) hHeld ?rest10
          case hy10 => first | (intro w hSw; (try dsimp only at hSw); go_simp; done) | (intro w hSw; (try dsimp only at hSw); go_simp; with_reducible rfl)
          try simp only [List.setIfInBounds_toArray, List.set_cons_zero, List.set_cons_succ]
          refine wpAnyH_ready (rs := [11]) (by kernel_rfl) (by simp) ?_
          refine AllReadyH.cons rfl (fun K hK => ?_) AllReadyH.nil
          go_simp
          refine hK.out _ _ (hK9.tr (Kept.alloc _ _ _ _ _)) (fun hHeld => ?_)
          clear hK K
          refine wpAnyH_ready (rs := [12]) (by kernel_rfl) (by simp) ?_
          refine AllReadyH.cons rfl (fun K hK => ?_) AllReadyH.nil
          go_simp
          refine hK.out _ _ (hK9.tr (Kept.alloc _ _ _ _ _)) (fun hHeld => ?_)
          clear hK K
          refine held_take (i := 13) (v := ?v11) rfl rfl (by kernel_rfl) (by kernel_rfl) (by kernel_rfl) (fun _ _ _ h => h) (Or.inl ⟨by rfl, ?hy11⟩) hHeld ?rest11
          case hy11 => first | (intro w hSw; (try dsimp only at hSw); go_simp; done) | (intro w hSw; (try dsimp only at hSw); go_simp; with_reducible rfl)
          try simp only [List.setIfInBounds_toArray, List.set_cons_zero, List.set_cons_succ]
          refine wpAnyH_done (by kernel_rfl) ?_ _
          refine ⟨w3.heap.size, ?_, hK9.tr (Kept.alloc _ _ _ _ _), hK9.size, b5_alloc _ _ _ _ _ _ _⟩
          generalize w3.heap.size = B
          with_reducible rfl
        case w2 =>
          go_simp
          refine hK.out _ _ (hHeld.tr (Kept.alloc _ _ _ _ _)) (fun hHeld => ?_)
          clear hK K
          refine wpAnyH_ready (rs := [7]) (by kernel_rfl) (by simp) ?_
          refine AllReadyH.cons rfl (fun K hK => ?_) AllReadyH.nil
          go_simp
          go_wp2_with (go_at_call 10; refine (HNX.out _ (HKW.out.tr ((Kept.drew _ _).tr (Kept.alloc _ _ _ _ _)))).mono ?_; rintro e w3 ⟨rfl, hk3⟩)
          have hK9 : Kept wr w3 none := ((Kept.drew _ _).tr (Kept.alloc _ _ _ _ _)).tr hk3
          have ZB : Kbox w3 wr.heap.size Lk.zero := (b5_alloc wr.drew (.bool false) (.int .i64 0) (.int .u64 0) (.bool false) (.int .i64 0) 33).kept hk3
          refine hK.out _ _ hK9 (fun hHeld => ?_)
          clear hK K
          have z0 := ZB.c0
          have z1 := ZB.c1
          have z2 := ZB.c2
          have z3 := ZB.c3
          have z4 := ZB.c4
          have y0 := ZB.f0
          have y1 := ZB.f1
          have y2 := ZB.f2
          have y3 := ZB.f3
          have y4 := ZB.f4
          refine held_take (i := 8) (v := ?v12) rfl rfl (by kernel_rfl) (by kernel_rfl) (by kernel_rfl) (fun _ _ _ h => h) (Or.inl ⟨by rfl, ?hy12⟩) hHeld ?rest12
          case hy12 => first | (intro w hSw; (try dsimp only at hSw); go_simp; done) | (intro w hSw; (try dsimp only at hSw); go_simp; with_reducible rfl)
          try simp only [List.setIfInBounds_toArray, List.set_cons_zero, List.set_cons_succ]
          refine held_take (i := 9) (v := ?v13) rfl rfl (by kernel_rfl) (by kernel_rfl) (by kernel_rfl) (fun _ _ _ h => h) (Or.inl ⟨by rfl, ?hy13⟩) hHeld ?rest13
          case hy13 => first | (intro w hSw; (try dsimp only at hSw); go_simp; done) | (intro w hSw; (try dsimp only at hSw); go_simp; with_reducible rfl)
          try simp only [List.setIfInBounds_toArray, List.set_cons_zero, List.set_cons_succ]
          refine held_take (i := 10) (v := ?v14) rfl rfl (by kernel_rfl) (by kernel_rfl) (by kernel_rfl) (fun _ _ _ h => h) (Or.inl ⟨by rfl, ?hy14⟩) hHeld ?rest14
          case hy14 => first | (intro w hSw; (try dsimp only at hSw); go_simp; done) | (intro w hSw; (try dsimp only at hSw); go_simp; with_reducible rfl)
          try simp only [List.setIfInBounds_toArray, List.set_cons_zero, List.set_cons_succ]
          refine wpAnyH_ready (rs := [12]) (by kernel_rfl) (by simp) ?_
          refine AllReadyH.cons rfl (fun K hK => ?_) AllReadyH.nil
          go_simp
          refine hK.out _ _ (kept_set5 hK9 (Nat.le_refl _) _ _ _ _ _) (fun hHeld => ?_)
          clear hK K
          refine held_take (i := 13) (v := ?v15) rfl rfl (by kernel_rfl) (by kernel_rfl) (by kernel_rfl) (fun _ _ _ h => h) (Or.inl ⟨by rfl, ?hy15⟩) hHeld ?rest15
          case hy15 => first | (intro w hSw; (try dsimp only at hSw); go_simp; done) | (intro w hSw; (try dsimp only at hSw); go_simp; with_reducible rfl)
          try simp only [List.setIfInBounds_toArray, List.set_cons_zero, List.set_cons_succ]
          refine wpAnyH_done (by kernel_rfl) ?_ _
          refine ⟨wr.heap.size, ?_, kept_set5 hK9 (Nat.le_refl _) _ _ _ _ _, Nat.le_refl _, ZB.set _ _ _ _ _⟩
          generalize wr.heap.size = B
          with_reducible rfl
      case cont16 =>
        intro e16 act16 w16 hq16
        obtain ⟨rfl, B, rfl, hk16, hB16, bx16⟩ := Rr.out hq16
        clear hq16 u0_ u1_ u2_ u3_ u4_ u5_ u6_ u7_ u8_ u9_ u10_ u11_ x0_ x1_ x2_ x3_ x4_ c_ HNX
        obtain ⟨r0', r1', r2', r3', r4'⟩ := Q'
        have bo := HBX.out.kept hk16
        have hK8 : Kept W0 (((((w16.setCell ⟨wC.heap.size, 0, none⟩ (.bool r0')).setCell ⟨wC.heap.size, 1, none⟩ (.int .i64 r1')).setCell ⟨wC.heap.size, 2, none⟩ (.int .u64 r2')).setCell ⟨wC.heap.size, 3, none⟩ (.bool r3')).setCell ⟨wC.heap.size, 4, none⟩ (.int .i64 r4')) (some wC.heap.size) := kept_own5 (kept_rto HKR.out hk16) _ _ _ _ _
        have hb8 : Kbox (((((w16.setCell ⟨wC.heap.size, 0, none⟩ (.bool r0')).setCell ⟨wC.heap.size, 1, none⟩ (.int .i64 r1')).setCell ⟨wC.heap.size, 2, none⟩ (.int .u64 r2')).setCell ⟨wC.heap.size, 3, none⟩ (.bool r3')).setCell ⟨wC.heap.size, 4, none⟩ (.int .i64 r4')) wC.heap.size ⟨r0', r1', r2', r3', r4'⟩ := bo.set _ _ _ _ _
        obtain ⟨W8, hW8⟩ : ∃ W8, ((((w16.setCell ⟨wC.heap.size, 0, none⟩ (.bool r0')).setCell ⟨wC.heap.size, 1, none⟩ (.int .i64 r1')).setCell ⟨wC.heap.size, 2, none⟩ (.int .u64 r2')).setCell ⟨wC.heap.size, 3, none⟩ (.bool r3')).setCell ⟨wC.heap.size, 4, none⟩ (.int .i64 r4') = W8 := ⟨_, rfl⟩
        rw [hW8] at hK8 hb8
        have HK8 := Hid.mk' hK8
        have HB8 := Hid.mk' hb8
        have hK8w : Kept w W8 none := (HK.out.tr HKC0.out).newRow hK8 (fun q e => by injection e with e; omega)
        have HK8w := Hid.mk' hK8w
        have HIL : Hid (∀ w', Kept W8 w' none → Calls Tryd.prog 23 #[eyU (S.ey p), .slice (some ⟨b3, o3, none⟩) n c, .int .i64 (k : Int)] w' fun e w'' => e = .returned (.bool IL) ∧ Kept w' w'' none) := fun w' q => HIL0.out w' (HK8w.out.tr q)
        have hK8r := Kept.refl W8 none
        have u5_ : ∀ w', Kept W8 w' none → w'.cell? ⟨w.heap.size, 5, none⟩ = some (.slice X.e S.eyes.length X.ec) := fun w' q => cell_kr (HSB0.out.c5) (kept_rto HK8.out q) (by simp <;> omega)
        have u8_ : ∀ w', Kept W8 w' none → w'.cell? ⟨w.heap.size, 8, none⟩ = some (.int .i64 S.heal) := fun w' q => cell_kr (HSB0.out.c8) (kept_rto HK8.out q) (by simp <;> omega)
        rw [HEA.out] at u5_
        have x0_ : ∀ w', Kept W8 w' none → w'.cell? ⟨wC.heap.size, 0, none⟩ = some (.bool r0') := fun w' q => (HB8.out.kept q).c0
        have x1_ : ∀ w', Kept W8 w' none → w'.cell? ⟨wC.heap.size, 1, none⟩ = some (.int .i64 r1') := fun w' q => (HB8.out.kept q).c1
        have x2_ : ∀ w', Kept W8 w' none → w'.cell? ⟨wC.heap.size, 2, none⟩ = some (.int .u64 r2') := fun w' q => (HB8.out.kept q).c2
        have x3_ : ∀ w', Kept W8 w' none → w'.cell? ⟨wC.heap.size, 3, none⟩ = some (.bool r3') := fun w' q => (HB8.out.kept q).c3
        have x4_ : ∀ w', Kept W8 w' none → w'.cell? ⟨wC.heap.size, 4, none⟩ = some (.int .i64 r4') := fun w' q => (HB8.out.kept q).c4
        have y0_ : ∀ w', Kept W8 w' none → w'.cell? ⟨eb, eo + p * 4, none⟩ = some (.int .i64 (S.ey p).phase) := fun w' q => cell_kept0 (cell_kept0 ey0 HK8w.out) q
        have y1_ : ∀ w', Kept W8 w' none → w'.cell? ⟨eb, eo + p * 4 + 1, none⟩ = some (.int .i64 (S.ey p).on) := fun w' q => cell_kept0 (cell_kept0 ey1 HK8w.out) q
        have y2_ : ∀ w', Kept W8 w' none → w'.cell? ⟨eb, eo + p * 4 + 2, none⟩ = some (.int .i64 (S.ey p).off) := fun w' q => cell_kept0 (cell_kept0 ey2 HK8w.out) q
        have y3_ : ∀ w', Kept W8 w' none → w'.cell? ⟨eb, eo + p * 4 + 3, none⟩ = some (.int .i64 (S.ey p).turns) := fun w' q => cell_kept0 (cell_kept0 ey3 HK8w.out) q
        have c_ : ∀ w', Kept W8 w' none → w'.cell? ⟨b3, o3 + k, none⟩ = some (.bool y) := fun w' q => cell_kept0 (cell_kept0 HC3.out HK8w.out) q
        have g0 := bx16.c0
        have g1 := bx16.c1
        have g2 := bx16.c2
        have g3 := bx16.c3
        have g4 := bx16.c4
        have v0 := bo.c0
        have v1 := bo.c1
        have v2 := bo.c2
        have v3 := bo.c3
        have v4 := bo.c4
        have f0 := bo.f0
        have f1 := bo.f1
        have f2 := bo.f2
        have f3 := bo.f3
        have f4 := bo.f4
        clear bo hK8 hb8 hK8w ey0 ey1 ey2 ey3 bx16
        have hcs := HCS.out
        clear HCS
        rcases hcs with ⟨rfl, e⟩ | ⟨rfl, hb, hw, e⟩ | ⟨rfl, hb, hw, e⟩ | ⟨rfl, hb, e⟩
        · injection e with q0 q1 q2 q3 q4
          subst q0 q1 q2 q3 q4
          go_wp2_with (first | (go_at_call 14; refine (wants_any ⟨r0', r1', r2', true, 0⟩ _).mono ?_; rintro e wW ⟨rfl, hkW⟩; have hKW9 : Kept W8 wW none := hKB.tr hkW) | (go_at_call 15; refine (believed_any ⟨r0', r1', r2', true, 0⟩ _).mono ?_; rintro e wB ⟨rfl, hkB⟩; have hKB : Kept W8 wB none := hK9.tr hkB) | (go_at_call 23; refine (HIL.out _ hK8r).mono ?_; rintro e w9 ⟨rfl, hk9⟩; have hK9 : Kept W8 w9 none := hk9))
          go_roundw
          case rel => exact ⟨k + 1, 0, by go_num, by rw [← HQ'.out], by go_num, by omega, by omega, by omega, by rw [← HQ'.out]; exact fun _ => rfl, by rw [← HQ'.out]; exact HB8.out.kept hKW9, kept_rto HK8.out hKW9⟩
          case measure => simp [intOf]; omega
        · injection e with q0 q1 q2 q3 q4
          have hwv := hbw hb
          subst hwv
          have hbt : Q.bad = true := hb
          subst q0 q1 q2 q3 q4
          rw [hb]
          clear hb hbw
          go_wp2_with (first | (go_at_call 14; refine (wants_any ⟨r0', r1', r2', true, Q.well + 1⟩ _).mono ?_; rintro e wW ⟨rfl, hkW⟩; have hKW9 : Kept W8 wW none := hKB.tr hkW) | (go_at_call 15; refine (believed_any ⟨r0', r1', r2', true, Q.well + 1⟩ _).mono ?_; rintro e wB ⟨rfl, hkB⟩; have hKB : Kept W8 wB none := hK9.tr hkB) | (go_at_call 23; refine (HIL.out _ hK8r).mono ?_; rintro e w9 ⟨rfl, hk9⟩; have hK9 : Kept W8 w9 none := hk9))
          go_roundw
          case rel => exact ⟨k + 1, Q.well + 1, by go_num, by rw [← HQ'.out], by go_num, by omega, by omega, by omega, by rw [← HQ'.out]; exact fun _ => rfl, by rw [← HQ'.out]; exact HB8.out.kept hKW9, kept_rto HK8.out hKW9⟩
          case measure => simp [intOf]; omega
        · injection e with q0 q1 q2 q3 q4
          have hwv := hbw hb
          subst hwv
          subst q0 q1 q2 q3 q4
          rw [hb]
          clear hb hbw
          go_wp2_with (first | (go_at_call 14; refine (wants_any ⟨r0', r1', r2', false, 0⟩ _).mono ?_; rintro e wW ⟨rfl, hkW⟩; have hKW9 : Kept W8 wW none := hKB.tr hkW) | (go_at_call 15; refine (believed_any ⟨r0', r1', r2', false, 0⟩ _).mono ?_; rintro e wB ⟨rfl, hkB⟩; have hKB : Kept W8 wB none := hK9.tr hkB) | (go_at_call 23; refine (HIL.out _ hK8r).mono ?_; rintro e w9 ⟨rfl, hk9⟩; have hK9 : Kept W8 w9 none := hk9))
          go_roundw
          case rel => exact ⟨k + 1, Q.well + 1, by go_num, by rw [← HQ'.out], by go_num, by omega, by omega, by omega, by rw [← HQ'.out]; exact fun q => absurd (show false = true from q) (by decide), by rw [← HQ'.out]; exact HB8.out.kept hKW9, kept_rto HK8.out hKW9⟩
          case measure => simp [intOf]; omega
        · injection e with q0 q1 q2 q3 q4
          subst q0 q1 q2 q3 q4
          rw [hb]
          clear hb hbw
          go_wp2_with (first | (go_at_call 14; refine (wants_any ⟨r0', r1', r2', false, 0⟩ _).mono ?_; rintro e wW ⟨rfl, hkW⟩; have hKW9 : Kept W8 wW none := hKB.tr hkW) | (go_at_call 15; refine (believed_any ⟨r0', r1', r2', false, 0⟩ _).mono ?_; rintro e wB ⟨rfl, hkB⟩; have hKB : Kept W8 wB none := hK9.tr hkB) | (go_at_call 23; refine (HIL.out _ hK8r).mono ?_; rintro e w9 ⟨rfl, hk9⟩; have hK9 : Kept W8 w9 none := hk9))
          go_roundw
          case rel => exact ⟨k + 1, wv + 1, by go_num, by rw [← HQ'.out], by go_num, by omega, by omega, by omega, by rw [← HQ'.out]; exact fun q => absurd (show false = true from q) (by decide), by rw [← HQ'.out]; exact HB8.out.kept hKW9, kept_rto HK8.out hKW9⟩
          case measure => simp [intOf]; omega
    · go_wp2
      go_ret
      exact ⟨rfl, HKW.out.below⟩
theorem eill_any {X : Sa} {S : St} {w : World} (h : Sat w X S) (hT : Tabb w) {a : Option Addr} {n c : Nat} {L : List Bool} (hA : Bs w a n L) (hc : Cap a n c) (i : Int) : Calls Tryd.prog 5 #[siteV X S, .int .i64 i, .slice a n c] w fun e w' => e = .returned (.bool true) ∧ Below w.heap.size w w' := by
  by_cases hl : 160 < n
  · exact eill_long h hT hA hc i hl
  cases hs : siteB S
  · exact eill_site h hT hA hc i (by omega) hs
  by_cases hi : i < 0
  · exact eill_neg h hT hA hc i (by omega) hs hi
  by_cases hi2 : (S.eyes.length : Int) ≤ i
  · exact eill_far h hT hA hc i (by omega) hs (by omega) hi2
  · obtain ⟨p, rfl⟩ : ∃ p : Nat, i = (p : Int) := ⟨i.toNat, by omega⟩
    exact eill_go h hT hA hc p (by omega) hs (by omega)

end Go.Proofs.YtommijjacknkpaaDoor
