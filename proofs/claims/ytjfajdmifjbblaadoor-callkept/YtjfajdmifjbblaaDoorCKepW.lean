/-
  THE WALK of CallKept (made by a program).
-/
import Derived.Test.YtjfajdmifjbblaaDoorCNeaW
namespace Go.Proofs.YtjfajdmifjbblaaDoor
open Go.RowKit Go.Lib Go.Deep
set_option linter.unusedVariables false
set_option linter.unusedSimpArgs false

set_option maxRecDepth 100000 in
set_option maxHeartbeats 2000000 in
theorem ckep_long {X : Sa} {S : St} {w : World} (h : Sat w X S) (hT : Tabb w) (c : Nat) (hc32 : c < 4294967296) (g : Int) {a : Option Addr} {n ca : Nat} {L : List Lk} (hA : Lks w a n L) (hc : Cap a n ca) (hl : 60 < n) : Calls Tryd.prog 5 #[siteV X S, .int .u32 (c : Int), .slice a n ca, .int .i64 g] w fun e w' => e = .returned (.bool true) ∧ Below w.heap.size w w' := by
  have hlb : decide ((60 : Int) < (n : Int)) = true := by simp; omega
  have hkA : Kept w (w.alloc (.cells #[.int .i64 S.id, .slice X.g S.groups.length X.gc, .slice X.a S.apart.length X.ac, .slice X.b S.between.length X.bc, .slice X.p S.phases.length X.pc, .slice X.e S.eyes.length X.ec, .int .i64 S.watch, .int .i64 S.feed, .int .i64 S.heal, .int .i64 S.low, .int .i64 S.high, .slice X.l S.plans.length X.lc] 29)) none := Kept.alloc _ _ _ _ _
  have hsb := sbox_alloc h 29
  have HS := Hid.mk' (h.kept hkA)
  have HT := Hid.mk' (hT.kept hkA)
  have HA := Hid.mk' (hA.kept hkA)
  have HSZ := Hid.mk' hA.size
  have hn9 : n ≤ 9223372036854775807 := by have := hc.room; have := hc.max; omega
  have hE9 : S.eyes.length ≤ 9223372036854775807 := by have := h.ek.room; have := h.ek.max; omega
  have hP9 : S.phases.length ≤ 9223372036854775807 := by have := h.pk.room; have := h.pk.max; omega
  obtain ⟨WA, hWA⟩ : ∃ WA, (w.alloc (.cells #[.int .i64 S.id, .slice X.g S.groups.length X.gc, .slice X.a S.apart.length X.ac, .slice X.b S.between.length X.bc, .slice X.p S.phases.length X.pc, .slice X.e S.eyes.length X.ec, .int .i64 S.watch, .int .i64 S.feed, .int .i64 S.heal, .int .i64 S.low, .int .i64 S.high, .slice X.l S.plans.length X.lc] 29)) = WA := ⟨_, rfl⟩
  rw [hWA] at hkA hsb HS HT HA
  have hlA : w.heap.size < WA.heap.size := hsb.lt
  have HK := Hid.mk' hkA
  have HSB := Hid.mk' hsb
  have hK0 := Kept.refl WA none
  clear h hT hA hkA hsb
  have s0_ : ∀ w', Kept WA w' none → w'.cell? ⟨w.heap.size, 0, none⟩ = some (.int .i64 S.id) := fun w' q => (HSB.out.kept q).c0
  have s1_ : ∀ w', Kept WA w' none → w'.cell? ⟨w.heap.size, 1, none⟩ = some (.slice X.g S.groups.length X.gc) := fun w' q => (HSB.out.kept q).c1
  have s2_ : ∀ w', Kept WA w' none → w'.cell? ⟨w.heap.size, 2, none⟩ = some (.slice X.a S.apart.length X.ac) := fun w' q => (HSB.out.kept q).c2
  have s3_ : ∀ w', Kept WA w' none → w'.cell? ⟨w.heap.size, 3, none⟩ = some (.slice X.b S.between.length X.bc) := fun w' q => (HSB.out.kept q).c3
  have s4_ : ∀ w', Kept WA w' none → w'.cell? ⟨w.heap.size, 4, none⟩ = some (.slice X.p S.phases.length X.pc) := fun w' q => (HSB.out.kept q).c4
  have s5_ : ∀ w', Kept WA w' none → w'.cell? ⟨w.heap.size, 5, none⟩ = some (.slice X.e S.eyes.length X.ec) := fun w' q => (HSB.out.kept q).c5
  have s6_ : ∀ w', Kept WA w' none → w'.cell? ⟨w.heap.size, 6, none⟩ = some (.int .i64 S.watch) := fun w' q => (HSB.out.kept q).c6
  have s7_ : ∀ w', Kept WA w' none → w'.cell? ⟨w.heap.size, 7, none⟩ = some (.int .i64 S.feed) := fun w' q => (HSB.out.kept q).c7
  have s8_ : ∀ w', Kept WA w' none → w'.cell? ⟨w.heap.size, 8, none⟩ = some (.int .i64 S.heal) := fun w' q => (HSB.out.kept q).c8
  have s9_ : ∀ w', Kept WA w' none → w'.cell? ⟨w.heap.size, 9, none⟩ = some (.int .i64 S.low) := fun w' q => (HSB.out.kept q).c9
  have s10_ : ∀ w', Kept WA w' none → w'.cell? ⟨w.heap.size, 10, none⟩ = some (.int .i64 S.high) := fun w' q => (HSB.out.kept q).c10
  have s11_ : ∀ w', Kept WA w' none → w'.cell? ⟨w.heap.size, 11, none⟩ = some (.slice X.l S.plans.length X.lc) := fun w' q => (HSB.out.kept q).c11
  go_enter Tryd.func5, Tryd.ntmps5
  go_wp2_with (first | rw [hWA] | (go_at_call 13; refine (alive14_any HT.out).mono ?_; rintro e wv ⟨rfl, hkv⟩; have hKv : Kept WA wv none := hkv))
  go_at_call 14
  refine (rgreat_any (HS.out.kept hKv)).mono ?_
  rintro e wg ⟨gr, rfl, hgr, hkg⟩
  have hKg : Kept WA wg none := hKv.tr hkg
  clear hgr
  cases gr with
  | true =>
    go_wp2
    go_ret
    exact ⟨rfl, (HK.out.tr hKg).below⟩
  | false =>
    go_wp2
    go_ret
    exact ⟨by simp, (HK.out.tr hKg).below⟩
set_option maxRecDepth 100000 in
set_option maxHeartbeats 2000000 in
theorem ckep_site {X : Sa} {S : St} {w : World} (h : Sat w X S) (hT : Tabb w) (c : Nat) (hc32 : c < 4294967296) (g : Int) {a : Option Addr} {n ca : Nat} {L : List Lk} (hA : Lks w a n L) (hc : Cap a n ca) (hl : n ≤ 60) (hs : siteB S = false) : Calls Tryd.prog 5 #[siteV X S, .int .u32 (c : Int), .slice a n ca, .int .i64 g] w fun e w' => e = .returned (.bool true) ∧ Below w.heap.size w w' := by
  have hlb : decide ((60 : Int) < (n : Int)) = false := by simp; omega
  have hce : checkE S = 50 := by unfold checkE; rw [hs]; rfl
  have hkA : Kept w (w.alloc (.cells #[.int .i64 S.id, .slice X.g S.groups.length X.gc, .slice X.a S.apart.length X.ac, .slice X.b S.between.length X.bc, .slice X.p S.phases.length X.pc, .slice X.e S.eyes.length X.ec, .int .i64 S.watch, .int .i64 S.feed, .int .i64 S.heal, .int .i64 S.low, .int .i64 S.high, .slice X.l S.plans.length X.lc] 29)) none := Kept.alloc _ _ _ _ _
  have hsb := sbox_alloc h 29
  have HS := Hid.mk' (h.kept hkA)
  have HT := Hid.mk' (hT.kept hkA)
  have HA := Hid.mk' (hA.kept hkA)
  have HSZ := Hid.mk' hA.size
  have hn9 : n ≤ 9223372036854775807 := by have := hc.room; have := hc.max; omega
  have hE9 : S.eyes.length ≤ 9223372036854775807 := by have := h.ek.room; have := h.ek.max; omega
  have hP9 : S.phases.length ≤ 9223372036854775807 := by have := h.pk.room; have := h.pk.max; omega
  obtain ⟨WA, hWA⟩ : ∃ WA, (w.alloc (.cells #[.int .i64 S.id, .slice X.g S.groups.length X.gc, .slice X.a S.apart.length X.ac, .slice X.b S.between.length X.bc, .slice X.p S.phases.length X.pc, .slice X.e S.eyes.length X.ec, .int .i64 S.watch, .int .i64 S.feed, .int .i64 S.heal, .int .i64 S.low, .int .i64 S.high, .slice X.l S.plans.length X.lc] 29)) = WA := ⟨_, rfl⟩
  rw [hWA] at hkA hsb HS HT HA
  have hlA : w.heap.size < WA.heap.size := hsb.lt
  have HK := Hid.mk' hkA
  have HSB := Hid.mk' hsb
  have hK0 := Kept.refl WA none
  clear h hT hA hkA hsb
  have s0_ : ∀ w', Kept WA w' none → w'.cell? ⟨w.heap.size, 0, none⟩ = some (.int .i64 S.id) := fun w' q => (HSB.out.kept q).c0
  have s1_ : ∀ w', Kept WA w' none → w'.cell? ⟨w.heap.size, 1, none⟩ = some (.slice X.g S.groups.length X.gc) := fun w' q => (HSB.out.kept q).c1
  have s2_ : ∀ w', Kept WA w' none → w'.cell? ⟨w.heap.size, 2, none⟩ = some (.slice X.a S.apart.length X.ac) := fun w' q => (HSB.out.kept q).c2
  have s3_ : ∀ w', Kept WA w' none → w'.cell? ⟨w.heap.size, 3, none⟩ = some (.slice X.b S.between.length X.bc) := fun w' q => (HSB.out.kept q).c3
  have s4_ : ∀ w', Kept WA w' none → w'.cell? ⟨w.heap.size, 4, none⟩ = some (.slice X.p S.phases.length X.pc) := fun w' q => (HSB.out.kept q).c4
  have s5_ : ∀ w', Kept WA w' none → w'.cell? ⟨w.heap.size, 5, none⟩ = some (.slice X.e S.eyes.length X.ec) := fun w' q => (HSB.out.kept q).c5
  have s6_ : ∀ w', Kept WA w' none → w'.cell? ⟨w.heap.size, 6, none⟩ = some (.int .i64 S.watch) := fun w' q => (HSB.out.kept q).c6
  have s7_ : ∀ w', Kept WA w' none → w'.cell? ⟨w.heap.size, 7, none⟩ = some (.int .i64 S.feed) := fun w' q => (HSB.out.kept q).c7
  have s8_ : ∀ w', Kept WA w' none → w'.cell? ⟨w.heap.size, 8, none⟩ = some (.int .i64 S.heal) := fun w' q => (HSB.out.kept q).c8
  have s9_ : ∀ w', Kept WA w' none → w'.cell? ⟨w.heap.size, 9, none⟩ = some (.int .i64 S.low) := fun w' q => (HSB.out.kept q).c9
  have s10_ : ∀ w', Kept WA w' none → w'.cell? ⟨w.heap.size, 10, none⟩ = some (.int .i64 S.high) := fun w' q => (HSB.out.kept q).c10
  have s11_ : ∀ w', Kept WA w' none → w'.cell? ⟨w.heap.size, 11, none⟩ = some (.slice X.l S.plans.length X.lc) := fun w' q => (HSB.out.kept q).c11
  go_enter Tryd.func5, Tryd.ntmps5
  go_wp2_with (first | rw [hWA] | (go_at_call 13; refine (alive14_any HT.out).mono ?_; rintro e wv ⟨rfl, hkv⟩; have hKv : Kept WA wv none := hkv))
  go_at_call 14
  refine (rgreat_any (HS.out.kept hKv)).mono ?_
  rintro e wg ⟨gr, rfl, hgr, hkg⟩
  have hKg : Kept WA wg none := hKv.tr hkg
  clear hgr
  cases gr with
  | true =>
    go_wp2
    go_ret
    exact ⟨rfl, (HK.out.tr hKg).below⟩
  | false =>
    go_wp2_with (first | (go_at_call 19; have hx := check_any (HS.out.kept hKg) (HT.out.kept hKg); rw [hce] at hx; refine hx.mono ?_; rintro e wC ⟨rfl, hkC⟩; have hKC : Kept WA wC none := hKg.tr hkC; clear hx))
    go_ret
    exact ⟨by simp, (HK.out.tr hKC).below⟩
set_option maxRecDepth 100000 in
set_option maxHeartbeats 2000000 in
theorem ckep_err {X : Sa} {S : St} {w : World} (h : Sat w X S) (hT : Tabb w) (c : Nat) (hc32 : c < 4294967296) (g : Int) {a : Option Addr} {n ca : Nat} {L : List Lk} (hA : Lks w a n L) (hc : Cap a n ca) (hl : n ≤ 60) (hs : siteB S = true) (E : Int) (he : nexE S c L g = E) (h0 : E ≠ 0) : Calls Tryd.prog 5 #[siteV X S, .int .u32 (c : Int), .slice a n ca, .int .i64 g] w fun e w' => e = .returned (.bool true) ∧ Below w.heap.size w w' := by
  have hlb : decide ((60 : Int) < (n : Int)) = false := by simp; omega
  have hce : checkE S = 0 := by unfold checkE; rw [hs]; rfl
  have HE := Hid.mk' he
  have HV : Hid (nexV S c L g = 0) := by show _ = _; unfold nexV; rw [if_neg (by rw [he]; exact h0)]
  have hEb : (E != 0) = true := by simpa using h0
  clear he hs h0
  have hkA : Kept w (w.alloc (.cells #[.int .i64 S.id, .slice X.g S.groups.length X.gc, .slice X.a S.apart.length X.ac, .slice X.b S.between.length X.bc, .slice X.p S.phases.length X.pc, .slice X.e S.eyes.length X.ec, .int .i64 S.watch, .int .i64 S.feed, .int .i64 S.heal, .int .i64 S.low, .int .i64 S.high, .slice X.l S.plans.length X.lc] 29)) none := Kept.alloc _ _ _ _ _
  have hsb := sbox_alloc h 29
  have HS := Hid.mk' (h.kept hkA)
  have HT := Hid.mk' (hT.kept hkA)
  have HA := Hid.mk' (hA.kept hkA)
  have HSZ := Hid.mk' hA.size
  have hn9 : n ≤ 9223372036854775807 := by have := hc.room; have := hc.max; omega
  have hE9 : S.eyes.length ≤ 9223372036854775807 := by have := h.ek.room; have := h.ek.max; omega
  have hP9 : S.phases.length ≤ 9223372036854775807 := by have := h.pk.room; have := h.pk.max; omega
  obtain ⟨WA, hWA⟩ : ∃ WA, (w.alloc (.cells #[.int .i64 S.id, .slice X.g S.groups.length X.gc, .slice X.a S.apart.length X.ac, .slice X.b S.between.length X.bc, .slice X.p S.phases.length X.pc, .slice X.e S.eyes.length X.ec, .int .i64 S.watch, .int .i64 S.feed, .int .i64 S.heal, .int .i64 S.low, .int .i64 S.high, .slice X.l S.plans.length X.lc] 29)) = WA := ⟨_, rfl⟩
  rw [hWA] at hkA hsb HS HT HA
  have hlA : w.heap.size < WA.heap.size := hsb.lt
  have HK := Hid.mk' hkA
  have HSB := Hid.mk' hsb
  have hK0 := Kept.refl WA none
  clear h hT hA hkA hsb
  have s0_ : ∀ w', Kept WA w' none → w'.cell? ⟨w.heap.size, 0, none⟩ = some (.int .i64 S.id) := fun w' q => (HSB.out.kept q).c0
  have s1_ : ∀ w', Kept WA w' none → w'.cell? ⟨w.heap.size, 1, none⟩ = some (.slice X.g S.groups.length X.gc) := fun w' q => (HSB.out.kept q).c1
  have s2_ : ∀ w', Kept WA w' none → w'.cell? ⟨w.heap.size, 2, none⟩ = some (.slice X.a S.apart.length X.ac) := fun w' q => (HSB.out.kept q).c2
  have s3_ : ∀ w', Kept WA w' none → w'.cell? ⟨w.heap.size, 3, none⟩ = some (.slice X.b S.between.length X.bc) := fun w' q => (HSB.out.kept q).c3
  have s4_ : ∀ w', Kept WA w' none → w'.cell? ⟨w.heap.size, 4, none⟩ = some (.slice X.p S.phases.length X.pc) := fun w' q => (HSB.out.kept q).c4
  have s5_ : ∀ w', Kept WA w' none → w'.cell? ⟨w.heap.size, 5, none⟩ = some (.slice X.e S.eyes.length X.ec) := fun w' q => (HSB.out.kept q).c5
  have s6_ : ∀ w', Kept WA w' none → w'.cell? ⟨w.heap.size, 6, none⟩ = some (.int .i64 S.watch) := fun w' q => (HSB.out.kept q).c6
  have s7_ : ∀ w', Kept WA w' none → w'.cell? ⟨w.heap.size, 7, none⟩ = some (.int .i64 S.feed) := fun w' q => (HSB.out.kept q).c7
  have s8_ : ∀ w', Kept WA w' none → w'.cell? ⟨w.heap.size, 8, none⟩ = some (.int .i64 S.heal) := fun w' q => (HSB.out.kept q).c8
  have s9_ : ∀ w', Kept WA w' none → w'.cell? ⟨w.heap.size, 9, none⟩ = some (.int .i64 S.low) := fun w' q => (HSB.out.kept q).c9
  have s10_ : ∀ w', Kept WA w' none → w'.cell? ⟨w.heap.size, 10, none⟩ = some (.int .i64 S.high) := fun w' q => (HSB.out.kept q).c10
  have s11_ : ∀ w', Kept WA w' none → w'.cell? ⟨w.heap.size, 11, none⟩ = some (.slice X.l S.plans.length X.lc) := fun w' q => (HSB.out.kept q).c11
  go_enter Tryd.func5, Tryd.ntmps5
  go_wp2_with (first | rw [hWA] | (go_at_call 13; refine (alive14_any HT.out).mono ?_; rintro e wv ⟨rfl, hkv⟩; have hKv : Kept WA wv none := hkv))
  go_at_call 14
  refine (rgreat_any (HS.out.kept hKv)).mono ?_
  rintro e wg ⟨gr, rfl, hgr, hkg⟩
  have hKg : Kept WA wg none := hKv.tr hkg
  clear hgr
  cases gr with
  | true =>
    go_wp2
    go_ret
    exact ⟨rfl, (HK.out.tr hKg).below⟩
  | false =>
    go_wp2_with (first | (have hgo := hKC; clear hgo; go_at_call 11; have hx := cnext_any (HS.out.kept hKC) (HT.out.kept hKC) c hc32 g (HA.out.kept hKC) hc; rw [HE.out, HV.out] at hx; refine hx.mono ?_; rintro e wD ⟨rfl, hkD⟩; have hKD : Kept WA wD none := hKC.tr hkD; clear hx) | (go_at_call 19; have hx := check_any (HS.out.kept hKg) (HT.out.kept hKg); rw [hce] at hx; refine hx.mono ?_; rintro e wC ⟨rfl, hkC⟩; have hKC : Kept WA wC none := hKg.tr hkC; clear hx))
    go_ret
    exact ⟨by simp, (HK.out.tr hKD).below⟩
set_option maxRecDepth 100000 in
set_option maxHeartbeats 2000000 in
theorem ckep_go {X : Sa} {S : St} {w : World} (h : Sat w X S) (hT : Tabb w) (c : Nat) (hc32 : c < 4294967296) (g : Int) {a : Option Addr} {n ca : Nat} {L : List Lk} (hA : Lks w a n L) (hc : Cap a n ca) (hl : n ≤ 60) (hs : siteB S = true) (he : nexE S c L g = 0) : Calls Tryd.prog 5 #[siteV X S, .int .u32 (c : Int), .slice a n ca, .int .i64 g] w fun e w' => e = .returned (.bool true) ∧ Below w.heap.size w w' := by
  have hlb : decide ((60 : Int) < (n : Int)) = false := by simp; omega
  have hce : checkE S = 0 := by unfold checkE; rw [hs]; rfl
  have HE := Hid.mk' he
  obtain ⟨he1, he2⟩ := nexE_zero he
  obtain ⟨_, he3, _⟩ := allE_zero he1
  have hnb : ((n : Int) != (S.eyes.length : Int)) = false := by have := hA.size; simp; omega
  have hne : n ≤ S.eyes.length := by have := hA.size; omega
  have hf := cal_facts hs
  have hp8 := hf.p1
  obtain ⟨NV, hNV⟩ : ∃ NV, NV = nxtN S c L g := ⟨_, rfl⟩
  have HV : Hid (nexV S c L g = NV) := by show _ = _; unfold nexV; rw [if_pos he, hNV]
  have HNB : Hid (∀ j, NV.testBit j = ((c.testBit j || wantB S L j) && !decide ((j : Int) = g))) := fun j => by rw [hNV]; exact nxt_bit hc32 hs he3 j
  have hNV9 : NV < 4294967296 := by rw [hNV]; exact nxtN_lt hc32
  obtain ⟨pb, po, ep⟩ := h.pp hf.p0
  have HEP := Hid.mk' ep
  clear he hs he1 he2 he3 hf hNV ep
  have hkA : Kept w (w.alloc (.cells #[.int .i64 S.id, .slice X.g S.groups.length X.gc, .slice X.a S.apart.length X.ac, .slice X.b S.between.length X.bc, .slice X.p S.phases.length X.pc, .slice X.e S.eyes.length X.ec, .int .i64 S.watch, .int .i64 S.feed, .int .i64 S.heal, .int .i64 S.low, .int .i64 S.high, .slice X.l S.plans.length X.lc] 29)) none := Kept.alloc _ _ _ _ _
  have hsb := sbox_alloc h 29
  have HS := Hid.mk' (h.kept hkA)
  have HT := Hid.mk' (hT.kept hkA)
  have HA := Hid.mk' (hA.kept hkA)
  have HSZ := Hid.mk' hA.size
  have hn9 : n ≤ 9223372036854775807 := by have := hc.room; have := hc.max; omega
  have hE9 : S.eyes.length ≤ 9223372036854775807 := by have := h.ek.room; have := h.ek.max; omega
  have hP9 : S.phases.length ≤ 9223372036854775807 := by have := h.pk.room; have := h.pk.max; omega
  obtain ⟨WA, hWA⟩ : ∃ WA, (w.alloc (.cells #[.int .i64 S.id, .slice X.g S.groups.length X.gc, .slice X.a S.apart.length X.ac, .slice X.b S.between.length X.bc, .slice X.p S.phases.length X.pc, .slice X.e S.eyes.length X.ec, .int .i64 S.watch, .int .i64 S.feed, .int .i64 S.heal, .int .i64 S.low, .int .i64 S.high, .slice X.l S.plans.length X.lc] 29)) = WA := ⟨_, rfl⟩
  rw [hWA] at hkA hsb HS HT HA
  have hlA : w.heap.size < WA.heap.size := hsb.lt
  have HK := Hid.mk' hkA
  have HSB := Hid.mk' hsb
  have hK0 := Kept.refl WA none
  clear h hT hA hkA hsb
  have s0_ : ∀ w', Kept WA w' none → w'.cell? ⟨w.heap.size, 0, none⟩ = some (.int .i64 S.id) := fun w' q => (HSB.out.kept q).c0
  have s1_ : ∀ w', Kept WA w' none → w'.cell? ⟨w.heap.size, 1, none⟩ = some (.slice X.g S.groups.length X.gc) := fun w' q => (HSB.out.kept q).c1
  have s2_ : ∀ w', Kept WA w' none → w'.cell? ⟨w.heap.size, 2, none⟩ = some (.slice X.a S.apart.length X.ac) := fun w' q => (HSB.out.kept q).c2
  have s3_ : ∀ w', Kept WA w' none → w'.cell? ⟨w.heap.size, 3, none⟩ = some (.slice X.b S.between.length X.bc) := fun w' q => (HSB.out.kept q).c3
  have s4_ : ∀ w', Kept WA w' none → w'.cell? ⟨w.heap.size, 4, none⟩ = some (.slice X.p S.phases.length X.pc) := fun w' q => (HSB.out.kept q).c4
  have s5_ : ∀ w', Kept WA w' none → w'.cell? ⟨w.heap.size, 5, none⟩ = some (.slice X.e S.eyes.length X.ec) := fun w' q => (HSB.out.kept q).c5
  have s6_ : ∀ w', Kept WA w' none → w'.cell? ⟨w.heap.size, 6, none⟩ = some (.int .i64 S.watch) := fun w' q => (HSB.out.kept q).c6
  have s7_ : ∀ w', Kept WA w' none → w'.cell? ⟨w.heap.size, 7, none⟩ = some (.int .i64 S.feed) := fun w' q => (HSB.out.kept q).c7
  have s8_ : ∀ w', Kept WA w' none → w'.cell? ⟨w.heap.size, 8, none⟩ = some (.int .i64 S.heal) := fun w' q => (HSB.out.kept q).c8
  have s9_ : ∀ w', Kept WA w' none → w'.cell? ⟨w.heap.size, 9, none⟩ = some (.int .i64 S.low) := fun w' q => (HSB.out.kept q).c9
  have s10_ : ∀ w', Kept WA w' none → w'.cell? ⟨w.heap.size, 10, none⟩ = some (.int .i64 S.high) := fun w' q => (HSB.out.kept q).c10
  have s11_ : ∀ w', Kept WA w' none → w'.cell? ⟨w.heap.size, 11, none⟩ = some (.slice X.l S.plans.length X.lc) := fun w' q => (HSB.out.kept q).c11
  go_enter Tryd.func5, Tryd.ntmps5
  go_wp2_with (first | rw [hWA] | (go_at_call 13; refine (alive14_any HT.out).mono ?_; rintro e wv ⟨rfl, hkv⟩; have hKv : Kept WA wv none := hkv))
  go_at_call 14
  refine (rgreat_any (HS.out.kept hKv)).mono ?_
  rintro e wg ⟨gr, rfl, hgr, hkg⟩
  have hKg : Kept WA wg none := hKv.tr hkg
  clear hgr
  cases gr with
  | true =>
    go_wp2
    go_ret
    exact ⟨rfl, (HK.out.tr hKg).below⟩
  | false =>
    go_wp2_with (first | (have hgo := hKC; clear hgo; go_at_call 11; have hx := cnext_any (HS.out.kept hKC) (HT.out.kept hKC) c hc32 g (HA.out.kept hKC) hc; rw [HE.out, HV.out] at hx; refine hx.mono ?_; rintro e wD ⟨rfl, hkD⟩; have hKD : Kept WA wD none := hKC.tr hkD; clear hx) | (go_at_call 19; have hx := check_any (HS.out.kept hKg) (HT.out.kept hKg); rw [hce] at hx; refine hx.mono ?_; rintro e wC ⟨rfl, hkC⟩; have hKC : Kept WA wC none := hKg.tr hkC; clear hx))
    rw [HEP.out] at s4_
    go_loopw [12, 13, 14] (fun pv _ _ wr => ∃ p : Nat, p ≤ 32 ∧ pv = .int .i64 p ∧ Kept WA wr none) (fun pv _ _ _ => 32 - (intOf pv).toNat)
    case atStart => exact ⟨0, by omega, rfl, hKD⟩
    case round =>
      obtain ⟨p, hp, rfl, hkr⟩ := hrel
      by_cases hlp : p < 32
      · by_cases hlt0 : p < S.phases.length
        · obtain ⟨hpb, d0, d1, d2, d3, d4⟩ := (HS.out.kept hkr).phs HEP.out hlt0
          have HAL0 : Hid ((S.ph p).always = (decide (p < S.phases.length) && alw S p)) := by show _ = _; rw [decide_eq_true hlt0, Bool.true_and]; rfl
          clear d0 d1 d2 d3
          have HAL := HAL0
          clear HAL0
          generalize (S.ph p).always = al at *
          obtain ⟨wo, hwo⟩ : ∃ wo, wo = wr := ⟨_, rfl⟩
          subst hwo
          have HKO := Hid.mk' hkr
          go_wp2
          go_loopw [13, 14] (fun bv iv wr => ∃ i : Nat, i ≤ n ∧ iv = .int .i64 i ∧ bv = .bool (al || anyW (eyP S) (wnt L) (p : Int) i) ∧ Kept WA wr none) (fun _ iv _ => n - (intOf iv).toNat)
          case atStart => exact ⟨0, by omega, rfl, by show _ = Value.bool (al || false); rw [Bool.or_false], hkr⟩
          case round =>
            clear hkr
            obtain ⟨i, hi, rfl, rfl, hkr⟩ := hrel
            obtain ⟨bb, hbb⟩ : ∃ bb, bb = (al || anyW (eyP S) (wnt L) (p : Int) i) := ⟨_, rfl⟩
            rw [← hbb]
            by_cases hlt : i < n
            · obtain ⟨b, off, ea, hb, c0, c1, c2, c3, c4⟩ := (HA.out.kept hkr).at_ hlt
              subst ea
              have hke : i < S.eyes.length := by omega
              obtain ⟨eb, eo, ee, heb, y0, y1, y2, y3⟩ := (HS.out.kept hkr).eye (k := i) hke
              have s5 := s5_ wr hkr
              rw [ee] at s5
              clear ee s5_ y1 y2 y3 c1 c2 c4
              have hwl : w.heap.size < wr.heap.size := Nat.lt_of_lt_of_le hlA hkr.size
              have y0' : wr.cell? ⟨eb, eo + i * 4, none⟩ = some (.int .i64 (eyP S i)) := y0
              clear y0
              have HB1 : Hid ((al || anyW (eyP S) (wnt L) (p : Int) (i + 1)) = (bb || (decide (eyP S i = (p : Int)) && ((lk L i).up || (lk L i).bad)))) := by
                show _ = _
                rw [anyW_succ, ← Bool.or_assoc, ← hbb]
                rfl
              have HB2 : Hid ((bb || (decide (eyP S i = (p : Int)) && ((lk L i).up || (lk L i).bad))) = (al || anyW (eyP S) (wnt L) (p : Int) (i + 1))) := HB1.out.symm
              clear hbb
              generalize eyP S i = P at *
              generalize lk L i = x at *
              obtain ⟨x0', x1', x2', x3', x4'⟩ := x
              dsimp only at c0 c3
              have HB3 : Hid ((bb || (decide (P = (p : Int)) && (x0' || x3'))) = (al || anyW (eyP S) (wnt L) (p : Int) (i + 1))) := HB2.out
              clear HB2 HB1
              have HB2 := HB3
              clear HB3
              cases bb
              · by_cases hPp : P = (p : Int)
                · have hq1 : ((P == (p : Int)) : Bool) = true := by simp [hPp]
                  have HB4 : Hid ((al || anyW (eyP S) (wnt L) (p : Int) (i + 1)) = (x0' || x3')) := by show _ = _; rw [← HB2.out, decide_eq_true hPp]; rfl
                  clear hPp HB2
                  cases x0'
                  · go_wp2
                    go_roundw
                    case rel => exact ⟨i + 1, by omega, by go_num, by rw [HB4.out]; rfl, hkr⟩
                    case measure => simp [intOf]; omega
                  · go_wp2
                    go_roundw
                    case rel => exact ⟨i + 1, by omega, by go_num, by rw [HB4.out]; rfl, hkr⟩
                    case measure => simp [intOf]; omega
                · have hq1 : ((P == (p : Int)) : Bool) = false := by simp [hPp]
                  have HB4 : Hid ((al || anyW (eyP S) (wnt L) (p : Int) (i + 1)) = false) := by show _ = _; rw [← HB2.out, decide_eq_false hPp]; rfl
                  clear hPp HB2
                  go_wp2
                  go_roundw
                  case rel => exact ⟨i + 1, by omega, by go_num, by rw [HB4.out], hkr⟩
                  case measure => simp [intOf]; omega
              · have HB4 : Hid ((al || anyW (eyP S) (wnt L) (p : Int) (i + 1)) = true) := by show _ = _; rw [← HB2.out]; rfl
                go_wp2
                go_roundw
                case rel => exact ⟨i + 1, by omega, by go_num, by rw [HB4.out], hkr⟩
                case measure => simp [intOf]; omega
            · obtain rfl : i = n := by omega
              have HWB : Hid (wantB S L p = bb) := by show _ = _; rw [hbb, HAL.out]; unfold wantB; rw [HSZ.out]
              have hnb := HNB.out p
              rw [HWB.out] at hnb
              clear hbb
              have hb1 := bit_is NV p
              have hb2 := has_ref NV p
              have hb3 := bit_is c p
              have hb4 := has_ref c p
              rw [hnb] at hb1 hb2
              clear hnb
              generalize c.testBit p = cb at *
              by_cases hpg : (p : Int) = g
              · have hg1 : (((p : Int) != g) : Bool) = false := by simp [hpg]
                rw [decide_eq_true hpg] at hb1 hb2
                simp only [Bool.not_true, Bool.and_false] at hb1 hb2
                clear hpg
                go_wp2
                go_roundw
                case rel => exact ⟨p + 1, by omega, by go_num, hkr⟩
                case measure => simp [intOf]; omega
              · have hg1 : (((p : Int) != g) : Bool) = true := by simp [hpg]
                rw [decide_eq_false hpg] at hb1 hb2
                simp only [Bool.not_false, Bool.and_true] at hb1 hb2
                clear hpg
                cases bb <;> cases cb <;> simp only [Bool.or_true, Bool.or_false, Bool.true_or, Bool.false_or] at hb1 hb2 hb3 hb4
                all_goals
                  go_wp2
                  go_roundw
                  case rel => exact ⟨p + 1, by omega, by go_num, hkr⟩
                  case measure => simp [intOf]; omega
        · have HAL : Hid (false = (decide (p < S.phases.length) && alw S p)) := by show _ = _; rw [decide_eq_false hlt0, Bool.false_and]
          obtain ⟨wo, hwo⟩ : ∃ wo, wo = wr := ⟨_, rfl⟩
          subst hwo
          have HKO := Hid.mk' hkr
          go_wp2
          go_loopw [13, 14] (fun bv iv wr => ∃ i : Nat, i ≤ n ∧ iv = .int .i64 i ∧ bv = .bool (false || anyW (eyP S) (wnt L) (p : Int) i) ∧ Kept WA wr none) (fun _ iv _ => n - (intOf iv).toNat)
          case atStart => exact ⟨0, by omega, rfl, by rfl, hkr⟩
          case round =>
            clear hkr
            obtain ⟨i, hi, rfl, rfl, hkr⟩ := hrel
            obtain ⟨bb, hbb⟩ : ∃ bb, bb = (false || anyW (eyP S) (wnt L) (p : Int) i) := ⟨_, rfl⟩
            rw [← hbb]
            by_cases hlt : i < n
            · obtain ⟨b, off, ea, hb, c0, c1, c2, c3, c4⟩ := (HA.out.kept hkr).at_ hlt
              subst ea
              have hke : i < S.eyes.length := by omega
              obtain ⟨eb, eo, ee, heb, y0, y1, y2, y3⟩ := (HS.out.kept hkr).eye (k := i) hke
              have s5 := s5_ wr hkr
              rw [ee] at s5
              clear ee s5_ y1 y2 y3 c1 c2 c4
              have hwl : w.heap.size < wr.heap.size := Nat.lt_of_lt_of_le hlA hkr.size
              have y0' : wr.cell? ⟨eb, eo + i * 4, none⟩ = some (.int .i64 (eyP S i)) := y0
              clear y0
              have HB1 : Hid ((false || anyW (eyP S) (wnt L) (p : Int) (i + 1)) = (bb || (decide (eyP S i = (p : Int)) && ((lk L i).up || (lk L i).bad)))) := by
                show _ = _
                rw [anyW_succ, ← Bool.or_assoc, ← hbb]
                rfl
              have HB2 : Hid ((bb || (decide (eyP S i = (p : Int)) && ((lk L i).up || (lk L i).bad))) = (false || anyW (eyP S) (wnt L) (p : Int) (i + 1))) := HB1.out.symm
              clear hbb
              generalize eyP S i = P at *
              generalize lk L i = x at *
              obtain ⟨x0', x1', x2', x3', x4'⟩ := x
              dsimp only at c0 c3
              have HB3 : Hid ((bb || (decide (P = (p : Int)) && (x0' || x3'))) = (false || anyW (eyP S) (wnt L) (p : Int) (i + 1))) := HB2.out
              clear HB2 HB1
              have HB2 := HB3
              clear HB3
              cases bb
              · by_cases hPp : P = (p : Int)
                · have hq1 : ((P == (p : Int)) : Bool) = true := by simp [hPp]
                  have HB4 : Hid ((false || anyW (eyP S) (wnt L) (p : Int) (i + 1)) = (x0' || x3')) := by show _ = _; rw [← HB2.out, decide_eq_true hPp]; rfl
                  clear hPp HB2
                  cases x0'
                  · go_wp2
                    go_roundw
                    case rel => exact ⟨i + 1, by omega, by go_num, by rw [HB4.out]; rfl, hkr⟩
                    case measure => simp [intOf]; omega
                  · go_wp2
                    go_roundw
                    case rel => exact ⟨i + 1, by omega, by go_num, by rw [HB4.out]; rfl, hkr⟩
                    case measure => simp [intOf]; omega
                · have hq1 : ((P == (p : Int)) : Bool) = false := by simp [hPp]
                  have HB4 : Hid ((false || anyW (eyP S) (wnt L) (p : Int) (i + 1)) = false) := by show _ = _; rw [← HB2.out, decide_eq_false hPp]; rfl
                  clear hPp HB2
                  go_wp2
                  go_roundw
                  case rel => exact ⟨i + 1, by omega, by go_num, by rw [HB4.out], hkr⟩
                  case measure => simp [intOf]; omega
              · have HB4 : Hid ((false || anyW (eyP S) (wnt L) (p : Int) (i + 1)) = true) := by show _ = _; rw [← HB2.out]; rfl
                go_wp2
                go_roundw
                case rel => exact ⟨i + 1, by omega, by go_num, by rw [HB4.out], hkr⟩
                case measure => simp [intOf]; omega
            · obtain rfl : i = n := by omega
              have HWB : Hid (wantB S L p = bb) := by show _ = _; rw [hbb, HAL.out]; unfold wantB; rw [HSZ.out]
              have hnb := HNB.out p
              rw [HWB.out] at hnb
              clear hbb
              have hb1 := bit_is NV p
              have hb2 := has_ref NV p
              have hb3 := bit_is c p
              have hb4 := has_ref c p
              rw [hnb] at hb1 hb2
              clear hnb
              generalize c.testBit p = cb at *
              by_cases hpg : (p : Int) = g
              · have hg1 : (((p : Int) != g) : Bool) = false := by simp [hpg]
                rw [decide_eq_true hpg] at hb1 hb2
                simp only [Bool.not_true, Bool.and_false] at hb1 hb2
                clear hpg
                go_wp2
                go_roundw
                case rel => exact ⟨p + 1, by omega, by go_num, hkr⟩
                case measure => simp [intOf]; omega
              · have hg1 : (((p : Int) != g) : Bool) = true := by simp [hpg]
                rw [decide_eq_false hpg] at hb1 hb2
                simp only [Bool.not_false, Bool.and_true] at hb1 hb2
                clear hpg
                cases bb <;> cases cb <;> simp only [Bool.or_true, Bool.or_false, Bool.true_or, Bool.false_or] at hb1 hb2 hb3 hb4
                all_goals
                  go_wp2
                  go_roundw
                  case rel => exact ⟨p + 1, by omega, by go_num, hkr⟩
                  case measure => simp [intOf]; omega
      · obtain rfl : p = 32 := by omega
        go_wp2
        go_ret
        exact ⟨by simp, (HK.out.tr hkr).below⟩
theorem ckep_any {X : Sa} {S : St} {w : World} (h : Sat w X S) (hT : Tabb w) (c : Nat) (hc32 : c < 4294967296) (g : Int) {a : Option Addr} {n ca : Nat} {L : List Lk} (hA : Lks w a n L) (hc : Cap a n ca) : Calls Tryd.prog 5 #[siteV X S, .int .u32 (c : Int), .slice a n ca, .int .i64 g] w fun e w' => e = .returned (.bool true) ∧ Below w.heap.size w w' := by
  by_cases hl : 60 < n
  · exact ckep_long h hT c hc32 g hA hc hl
  cases hs : siteB S
  · exact ckep_site h hT c hc32 g hA hc (by omega) hs
  by_cases he : nexE S c L g = 0
  · exact ckep_go h hT c hc32 g hA hc (by omega) hs he
  · exact ckep_err h hT c hc32 g hA hc (by omega) hs _ rfl he

end Go.Proofs.YtjfajdmifjbblaaDoor
