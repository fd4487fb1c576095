/-
  THE WALK of CallRound (made by a program).
-/
import Derived.Test.YtjfajdmifjbblaaDoorCNeaW
namespace Go.Proofs.YtjfajdmifjbblaaDoor
open Go.RowKit Go.Lib Go.Deep
set_option linter.unusedVariables false
set_option linter.unusedSimpArgs false

set_option maxRecDepth 100000 in
set_option maxHeartbeats 2000000 in
theorem crou_site {X : Sa} {S : St} {w : World} (h : Sat w X S) (hT : Tabb w) (c : Nat) (hc32 : c < 4294967296) (g : Int) (hs : siteB S = false) : Calls Tryd.prog 6 #[siteV X S, .int .u32 (c : Int), .int .i64 g] w fun e w' => e = .returned (.bool true) ∧ Below w.heap.size w w' := by
  have hce : checkE S = 50 := by unfold checkE; rw [hs]; rfl
  have hkA : Kept w (w.alloc (.cells #[.int .i64 S.id, .slice X.g S.groups.length X.gc, .slice X.a S.apart.length X.ac, .slice X.b S.between.length X.bc, .slice X.p S.phases.length X.pc, .slice X.e S.eyes.length X.ec, .int .i64 S.watch, .int .i64 S.feed, .int .i64 S.heal, .int .i64 S.low, .int .i64 S.high, .slice X.l S.plans.length X.lc] 29)) none := Kept.alloc _ _ _ _ _
  have hsb := sbox_alloc h 29
  have HS := Hid.mk' (h.kept hkA)
  have HT := Hid.mk' (hT.kept hkA)
  have hE9 : S.eyes.length ≤ 9223372036854775807 := by have := h.ek.room; have := h.ek.max; omega
  have hP9 : S.phases.length ≤ 9223372036854775807 := by have := h.pk.room; have := h.pk.max; omega
  obtain ⟨WA, hWA⟩ : ∃ WA, (w.alloc (.cells #[.int .i64 S.id, .slice X.g S.groups.length X.gc, .slice X.a S.apart.length X.ac, .slice X.b S.between.length X.bc, .slice X.p S.phases.length X.pc, .slice X.e S.eyes.length X.ec, .int .i64 S.watch, .int .i64 S.feed, .int .i64 S.heal, .int .i64 S.low, .int .i64 S.high, .slice X.l S.plans.length X.lc] 29)) = WA := ⟨_, rfl⟩
  rw [hWA] at hkA hsb HS HT
  have hlA : w.heap.size < WA.heap.size := hsb.lt
  have HK := Hid.mk' hkA
  have HSB := Hid.mk' hsb
  have hK0 := Kept.refl WA none
  clear h hT hkA hsb
  have s0_ : ∀ w', Kept WA w' none → w'.cell? ⟨w.heap.size, 0, none⟩ = some (.int .i64 S.id) := fun w' q => (HSB.out.kept q).c0
  have s1_ : ∀ w', Kept WA w' none → w'.cell? ⟨w.heap.size, 1, none⟩ = some (.slice X.g S.groups.length X.gc) := fun w' q => (HSB.out.kept q).c1
  have s2_ : ∀ w', Kept WA w' none → w'.cell? ⟨w.heap.size, 2, none⟩ = some (.slice X.a S.apart.length X.ac) := fun w' q => (HSB.out.kept q).c2
  have s3_ : ∀ w', Kept WA w' none → w'.cell? ⟨w.heap.size, 3, none⟩ = some (.slice X.b S.between.length X.bc) := fun w' q => (HSB.out.kept q).c3
  have s4_ : ∀ w', Kept WA w' none → w'.cell? ⟨w.heap.size, 4, none⟩ = some (.slice X.p S.phases.length X.pc) := fun w' q => (HSB.out.kept q).c4
  have s5_ : ∀ w', Kept WA w' none → w'.cell? ⟨w.heap.size, 5, none⟩ = some (.slice X.e S.eyes.length X.ec) := fun w' q => (HSB.out.kept q).c5
  have s6_ : ∀ w', Kept WA w' none → w'.cell? ⟨w.heap.size, 6, none⟩ = some (.int .i64 S.watch) := fun w' q => (HSB.out.kept q).c6
  have s7_ : ∀ w', Kept WA w' none → w'.cell? ⟨w.heap.size, 7, none⟩ = some (.int .i64 S.feed) := fun w' q => (HSB.out.kept q).c7
  have s8_ : ∀ w', Kept WA w' none → w'.cell? ⟨w.heap.size, 8, none⟩ = some (.int .i64 S.heal) := fun w' q => (HSB.out.kept q).c8
  have s9_ : ∀ w', Kept WA w' none → w'.cell? ⟨w.heap.size, 9, none⟩ = some (.int .i64 S.low) := fun w' q => (HSB.out.kept q).c9
  have s10_ : ∀ w', Kept WA w' none → w'.cell? ⟨w.heap.size, 10, none⟩ = some (.int .i64 S.high) := fun w' q => (HSB.out.kept q).c10
  have s11_ : ∀ w', Kept WA w' none → w'.cell? ⟨w.heap.size, 11, none⟩ = some (.slice X.l S.plans.length X.lc) := fun w' q => (HSB.out.kept q).c11
  go_enter Tryd.func6, Tryd.ntmps6
  go_wp2_with (first | rw [hWA] | (go_at_call 13; refine (alive14_any HT.out).mono ?_; rintro e wv ⟨rfl, hkv⟩; have hKv : Kept WA wv none := hkv))
  go_at_call 14
  refine (rgreat_any (HS.out.kept hKv)).mono ?_
  rintro e wg ⟨gr, rfl, hgr, hkg⟩
  have hKg : Kept WA wg none := hKv.tr hkg
  clear hgr
  cases gr with
  | true =>
    go_wp2
    go_ret
    exact ⟨rfl, (HK.out.tr hKg).below⟩
  | false =>
    go_wp2_with (first | (go_at_call 19; have hx := check_any (HS.out.kept hKg) (HT.out.kept hKg); rw [hce] at hx; refine hx.mono ?_; rintro e wC ⟨rfl, hkC⟩; have hKC : Kept WA wC none := hKg.tr hkC; clear hx))
    go_ret
    exact ⟨by simp, (HK.out.tr hKC).below⟩
set_option maxRecDepth 100000 in
set_option maxHeartbeats 2000000 in
theorem crou_err {X : Sa} {S : St} {w : World} (h : Sat w X S) (hT : Tabb w) (c : Nat) (hc32 : c < 4294967296) (g : Int) (hs : siteB S = true) (E : Int) (he : firE S c g = E) (h0 : E ≠ 0) : Calls Tryd.prog 6 #[siteV X S, .int .u32 (c : Int), .int .i64 g] w fun e w' => e = .returned (.bool true) ∧ Below w.heap.size w w' := by
  have hce : checkE S = 0 := by unfold checkE; rw [hs]; rfl
  have HE := Hid.mk' he
  have HV : Hid (fstV S c g = 0) := fst_no (by rw [he]; exact h0)
  have hEb : (E != 0) = true := by simpa using h0
  clear he hs h0
  have hkA : Kept w (w.alloc (.cells #[.int .i64 S.id, .slice X.g S.groups.length X.gc, .slice X.a S.apart.length X.ac, .slice X.b S.between.length X.bc, .slice X.p S.phases.length X.pc, .slice X.e S.eyes.length X.ec, .int .i64 S.watch, .int .i64 S.feed, .int .i64 S.heal, .int .i64 S.low, .int .i64 S.high, .slice X.l S.plans.length X.lc] 29)) none := Kept.alloc _ _ _ _ _
  have hsb := sbox_alloc h 29
  have HS := Hid.mk' (h.kept hkA)
  have HT := Hid.mk' (hT.kept hkA)
  have hE9 : S.eyes.length ≤ 9223372036854775807 := by have := h.ek.room; have := h.ek.max; omega
  have hP9 : S.phases.length ≤ 9223372036854775807 := by have := h.pk.room; have := h.pk.max; omega
  obtain ⟨WA, hWA⟩ : ∃ WA, (w.alloc (.cells #[.int .i64 S.id, .slice X.g S.groups.length X.gc, .slice X.a S.apart.length X.ac, .slice X.b S.between.length X.bc, .slice X.p S.phases.length X.pc, .slice X.e S.eyes.length X.ec, .int .i64 S.watch, .int .i64 S.feed, .int .i64 S.heal, .int .i64 S.low, .int .i64 S.high, .slice X.l S.plans.length X.lc] 29)) = WA := ⟨_, rfl⟩
  rw [hWA] at hkA hsb HS HT
  have hlA : w.heap.size < WA.heap.size := hsb.lt
  have HK := Hid.mk' hkA
  have HSB := Hid.mk' hsb
  have hK0 := Kept.refl WA none
  clear h hT hkA hsb
  have s0_ : ∀ w', Kept WA w' none → w'.cell? ⟨w.heap.size, 0, none⟩ = some (.int .i64 S.id) := fun w' q => (HSB.out.kept q).c0
  have s1_ : ∀ w', Kept WA w' none → w'.cell? ⟨w.heap.size, 1, none⟩ = some (.slice X.g S.groups.length X.gc) := fun w' q => (HSB.out.kept q).c1
  have s2_ : ∀ w', Kept WA w' none → w'.cell? ⟨w.heap.size, 2, none⟩ = some (.slice X.a S.apart.length X.ac) := fun w' q => (HSB.out.kept q).c2
  have s3_ : ∀ w', Kept WA w' none → w'.cell? ⟨w.heap.size, 3, none⟩ = some (.slice X.b S.between.length X.bc) := fun w' q => (HSB.out.kept q).c3
  have s4_ : ∀ w', Kept WA w' none → w'.cell? ⟨w.heap.size, 4, none⟩ = some (.slice X.p S.phases.length X.pc) := fun w' q => (HSB.out.kept q).c4
  have s5_ : ∀ w', Kept WA w' none → w'.cell? ⟨w.heap.size, 5, none⟩ = some (.slice X.e S.eyes.length X.ec) := fun w' q => (HSB.out.kept q).c5
  have s6_ : ∀ w', Kept WA w' none → w'.cell? ⟨w.heap.size, 6, none⟩ = some (.int .i64 S.watch) := fun w' q => (HSB.out.kept q).c6
  have s7_ : ∀ w', Kept WA w' none → w'.cell? ⟨w.heap.size, 7, none⟩ = some (.int .i64 S.feed) := fun w' q => (HSB.out.kept q).c7
  have s8_ : ∀ w', Kept WA w' none → w'.cell? ⟨w.heap.size, 8, none⟩ = some (.int .i64 S.heal) := fun w' q => (HSB.out.kept q).c8
  have s9_ : ∀ w', Kept WA w' none → w'.cell? ⟨w.heap.size, 9, none⟩ = some (.int .i64 S.low) := fun w' q => (HSB.out.kept q).c9
  have s10_ : ∀ w', Kept WA w' none → w'.cell? ⟨w.heap.size, 10, none⟩ = some (.int .i64 S.high) := fun w' q => (HSB.out.kept q).c10
  have s11_ : ∀ w', Kept WA w' none → w'.cell? ⟨w.heap.size, 11, none⟩ = some (.slice X.l S.plans.length X.lc) := fun w' q => (HSB.out.kept q).c11
  go_enter Tryd.func6, Tryd.ntmps6
  go_wp2_with (first | rw [hWA] | (go_at_call 13; refine (alive14_any HT.out).mono ?_; rintro e wv ⟨rfl, hkv⟩; have hKv : Kept WA wv none := hkv))
  go_at_call 14
  refine (rgreat_any (HS.out.kept hKv)).mono ?_
  rintro e wg ⟨gr, rfl, hgr, hkg⟩
  have hKg : Kept WA wg none := hKv.tr hkg
  clear hgr
  cases gr with
  | true =>
    go_wp2
    go_ret
    exact ⟨rfl, (HK.out.tr hKg).below⟩
  | false =>
    go_wp2_with (first | (have hgo := hKC; clear hgo; go_at_call 12; have hx := cfst_any (HS.out.kept hKC) (HT.out.kept hKC) c hc32 g; rw [HE.out, HV.out] at hx; refine hx.mono ?_; rintro e wD ⟨rfl, hkD⟩; have hKD : Kept WA wD none := hKC.tr hkD; clear hx) | (go_at_call 19; have hx := check_any (HS.out.kept hKg) (HT.out.kept hKg); rw [hce] at hx; refine hx.mono ?_; rintro e wC ⟨rfl, hkC⟩; have hKC : Kept WA wC none := hKg.tr hkC; clear hx))
    go_ret
    exact ⟨by simp, (HK.out.tr hKD).below⟩
set_option maxRecDepth 100000 in
set_option maxHeartbeats 2000000 in
theorem crou_none {X : Sa} {S : St} {w : World} (h : Sat w X S) (hT : Tabb w) (c : Nat) (hc32 : c < 4294967296) (g : Int) (hs : siteB S = true) (he : firE S c g = 0) (h0 : c = 0) : Calls Tryd.prog 6 #[siteV X S, .int .u32 (c : Int), .int .i64 g] w fun e w' => e = .returned (.bool true) ∧ Below w.heap.size w w' := by
  have hce : checkE S = 0 := by unfold checkE; rw [hs]; rfl
  have HE := Hid.mk' he
  have HV : Hid (fstV S c g = -1) := by show _ = _; rw [fst_is he, h0, firV_zero]
  clear he hs
  have hc0 : (((c : Int) == 0) : Bool) = true := by rw [h0]; rfl
  clear h0
  have hkA : Kept w (w.alloc (.cells #[.int .i64 S.id, .slice X.g S.groups.length X.gc, .slice X.a S.apart.length X.ac, .slice X.b S.between.length X.bc, .slice X.p S.phases.length X.pc, .slice X.e S.eyes.length X.ec, .int .i64 S.watch, .int .i64 S.feed, .int .i64 S.heal, .int .i64 S.low, .int .i64 S.high, .slice X.l S.plans.length X.lc] 29)) none := Kept.alloc _ _ _ _ _
  have hsb := sbox_alloc h 29
  have HS := Hid.mk' (h.kept hkA)
  have HT := Hid.mk' (hT.kept hkA)
  have hE9 : S.eyes.length ≤ 9223372036854775807 := by have := h.ek.room; have := h.ek.max; omega
  have hP9 : S.phases.length ≤ 9223372036854775807 := by have := h.pk.room; have := h.pk.max; omega
  obtain ⟨WA, hWA⟩ : ∃ WA, (w.alloc (.cells #[.int .i64 S.id, .slice X.g S.groups.length X.gc, .slice X.a S.apart.length X.ac, .slice X.b S.between.length X.bc, .slice X.p S.phases.length X.pc, .slice X.e S.eyes.length X.ec, .int .i64 S.watch, .int .i64 S.feed, .int .i64 S.heal, .int .i64 S.low, .int .i64 S.high, .slice X.l S.plans.length X.lc] 29)) = WA := ⟨_, rfl⟩
  rw [hWA] at hkA hsb HS HT
  have hlA : w.heap.size < WA.heap.size := hsb.lt
  have HK := Hid.mk' hkA
  have HSB := Hid.mk' hsb
  have hK0 := Kept.refl WA none
  clear h hT hkA hsb
  have s0_ : ∀ w', Kept WA w' none → w'.cell? ⟨w.heap.size, 0, none⟩ = some (.int .i64 S.id) := fun w' q => (HSB.out.kept q).c0
  have s1_ : ∀ w', Kept WA w' none → w'.cell? ⟨w.heap.size, 1, none⟩ = some (.slice X.g S.groups.length X.gc) := fun w' q => (HSB.out.kept q).c1
  have s2_ : ∀ w', Kept WA w' none → w'.cell? ⟨w.heap.size, 2, none⟩ = some (.slice X.a S.apart.length X.ac) := fun w' q => (HSB.out.kept q).c2
  have s3_ : ∀ w', Kept WA w' none → w'.cell? ⟨w.heap.size, 3, none⟩ = some (.slice X.b S.between.length X.bc) := fun w' q => (HSB.out.kept q).c3
  have s4_ : ∀ w', Kept WA w' none → w'.cell? ⟨w.heap.size, 4, none⟩ = some (.slice X.p S.phases.length X.pc) := fun w' q => (HSB.out.kept q).c4
  have s5_ : ∀ w', Kept WA w' none → w'.cell? ⟨w.heap.size, 5, none⟩ = some (.slice X.e S.eyes.length X.ec) := fun w' q => (HSB.out.kept q).c5
  have s6_ : ∀ w', Kept WA w' none → w'.cell? ⟨w.heap.size, 6, none⟩ = some (.int .i64 S.watch) := fun w' q => (HSB.out.kept q).c6
  have s7_ : ∀ w', Kept WA w' none → w'.cell? ⟨w.heap.size, 7, none⟩ = some (.int .i64 S.feed) := fun w' q => (HSB.out.kept q).c7
  have s8_ : ∀ w', Kept WA w' none → w'.cell? ⟨w.heap.size, 8, none⟩ = some (.int .i64 S.heal) := fun w' q => (HSB.out.kept q).c8
  have s9_ : ∀ w', Kept WA w' none → w'.cell? ⟨w.heap.size, 9, none⟩ = some (.int .i64 S.low) := fun w' q => (HSB.out.kept q).c9
  have s10_ : ∀ w', Kept WA w' none → w'.cell? ⟨w.heap.size, 10, none⟩ = some (.int .i64 S.high) := fun w' q => (HSB.out.kept q).c10
  have s11_ : ∀ w', Kept WA w' none → w'.cell? ⟨w.heap.size, 11, none⟩ = some (.slice X.l S.plans.length X.lc) := fun w' q => (HSB.out.kept q).c11
  go_enter Tryd.func6, Tryd.ntmps6
  go_wp2_with (first | rw [hWA] | (go_at_call 13; refine (alive14_any HT.out).mono ?_; rintro e wv ⟨rfl, hkv⟩; have hKv : Kept WA wv none := hkv))
  go_at_call 14
  refine (rgreat_any (HS.out.kept hKv)).mono ?_
  rintro e wg ⟨gr, rfl, hgr, hkg⟩
  have hKg : Kept WA wg none := hKv.tr hkg
  clear hgr
  cases gr with
  | true =>
    go_wp2
    go_ret
    exact ⟨rfl, (HK.out.tr hKg).below⟩
  | false =>
    go_wp2_with (first | (have hgo := hKC; clear hgo; go_at_call 12; have hx := cfst_any (HS.out.kept hKC) (HT.out.kept hKC) c hc32 g; rw [HE.out, HV.out] at hx; refine hx.mono ?_; rintro e wD ⟨rfl, hkD⟩; have hKD : Kept WA wD none := hKC.tr hkD; clear hx) | (go_at_call 19; have hx := check_any (HS.out.kept hKg) (HT.out.kept hKg); rw [hce] at hx; refine hx.mono ?_; rintro e wC ⟨rfl, hkC⟩; have hKC : Kept WA wC none := hKg.tr hkC; clear hx))
    go_ret
    exact ⟨by simp, (HK.out.tr hKD).below⟩
/-- Where going round has come to: K met, those of them told. -/
structure Rou (c n q : Nat) (V : Int) (K T : Nat) (p : Int) : Prop where
  le : K ≤ n
  told : T = setR c n q K
  at_ : (K < n ∧ atR c n q K = true ∧ p = (((q + K) % n : Nat) : Int)) ∨ (K = n ∧ p = V)
set_option maxRecDepth 100000 in
set_option maxHeartbeats 2000000 in
theorem crou_go {X : Sa} {S : St} {w : World} (h : Sat w X S) (hT : Tabb w) (c : Nat) (hc32 : c < 4294967296) (g : Int) (hs : siteB S = true) (he : firE S c g = 0) (h0 : c ≠ 0) : Calls Tryd.prog 6 #[siteV X S, .int .u32 (c : Int), .int .i64 g] w fun e w' => e = .returned (.bool true) ∧ Below w.heap.size w w' := by
  have hce : checkE S = 0 := by unfold checkE; rw [hs]; rfl
  have HE := Hid.mk' he
  obtain ⟨h1, h2⟩ := firE_zero he
  obtain ⟨h3, h4, h5⟩ := calE_zero h2
  obtain ⟨K0, hK0', hv, hb, hno⟩ := firV_some h3 h0 (g + 1).toNat
  have hp8 := (cal_facts hs).p1
  have hp1 := (cal_facts hs).p0
  obtain ⟨V, hV⟩ : ∃ V, V = firV c S.phases.length (g + 1).toNat := ⟨_, rfl⟩
  have HV : Hid (fstV S c g = V) := by show _ = _; rw [fst_is he, hV]
  obtain ⟨q, hq⟩ : ∃ q, q = (g + 1).toNat := ⟨_, rfl⟩
  rw [← hq] at hV hb hno hv
  have HV3 := Hid.mk' hV
  have HR0 : Hid (Rou c S.phases.length q V K0 0 V) := ⟨by omega, by
    have := setR_skip (c := c) (n := S.phases.length) (q := q) (k := 0) K0 (fun j _ hj => hno j (by omega))
    rw [Nat.zero_add] at this
    rw [this]
    rfl, .inl ⟨hK0', hb, by rw [hV, hv]⟩⟩
  have HSI := Hid.mk' hs
  have HC := Hid.mk' h3
  have hc0 : (((c : Int) == 0) : Bool) = false := by simp; omega
  clear he hs h0 h1 h2 h3 hb hno hv hq hV
  have hkA : Kept w (w.alloc (.cells #[.int .i64 S.id, .slice X.g S.groups.length X.gc, .slice X.a S.apart.length X.ac, .slice X.b S.between.length X.bc, .slice X.p S.phases.length X.pc, .slice X.e S.eyes.length X.ec, .int .i64 S.watch, .int .i64 S.feed, .int .i64 S.heal, .int .i64 S.low, .int .i64 S.high, .slice X.l S.plans.length X.lc] 29)) none := Kept.alloc _ _ _ _ _
  have hsb := sbox_alloc h 29
  have HS := Hid.mk' (h.kept hkA)
  have HT := Hid.mk' (hT.kept hkA)
  have hE9 : S.eyes.length ≤ 9223372036854775807 := by have := h.ek.room; have := h.ek.max; omega
  have hP9 : S.phases.length ≤ 9223372036854775807 := by have := h.pk.room; have := h.pk.max; omega
  obtain ⟨WA, hWA⟩ : ∃ WA, (w.alloc (.cells #[.int .i64 S.id, .slice X.g S.groups.length X.gc, .slice X.a S.apart.length X.ac, .slice X.b S.between.length X.bc, .slice X.p S.phases.length X.pc, .slice X.e S.eyes.length X.ec, .int .i64 S.watch, .int .i64 S.feed, .int .i64 S.heal, .int .i64 S.low, .int .i64 S.high, .slice X.l S.plans.length X.lc] 29)) = WA := ⟨_, rfl⟩
  rw [hWA] at hkA hsb HS HT
  have hlA : w.heap.size < WA.heap.size := hsb.lt
  have HK := Hid.mk' hkA
  have HSB := Hid.mk' hsb
  have hK0 := Kept.refl WA none
  clear h hT hkA hsb
  have s0_ : ∀ w', Kept WA w' none → w'.cell? ⟨w.heap.size, 0, none⟩ = some (.int .i64 S.id) := fun w' q => (HSB.out.kept q).c0
  have s1_ : ∀ w', Kept WA w' none → w'.cell? ⟨w.heap.size, 1, none⟩ = some (.slice X.g S.groups.length X.gc) := fun w' q => (HSB.out.kept q).c1
  have s2_ : ∀ w', Kept WA w' none → w'.cell? ⟨w.heap.size, 2, none⟩ = some (.slice X.a S.apart.length X.ac) := fun w' q => (HSB.out.kept q).c2
  have s3_ : ∀ w', Kept WA w' none → w'.cell? ⟨w.heap.size, 3, none⟩ = some (.slice X.b S.between.length X.bc) := fun w' q => (HSB.out.kept q).c3
  have s4_ : ∀ w', Kept WA w' none → w'.cell? ⟨w.heap.size, 4, none⟩ = some (.slice X.p S.phases.length X.pc) := fun w' q => (HSB.out.kept q).c4
  have s5_ : ∀ w', Kept WA w' none → w'.cell? ⟨w.heap.size, 5, none⟩ = some (.slice X.e S.eyes.length X.ec) := fun w' q => (HSB.out.kept q).c5
  have s6_ : ∀ w', Kept WA w' none → w'.cell? ⟨w.heap.size, 6, none⟩ = some (.int .i64 S.watch) := fun w' q => (HSB.out.kept q).c6
  have s7_ : ∀ w', Kept WA w' none → w'.cell? ⟨w.heap.size, 7, none⟩ = some (.int .i64 S.feed) := fun w' q => (HSB.out.kept q).c7
  have s8_ : ∀ w', Kept WA w' none → w'.cell? ⟨w.heap.size, 8, none⟩ = some (.int .i64 S.heal) := fun w' q => (HSB.out.kept q).c8
  have s9_ : ∀ w', Kept WA w' none → w'.cell? ⟨w.heap.size, 9, none⟩ = some (.int .i64 S.low) := fun w' q => (HSB.out.kept q).c9
  have s10_ : ∀ w', Kept WA w' none → w'.cell? ⟨w.heap.size, 10, none⟩ = some (.int .i64 S.high) := fun w' q => (HSB.out.kept q).c10
  have s11_ : ∀ w', Kept WA w' none → w'.cell? ⟨w.heap.size, 11, none⟩ = some (.slice X.l S.plans.length X.lc) := fun w' q => (HSB.out.kept q).c11
  go_enter Tryd.func6, Tryd.ntmps6
  go_wp2_with (first | rw [hWA] | (go_at_call 13; refine (alive14_any HT.out).mono ?_; rintro e wv ⟨rfl, hkv⟩; have hKv : Kept WA wv none := hkv))
  go_at_call 14
  refine (rgreat_any (HS.out.kept hKv)).mono ?_
  rintro e wg ⟨gr, rfl, hgr, hkg⟩
  have hKg : Kept WA wg none := hKv.tr hkg
  clear hgr
  cases gr with
  | true =>
    go_wp2
    go_ret
    exact ⟨rfl, (HK.out.tr hKg).below⟩
  | false =>
    go_wp2_with (first | (have hgo := hKC; clear hgo; go_at_call 12; have hx := cfst_any (HS.out.kept hKC) (HT.out.kept hKC) c hc32 g; rw [HE.out, HV.out] at hx; refine hx.mono ?_; rintro e wD ⟨rfl, hkD⟩; have hKD : Kept WA wD none := hKC.tr hkD; clear hx) | (go_at_call 19; have hx := check_any (HS.out.kept hKg) (HT.out.kept hKg); rw [hce] at hx; refine hx.mono ?_; rintro e wC ⟨rfl, hkC⟩; have hKC : Kept WA wC none := hKg.tr hkC; clear hx))
    have hz0 : (0 : Int) = ((0 : Nat) : Int) := rfl
    go_loopw [8, 10, 11, 12] (fun pv tv _ _ wr => ∃ (K T : Nat) (p : Int), pv = .int .i64 p ∧ tv = .int .u32 (T : Int) ∧ Rou c S.phases.length q V K T p ∧ Kept WA wr none ∧ K ≤ S.phases.length) (fun _ tv _ _ _ => 4294967296 - (intOf tv).toNat)
    case atStart => exact ⟨K0, 0, V, rfl, rfl, HR0.out, hKD, by omega⟩
    case round =>
      clear hz0
      obtain ⟨K, T, p, rfl, rfl, hR, hkr, hKn⟩ := hrel
      have HR := Hid.mk' hR
      have hT9 : T < 4294967296 := by rw [hR.told]; exact setR_lt _ _ _ _
      clear hR
      rcases HR.out.at_ with ⟨hK, hb, hp⟩ | ⟨hK, hp⟩
      · obtain ⟨M, hM⟩ : ∃ M, M = (q + K) % S.phases.length := ⟨_, rfl⟩
        have hMn : M < S.phases.length := by rw [hM]; exact Nat.mod_lt _ (by omega)
        have hM32 : M < 32 := by omega
        have hcb : c.testBit M = true := by rw [hM]; exact hb
        have htb : T.testBit M = false := by rw [hM, HR.out.told]; exact setR_not (by omega) (by omega) hK
        have hne : ((T : Int) != (c : Int)) = true := by
          have : T ≠ c := fun e => by rw [e, hcb] at htb; cases htb
          simp
          omega
        obtain ⟨K', hk1, hk2, hk3, hk4⟩ := round_step (c := c) (n := S.phases.length) (q := q) (by omega) (by omega) HC.out hK hb
        rw [← HR.out.told, ← hM] at hk3
        rw [← hM] at hk4
        have hor := or_shift hT9 hM32
        have hgt : T < withV T (M : Int) := by
          rw [with_in hM32, or_pow_no T M htb]
          have := Nat.two_pow_pos M
          omega
        have hT2 := withV_lt hT9 (M : Int)
        have HE2 : Hid (firE S c (M : Int) = 0) := firE_ok HSI.out HC.out (by omega) (by omega)
        obtain ⟨P, hP⟩ : ∃ P, P = firV c S.phases.length (M + 1) := ⟨_, rfl⟩
        have HV2 : Hid (fstV S c (M : Int) = P) := by show _ = _; rw [fst_is HE2.out, hP, show ((M : Int) + 1).toNat = M + 1 by omega]
        have HR2 : Hid (Rou c S.phases.length q V K' (withV T (M : Int)) P) := ⟨hk2, hk3, by
          rcases hk4 with ⟨a, b, d⟩ | ⟨a, b⟩
          · exact .inl ⟨a, b, by rw [hP, d]⟩
          · exact .inr ⟨a, by rw [hP, b, HV3.out]⟩⟩
        have hb1 := bit_not c M
        have hb2 := bit_nott c M
        have hb3 := bit_is T M
        have hb4 := has_ref T M
        rw [hcb] at hb1 hb2
        rw [htb] at hb3 hb4
        obtain rfl : p = (M : Int) := by rw [hp, hM]
        have HLE := Hid.mk' hk2
        clear hp hM hcb htb hk1 hk2 hk3 hk4 hP hb
        have mm := Hid.mk' trivial
        generalize withV T (M : Int) = T2 at *
        go_wp2_with (have hgo := mm; clear hgo; go_at_call 12; have hx := cfst_any (HS.out.kept hkr) (HT.out.kept hkr) c hc32 (M : Int); rw [HE2.out, HV2.out] at hx; refine hx.mono ?_; rintro e wE ⟨rfl, hkE⟩; have hKE : Kept WA wE none := hkr.tr hkE; clear hx mm)
        go_roundw
        case rel => exact ⟨K', T2, P, rfl, rfl, HR2.out, hKE, HLE.out⟩
        case measure => simp [intOf]; omega
      · have hTc : c = T := by rw [HR.out.told, hK]; exact (setR_full (by omega) (by omega) HC.out).symm
        subst hTc
        have hpV := hp.symm
        clear hp
        subst hpV
        go_wp2_with (go_at_call 12; have hx := cfst_any (HS.out.kept hkr) (HT.out.kept hkr) c hc32 g; rw [HE.out, HV.out] at hx; refine hx.mono ?_; rintro e wE ⟨rfl, hkE⟩; have hKE : Kept WA wE none := hkr.tr hkE; clear hx)
        go_ret
        exact ⟨by simp, (HK.out.tr hKE).below⟩
theorem crou_any {X : Sa} {S : St} {w : World} (h : Sat w X S) (hT : Tabb w) (c : Nat) (hc32 : c < 4294967296) (g : Int) : Calls Tryd.prog 6 #[siteV X S, .int .u32 (c : Int), .int .i64 g] w fun e w' => e = .returned (.bool true) ∧ Below w.heap.size w w' := by
  cases hs : siteB S
  · exact crou_site h hT c hc32 g hs
  by_cases he : firE S c g = 0
  · by_cases h0 : c = 0
    · exact crou_none h hT c hc32 g hs he h0
    · exact crou_go h hT c hc32 g hs he h0
  · exact crou_err h hT c hc32 g hs _ rfl he

end Go.Proofs.YtjfajdmifjbblaaDoor
