/-
  Texts joined: some of those that the proofs of this seat stand on.
-/
import Derived.Test.YtjfajdmifjbblaaDoorCallRJ
import Derived.Test.YtjfajdmifjbblaaDoorCallF
import Derived.Test.YtjfajdmifjbblaaDoorRefG
import Derived.Laws.StructEq
import Derived.Deep.OwnRows
import Derived.OwnWalk
/-
  THE WALK of CallTells (made by a program).
-/
namespace Go.Proofs.YtjfajdmifjbblaaDoor
open Go.RowKit Go.Lib Go.Deep
set_option linter.unusedVariables false
set_option linter.unusedSimpArgs false

theorem Tryd.infoLooked : (Tryd.prog.info? 56).map (fun i => (i.zero, i.size, i.bytes)) = some (some (.agg #[.bool false, .int .i64 0, .int .u64 0, .bool false, .int .i64 0]), 5, 40) := by kernel_rfl
set_option maxRecDepth 100000 in
set_option maxHeartbeats 2000000 in
theorem ctel_long {X : Sa} {S : St} {w : World} (h : Sat w X S) (hT : Tabb w) (c : Nat) (hc32 : c < 4294967296) (g : Int) {a : Option Addr} {n ca : Nat} {L : List Lk} (hA : Lks w a n L) (hc : Cap a n ca) (hl : 60 < n) : Calls Tryd.prog 4 #[siteV X S, .int .u32 (c : Int), .slice a n ca, .int .i64 g] w fun e w' => e = .returned (.bool true) ∧ Below w.heap.size w w' := by
  have hlb : decide ((60 : Int) < (n : Int)) = true := by simp; omega
  have hkA : Kept w (w.alloc (.cells #[.int .i64 S.id, .slice X.g S.groups.length X.gc, .slice X.a S.apart.length X.ac, .slice X.b S.between.length X.bc, .slice X.p S.phases.length X.pc, .slice X.e S.eyes.length X.ec, .int .i64 S.watch, .int .i64 S.feed, .int .i64 S.heal, .int .i64 S.low, .int .i64 S.high, .slice X.l S.plans.length X.lc] 29)) none := Kept.alloc _ _ _ _ _
  have hsb := sbox_alloc h 29
  have HS := Hid.mk' (h.kept hkA)
  have HT := Hid.mk' (hT.kept hkA)
  have HA := Hid.mk' (hA.kept hkA)
  have HSZ := Hid.mk' hA.size
  have hn9 : n ≤ 9223372036854775807 := by have := hc.room; have := hc.max; omega
  have hE9 : S.eyes.length ≤ 9223372036854775807 := by have := h.ek.room; have := h.ek.max; omega
  have hP9 : S.phases.length ≤ 9223372036854775807 := by have := h.pk.room; have := h.pk.max; omega
  obtain ⟨WA, hWA⟩ : ∃ WA, (w.alloc (.cells #[.int .i64 S.id, .slice X.g S.groups.length X.gc, .slice X.a S.apart.length X.ac, .slice X.b S.between.length X.bc, .slice X.p S.phases.length X.pc, .slice X.e S.eyes.length X.ec, .int .i64 S.watch, .int .i64 S.feed, .int .i64 S.heal, .int .i64 S.low, .int .i64 S.high, .slice X.l S.plans.length X.lc] 29)) = WA := ⟨_, rfl⟩
  rw [hWA] at hkA hsb HS HT HA
  have hlA : w.heap.size < WA.heap.size := hsb.lt
  have HK := Hid.mk' hkA
  have HSB := Hid.mk' hsb
  have hK0 := Kept.refl WA none
  clear h hT hA hkA hsb
  have s0_ : ∀ w', Kept WA w' none → w'.cell? ⟨w.heap.size, 0, none⟩ = some (.int .i64 S.id) := fun w' q => (HSB.out.kept q).c0
  have s1_ : ∀ w', Kept WA w' none → w'.cell? ⟨w.heap.size, 1, none⟩ = some (.slice X.g S.groups.length X.gc) := fun w' q => (HSB.out.kept q).c1
  have s2_ : ∀ w', Kept WA w' none → w'.cell? ⟨w.heap.size, 2, none⟩ = some (.slice X.a S.apart.length X.ac) := fun w' q => (HSB.out.kept q).c2
  have s3_ : ∀ w', Kept WA w' none → w'.cell? ⟨w.heap.size, 3, none⟩ = some (.slice X.b S.between.length X.bc) := fun w' q => (HSB.out.kept q).c3
  have s4_ : ∀ w', Kept WA w' none → w'.cell? ⟨w.heap.size, 4, none⟩ = some (.slice X.p S.phases.length X.pc) := fun w' q => (HSB.out.kept q).c4
  have s5_ : ∀ w', Kept WA w' none → w'.cell? ⟨w.heap.size, 5, none⟩ = some (.slice X.e S.eyes.length X.ec) := fun w' q => (HSB.out.kept q).c5
  have s6_ : ∀ w', Kept WA w' none → w'.cell? ⟨w.heap.size, 6, none⟩ = some (.int .i64 S.watch) := fun w' q => (HSB.out.kept q).c6
  have s7_ : ∀ w', Kept WA w' none → w'.cell? ⟨w.heap.size, 7, none⟩ = some (.int .i64 S.feed) := fun w' q => (HSB.out.kept q).c7
  have s8_ : ∀ w', Kept WA w' none → w'.cell? ⟨w.heap.size, 8, none⟩ = some (.int .i64 S.heal) := fun w' q => (HSB.out.kept q).c8
  have s9_ : ∀ w', Kept WA w' none → w'.cell? ⟨w.heap.size, 9, none⟩ = some (.int .i64 S.low) := fun w' q => (HSB.out.kept q).c9
  have s10_ : ∀ w', Kept WA w' none → w'.cell? ⟨w.heap.size, 10, none⟩ = some (.int .i64 S.high) := fun w' q => (HSB.out.kept q).c10
  have s11_ : ∀ w', Kept WA w' none → w'.cell? ⟨w.heap.size, 11, none⟩ = some (.slice X.l S.plans.length X.lc) := fun w' q => (HSB.out.kept q).c11
  go_enter Tryd.func4, Tryd.ntmps4
  go_wp2_with (first | rw [hWA])
  go_at_call 14
  refine (rgreat_any HS.out).mono ?_
  rintro e wg ⟨gr, rfl, hgr, hkg⟩
  have hKg : Kept WA wg none := hkg
  clear hgr
  cases gr with
  | true =>
    go_wp2
    go_ret
    exact ⟨rfl, (HK.out.tr hKg).below⟩
  | false =>
    go_wp2
    go_ret
    exact ⟨rfl, (HK.out.tr hKg).below⟩
set_option maxRecDepth 100000 in
set_option maxHeartbeats 2000000 in
theorem ctel_go {X : Sa} {S : St} {w : World} (h : Sat w X S) (hT : Tabb w) (c : Nat) (hc32 : c < 4294967296) (g : Int) {a : Option Addr} {n ca : Nat} {L : List Lk} (hA : Lks w a n L) (hc : Cap a n ca) (hl : n ≤ 60) : Calls Tryd.prog 4 #[siteV X S, .int .u32 (c : Int), .slice a n ca, .int .i64 g] w fun e w' => e = .returned (.bool true) ∧ Below w.heap.size w w' := by
  have hlb : decide ((60 : Int) < (n : Int)) = false := by simp; omega
  obtain ⟨it, hit, hz0, hz1, hz2⟩ := info_parts Tryd.infoLooked
  have HAw := Hid.mk' hA
  have hkA : Kept w (w.alloc (.cells #[.int .i64 S.id, .slice X.g S.groups.length X.gc, .slice X.a S.apart.length X.ac, .slice X.b S.between.length X.bc, .slice X.p S.phases.length X.pc, .slice X.e S.eyes.length X.ec, .int .i64 S.watch, .int .i64 S.feed, .int .i64 S.heal, .int .i64 S.low, .int .i64 S.high, .slice X.l S.plans.length X.lc] 29)) none := Kept.alloc _ _ _ _ _
  have hsb := sbox_alloc h 29
  have HS := Hid.mk' (h.kept hkA)
  have HT := Hid.mk' (hT.kept hkA)
  have HA := Hid.mk' (hA.kept hkA)
  have HSZ := Hid.mk' hA.size
  have hn9 : n ≤ 9223372036854775807 := by have := hc.room; have := hc.max; omega
  have hE9 : S.eyes.length ≤ 9223372036854775807 := by have := h.ek.room; have := h.ek.max; omega
  have hP9 : S.phases.length ≤ 9223372036854775807 := by have := h.pk.room; have := h.pk.max; omega
  obtain ⟨WA, hWA⟩ : ∃ WA, (w.alloc (.cells #[.int .i64 S.id, .slice X.g S.groups.length X.gc, .slice X.a S.apart.length X.ac, .slice X.b S.between.length X.bc, .slice X.p S.phases.length X.pc, .slice X.e S.eyes.length X.ec, .int .i64 S.watch, .int .i64 S.feed, .int .i64 S.heal, .int .i64 S.low, .int .i64 S.high, .slice X.l S.plans.length X.lc] 29)) = WA := ⟨_, rfl⟩
  rw [hWA] at hkA hsb HS HT HA
  have hlA : w.heap.size < WA.heap.size := hsb.lt
  have HK := Hid.mk' hkA
  have HSB := Hid.mk' hsb
  have hK0 := Kept.refl WA none
  clear h hT hA hkA hsb
  have s0_ : ∀ w', Kept WA w' none → w'.cell? ⟨w.heap.size, 0, none⟩ = some (.int .i64 S.id) := fun w' q => (HSB.out.kept q).c0
  have s1_ : ∀ w', Kept WA w' none → w'.cell? ⟨w.heap.size, 1, none⟩ = some (.slice X.g S.groups.length X.gc) := fun w' q => (HSB.out.kept q).c1
  have s2_ : ∀ w', Kept WA w' none → w'.cell? ⟨w.heap.size, 2, none⟩ = some (.slice X.a S.apart.length X.ac) := fun w' q => (HSB.out.kept q).c2
  have s3_ : ∀ w', Kept WA w' none → w'.cell? ⟨w.heap.size, 3, none⟩ = some (.slice X.b S.between.length X.bc) := fun w' q => (HSB.out.kept q).c3
  have s4_ : ∀ w', Kept WA w' none → w'.cell? ⟨w.heap.size, 4, none⟩ = some (.slice X.p S.phases.length X.pc) := fun w' q => (HSB.out.kept q).c4
  have s5_ : ∀ w', Kept WA w' none → w'.cell? ⟨w.heap.size, 5, none⟩ = some (.slice X.e S.eyes.length X.ec) := fun w' q => (HSB.out.kept q).c5
  have s6_ : ∀ w', Kept WA w' none → w'.cell? ⟨w.heap.size, 6, none⟩ = some (.int .i64 S.watch) := fun w' q => (HSB.out.kept q).c6
  have s7_ : ∀ w', Kept WA w' none → w'.cell? ⟨w.heap.size, 7, none⟩ = some (.int .i64 S.feed) := fun w' q => (HSB.out.kept q).c7
  have s8_ : ∀ w', Kept WA w' none → w'.cell? ⟨w.heap.size, 8, none⟩ = some (.int .i64 S.heal) := fun w' q => (HSB.out.kept q).c8
  have s9_ : ∀ w', Kept WA w' none → w'.cell? ⟨w.heap.size, 9, none⟩ = some (.int .i64 S.low) := fun w' q => (HSB.out.kept q).c9
  have s10_ : ∀ w', Kept WA w' none → w'.cell? ⟨w.heap.size, 10, none⟩ = some (.int .i64 S.high) := fun w' q => (HSB.out.kept q).c10
  have s11_ : ∀ w', Kept WA w' none → w'.cell? ⟨w.heap.size, 11, none⟩ = some (.slice X.l S.plans.length X.lc) := fun w' q => (HSB.out.kept q).c11
  go_enter Tryd.func4, Tryd.ntmps4
  go_wp2_with (first | rw [hWA])
  go_at_call 14
  refine (rgreat_any HS.out).mono ?_
  rintro e wg ⟨gr, rfl, hgr, hkg⟩
  have hKg : Kept WA wg none := hkg
  clear hgr
  cases gr with
  | true =>
    go_wp2
    go_ret
    exact ⟨rfl, (HK.out.tr hKg).below⟩
  | false =>
  obtain ⟨a1, c1, w1, hcp, hLi1, hCp1, hNw1, hk1⟩ := twin_run (w := wg) (t := 31) (ty := 31) (c := ca) Tryd.underlying31 hit hz0 hz1 hz2 rfl (by omega) (by omega) (HA.out.kept hKg).lie hc (by omega) (fun i j => lkF_one _ j)
  have HCP := Hid.mk' hcp
  have hL1 : Lks w1 a1 n L := ⟨HAw.out.size, hLi1, HAw.out.typ⟩
  have HL1 := Hid.mk' hL1
  have HC1 := Hid.mk' hCp1
  have hK1 : Kept WA w1 none := hKg.tr hk1
  have J1 := Kept.refl w1 none
  have hc1m : c1 ≤ 9223372036854775807 := hCp1.max
  have hc1r : n ≤ c1 := hCp1.room
  have m1 := Hid.mk' trivial
  clear hcp hLi1 hCp1 hNw1 hL1 hit hz0 hz1 hz2
  have H1 : Hid (∀ w', Kept WA w' none → Kept w1 w' none → Calls Tryd.prog 9 #[siteV X S, .slice a1 n c1] w' fun e w'' => e = .returned (.tuple #[.int .u32 ((reaV S L : Nat) : Int), .int .i64 (allE S L)]) ∧ Kept w' w'' none) := fun w' q r => crea_any (HS.out.kept q) (HT.out.kept q) (HL1.out.kept r) HC1.out
  have H2 : Hid (∀ w', Kept WA w' none → Kept w1 w' none → Calls Tryd.prog 15 #[siteV X S, .slice a n ca] w' fun e w'' => e = .returned (.tuple #[.int .u32 ((reaV S L : Nat) : Int), .int .i64 (allE S L)]) ∧ Kept w' w'' none) := fun w' q r => rrea_any (HS.out.kept q) (HT.out.kept q) (HA.out.kept q) hc
  have H3 : Hid (∀ w', Kept WA w' none → Kept w1 w' none → Calls Tryd.prog 11 #[siteV X S, .int .u32 (c : Int), .slice a1 n c1, .int .i64 g] w' fun e w'' => e = .returned (.tuple #[.int .u32 ((nexV S c L g : Nat) : Int), .int .i64 (nexE S c L g)]) ∧ Kept w' w'' none) := fun w' q r => cnext_any (HS.out.kept q) (HT.out.kept q) c hc32 g (HL1.out.kept r) HC1.out
  have H4 : Hid (∀ w', Kept WA w' none → Kept w1 w' none → Calls Tryd.prog 16 #[siteV X S, .int .u32 (c : Int), .slice a n ca, .int .i64 g] w' fun e w'' => e = .returned (.tuple #[.int .u32 ((nexV S c L g : Nat) : Int), .int .i64 (nexE S c L g)]) ∧ Kept w' w'' none) := fun w' q r => rnex_any (HS.out.kept q) (HT.out.kept q) c hc32 g (HA.out.kept q) hc
  have H5 : Hid (∀ w', Kept WA w' none → Kept w1 w' none → Calls Tryd.prog 12 #[siteV X S, .int .u32 (c : Int), .int .i64 g] w' fun e w'' => e = .returned (.tuple #[.int .i64 (fstV S c g), .int .i64 (firE S c g)]) ∧ Kept w' w'' none) := fun w' q r => cfst_any (HS.out.kept q) (HT.out.kept q) c hc32 g
  have H6 : Hid (∀ w', Kept WA w' none → Kept w1 w' none → Calls Tryd.prog 17 #[siteV X S, .int .u32 (c : Int), .int .i64 g] w' fun e w'' => e = .returned (.tuple #[.int .i64 (fstV S c g), .int .i64 (firE S c g)]) ∧ Kept w' w'' none) := fun w' q r => rfst_any (HS.out.kept q) (HT.out.kept q) c hc32 g
  have H7 : Hid (∀ w', Kept WA w' none → Kept w1 w' none → Calls Tryd.prog 18 #[.slice a1 n c1, .slice a n ca] w' fun e w'' => e = .returned (.bool true) ∧ Kept w' w'' none) := fun w' q r => rsame_yes13 (HL1.out.kept r) (HA.out.kept q) (by omega)
  generalize reaV S L = Y1 at *
  generalize allE S L = E1 at *
  generalize nexV S c L g = Y2 at *
  generalize nexE S c L g = E2 at *
  generalize fstV S c g = Y3 at *
  generalize firE S c g = E3 at *
  go_wp2_with (first | (have hgo := m7; clear hgo; go_at_call 18; refine (H7.out _ hK7 J7).mono ?_; rintro e w8 ⟨rfl, hk⟩; have J8 : Kept w1 w8 none := J7.tr hk; have hK8 : Kept WA w8 none := hK7.tr hk; clear m7 hk; have m8 := Hid.mk' trivial) | (have hgo := m6; clear hgo; go_at_call 17; refine (H6.out _ hK6 J6).mono ?_; rintro e w7 ⟨rfl, hk⟩; have J7 : Kept w1 w7 none := J6.tr hk; have hK7 : Kept WA w7 none := hK6.tr hk; clear m6 hk; have m7 := Hid.mk' trivial) | (have hgo := m5; clear hgo; go_at_call 12; refine (H5.out _ hK5 J5).mono ?_; rintro e w6 ⟨rfl, hk⟩; have J6 : Kept w1 w6 none := J5.tr hk; have hK6 : Kept WA w6 none := hK5.tr hk; clear m5 hk; have m6 := Hid.mk' trivial) | (have hgo := m4; clear hgo; go_at_call 16; refine (H4.out _ hK4 J4).mono ?_; rintro e w5 ⟨rfl, hk⟩; have J5 : Kept w1 w5 none := J4.tr hk; have hK5 : Kept WA w5 none := hK4.tr hk; clear m4 hk; have m5 := Hid.mk' trivial) | (have hgo := m3; clear hgo; go_at_call 11; refine (H3.out _ hK3 J3).mono ?_; rintro e w4 ⟨rfl, hk⟩; have J4 : Kept w1 w4 none := J3.tr hk; have hK4 : Kept WA w4 none := hK3.tr hk; clear m3 hk; have m4 := Hid.mk' trivial) | (have hgo := m2; clear hgo; go_at_call 15; refine (H2.out _ hK2 J2).mono ?_; rintro e w3 ⟨rfl, hk⟩; have J3 : Kept w1 w3 none := J2.tr hk; have hK3 : Kept WA w3 none := hK2.tr hk; clear m2 hk; have m3 := Hid.mk' trivial) | (have hgo := m1; clear hgo; go_at_call 9; refine (H1.out _ hK1 J1).mono ?_; rintro e w2 ⟨rfl, hk⟩; have J2 : Kept w1 w2 none := J1.tr hk; have hK2 : Kept WA w2 none := hK1.tr hk; clear m1 hk; have m2 := Hid.mk' trivial) | (at_builtin; refine wpList_app8 (by rfl) _ _ _ (by rfl) (by rfl) (by rfl) HCP.out ?_))
  go_ret
  exact ⟨by simp, (HK.out.tr hK8).below⟩
theorem ctel_any {X : Sa} {S : St} {w : World} (h : Sat w X S) (hT : Tabb w) (c : Nat) (hc32 : c < 4294967296) (g : Int) {a : Option Addr} {n ca : Nat} {L : List Lk} (hA : Lks w a n L) (hc : Cap a n ca) : Calls Tryd.prog 4 #[siteV X S, .int .u32 (c : Int), .slice a n ca, .int .i64 g] w fun e w' => e = .returned (.bool true) ∧ Below w.heap.size w w' := by
  by_cases hl : 60 < n
  · exact ctel_long h hT c hc32 g hA hc hl
  · exact ctel_go h hT c hc32 g hA hc (by omega)

end Go.Proofs.YtjfajdmifjbblaaDoor

