import Derived.Test.YtfhmfanmnhclfaaDoorP27
import Derived.Test.YtfhmfanmnhclfaaDoorP28
import Derived.Test.YtfhmfanmnhclfaaDoorP29
import Derived.Test.YtfhmfanmnhclfaaDoorP30
import Derived.Test.YtfhmfanmnhclfaaDoorP31
import Derived.Test.YtfhmfanmnhclfaaDoorP32
import Derived.Test.YtfhmfanmnhclfaaDoorP40
namespace Go.Proofs.YtfhmfanmnhclfaaDoor
set_option linter.unusedVariables false
set_option linter.unusedSimpArgs false
open Go.RowKit Go.Lib Go.Deep

theorem rnear_any {X : Sa} {S : St} {w : World} (h : Sat w X S) {P : Pl} {a : Option Addr} {c : Nat} (hI : Ints w a P.splits.length c P.splits) (hO : i64B P.offset) (hs : siteB S = true) : Calls Tryd.prog 36 #[siteV X S, planV P a c] w fun e w' => ∃ g cp, e = .returned (.agg #[.int .i64 (cycC S P), .int .i64 (offC S P), .slice (some ⟨g, 0, none⟩) S.phases.length cp]) ∧ w.heap.size ≤ g ∧ RowI w' g S.phases.length cp (splC S P) ∧ Kept w w' none := by
  by_cases hl : P.cycle < S.low
  · by_cases hn : P.offset.tmod S.low < 0
    · exact rnear_lo_n h hI hO hs hl hn
    · exact rnear_lo_p h hI hO hs hl hn
  · by_cases hh : S.high < P.cycle
    · by_cases hn : P.offset.tmod S.high < 0
      · exact rnear_hi_n h hI hO hs hl hh hn
      · exact rnear_hi_p h hI hO hs hl hh hn
    · by_cases hn : P.offset.tmod P.cycle < 0
      · exact rnear_in_n h hI hO hs hl hh hn
      · exact rnear_in_p h hI hO hs hl hh hn
set_option maxRecDepth 100000 in
set_option maxHeartbeats 2000000 in
theorem rclamp_no {X : Sa} {S : St} {w : World} (h : Sat w X S) {P : Pl} {a : Option Addr} {c : Nat} (hI : Ints w a P.splits.length c P.splits) (hs : siteB S = false) : Calls Tryd.prog 15 #[siteV X S, planV P a c] w fun e w' => e = .returned (.tuple #[.agg #[.int .i64 0, .int .i64 0, .slice none 0 0], .int .i64 50]) ∧ Kept w w' none := by
  have hce : checkE S = 50 := by unfold checkE; rw [hs]; rfl
  obtain ⟨WA, hWA⟩ : ∃ WA, (((w.alloc (.cells #[.int .i64 S.id, .slice X.g S.groups.length X.gc, .slice X.a S.apart.length X.ac, .slice X.b S.between.length X.bc, .slice X.p S.phases.length X.pc, .slice X.e S.eyes.length X.ec, .int .i64 S.watch, .int .i64 S.feed, .int .i64 S.heal, .int .i64 S.low, .int .i64 S.high, .slice X.l S.plans.length X.lc] 35)).alloc (.cells #[.int .i64 P.cycle, .int .i64 P.offset, .slice a P.splits.length c] 24)).alloc (.cells #[.int .i64 0, .int .i64 0, .slice none 0 0] 24)) = WA := ⟨_, rfl⟩
  obtain ⟨HSB, HBP, HSZ, HK, HS, HI, p0_, p1_, p2_, s0_, s1_, s2_, s3_, s4_, s5_, s6_, s7_, s8_, s9_, s10_, s11_, HBZ⟩ := hdpz h hI hWA
  have hK0 := Kept.refl WA none
  clear h hI
  go_enter Tryd.func15, Tryd.ntmps15
  go_wp2_with (first | rw [hWA] | (go_at_call 35; have hx := rcheck_any HS.out; rw [hce] at hx; refine hx.mono ?_; rintro e wC ⟨rfl, hkC⟩; have hKC : Kept WA wC none := hkC; clear hx; have bz := HBZ.out.kept hKC; have z0 := bz.c0; have zf0 := bz.f0; have z1 := bz.c1; have zf1 := bz.f1; have z2 := bz.c2; have zf2 := bz.f2; clear bz))
  refine bodyPost_ret (v := .tuple #[.agg #[.int .i64 0, .int .i64 0, .slice none 0 0], .int .i64 50]) (by simp [results, Tryd.results15, go_sem, z0, z1, z2]) rfl ⟨rfl, ?_⟩
  exact (((HK.out.tr hKC).setNew (p := ⟨w.heap.size + 1 + 1, 0, none⟩) (by show w.heap.size ≤ w.heap.size + 1 + 1; omega) _).setNew (p := ⟨w.heap.size + 1 + 1, 1, none⟩) (by show w.heap.size ≤ w.heap.size + 1 + 1; omega) _).setNew (p := ⟨w.heap.size + 1 + 1, 2, none⟩) (by show w.heap.size ≤ w.heap.size + 1 + 1; omega) _
set_option maxRecDepth 100000 in
set_option maxHeartbeats 2000000 in
theorem rclamp_yes {X : Sa} {S : St} {w : World} (h : Sat w X S) {P : Pl} {a : Option Addr} {c : Nat} (hI : Ints w a P.splits.length c P.splits) (hO : i64B P.offset) (hs : siteB S = true) : Calls Tryd.prog 15 #[siteV X S, planV P a c] w fun e w' => ∃ g cp, e = .returned (.tuple #[.agg #[.int .i64 (cycC S P), .int .i64 (offC S P), .slice (some ⟨g, 0, none⟩) S.phases.length cp], .int .i64 0]) ∧ w.heap.size ≤ g ∧ RowI w' g S.phases.length cp (splC S P) ∧ Kept w w' none := by
  have hce : checkE S = 0 := by unfold checkE; rw [hs]; rfl
  obtain ⟨WA, hWA⟩ : ∃ WA, (((w.alloc (.cells #[.int .i64 S.id, .slice X.g S.groups.length X.gc, .slice X.a S.apart.length X.ac, .slice X.b S.between.length X.bc, .slice X.p S.phases.length X.pc, .slice X.e S.eyes.length X.ec, .int .i64 S.watch, .int .i64 S.feed, .int .i64 S.heal, .int .i64 S.low, .int .i64 S.high, .slice X.l S.plans.length X.lc] 35)).alloc (.cells #[.int .i64 P.cycle, .int .i64 P.offset, .slice a P.splits.length c] 24)).alloc (.cells #[.int .i64 0, .int .i64 0, .slice none 0 0] 24)) = WA := ⟨_, rfl⟩
  obtain ⟨HSB, HBP, HSZ, HK, HS, HI, p0_, p1_, p2_, s0_, s1_, s2_, s3_, s4_, s5_, s6_, s7_, s8_, s9_, s10_, s11_, HBZ⟩ := hdpz h hI hWA
  have hK0 := Kept.refl WA none
  clear h hI
  have HNE : Hid (∀ w', Kept WA w' none → Calls Tryd.prog 36 #[siteV X S, planV P a c] w' fun e w2 => ∃ g cp, e = .returned (.agg #[.int .i64 (cycC S P), .int .i64 (offC S P), .slice (some ⟨g, 0, none⟩) S.phases.length cp]) ∧ w'.heap.size ≤ g ∧ RowI w2 g S.phases.length cp (splC S P) ∧ Kept w' w2 none) := fun w' q => rnear_any (HS.out.kept q) (HI.out.kept q) hO hs
  clear hs hO
  generalize cycC S P = C at *
  generalize offC S P = O at *
  go_enter Tryd.func15, Tryd.ntmps15
  go_wp2_with (first | rw [hWA] | (have hgo := hKC; clear hgo; go_at_call 36; refine (HNE.out _ hKC).mono ?_; rintro e wN ⟨g, cp, rfl, hg, hrow, hkN⟩; have hKN : Kept WA wN none := hKC.tr hkN; have HGG := Hid.mk' (Nat.le_trans hKC.size hg); have HRW := Hid.mk' hrow; clear hrow hg; have bz := HBZ.out.kept hKN; have z0 := bz.c0; have zf0 := bz.f0; have z1 := bz.c1; have zf1 := bz.f1; have z2 := bz.c2; have zf2 := bz.f2; clear bz) | (go_at_call 35; have hx := rcheck_any HS.out; rw [hce] at hx; refine hx.mono ?_; rintro e wC ⟨rfl, hkC⟩; have hKC : Kept WA wC none := hkC; clear hx))
  refine bodyPost_ret (v := .tuple #[.agg #[.int .i64 C, .int .i64 O, .slice (some ⟨g, 0, none⟩) S.phases.length cp], .int .i64 0]) (by simp [results, Tryd.results15, go_sem, z0, z1, z2]) rfl ⟨g, cp, rfl, ?_, ?_, ?_⟩
  · exact Nat.le_trans HK.out.size HGG.out
  · have hlz := HBZ.out.lt
    have h2 := HGG.out
    have kz : Kept wN (((wN.setCell ⟨w.heap.size + 1 + 1, 0, none⟩ (.int .i64 C)).setCell ⟨w.heap.size + 1 + 1, 1, none⟩ (.int .i64 O)).setCell ⟨w.heap.size + 1 + 1, 2, none⟩ (.slice (some ⟨g, 0, none⟩) S.phases.length cp)) (some (w.heap.size + 1 + 1)) := (((Kept.refl wN (some (w.heap.size + 1 + 1))).setRow _ _).setRow _ _).setRow _ _
    exact HRW.out.kept kz (fun e => by have e : g = w.heap.size + 1 + 1 := Option.some.inj e; omega)
  · exact (((HK.out.tr hKN).setNew (p := ⟨w.heap.size + 1 + 1, 0, none⟩) (by show w.heap.size ≤ w.heap.size + 1 + 1; omega) _).setNew (p := ⟨w.heap.size + 1 + 1, 1, none⟩) (by show w.heap.size ≤ w.heap.size + 1 + 1; omega) _).setNew (p := ⟨w.heap.size + 1 + 1, 2, none⟩) (by show w.heap.size ≤ w.heap.size + 1 + 1; omega) _

end Go.Proofs.YtfhmfanmnhclfaaDoor
