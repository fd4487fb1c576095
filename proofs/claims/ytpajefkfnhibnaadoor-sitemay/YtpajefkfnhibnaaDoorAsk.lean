/-
  THE CONTRACTS of what a site is asked: Apart, Between, Worst, Clear, Plan.
-/
import Derived.Test.YtpajefkfnhibnaaDoorCheck
namespace Go.Proofs.YtpajefkfnhibnaaDoor
open Go.RowKit Go.Lib Go.Deep
set_option linter.unusedVariables false
set_option linter.unusedSimpArgs false

theorem all_of {S : St} (h : siteB S = true) : ∀ j, j < 10 → ∀ i, i < manyN S (ofN j) → condB S j i = true := fun j hj => by
  rw [siteB_eq] at h
  exact allB_iff.1 (allB_iff.1 h j hj)
theorem span_may {S : St} (h : siteB S = true) : Span S := span_of (fun j hj => all_of h j (by omega))
theorem checkE_yes {S : St} (h : siteB S = true) : checkE S = 0 := by unfold checkE; rw [if_pos h]
theorem checkE_no {S : St} (h : siteB S = false) : checkE S = 50 := by unfold checkE; rw [if_neg (by rw [h]; decide)]
def pairE (S : St) (a b : Int) (n : Nat) : Int := if siteB S = true then (if (inB a 0 ((n : Int) - 1) && inB b 0 ((n : Int) - 1)) = true then 0 else 2) else 50
set_option maxRecDepth 100000 in
set_option maxHeartbeats 1000000 in
theorem pair_any {X : Sa} {S : St} {w : World} (h : Sat w X S) (hT : Tabb w) (a b : Int) (n : Nat) (hn : n ≤ 9223372036854775807) : Calls Tryd.prog 38 #[siteV X S, .int .i64 a, .int .i64 b, .int .i64 n] w fun e w' => e = .returned (.int .i64 (pairE S a b n)) ∧ Kept w w' none := by
  have hkA : Kept w (w.alloc (.cells #[.int .i64 S.id, .slice X.g S.groups.length X.gc, .slice X.a S.apart.length X.ac, .slice X.b S.between.length X.bc, .slice X.p S.phases.length X.pc, .slice X.e S.eyes.length X.ec, .int .i64 S.watch, .int .i64 S.feed, .int .i64 S.heal, .int .i64 S.low, .int .i64 S.high, .slice X.l S.plans.length X.lc] 29)) none := Kept.alloc _ _ _ _ _
  have HK := Hid.mk' hkA
  have HS := Hid.mk' (h.kept hkA)
  have HT := Hid.mk' (hT.kept hkA)
  clear h hT hkA
  cases hs : siteB S with
  | false =>
    have hce := checkE_no hs
    have HE : Hid (pairE S a b n = 50) := by show pairE S a b n = 50; unfold pairE; rw [hs]; rfl
    go_enter Tryd.func38, Tryd.ntmps38
    go_wp2_with (go_at_call 16; refine (check_any HS.out HT.out).mono ?_; rintro e w2 ⟨rfl, hk2⟩; rw [hce])
    go_ret
    exact ⟨by rw [HE.out]; rfl, HK.out.tr hk2⟩
  | true =>
    have hce := checkE_yes hs
    have HE : Hid (pairE S a b n = if (inB a 0 ((n : Int) - 1) && inB b 0 ((n : Int) - 1)) = true then 0 else 2) := by show pairE S a b n = _; unfold pairE; rw [if_pos hs]
    cases h1 : inB a 0 ((n : Int) - 1) with
    | false =>
      go_enter Tryd.func38, Tryd.ntmps38
      go_wp2_with (first | (go_at_call 16; refine (check_any HS.out HT.out).mono ?_; rintro e w2 ⟨rfl, hk2⟩; rw [hce]) | (go_at_call 65; refine (within_is _ _ _ _ _ h1).mono ?_; rintro e w2 ⟨rfl, rfl⟩))
      go_ret
      exact ⟨by rw [HE.out, h1]; rfl, HK.out.tr hk2⟩
    | true =>
      cases h2 : inB b 0 ((n : Int) - 1) with
      | false =>
        go_enter Tryd.func38, Tryd.ntmps38
        go_wp2_with (first | (have hgo := hdone; clear hgo; go_at_call 65; refine (within_is _ _ _ _ _ h2).mono ?_; rintro e w2 ⟨rfl, rfl⟩) | (go_at_call 16; refine (check_any HS.out HT.out).mono ?_; rintro e w2 ⟨rfl, hk2⟩; rw [hce]) | (go_at_call 65; refine (within_is _ _ _ _ _ h1).mono ?_; rintro e w2 ⟨rfl, rfl⟩; have hdone := trivial))
        go_ret
        exact ⟨by rw [HE.out, h1, h2]; rfl, HK.out.tr hk2⟩
      | true =>
        go_enter Tryd.func38, Tryd.ntmps38
        go_wp2_with (first | (have hgo := hdone; clear hgo; go_at_call 65; refine (within_is _ _ _ _ _ h2).mono ?_; rintro e w2 ⟨rfl, rfl⟩) | (go_at_call 16; refine (check_any HS.out HT.out).mono ?_; rintro e w2 ⟨rfl, hk2⟩; rw [hce]) | (go_at_call 65; refine (within_is _ _ _ _ _ h1).mono ?_; rintro e w2 ⟨rfl, rfl⟩; have hdone := trivial))
        go_ret
        exact ⟨by rw [HE.out, h1, h2]; rfl, HK.out.tr hk2⟩

theorem pairE_yes {S : St} (hs : siteB S = true) {a b n : Nat} (ha : a < n) (hb : b < n) : pairE S a b n = 0 := by
  unfold pairE
  rw [if_pos hs, if_pos]
  rw [Bool.and_eq_true, inB_iff, inB_iff]
  omega
theorem pairE_no {S : St} {a b : Int} {n : Nat} (hE : pairE S a b n = 0) : siteB S = true ∧ (∃ a' : Nat, a = a' ∧ a' < n) ∧ (∃ b' : Nat, b = b' ∧ b' < n) := by
  unfold pairE at hE
  split at hE
  · rename_i hs
    split at hE
    · rename_i hp
      rw [Bool.and_eq_true, inB_iff, inB_iff] at hp
      exact ⟨hs, ⟨a.toNat, by omega, by omega⟩, ⟨b.toNat, by omega, by omega⟩⟩
    · cases hE
  · cases hE
set_option maxRecDepth 100000 in
set_option maxHeartbeats 1000000 in
theorem apartq_no {X : Sa} {S : St} {w : World} (h : Sat w X S) (hT : Tabb w) (a b : Int) (hE : pairE S a b S.groups.length ≠ 0) : Calls Tryd.prog 12 #[siteV X S, .int .i64 a, .int .i64 b] w fun e w' => e = .returned (.tuple #[.bool false, .int .i64 (pairE S a b S.groups.length)]) ∧ Kept w w' none := by
  have hkA : Kept w (w.alloc (.cells #[.int .i64 S.id, .slice X.g S.groups.length X.gc, .slice X.a S.apart.length X.ac, .slice X.b S.between.length X.bc, .slice X.p S.phases.length X.pc, .slice X.e S.eyes.length X.ec, .int .i64 S.watch, .int .i64 S.feed, .int .i64 S.heal, .int .i64 S.low, .int .i64 S.high, .slice X.l S.plans.length X.lc] 29)) none := Kept.alloc _ _ _ _ _
  have hsb := sbox_alloc h 29
  have HSB := Hid.mk' hsb
  have HK := Hid.mk' hkA
  have HS := Hid.mk' (h.kept hkA)
  have HT := Hid.mk' (hT.kept hkA)
  have hgm : S.groups.length ≤ 9223372036854775807 := manyN_le h 1
  have hpm : S.phases.length ≤ 9223372036854775807 := manyN_le h 2
  have hne : (pairE S a b S.groups.length != 0) = true := by rw [bne_iff_ne]; exact hE
  clear h hT hkA hsb hE
  go_enter Tryd.func12, Tryd.ntmps12
  go_wp2_with (go_at_call 38; refine (pair_any HS.out HT.out a b S.groups.length (by omega)).mono ?_; rintro e w2 ⟨rfl, hk2⟩)
  go_ret2
  exact ⟨rfl, HK.out.tr hk2⟩
set_option maxRecDepth 100000 in
set_option maxHeartbeats 1000000 in
theorem betweenq_no {X : Sa} {S : St} {w : World} (h : Sat w X S) (hT : Tabb w) (a b : Int) (hE : pairE S a b S.groups.length ≠ 0) : Calls Tryd.prog 21 #[siteV X S, .int .i64 a, .int .i64 b] w fun e w' => e = .returned (.tuple #[.int .i64 0, .int .i64 (pairE S a b S.groups.length)]) ∧ Kept w w' none := by
  have hkA : Kept w (w.alloc (.cells #[.int .i64 S.id, .slice X.g S.groups.length X.gc, .slice X.a S.apart.length X.ac, .slice X.b S.between.length X.bc, .slice X.p S.phases.length X.pc, .slice X.e S.eyes.length X.ec, .int .i64 S.watch, .int .i64 S.feed, .int .i64 S.heal, .int .i64 S.low, .int .i64 S.high, .slice X.l S.plans.length X.lc] 29)) none := Kept.alloc _ _ _ _ _
  have hsb := sbox_alloc h 29
  have HSB := Hid.mk' hsb
  have HK := Hid.mk' hkA
  have HS := Hid.mk' (h.kept hkA)
  have HT := Hid.mk' (hT.kept hkA)
  have hgm : S.groups.length ≤ 9223372036854775807 := manyN_le h 1
  have hpm : S.phases.length ≤ 9223372036854775807 := manyN_le h 2
  have hne : (pairE S a b S.groups.length != 0) = true := by rw [bne_iff_ne]; exact hE
  clear h hT hkA hsb hE
  go_enter Tryd.func21, Tryd.ntmps21
  go_wp2_with (go_at_call 38; refine (pair_any HS.out HT.out a b S.groups.length (by omega)).mono ?_; rintro e w2 ⟨rfl, hk2⟩)
  go_ret2
  exact ⟨rfl, HK.out.tr hk2⟩
set_option maxRecDepth 100000 in
set_option maxHeartbeats 1000000 in
theorem clearq_no {X : Sa} {S : St} {w : World} (h : Sat w X S) (hT : Tabb w) (a b : Int) (hE : pairE S a b S.phases.length ≠ 0) : Calls Tryd.prog 11 #[siteV X S, .int .i64 a, .int .i64 b] w fun e w' => e = .returned (.tuple #[.int .i64 0, .int .i64 (pairE S a b S.phases.length)]) ∧ Kept w w' none := by
  have hkA : Kept w (w.alloc (.cells #[.int .i64 S.id, .slice X.g S.groups.length X.gc, .slice X.a S.apart.length X.ac, .slice X.b S.between.length X.bc, .slice X.p S.phases.length X.pc, .slice X.e S.eyes.length X.ec, .int .i64 S.watch, .int .i64 S.feed, .int .i64 S.heal, .int .i64 S.low, .int .i64 S.high, .slice X.l S.plans.length X.lc] 29)) none := Kept.alloc _ _ _ _ _
  have hsb := sbox_alloc h 29
  have HSB := Hid.mk' hsb
  have HK := Hid.mk' hkA
  have HS := Hid.mk' (h.kept hkA)
  have HT := Hid.mk' (hT.kept hkA)
  have hgm : S.groups.length ≤ 9223372036854775807 := manyN_le h 1
  have hpm : S.phases.length ≤ 9223372036854775807 := manyN_le h 2
  have hne : (pairE S a b S.phases.length != 0) = true := by rw [bne_iff_ne]; exact hE
  clear h hT hkA hsb hE
  go_enter Tryd.func11, Tryd.ntmps11
  go_wp2_with (go_at_call 38; refine (pair_any HS.out HT.out a b S.phases.length (by omega)).mono ?_; rintro e w2 ⟨rfl, hk2⟩)
  go_ret2
  exact ⟨rfl, HK.out.tr hk2⟩
set_option maxRecDepth 100000 in
set_option maxHeartbeats 1000000 in
theorem apartq_yes {X : Sa} {S : St} {w : World} (h : Sat w X S) (hT : Tabb w) (a b : Nat) (hs : siteB S = true) (ha : a < S.groups.length) (hb : b < S.groups.length) : Calls Tryd.prog 12 #[siteV X S, .int .i64 a, .int .i64 b] w fun e w' => e = .returned (.tuple #[.bool ((S.ap a).testBit b), .int .i64 0]) ∧ Kept w w' none := by
  have hkA : Kept w (w.alloc (.cells #[.int .i64 S.id, .slice X.g S.groups.length X.gc, .slice X.a S.apart.length X.ac, .slice X.b S.between.length X.bc, .slice X.p S.phases.length X.pc, .slice X.e S.eyes.length X.ec, .int .i64 S.watch, .int .i64 S.feed, .int .i64 S.heal, .int .i64 S.low, .int .i64 S.high, .slice X.l S.plans.length X.lc] 29)) none := Kept.alloc _ _ _ _ _
  have hsb := sbox_alloc h 29
  have HSB := Hid.mk' hsb
  have HK := Hid.mk' hkA
  have HS := Hid.mk' (h.kept hkA)
  have HT := Hid.mk' (hT.kept hkA)
  have hgm : S.groups.length ≤ 9223372036854775807 := manyN_le h 1
  have hpm : S.phases.length ≤ 9223372036854775807 := manyN_le h 2
  have hne := pairE_yes hs ha hb
  have hO := (span_may hs).base.sh.ok
  have hg16 := hO.ng.2
  have hna := hO.na
  have haa : a < S.apart.length := by omega
  obtain ⟨ba, oa, ea, hca⟩ := h.apAt (n := S.apart.length) (by omega) (by omega)
  have ka := hca a haa
  have hba : ba < w.heap.size := block_lt ka
  have HC := Hid.mk' ka
  have har := h.apr a
  have HEA := Hid.mk' ea
  have hab0 : S.apart.length ≤ 16 := by omega
  clear h hT hkA hsb hca hna hO ka ea
  go_enter Tryd.func12, Tryd.ntmps12
  go_wp2_with (first | (go_at_call 40; refine (has_n _ _ _ har (by omega)).mono ?_; rintro e w3 ⟨rfl, rfl⟩) | (go_at_call 38; refine (pair_any HS.out HT.out a b S.groups.length (by omega)).mono ?_; rintro e w2 ⟨rfl, hk2⟩; rw [hne]; have c2 := (HSB.out.kept hk2).c2; rw [HEA.out] at c2; have kc := cell_kept0 HC.out (HK.out.tr hk2)))
  go_ret2
  exact ⟨rfl, HK.out.tr hk2⟩
set_option maxRecDepth 100000 in
set_option maxHeartbeats 1000000 in
theorem betweenq_yes {X : Sa} {S : St} {w : World} (h : Sat w X S) (hT : Tabb w) (a b : Nat) (hs : siteB S = true) (ha : a < S.groups.length) (hb : b < S.groups.length) : Calls Tryd.prog 21 #[siteV X S, .int .i64 a, .int .i64 b] w fun e w' => e = .returned (.tuple #[.int .i64 (S.bt a b), .int .i64 0]) ∧ Kept w w' none := by
  have hkA : Kept w (w.alloc (.cells #[.int .i64 S.id, .slice X.g S.groups.length X.gc, .slice X.a S.apart.length X.ac, .slice X.b S.between.length X.bc, .slice X.p S.phases.length X.pc, .slice X.e S.eyes.length X.ec, .int .i64 S.watch, .int .i64 S.feed, .int .i64 S.heal, .int .i64 S.low, .int .i64 S.high, .slice X.l S.plans.length X.lc] 29)) none := Kept.alloc _ _ _ _ _
  have hsb := sbox_alloc h 29
  have HSB := Hid.mk' hsb
  have HK := Hid.mk' hkA
  have HS := Hid.mk' (h.kept hkA)
  have HT := Hid.mk' (hT.kept hkA)
  have hgm : S.groups.length ≤ 9223372036854775807 := manyN_le h 1
  have hpm : S.phases.length ≤ 9223372036854775807 := manyN_le h 2
  have hne := pairE_yes hs ha hb
  have hO := (span_may hs).base.sh.ok
  have hg16 := hO.ng.2
  have hnb := hO.nb
  have haa : a < S.between.length := by omega
  obtain ⟨ba, oa, ar, cr, ea, kb, hI⟩ := h.b.at_ haa
  have hrl := (span_may hs).base.sh.row a ha
  obtain ⟨bi, oi, ei, hbi, hci⟩ := hI.at_ (by omega)
  have ki := hci b (by omega)
  subst ei
  have hbt : (S.between.getD a []).getD b 0 = S.bt a b := rfl
  rw [hbt] at ki
  rw [hrl] at kb
  have HC := Hid.mk' kb
  have HI := Hid.mk' ki
  have HEA := Hid.mk' ea
  have hab0 : S.between.length ≤ 16 := by omega
  clear h hT hkA hsb hci hnb hO kb ki hI hrl hbt ea
  go_enter Tryd.func21, Tryd.ntmps21
  go_wp2_with (go_at_call 38; refine (pair_any HS.out HT.out a b S.groups.length (by omega)).mono ?_; rintro e w2 ⟨rfl, hk2⟩; rw [hne]; have c3 := (HSB.out.kept hk2).c3; rw [HEA.out] at c3; have kc := cell_kept0 HC.out (HK.out.tr hk2); have kd := cell_kept0 HI.out (HK.out.tr hk2))
  go_ret2
  exact ⟨rfl, HK.out.tr hk2⟩
set_option maxRecDepth 100000 in
set_option maxHeartbeats 1000000 in
theorem clearq_yes {X : Sa} {S : St} {w : World} (h : Sat w X S) (hT : Tabb w) (a b : Nat) (hs : siteB S = true) (ha : a < S.phases.length) (hb : b < S.phases.length) : Calls Tryd.prog 11 #[siteV X S, .int .i64 a, .int .i64 b] w fun e w' => e = .returned (.tuple #[.int .i64 (liesM S a b), .int .i64 0]) ∧ Kept w w' none := by
  have hkA : Kept w (w.alloc (.cells #[.int .i64 S.id, .slice X.g S.groups.length X.gc, .slice X.a S.apart.length X.ac, .slice X.b S.between.length X.bc, .slice X.p S.phases.length X.pc, .slice X.e S.eyes.length X.ec, .int .i64 S.watch, .int .i64 S.feed, .int .i64 S.heal, .int .i64 S.low, .int .i64 S.high, .slice X.l S.plans.length X.lc] 29)) none := Kept.alloc _ _ _ _ _
  have hsb := sbox_alloc h 29
  have HSB := Hid.mk' hsb
  have HK := Hid.mk' hkA
  have HS := Hid.mk' (h.kept hkA)
  have HT := Hid.mk' (hT.kept hkA)
  have hgm : S.groups.length ≤ 9223372036854775807 := manyN_le h 1
  have hpm : S.phases.length ≤ 9223372036854775807 := manyN_le h 2
  have hne := pairE_yes hs ha hb
  have HSp := Hid.mk' (span_may hs)
  clear h hT hkA hsb
  go_enter Tryd.func11, Tryd.ntmps11
  go_wp2_with (first | (go_at_call 39; refine (lies_any (HSB.out.kept hk2) (HT.out.kept hk2) HSp.out.base.sh a b ha hb).mono ?_; rintro e w3 ⟨rfl, hk3⟩) | (go_at_call 38; refine (pair_any HS.out HT.out a b S.phases.length (by omega)).mono ?_; rintro e w2 ⟨rfl, hk2⟩; rw [hne]))
  go_ret2
  exact ⟨rfl, (HK.out.tr hk2).tr hk3⟩

end Go.Proofs.YtpajefkfnhibnaaDoor
