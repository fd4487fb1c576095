import Derived.Test.YtfhmfanmnhclfaaDoorP14
namespace Go.Proofs.YtfhmfanmnhclfaaDoor
set_option linter.unusedVariables false
set_option linter.unusedSimpArgs false
open Go.RowKit Go.Lib Go.Deep

/-- A phase has a group. -/
theorem phase_one {S : St} {p : Nat} (hs : siteB S = true) (hpl : p < S.phases.length) : ∃ i, i < S.groups.length ∧ inP S p i = true := by
  have h : phaseB S p = true := all_of hs 5 (by omega) p hpl
  unfold phaseB at h
  simp only [Bool.and_eq_true, decide_eq_true_eq] at h
  obtain ⟨i, hi⟩ := Nat.exists_testBit_of_ne_zero h.1.1.1.1.1.1.1
  refine ⟨i, ?_, hi⟩
  by_cases e : i < S.groups.length
  · exact e
  · have h1 : (S.ph p).groups < 2 ^ i := Nat.lt_of_lt_of_le h.1.1.1.1.1.1.2 (Nat.pow_le_pow_right (by omega) (by omega))
    rw [Nat.testBit_lt_two_pow h1] at hi
    cases hi

structure Hd1 (w WA : World) (X : Sa) (S : St) : Prop where
  sb : Hid (Sbox WA w.heap.size X S)
  k : Hid (Kept w WA none)
  s : Hid (Sat WA X S)
  s0 : ∀ w', Kept WA w' none → w'.cell? ⟨w.heap.size, 0, none⟩ = some (.int .i64 S.id)
  s1 : ∀ w', Kept WA w' none → w'.cell? ⟨w.heap.size, 1, none⟩ = some (.slice X.g S.groups.length X.gc)
  s2 : ∀ w', Kept WA w' none → w'.cell? ⟨w.heap.size, 2, none⟩ = some (.slice X.a S.apart.length X.ac)
  s3 : ∀ w', Kept WA w' none → w'.cell? ⟨w.heap.size, 3, none⟩ = some (.slice X.b S.between.length X.bc)
  s4 : ∀ w', Kept WA w' none → w'.cell? ⟨w.heap.size, 4, none⟩ = some (.slice X.p S.phases.length X.pc)
  s5 : ∀ w', Kept WA w' none → w'.cell? ⟨w.heap.size, 5, none⟩ = some (.slice X.e S.eyes.length X.ec)
  s6 : ∀ w', Kept WA w' none → w'.cell? ⟨w.heap.size, 6, none⟩ = some (.int .i64 S.watch)
  s7 : ∀ w', Kept WA w' none → w'.cell? ⟨w.heap.size, 7, none⟩ = some (.int .i64 S.feed)
  s8 : ∀ w', Kept WA w' none → w'.cell? ⟨w.heap.size, 8, none⟩ = some (.int .i64 S.heal)
  s9 : ∀ w', Kept WA w' none → w'.cell? ⟨w.heap.size, 9, none⟩ = some (.int .i64 S.low)
  s10 : ∀ w', Kept WA w' none → w'.cell? ⟨w.heap.size, 10, none⟩ = some (.int .i64 S.high)
  s11 : ∀ w', Kept WA w' none → w'.cell? ⟨w.heap.size, 11, none⟩ = some (.slice X.l S.plans.length X.lc)
theorem hd1 {X : Sa} {S : St} {w WA : World} (h : Sat w X S) (e : (w.alloc (.cells #[.int .i64 S.id, .slice X.g S.groups.length X.gc, .slice X.a S.apart.length X.ac, .slice X.b S.between.length X.bc, .slice X.p S.phases.length X.pc, .slice X.e S.eyes.length X.ec, .int .i64 S.watch, .int .i64 S.feed, .int .i64 S.heal, .int .i64 S.low, .int .i64 S.high, .slice X.l S.plans.length X.lc] 35)) = WA) : Hd1 w WA X S := by
  have k1 : Kept w (w.alloc (.cells #[.int .i64 S.id, .slice X.g S.groups.length X.gc, .slice X.a S.apart.length X.ac, .slice X.b S.between.length X.bc, .slice X.p S.phases.length X.pc, .slice X.e S.eyes.length X.ec, .int .i64 S.watch, .int .i64 S.feed, .int .i64 S.heal, .int .i64 S.low, .int .i64 S.high, .slice X.l S.plans.length X.lc] 35)) none := Kept.alloc _ _ _ _ _
  have hsb := sbox_alloc h 35
  rw [e] at hsb k1
  exact ⟨hsb, k1, h.kept k1, fun w' q => (hsb.kept q).c0, fun w' q => (hsb.kept q).c1, fun w' q => (hsb.kept q).c2, fun w' q => (hsb.kept q).c3, fun w' q => (hsb.kept q).c4, fun w' q => (hsb.kept q).c5, fun w' q => (hsb.kept q).c6, fun w' q => (hsb.kept q).c7, fun w' q => (hsb.kept q).c8, fun w' q => (hsb.kept q).c9, fun w' q => (hsb.kept q).c10, fun w' q => (hsb.kept q).c11⟩
end Go.Proofs.YtfhmfanmnhclfaaDoor
