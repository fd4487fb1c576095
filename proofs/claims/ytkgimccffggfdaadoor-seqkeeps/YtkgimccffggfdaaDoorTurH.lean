/-
  Texts joined: some of those that the proofs of this seat stand on.
-/
import Derived.Test.YtkgimccffggfdaaDoorGateMJ
/-
  WHAT A CALL BEGINS WITH: a site, or a site and a standing, in boxes of its own.
-/
namespace Go.Proofs.YtkgimccffggfdaaDoor
open Go.RowKit Go.Lib Go.Deep
set_option linter.unusedVariables false
set_option linter.unusedSimpArgs false

structure Hd1 (w WA : World) (X : Sa) (S : St) : Prop where
  sb : Hid (Sbox WA w.heap.size X S)
  k : Hid (Kept w WA none)
  s : Hid (Sat WA X S)
  s0 : ∀ w', Kept WA w' none → w'.cell? ⟨w.heap.size, 0, none⟩ = some (.int .i64 S.id)
  s1 : ∀ w', Kept WA w' none → w'.cell? ⟨w.heap.size, 1, none⟩ = some (.slice X.g S.groups.length X.gc)
  s2 : ∀ w', Kept WA w' none → w'.cell? ⟨w.heap.size, 2, none⟩ = some (.slice X.a S.apart.length X.ac)
  s3 : ∀ w', Kept WA w' none → w'.cell? ⟨w.heap.size, 3, none⟩ = some (.slice X.b S.between.length X.bc)
  s4 : ∀ w', Kept WA w' none → w'.cell? ⟨w.heap.size, 4, none⟩ = some (.slice X.p S.phases.length X.pc)
  s5 : ∀ w', Kept WA w' none → w'.cell? ⟨w.heap.size, 5, none⟩ = some (.slice X.e S.eyes.length X.ec)
  s6 : ∀ w', Kept WA w' none → w'.cell? ⟨w.heap.size, 6, none⟩ = some (.int .i64 S.watch)
  s7 : ∀ w', Kept WA w' none → w'.cell? ⟨w.heap.size, 7, none⟩ = some (.int .i64 S.feed)
  s8 : ∀ w', Kept WA w' none → w'.cell? ⟨w.heap.size, 8, none⟩ = some (.int .i64 S.heal)
  s9 : ∀ w', Kept WA w' none → w'.cell? ⟨w.heap.size, 9, none⟩ = some (.int .i64 S.low)
  s10 : ∀ w', Kept WA w' none → w'.cell? ⟨w.heap.size, 10, none⟩ = some (.int .i64 S.high)
  s11 : ∀ w', Kept WA w' none → w'.cell? ⟨w.heap.size, 11, none⟩ = some (.slice X.l S.plans.length X.lc)
theorem hd1 {X : Sa} {S : St} {w WA : World} (h : Sat w X S) (e : (w.alloc (.cells #[.int .i64 S.id, .slice X.g S.groups.length X.gc, .slice X.a S.apart.length X.ac, .slice X.b S.between.length X.bc, .slice X.p S.phases.length X.pc, .slice X.e S.eyes.length X.ec, .int .i64 S.watch, .int .i64 S.feed, .int .i64 S.heal, .int .i64 S.low, .int .i64 S.high, .slice X.l S.plans.length X.lc] 37)) = WA) : Hd1 w WA X S := by
  have k1 : Kept w (w.alloc (.cells #[.int .i64 S.id, .slice X.g S.groups.length X.gc, .slice X.a S.apart.length X.ac, .slice X.b S.between.length X.bc, .slice X.p S.phases.length X.pc, .slice X.e S.eyes.length X.ec, .int .i64 S.watch, .int .i64 S.feed, .int .i64 S.heal, .int .i64 S.low, .int .i64 S.high, .slice X.l S.plans.length X.lc] 37)) none := Kept.alloc _ _ _ _ _
  have hsb := sbox_alloc h 37
  rw [e] at hsb k1
  exact ⟨hsb, k1, h.kept k1, fun w' q => (hsb.kept q).c0, fun w' q => (hsb.kept q).c1, fun w' q => (hsb.kept q).c2, fun w' q => (hsb.kept q).c3, fun w' q => (hsb.kept q).c4, fun w' q => (hsb.kept q).c5, fun w' q => (hsb.kept q).c6, fun w' q => (hsb.kept q).c7, fun w' q => (hsb.kept q).c8, fun w' q => (hsb.kept q).c9, fun w' q => (hsb.kept q).c10, fun w' q => (hsb.kept q).c11⟩
structure Hd2 (w WA : World) (X : Sa) (S : St) (a : Option Addr) (n c : Nat) (F : Sf) : Prop where
  sb : Hid (Sbox WA w.heap.size X S)
  bn : Hid (Box WA (w.heap.size + 1) (.slice a n c) (.int .i64 F.start) (.bool F.flashed))
  z : Hid (WA.heap.size = w.heap.size + 1 + 1)
  k : Hid (Kept w WA none)
  s : Hid (Sat WA X S)
  f : Hid (SafeAt WA a c F)
  n0 : ∀ w', Kept WA w' none → w'.cell? ⟨w.heap.size + 1, 0, none⟩ = some (.slice a n c)
  n1 : ∀ w', Kept WA w' none → w'.cell? ⟨w.heap.size + 1, 1, none⟩ = some (.int .i64 F.start)
  n2 : ∀ w', Kept WA w' none → w'.cell? ⟨w.heap.size + 1, 2, none⟩ = some (.bool F.flashed)
  s0 : ∀ w', Kept WA w' none → w'.cell? ⟨w.heap.size, 0, none⟩ = some (.int .i64 S.id)
  s1 : ∀ w', Kept WA w' none → w'.cell? ⟨w.heap.size, 1, none⟩ = some (.slice X.g S.groups.length X.gc)
  s2 : ∀ w', Kept WA w' none → w'.cell? ⟨w.heap.size, 2, none⟩ = some (.slice X.a S.apart.length X.ac)
  s3 : ∀ w', Kept WA w' none → w'.cell? ⟨w.heap.size, 3, none⟩ = some (.slice X.b S.between.length X.bc)
  s4 : ∀ w', Kept WA w' none → w'.cell? ⟨w.heap.size, 4, none⟩ = some (.slice X.p S.phases.length X.pc)
  s5 : ∀ w', Kept WA w' none → w'.cell? ⟨w.heap.size, 5, none⟩ = some (.slice X.e S.eyes.length X.ec)
  s6 : ∀ w', Kept WA w' none → w'.cell? ⟨w.heap.size, 6, none⟩ = some (.int .i64 S.watch)
  s7 : ∀ w', Kept WA w' none → w'.cell? ⟨w.heap.size, 7, none⟩ = some (.int .i64 S.feed)
  s8 : ∀ w', Kept WA w' none → w'.cell? ⟨w.heap.size, 8, none⟩ = some (.int .i64 S.heal)
  s9 : ∀ w', Kept WA w' none → w'.cell? ⟨w.heap.size, 9, none⟩ = some (.int .i64 S.low)
  s10 : ∀ w', Kept WA w' none → w'.cell? ⟨w.heap.size, 10, none⟩ = some (.int .i64 S.high)
  s11 : ∀ w', Kept WA w' none → w'.cell? ⟨w.heap.size, 11, none⟩ = some (.slice X.l S.plans.length X.lc)
theorem hd2 {X : Sa} {S : St} {w WA : World} {a : Option Addr} {n c : Nat} {F : Sf} (h : Sat w X S) (hF : SafeAt w a c F) (e : ((w.alloc (.cells #[.int .i64 S.id, .slice X.g S.groups.length X.gc, .slice X.a S.apart.length X.ac, .slice X.b S.between.length X.bc, .slice X.p S.phases.length X.pc, .slice X.e S.eyes.length X.ec, .int .i64 S.watch, .int .i64 S.feed, .int .i64 S.heal, .int .i64 S.low, .int .i64 S.high, .slice X.l S.plans.length X.lc] 37)).alloc (.cells #[.slice a n c, .int .i64 F.start, .bool F.flashed] 26)) = WA) : Hd2 w WA X S a n c F := by
  have k1 : Kept w (w.alloc (.cells #[.int .i64 S.id, .slice X.g S.groups.length X.gc, .slice X.a S.apart.length X.ac, .slice X.b S.between.length X.bc, .slice X.p S.phases.length X.pc, .slice X.e S.eyes.length X.ec, .int .i64 S.watch, .int .i64 S.feed, .int .i64 S.heal, .int .i64 S.low, .int .i64 S.high, .slice X.l S.plans.length X.lc] 37)) none := Kept.alloc _ _ _ _ _
  have k2 : Kept (w.alloc (.cells #[.int .i64 S.id, .slice X.g S.groups.length X.gc, .slice X.a S.apart.length X.ac, .slice X.b S.between.length X.bc, .slice X.p S.phases.length X.pc, .slice X.e S.eyes.length X.ec, .int .i64 S.watch, .int .i64 S.feed, .int .i64 S.heal, .int .i64 S.low, .int .i64 S.high, .slice X.l S.plans.length X.lc] 37)) ((w.alloc (.cells #[.int .i64 S.id, .slice X.g S.groups.length X.gc, .slice X.a S.apart.length X.ac, .slice X.b S.between.length X.bc, .slice X.p S.phases.length X.pc, .slice X.e S.eyes.length X.ec, .int .i64 S.watch, .int .i64 S.feed, .int .i64 S.heal, .int .i64 S.low, .int .i64 S.high, .slice X.l S.plans.length X.lc] 37)).alloc (.cells #[.slice a n c, .int .i64 F.start, .bool F.flashed] 26)) none := Kept.alloc _ _ _ _ _
  have hsb := (sbox_alloc h 37).kept k2
  have bn := box_alloc (w.alloc (.cells #[.int .i64 S.id, .slice X.g S.groups.length X.gc, .slice X.a S.apart.length X.ac, .slice X.b S.between.length X.bc, .slice X.p S.phases.length X.pc, .slice X.e S.eyes.length X.ec, .int .i64 S.watch, .int .i64 S.feed, .int .i64 S.heal, .int .i64 S.low, .int .i64 S.high, .slice X.l S.plans.length X.lc] 37)) (.slice a n c) (.int .i64 F.start) (.bool F.flashed) 26
  rw [World.size_alloc] at bn
  have hsz : ((w.alloc (.cells #[.int .i64 S.id, .slice X.g S.groups.length X.gc, .slice X.a S.apart.length X.ac, .slice X.b S.between.length X.bc, .slice X.p S.phases.length X.pc, .slice X.e S.eyes.length X.ec, .int .i64 S.watch, .int .i64 S.feed, .int .i64 S.heal, .int .i64 S.low, .int .i64 S.high, .slice X.l S.plans.length X.lc] 37)).alloc (.cells #[.slice a n c, .int .i64 F.start, .bool F.flashed] 26)).heap.size = w.heap.size + 1 + 1 := by simp
  have hkA := k1.tr k2
  rw [e] at hsb bn hkA hsz
  exact ⟨hsb, bn, hsz, hkA, h.kept hkA, hF.kept hkA, fun w' q => (bn.kept q).c0, fun w' q => (bn.kept q).c1, fun w' q => (bn.kept q).c2, fun w' q => (hsb.kept q).c0, fun w' q => (hsb.kept q).c1, fun w' q => (hsb.kept q).c2, fun w' q => (hsb.kept q).c3, fun w' q => (hsb.kept q).c4, fun w' q => (hsb.kept q).c5, fun w' q => (hsb.kept q).c6, fun w' q => (hsb.kept q).c7, fun w' q => (hsb.kept q).c8, fun w' q => (hsb.kept q).c9, fun w' q => (hsb.kept q).c10, fun w' q => (hsb.kept q).c11⟩

end Go.Proofs.YtkgimccffggfdaaDoor

