/-
  WHAT A CALL BEGINS WITH: a site, a place and a standing, in boxes of its own (made by a program).
-/
import Derived.Test.YtkgimccffggfdaaDoorTurH
import Derived.Test.YtkgimccffggfdaaDoorBx2
namespace Go.Proofs.YtkgimccffggfdaaDoor
open Go.RowKit Go.Lib Go.Deep
set_option linter.unusedVariables false
set_option linter.unusedSimpArgs false

structure Hd3 (w WA : World) (X : Sa) (S : St) (a : Option Addr) (n c : Nat) (F : Sf) (p s : Int) : Prop where
  sb : Hid (Sbox WA w.heap.size X S)
  bq : Hid (Bx2 WA (w.heap.size + 1) (.int .i64 p) (.int .i64 s))
  bn : Hid (Box WA (w.heap.size + 1 + 1) (.slice a n c) (.int .i64 F.start) (.bool F.flashed))
  k : Hid (Kept w WA none)
  s_ : Hid (Sat WA X S)
  f : Hid (SafeAt WA a c F)
  z : Hid (w.heap.size + 1 + 1 + 1 ≤ WA.heap.size)
  q0 : ∀ w', Kept WA w' none → w'.cell? ⟨w.heap.size + 1, 0, none⟩ = some (.int .i64 p)
  q1 : ∀ w', Kept WA w' none → w'.cell? ⟨w.heap.size + 1, 1, none⟩ = some (.int .i64 s)
  n0 : ∀ w', Kept WA w' none → w'.cell? ⟨w.heap.size + 1 + 1, 0, none⟩ = some (.slice a n c)
  n1 : ∀ w', Kept WA w' none → w'.cell? ⟨w.heap.size + 1 + 1, 1, none⟩ = some (.int .i64 F.start)
  n2 : ∀ w', Kept WA w' none → w'.cell? ⟨w.heap.size + 1 + 1, 2, none⟩ = some (.bool F.flashed)
  s0 : ∀ w', Kept WA w' none → w'.cell? ⟨w.heap.size, 0, none⟩ = some (.int .i64 S.id)
  s1 : ∀ w', Kept WA w' none → w'.cell? ⟨w.heap.size, 1, none⟩ = some (.slice X.g S.groups.length X.gc)
  s2 : ∀ w', Kept WA w' none → w'.cell? ⟨w.heap.size, 2, none⟩ = some (.slice X.a S.apart.length X.ac)
  s3 : ∀ w', Kept WA w' none → w'.cell? ⟨w.heap.size, 3, none⟩ = some (.slice X.b S.between.length X.bc)
  s4 : ∀ w', Kept WA w' none → w'.cell? ⟨w.heap.size, 4, none⟩ = some (.slice X.p S.phases.length X.pc)
  s5 : ∀ w', Kept WA w' none → w'.cell? ⟨w.heap.size, 5, none⟩ = some (.slice X.e S.eyes.length X.ec)
  s6 : ∀ w', Kept WA w' none → w'.cell? ⟨w.heap.size, 6, none⟩ = some (.int .i64 S.watch)
  s7 : ∀ w', Kept WA w' none → w'.cell? ⟨w.heap.size, 7, none⟩ = some (.int .i64 S.feed)
  s8 : ∀ w', Kept WA w' none → w'.cell? ⟨w.heap.size, 8, none⟩ = some (.int .i64 S.heal)
  s9 : ∀ w', Kept WA w' none → w'.cell? ⟨w.heap.size, 9, none⟩ = some (.int .i64 S.low)
  s10 : ∀ w', Kept WA w' none → w'.cell? ⟨w.heap.size, 10, none⟩ = some (.int .i64 S.high)
  s11 : ∀ w', Kept WA w' none → w'.cell? ⟨w.heap.size, 11, none⟩ = some (.slice X.l S.plans.length X.lc)

theorem hd3k {X : Sa} {S : St} {w WA : World} {a : Option Addr} {n c : Nat} {F : Sf} {p s : Int} {V : World} (h : Sat w X S) (hF : SafeAt w a c F) (e : (((w.alloc (.cells #[.int .i64 S.id, .slice X.g S.groups.length X.gc, .slice X.a S.apart.length X.ac, .slice X.b S.between.length X.bc, .slice X.p S.phases.length X.pc, .slice X.e S.eyes.length X.ec, .int .i64 S.watch, .int .i64 S.feed, .int .i64 S.heal, .int .i64 S.low, .int .i64 S.high, .slice X.l S.plans.length X.lc] 37)).alloc (.cells #[.int .i64 p, .int .i64 s] 40)).alloc (.cells #[.slice a n c, .int .i64 F.start, .bool F.flashed] 26)) = V) (k : Kept V WA none) : Hd3 w WA X S a n c F p s := by
  have k1 : Kept w (w.alloc (.cells #[.int .i64 S.id, .slice X.g S.groups.length X.gc, .slice X.a S.apart.length X.ac, .slice X.b S.between.length X.bc, .slice X.p S.phases.length X.pc, .slice X.e S.eyes.length X.ec, .int .i64 S.watch, .int .i64 S.feed, .int .i64 S.heal, .int .i64 S.low, .int .i64 S.high, .slice X.l S.plans.length X.lc] 37)) none := Kept.alloc _ _ _ _ _
  obtain ⟨U1, e1⟩ : ∃ U1, (w.alloc (.cells #[.int .i64 S.id, .slice X.g S.groups.length X.gc, .slice X.a S.apart.length X.ac, .slice X.b S.between.length X.bc, .slice X.p S.phases.length X.pc, .slice X.e S.eyes.length X.ec, .int .i64 S.watch, .int .i64 S.feed, .int .i64 S.heal, .int .i64 S.low, .int .i64 S.high, .slice X.l S.plans.length X.lc] 37)) = U1 := ⟨_, rfl⟩
  have hsb := sbox_alloc h 37
  have z1 : (w.alloc (.cells #[.int .i64 S.id, .slice X.g S.groups.length X.gc, .slice X.a S.apart.length X.ac, .slice X.b S.between.length X.bc, .slice X.p S.phases.length X.pc, .slice X.e S.eyes.length X.ec, .int .i64 S.watch, .int .i64 S.feed, .int .i64 S.heal, .int .i64 S.low, .int .i64 S.high, .slice X.l S.plans.length X.lc] 37)).heap.size = w.heap.size + 1 := by simp
  rw [e1] at k1 hsb e z1
  have k2 : Kept U1 (U1.alloc (.cells #[.int .i64 p, .int .i64 s] 40)) none := Kept.alloc _ _ _ _ _
  have bq := bx2_alloc U1 (.int .i64 p) (.int .i64 s) 40
  have z2 : (U1.alloc (.cells #[.int .i64 p, .int .i64 s] 40)).heap.size = w.heap.size + 1 + 1 := by simp [z1]
  obtain ⟨U2, e2⟩ : ∃ U2, U1.alloc (.cells #[.int .i64 p, .int .i64 s] 40) = U2 := ⟨_, rfl⟩
  rw [e2] at k2 bq e z2
  have k3 : Kept U2 (U2.alloc (.cells #[.slice a n c, .int .i64 F.start, .bool F.flashed] 26)) none := Kept.alloc _ _ _ _ _
  have bn := box_alloc U2 (.slice a n c) (.int .i64 F.start) (.bool F.flashed) 26
  have z3 : (U2.alloc (.cells #[.slice a n c, .int .i64 F.start, .bool F.flashed] 26)).heap.size = w.heap.size + 1 + 1 + 1 := by simp [z2]
  rw [e] at k3 bn z3
  rw [z2] at bn
  rw [z1] at bq
  have hsb := hsb.kept ((k2.tr k3).tr k)
  have bq := bq.kept (k3.tr k)
  have bn := bn.kept k
  have hk := ((k1.tr k2).tr k3).tr k
  exact ⟨hsb, bq, bn, hk, h.kept hk, hF.kept hk, by have := k.size; rw [z3] at this; exact this, fun w' q => (bq.kept q).c0, fun w' q => (bq.kept q).c1, fun w' q => (bn.kept q).c0, fun w' q => (bn.kept q).c1, fun w' q => (bn.kept q).c2, fun w' q => (hsb.kept q).c0, fun w' q => (hsb.kept q).c1, fun w' q => (hsb.kept q).c2, fun w' q => (hsb.kept q).c3, fun w' q => (hsb.kept q).c4, fun w' q => (hsb.kept q).c5, fun w' q => (hsb.kept q).c6, fun w' q => (hsb.kept q).c7, fun w' q => (hsb.kept q).c8, fun w' q => (hsb.kept q).c9, fun w' q => (hsb.kept q).c10, fun w' q => (hsb.kept q).c11⟩
/-- No result's variable. -/
theorem hd3 {X : Sa} {S : St} {w WA : World} {a : Option Addr} {n c : Nat} {F : Sf} {p s : Int} (h : Sat w X S) (hF : SafeAt w a c F) (e : (((w.alloc (.cells #[.int .i64 S.id, .slice X.g S.groups.length X.gc, .slice X.a S.apart.length X.ac, .slice X.b S.between.length X.bc, .slice X.p S.phases.length X.pc, .slice X.e S.eyes.length X.ec, .int .i64 S.watch, .int .i64 S.feed, .int .i64 S.heal, .int .i64 S.low, .int .i64 S.high, .slice X.l S.plans.length X.lc] 37)).alloc (.cells #[.int .i64 p, .int .i64 s] 40)).alloc (.cells #[.slice a n c, .int .i64 F.start, .bool F.flashed] 26)) = WA) : Hd3 w WA X S a n c F p s := hd3k h hF e (Kept.refl _ _)
/-- And a place's zero. -/
theorem hd3z {X : Sa} {S : St} {w WA : World} {a : Option Addr} {n c : Nat} {F : Sf} {p s : Int} (h : Sat w X S) (hF : SafeAt w a c F) (e : (((w.alloc (.cells #[.int .i64 S.id, .slice X.g S.groups.length X.gc, .slice X.a S.apart.length X.ac, .slice X.b S.between.length X.bc, .slice X.p S.phases.length X.pc, .slice X.e S.eyes.length X.ec, .int .i64 S.watch, .int .i64 S.feed, .int .i64 S.heal, .int .i64 S.low, .int .i64 S.high, .slice X.l S.plans.length X.lc] 37)).alloc (.cells #[.int .i64 p, .int .i64 s] 40)).alloc (.cells #[.slice a n c, .int .i64 F.start, .bool F.flashed] 26)).alloc (.cells #[.int .i64 0, .int .i64 0] 40) = WA) : Hd3 w WA X S a n c F p s ∧ Hid (Bx2 WA (w.heap.size + 1 + 1 + 1) (.int .i64 0) (.int .i64 0)) := by
  have z3 : (((w.alloc (.cells #[.int .i64 S.id, .slice X.g S.groups.length X.gc, .slice X.a S.apart.length X.ac, .slice X.b S.between.length X.bc, .slice X.p S.phases.length X.pc, .slice X.e S.eyes.length X.ec, .int .i64 S.watch, .int .i64 S.feed, .int .i64 S.heal, .int .i64 S.low, .int .i64 S.high, .slice X.l S.plans.length X.lc] 37)).alloc (.cells #[.int .i64 p, .int .i64 s] 40)).alloc (.cells #[.slice a n c, .int .i64 F.start, .bool F.flashed] 26)).heap.size = w.heap.size + 1 + 1 + 1 := by simp
  obtain ⟨V, hV⟩ : ∃ V, (((w.alloc (.cells #[.int .i64 S.id, .slice X.g S.groups.length X.gc, .slice X.a S.apart.length X.ac, .slice X.b S.between.length X.bc, .slice X.p S.phases.length X.pc, .slice X.e S.eyes.length X.ec, .int .i64 S.watch, .int .i64 S.feed, .int .i64 S.heal, .int .i64 S.low, .int .i64 S.high, .slice X.l S.plans.length X.lc] 37)).alloc (.cells #[.int .i64 p, .int .i64 s] 40)).alloc (.cells #[.slice a n c, .int .i64 F.start, .bool F.flashed] 26)) = V := ⟨_, rfl⟩
  rw [hV] at e z3
  have kz : Kept V (V.alloc (.cells #[.int .i64 0, .int .i64 0] 40)) none := Kept.alloc _ _ _ _ _
  have bz := bx2_alloc V (.int .i64 0) (.int .i64 0) 40
  rw [e] at kz bz
  rw [z3] at bz
  exact ⟨hd3k h hF hV kz, bz⟩
/-- And a place's and a standing's. -/
theorem hd3s {X : Sa} {S : St} {w WA : World} {a : Option Addr} {n c : Nat} {F : Sf} {p s : Int} (h : Sat w X S) (hF : SafeAt w a c F) (e : ((((w.alloc (.cells #[.int .i64 S.id, .slice X.g S.groups.length X.gc, .slice X.a S.apart.length X.ac, .slice X.b S.between.length X.bc, .slice X.p S.phases.length X.pc, .slice X.e S.eyes.length X.ec, .int .i64 S.watch, .int .i64 S.feed, .int .i64 S.heal, .int .i64 S.low, .int .i64 S.high, .slice X.l S.plans.length X.lc] 37)).alloc (.cells #[.int .i64 p, .int .i64 s] 40)).alloc (.cells #[.slice a n c, .int .i64 F.start, .bool F.flashed] 26)).alloc (.cells #[.int .i64 0, .int .i64 0] 40)).alloc (.cells #[.slice none 0 0, .int .i64 0, .bool false] 26) = WA) : Hd3 w WA X S a n c F p s ∧ Hid (Bx2 WA (w.heap.size + 1 + 1 + 1) (.int .i64 0) (.int .i64 0)) ∧ Hid (Box WA (w.heap.size + 1 + 1 + 1 + 1) (.slice none 0 0) (.int .i64 0) (.bool false)) := by
  have z3 : (((w.alloc (.cells #[.int .i64 S.id, .slice X.g S.groups.length X.gc, .slice X.a S.apart.length X.ac, .slice X.b S.between.length X.bc, .slice X.p S.phases.length X.pc, .slice X.e S.eyes.length X.ec, .int .i64 S.watch, .int .i64 S.feed, .int .i64 S.heal, .int .i64 S.low, .int .i64 S.high, .slice X.l S.plans.length X.lc] 37)).alloc (.cells #[.int .i64 p, .int .i64 s] 40)).alloc (.cells #[.slice a n c, .int .i64 F.start, .bool F.flashed] 26)).heap.size = w.heap.size + 1 + 1 + 1 := by simp
  obtain ⟨V, hV⟩ : ∃ V, (((w.alloc (.cells #[.int .i64 S.id, .slice X.g S.groups.length X.gc, .slice X.a S.apart.length X.ac, .slice X.b S.between.length X.bc, .slice X.p S.phases.length X.pc, .slice X.e S.eyes.length X.ec, .int .i64 S.watch, .int .i64 S.feed, .int .i64 S.heal, .int .i64 S.low, .int .i64 S.high, .slice X.l S.plans.length X.lc] 37)).alloc (.cells #[.int .i64 p, .int .i64 s] 40)).alloc (.cells #[.slice a n c, .int .i64 F.start, .bool F.flashed] 26)) = V := ⟨_, rfl⟩
  rw [hV] at e z3
  have kz : Kept V (V.alloc (.cells #[.int .i64 0, .int .i64 0] 40)) none := Kept.alloc _ _ _ _ _
  have bz := bx2_alloc V (.int .i64 0) (.int .i64 0) 40
  have z4 : (V.alloc (.cells #[.int .i64 0, .int .i64 0] 40)).heap.size = w.heap.size + 1 + 1 + 1 + 1 := by simp [z3]
  obtain ⟨U, hU⟩ : ∃ U, V.alloc (.cells #[.int .i64 0, .int .i64 0] 40) = U := ⟨_, rfl⟩
  rw [hU] at kz bz e z4
  have kn : Kept U (U.alloc (.cells #[.slice none 0 0, .int .i64 0, .bool false] 26)) none := Kept.alloc _ _ _ _ _
  have bn := box_alloc U (.slice none 0 0) (.int .i64 0) (.bool false) 26
  rw [e] at kn bn
  rw [z3] at bz
  rw [z4] at bn
  exact ⟨hd3k h hF hV (kz.tr kn), bz.kept kn, bn⟩

end Go.Proofs.YtkgimccffggfdaaDoor
