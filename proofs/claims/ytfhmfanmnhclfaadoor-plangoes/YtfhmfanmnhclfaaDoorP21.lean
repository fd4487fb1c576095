import Derived.Deep.RegionHeld
import Derived.Test.YtfhmfanmnhclfaaDoorP17
import Derived.Test.YtfhmfanmnhclfaaDoorP20
import Derived.RegionIn
import Derived.Stop.RegionWithIn
import Derived.WalkMore
import Derived.Scope
namespace Go.Proofs.YtfhmfanmnhclfaaDoor
set_option linter.unusedVariables false
set_option linter.unusedSimpArgs false
section
open Go.RowKit Go.Lib Go.Deep

structure Hdp (w WA : World) (X : Sa) (S : St) (P : Pl) (a : Option Addr) (c : Nat) : Prop where
  sb : Hid (Sbox WA w.heap.size X S)
  bp : Hid (Box WA (w.heap.size + 1) (.int .i64 P.cycle) (.int .i64 P.offset) (.slice a P.splits.length c))
  z : Hid (WA.heap.size = w.heap.size + 1 + 1)
  k : Hid (Kept w WA none)
  s : Hid (Sat WA X S)
  i : Hid (Ints WA a P.splits.length c P.splits)
  p0 : ∀ w', Kept WA w' none → w'.cell? ⟨w.heap.size + 1, 0, none⟩ = some (.int .i64 P.cycle)
  p1 : ∀ w', Kept WA w' none → w'.cell? ⟨w.heap.size + 1, 1, none⟩ = some (.int .i64 P.offset)
  p2 : ∀ w', Kept WA w' none → w'.cell? ⟨w.heap.size + 1, 2, none⟩ = some (.slice a P.splits.length c)
  s0 : ∀ w', Kept WA w' none → w'.cell? ⟨w.heap.size, 0, none⟩ = some (.int .i64 S.id)
  s1 : ∀ w', Kept WA w' none → w'.cell? ⟨w.heap.size, 1, none⟩ = some (.slice X.g S.groups.length X.gc)
  s2 : ∀ w', Kept WA w' none → w'.cell? ⟨w.heap.size, 2, none⟩ = some (.slice X.a S.apart.length X.ac)
  s3 : ∀ w', Kept WA w' none → w'.cell? ⟨w.heap.size, 3, none⟩ = some (.slice X.b S.between.length X.bc)
  s4 : ∀ w', Kept WA w' none → w'.cell? ⟨w.heap.size, 4, none⟩ = some (.slice X.p S.phases.length X.pc)
  s5 : ∀ w', Kept WA w' none → w'.cell? ⟨w.heap.size, 5, none⟩ = some (.slice X.e S.eyes.length X.ec)
  s6 : ∀ w', Kept WA w' none → w'.cell? ⟨w.heap.size, 6, none⟩ = some (.int .i64 S.watch)
  s7 : ∀ w', Kept WA w' none → w'.cell? ⟨w.heap.size, 7, none⟩ = some (.int .i64 S.feed)
  s8 : ∀ w', Kept WA w' none → w'.cell? ⟨w.heap.size, 8, none⟩ = some (.int .i64 S.heal)
  s9 : ∀ w', Kept WA w' none → w'.cell? ⟨w.heap.size, 9, none⟩ = some (.int .i64 S.low)
  s10 : ∀ w', Kept WA w' none → w'.cell? ⟨w.heap.size, 10, none⟩ = some (.int .i64 S.high)
  s11 : ∀ w', Kept WA w' none → w'.cell? ⟨w.heap.size, 11, none⟩ = some (.slice X.l S.plans.length X.lc)
theorem hdp {X : Sa} {S : St} {w WA : World} {P : Pl} {a : Option Addr} {c : Nat} (h : Sat w X S) (hI : Ints w a P.splits.length c P.splits) (e : ((w.alloc (.cells #[.int .i64 S.id, .slice X.g S.groups.length X.gc, .slice X.a S.apart.length X.ac, .slice X.b S.between.length X.bc, .slice X.p S.phases.length X.pc, .slice X.e S.eyes.length X.ec, .int .i64 S.watch, .int .i64 S.feed, .int .i64 S.heal, .int .i64 S.low, .int .i64 S.high, .slice X.l S.plans.length X.lc] 35)).alloc (.cells #[.int .i64 P.cycle, .int .i64 P.offset, .slice a P.splits.length c] 24)) = WA) : Hdp w WA X S P a c := by
  have k1 : Kept w (w.alloc (.cells #[.int .i64 S.id, .slice X.g S.groups.length X.gc, .slice X.a S.apart.length X.ac, .slice X.b S.between.length X.bc, .slice X.p S.phases.length X.pc, .slice X.e S.eyes.length X.ec, .int .i64 S.watch, .int .i64 S.feed, .int .i64 S.heal, .int .i64 S.low, .int .i64 S.high, .slice X.l S.plans.length X.lc] 35)) none := Kept.alloc _ _ _ _ _
  have k2 : Kept (w.alloc (.cells #[.int .i64 S.id, .slice X.g S.groups.length X.gc, .slice X.a S.apart.length X.ac, .slice X.b S.between.length X.bc, .slice X.p S.phases.length X.pc, .slice X.e S.eyes.length X.ec, .int .i64 S.watch, .int .i64 S.feed, .int .i64 S.heal, .int .i64 S.low, .int .i64 S.high, .slice X.l S.plans.length X.lc] 35)) ((w.alloc (.cells #[.int .i64 S.id, .slice X.g S.groups.length X.gc, .slice X.a S.apart.length X.ac, .slice X.b S.between.length X.bc, .slice X.p S.phases.length X.pc, .slice X.e S.eyes.length X.ec, .int .i64 S.watch, .int .i64 S.feed, .int .i64 S.heal, .int .i64 S.low, .int .i64 S.high, .slice X.l S.plans.length X.lc] 35)).alloc (.cells #[.int .i64 P.cycle, .int .i64 P.offset, .slice a P.splits.length c] 24)) none := Kept.alloc _ _ _ _ _
  have hsb := (sbox_alloc h 35).kept k2
  have bp := box_alloc (w.alloc (.cells #[.int .i64 S.id, .slice X.g S.groups.length X.gc, .slice X.a S.apart.length X.ac, .slice X.b S.between.length X.bc, .slice X.p S.phases.length X.pc, .slice X.e S.eyes.length X.ec, .int .i64 S.watch, .int .i64 S.feed, .int .i64 S.heal, .int .i64 S.low, .int .i64 S.high, .slice X.l S.plans.length X.lc] 35)) (.int .i64 P.cycle) (.int .i64 P.offset) (.slice a P.splits.length c) 24
  rw [World.size_alloc] at bp
  have hkA := k1.tr k2
  have hsz : ((w.alloc (.cells #[.int .i64 S.id, .slice X.g S.groups.length X.gc, .slice X.a S.apart.length X.ac, .slice X.b S.between.length X.bc, .slice X.p S.phases.length X.pc, .slice X.e S.eyes.length X.ec, .int .i64 S.watch, .int .i64 S.feed, .int .i64 S.heal, .int .i64 S.low, .int .i64 S.high, .slice X.l S.plans.length X.lc] 35)).alloc (.cells #[.int .i64 P.cycle, .int .i64 P.offset, .slice a P.splits.length c] 24)).heap.size = w.heap.size + 1 + 1 := by simp
  rw [e] at hsb bp hkA hsz
  exact ⟨hsb, bp, hsz, hkA, h.kept hkA, hI.kept hkA, fun w' q => (bp.kept q).c0, fun w' q => (bp.kept q).c1, fun w' q => (bp.kept q).c2, fun w' q => (hsb.kept q).c0, fun w' q => (hsb.kept q).c1, fun w' q => (hsb.kept q).c2, fun w' q => (hsb.kept q).c3, fun w' q => (hsb.kept q).c4, fun w' q => (hsb.kept q).c5, fun w' q => (hsb.kept q).c6, fun w' q => (hsb.kept q).c7, fun w' q => (hsb.kept q).c8, fun w' q => (hsb.kept q).c9, fun w' q => (hsb.kept q).c10, fun w' q => (hsb.kept q).c11⟩
structure Hdpz (w WA : World) (X : Sa) (S : St) (P : Pl) (a : Option Addr) (c : Nat) : Prop where
  sb : Hid (Sbox WA w.heap.size X S)
  bp : Hid (Box WA (w.heap.size + 1) (.int .i64 P.cycle) (.int .i64 P.offset) (.slice a P.splits.length c))
  z : Hid (WA.heap.size = w.heap.size + 1 + 1 + 1)
  k : Hid (Kept w WA none)
  s : Hid (Sat WA X S)
  i : Hid (Ints WA a P.splits.length c P.splits)
  p0 : ∀ w', Kept WA w' none → w'.cell? ⟨w.heap.size + 1, 0, none⟩ = some (.int .i64 P.cycle)
  p1 : ∀ w', Kept WA w' none → w'.cell? ⟨w.heap.size + 1, 1, none⟩ = some (.int .i64 P.offset)
  p2 : ∀ w', Kept WA w' none → w'.cell? ⟨w.heap.size + 1, 2, none⟩ = some (.slice a P.splits.length c)
  s0 : ∀ w', Kept WA w' none → w'.cell? ⟨w.heap.size, 0, none⟩ = some (.int .i64 S.id)
  s1 : ∀ w', Kept WA w' none → w'.cell? ⟨w.heap.size, 1, none⟩ = some (.slice X.g S.groups.length X.gc)
  s2 : ∀ w', Kept WA w' none → w'.cell? ⟨w.heap.size, 2, none⟩ = some (.slice X.a S.apart.length X.ac)
  s3 : ∀ w', Kept WA w' none → w'.cell? ⟨w.heap.size, 3, none⟩ = some (.slice X.b S.between.length X.bc)
  s4 : ∀ w', Kept WA w' none → w'.cell? ⟨w.heap.size, 4, none⟩ = some (.slice X.p S.phases.length X.pc)
  s5 : ∀ w', Kept WA w' none → w'.cell? ⟨w.heap.size, 5, none⟩ = some (.slice X.e S.eyes.length X.ec)
  s6 : ∀ w', Kept WA w' none → w'.cell? ⟨w.heap.size, 6, none⟩ = some (.int .i64 S.watch)
  s7 : ∀ w', Kept WA w' none → w'.cell? ⟨w.heap.size, 7, none⟩ = some (.int .i64 S.feed)
  s8 : ∀ w', Kept WA w' none → w'.cell? ⟨w.heap.size, 8, none⟩ = some (.int .i64 S.heal)
  s9 : ∀ w', Kept WA w' none → w'.cell? ⟨w.heap.size, 9, none⟩ = some (.int .i64 S.low)
  s10 : ∀ w', Kept WA w' none → w'.cell? ⟨w.heap.size, 10, none⟩ = some (.int .i64 S.high)
  s11 : ∀ w', Kept WA w' none → w'.cell? ⟨w.heap.size, 11, none⟩ = some (.slice X.l S.plans.length X.lc)
  bz : Hid (Box WA (w.heap.size + 1 + 1) (.int .i64 0) (.int .i64 0) (.slice none 0 0))
theorem hdpz {X : Sa} {S : St} {w WA : World} {P : Pl} {a : Option Addr} {c : Nat} (h : Sat w X S) (hI : Ints w a P.splits.length c P.splits) (e : (((w.alloc (.cells #[.int .i64 S.id, .slice X.g S.groups.length X.gc, .slice X.a S.apart.length X.ac, .slice X.b S.between.length X.bc, .slice X.p S.phases.length X.pc, .slice X.e S.eyes.length X.ec, .int .i64 S.watch, .int .i64 S.feed, .int .i64 S.heal, .int .i64 S.low, .int .i64 S.high, .slice X.l S.plans.length X.lc] 35)).alloc (.cells #[.int .i64 P.cycle, .int .i64 P.offset, .slice a P.splits.length c] 24)).alloc (.cells #[.int .i64 0, .int .i64 0, .slice none 0 0] 24)) = WA) : Hdpz w WA X S P a c := by
  have k1 : Kept w (w.alloc (.cells #[.int .i64 S.id, .slice X.g S.groups.length X.gc, .slice X.a S.apart.length X.ac, .slice X.b S.between.length X.bc, .slice X.p S.phases.length X.pc, .slice X.e S.eyes.length X.ec, .int .i64 S.watch, .int .i64 S.feed, .int .i64 S.heal, .int .i64 S.low, .int .i64 S.high, .slice X.l S.plans.length X.lc] 35)) none := Kept.alloc _ _ _ _ _
  have k2 : Kept (w.alloc (.cells #[.int .i64 S.id, .slice X.g S.groups.length X.gc, .slice X.a S.apart.length X.ac, .slice X.b S.between.length X.bc, .slice X.p S.phases.length X.pc, .slice X.e S.eyes.length X.ec, .int .i64 S.watch, .int .i64 S.feed, .int .i64 S.heal, .int .i64 S.low, .int .i64 S.high, .slice X.l S.plans.length X.lc] 35)) ((w.alloc (.cells #[.int .i64 S.id, .slice X.g S.groups.length X.gc, .slice X.a S.apart.length X.ac, .slice X.b S.between.length X.bc, .slice X.p S.phases.length X.pc, .slice X.e S.eyes.length X.ec, .int .i64 S.watch, .int .i64 S.feed, .int .i64 S.heal, .int .i64 S.low, .int .i64 S.high, .slice X.l S.plans.length X.lc] 35)).alloc (.cells #[.int .i64 P.cycle, .int .i64 P.offset, .slice a P.splits.length c] 24)) none := Kept.alloc _ _ _ _ _
  have hsb := (sbox_alloc h 35).kept k2
  have bp := box_alloc (w.alloc (.cells #[.int .i64 S.id, .slice X.g S.groups.length X.gc, .slice X.a S.apart.length X.ac, .slice X.b S.between.length X.bc, .slice X.p S.phases.length X.pc, .slice X.e S.eyes.length X.ec, .int .i64 S.watch, .int .i64 S.feed, .int .i64 S.heal, .int .i64 S.low, .int .i64 S.high, .slice X.l S.plans.length X.lc] 35)) (.int .i64 P.cycle) (.int .i64 P.offset) (.slice a P.splits.length c) 24
  rw [World.size_alloc] at bp
  have k3 : Kept ((w.alloc (.cells #[.int .i64 S.id, .slice X.g S.groups.length X.gc, .slice X.a S.apart.length X.ac, .slice X.b S.between.length X.bc, .slice X.p S.phases.length X.pc, .slice X.e S.eyes.length X.ec, .int .i64 S.watch, .int .i64 S.feed, .int .i64 S.heal, .int .i64 S.low, .int .i64 S.high, .slice X.l S.plans.length X.lc] 35)).alloc (.cells #[.int .i64 P.cycle, .int .i64 P.offset, .slice a P.splits.length c] 24)) (((w.alloc (.cells #[.int .i64 S.id, .slice X.g S.groups.length X.gc, .slice X.a S.apart.length X.ac, .slice X.b S.between.length X.bc, .slice X.p S.phases.length X.pc, .slice X.e S.eyes.length X.ec, .int .i64 S.watch, .int .i64 S.feed, .int .i64 S.heal, .int .i64 S.low, .int .i64 S.high, .slice X.l S.plans.length X.lc] 35)).alloc (.cells #[.int .i64 P.cycle, .int .i64 P.offset, .slice a P.splits.length c] 24)).alloc (.cells #[.int .i64 0, .int .i64 0, .slice none 0 0] 24)) none := Kept.alloc _ _ _ _ _
  have bz := box_alloc ((w.alloc (.cells #[.int .i64 S.id, .slice X.g S.groups.length X.gc, .slice X.a S.apart.length X.ac, .slice X.b S.between.length X.bc, .slice X.p S.phases.length X.pc, .slice X.e S.eyes.length X.ec, .int .i64 S.watch, .int .i64 S.feed, .int .i64 S.heal, .int .i64 S.low, .int .i64 S.high, .slice X.l S.plans.length X.lc] 35)).alloc (.cells #[.int .i64 P.cycle, .int .i64 P.offset, .slice a P.splits.length c] 24)) (.int .i64 0) (.int .i64 0) (.slice none 0 0) 24
  rw [World.size_alloc, World.size_alloc] at bz
  have hsb := hsb.kept k3
  have bp := bp.kept k3
  have hkA := (k1.tr k2).tr k3
  have hsz : (((w.alloc (.cells #[.int .i64 S.id, .slice X.g S.groups.length X.gc, .slice X.a S.apart.length X.ac, .slice X.b S.between.length X.bc, .slice X.p S.phases.length X.pc, .slice X.e S.eyes.length X.ec, .int .i64 S.watch, .int .i64 S.feed, .int .i64 S.heal, .int .i64 S.low, .int .i64 S.high, .slice X.l S.plans.length X.lc] 35)).alloc (.cells #[.int .i64 P.cycle, .int .i64 P.offset, .slice a P.splits.length c] 24)).alloc (.cells #[.int .i64 0, .int .i64 0, .slice none 0 0] 24)).heap.size = w.heap.size + 1 + 1 + 1 := by simp
  rw [e] at hsb bp hkA hsz bz
  exact ⟨hsb, bp, hsz, hkA, h.kept hkA, hI.kept hkA, fun w' q => (bp.kept q).c0, fun w' q => (bp.kept q).c1, fun w' q => (bp.kept q).c2, fun w' q => (hsb.kept q).c0, fun w' q => (hsb.kept q).c1, fun w' q => (hsb.kept q).c2, fun w' q => (hsb.kept q).c3, fun w' q => (hsb.kept q).c4, fun w' q => (hsb.kept q).c5, fun w' q => (hsb.kept q).c6, fun w' q => (hsb.kept q).c7, fun w' q => (hsb.kept q).c8, fun w' q => (hsb.kept q).c9, fun w' q => (hsb.kept q).c10, fun w' q => (hsb.kept q).c11, bz⟩


/-- n numbers in a row of one's own with room for cap. -/
structure RowI (w : World) (g n cap : Nat) (f : Nat → Int) : Prop where
  le : n ≤ cap
  mx : cap ≤ 9223372036854775807
  ex : ∃ r : Nat → Value, w.rowIs g 3 cap (fun j => if j < n then .int .i64 (f j) else r j)
theorem RowI.kept {w w' : World} {g n cap : Nat} {f : Nat → Int} {r : Option Nat} (h : RowI w g n cap f) (k : Kept w w' r) (hr : some g ≠ r) : RowI w' g n cap f := by
  obtain ⟨q, hq⟩ := h.ex
  exact ⟨h.le, h.mx, q, row_kept hq k hr⟩
theorem RowI.lt {w : World} {g n cap : Nat} {f : Nat → Int} (h : RowI w g n cap f) : g < w.heap.size := by
  obtain ⟨q, hq⟩ := h.ex
  exact hq.lt
theorem RowI.cell {w : World} {g n cap : Nat} {f : Nat → Int} (h : RowI w g n cap f) {i : Nat} (hi : i < n) : w.cell? ⟨g, i, none⟩ = some (.int .i64 (f i)) := by
  obtain ⟨q, hq⟩ := h.ex
  have := hq.cell (i := i) (by have := h.le; omega)
  rwa [if_pos hi] at this
theorem RowI.fz {w : World} {g n cap : Nat} {f : Nat → Int} (h : RowI w g n cap f) (i : Nat) : w.frozen? ⟨g, i, none⟩ = false := by
  obtain ⟨q, hq⟩ := h.ex
  exact hq.frozen i
theorem RowI.congr {w : World} {g n cap : Nat} {f f' : Nat → Int} (h : RowI w g n cap f) (e : ∀ i, i < n → f i = f' i) : RowI w g n cap f' := by
  obtain ⟨q, hq⟩ := h.ex
  exact ⟨h.le, h.mx, q, hq.congr (fun i hi => by by_cases h : i < n; · rw [if_pos h, if_pos h, e i h]
                                                 · rw [if_neg h, if_neg h])⟩
theorem RowI.set {w : World} {g n cap : Nat} {f : Nat → Int} (h : RowI w g n cap f) {i : Nat} (hi : i < n) (v : Int) : RowI (w.setCell ⟨g, i, none⟩ (.int .i64 v)) g n cap (fun j => if j = i then v else f j) := by
  obtain ⟨q, hq⟩ := h.ex
  refine ⟨h.le, h.mx, q, (hq.set i (.int .i64 v)).congr (fun j hj => ?_)⟩
  by_cases e : j = i
  · subst e; rw [if_pos rfl, if_pos hi, if_pos rfl]
  · rw [if_neg e]
    by_cases h2 : j < n
    · rw [if_pos h2, if_pos h2, if_neg e]
    · rw [if_neg h2, if_neg h2]
theorem RowI.of {w : World} {g n : Nat} {f : Nat → Int} (h : w.rowIs g 3 n (fun j => .int .i64 (f j))) (hn : n ≤ 1000) : RowI w g n n f :=
  ⟨Nat.le_refl _, by omega, fun _ => .int .i64 0, h.congr (fun i hi => by rw [if_pos hi])⟩
theorem RowI.ints {w : World} {g n cap : Nat} {f : Nat → Int} (h : RowI w g n cap f) {l : List Int} (hl : l.length = n) (e : ∀ i, i < n → l.getD i 0 = f i) (hr : ∀ i, i < n → i64B (f i)) : Ints w (some ⟨g, 0, none⟩) n cap l := by
  refine ⟨⟨fun _ => ⟨g, 0, rfl, h.lt, fun i hi j hj => ?_⟩⟩, hl, ⟨fun e => (nomatch e), h.le, by have := h.mx; omega⟩, fun x hx => ?_⟩
  · obtain rfl : j = 0 := by omega
    have := h.cell hi
    rw [Nat.zero_add, Nat.mul_one, Nat.add_zero, this, e i hi]
  · obtain ⟨i, hi, rfl⟩ := List.getElem_of_mem hx
    have h1 := e i (by omega)
    have h2 := hr i (by omega)
    rw [List.getD_eq_getElem?_getD, List.getElem?_eq_getElem hi, Option.getD_some] at h1
    rw [h1]
    exact h2
theorem map_get {f : Nat → Int} {n i : Nat} (h : i < n) : ((List.range n).map f).getD i 0 = f i := by simp [h]
theorem RowI.map {w : World} {g n cap : Nat} {f : Nat → Int} (h : RowI w g n cap f) (hr : ∀ i, i < n → i64B (f i)) : Ints w (some ⟨g, 0, none⟩) n cap ((List.range n).map f) := h.ints (by simp) (fun i hi => map_get hi) hr

/-! ### The small calls -/
theorem prem_any (n b : Int) (hn : i64B n) (h1 : 1 ≤ b) (h2 : b ≤ 1048576) (w : World) : Calls Tryd.prog 29 #[.int .i64 n, .int .i64 b] w fun e w' => e = .returned (.int .i64 (n % b)) ∧ w' = w := by
  unfold i64B at hn
  have hb0 : ¬ b = 0 := by omega
  have hbb : (b == 0) = false := by simpa using hb0
  have hm1 : n.tmod b < b := Int.tmod_lt_of_pos n (by omega)
  have hm2 : -b < n.tmod b := by
    have h3 : (-n).tmod b < b := Int.tmod_lt_of_pos (-n) (by omega)
    rw [Int.neg_tmod] at h3
    omega
  have hq : (n.tmod b + b) % b = n % b := by
    rw [Int.add_emod_right, Int.tmod_eq_emod]
    split
    · show (n % b - 0) % b = n % b
      rw [Int.sub_zero, Int.emod_emod_of_dvd _ (Int.dvd_refl b)]
    · rw [show (b.natAbs : Int) = b by omega, Int.sub_emod, Int.emod_self, Int.sub_zero, Int.emod_emod_of_dvd _ (Int.dvd_refl b), Int.emod_emod_of_dvd _ (Int.dvd_refl b)]
  have hq2 : (n.tmod b + b).tmod b = n % b := by rw [Int.tmod_eq_emod_of_nonneg (by omega)]; exact hq
  generalize hm : n.tmod b = m at *
  generalize n % b = q at *
  go_enter Tryd.func29, Tryd.ntmps29
  go_wp2
  go_ret
  exact ⟨rfl, rfl⟩
theorem pnxt_any {w : World} {B : Nat} {X : Sa} {S : St} (h : Sbox w B X S) (hn : S.phases.length ≤ 8) {p : Nat} (hp : p < S.phases.length) : Calls Tryd.prog 34 #[.pointer (some ⟨B, 0, none⟩), .int .i64 (p : Int)] w fun e w' => e = .returned (.int .i64 (((p + 1) % S.phases.length : Nat) : Int)) ∧ w' = w := by
  have c4 := h.c4
  have hmod : ((p : Int) + 1) % (S.phases.length : Int) = (((p + 1) % S.phases.length : Nat) : Int) := by simp
  have hmt : ((p : Int) + 1).tmod (S.phases.length : Int) = (((p + 1) % S.phases.length : Nat) : Int) := by rw [Int.tmod_eq_emod_of_nonneg (by omega)]; exact hmod
  have hn1 : ¬ (S.phases.length : Int) = 0 := by omega
  have hn2 : ((S.phases.length : Int) == 0) = false := by simpa using hn1
  clear h
  generalize (p + 1) % S.phases.length = m at *
  generalize S.phases.length = n at *
  go_enter Tryd.func34, Tryd.ntmps34
  go_wp2
  go_ret
  exact ⟨rfl, rfl⟩
/-- What lies behind a phase. -/
abbrev gapM (S : St) (i : Nat) : Int := liesM S i ((i + 1) % S.phases.length)
set_option maxRecDepth 100000 in
set_option maxHeartbeats 2000000 in
theorem pclr_any {w : World} {B : Nat} {X : Sa} {S : St} (h : Sbox w B X S) (hT : Tabb w) (hs : siteB S = true) {p : Nat} (hp : p < S.phases.length) : Calls Tryd.prog 33 #[.pointer (some ⟨B, 0, none⟩), .int .i64 (p : Int)] w fun e w' => e = .returned (.int .i64 (gapM S p)) ∧ Kept w w' none := by
  have HB := Hid.mk' h
  have HT := Hid.mk' hT
  have hn := (span_may hs).base.sh.ok.np.2
  have hm : (p + 1) % S.phases.length < S.phases.length := Nat.mod_lt _ (by omega)
  have HNX : Hid (∀ w', Kept w w' none → Calls Tryd.prog 34 #[.pointer (some ⟨B, 0, none⟩), .int .i64 (p : Int)] w' fun e w2 => e = .returned (.int .i64 (((p + 1) % S.phases.length : Nat) : Int)) ∧ w2 = w') := fun w' q => pnxt_any (HB.out.kept q) hn hp
  have HCL : Hid (∀ w', Kept w w' none → Calls Tryd.prog 57 #[siteV X S, .int .i64 (p : Int), .int .i64 (((p + 1) % S.phases.length : Nat) : Int)] w' fun e w2 => e = .returned (.tuple #[.int .i64 (gapM S p), .int .i64 0]) ∧ Kept w' w2 none) := fun w' q => clearq_yes (HB.out.sat.kept q) (HT.out.kept q) p _ hs hp hm
  have HV : Hid (gapM S p = gapM S p) := rfl
  have hb0 := Kept.refl w none
  have s0_ : ∀ w', Kept w w' none → w'.cell? ⟨B, 0, none⟩ = some (.int .i64 S.id) := fun w' q => (HB.out.kept q).c0
  have s1_ : ∀ w', Kept w w' none → w'.cell? ⟨B, 1, none⟩ = some (.slice X.g S.groups.length X.gc) := fun w' q => (HB.out.kept q).c1
  have s2_ : ∀ w', Kept w w' none → w'.cell? ⟨B, 2, none⟩ = some (.slice X.a S.apart.length X.ac) := fun w' q => (HB.out.kept q).c2
  have s3_ : ∀ w', Kept w w' none → w'.cell? ⟨B, 3, none⟩ = some (.slice X.b S.between.length X.bc) := fun w' q => (HB.out.kept q).c3
  have s4_ : ∀ w', Kept w w' none → w'.cell? ⟨B, 4, none⟩ = some (.slice X.p S.phases.length X.pc) := fun w' q => (HB.out.kept q).c4
  have s5_ : ∀ w', Kept w w' none → w'.cell? ⟨B, 5, none⟩ = some (.slice X.e S.eyes.length X.ec) := fun w' q => (HB.out.kept q).c5
  have s6_ : ∀ w', Kept w w' none → w'.cell? ⟨B, 6, none⟩ = some (.int .i64 S.watch) := fun w' q => (HB.out.kept q).c6
  have s7_ : ∀ w', Kept w w' none → w'.cell? ⟨B, 7, none⟩ = some (.int .i64 S.feed) := fun w' q => (HB.out.kept q).c7
  have s8_ : ∀ w', Kept w w' none → w'.cell? ⟨B, 8, none⟩ = some (.int .i64 S.heal) := fun w' q => (HB.out.kept q).c8
  have s9_ : ∀ w', Kept w w' none → w'.cell? ⟨B, 9, none⟩ = some (.int .i64 S.low) := fun w' q => (HB.out.kept q).c9
  have s10_ : ∀ w', Kept w w' none → w'.cell? ⟨B, 10, none⟩ = some (.int .i64 S.high) := fun w' q => (HB.out.kept q).c10
  have s11_ : ∀ w', Kept w w' none → w'.cell? ⟨B, 11, none⟩ = some (.slice X.l S.plans.length X.lc) := fun w' q => (HB.out.kept q).c11
  clear h hT HV
  generalize gapM S p = z at *
  generalize (p + 1) % S.phases.length = m at *
  go_enter Tryd.func33, Tryd.ntmps33
  go_wp2
  go_region_held (fun w' => Kept w w' none)
    ((first | exact hb0 | exact Kept.drew _ _ | assumption | exact Kept.tr hb0 (Kept.drew _ _)))
    ((first
      | (go_at_call 57; refine (HCL.out _ (by assumption)).mono ?_; rintro e wC ⟨rfl, hkC⟩; have hKC : Kept w wC none := Kept.tr (by assumption) hkC)
      | (go_at_call 34; refine (HNX.out _ (by assumption)).mono ?_; rintro e wN ⟨rfl, rfl⟩)))
  all_goals
    go_wp2
    go_ret
    exact ⟨rfl, by assumption⟩

end
section
open Go.RowKit Go.Lib Go.Deep Go.Shelf
attribute [local go_sem] Oper.semAt_some

/-- A number below another one. -/
abbrev Ix (m : Nat) := { i : Nat // i < m }
def ivals {m : Nat} (l : List (Ix m)) : List Nat := l.map (·.1)
theorem ivals_snoc {m : Nat} (l : List (Ix m)) (x : Ix m) : ivals (l ++ [x]) = ivals l ++ [x.1] := by simp [ivals]
/-- Where a part begins. -/
def bgI (L : List Int) (i : Nat) : Int := sumF (fun k => L.getD k 0) i
def partsV (L : List Int) {m : Nat} (x : Ix m) : Array Value := #[.int .i64 (x.1 : Int), .int .i64 (bgI L x.1)]
set_option maxRecDepth 100000 in
set_option maxHeartbeats 4000000 in
theorem parts1_in (q : Nat) (hq : 1 ≤ q) (l B : Nat) {a : Option Addr} {n c : Nat} {L : List Int} (W0 : World) (hA : Ints W0 a n c L) (hr : ∀ k, k ≤ n → i64B (bgI L k))
    (J Jx : List (Ix n) → World → Prop) (W : World) (c1 : W.cell? ⟨B, 0, none⟩ = some (.slice a n c))
    (hY : ∀ pre (x : Ix n) W, J pre W → pre.length < n → YieldAt Fence.wide (q - 1) Tryd.prog l (partsV L x) W fun e W' =>
      (e = .returned (.bool true) ∧ J (pre ++ [x]) W' ∧ Below W0.heap.size W W') ∨ (e = .returned (.bool false) ∧ Jx (pre ++ [x]) W'))
    (hW : Below W0.heap.size W0 W) (h0 : J [] W) :
    CallsIn Fence.wide q Tryd.prog 93 #[.func (.yield l) #[] #[], .pointer (some ⟨B, 0, none⟩)] W fun e W' => (∃ v, e = .returned v) ∧
      ((∃ ys, ivals ys = List.range n ∧ J ys W') ∨ (∃ pre : List (Ix n), (∃ k, k < n ∧ ivals pre = List.range (k + 1)) ∧ Jx pre W')) := by
  have hn9 : n ≤ 9223372036854775807 := by have := hA.cap.room; have := hA.cap.max; omega
  have HA := Hid.mk' hA
  have HR := Hid.mk' hr
  have HW := Hid.mk' hW
  have HY := Hid.mk' hY
  have H0 := Hid.mk' h0
  have k1 := c1
  clear hA hr hW hY h0 c1
  refine callsIn_of_wp Tryd.func93 rfl trivial ?_ rfl
  simp only [Tryd.ntmps93, List.size_toArray, List.length_cons, List.length_nil, Nat.reduceAdd, Nat.reduceSub, Array.replicate_succ, Array.replicate_zero, List.push_toArray, List.append_toArray, List.nil_append, List.cons_append]
  gi_wp2
  gi_loopw [3, 4, 5, 8] (fun b _ _ i wr => ∃ (k : Nat) (pre : List (Ix n)), k ≤ n ∧ i = .int .i64 k ∧ b = .int .i64 (bgI L k) ∧ ivals pre = List.range k ∧ J pre wr ∧ Below W0.heap.size W0 wr) (fun _ _ _ i _ => n - (intOf i).toNat)
  case atStart => exact ⟨0, [], by omega, rfl, rfl, rfl, H0.out, HW.out⟩
  case round =>
    obtain ⟨k, pre, hk, rfl, rfl, hpre, hJs, hnx⟩ := hrel
    have HP := Hid.mk' hpre
    have HN := Hid.mk' hnx
    clear hpre
    by_cases hlt : k < n
    · obtain ⟨fn, tmps, assign, body, hy, hRR⟩ := HY.out pre ⟨k, hlt⟩ wr hJs (by have := congrArg List.length HP.out; simp [ivals] at this; omega)
      unfold partsV at hy
      dsimp only at hy
      have hkp := Kept.of_below HN.out
      obtain ⟨b1, o1, rfl, _, hc1⟩ := (HA.out.kept hkp).at_ (by omega)
      have y1 := hc1 k hlt
      have hb1 := HR.out k hk
      have hb2 := HR.out (k + 1) (by omega)
      have HB2 : Hid (bgI L (k + 1) = bgI L k + L.getD k 0) := sumF_succ _ _
      rw [HB2.out] at hb2
      unfold i64B at hb1 hb2
      have hsum : IntKind.i64.wrap (bgI L k + L.getD k 0) = bgI L k + L.getD k 0 := wrap_in (by omega) (by omega)
      clear hc1 hJs hkp hnx k1
      have HL : Hid (ivals (pre ++ [⟨k, hlt⟩]) = List.range (k + 1)) := by show _ = _; rw [ivals_snoc, HP.out, List.range_succ]
      generalize hz : (pre ++ [(⟨k, hlt⟩ : Ix n)]) = pre2 at *
      clear hz
      generalize L.getD k 0 = y at *
      generalize bgI L k = z at *
      gi_wp2
      refine hRR.mono ?_
      rintro e W3 (⟨rfl, hJ3, hk3⟩ | ⟨rfl, hJx3⟩)
      · gi_wp2
        go_roundw
        case rel => exact ⟨k + 1, pre2, by omega, by go_num, by rw [HB2.out]; try go_num, HL.out, hJ3, HN.out.trans hk3⟩
        case measure => simp [intOf]; omega
      · gi_wp2
        refine bodyPost_ret (results_none rfl _ _ _) rfl ?_
        exact ⟨⟨_, rfl⟩, .inr ⟨_, ⟨k, hlt, HL.out⟩, hJx3⟩⟩
    · obtain rfl : k = n := by omega
      gi_wp2
      go_end0
      exact ⟨⟨_, rfl⟩, .inl ⟨pre, HP.out, hJs⟩⟩
theorem parts_stops (q : Nat) (hq : 1 ≤ q) (B : Nat) {a : Option Addr} {n c : Nat} {L : List Int} (Wb W0 : World) (hA : Ints Wb a n c L) (hb : Below Wb.heap.size Wb W0) (hr : ∀ k, k ≤ n → i64B (bgI L k)) (c1 : W0.cell? ⟨B, 0, none⟩ = some (.slice a n c)) :
    SeqStopsK Fence.wide q Tryd.prog 93 #[.pointer (some ⟨B, 0, none⟩)] (fun x : Ix n => partsV L x) (Below Wb.heap.size) (fun ys => ivals ys = List.range n) (fun pre => ∃ k, k < n ∧ ivals pre = List.range (k + 1)) n W0 := fun l J Jx W hW hJ _ hY h0 =>
  parts1_in q hq l B Wb hA hr J Jx W (cell_kept0 c1 (Kept.of_below hW)) hY (hb.trans (hW.mono hb.size)) h0
set_option maxHeartbeats 1000000 in
theorem parts_in (q : Nat) (w : World) (a : Option Addr) (n c : Nat) :
    CallsIn Fence.wide q Tryd.prog 56 #[.slice a n c] w fun e w' => e = .returned (.func (.func 93) #[] #[.pointer (some ⟨w.heap.size, 0, none⟩)]) ∧ w' = w.alloc (.cells #[.slice a n c] 22) := by
  refine callsIn_of_wp Tryd.func56 rfl trivial ?_ rfl
  simp only [Tryd.ntmps56, List.size_toArray, List.length_cons, List.length_nil, Nat.reduceAdd, Nat.reduceSub, Array.replicate_succ, Array.replicate_zero, List.push_toArray, List.append_toArray, List.nil_append, List.cons_append]
  gi_wp2
  go_ret
  exact ⟨rfl, rfl⟩

/-! ### whose -/
/-- What stands behind some parts: the last one, and how far. -/
def atI (L : List Int) (q : Int) (l : List Nat) : Int × Int := match l.getLast? with
  | none => (0, 0)
  | some i => ((i : Int), q - bgI L i)
theorem atI_snoc (L : List Int) (q : Int) (l : List Nat) (i : Nat) : atI L q (l ++ [i]) = ((i : Int), q - bgI L i) := by simp [atI]
theorem atI_upto (L : List Int) (q : Int) (k : Nat) : atI L q (List.range (k + 1)) = ((k : Int), q - bgI L k) := by rw [List.range_succ, atI_snoc]
theorem place_is {S : St} {P : Pl} (hs : siteB S = true) (h : PlF S P) (t : Nat) : ((t : Int) - P.offset) % P.cycle = (placeN P t : Int) := by
  obtain ⟨_, h1, h2⟩ := pre_tot hs h
  have h3 := h.o0
  have h4 := h.o1
  unfold placeN
  obtain ⟨c, hc⟩ : ∃ c : Nat, P.cycle = c := ⟨P.cycle.toNat, by omega⟩
  obtain ⟨o, ho⟩ : ∃ o : Nat, P.offset = o := ⟨P.offset.toNat, by omega⟩
  have hoc : o ≤ c := by omega
  rw [hc, ho, Int.toNat_natCast, Int.toNat_natCast]
  rw [← Int.add_emod_right, show (t : Int) - o + c = ((t + (c - o) : Nat) : Int) by omega]
  simp
theorem bg_pre {S : St} {P : Pl} (hs : siteB S = true) (h : PlF S P) {k : Nat} (hk : k ≤ S.phases.length) : bgI P.splits k = ((preN (spN P) k : Nat) : Int) := (pre_sum hs h k hk).symm
/-- The part of a tick: the last one that has begun. -/
theorem part_of {S : St} {P : Pl} (hs : siteB S = true) (h : PlF S P) {t k : Nat} (hk : k < S.phases.length) (h1 : bgI P.splits k ≤ (placeN P t : Int)) (h2 : k + 1 < S.phases.length → (placeN P t : Int) < bgI P.splits (k + 1)) : ((k : Int), (placeN P t : Int) - bgI P.splits k) = (((partV P t).1 : Int), ((partV P t).2 : Int)) := by
  obtain ⟨i, x, hi, hx, hp, e⟩ := part_ex hs h t
  obtain ⟨ht, hc, ho⟩ := pre_tot hs h
  rw [e]
  rw [bg_pre hs h (by omega)] at h1 ⊢
  have hik : i = k := by
    rcases Nat.lt_trichotomy i k with e1 | e1 | e1
    · have := preN_mono (sp := spN P) (i := i + 1) (j := k) (by omega)
      rw [preN_succ] at this
      omega
    · exact e1
    · have h2 := h2 (by omega)
      rw [bg_pre hs h (by omega)] at h2
      have := preN_mono (sp := spN P) (i := k + 1) (j := i) (by omega)
      omega
  subst hik
  rw [hp]
  show _ = ((i : Int), (x : Int))
  rw [show ((preN (spN P) i + x : Nat) : Int) - (preN (spN P) i : Int) = (x : Int) by omega]

end
end Go.Proofs.YtfhmfanmnhclfaaDoor
