/-
  Texts joined: some of those that the proofs of this seat stand on.
-/
import Derived.Test.YtfhmfanmnhclfaaDoorGateMJ
import Derived.Test.YtfhmfanmnhclfaaDoorPlanLJ
import Derived.Test.YtfhmfanmnhclfaaDoorCrcJ
import Derived.Deep.RegionHeld
/-
  OWN ROWS OF NUMBERS; the contracts of plan's small calls: remainder, nextPhase, clearBehind, leastParts, wishesOf (made by a program).
-/
namespace Go.Proofs.YtfhmfanmnhclfaaDoor
open Go.RowKit Go.Lib Go.Deep
set_option linter.unusedVariables false
set_option linter.unusedSimpArgs false

/-- n numbers in a row of one's own with room for cap. -/
structure RowI (w : World) (g n cap : Nat) (f : Nat → Int) : Prop where
  le : n ≤ cap
  mx : cap ≤ 9223372036854775807
  ex : ∃ r : Nat → Value, w.rowIs g 3 cap (fun j => if j < n then .int .i64 (f j) else r j)
theorem RowI.kept {w w' : World} {g n cap : Nat} {f : Nat → Int} {r : Option Nat} (h : RowI w g n cap f) (k : Kept w w' r) (hr : some g ≠ r) : RowI w' g n cap f := by
  obtain ⟨q, hq⟩ := h.ex
  exact ⟨h.le, h.mx, q, row_kept hq k hr⟩
theorem RowI.lt {w : World} {g n cap : Nat} {f : Nat → Int} (h : RowI w g n cap f) : g < w.heap.size := by
  obtain ⟨q, hq⟩ := h.ex
  exact hq.lt
theorem RowI.cell {w : World} {g n cap : Nat} {f : Nat → Int} (h : RowI w g n cap f) {i : Nat} (hi : i < n) : w.cell? ⟨g, i, none⟩ = some (.int .i64 (f i)) := by
  obtain ⟨q, hq⟩ := h.ex
  have := hq.cell (i := i) (by have := h.le; omega)
  rwa [if_pos hi] at this
theorem RowI.fz {w : World} {g n cap : Nat} {f : Nat → Int} (h : RowI w g n cap f) (i : Nat) : w.frozen? ⟨g, i, none⟩ = false := by
  obtain ⟨q, hq⟩ := h.ex
  exact hq.frozen i
theorem RowI.congr {w : World} {g n cap : Nat} {f f' : Nat → Int} (h : RowI w g n cap f) (e : ∀ i, i < n → f i = f' i) : RowI w g n cap f' := by
  obtain ⟨q, hq⟩ := h.ex
  exact ⟨h.le, h.mx, q, hq.congr (fun i hi => by by_cases h : i < n; · rw [if_pos h, if_pos h, e i h]
                                                 · rw [if_neg h, if_neg h])⟩
theorem RowI.set {w : World} {g n cap : Nat} {f : Nat → Int} (h : RowI w g n cap f) {i : Nat} (hi : i < n) (v : Int) : RowI (w.setCell ⟨g, i, none⟩ (.int .i64 v)) g n cap (fun j => if j = i then v else f j) := by
  obtain ⟨q, hq⟩ := h.ex
  refine ⟨h.le, h.mx, q, (hq.set i (.int .i64 v)).congr (fun j hj => ?_)⟩
  by_cases e : j = i
  · subst e; rw [if_pos rfl, if_pos hi, if_pos rfl]
  · rw [if_neg e]
    by_cases h2 : j < n
    · rw [if_pos h2, if_pos h2, if_neg e]
    · rw [if_neg h2, if_neg h2]
theorem RowI.of {w : World} {g n : Nat} {f : Nat → Int} (h : w.rowIs g 3 n (fun j => .int .i64 (f j))) (hn : n ≤ 1000) : RowI w g n n f :=
  ⟨Nat.le_refl _, by omega, fun _ => .int .i64 0, h.congr (fun i hi => by rw [if_pos hi])⟩
theorem RowI.ints {w : World} {g n cap : Nat} {f : Nat → Int} (h : RowI w g n cap f) {l : List Int} (hl : l.length = n) (e : ∀ i, i < n → l.getD i 0 = f i) (hr : ∀ i, i < n → i64B (f i)) : Ints w (some ⟨g, 0, none⟩) n cap l := by
  refine ⟨⟨fun _ => ⟨g, 0, rfl, h.lt, fun i hi j hj => ?_⟩⟩, hl, ⟨fun e => (nomatch e), h.le, by have := h.mx; omega⟩, fun x hx => ?_⟩
  · obtain rfl : j = 0 := by omega
    have := h.cell hi
    rw [Nat.zero_add, Nat.mul_one, Nat.add_zero, this, e i hi]
  · obtain ⟨i, hi, rfl⟩ := List.getElem_of_mem hx
    have h1 := e i (by omega)
    have h2 := hr i (by omega)
    rw [List.getD_eq_getElem?_getD, List.getElem?_eq_getElem hi, Option.getD_some] at h1
    rw [h1]
    exact h2
theorem map_get {f : Nat → Int} {n i : Nat} (h : i < n) : ((List.range n).map f).getD i 0 = f i := by simp [h]
theorem RowI.map {w : World} {g n cap : Nat} {f : Nat → Int} (h : RowI w g n cap f) (hr : ∀ i, i < n → i64B (f i)) : Ints w (some ⟨g, 0, none⟩) n cap ((List.range n).map f) := h.ints (by simp) (fun i hi => map_get hi) hr

/-! ### The small calls -/
theorem prem_any (n b : Int) (hn : i64B n) (h1 : 1 ≤ b) (h2 : b ≤ 1048576) (w : World) : Calls Tryd.prog 29 #[.int .i64 n, .int .i64 b] w fun e w' => e = .returned (.int .i64 (n % b)) ∧ w' = w := by
  unfold i64B at hn
  have hb0 : ¬ b = 0 := by omega
  have hbb : (b == 0) = false := by simpa using hb0
  have hm1 : n.tmod b < b := Int.tmod_lt_of_pos n (by omega)
  have hm2 : -b < n.tmod b := by
    have h3 : (-n).tmod b < b := Int.tmod_lt_of_pos (-n) (by omega)
    rw [Int.neg_tmod] at h3
    omega
  have hq : (n.tmod b + b) % b = n % b := by
    rw [Int.add_emod_right, Int.tmod_eq_emod]
    split
    · show (n % b - 0) % b = n % b
      rw [Int.sub_zero, Int.emod_emod_of_dvd _ (Int.dvd_refl b)]
    · rw [show (b.natAbs : Int) = b by omega, Int.sub_emod, Int.emod_self, Int.sub_zero, Int.emod_emod_of_dvd _ (Int.dvd_refl b), Int.emod_emod_of_dvd _ (Int.dvd_refl b)]
  have hq2 : (n.tmod b + b).tmod b = n % b := by rw [Int.tmod_eq_emod_of_nonneg (by omega)]; exact hq
  generalize hm : n.tmod b = m at *
  generalize n % b = q at *
  go_enter Tryd.func29, Tryd.ntmps29
  go_wp2
  go_ret
  exact ⟨rfl, rfl⟩
theorem pnxt_any {w : World} {B : Nat} {X : Sa} {S : St} (h : Sbox w B X S) (hn : S.phases.length ≤ 8) {p : Nat} (hp : p < S.phases.length) : Calls Tryd.prog 34 #[.pointer (some ⟨B, 0, none⟩), .int .i64 (p : Int)] w fun e w' => e = .returned (.int .i64 (((p + 1) % S.phases.length : Nat) : Int)) ∧ w' = w := by
  have c4 := h.c4
  have hmod : ((p : Int) + 1) % (S.phases.length : Int) = (((p + 1) % S.phases.length : Nat) : Int) := by simp
  have hmt : ((p : Int) + 1).tmod (S.phases.length : Int) = (((p + 1) % S.phases.length : Nat) : Int) := by rw [Int.tmod_eq_emod_of_nonneg (by omega)]; exact hmod
  have hn1 : ¬ (S.phases.length : Int) = 0 := by omega
  have hn2 : ((S.phases.length : Int) == 0) = false := by simpa using hn1
  clear h
  generalize (p + 1) % S.phases.length = m at *
  generalize S.phases.length = n at *
  go_enter Tryd.func34, Tryd.ntmps34
  go_wp2
  go_ret
  exact ⟨rfl, rfl⟩
/-- What lies behind a phase. -/
abbrev gapM (S : St) (i : Nat) : Int := liesM S i ((i + 1) % S.phases.length)
set_option maxRecDepth 100000 in
set_option maxHeartbeats 2000000 in
theorem pclr_any {w : World} {B : Nat} {X : Sa} {S : St} (h : Sbox w B X S) (hT : Tabb w) (hs : siteB S = true) {p : Nat} (hp : p < S.phases.length) : Calls Tryd.prog 33 #[.pointer (some ⟨B, 0, none⟩), .int .i64 (p : Int)] w fun e w' => e = .returned (.int .i64 (gapM S p)) ∧ Kept w w' none := by
  have HB := Hid.mk' h
  have HT := Hid.mk' hT
  have hn := (span_may hs).base.sh.ok.np.2
  have hm : (p + 1) % S.phases.length < S.phases.length := Nat.mod_lt _ (by omega)
  have HNX : Hid (∀ w', Kept w w' none → Calls Tryd.prog 34 #[.pointer (some ⟨B, 0, none⟩), .int .i64 (p : Int)] w' fun e w2 => e = .returned (.int .i64 (((p + 1) % S.phases.length : Nat) : Int)) ∧ w2 = w') := fun w' q => pnxt_any (HB.out.kept q) hn hp
  have HCL : Hid (∀ w', Kept w w' none → Calls Tryd.prog 57 #[siteV X S, .int .i64 (p : Int), .int .i64 (((p + 1) % S.phases.length : Nat) : Int)] w' fun e w2 => e = .returned (.tuple #[.int .i64 (gapM S p), .int .i64 0]) ∧ Kept w' w2 none) := fun w' q => clearq_yes (HB.out.sat.kept q) (HT.out.kept q) p _ hs hp hm
  have HV : Hid (gapM S p = gapM S p) := rfl
  have hb0 := Kept.refl w none
  have s0_ : ∀ w', Kept w w' none → w'.cell? ⟨B, 0, none⟩ = some (.int .i64 S.id) := fun w' q => (HB.out.kept q).c0
  have s1_ : ∀ w', Kept w w' none → w'.cell? ⟨B, 1, none⟩ = some (.slice X.g S.groups.length X.gc) := fun w' q => (HB.out.kept q).c1
  have s2_ : ∀ w', Kept w w' none → w'.cell? ⟨B, 2, none⟩ = some (.slice X.a S.apart.length X.ac) := fun w' q => (HB.out.kept q).c2
  have s3_ : ∀ w', Kept w w' none → w'.cell? ⟨B, 3, none⟩ = some (.slice X.b S.between.length X.bc) := fun w' q => (HB.out.kept q).c3
  have s4_ : ∀ w', Kept w w' none → w'.cell? ⟨B, 4, none⟩ = some (.slice X.p S.phases.length X.pc) := fun w' q => (HB.out.kept q).c4
  have s5_ : ∀ w', Kept w w' none → w'.cell? ⟨B, 5, none⟩ = some (.slice X.e S.eyes.length X.ec) := fun w' q => (HB.out.kept q).c5
  have s6_ : ∀ w', Kept w w' none → w'.cell? ⟨B, 6, none⟩ = some (.int .i64 S.watch) := fun w' q => (HB.out.kept q).c6
  have s7_ : ∀ w', Kept w w' none → w'.cell? ⟨B, 7, none⟩ = some (.int .i64 S.feed) := fun w' q => (HB.out.kept q).c7
  have s8_ : ∀ w', Kept w w' none → w'.cell? ⟨B, 8, none⟩ = some (.int .i64 S.heal) := fun w' q => (HB.out.kept q).c8
  have s9_ : ∀ w', Kept w w' none → w'.cell? ⟨B, 9, none⟩ = some (.int .i64 S.low) := fun w' q => (HB.out.kept q).c9
  have s10_ : ∀ w', Kept w w' none → w'.cell? ⟨B, 10, none⟩ = some (.int .i64 S.high) := fun w' q => (HB.out.kept q).c10
  have s11_ : ∀ w', Kept w w' none → w'.cell? ⟨B, 11, none⟩ = some (.slice X.l S.plans.length X.lc) := fun w' q => (HB.out.kept q).c11
  clear h hT HV
  generalize gapM S p = z at *
  generalize (p + 1) % S.phases.length = m at *
  go_enter Tryd.func33, Tryd.ntmps33
  go_wp2
  go_region_held (fun w' => Kept w w' none)
    ((first | exact hb0 | exact Kept.drew _ _ | assumption | exact Kept.tr hb0 (Kept.drew _ _)))
    ((first
      | (go_at_call 57; refine (HCL.out _ (by assumption)).mono ?_; rintro e wC ⟨rfl, hkC⟩; have hKC : Kept w wC none := Kept.tr (by assumption) hkC)
      | (go_at_call 34; refine (HNX.out _ (by assumption)).mono ?_; rintro e wN ⟨rfl, rfl⟩)))
  all_goals
    go_wp2
    go_ret
    exact ⟨rfl, by assumption⟩

end Go.Proofs.YtfhmfanmnhclfaaDoor

