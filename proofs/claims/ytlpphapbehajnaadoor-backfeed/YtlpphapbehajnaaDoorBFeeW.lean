/-
  THE WALK of BackFeed (made by a program).
-/
import Derived.Test.YtlpphapbehajnaaDoorTwoB
import Derived.Test.YtlpphapbehajnaaDoorRefG
import Derived.Deep.RegionHeld
namespace Go.Proofs.YtlpphapbehajnaaDoor
open Go.RowKit Go.Lib Go.Deep
set_option linter.unusedVariables false
set_option linter.unusedSimpArgs false

/-- A list of bools lies where a slice leads. -/
structure Bls (w : World) (a : Option Addr) (n : Nat) (B : List Bool) : Prop where
  size : B.length = n
  lie : Lie w a n 1 (fun i _ => .bool (B.getD i false))
theorem Bls.kept {w w' : World} {a : Option Addr} {n : Nat} {B : List Bool} (h : Bls w a n B) (q : Kept w w' none) : Bls w' a n B := ⟨h.size, h.lie.kept q⟩
set_option maxRecDepth 100000 in
set_option maxHeartbeats 4000000 in
theorem bfee_long {X : Sa} {S : St} {w : World} (h : Sat w X S) (hT : Tabb w) {a : Option Addr} {n c : Nat} {B : List Bool} (hA : Bls w a n B) (hAc : Cap a n c) (hl : 200 < n) : Calls Tryd.prog 6 #[siteV X S, .slice a n c] w fun e w' => e = .returned (.bool true) ∧ Below w.heap.size w w' := by
  have hlb : decide ((200 : Int) < (n : Int)) = true := by simp; omega
  have hkA : Kept w (w.alloc (.cells #[.int .i64 S.id, .slice X.g S.groups.length X.gc, .slice X.a S.apart.length X.ac, .slice X.b S.between.length X.bc, .slice X.p S.phases.length X.pc, .slice X.e S.eyes.length X.ec, .int .i64 S.watch, .int .i64 S.feed, .int .i64 S.heal, .int .i64 S.low, .int .i64 S.high, .slice X.l S.plans.length X.lc] 29)) none := Kept.alloc _ _ _ _ _
  have hsb := sbox_alloc h 29
  have HS := Hid.mk' (h.kept hkA)
  have HT := Hid.mk' (hT.kept hkA)
  obtain ⟨WA, hWA⟩ : ∃ WA, (w.alloc (.cells #[.int .i64 S.id, .slice X.g S.groups.length X.gc, .slice X.a S.apart.length X.ac, .slice X.b S.between.length X.bc, .slice X.p S.phases.length X.pc, .slice X.e S.eyes.length X.ec, .int .i64 S.watch, .int .i64 S.feed, .int .i64 S.heal, .int .i64 S.low, .int .i64 S.high, .slice X.l S.plans.length X.lc] 29)) = WA := ⟨_, rfl⟩
  rw [hWA] at hkA hsb HS HT
  have HK := Hid.mk' hkA
  have HA := Hid.mk' (hA.kept hkA)
  have hAm := hAc.max
  have hAr := hAc.room
  clear hA hAc
  have HSB := Hid.mk' hsb
  have s0_ : ∀ w', Kept WA w' none → w'.cell? ⟨w.heap.size, 0, none⟩ = some (.int .i64 S.id) := fun w' q => (HSB.out.kept q).c0
  have s1_ : ∀ w', Kept WA w' none → w'.cell? ⟨w.heap.size, 1, none⟩ = some (.slice X.g S.groups.length X.gc) := fun w' q => (HSB.out.kept q).c1
  have s2_ : ∀ w', Kept WA w' none → w'.cell? ⟨w.heap.size, 2, none⟩ = some (.slice X.a S.apart.length X.ac) := fun w' q => (HSB.out.kept q).c2
  have s3_ : ∀ w', Kept WA w' none → w'.cell? ⟨w.heap.size, 3, none⟩ = some (.slice X.b S.between.length X.bc) := fun w' q => (HSB.out.kept q).c3
  have s4_ : ∀ w', Kept WA w' none → w'.cell? ⟨w.heap.size, 4, none⟩ = some (.slice X.p S.phases.length X.pc) := fun w' q => (HSB.out.kept q).c4
  have s5_ : ∀ w', Kept WA w' none → w'.cell? ⟨w.heap.size, 5, none⟩ = some (.slice X.e S.eyes.length X.ec) := fun w' q => (HSB.out.kept q).c5
  have s6_ : ∀ w', Kept WA w' none → w'.cell? ⟨w.heap.size, 6, none⟩ = some (.int .i64 S.watch) := fun w' q => (HSB.out.kept q).c6
  have s7_ : ∀ w', Kept WA w' none → w'.cell? ⟨w.heap.size, 7, none⟩ = some (.int .i64 S.feed) := fun w' q => (HSB.out.kept q).c7
  have s8_ : ∀ w', Kept WA w' none → w'.cell? ⟨w.heap.size, 8, none⟩ = some (.int .i64 S.heal) := fun w' q => (HSB.out.kept q).c8
  have s9_ : ∀ w', Kept WA w' none → w'.cell? ⟨w.heap.size, 9, none⟩ = some (.int .i64 S.low) := fun w' q => (HSB.out.kept q).c9
  have s10_ : ∀ w', Kept WA w' none → w'.cell? ⟨w.heap.size, 10, none⟩ = some (.int .i64 S.high) := fun w' q => (HSB.out.kept q).c10
  have s11_ : ∀ w', Kept WA w' none → w'.cell? ⟨w.heap.size, 11, none⟩ = some (.slice X.l S.plans.length X.lc) := fun w' q => (HSB.out.kept q).c11
  have hK0 := Kept.refl WA none
  clear h hT hkA hsb
  go_enter Tryd.func6, Tryd.ntmps6
  go_wp2_with (first | rw [hWA] | (go_at_call 11; refine (balive_any HT.out).mono ?_; rintro e wa ⟨rfl, hka⟩; have hKa : Kept WA wa none := hka))
  go_at_call 12
  refine (rgreat_any (HS.out.kept hKa)).mono ?_
  rintro e wg ⟨gr, rfl, hgr, hkg⟩
  have hKg : Kept WA wg none := hKa.tr hkg
  clear hgr
  cases gr with
  | true =>
    go_wp2
    go_ret
    exact ⟨rfl, (HK.out.tr hKg).below⟩
  | false =>
    go_wp2
    go_ret
    exact ⟨rfl, (HK.out.tr hKg).below⟩
set_option maxRecDepth 100000 in
set_option maxHeartbeats 4000000 in
theorem bfee_site {X : Sa} {S : St} {w : World} (h : Sat w X S) (hT : Tabb w) {a : Option Addr} {n c : Nat} {B : List Bool} (hA : Bls w a n B) (hAc : Cap a n c) (hl : n ≤ 200) (hs : siteB S = false) : Calls Tryd.prog 6 #[siteV X S, .slice a n c] w fun e w' => e = .returned (.bool true) ∧ Below w.heap.size w w' := by
  have hlb : decide ((200 : Int) < (n : Int)) = false := by simp; omega
  have hce : checkE S = 50 := by unfold checkE; rw [hs]; rfl
  have hkA : Kept w (w.alloc (.cells #[.int .i64 S.id, .slice X.g S.groups.length X.gc, .slice X.a S.apart.length X.ac, .slice X.b S.between.length X.bc, .slice X.p S.phases.length X.pc, .slice X.e S.eyes.length X.ec, .int .i64 S.watch, .int .i64 S.feed, .int .i64 S.heal, .int .i64 S.low, .int .i64 S.high, .slice X.l S.plans.length X.lc] 29)) none := Kept.alloc _ _ _ _ _
  have hsb := sbox_alloc h 29
  have HS := Hid.mk' (h.kept hkA)
  have HT := Hid.mk' (hT.kept hkA)
  obtain ⟨WA, hWA⟩ : ∃ WA, (w.alloc (.cells #[.int .i64 S.id, .slice X.g S.groups.length X.gc, .slice X.a S.apart.length X.ac, .slice X.b S.between.length X.bc, .slice X.p S.phases.length X.pc, .slice X.e S.eyes.length X.ec, .int .i64 S.watch, .int .i64 S.feed, .int .i64 S.heal, .int .i64 S.low, .int .i64 S.high, .slice X.l S.plans.length X.lc] 29)) = WA := ⟨_, rfl⟩
  rw [hWA] at hkA hsb HS HT
  have HK := Hid.mk' hkA
  have HA := Hid.mk' (hA.kept hkA)
  have hAm := hAc.max
  have hAr := hAc.room
  clear hA hAc
  have HSB := Hid.mk' hsb
  have s0_ : ∀ w', Kept WA w' none → w'.cell? ⟨w.heap.size, 0, none⟩ = some (.int .i64 S.id) := fun w' q => (HSB.out.kept q).c0
  have s1_ : ∀ w', Kept WA w' none → w'.cell? ⟨w.heap.size, 1, none⟩ = some (.slice X.g S.groups.length X.gc) := fun w' q => (HSB.out.kept q).c1
  have s2_ : ∀ w', Kept WA w' none → w'.cell? ⟨w.heap.size, 2, none⟩ = some (.slice X.a S.apart.length X.ac) := fun w' q => (HSB.out.kept q).c2
  have s3_ : ∀ w', Kept WA w' none → w'.cell? ⟨w.heap.size, 3, none⟩ = some (.slice X.b S.between.length X.bc) := fun w' q => (HSB.out.kept q).c3
  have s4_ : ∀ w', Kept WA w' none → w'.cell? ⟨w.heap.size, 4, none⟩ = some (.slice X.p S.phases.length X.pc) := fun w' q => (HSB.out.kept q).c4
  have s5_ : ∀ w', Kept WA w' none → w'.cell? ⟨w.heap.size, 5, none⟩ = some (.slice X.e S.eyes.length X.ec) := fun w' q => (HSB.out.kept q).c5
  have s6_ : ∀ w', Kept WA w' none → w'.cell? ⟨w.heap.size, 6, none⟩ = some (.int .i64 S.watch) := fun w' q => (HSB.out.kept q).c6
  have s7_ : ∀ w', Kept WA w' none → w'.cell? ⟨w.heap.size, 7, none⟩ = some (.int .i64 S.feed) := fun w' q => (HSB.out.kept q).c7
  have s8_ : ∀ w', Kept WA w' none → w'.cell? ⟨w.heap.size, 8, none⟩ = some (.int .i64 S.heal) := fun w' q => (HSB.out.kept q).c8
  have s9_ : ∀ w', Kept WA w' none → w'.cell? ⟨w.heap.size, 9, none⟩ = some (.int .i64 S.low) := fun w' q => (HSB.out.kept q).c9
  have s10_ : ∀ w', Kept WA w' none → w'.cell? ⟨w.heap.size, 10, none⟩ = some (.int .i64 S.high) := fun w' q => (HSB.out.kept q).c10
  have s11_ : ∀ w', Kept WA w' none → w'.cell? ⟨w.heap.size, 11, none⟩ = some (.slice X.l S.plans.length X.lc) := fun w' q => (HSB.out.kept q).c11
  have hK0 := Kept.refl WA none
  clear h hT hkA hsb
  go_enter Tryd.func6, Tryd.ntmps6
  go_wp2_with (first | rw [hWA] | (go_at_call 11; refine (balive_any HT.out).mono ?_; rintro e wa ⟨rfl, hka⟩; have hKa : Kept WA wa none := hka))
  go_at_call 12
  refine (rgreat_any (HS.out.kept hKa)).mono ?_
  rintro e wg ⟨gr, rfl, hgr, hkg⟩
  have hKg : Kept WA wg none := hKa.tr hkg
  clear hgr
  cases gr with
  | true =>
    go_wp2
    go_ret
    exact ⟨rfl, (HK.out.tr hKg).below⟩
  | false =>
    go_wp2_with (first | (go_at_call 16; have hx := check_any (HS.out.kept hKg) (HT.out.kept hKg); rw [hce] at hx; refine hx.mono ?_; rintro e wC ⟨rfl, hkC⟩; have hKC : Kept WA wC none := hKg.tr hkC; clear hx))
    go_ret
    exact ⟨rfl, (HK.out.tr hKC).below⟩
/-- What two rows made in either order leave behind. -/
def FdP (W : World) (n : Nat) (A : Nat → Nat → Act) (e : Exit) (a : Act) (w : World) : Prop := match e with
  | .normal => ∃ bw bs, bw ≠ bs ∧ W.heap.size ≤ bw ∧ W.heap.size ≤ bs ∧ a = A bw bs ∧ w.rowIs bw 5 n (fun _ => .int .u8 0) ∧ w.rowIs bs 5 n (fun _ => .int .u8 0) ∧ Kept W w none
  | _ => False
theorem FdP.out {W : World} {n : Nat} {A : Nat → Nat → Act} {e : Exit} {a : Act} {w : World} (h : FdP W n A e a w) : e = .normal ∧ ∃ bw bs, bw ≠ bs ∧ W.heap.size ≤ bw ∧ W.heap.size ≤ bs ∧ a = A bw bs ∧ w.rowIs bw 5 n (fun _ => .int .u8 0) ∧ w.rowIs bs 5 n (fun _ => .int .u8 0) ∧ Kept W w none := by
  cases e with
  | normal => exact ⟨rfl, h⟩
  | _ => exact h.elim
/-- The two rows, one behind the other. -/
theorem made2 (w : World) (n : Nat) : ((w.drew.alloc (.cells (madeCells #[.int .u8 0] n) 5)).alloc (.cells (madeCells #[.int .u8 0] n) 5)).rowIs w.heap.size 5 n (fun _ => .int .u8 0) ∧ ((w.drew.alloc (.cells (madeCells #[.int .u8 0] n) 5)).alloc (.cells (madeCells #[.int .u8 0] n) 5)).rowIs (w.heap.size + 1) 5 n (fun _ => .int .u8 0) ∧ Kept w ((w.drew.alloc (.cells (madeCells #[.int .u8 0] n) 5)).alloc (.cells (madeCells #[.int .u8 0] n) 5)) none := by
  have k1 : Kept w (w.drew.alloc (.cells (madeCells #[.int .u8 0] n) 5)) none := (Kept.drew w none).tr (Kept.alloc _ _ _ (0, 0) _)
  have k2 : Kept (w.drew.alloc (.cells (madeCells #[.int .u8 0] n) 5)) ((w.drew.alloc (.cells (madeCells #[.int .u8 0] n) 5)).alloc (.cells (madeCells #[.int .u8 0] n) 5)) none := Kept.alloc _ _ _ (0, 0) _
  have r1 := World.rowIs_made w.drew (.int .u8 0) n 5
  have r2 := World.rowIs_made (w.drew.alloc (.cells (madeCells #[.int .u8 0] n) 5)) (.int .u8 0) n 5
  rw [World.size_alloc] at r2
  exact ⟨row_kept r1 k2 (by simp), r2, k1.tr k2⟩
theorem info10 : (Tryd.prog.info? 5).map (fun i => (i.zero, i.size, i.bytes)) = some (some (.int .u8 0), 1, 1) := by kernel_rfl
theorem row_far10 {w : World} {b n : Nat} {t : TypeId} {f : Nat → Value} (h : w.rowIs b t n f) {b' : Nat} (hne : b ≠ b') (k : Nat) (v : Value) : (w.setCell ⟨b', k, none⟩ v).rowIs b t n f := by
  obtain ⟨c, h1, h2⟩ := h
  exact ⟨c, (Below.heap_setCell _ _ _ _ hne).trans h1, h2⟩
def fcell (k x : Nat) (i : Nat) : Value := .int .u8 ((if i < k then x else 0 : Nat) : Int)
theorem fcell_set {k x : Nat} : (fun j => if j = k then Value.int .u8 (x : Int) else fcell k x j) = fcell (k + 1) x := by
  funext j
  unfold fcell
  by_cases h : j = k
  · subst h; simp
  · rw [if_neg h]
    by_cases h2 : j < k
    · rw [if_pos h2, if_pos (by omega)]
    · rw [if_neg h2, if_neg (by omega)]
/-- All red; all red but the first one. -/
def allR (g : Nat) : List Nat := (List.range g).map (fun _ => 1)
def oneG (g : Nat) : List Nat := (List.range g).map (fun i => if i = 0 then 2 else 1)
theorem allR_at {g i : Nat} (h : i < g) : at10 (allR g) i = 1 := by unfold at10 allR; simp [h]
theorem oneG_at {g i : Nat} (h : i < g) : at10 (oneG g) i = if i = 0 then 2 else 1 := by unfold at10 oneG; simp [h]
theorem allR_len (g : Nat) : (allR g).length = g := by simp [allR]
theorem oneG_len (g : Nat) : (oneG g).length = g := by simp [oneG]
theorem allR_lt (g : Nat) : ∀ x ∈ allR g, x < 256 := fun x hx => by simp [allR] at hx; omega
theorem oneG_lt (g : Nat) : ∀ x ∈ oneG g, x < 256 := fun x hx => by
  simp only [oneG, List.mem_map] at hx
  obtain ⟨i, _, rfl⟩ := hx
  split <;> omega
theorem allR_lit (g : Nat) : litE g (allR g) = 0 := litE_ok (allR_len g) (litB_yes (fun i hi => by rw [allR_len] at hi; rw [allR_at hi]; omega))
theorem oneG_lit (g : Nat) : litE g (oneG g) = 0 := litE_ok (oneG_len g) (litB_yes (fun i hi => by rw [oneG_len] at hi; rw [oneG_at hi]; split <;> omega))
theorem both_R (g : Nat) : bothE g (allR g) (allR g) = 0 := by unfold bothE; split <;> exact allR_lit g
theorem both_G (g : Nat) : bothE g (allR g) (oneG g) = 0 := by
  unfold bothE
  split
  · exact allR_lit g
  · exact oneG_lit g
theorem dif_G {g : Nat} (h : 0 < g) : difB (allR g) (oneG g) = true := difB_yes (i := 0) (by rw [oneG_len]; exact h) (by rw [allR_at h, oneG_at h]; decide)
set_option maxRecDepth 100000 in
set_option maxHeartbeats 4000000 in
theorem bfee_go {X : Sa} {S : St} {w : World} (h : Sat w X S) (hT : Tabb w) {a : Option Addr} {n c : Nat} {B : List Bool} (hA : Bls w a n B) (hAc : Cap a n c) (hl : n ≤ 200) (hs : siteB S = true) : Calls Tryd.prog 6 #[siteV X S, .slice a n c] w fun e w' => e = .returned (.bool true) ∧ Below w.heap.size w w' := by
  have hlb : decide ((200 : Int) < (n : Int)) = false := by simp; omega
  have hce : checkE S = 0 := by unfold checkE; rw [hs]; rfl
  have hgr : 1 ≤ S.groups.length ∧ S.groups.length ≤ 16 := (span_may hs).base.sh.ok.ng
  have hcn : ∀ q : Int, 0 ≤ q → q ≤ 1000 → countE S q = 0 := fun q h0 h1 => by unfold countE; rw [hs, if_pos rfl, if_pos ⟨h0, by omega⟩]
  have HN1 : Hid (∀ w', Kept w w' none → ∀ (bw bs r : Nat), r ≤ 200 → By w' (some ⟨bw, 0, none⟩) S.groups.length (allR S.groups.length) → By w' (some ⟨bs, 0, none⟩) S.groups.length (oneG S.groups.length) → Calls Tryd.prog 9 #[siteV X S, .int .i64 (r : Int), .slice (some ⟨bw, 0, none⟩) S.groups.length S.groups.length, .slice (some ⟨bs, 0, none⟩) S.groups.length S.groups.length] w' fun e w2 => e = .returned (.tuple #[.int .i64 ((r : Int) + 1), .int .i64 0]) ∧ Kept w' w2 none) := fun w' q bw bs r hr hb1 hb2 => by
    have hx := next_any (c := S.groups.length) (d := S.groups.length) (h.kept q) (hT.kept q) hb1 hb2 (r : Int)
    have he : nextE S (r : Int) (allR S.groups.length) (oneG S.groups.length) = 0 := by unfold nextE; rw [if_pos (hcn _ (by omega) (by omega)), both_G]
    have hv : nextV S (r : Int) (allR S.groups.length) (oneG S.groups.length) = (r : Int) + 1 := by unfold nextV; rw [if_pos ⟨he, dif_G (by omega)⟩, if_pos (by omega)]
    rw [he, hv] at hx
    exact hx
  have HN0 : Hid (∀ w', Kept w w' none → ∀ (bw r : Nat), r ≤ 200 → By w' (some ⟨bw, 0, none⟩) S.groups.length (allR S.groups.length) → Calls Tryd.prog 9 #[siteV X S, .int .i64 (r : Int), .slice (some ⟨bw, 0, none⟩) S.groups.length S.groups.length, .slice (some ⟨bw, 0, none⟩) S.groups.length S.groups.length] w' fun e w2 => e = .returned (.tuple #[.int .i64 0, .int .i64 0]) ∧ Kept w' w2 none) := fun w' q bw r hr hb1 => by
    have hx := next_any (c := S.groups.length) (d := S.groups.length) (h.kept q) (hT.kept q) hb1 hb1 (r : Int)
    have he : nextE S (r : Int) (allR S.groups.length) (allR S.groups.length) = 0 := by unfold nextE; rw [if_pos (hcn _ (by omega) (by omega)), both_R]
    have hv : nextV S (r : Int) (allR S.groups.length) (allR S.groups.length) = 0 := by unfold nextV; rw [if_neg (by rw [difB_same]; simp)]
    rw [he, hv] at hx
    exact hx
  have HL : Hid (∀ w', Kept w w' none → ∀ q : Int, 0 ≤ q → q ≤ 1000 → Calls Tryd.prog 10 #[siteV X S, .int .i64 q] w' fun e w2 => e = .returned (.tuple #[.bool (decide (S.feed ≤ q)), .int .i64 0]) ∧ Kept w' w2 none) := fun w' q z h0 h1 => by
    have hx := lat_any (h.kept q) (hT.kept q) z
    rw [show latV S z = decide (S.feed ≤ z) by unfold latV; rw [hcn z h0 h1, decide_eq_true rfl, Bool.true_and], hcn z h0 h1] at hx
    exact hx
  clear hcn
  have hkA : Kept w (w.alloc (.cells #[.int .i64 S.id, .slice X.g S.groups.length X.gc, .slice X.a S.apart.length X.ac, .slice X.b S.between.length X.bc, .slice X.p S.phases.length X.pc, .slice X.e S.eyes.length X.ec, .int .i64 S.watch, .int .i64 S.feed, .int .i64 S.heal, .int .i64 S.low, .int .i64 S.high, .slice X.l S.plans.length X.lc] 29)) none := Kept.alloc _ _ _ _ _
  have hsb := sbox_alloc h 29
  have HS := Hid.mk' (h.kept hkA)
  have HT := Hid.mk' (hT.kept hkA)
  obtain ⟨WA, hWA⟩ : ∃ WA, (w.alloc (.cells #[.int .i64 S.id, .slice X.g S.groups.length X.gc, .slice X.a S.apart.length X.ac, .slice X.b S.between.length X.bc, .slice X.p S.phases.length X.pc, .slice X.e S.eyes.length X.ec, .int .i64 S.watch, .int .i64 S.feed, .int .i64 S.heal, .int .i64 S.low, .int .i64 S.high, .slice X.l S.plans.length X.lc] 29)) = WA := ⟨_, rfl⟩
  rw [hWA] at hkA hsb HS HT
  have HK := Hid.mk' hkA
  have HA := Hid.mk' (hA.kept hkA)
  have hAm := hAc.max
  have hAr := hAc.room
  clear hA hAc
  have HSB := Hid.mk' hsb
  have s0_ : ∀ w', Kept WA w' none → w'.cell? ⟨w.heap.size, 0, none⟩ = some (.int .i64 S.id) := fun w' q => (HSB.out.kept q).c0
  have s1_ : ∀ w', Kept WA w' none → w'.cell? ⟨w.heap.size, 1, none⟩ = some (.slice X.g S.groups.length X.gc) := fun w' q => (HSB.out.kept q).c1
  have s2_ : ∀ w', Kept WA w' none → w'.cell? ⟨w.heap.size, 2, none⟩ = some (.slice X.a S.apart.length X.ac) := fun w' q => (HSB.out.kept q).c2
  have s3_ : ∀ w', Kept WA w' none → w'.cell? ⟨w.heap.size, 3, none⟩ = some (.slice X.b S.between.length X.bc) := fun w' q => (HSB.out.kept q).c3
  have s4_ : ∀ w', Kept WA w' none → w'.cell? ⟨w.heap.size, 4, none⟩ = some (.slice X.p S.phases.length X.pc) := fun w' q => (HSB.out.kept q).c4
  have s5_ : ∀ w', Kept WA w' none → w'.cell? ⟨w.heap.size, 5, none⟩ = some (.slice X.e S.eyes.length X.ec) := fun w' q => (HSB.out.kept q).c5
  have s6_ : ∀ w', Kept WA w' none → w'.cell? ⟨w.heap.size, 6, none⟩ = some (.int .i64 S.watch) := fun w' q => (HSB.out.kept q).c6
  have s7_ : ∀ w', Kept WA w' none → w'.cell? ⟨w.heap.size, 7, none⟩ = some (.int .i64 S.feed) := fun w' q => (HSB.out.kept q).c7
  have s8_ : ∀ w', Kept WA w' none → w'.cell? ⟨w.heap.size, 8, none⟩ = some (.int .i64 S.heal) := fun w' q => (HSB.out.kept q).c8
  have s9_ : ∀ w', Kept WA w' none → w'.cell? ⟨w.heap.size, 9, none⟩ = some (.int .i64 S.low) := fun w' q => (HSB.out.kept q).c9
  have s10_ : ∀ w', Kept WA w' none → w'.cell? ⟨w.heap.size, 10, none⟩ = some (.int .i64 S.high) := fun w' q => (HSB.out.kept q).c10
  have s11_ : ∀ w', Kept WA w' none → w'.cell? ⟨w.heap.size, 11, none⟩ = some (.slice X.l S.plans.length X.lc) := fun w' q => (HSB.out.kept q).c11
  have hK0 := Kept.refl WA none
  clear h hT hkA hsb
  go_enter Tryd.func6, Tryd.ntmps6
  go_wp2_with (first | rw [hWA] | (go_at_call 11; refine (balive_any HT.out).mono ?_; rintro e wa ⟨rfl, hka⟩; have hKa : Kept WA wa none := hka))
  go_at_call 12
  refine (rgreat_any (HS.out.kept hKa)).mono ?_
  rintro e wg ⟨gr, rfl, hgr, hkg⟩
  have hKg : Kept WA wg none := hKa.tr hkg
  clear hgr
  cases gr with
  | true =>
    go_wp2
    go_ret
    exact ⟨rfl, (HK.out.tr hKg).below⟩
  | false =>
    go_wp2_with (first | (go_at_call 16; have hx := check_any (HS.out.kept hKg) (HT.out.kept hKg); rw [hce] at hx; refine hx.mono ?_; rintro e wC ⟨rfl, hkC⟩; have hKC : Kept WA wC none := hKg.tr hkC; clear hx))
    have hc1 : wC.cell? ⟨w.heap.size, 1, none⟩ = some (.slice X.g S.groups.length X.gc) := s1_ wC hKC
    have hlt : w.heap.size < wC.heap.size := block_lt hc1
    have hmk := run_make_row' (P := Tryd.prog) 34 5 (.int .u8 0) 1 Tryd.uB info10 rfl .i64 .i64 S.groups.length (by omega) (by omega)
    refine Code.wp_mono (Q := FdP wC S.groups.length (fun bw bs => { tmps := #[siteV X S, .slice a n c, .pointer (some ⟨w.heap.size, 0, none⟩), undef, .bool false, .bool true, .slice (some ⟨bw, 0, none⟩) S.groups.length S.groups.length, .slice (some ⟨bs, 0, none⟩) S.groups.length S.groups.length, undef, undef, undef, undef, undef, undef, undef, undef, undef, .bool true, .bool true, .bool false, .agg #[.int .i64 S.id, .slice X.g S.groups.length X.gc, .slice X.a S.apart.length X.ac, .slice X.b S.between.length X.bc, .slice X.p S.phases.length X.pc, .slice X.e S.eyes.length X.ec, .int .i64 S.watch, .int .i64 S.feed, .int .i64 S.heal, .int .i64 S.low, .int .i64 S.high, .slice X.l S.plans.length X.lc], .bool false, .bool false, .slice a n c, .int .i64 (n : Int), .bool false, .bool false, .bool false, .agg #[.int .i64 S.id, .slice X.g S.groups.length X.gc, .slice X.a S.apart.length X.ac, .slice X.b S.between.length X.bc, .slice X.p S.phases.length X.pc, .slice X.e S.eyes.length X.ec, .int .i64 S.watch, .int .i64 S.feed, .int .i64 S.heal, .int .i64 S.low, .int .i64 S.high, .slice X.l S.plans.length X.lc], .int .i64 0, .bool false, .bool false, undef, .pointer (some ⟨w.heap.size, 1, none⟩), .slice X.g S.groups.length X.gc, .int .i64 (S.groups.length : Int), .slice (some ⟨bw, 0, none⟩) S.groups.length S.groups.length, .pointer (some ⟨w.heap.size, 1, none⟩), .slice X.g S.groups.length X.gc, .int .i64 (S.groups.length : Int), .slice (some ⟨bs, 0, none⟩) S.groups.length S.groups.length, undef, undef, undef, undef, undef, undef, undef, undef, undef, undef, undef, undef, undef, undef, undef, undef, undef, undef, undef, undef, undef, undef, undef, undef, undef, undef, undef, undef, undef, undef, undef, undef, undef, undef, undef, undef, undef, undef, undef, undef, undef, undef, undef, undef, undef, undef, undef, undef, undef, undef, undef, undef, undef, undef, undef, undef, undef, undef, undef, undef, undef, undef, undef, undef], defers := [] })) ?cont ?reg
    case reg =>
      repeat (rename_i hh; clear hh)
      refine wp_region_held_drew (S := fun w' => w'.cell? ⟨w.heap.size, 1, none⟩ = some (.slice X.g S.groups.length X.gc)) (by kernel_rfl) hc1 (fun hHeld => ?_)
      refine held_take (i := 0) (v := ?v1) rfl rfl (by kernel_rfl) (by kernel_rfl) (by kernel_rfl) (fun _ _ _ h => h) (Or.inl ⟨by rfl, ?hy1⟩) hHeld ?rest1
      case hy1 => first | (intro w hSw; (try dsimp only at hSw); go_simp; done) | (intro w hSw; (try dsimp only at hSw); go_simp; with_reducible rfl)
      try simp only [List.setIfInBounds_toArray, List.set_cons_zero, List.set_cons_succ]
      refine held_take (i := 1) (v := ?v2) rfl rfl (by kernel_rfl) (by kernel_rfl) (by kernel_rfl) (fun _ _ _ h => h) (Or.inl ⟨by rfl, ?hy2⟩) hHeld ?rest2
      case hy2 => first | (intro w hSw; (try dsimp only at hSw); go_simp; done) | (intro w hSw; (try dsimp only at hSw); go_simp; with_reducible rfl)
      try simp only [List.setIfInBounds_toArray, List.set_cons_zero, List.set_cons_succ]
      refine held_take (i := 2) (v := ?v3) rfl rfl (by kernel_rfl) (by kernel_rfl) (by kernel_rfl) (fun _ _ _ h => h) (Or.inl ⟨by rfl, ?hy3⟩) hHeld ?rest3
      case hy3 => first | (intro w hSw; (try dsimp only at hSw); go_simp; done) | (intro w hSw; (try dsimp only at hSw); go_simp; with_reducible rfl)
      try simp only [List.setIfInBounds_toArray, List.set_cons_zero, List.set_cons_succ]
      refine held_take (i := 4) (v := ?v4) rfl rfl (by kernel_rfl) (by kernel_rfl) (by kernel_rfl) (fun _ _ _ h => h) (Or.inl ⟨by rfl, ?hy4⟩) hHeld ?rest4
      case hy4 => first | (intro w hSw; (try dsimp only at hSw); go_simp; done) | (intro w hSw; (try dsimp only at hSw); go_simp; with_reducible rfl)
      try simp only [List.setIfInBounds_toArray, List.set_cons_zero, List.set_cons_succ]
      refine held_take (i := 5) (v := ?v5) rfl rfl (by kernel_rfl) (by kernel_rfl) (by kernel_rfl) (fun _ _ _ h => h) (Or.inl ⟨by rfl, ?hy5⟩) hHeld ?rest5
      case hy5 => first | (intro w hSw; (try dsimp only at hSw); go_simp; done) | (intro w hSw; (try dsimp only at hSw); go_simp; with_reducible rfl)
      try simp only [List.setIfInBounds_toArray, List.set_cons_zero, List.set_cons_succ]
      refine held_take (i := 6) (v := ?v6) rfl rfl (by kernel_rfl) (by kernel_rfl) (by kernel_rfl) (fun _ _ _ h => h) (Or.inl ⟨by rfl, ?hy6⟩) hHeld ?rest6
      case hy6 => first | (intro w hSw; (try dsimp only at hSw); go_simp; done) | (intro w hSw; (try dsimp only at hSw); go_simp; with_reducible rfl)
      try simp only [List.setIfInBounds_toArray, List.set_cons_zero, List.set_cons_succ]
      have hHeld0 : wC.drew.cell? ⟨w.heap.size, 1, none⟩ = some (.slice X.g S.groups.length X.gc) := hHeld
      refine wpAnyH_ready (rs := [3, 7]) (by kernel_rfl) (by simp) ?_
      refine AllReadyH.cons rfl (fun K hK => ?b3) (AllReadyH.cons rfl (fun K hK => ?b7) AllReadyH.nil)
      case b3 =>
        clear hHeld
        go_simp
        refine hK.out _ _ ?_ (fun hHeld => ?_)
        · exact (World.cell?_alloc_lt _ _ ⟨w.heap.size, 1, none⟩ hlt).trans hHeld0
        clear hK K
        refine held_take (i := 8) (v := ?v7) rfl rfl (by kernel_rfl) (by kernel_rfl) (by kernel_rfl) (fun _ _ _ h => h) (Or.inl ⟨by rfl, ?hy7⟩) hHeld ?rest7
        case hy7 => first | (intro w hSw; (try dsimp only at hSw); go_simp; done) | (intro w hSw; (try dsimp only at hSw); go_simp; with_reducible rfl)
        try simp only [List.setIfInBounds_toArray, List.set_cons_zero, List.set_cons_succ]
        refine wpAnyH_ready (rs := [7]) (by kernel_rfl) (by simp) ?_
        refine AllReadyH.cons rfl (fun K hK => ?_) AllReadyH.nil
        go_simp
        refine hK.out _ _ ?_ (fun hHeld2 => ?_)
        · exact (World.cell?_alloc_lt _ _ ⟨w.heap.size, 1, none⟩ (by rw [World.size_alloc]; exact Nat.lt_succ_of_lt hlt)).trans hHeld
        clear hK K hHeld
        have hHeld := hHeld2
        clear hHeld2
        refine held_take (i := 9) (v := ?v8) rfl rfl (by kernel_rfl) (by kernel_rfl) (by kernel_rfl) (fun _ _ _ h => h) (Or.inl ⟨by rfl, ?hy8⟩) hHeld ?rest8
        case hy8 => first | (intro w hSw; (try dsimp only at hSw); go_simp; done) | (intro w hSw; (try dsimp only at hSw); go_simp; with_reducible rfl)
        try simp only [List.setIfInBounds_toArray, List.set_cons_zero, List.set_cons_succ]
        refine wpAnyH_done (by kernel_rfl) ?_ _
        obtain ⟨r1, r2, k12⟩ := made2 wC S.groups.length
        exact ⟨wC.heap.size, wC.heap.size + 1, by omega, by omega, by omega, rfl, r1, r2, k12⟩
      case b7 =>
        clear hHeld
        go_simp
        refine hK.out _ _ ?_ (fun hHeld => ?_)
        · exact (World.cell?_alloc_lt _ _ ⟨w.heap.size, 1, none⟩ hlt).trans hHeld0
        clear hK K
        refine wpAnyH_ready (rs := [3]) (by kernel_rfl) (by simp) ?_
        refine AllReadyH.cons rfl (fun K hK => ?_) AllReadyH.nil
        go_simp
        refine hK.out _ _ ?_ (fun hHeld2 => ?_)
        · exact (World.cell?_alloc_lt _ _ ⟨w.heap.size, 1, none⟩ (by rw [World.size_alloc]; exact Nat.lt_succ_of_lt hlt)).trans hHeld
        clear hK K hHeld
        have hHeld := hHeld2
        clear hHeld2
        refine held_take (i := 8) (v := ?v9) rfl rfl (by kernel_rfl) (by kernel_rfl) (by kernel_rfl) (fun _ _ _ h => h) (Or.inl ⟨by rfl, ?hy9⟩) hHeld ?rest9
        case hy9 => first | (intro w hSw; (try dsimp only at hSw); go_simp; done) | (intro w hSw; (try dsimp only at hSw); go_simp; with_reducible rfl)
        try simp only [List.setIfInBounds_toArray, List.set_cons_zero, List.set_cons_succ]
        refine held_take (i := 9) (v := ?v10) rfl rfl (by kernel_rfl) (by kernel_rfl) (by kernel_rfl) (fun _ _ _ h => h) (Or.inl ⟨by rfl, ?hy10⟩) hHeld ?rest10
        case hy10 => first | (intro w hSw; (try dsimp only at hSw); go_simp; done) | (intro w hSw; (try dsimp only at hSw); go_simp; with_reducible rfl)
        try simp only [List.setIfInBounds_toArray, List.set_cons_zero, List.set_cons_succ]
        refine wpAnyH_done (by kernel_rfl) ?_ _
        obtain ⟨r1, r2, k12⟩ := made2 wC S.groups.length
        exact ⟨wC.heap.size + 1, wC.heap.size, by omega, by omega, by omega, rfl, r2, r1, k12⟩
    case cont =>
    intro e a' w5 hq
    obtain ⟨rfl, bw, bs, hne, hbw, hbs, rfl, hrw, hrs, hk5⟩ := hq.out
    have hK5 : Kept WA w5 none := hKC.tr hk5
    have HRW := Hid.mk' hrw
    have HRS := Hid.mk' hrs
    have HK5 := Hid.mk' hk5
    clear hrw hrs hk5 hmk hq
    go_wp2
    go_loopw [8] (fun i wr => ∃ k : Nat, k ≤ S.groups.length ∧ i = .int .i64 k ∧ Kept wC wr none ∧ wr.rowIs bw 5 S.groups.length (fcell k 1) ∧ wr.rowIs bs 5 S.groups.length (fcell k 1)) (fun i _ => S.groups.length - (intOf i).toNat)
    case atStart => exact ⟨0, by omega, rfl, HK5.out, HRW.out.congr (fun i hi => by unfold fcell; simp), HRS.out.congr (fun i hi => by unfold fcell; simp)⟩
    case round =>
      obtain ⟨k, hk, rfl, hkw, hr1, hr2⟩ := hrel
      have HKW := Hid.mk' hkw
      have H1 := Hid.mk' hr1
      have H2 := Hid.mk' hr2
      clear hkw hr1 hr2
      by_cases hlk : k < S.groups.length
      · have y1 := H1.out.cell hlk
        have z1 := H1.out.frozen k
        have y2 := H2.out.cell hlk
        have z2 := H2.out.frozen k
        have l1 := H1.out.lt
        have l2 := H2.out.lt
        go_wp2
        go_roundw
        case rel =>
          refine ⟨k + 1, by omega, by go_num, (HKW.out.setNew (p := ⟨bw, k, none⟩) hbw _).setNew (p := ⟨bs, k, none⟩) hbs _, ?_, ?_⟩
          · have := row_far10 (H1.out.set k (.int .u8 1)) (b' := bs) (by omega) k (.int .u8 1)
            rw [show (fun j => if j = k then Value.int .u8 1 else fcell k 1 j) = fcell (k + 1) 1 from fcell_set] at this
            exact this
          · have := (row_far10 H2.out (b' := bw) (by omega) k (.int .u8 1)).set k (.int .u8 1)
            rw [show (fun j => if j = k then Value.int .u8 1 else fcell k 1 j) = fcell (k + 1) 1 from fcell_set] at this
            exact this
        case measure => simp [intOf]; omega
      · obtain rfl : k = S.groups.length := by omega
        have y1 := H2.out.cell (i := 0) (by omega)
        have z1 := H2.out.frozen 0
        have l2 := H2.out.lt
        have h1f := row_far10 H1.out (b' := bs) (by omega) 0 (.int .u8 2)
        have h2f := H2.out.set 0 (.int .u8 2)
        have hk6 : Kept wC (wr.setCell ⟨bs, 0, none⟩ (.int .u8 2)) none := HKW.out.setNew (p := ⟨bs, 0, none⟩) hbs _
        obtain ⟨W6, hW6⟩ : ∃ W6, wr.setCell ⟨bs, 0, none⟩ (.int .u8 2) = W6 := ⟨_, rfl⟩
        rw [hW6] at h1f h2f hk6
        have by1 : By W6 (some ⟨bw, 0, none⟩) S.groups.length (allR S.groups.length) := By.row h1f _ _ (Nat.le_refl _) (allR_len _) (by omega) (allR_lt _) (fun i hi => by
          show _ = Value.int .u8 ((at10 (allR S.groups.length) i : Nat) : Int)
          rw [allR_at hi]; unfold fcell; rw [if_pos hi])
        have by2 : By W6 (some ⟨bs, 0, none⟩) S.groups.length (oneG S.groups.length) := By.row h2f _ _ (Nat.le_refl _) (oneG_len _) (by omega) (oneG_lt _) (fun i hi => by
          show _ = Value.int .u8 ((at10 (oneG S.groups.length) i : Nat) : Int)
          rw [oneG_at hi]
          by_cases e : i = 0
          · rw [if_pos e, if_pos e]; rfl
          · rw [if_neg e, if_neg e]; unfold fcell; rw [if_pos hi])
        have BY1 := Hid.mk' by1
        have BY2 := Hid.mk' by2
        have k6 : Kept WA W6 none := hKC.tr hk6
        have K6 := Hid.mk' k6
        have hBsz := HA.out.size
        have HBZ := Hid.mk' hBsz
        clear h1f h2f hk6 by1 by2 hBsz hlk HKW H1 H2 HRW HRS
        go_wp2_with (first | rw [hW6])
        clear hW6 y1 z1
        go_loopw [9, 10, 11, 12, 13, 14, 15, 16] (fun nv rv i _ _ _ _ _ w7 => ∃ k r : Nat, k ≤ n ∧ r ≤ k ∧ i = .int .i64 k ∧ nv = .int .i64 (r : Int) ∧ rv = .int .i64 (r : Int) ∧ Kept W6 w7 none) (fun _ _ i _ _ _ _ _ _ => n - (intOf i).toNat)
        case atStart => exact ⟨0, 0, by omega, by omega, rfl, rfl, rfl, Kept.refl _ _⟩
        case round =>
          obtain ⟨k, r, hk, hr, rfl, rfl, rfl, hp0⟩ := hrel
          have hq0 : Kept WA wr none := k6.tr hp0
          by_cases hkn : k < n
          · obtain ⟨bb, ob, hba, _, hcb⟩ := (HA.out.kept hq0).lie.at_ (by omega)
            subst hba
            have yb := hcb k hkn 0 (by omega)
            rw [Nat.mul_one, Nat.add_zero] at yb
            clear hcb
            cases hb : B.getD k false with
            | true =>
              rw [hb] at yb
              clear hb
              go_wp2_with (first | (have hgo := hp1; clear hgo; go_at_call 10; refine (HL.out _ (HK.out.tr hq1) _ (by omega) (by omega)).mono ?_; rintro e u2 ⟨rfl, hk⟩; have hp2 : Kept W6 u2 none := hp1.tr hk; have hq2 : Kept WA u2 none := K6.out.tr hp2; clear hk hp1) | (have hgo := hp0; clear hgo; go_at_call 9; refine (HN1.out _ (HK.out.tr hq0) _ _ r (by omega) (BY1.out.kept hp0) (BY2.out.kept hp0)).mono ?_; rintro e u1 ⟨rfl, hk⟩; have hp1 : Kept W6 u1 none := hp0.tr hk; have hq1 : Kept WA u1 none := K6.out.tr hp1; clear hk hp0))
              go_roundw
              case rel => exact ⟨k + 1, r + 1, by omega, by omega, by go_num, by first | rfl | go_num, by first | rfl | go_num, hp2⟩
              case measure => simp [intOf]; omega
            | false =>
              rw [hb] at yb
              clear hb
              go_wp2_with (first | (have hgo := hp1; clear hgo; go_at_call 10; refine (HL.out _ (HK.out.tr hq1) _ (by omega) (by omega)).mono ?_; rintro e u2 ⟨rfl, hk⟩; have hp2 : Kept W6 u2 none := hp1.tr hk; have hq2 : Kept WA u2 none := K6.out.tr hp2; clear hk hp1) | (have hgo := hp0; clear hgo; go_at_call 9; refine (HN0.out _ (HK.out.tr hq0) _ r (by omega) (BY1.out.kept hp0)).mono ?_; rintro e u1 ⟨rfl, hk⟩; have hp1 : Kept W6 u1 none := hp0.tr hk; have hq1 : Kept WA u1 none := K6.out.tr hp1; clear hk hp0))
              go_roundw
              case rel => exact ⟨k + 1, 0, by omega, by omega, by go_num, by first | rfl | go_num, by first | rfl | go_num, hp2⟩
              case measure => simp [intOf]; omega
          · obtain rfl : k = n := by omega
            go_wp2
            go_ret
            exact ⟨rfl, (HK.out.tr hq0).below⟩
theorem bfee_any {X : Sa} {S : St} {w : World} (h : Sat w X S) (hT : Tabb w) {a : Option Addr} {n c : Nat} {B : List Bool} (hA : Bls w a n B) (hAc : Cap a n c) : Calls Tryd.prog 6 #[siteV X S, .slice a n c] w fun e w' => e = .returned (.bool true) ∧ Below w.heap.size w w' := by
  by_cases hl : n ≤ 200
  · cases hs : siteB S with
    | false => exact bfee_site h hT hA hAc hl hs
    | true => exact bfee_go h hT hA hAc hl hs
  · exact bfee_long h hT hA hAc (by omega)

end Go.Proofs.YtlpphapbehajnaaDoor
