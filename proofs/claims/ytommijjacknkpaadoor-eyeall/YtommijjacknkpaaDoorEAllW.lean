/-
  THE WALK of EyeAll (made by a program).
-/
import Derived.Test.YtommijjacknkpaaDoorEyeT
import Derived.Test.YtommijjacknkpaaDoorEyeA
import Derived.Test.YtommijjacknkpaaDoorEyeW
import Derived.Test.YtommijjacknkpaaDoorRefG
import Derived.Laws.StructEq
import Derived.DeepKeys
import Derived.Deep.QuietTactic
import Derived.BigQuiet
namespace Go.Proofs.YtommijjacknkpaaDoor
open Go.RowKit Go.Lib Go.Deep
set_option linter.unusedVariables false
set_option linter.unusedSimpArgs false

/-- Has one of the first j, of i's phase, what B tells of? -/
def oneN (P : Nat → Int) (B : Nat → Bool) (i : Nat) : Nat → Bool
  | 0 => false
  | j + 1 => oneN P B i j || (decide (P j = P i) && B j)
theorem oneN_succ (P : Nat → Int) (B : Nat → Bool) (i j : Nat) : oneN P B i (j + 1) = (oneN P B i j || (decide (P j = P i) && B j)) := rfl
def wantN (P : Nat → Int) (B : Nat → Bool) (n : Nat) : Nat → Bool
  | 0 => true
  | i + 1 => wantN P B n i && oneN P B i n
theorem wantN_succ (P : Nat → Int) (B : Nat → Bool) (n i : Nat) : wantN P B n (i + 1) = (wantN P B n i && oneN P B i n) := rfl
theorem oneN_iff {P : Nat → Int} {B : Nat → Bool} {i : Nat} : ∀ j, oneN P B i j = true ↔ ∃ k, k < j ∧ P k = P i ∧ B k = true
  | 0 => ⟨fun h => (nomatch h), fun ⟨k, hk, _⟩ => absurd hk (by omega)⟩
  | j + 1 => by
    rw [oneN_succ, Bool.or_eq_true, oneN_iff j, Bool.and_eq_true, decide_eq_true_eq]
    constructor
    · rintro (⟨k, a, b⟩ | ⟨a, b⟩)
      · exact ⟨k, by omega, b⟩
      · exact ⟨j, by omega, a, b⟩
    · rintro ⟨k, a, b, c⟩
      by_cases e : k = j
      · subst e; exact .inr ⟨b, c⟩
      · exact .inl ⟨k, by omega, b, c⟩
theorem wantN_iff {P : Nat → Int} {B : Nat → Bool} {n : Nat} : ∀ i, wantN P B n i = true ↔ ∀ m, m < i → oneN P B m n = true
  | 0 => ⟨fun _ m hm => absurd hm (by omega), fun _ => rfl⟩
  | i + 1 => by
    rw [wantN_succ, Bool.and_eq_true, wantN_iff i]
    constructor
    · rintro ⟨a, b⟩ m hm
      by_cases e : m = i
      · subst e; exact b
      · exact a m (by omega)
    · intro h; exact ⟨fun m hm => h m (by omega), h i (by omega)⟩
theorem wantN_wel (P : Nat → Int) (B : Nat → Bool) (n : Nat) : wantN P B n n = welB P B n := by
  have : wantN P B n n = true ↔ welB P B n = true := by
    rw [wantN_iff, welB_iff]
    constructor
    · intro h i hi; exact (oneN_iff n).1 (h i hi)
    · intro h i hi; exact (oneN_iff n).2 (h i hi)
  cases h1 : wantN P B n n <;> cases h2 : welB P B n
  · rfl
  · rw [h1, h2] at this; simp at this
  · rw [h1, h2] at this; simp at this
  · rfl
theorem allL_len (S : St) (L : List Lk) (U : Nat) : (allL S L U).length = L.length := by simp [allL]
theorem allL_at {S : St} {L : List Lk} {U i : Nat} (h : i < L.length) : lk (allL S L U) i = stepK (S.ey i) S.heal (lk L i) (hasB U (i : Int)) := by
  unfold lk allL
  rw [List.getD_eq_getElem?_getD, List.getElem?_map, List.getElem?_range h]
  rfl
theorem allL_may {S : St} {L : List Lk} {U : Nat} (h : allE S L = 0) : allE S (allL S L U) = 0 ∧ ∀ i, i < (allL S L U).length → Typ (lk (allL S L U) i) := by
  obtain ⟨h1, h2, h3⟩ := allE_zero h
  have hf := eye_facts h1
  have hm : ∀ i, i < L.length → mayK (lk L i) = true := fun i hi => allB_iff.1 h3 i hi
  refine ⟨allE_ok h1 (by rw [allL_len]; exact h2) (allB_iff.2 fun i hi => ?_), fun i hi => ?_⟩
  · rw [allL_len] at hi; rw [allL_at hi]; exact mayK_step _ hf.h1 _ (hm i hi)
  · rw [allL_len] at hi; rw [allL_at hi]; exact typ_step _ hf.h1 _ (hm i hi)
set_option maxRecDepth 100000 in
set_option maxHeartbeats 2000000 in
theorem eal_long {X : Sa} {S : St} {w : World} (h : Sat w X S) (hT : Tabb w) {a : Option Addr} {n c : Nat} {L : List Lk} (hA : Lks w a n L) (hc : Cap a n c) (U : Nat) (hU : U < 4294967296) (hl : 60 < n) : Calls Tryd.prog 6 #[siteV X S, .slice a n c, .int .u32 (U : Int)] w fun e w' => e = .returned (.bool true) ∧ Below w.heap.size w w' := by
  have hlb : decide ((60 : Int) < (n : Int)) = true := by simp; omega
  have hkA : Kept w (w.alloc (.cells #[.int .i64 S.id, .slice X.g S.groups.length X.gc, .slice X.a S.apart.length X.ac, .slice X.b S.between.length X.bc, .slice X.p S.phases.length X.pc, .slice X.e S.eyes.length X.ec, .int .i64 S.watch, .int .i64 S.feed, .int .i64 S.heal, .int .i64 S.low, .int .i64 S.high, .slice X.l S.plans.length X.lc] 29)) none := Kept.alloc _ _ _ _ _
  have hsb := sbox_alloc h 29
  have HS := Hid.mk' (h.kept hkA)
  have HT := Hid.mk' (hT.kept hkA)
  have HSw := Hid.mk' h
  have HTw := Hid.mk' hT
  have HAw := Hid.mk' hA
  have hE9 : S.eyes.length ≤ 9223372036854775807 := by have := h.ek.room; have := h.ek.max; omega
  have hn9 : n ≤ 9223372036854775807 := by have := hc.room; have := hc.max; omega
  obtain ⟨WA, hWA⟩ : ∃ WA, (w.alloc (.cells #[.int .i64 S.id, .slice X.g S.groups.length X.gc, .slice X.a S.apart.length X.ac, .slice X.b S.between.length X.bc, .slice X.p S.phases.length X.pc, .slice X.e S.eyes.length X.ec, .int .i64 S.watch, .int .i64 S.feed, .int .i64 S.heal, .int .i64 S.low, .int .i64 S.high, .slice X.l S.plans.length X.lc] 29)) = WA := ⟨_, rfl⟩
  rw [hWA] at hkA hsb HS HT
  have hlA0 : w.heap.size < WA.heap.size := hsb.lt
  have HK := Hid.mk' hkA
  have HSB := Hid.mk' hsb
  have hK0 := Kept.refl WA none
  clear h hT hkA hsb hA
  have s0_ : ∀ w', Kept WA w' none → w'.cell? ⟨w.heap.size, 0, none⟩ = some (.int .i64 S.id) := fun w' q => (HSB.out.kept q).c0
  have s1_ : ∀ w', Kept WA w' none → w'.cell? ⟨w.heap.size, 1, none⟩ = some (.slice X.g S.groups.length X.gc) := fun w' q => (HSB.out.kept q).c1
  have s2_ : ∀ w', Kept WA w' none → w'.cell? ⟨w.heap.size, 2, none⟩ = some (.slice X.a S.apart.length X.ac) := fun w' q => (HSB.out.kept q).c2
  have s3_ : ∀ w', Kept WA w' none → w'.cell? ⟨w.heap.size, 3, none⟩ = some (.slice X.b S.between.length X.bc) := fun w' q => (HSB.out.kept q).c3
  have s4_ : ∀ w', Kept WA w' none → w'.cell? ⟨w.heap.size, 4, none⟩ = some (.slice X.p S.phases.length X.pc) := fun w' q => (HSB.out.kept q).c4
  have s5_ : ∀ w', Kept WA w' none → w'.cell? ⟨w.heap.size, 5, none⟩ = some (.slice X.e S.eyes.length X.ec) := fun w' q => (HSB.out.kept q).c5
  have s6_ : ∀ w', Kept WA w' none → w'.cell? ⟨w.heap.size, 6, none⟩ = some (.int .i64 S.watch) := fun w' q => (HSB.out.kept q).c6
  have s7_ : ∀ w', Kept WA w' none → w'.cell? ⟨w.heap.size, 7, none⟩ = some (.int .i64 S.feed) := fun w' q => (HSB.out.kept q).c7
  have s8_ : ∀ w', Kept WA w' none → w'.cell? ⟨w.heap.size, 8, none⟩ = some (.int .i64 S.heal) := fun w' q => (HSB.out.kept q).c8
  have s9_ : ∀ w', Kept WA w' none → w'.cell? ⟨w.heap.size, 9, none⟩ = some (.int .i64 S.low) := fun w' q => (HSB.out.kept q).c9
  have s10_ : ∀ w', Kept WA w' none → w'.cell? ⟨w.heap.size, 10, none⟩ = some (.int .i64 S.high) := fun w' q => (HSB.out.kept q).c10
  have s11_ : ∀ w', Kept WA w' none → w'.cell? ⟨w.heap.size, 11, none⟩ = some (.slice X.l S.plans.length X.lc) := fun w' q => (HSB.out.kept q).c11
  go_enter Tryd.func6, Tryd.ntmps6
  go_wp2_with (first | rw [hWA] | (go_at_call 13; refine (alive_any HT.out).mono ?_; rintro e wa ⟨rfl, hka⟩; have hKa : Kept WA wa none := hka))
  go_at_call 16
  refine (rgreat_any (HS.out.kept hKa)).mono ?_
  rintro e wg ⟨gr, rfl, hgr, hkg⟩
  have hKg : Kept WA wg none := hKa.tr hkg
  clear hgr
  cases gr with
  | true =>
    go_wp2
    go_ret
    exact ⟨rfl, (HK.out.tr hKg).below⟩
  | false =>
    go_wp2
    go_ret
    exact ⟨by simp, (HK.out.tr hKg).below⟩
set_option maxRecDepth 100000 in
set_option maxHeartbeats 2000000 in
theorem eal_site {X : Sa} {S : St} {w : World} (h : Sat w X S) (hT : Tabb w) {a : Option Addr} {n c : Nat} {L : List Lk} (hA : Lks w a n L) (hc : Cap a n c) (U : Nat) (hU : U < 4294967296) (hl : n ≤ 60) (hs : siteB S = false) : Calls Tryd.prog 6 #[siteV X S, .slice a n c, .int .u32 (U : Int)] w fun e w' => e = .returned (.bool true) ∧ Below w.heap.size w w' := by
  have hlb : decide ((60 : Int) < (n : Int)) = false := by simp; omega
  have hce : checkE S = 50 := by unfold checkE; rw [hs]; rfl
  have hkA : Kept w (w.alloc (.cells #[.int .i64 S.id, .slice X.g S.groups.length X.gc, .slice X.a S.apart.length X.ac, .slice X.b S.between.length X.bc, .slice X.p S.phases.length X.pc, .slice X.e S.eyes.length X.ec, .int .i64 S.watch, .int .i64 S.feed, .int .i64 S.heal, .int .i64 S.low, .int .i64 S.high, .slice X.l S.plans.length X.lc] 29)) none := Kept.alloc _ _ _ _ _
  have hsb := sbox_alloc h 29
  have HS := Hid.mk' (h.kept hkA)
  have HT := Hid.mk' (hT.kept hkA)
  have HSw := Hid.mk' h
  have HTw := Hid.mk' hT
  have HAw := Hid.mk' hA
  have hE9 : S.eyes.length ≤ 9223372036854775807 := by have := h.ek.room; have := h.ek.max; omega
  have hn9 : n ≤ 9223372036854775807 := by have := hc.room; have := hc.max; omega
  obtain ⟨WA, hWA⟩ : ∃ WA, (w.alloc (.cells #[.int .i64 S.id, .slice X.g S.groups.length X.gc, .slice X.a S.apart.length X.ac, .slice X.b S.between.length X.bc, .slice X.p S.phases.length X.pc, .slice X.e S.eyes.length X.ec, .int .i64 S.watch, .int .i64 S.feed, .int .i64 S.heal, .int .i64 S.low, .int .i64 S.high, .slice X.l S.plans.length X.lc] 29)) = WA := ⟨_, rfl⟩
  rw [hWA] at hkA hsb HS HT
  have hlA0 : w.heap.size < WA.heap.size := hsb.lt
  have HK := Hid.mk' hkA
  have HSB := Hid.mk' hsb
  have hK0 := Kept.refl WA none
  clear h hT hkA hsb hA
  have s0_ : ∀ w', Kept WA w' none → w'.cell? ⟨w.heap.size, 0, none⟩ = some (.int .i64 S.id) := fun w' q => (HSB.out.kept q).c0
  have s1_ : ∀ w', Kept WA w' none → w'.cell? ⟨w.heap.size, 1, none⟩ = some (.slice X.g S.groups.length X.gc) := fun w' q => (HSB.out.kept q).c1
  have s2_ : ∀ w', Kept WA w' none → w'.cell? ⟨w.heap.size, 2, none⟩ = some (.slice X.a S.apart.length X.ac) := fun w' q => (HSB.out.kept q).c2
  have s3_ : ∀ w', Kept WA w' none → w'.cell? ⟨w.heap.size, 3, none⟩ = some (.slice X.b S.between.length X.bc) := fun w' q => (HSB.out.kept q).c3
  have s4_ : ∀ w', Kept WA w' none → w'.cell? ⟨w.heap.size, 4, none⟩ = some (.slice X.p S.phases.length X.pc) := fun w' q => (HSB.out.kept q).c4
  have s5_ : ∀ w', Kept WA w' none → w'.cell? ⟨w.heap.size, 5, none⟩ = some (.slice X.e S.eyes.length X.ec) := fun w' q => (HSB.out.kept q).c5
  have s6_ : ∀ w', Kept WA w' none → w'.cell? ⟨w.heap.size, 6, none⟩ = some (.int .i64 S.watch) := fun w' q => (HSB.out.kept q).c6
  have s7_ : ∀ w', Kept WA w' none → w'.cell? ⟨w.heap.size, 7, none⟩ = some (.int .i64 S.feed) := fun w' q => (HSB.out.kept q).c7
  have s8_ : ∀ w', Kept WA w' none → w'.cell? ⟨w.heap.size, 8, none⟩ = some (.int .i64 S.heal) := fun w' q => (HSB.out.kept q).c8
  have s9_ : ∀ w', Kept WA w' none → w'.cell? ⟨w.heap.size, 9, none⟩ = some (.int .i64 S.low) := fun w' q => (HSB.out.kept q).c9
  have s10_ : ∀ w', Kept WA w' none → w'.cell? ⟨w.heap.size, 10, none⟩ = some (.int .i64 S.high) := fun w' q => (HSB.out.kept q).c10
  have s11_ : ∀ w', Kept WA w' none → w'.cell? ⟨w.heap.size, 11, none⟩ = some (.slice X.l S.plans.length X.lc) := fun w' q => (HSB.out.kept q).c11
  go_enter Tryd.func6, Tryd.ntmps6
  go_wp2_with (first | rw [hWA] | (go_at_call 13; refine (alive_any HT.out).mono ?_; rintro e wa ⟨rfl, hka⟩; have hKa : Kept WA wa none := hka))
  go_at_call 16
  refine (rgreat_any (HS.out.kept hKa)).mono ?_
  rintro e wg ⟨gr, rfl, hgr, hkg⟩
  have hKg : Kept WA wg none := hKa.tr hkg
  clear hgr
  cases gr with
  | true =>
    go_wp2
    go_ret
    exact ⟨rfl, (HK.out.tr hKg).below⟩
  | false =>
    go_wp2_with (first | (go_at_call 22; have hx := check_any (HS.out.kept hKg) (HT.out.kept hKg); rw [hce] at hx; refine hx.mono ?_; rintro e wC ⟨rfl, hkC⟩; have hKC : Kept WA wC none := hKg.tr hkC; clear hx))
    go_ret
    exact ⟨by simp, (HK.out.tr hKC).below⟩
set_option maxRecDepth 100000 in
set_option maxHeartbeats 2000000 in
theorem eal_no {X : Sa} {S : St} {w : World} (h : Sat w X S) (hT : Tabb w) {a : Option Addr} {n c : Nat} {L : List Lk} (hA : Lks w a n L) (hc : Cap a n c) (U : Nat) (hU : U < 4294967296) (hl : n ≤ 60) (hs : siteB S = true) (E : Int) (he : allE S L = E) (hE0 : E ≠ 0) : Calls Tryd.prog 6 #[siteV X S, .slice a n c, .int .u32 (U : Int)] w fun e w' => e = .returned (.bool true) ∧ Below w.heap.size w w' := by
  have hlb : decide ((60 : Int) < (n : Int)) = false := by simp; omega
  have hce : checkE S = 0 := by unfold checkE; rw [hs]; rfl
  have HE := Hid.mk' he
  have hEb : (E != 0) = true := by simpa using hE0
  clear he
  have hkA : Kept w (w.alloc (.cells #[.int .i64 S.id, .slice X.g S.groups.length X.gc, .slice X.a S.apart.length X.ac, .slice X.b S.between.length X.bc, .slice X.p S.phases.length X.pc, .slice X.e S.eyes.length X.ec, .int .i64 S.watch, .int .i64 S.feed, .int .i64 S.heal, .int .i64 S.low, .int .i64 S.high, .slice X.l S.plans.length X.lc] 29)) none := Kept.alloc _ _ _ _ _
  have hsb := sbox_alloc h 29
  have HS := Hid.mk' (h.kept hkA)
  have HT := Hid.mk' (hT.kept hkA)
  have HSw := Hid.mk' h
  have HTw := Hid.mk' hT
  have HAw := Hid.mk' hA
  have hE9 : S.eyes.length ≤ 9223372036854775807 := by have := h.ek.room; have := h.ek.max; omega
  have hn9 : n ≤ 9223372036854775807 := by have := hc.room; have := hc.max; omega
  obtain ⟨WA, hWA⟩ : ∃ WA, (w.alloc (.cells #[.int .i64 S.id, .slice X.g S.groups.length X.gc, .slice X.a S.apart.length X.ac, .slice X.b S.between.length X.bc, .slice X.p S.phases.length X.pc, .slice X.e S.eyes.length X.ec, .int .i64 S.watch, .int .i64 S.feed, .int .i64 S.heal, .int .i64 S.low, .int .i64 S.high, .slice X.l S.plans.length X.lc] 29)) = WA := ⟨_, rfl⟩
  rw [hWA] at hkA hsb HS HT
  have hlA0 : w.heap.size < WA.heap.size := hsb.lt
  have HK := Hid.mk' hkA
  have HSB := Hid.mk' hsb
  have hK0 := Kept.refl WA none
  clear h hT hkA hsb hA
  have s0_ : ∀ w', Kept WA w' none → w'.cell? ⟨w.heap.size, 0, none⟩ = some (.int .i64 S.id) := fun w' q => (HSB.out.kept q).c0
  have s1_ : ∀ w', Kept WA w' none → w'.cell? ⟨w.heap.size, 1, none⟩ = some (.slice X.g S.groups.length X.gc) := fun w' q => (HSB.out.kept q).c1
  have s2_ : ∀ w', Kept WA w' none → w'.cell? ⟨w.heap.size, 2, none⟩ = some (.slice X.a S.apart.length X.ac) := fun w' q => (HSB.out.kept q).c2
  have s3_ : ∀ w', Kept WA w' none → w'.cell? ⟨w.heap.size, 3, none⟩ = some (.slice X.b S.between.length X.bc) := fun w' q => (HSB.out.kept q).c3
  have s4_ : ∀ w', Kept WA w' none → w'.cell? ⟨w.heap.size, 4, none⟩ = some (.slice X.p S.phases.length X.pc) := fun w' q => (HSB.out.kept q).c4
  have s5_ : ∀ w', Kept WA w' none → w'.cell? ⟨w.heap.size, 5, none⟩ = some (.slice X.e S.eyes.length X.ec) := fun w' q => (HSB.out.kept q).c5
  have s6_ : ∀ w', Kept WA w' none → w'.cell? ⟨w.heap.size, 6, none⟩ = some (.int .i64 S.watch) := fun w' q => (HSB.out.kept q).c6
  have s7_ : ∀ w', Kept WA w' none → w'.cell? ⟨w.heap.size, 7, none⟩ = some (.int .i64 S.feed) := fun w' q => (HSB.out.kept q).c7
  have s8_ : ∀ w', Kept WA w' none → w'.cell? ⟨w.heap.size, 8, none⟩ = some (.int .i64 S.heal) := fun w' q => (HSB.out.kept q).c8
  have s9_ : ∀ w', Kept WA w' none → w'.cell? ⟨w.heap.size, 9, none⟩ = some (.int .i64 S.low) := fun w' q => (HSB.out.kept q).c9
  have s10_ : ∀ w', Kept WA w' none → w'.cell? ⟨w.heap.size, 10, none⟩ = some (.int .i64 S.high) := fun w' q => (HSB.out.kept q).c10
  have s11_ : ∀ w', Kept WA w' none → w'.cell? ⟨w.heap.size, 11, none⟩ = some (.slice X.l S.plans.length X.lc) := fun w' q => (HSB.out.kept q).c11
  go_enter Tryd.func6, Tryd.ntmps6
  go_wp2_with (first | rw [hWA] | (go_at_call 13; refine (alive_any HT.out).mono ?_; rintro e wa ⟨rfl, hka⟩; have hKa : Kept WA wa none := hka))
  go_at_call 16
  refine (rgreat_any (HS.out.kept hKa)).mono ?_
  rintro e wg ⟨gr, rfl, hgr, hkg⟩
  have hKg : Kept WA wg none := hKa.tr hkg
  clear hgr
  cases gr with
  | true =>
    go_wp2
    go_ret
    exact ⟨rfl, (HK.out.tr hKg).below⟩
  | false =>
    go_wp2_with (first | (go_at_call 11; refine (eall_no (HS.out.kept hKC) (HT.out.kept hKC) (HAw.out.kept (HK.out.tr hKC)) hc U hU E HE.out hE0).mono ?_; rintro e wD ⟨rfl, hkD⟩; have hKD : Kept WA wD none := hKC.tr hkD) | (go_at_call 22; have hx := check_any (HS.out.kept hKg) (HT.out.kept hKg); rw [hce] at hx; refine hx.mono ?_; rintro e wC ⟨rfl, hkC⟩; have hKC : Kept WA wC none := hKg.tr hkC; clear hx))
    go_ret
    exact ⟨by simp, (HK.out.tr hKD).below⟩
set_option maxRecDepth 100000 in
set_option maxHeartbeats 2000000 in
theorem eal_go {X : Sa} {S : St} {w : World} (h : Sat w X S) (hT : Tabb w) {a : Option Addr} {n c : Nat} {L : List Lk} (hA : Lks w a n L) (hc : Cap a n c) (U : Nat) (hU : U < 4294967296) (hl : n ≤ 60) (he : allE S L = 0) : Calls Tryd.prog 6 #[siteV X S, .slice a n c, .int .u32 (U : Int)] w fun e w' => e = .returned (.bool true) ∧ Below w.heap.size w w' := by
  obtain ⟨hs, hlen, hmay⟩ := allE_zero he
  have hlb : decide ((60 : Int) < (n : Int)) = false := by simp; omega
  have hce : checkE S = 0 := by unfold checkE; rw [hs]; rfl
  have HE := Hid.mk' he
  have HL := Hid.mk' hA.size
  have hnb : ((n : Int) != (S.eyes.length : Int)) = false := by have := hA.size; simp; omega
  have hne1 : n ≤ S.eyes.length := by have := hA.size; omega
  have HNE : Hid (n = S.eyes.length) := by show n = _; have := hA.size; omega
  obtain ⟨M, hM⟩ : ∃ M, M = allL S L U := ⟨_, rfl⟩
  have HML0 : M.length = n := by rw [hM, allL_len]; exact hA.size
  have HML : Hid ((allL S L U).length = n) := by show _ = n; rw [← hM]; exact HML0
  have HMLM := Hid.mk' HML0
  have HTM := Hid.mk' (allL_may (U := U) he).2
  have HEM : Hid (allE S M = 0) := by show _ = _; rw [hM]; exact (allL_may he).1
  have HAT : Hid (∀ i, i < n → lk M i = stepK (S.ey i) S.heal (lk L i) (hasB U (i : Int))) := fun i hi => by rw [hM]; exact allL_at (by rw [hA.size]; exact hi)
  have HMY : Hid (∀ k, k < n → mayK (lk L k) = true) := fun k hk => allB_iff.1 hmay k (by rw [hA.size]; exact hk)
  have HTY := Hid.mk' hA.typ
  have HSS := Hid.mk' hs
  have HM0 := Hid.mk' hM
  clear he hlen hmay HML0 hs hM
  have hkA : Kept w (w.alloc (.cells #[.int .i64 S.id, .slice X.g S.groups.length X.gc, .slice X.a S.apart.length X.ac, .slice X.b S.between.length X.bc, .slice X.p S.phases.length X.pc, .slice X.e S.eyes.length X.ec, .int .i64 S.watch, .int .i64 S.feed, .int .i64 S.heal, .int .i64 S.low, .int .i64 S.high, .slice X.l S.plans.length X.lc] 29)) none := Kept.alloc _ _ _ _ _
  have hsb := sbox_alloc h 29
  have HS := Hid.mk' (h.kept hkA)
  have HT := Hid.mk' (hT.kept hkA)
  have HSw := Hid.mk' h
  have HTw := Hid.mk' hT
  have HAw := Hid.mk' hA
  have hE9 : S.eyes.length ≤ 9223372036854775807 := by have := h.ek.room; have := h.ek.max; omega
  have hn9 : n ≤ 9223372036854775807 := by have := hc.room; have := hc.max; omega
  obtain ⟨WA, hWA⟩ : ∃ WA, (w.alloc (.cells #[.int .i64 S.id, .slice X.g S.groups.length X.gc, .slice X.a S.apart.length X.ac, .slice X.b S.between.length X.bc, .slice X.p S.phases.length X.pc, .slice X.e S.eyes.length X.ec, .int .i64 S.watch, .int .i64 S.feed, .int .i64 S.heal, .int .i64 S.low, .int .i64 S.high, .slice X.l S.plans.length X.lc] 29)) = WA := ⟨_, rfl⟩
  rw [hWA] at hkA hsb HS HT
  have hlA0 : w.heap.size < WA.heap.size := hsb.lt
  have HK := Hid.mk' hkA
  have HSB := Hid.mk' hsb
  have hK0 := Kept.refl WA none
  clear h hT hkA hsb hA
  have s0_ : ∀ w', Kept WA w' none → w'.cell? ⟨w.heap.size, 0, none⟩ = some (.int .i64 S.id) := fun w' q => (HSB.out.kept q).c0
  have s1_ : ∀ w', Kept WA w' none → w'.cell? ⟨w.heap.size, 1, none⟩ = some (.slice X.g S.groups.length X.gc) := fun w' q => (HSB.out.kept q).c1
  have s2_ : ∀ w', Kept WA w' none → w'.cell? ⟨w.heap.size, 2, none⟩ = some (.slice X.a S.apart.length X.ac) := fun w' q => (HSB.out.kept q).c2
  have s3_ : ∀ w', Kept WA w' none → w'.cell? ⟨w.heap.size, 3, none⟩ = some (.slice X.b S.between.length X.bc) := fun w' q => (HSB.out.kept q).c3
  have s4_ : ∀ w', Kept WA w' none → w'.cell? ⟨w.heap.size, 4, none⟩ = some (.slice X.p S.phases.length X.pc) := fun w' q => (HSB.out.kept q).c4
  have s5_ : ∀ w', Kept WA w' none → w'.cell? ⟨w.heap.size, 5, none⟩ = some (.slice X.e S.eyes.length X.ec) := fun w' q => (HSB.out.kept q).c5
  have s6_ : ∀ w', Kept WA w' none → w'.cell? ⟨w.heap.size, 6, none⟩ = some (.int .i64 S.watch) := fun w' q => (HSB.out.kept q).c6
  have s7_ : ∀ w', Kept WA w' none → w'.cell? ⟨w.heap.size, 7, none⟩ = some (.int .i64 S.feed) := fun w' q => (HSB.out.kept q).c7
  have s8_ : ∀ w', Kept WA w' none → w'.cell? ⟨w.heap.size, 8, none⟩ = some (.int .i64 S.heal) := fun w' q => (HSB.out.kept q).c8
  have s9_ : ∀ w', Kept WA w' none → w'.cell? ⟨w.heap.size, 9, none⟩ = some (.int .i64 S.low) := fun w' q => (HSB.out.kept q).c9
  have s10_ : ∀ w', Kept WA w' none → w'.cell? ⟨w.heap.size, 10, none⟩ = some (.int .i64 S.high) := fun w' q => (HSB.out.kept q).c10
  have s11_ : ∀ w', Kept WA w' none → w'.cell? ⟨w.heap.size, 11, none⟩ = some (.slice X.l S.plans.length X.lc) := fun w' q => (HSB.out.kept q).c11
  go_enter Tryd.func6, Tryd.ntmps6
  go_wp2_with (first | rw [hWA] | (go_at_call 13; refine (alive_any HT.out).mono ?_; rintro e wa ⟨rfl, hka⟩; have hKa : Kept WA wa none := hka))
  go_at_call 16
  refine (rgreat_any (HS.out.kept hKa)).mono ?_
  rintro e wg ⟨gr, rfl, hgr, hkg⟩
  have hKg : Kept WA wg none := hKa.tr hkg
  clear hgr
  cases gr with
  | true =>
    go_wp2
    go_ret
    exact ⟨rfl, (HK.out.tr hKg).below⟩
  | false =>
  go_wp2_with (first | (go_at_call 11; refine (eall_go (HS.out.kept hKC) (HT.out.kept hKC) (HAw.out.kept (HK.out.tr hKC)) hc U hU HE.out).mono ?_; rintro e wD ⟨vv, rfl, hown, hkD⟩; have hKD : Kept WA wD none := hKC.tr hkD; obtain ⟨a2, c2, hvv, hM, hcap2, hnew⟩ := lks_own hown HTM.out; rw [HML.out] at hvv hM hcap2; subst hvv; have HMM := Hid.mk' hM; have hc2m := hcap2.max; have hc2r := hcap2.room; have HC2 := Hid.mk' hcap2; clear hown hM hcap2 hnew) | (go_at_call 22; have hx := check_any (HS.out.kept hKg) (HT.out.kept hKg); rw [hce] at hx; refine hx.mono ?_; rintro e wC ⟨rfl, hkC⟩; have hKC : Kept WA wC none := hKg.tr hkC; clear hx))
  rw [← HM0.out] at HMM
  have HSD := Hid.mk' (HSB.out.kept hKD)
  have HKD := Hid.mk' hKD
  have hKD0 := Kept.refl wD none
  have HKwD := Hid.mk' (HK.out.tr hKD)
  clear s0_ s1_ s2_ s3_ s4_ s5_ s6_ s7_ s8_ s9_ s10_ s11_
  have s0_ : ∀ w', Kept wD w' none → w'.cell? ⟨w.heap.size, 0, none⟩ = some (.int .i64 S.id) := fun w' q => (HSD.out.kept q).c0
  have s1_ : ∀ w', Kept wD w' none → w'.cell? ⟨w.heap.size, 1, none⟩ = some (.slice X.g S.groups.length X.gc) := fun w' q => (HSD.out.kept q).c1
  have s2_ : ∀ w', Kept wD w' none → w'.cell? ⟨w.heap.size, 2, none⟩ = some (.slice X.a S.apart.length X.ac) := fun w' q => (HSD.out.kept q).c2
  have s3_ : ∀ w', Kept wD w' none → w'.cell? ⟨w.heap.size, 3, none⟩ = some (.slice X.b S.between.length X.bc) := fun w' q => (HSD.out.kept q).c3
  have s4_ : ∀ w', Kept wD w' none → w'.cell? ⟨w.heap.size, 4, none⟩ = some (.slice X.p S.phases.length X.pc) := fun w' q => (HSD.out.kept q).c4
  have s5_ : ∀ w', Kept wD w' none → w'.cell? ⟨w.heap.size, 5, none⟩ = some (.slice X.e S.eyes.length X.ec) := fun w' q => (HSD.out.kept q).c5
  have s6_ : ∀ w', Kept wD w' none → w'.cell? ⟨w.heap.size, 6, none⟩ = some (.int .i64 S.watch) := fun w' q => (HSD.out.kept q).c6
  have s7_ : ∀ w', Kept wD w' none → w'.cell? ⟨w.heap.size, 7, none⟩ = some (.int .i64 S.feed) := fun w' q => (HSD.out.kept q).c7
  have s8_ : ∀ w', Kept wD w' none → w'.cell? ⟨w.heap.size, 8, none⟩ = some (.int .i64 S.heal) := fun w' q => (HSD.out.kept q).c8
  have s9_ : ∀ w', Kept wD w' none → w'.cell? ⟨w.heap.size, 9, none⟩ = some (.int .i64 S.low) := fun w' q => (HSD.out.kept q).c9
  have s10_ : ∀ w', Kept wD w' none → w'.cell? ⟨w.heap.size, 10, none⟩ = some (.int .i64 S.high) := fun w' q => (HSD.out.kept q).c10
  have s11_ : ∀ w', Kept wD w' none → w'.cell? ⟨w.heap.size, 11, none⟩ = some (.slice X.l S.plans.length X.lc) := fun w' q => (HSD.out.kept q).c11
  go_loopw [10, 11, 12] (fun iv _ _ wr => ∃ i : Nat, iv = .int .i64 i ∧ i ≤ n ∧ Kept wD wr none) (fun iv _ _ _ => n - (intOf iv).toNat)
  case atStart => exact ⟨0, rfl, by omega, hKD0⟩
  case round =>
    obtain ⟨i, rfl, hin, hkr⟩ := hrel
    have HKR := Hid.mk' hkr
    have HKW := Hid.mk' (HKwD.out.tr hkr)
    by_cases hlt : i < n
    · obtain ⟨b3, o3, e3, hb3, c0, c1, c2', c3, c4⟩ := (HAw.out.kept HKW.out).at_ hlt
      obtain ⟨b4, o4, e4, hb4, d0, d1, d2, d3, d4⟩ := (HMM.out.kept HKR.out).at_ hlt
      have hY : lk M i = stepK (S.ey i) S.heal (lk L i) (hasB U (i : Int)) := HAT.out i hlt
      have hxm := HMY.out i hlt
      have hxt := HTY.out i hlt
      have HNX : Hid (∀ w', Kept w w' none → Calls Tryd.prog 10 #[siteV X S, .int .i64 (i : Int), lkV (lk L i), .bool (U.testBit i)] w' fun e w'' => e = .returned (.tuple #[lkV (lk M i), .int .i64 0]) ∧ Kept w' w'' none) := fun w' q => by
        rw [hY, ← has_in (S := U) (n := i) (by have := (eye_facts HSS.out).n; omega)]
        exact enext_go (HSw.out.kept q) (HTw.out.kept q) i (lk L i) _ hxt HSS.out (by omega) hxm
      have hbit := has_ref U i
      have hi24 : i < 32 := by have := (eye_facts HSS.out).n; omega
      have hw64 : IntKind.u64.wrap (i : Int) = (i : Int) := by rw [IntKind.wrap_u64]; omega
      clear hY hxm hxt
      subst e3 e4
      generalize lk L i = x at *
      generalize hq : lk M i = Y at *
      generalize U.testBit i = ub at *
      clear hq
      have x0_ : ∀ w', Kept wr w' none → w'.cell? ⟨b3, o3 + i * 5, none⟩ = some (.bool x.up) := fun w' q => cell_kept0 c0 q
      have x1_ : ∀ w', Kept wr w' none → w'.cell? ⟨b3, o3 + i * 5 + 1, none⟩ = some (.int .i64 x.same) := fun w' q => cell_kept0 c1 q
      have x2_ : ∀ w', Kept wr w' none → w'.cell? ⟨b3, o3 + i * 5 + 2, none⟩ = some (.int .u64 x.turns) := fun w' q => cell_kept0 c2' q
      have x3_ : ∀ w', Kept wr w' none → w'.cell? ⟨b3, o3 + i * 5 + 3, none⟩ = some (.bool x.bad) := fun w' q => cell_kept0 c3 q
      have x4_ : ∀ w', Kept wr w' none → w'.cell? ⟨b3, o3 + i * 5 + 4, none⟩ = some (.int .i64 x.well) := fun w' q => cell_kept0 c4 q
      have u0_ : ∀ w', Kept wr w' none → w'.cell? ⟨w.heap.size, 0, none⟩ = some (.int .i64 S.id) := fun w' q => s0_ w' (HKR.out.tr q)
      have u1_ : ∀ w', Kept wr w' none → w'.cell? ⟨w.heap.size, 1, none⟩ = some (.slice X.g S.groups.length X.gc) := fun w' q => s1_ w' (HKR.out.tr q)
      have u2_ : ∀ w', Kept wr w' none → w'.cell? ⟨w.heap.size, 2, none⟩ = some (.slice X.a S.apart.length X.ac) := fun w' q => s2_ w' (HKR.out.tr q)
      have u3_ : ∀ w', Kept wr w' none → w'.cell? ⟨w.heap.size, 3, none⟩ = some (.slice X.b S.between.length X.bc) := fun w' q => s3_ w' (HKR.out.tr q)
      have u4_ : ∀ w', Kept wr w' none → w'.cell? ⟨w.heap.size, 4, none⟩ = some (.slice X.p S.phases.length X.pc) := fun w' q => s4_ w' (HKR.out.tr q)
      have u5_ : ∀ w', Kept wr w' none → w'.cell? ⟨w.heap.size, 5, none⟩ = some (.slice X.e S.eyes.length X.ec) := fun w' q => s5_ w' (HKR.out.tr q)
      have u6_ : ∀ w', Kept wr w' none → w'.cell? ⟨w.heap.size, 6, none⟩ = some (.int .i64 S.watch) := fun w' q => s6_ w' (HKR.out.tr q)
      have u7_ : ∀ w', Kept wr w' none → w'.cell? ⟨w.heap.size, 7, none⟩ = some (.int .i64 S.feed) := fun w' q => s7_ w' (HKR.out.tr q)
      have u8_ : ∀ w', Kept wr w' none → w'.cell? ⟨w.heap.size, 8, none⟩ = some (.int .i64 S.heal) := fun w' q => s8_ w' (HKR.out.tr q)
      have u9_ : ∀ w', Kept wr w' none → w'.cell? ⟨w.heap.size, 9, none⟩ = some (.int .i64 S.low) := fun w' q => s9_ w' (HKR.out.tr q)
      have u10_ : ∀ w', Kept wr w' none → w'.cell? ⟨w.heap.size, 10, none⟩ = some (.int .i64 S.high) := fun w' q => s10_ w' (HKR.out.tr q)
      have u11_ : ∀ w', Kept wr w' none → w'.cell? ⟨w.heap.size, 11, none⟩ = some (.slice X.l S.plans.length X.lc) := fun w' q => s11_ w' (HKR.out.tr q)
      clear c0 c1 c2' c3 c4
      have hKr0 := Kept.refl wr none
      go_wp2
      refine Code.wp_mono (Q := Rr ?A16 (fun B w' => Kept wr w' none ∧ wr.heap.size ≤ B ∧ Kbox w' B Y)) ?cont16 ?reg16
      case reg16 =>
        (repeat (rename_i hh; clear hh))
        refine wp_region_held_drew (S := fun w' => Kept wr w' none) (by kernel_rfl) (Kept.drew _ _) (fun hHeld => ?_)
        refine held_take (i := 0) (v := ?v1) rfl rfl (by kernel_rfl) (by kernel_rfl) (by kernel_rfl) (fun _ _ _ h => h) (Or.inl ⟨by rfl, ?hy1⟩) hHeld ?rest1
        case hy1 => first | (intro w hSw; (try dsimp only at hSw); go_simp; done) | (intro w hSw; (try dsimp only at hSw); go_simp; with_reducible rfl)
        try simp only [List.setIfInBounds_toArray, List.set_cons_zero, List.set_cons_succ]
        refine held_take (i := 1) (v := ?v2) rfl rfl (by kernel_rfl) (by kernel_rfl) (by kernel_rfl) (fun _ _ _ h => h) (Or.inl ⟨by rfl, ?hy2⟩) hHeld ?rest2
        case hy2 => first | (intro w hSw; (try dsimp only at hSw); go_simp; done) | (intro w hSw; (try dsimp only at hSw); go_simp; with_reducible rfl)
        try simp only [List.setIfInBounds_toArray, List.set_cons_zero, List.set_cons_succ]
        refine held_take (i := 2) (v := ?v3) rfl rfl (by kernel_rfl) (by kernel_rfl) (by kernel_rfl) (fun _ _ _ h => h) (Or.inl ⟨by rfl, ?hy3⟩) hHeld ?rest3
        case hy3 => first | (intro w hSw; (try dsimp only at hSw); go_simp; done) | (intro w hSw; (try dsimp only at hSw); go_simp; with_reducible rfl)
        try simp only [List.setIfInBounds_toArray, List.set_cons_zero, List.set_cons_succ]
        refine held_take (i := 3) (v := ?v4) rfl rfl (by kernel_rfl) (by kernel_rfl) (by kernel_rfl) (fun _ _ _ h => h) (Or.inl ⟨by rfl, ?hy4⟩) hHeld ?rest4
        case hy4 => first | (intro w hSw; (try dsimp only at hSw); go_simp; done) | (intro w hSw; (try dsimp only at hSw); go_simp; with_reducible rfl)
        try simp only [List.setIfInBounds_toArray, List.set_cons_zero, List.set_cons_succ]
        refine held_take (i := 4) (v := ?v5) rfl rfl (by kernel_rfl) (by kernel_rfl) (by kernel_rfl) (fun _ _ _ h => h) (Or.inl ⟨by rfl, ?hy5⟩) hHeld ?rest5
        case hy5 => first | (intro w hSw; (try dsimp only at hSw); go_simp; done) | (intro w hSw; (try dsimp only at hSw); go_simp; with_reducible rfl)
        try simp only [List.setIfInBounds_toArray, List.set_cons_zero, List.set_cons_succ]
        refine held_take (i := 5) (v := ?v6) rfl rfl (by kernel_rfl) (by kernel_rfl) (by kernel_rfl) (fun _ _ _ h => h) (Or.inl ⟨by rfl, ?hy6⟩) hHeld ?rest6
        case hy6 => first | (intro w hSw; (try dsimp only at hSw); go_simp; done) | (intro w hSw; (try dsimp only at hSw); go_simp; with_reducible rfl)
        try simp only [List.setIfInBounds_toArray, List.set_cons_zero, List.set_cons_succ]
        refine held_take (i := 6) (v := ?v7) rfl rfl (by kernel_rfl) (by kernel_rfl) (by kernel_rfl) (fun _ _ _ h => h) (Or.inl ⟨by rfl, ?hy7⟩) hHeld ?rest7
        case hy7 => first | (intro w hSw; (try dsimp only at hSw); go_simp; done) | (intro w hSw; (try dsimp only at hSw); go_simp; with_reducible rfl)
        try simp only [List.setIfInBounds_toArray, List.set_cons_zero, List.set_cons_succ]
        refine held_take (i := 7) (v := ?v8) rfl rfl (by kernel_rfl) (by kernel_rfl) (by kernel_rfl) (fun _ _ _ h => h) (Or.inl ⟨by rfl, ?hy8⟩) hHeld ?rest8
        case hy8 => first | (intro w hSw; (try dsimp only at hSw); go_simp; done) | (intro w hSw; (try dsimp only at hSw); go_simp; with_reducible rfl)
        try simp only [List.setIfInBounds_toArray, List.set_cons_zero, List.set_cons_succ]
        refine held_take (i := 8) (v := ?v9) rfl rfl (by kernel_rfl) (by kernel_rfl) (by kernel_rfl) (fun _ _ _ h => h) (Or.inl ⟨by rfl, ?hy9⟩) hHeld ?rest9
        case hy9 => first | (intro w hSw; (try dsimp only at hSw); go_simp; done) | (intro w hSw; (try dsimp only at hSw); go_simp; with_reducible rfl)
        try simp only [List.setIfInBounds_toArray, List.set_cons_zero, List.set_cons_succ]
        refine held_take (i := 9) (v := ?v10) rfl rfl (by kernel_rfl) (by kernel_rfl) (by kernel_rfl) (fun _ _ _ h => h) (Or.inl ⟨by rfl, ?hy10⟩) hHeld ?rest10
        case hy10 => first | (intro w hSw; (try dsimp only at hSw); go_simp; done) | (intro w hSw; (try dsimp only at hSw); go_simp; with_reducible rfl)
        try simp only [List.setIfInBounds_toArray, List.set_cons_zero, List.set_cons_succ]
        refine held_take (i := 10) (v := ?v11) rfl rfl (by kernel_rfl) (by kernel_rfl) (by kernel_rfl) (fun _ _ _ h => h) (Or.inl ⟨by rfl, ?hy11⟩) hHeld ?rest11
        case hy11 => first | (intro w hSw; (try dsimp only at hSw); go_simp; done) | (intro w hSw; (try dsimp only at hSw); go_simp; with_reducible rfl)
        try simp only [List.setIfInBounds_toArray, List.set_cons_zero, List.set_cons_succ]
        refine held_take (i := 11) (v := ?v12) rfl rfl (by kernel_rfl) (by kernel_rfl) (by kernel_rfl) (fun _ _ _ h => h) (Or.inl ⟨by rfl, ?hy12⟩) hHeld ?rest12
        case hy12 => first | (intro w hSw; (try dsimp only at hSw); go_simp; done) | (intro w hSw; (try dsimp only at hSw); go_simp; with_reducible rfl)
        try simp only [List.setIfInBounds_toArray, List.set_cons_zero, List.set_cons_succ]
        refine wpAnyH_ready (rs := [12, 16]) (by kernel_rfl) (by simp) ?_
        refine AllReadyH.cons rfl (fun K hK => ?w1) (AllReadyH.cons rfl (fun K hK => ?w2) AllReadyH.nil)
        case w1 =>
          go_simp
          go_wp2_with (go_at_call 10; refine (HNX.out _ (HKW.out.tr (Kept.drew _ _))).mono ?_; rintro e w3 ⟨rfl, hk3⟩)
          have hK9 : Kept wr w3 none := (Kept.drew _ _).tr hk3
          refine hK.out _ _ hK9 (fun hHeld => ?_)
          clear hK K
          refine held_take (i := 13) (v := ?v13) rfl rfl (by kernel_rfl) (by kernel_rfl) (by kernel_rfl) (fun _ _ _ h => h) (Or.inl ⟨by rfl, ?hy13⟩) hHeld ?rest13
          case hy13 => first | (intro w hSw; (try dsimp only at hSw); go_simp; done) | (intro w hSw; (try dsimp only at hSw); go_simp; with_reducible rfl)
          try simp only [List.setIfInBounds_toArray, List.set_cons_zero, List.set_cons_succ]
          refine held_take (i := 14) (v := ?v14) rfl rfl (by kernel_rfl) (by kernel_rfl) (by kernel_rfl) (fun _ _ _ h => h) (Or.inl ⟨by rfl, ?hy14⟩) hHeld ?rest14
          case hy14 => first | (intro w hSw; (try dsimp only at hSw); go_simp; done) | (intro w hSw; (try dsimp only at hSw); go_simp; with_reducible rfl)
          try simp only [List.setIfInBounds_toArray, List.set_cons_zero, List.set_cons_succ]
          refine held_take (i := 15) (v := ?v15) rfl rfl (by kernel_rfl) (by kernel_rfl) (by kernel_rfl) (fun _ _ _ h => h) (Or.inl ⟨by rfl, ?hy15⟩) hHeld ?rest15
          case hy15 => first | (intro w hSw; (try dsimp only at hSw); go_simp; done) | (intro w hSw; (try dsimp only at hSw); go_simp; with_reducible rfl)
          try simp only [List.setIfInBounds_toArray, List.set_cons_zero, List.set_cons_succ]
          refine wpAnyH_ready (rs := [16]) (by kernel_rfl) (by simp) ?_
          refine AllReadyH.cons rfl (fun K hK => ?_) AllReadyH.nil
          go_simp
          refine hK.out _ _ (hK9.tr (Kept.alloc _ _ _ _ _)) (fun hHeld => ?_)
          clear hK K
          refine wpAnyH_ready (rs := [17]) (by kernel_rfl) (by simp) ?_
          refine AllReadyH.cons rfl (fun K hK => ?_) AllReadyH.nil
          go_simp
          refine hK.out _ _ (hK9.tr (Kept.alloc _ _ _ _ _)) (fun hHeld => ?_)
          clear hK K
          refine held_take (i := 18) (v := ?v16) rfl rfl (by kernel_rfl) (by kernel_rfl) (by kernel_rfl) (fun _ _ _ h => h) (Or.inl ⟨by rfl, ?hy16⟩) hHeld ?rest16
          case hy16 => first | (intro w hSw; (try dsimp only at hSw); go_simp; done) | (intro w hSw; (try dsimp only at hSw); go_simp; with_reducible rfl)
          try simp only [List.setIfInBounds_toArray, List.set_cons_zero, List.set_cons_succ]
          refine wpAnyH_done (by kernel_rfl) ?_ _
          refine ⟨w3.heap.size, ?_, hK9.tr (Kept.alloc _ _ _ _ _), hK9.size, b5_alloc _ _ _ _ _ _ _⟩
          generalize w3.heap.size = B
          with_reducible rfl
        case w2 =>
          go_simp
          refine hK.out _ _ (hHeld.tr (Kept.alloc _ _ _ _ _)) (fun hHeld => ?_)
          clear hK K
          refine wpAnyH_ready (rs := [12]) (by kernel_rfl) (by simp) ?_
          refine AllReadyH.cons rfl (fun K hK => ?_) AllReadyH.nil
          go_simp
          go_wp2_with (go_at_call 10; refine (HNX.out _ (HKW.out.tr ((Kept.drew _ _).tr (Kept.alloc _ _ _ _ _)))).mono ?_; rintro e w3 ⟨rfl, hk3⟩)
          have hK9 : Kept wr w3 none := ((Kept.drew _ _).tr (Kept.alloc _ _ _ _ _)).tr hk3
          have ZB : Kbox w3 wr.heap.size Lk.zero := (b5_alloc wr.drew (.bool false) (.int .i64 0) (.int .u64 0) (.bool false) (.int .i64 0) 33).kept hk3
          refine hK.out _ _ hK9 (fun hHeld => ?_)
          clear hK K
          have z0 := ZB.c0
          have z1 := ZB.c1
          have z2 := ZB.c2
          have z3 := ZB.c3
          have z4 := ZB.c4
          have y0 := ZB.f0
          have y1 := ZB.f1
          have y2 := ZB.f2
          have y3 := ZB.f3
          have y4 := ZB.f4
          refine held_take (i := 13) (v := ?v17) rfl rfl (by kernel_rfl) (by kernel_rfl) (by kernel_rfl) (fun _ _ _ h => h) (Or.inl ⟨by rfl, ?hy17⟩) hHeld ?rest17
          case hy17 => first | (intro w hSw; (try dsimp only at hSw); go_simp; done) | (intro w hSw; (try dsimp only at hSw); go_simp; with_reducible rfl)
          try simp only [List.setIfInBounds_toArray, List.set_cons_zero, List.set_cons_succ]
          refine held_take (i := 14) (v := ?v18) rfl rfl (by kernel_rfl) (by kernel_rfl) (by kernel_rfl) (fun _ _ _ h => h) (Or.inl ⟨by rfl, ?hy18⟩) hHeld ?rest18
          case hy18 => first | (intro w hSw; (try dsimp only at hSw); go_simp; done) | (intro w hSw; (try dsimp only at hSw); go_simp; with_reducible rfl)
          try simp only [List.setIfInBounds_toArray, List.set_cons_zero, List.set_cons_succ]
          refine held_take (i := 15) (v := ?v19) rfl rfl (by kernel_rfl) (by kernel_rfl) (by kernel_rfl) (fun _ _ _ h => h) (Or.inl ⟨by rfl, ?hy19⟩) hHeld ?rest19
          case hy19 => first | (intro w hSw; (try dsimp only at hSw); go_simp; done) | (intro w hSw; (try dsimp only at hSw); go_simp; with_reducible rfl)
          try simp only [List.setIfInBounds_toArray, List.set_cons_zero, List.set_cons_succ]
          refine wpAnyH_ready (rs := [17]) (by kernel_rfl) (by simp) ?_
          refine AllReadyH.cons rfl (fun K hK => ?_) AllReadyH.nil
          go_simp
          refine hK.out _ _ (kept_set5 hK9 (Nat.le_refl _) _ _ _ _ _) (fun hHeld => ?_)
          clear hK K
          refine held_take (i := 18) (v := ?v20) rfl rfl (by kernel_rfl) (by kernel_rfl) (by kernel_rfl) (fun _ _ _ h => h) (Or.inl ⟨by rfl, ?hy20⟩) hHeld ?rest20
          case hy20 => first | (intro w hSw; (try dsimp only at hSw); go_simp; done) | (intro w hSw; (try dsimp only at hSw); go_simp; with_reducible rfl)
          try simp only [List.setIfInBounds_toArray, List.set_cons_zero, List.set_cons_succ]
          refine wpAnyH_done (by kernel_rfl) ?_ _
          refine ⟨wr.heap.size, ?_, kept_set5 hK9 (Nat.le_refl _) _ _ _ _ _, Nat.le_refl _, ZB.set _ _ _ _ _⟩
          generalize wr.heap.size = B
          with_reducible rfl
      case cont16 =>
        intro e16 act16 w16 hq16
        obtain ⟨rfl, B, rfl, hk16, hB16, bx16⟩ := Rr.out hq16
        clear hq16 u0_ u1_ u2_ u3_ u4_ u5_ u6_ u7_ u8_ u9_ u10_ u11_ x0_ x1_ x2_ x3_ x4_ HNX
        have f0 := cell_kept0 d0 hk16
        have f1 := cell_kept0 d1 hk16
        have f2 := cell_kept0 d2 hk16
        have f3 := cell_kept0 d3 hk16
        have f4 := cell_kept0 d4 hk16
        have HK16 := Hid.mk' (HKR.out.tr hk16)
        have g0 := bx16.c0
        have g1 := bx16.c1
        have g2 := bx16.c2
        have g3 := bx16.c3
        have g4 := bx16.c4
        clear d0 d1 d2 d3 d4 bx16
        go_wp2
        go_quiet (fail)
        go_wp2
        go_roundw
        case rel => exact ⟨i + 1, by go_num, by omega, HK16.out.tr (Kept.drewN _ _ _)⟩
        case measure => simp [intOf]; omega
    · have hin2 : n ≤ i := by omega
      have HWL : Hid (∀ w', Kept wD w' none → Calls Tryd.prog 12 #[siteV X S, .slice a2 n c2] w' fun e w'' => e = .returned (.tuple #[.bool (welS S M), .int .i64 0]) ∧ Kept w' w'' none) := fun w' q => ewell_go (HSw.out.kept (HKwD.out.tr q)) (HTw.out.kept (HKwD.out.tr q)) (HMM.out.kept q) HC2.out HEM.out
      have HWE : Hid (welS S M = wantN (fun i => (S.ey i).phase) (fun i => !(lk M i).bad) n n) := by show _ = _; rw [wantN_wel]; unfold welS; rw [HMLM.out]
      rw [HWE.out] at HWL
      clear HWE
      have hex : ¬ (i : Int) < (n : Int) := by omega
      go_wp2_with (first | (go_at_call 12; refine (HWL.out _ HKR.out).mono ?_; rintro e wE ⟨rfl, hkE⟩))
      have HKE := Hid.mk' (HKR.out.tr hkE)
      have hKE0 := Kept.refl wE none
      clear HWL
      go_loopw [15, 16, 17, 18] (fun wv iv _ _ wr => ∃ m : Nat, wv = .bool (wantN (fun i => (S.ey i).phase) (fun i => !(lk M i).bad) n m) ∧ iv = .int .i64 m ∧ m ≤ n ∧ Kept wE wr none) (fun _ iv _ _ _ => n - (intOf iv).toNat)
      case atStart => exact ⟨0, rfl, rfl, by omega, hKE0⟩
      case round =>
        obtain ⟨m, rfl, rfl, hmn, hkm⟩ := hrel
        by_cases hmlt : m < n
        · have HWS : Hid (wantN (fun i => (S.ey i).phase) (fun i => !(lk M i).bad) n (m + 1) = (wantN (fun i => (S.ey i).phase) (fun i => !(lk M i).bad) n m && oneN (fun i => (S.ey i).phase) (fun i => !(lk M i).bad) m n)) := wantN_succ _ _ _ _
          generalize wantN (fun i => (S.ey i).phase) (fun i => !(lk M i).bad) n m = wt at *
          go_wp2
          go_loopw [17, 18] (fun ov jv wq => ∃ j : Nat, ov = .bool (oneN (fun i => (S.ey i).phase) (fun i => !(lk M i).bad) m j) ∧ jv = .int .i64 j ∧ j ≤ n ∧ Kept wE wq none) (fun _ jv _ => n - (intOf jv).toNat)
          case atStart => exact ⟨0, rfl, rfl, by omega, hkm⟩
          case round =>
            obtain ⟨j, rfl, rfl, hjn, hkq⟩ := hrel
            by_cases hjlt : j < n
            · have HO : Hid (oneN (fun i => (S.ey i).phase) (fun i => !(lk M i).bad) m (j + 1) = (oneN (fun i => (S.ey i).phase) (fun i => !(lk M i).bad) m j || (decide ((S.ey j).phase = (S.ey m).phase) && !(lk M j).bad))) := oneN_succ _ _ _ _
              have hKq := HKE.out.tr hkq
              obtain ⟨b4, o4, e4, hb4, d0, d1, d2, d3, d4⟩ := (HMM.out.kept hKq).at_ hjlt
              obtain ⟨eb, eo, ee, heb, y0, y1, y2, y3⟩ := (HSw.out.kept (HKwD.out.tr hKq)).eye (k := j) (by omega)
              obtain ⟨eb', eo', ee', heb', q0, q1, q2, q3⟩ := (HSw.out.kept (HKwD.out.tr hKq)).eye (k := m) (by omega)
              rw [ee] at ee'
              injection ee' with ee'
              injection ee' with e1 e2
              subst e1 e2
              have s5 := s5_ _ hKq
              rw [ee] at s5
              have hje : j < S.eyes.length := by omega
              have hme : m < S.eyes.length := by omega
              clear d0 d1 d2 d4 y1 y2 y3 q1 q2 q3 s5_ ee
              subst e4
              generalize (S.ey j).phase = Pj at *
              generalize (S.ey m).phase = Pm at *
              generalize (lk M j).bad = bj at *
              cases ho : oneN (fun i => (S.ey i).phase) (fun i => !(lk M i).bad) m j
              all_goals rw [ho] at HO
              · by_cases hp : Pj = Pm
                · subst hp
                  cases bj
                  · clear ho
                    go_wp2
                    go_quiet (fail)
                    go_wp2
                    go_roundw
                    case rel => exact ⟨j + 1, by rw [HO.out]; simp, by go_num, by omega, hkq.tr (Kept.drewN _ _ _)⟩
                    case measure => simp [intOf]; omega
                  · clear ho
                    go_wp2
                    go_quiet (fail)
                    go_wp2
                    go_roundw
                    case rel => exact ⟨j + 1, by rw [HO.out]; simp, by go_num, by omega, hkq.tr (Kept.drewN _ _ _)⟩
                    case measure => simp [intOf]; omega
                · have hpb : (Pj == Pm) = false := by simpa using hp
                  have hpd : decide (Pj = Pm) = false := decide_eq_false hp
                  rw [hpd] at HO
                  clear ho hp hpd
                  go_wp2
                  go_quiet (fail)
                  go_wp2
                  go_roundw
                  case rel => exact ⟨j + 1, by rw [HO.out]; simp, by go_num, by omega, hkq.tr (Kept.drewN _ _ _)⟩
                  case measure => simp [intOf]; omega
              · clear ho
                go_wp2
                go_quiet (fail)
                go_wp2
                go_roundw
                case rel => exact ⟨j + 1, by rw [HO.out]; simp, by go_num, by omega, hkq.tr (Kept.drewN _ _ _)⟩
                case measure => simp [intOf]; omega
            · obtain rfl : j = n := by omega
              generalize hon : oneN (fun i => (S.ey i).phase) (fun i => !(lk M i).bad) m j = on at *
              clear hon
              cases wt
              · cases on
                · go_wp2
                  go_roundw
                  case rel => exact ⟨m + 1, by rw [HWS.out]; rfl, by go_num, by omega, hkq⟩
                  case measure => simp [intOf]; omega
                · go_wp2
                  go_roundw
                  case rel => exact ⟨m + 1, by rw [HWS.out]; rfl, by go_num, by omega, hkq⟩
                  case measure => simp [intOf]; omega
              · cases on
                · go_wp2
                  go_roundw
                  case rel => exact ⟨m + 1, by rw [HWS.out]; rfl, by go_num, by omega, hkq⟩
                  case measure => simp [intOf]; omega
                · go_wp2
                  go_roundw
                  case rel => exact ⟨m + 1, by rw [HWS.out]; rfl, by go_num, by omega, hkq⟩
                  case measure => simp [intOf]; omega
        · obtain rfl : m = n := by omega
          generalize wantN (fun i => (S.ey i).phase) (fun i => !(lk M i).bad) m m = wt at *
          go_wp2
          go_ret
          exact ⟨by simp, ((HKwD.out.tr HKE.out).tr hkm).below⟩
theorem eal_any {X : Sa} {S : St} {w : World} (h : Sat w X S) (hT : Tabb w) {a : Option Addr} {n c : Nat} {L : List Lk} (hA : Lks w a n L) (hc : Cap a n c) (U : Nat) (hU : U < 4294967296) : Calls Tryd.prog 6 #[siteV X S, .slice a n c, .int .u32 (U : Int)] w fun e w' => e = .returned (.bool true) ∧ Below w.heap.size w w' := by
  by_cases hl : 60 < n
  · exact eal_long h hT hA hc U hU hl
  cases hs : siteB S
  · exact eal_site h hT hA hc U hU (by omega) hs
  by_cases he : allE S L = 0
  · exact eal_go h hT hA hc U hU (by omega) he
  · exact eal_no h hT hA hc U hU (by omega) hs _ rfl he

end Go.Proofs.YtommijjacknkpaaDoor
