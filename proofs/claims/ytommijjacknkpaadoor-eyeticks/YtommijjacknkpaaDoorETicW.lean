/-
  Texts joined: some of those that the proofs of this seat stand on.
-/
import Derived.Test.YtommijjacknkpaaDoorEyeQ0J
import Derived.Test.YtommijjacknkpaaDoorEyeQ2J
import Derived.Test.YtommijjacknkpaaDoorEyeW
import Derived.Test.YtommijjacknkpaaDoorEyeT
import Derived.Test.YtommijjacknkpaaDoorRefG
import Derived.Laws.StructEq
import Derived.Deep.OwnRows
import Derived.OwnWalk
/-
  THE WALK of EyeTicks (made by a program).
-/
namespace Go.Proofs.YtommijjacknkpaaDoor
open Go.RowKit Go.Lib Go.Deep
set_option linter.unusedVariables false
set_option linter.unusedSimpArgs false

/-- What All answers with: the detectors a tick later, or none. -/
def allM (S : St) (L : List Lk) (U : Nat) : List Lk := if allE S L = 0 then allL S L U else []
theorem allM_len {S : St} {L : List Lk} {U : Nat} : (allM S L U).length ≤ L.length := by
  unfold allM
  split
  · simp [allL]
  · exact Nat.zero_le _
theorem allM_typ {S : St} {L : List Lk} {U : Nat} : ∀ i, i < (allM S L U).length → Typ (lk (allM S L U) i) := by
  unfold allM
  split
  · rename_i h
    obtain ⟨h1, h2, h3⟩ := allE_zero h
    have hf := eye_facts h1
    intro i hi
    have hi' : i < L.length := by simpa [allL] using hi
    have e : lk (allL S L U) i = stepK (S.ey i) S.heal (lk L i) (hasB U (i : Int)) := by
      unfold lk allL
      rw [List.getD_eq_getElem?_getD, List.getElem?_map, List.getElem?_range hi']
      rfl
    rw [e]
    exact typ_step _ hf.h1 _ (allB_iff.1 h3 i hi')
  · intro i hi; exact absurd hi (Nat.not_lt_zero i)
theorem AllP.own {S : St} {L : List Lk} {U : Nat} {w w' : World} {v : Value} (h : AllP S L U w v w') : LkS w' w.heap.size v (allM S L U) := by
  unfold allM
  by_cases e : allE S L = 0
  · rw [if_pos e]; exact h.yes e
  · rw [if_neg e, h.no e]; exact Ow8.nil _ _ _ _ _ _
theorem Lks.keptB {w w' : World} {a : Option Addr} {n g : Nat} {L : List Lk} (h : Lks w a n L) (q : Kept w w' (some g)) (hne : ∀ b, a = some b → 0 < n → b.block ≠ g) : Lks w' a n L := by
  refine ⟨h.size, ⟨fun hp => ?_⟩, h.typ⟩
  obtain ⟨b, off, rfl, hb, hcc⟩ := h.lie.at_ hp
  have hg : b ≠ g := hne ⟨b, off, none⟩ rfl hp
  exact ⟨b, off, rfl, Nat.lt_of_lt_of_le hb q.size, fun i hi j hj => cell_kr (hcc i hi j hj) q (fun e => hg (Option.some.inj e))⟩
/-- The cells of a list of one's own may be written. -/
theorem LkS.row {w : World} {base n c : Nat} {a : Option Addr} {l : List Lk} (h : LkS w base (.slice a n c) l) (hn : 0 < n) : ∃ g f, a = some ⟨g, 0, none⟩ ∧ base ≤ g ∧ n ≤ c ∧ w.rowIs g 33 (c * 5) f := by
  rcases id h.2 with ⟨e, e2⟩ | ⟨g, cap, cur, e, hb, hh, hle, hmx, hsz, _⟩
  · injection e with e1 e2 e3
    omega
  · injection e with e1 e2 e3
    subst e1 e3
    refine ⟨g, fun j => (cur[j]?).getD (.bool false), rfl, hb, by omega, cur, hh, hsz, fun i hi => ?_⟩
    have : i < cur.size := by omega
    simp [this]
set_option maxRecDepth 100000 in
set_option maxHeartbeats 2000000 in
theorem etic_long {X : Sa} {S : St} {w : World} (h : Sat w X S) (hT : Tabb w) (i : Int) (x : Lk) (hx : Typ x) {a : Option Addr} {n c : Nat} {L : List Lk} (hA : Lks w a n L) (hc : Cap a n c) (U : Nat) (hU : U < 4294967296) (hl : 60 < n) : Calls Tryd.prog 4 #[siteV X S, .int .i64 i, lkV x, .slice a n c, .int .u32 (U : Int)] w fun e w' => e = .returned (.bool true) ∧ Below w.heap.size w w' := by
  have hlb : decide ((60 : Int) < (n : Int)) = true := by simp; omega
  have k1 : Kept w (w.alloc (.cells #[.int .i64 S.id, .slice X.g S.groups.length X.gc, .slice X.a S.apart.length X.ac, .slice X.b S.between.length X.bc, .slice X.p S.phases.length X.pc, .slice X.e S.eyes.length X.ec, .int .i64 S.watch, .int .i64 S.feed, .int .i64 S.heal, .int .i64 S.low, .int .i64 S.high, .slice X.l S.plans.length X.lc] 29)) none := Kept.alloc _ _ _ _ _
  have k2 : Kept (w.alloc (.cells #[.int .i64 S.id, .slice X.g S.groups.length X.gc, .slice X.a S.apart.length X.ac, .slice X.b S.between.length X.bc, .slice X.p S.phases.length X.pc, .slice X.e S.eyes.length X.ec, .int .i64 S.watch, .int .i64 S.feed, .int .i64 S.heal, .int .i64 S.low, .int .i64 S.high, .slice X.l S.plans.length X.lc] 29)) ((w.alloc (.cells #[.int .i64 S.id, .slice X.g S.groups.length X.gc, .slice X.a S.apart.length X.ac, .slice X.b S.between.length X.bc, .slice X.p S.phases.length X.pc, .slice X.e S.eyes.length X.ec, .int .i64 S.watch, .int .i64 S.feed, .int .i64 S.heal, .int .i64 S.low, .int .i64 S.high, .slice X.l S.plans.length X.lc] 29)).alloc (.cells (lkC x) 33)) none := Kept.alloc _ _ _ _ _
  have hkA := k1.tr k2
  have hsb := (sbox_alloc h 29).kept k2
  have hxb : Kbox ((w.alloc (.cells #[.int .i64 S.id, .slice X.g S.groups.length X.gc, .slice X.a S.apart.length X.ac, .slice X.b S.between.length X.bc, .slice X.p S.phases.length X.pc, .slice X.e S.eyes.length X.ec, .int .i64 S.watch, .int .i64 S.feed, .int .i64 S.heal, .int .i64 S.low, .int .i64 S.high, .slice X.l S.plans.length X.lc] 29)).alloc (.cells (lkC x) 33)) (w.heap.size + 1) x := b5_at (by simp)
  have HS := Hid.mk' (h.kept hkA)
  have HT := Hid.mk' (hT.kept hkA)
  have HSw := Hid.mk' h
  have HTw := Hid.mk' hT
  have HAw := Hid.mk' hA
  have hn9 : n ≤ 9223372036854775807 := by have := hc.room; have := hc.max; omega
  clear k1 k2
  obtain ⟨WA, hWA⟩ : ∃ WA, ((w.alloc (.cells #[.int .i64 S.id, .slice X.g S.groups.length X.gc, .slice X.a S.apart.length X.ac, .slice X.b S.between.length X.bc, .slice X.p S.phases.length X.pc, .slice X.e S.eyes.length X.ec, .int .i64 S.watch, .int .i64 S.feed, .int .i64 S.heal, .int .i64 S.low, .int .i64 S.high, .slice X.l S.plans.length X.lc] 29)).alloc (.cells (lkC x) 33)) = WA := ⟨_, rfl⟩
  rw [hWA] at hkA hsb hxb HS HT
  have hlA0 : w.heap.size < WA.heap.size := hsb.lt
  have hlA1 : w.heap.size + 1 < WA.heap.size := hxb.lt
  have HK := Hid.mk' hkA
  have HSB := Hid.mk' hsb
  have HXB := Hid.mk' hxb
  have hK0 := Kept.refl WA none
  clear h hT hkA hsb hxb hA
  have s0_ : ∀ w', Kept WA w' none → w'.cell? ⟨w.heap.size, 0, none⟩ = some (.int .i64 S.id) := fun w' q => (HSB.out.kept q).c0
  have s1_ : ∀ w', Kept WA w' none → w'.cell? ⟨w.heap.size, 1, none⟩ = some (.slice X.g S.groups.length X.gc) := fun w' q => (HSB.out.kept q).c1
  have s2_ : ∀ w', Kept WA w' none → w'.cell? ⟨w.heap.size, 2, none⟩ = some (.slice X.a S.apart.length X.ac) := fun w' q => (HSB.out.kept q).c2
  have s3_ : ∀ w', Kept WA w' none → w'.cell? ⟨w.heap.size, 3, none⟩ = some (.slice X.b S.between.length X.bc) := fun w' q => (HSB.out.kept q).c3
  have s4_ : ∀ w', Kept WA w' none → w'.cell? ⟨w.heap.size, 4, none⟩ = some (.slice X.p S.phases.length X.pc) := fun w' q => (HSB.out.kept q).c4
  have s5_ : ∀ w', Kept WA w' none → w'.cell? ⟨w.heap.size, 5, none⟩ = some (.slice X.e S.eyes.length X.ec) := fun w' q => (HSB.out.kept q).c5
  have s6_ : ∀ w', Kept WA w' none → w'.cell? ⟨w.heap.size, 6, none⟩ = some (.int .i64 S.watch) := fun w' q => (HSB.out.kept q).c6
  have s7_ : ∀ w', Kept WA w' none → w'.cell? ⟨w.heap.size, 7, none⟩ = some (.int .i64 S.feed) := fun w' q => (HSB.out.kept q).c7
  have s8_ : ∀ w', Kept WA w' none → w'.cell? ⟨w.heap.size, 8, none⟩ = some (.int .i64 S.heal) := fun w' q => (HSB.out.kept q).c8
  have s9_ : ∀ w', Kept WA w' none → w'.cell? ⟨w.heap.size, 9, none⟩ = some (.int .i64 S.low) := fun w' q => (HSB.out.kept q).c9
  have s10_ : ∀ w', Kept WA w' none → w'.cell? ⟨w.heap.size, 10, none⟩ = some (.int .i64 S.high) := fun w' q => (HSB.out.kept q).c10
  have s11_ : ∀ w', Kept WA w' none → w'.cell? ⟨w.heap.size, 11, none⟩ = some (.slice X.l S.plans.length X.lc) := fun w' q => (HSB.out.kept q).c11
  have x0_ : ∀ w', Kept WA w' none → w'.cell? ⟨(w.heap.size + 1), 0, none⟩ = some (.bool x.up) := fun w' q => (HXB.out.kept q).c0
  have x1_ : ∀ w', Kept WA w' none → w'.cell? ⟨(w.heap.size + 1), 1, none⟩ = some (.int .i64 x.same) := fun w' q => (HXB.out.kept q).c1
  have x2_ : ∀ w', Kept WA w' none → w'.cell? ⟨(w.heap.size + 1), 2, none⟩ = some (.int .u64 x.turns) := fun w' q => (HXB.out.kept q).c2
  have x3_ : ∀ w', Kept WA w' none → w'.cell? ⟨(w.heap.size + 1), 3, none⟩ = some (.bool x.bad) := fun w' q => (HXB.out.kept q).c3
  have x4_ : ∀ w', Kept WA w' none → w'.cell? ⟨(w.heap.size + 1), 4, none⟩ = some (.int .i64 x.well) := fun w' q => (HXB.out.kept q).c4
  go_enter Tryd.func4, Tryd.ntmps4
  go_wp2_with (first | rw [hWA])
  go_at_call 16
  refine (rgreat_any HS.out).mono ?_
  rintro e wg ⟨gr, rfl, hgr, hkg⟩
  have hKg : Kept WA wg none := hkg
  clear hgr
  cases gr with
  | true =>
    go_wp2
    go_ret
    exact ⟨rfl, (HK.out.tr hKg).below⟩
  | false =>
    go_wp2
    go_ret
    exact ⟨rfl, (HK.out.tr hKg).below⟩
set_option maxRecDepth 100000 in
set_option maxHeartbeats 2000000 in
theorem etic_go {X : Sa} {S : St} {w : World} (h : Sat w X S) (hT : Tabb w) (i : Int) (x : Lk) (hx : Typ x) {a : Option Addr} {n c : Nat} {L : List Lk} (hA : Lks w a n L) (hc : Cap a n c) (U : Nat) (hU : U < 4294967296) (hl : n ≤ 60) (ub : Bool) (hub : ub = decide (U % 2 = 1)) : Calls Tryd.prog 4 #[siteV X S, .int .i64 i, lkV x, .slice a n c, .int .u32 (U : Int)] w fun e w' => e = .returned (.bool true) ∧ Below w.heap.size w w' := by
  have hlb : decide ((60 : Int) < (n : Int)) = false := by simp; omega
  have hb1 : (((U : Int) % 2 == 1) : Bool) = ub := by
    rw [hub]
    by_cases e : U % 2 = 1
    · have e2 : (U : Int) % 2 = 1 := by omega
      rw [e2, decide_eq_true e]; rfl
    · have e2 : (U : Int) % 2 = 0 := by omega
      rw [e2, decide_eq_false e]; rfl
  have hb2 : ((((U : Int).tmod 2) == 1) : Bool) = ub := by rw [Int.tmod_eq_emod_of_nonneg (by omega)]; exact hb1
  clear hub
  have HN1 : Hid ((allM S L U).length ≤ n) := by show _ ≤ n; rw [← hA.size]; exact allM_len
  obtain ⟨it, hit, hz0, hz1, hz2⟩ := info_parts Tryd.infoLooked
  have k1 : Kept w (w.alloc (.cells #[.int .i64 S.id, .slice X.g S.groups.length X.gc, .slice X.a S.apart.length X.ac, .slice X.b S.between.length X.bc, .slice X.p S.phases.length X.pc, .slice X.e S.eyes.length X.ec, .int .i64 S.watch, .int .i64 S.feed, .int .i64 S.heal, .int .i64 S.low, .int .i64 S.high, .slice X.l S.plans.length X.lc] 29)) none := Kept.alloc _ _ _ _ _
  have k2 : Kept (w.alloc (.cells #[.int .i64 S.id, .slice X.g S.groups.length X.gc, .slice X.a S.apart.length X.ac, .slice X.b S.between.length X.bc, .slice X.p S.phases.length X.pc, .slice X.e S.eyes.length X.ec, .int .i64 S.watch, .int .i64 S.feed, .int .i64 S.heal, .int .i64 S.low, .int .i64 S.high, .slice X.l S.plans.length X.lc] 29)) ((w.alloc (.cells #[.int .i64 S.id, .slice X.g S.groups.length X.gc, .slice X.a S.apart.length X.ac, .slice X.b S.between.length X.bc, .slice X.p S.phases.length X.pc, .slice X.e S.eyes.length X.ec, .int .i64 S.watch, .int .i64 S.feed, .int .i64 S.heal, .int .i64 S.low, .int .i64 S.high, .slice X.l S.plans.length X.lc] 29)).alloc (.cells (lkC x) 33)) none := Kept.alloc _ _ _ _ _
  have hkA := k1.tr k2
  have hsb := (sbox_alloc h 29).kept k2
  have hxb : Kbox ((w.alloc (.cells #[.int .i64 S.id, .slice X.g S.groups.length X.gc, .slice X.a S.apart.length X.ac, .slice X.b S.between.length X.bc, .slice X.p S.phases.length X.pc, .slice X.e S.eyes.length X.ec, .int .i64 S.watch, .int .i64 S.feed, .int .i64 S.heal, .int .i64 S.low, .int .i64 S.high, .slice X.l S.plans.length X.lc] 29)).alloc (.cells (lkC x) 33)) (w.heap.size + 1) x := b5_at (by simp)
  have HS := Hid.mk' (h.kept hkA)
  have HT := Hid.mk' (hT.kept hkA)
  have HSw := Hid.mk' h
  have HTw := Hid.mk' hT
  have HAw := Hid.mk' hA
  have hn9 : n ≤ 9223372036854775807 := by have := hc.room; have := hc.max; omega
  clear k1 k2
  obtain ⟨WA, hWA⟩ : ∃ WA, ((w.alloc (.cells #[.int .i64 S.id, .slice X.g S.groups.length X.gc, .slice X.a S.apart.length X.ac, .slice X.b S.between.length X.bc, .slice X.p S.phases.length X.pc, .slice X.e S.eyes.length X.ec, .int .i64 S.watch, .int .i64 S.feed, .int .i64 S.heal, .int .i64 S.low, .int .i64 S.high, .slice X.l S.plans.length X.lc] 29)).alloc (.cells (lkC x) 33)) = WA := ⟨_, rfl⟩
  rw [hWA] at hkA hsb hxb HS HT
  have hlA0 : w.heap.size < WA.heap.size := hsb.lt
  have hlA1 : w.heap.size + 1 < WA.heap.size := hxb.lt
  have HK := Hid.mk' hkA
  have HSB := Hid.mk' hsb
  have HXB := Hid.mk' hxb
  have hK0 := Kept.refl WA none
  clear h hT hkA hsb hxb hA
  have s0_ : ∀ w', Kept WA w' none → w'.cell? ⟨w.heap.size, 0, none⟩ = some (.int .i64 S.id) := fun w' q => (HSB.out.kept q).c0
  have s1_ : ∀ w', Kept WA w' none → w'.cell? ⟨w.heap.size, 1, none⟩ = some (.slice X.g S.groups.length X.gc) := fun w' q => (HSB.out.kept q).c1
  have s2_ : ∀ w', Kept WA w' none → w'.cell? ⟨w.heap.size, 2, none⟩ = some (.slice X.a S.apart.length X.ac) := fun w' q => (HSB.out.kept q).c2
  have s3_ : ∀ w', Kept WA w' none → w'.cell? ⟨w.heap.size, 3, none⟩ = some (.slice X.b S.between.length X.bc) := fun w' q => (HSB.out.kept q).c3
  have s4_ : ∀ w', Kept WA w' none → w'.cell? ⟨w.heap.size, 4, none⟩ = some (.slice X.p S.phases.length X.pc) := fun w' q => (HSB.out.kept q).c4
  have s5_ : ∀ w', Kept WA w' none → w'.cell? ⟨w.heap.size, 5, none⟩ = some (.slice X.e S.eyes.length X.ec) := fun w' q => (HSB.out.kept q).c5
  have s6_ : ∀ w', Kept WA w' none → w'.cell? ⟨w.heap.size, 6, none⟩ = some (.int .i64 S.watch) := fun w' q => (HSB.out.kept q).c6
  have s7_ : ∀ w', Kept WA w' none → w'.cell? ⟨w.heap.size, 7, none⟩ = some (.int .i64 S.feed) := fun w' q => (HSB.out.kept q).c7
  have s8_ : ∀ w', Kept WA w' none → w'.cell? ⟨w.heap.size, 8, none⟩ = some (.int .i64 S.heal) := fun w' q => (HSB.out.kept q).c8
  have s9_ : ∀ w', Kept WA w' none → w'.cell? ⟨w.heap.size, 9, none⟩ = some (.int .i64 S.low) := fun w' q => (HSB.out.kept q).c9
  have s10_ : ∀ w', Kept WA w' none → w'.cell? ⟨w.heap.size, 10, none⟩ = some (.int .i64 S.high) := fun w' q => (HSB.out.kept q).c10
  have s11_ : ∀ w', Kept WA w' none → w'.cell? ⟨w.heap.size, 11, none⟩ = some (.slice X.l S.plans.length X.lc) := fun w' q => (HSB.out.kept q).c11
  have x0_ : ∀ w', Kept WA w' none → w'.cell? ⟨(w.heap.size + 1), 0, none⟩ = some (.bool x.up) := fun w' q => (HXB.out.kept q).c0
  have x1_ : ∀ w', Kept WA w' none → w'.cell? ⟨(w.heap.size + 1), 1, none⟩ = some (.int .i64 x.same) := fun w' q => (HXB.out.kept q).c1
  have x2_ : ∀ w', Kept WA w' none → w'.cell? ⟨(w.heap.size + 1), 2, none⟩ = some (.int .u64 x.turns) := fun w' q => (HXB.out.kept q).c2
  have x3_ : ∀ w', Kept WA w' none → w'.cell? ⟨(w.heap.size + 1), 3, none⟩ = some (.bool x.bad) := fun w' q => (HXB.out.kept q).c3
  have x4_ : ∀ w', Kept WA w' none → w'.cell? ⟨(w.heap.size + 1), 4, none⟩ = some (.int .i64 x.well) := fun w' q => (HXB.out.kept q).c4
  go_enter Tryd.func4, Tryd.ntmps4
  go_wp2_with (first | rw [hWA])
  go_at_call 16
  refine (rgreat_any HS.out).mono ?_
  rintro e wg ⟨gr, rfl, hgr, hkg⟩
  have hKg : Kept WA wg none := hkg
  clear hgr
  cases gr with
  | true =>
    go_wp2
    go_ret
    exact ⟨rfl, (HK.out.tr hKg).below⟩
  | false =>
  obtain ⟨a1, c1, w1, hcp, hLi1, hCp1, hNw1, hk1⟩ := twin_run (w := wg) (t := 40) (ty := 40) (c := c) Tryd.underlying40 hit hz0 hz1 hz2 rfl (by omega) (by omega) (HAw.out.kept (HK.out.tr hKg)).lie hc (by omega) (fun i j => lkF_one _ j)
  have HCP := Hid.mk' hcp
  have hL1 : Lks w1 a1 n L := ⟨HAw.out.size, hLi1, HAw.out.typ⟩
  have HL1 := Hid.mk' hL1
  have HC1 := Hid.mk' hCp1
  have HN2 := Hid.mk' hNw1
  have hK1 : Kept WA w1 none := hKg.tr hk1
  have HKw := Hid.mk' (HK.out)
  have hc1m : c1 ≤ 9223372036854775807 := hCp1.max
  have hc1r : n ≤ c1 := hCp1.room
  have m1 := Hid.mk' trivial
  clear hcp hLi1 hCp1 hNw1 hL1 hit hz0 hz1 hz2
  have H1 : Hid (∀ w', Kept WA w' none → Calls Tryd.prog 10 #[siteV X S, .int .i64 i, lkV x, .bool ub] w' fun e w'' => e = .returned (.tuple #[lkV (nxK S i x ub), .int .i64 (nxE S i x)]) ∧ Kept w' w'' none) := fun w' q => enext_any (HS.out.kept q) (HT.out.kept q) i x ub hx
  have H2 : Hid (∀ w', Kept WA w' none → Calls Tryd.prog 17 #[siteV X S, .int .i64 i, lkV x, .bool ub] w' fun e w'' => e = .returned (.tuple #[lkV (nxK S i x ub), .int .i64 (nxE S i x)]) ∧ Kept w' w'' none) := fun w' q => rnext_any (HS.out.kept q) (HT.out.kept q) i x ub hx
  have H3 : Hid (∀ w', Kept WA w' none → Kept w1 w' none → Calls Tryd.prog 11 #[siteV X S, .slice a1 n c1, .int .u32 (U : Int)] w' fun e w'' => ∃ v, e = .returned (.tuple #[v, .int .i64 (allE S L)]) ∧ AllP S L U w' v w'') := fun w' q r => eall_any (HS.out.kept q) (HT.out.kept q) (HL1.out.kept r) HC1.out U hU
  have H4 : Hid (∀ w', Kept WA w' none → Calls Tryd.prog 18 #[siteV X S, .slice a n c, .int .u32 (U : Int)] w' fun e w'' => ∃ v, e = .returned (.tuple #[v, .int .i64 (allE S L)]) ∧ AllP S L U w' v w'') := fun w' q => rall_any (HS.out.kept q) (HT.out.kept q) (HAw.out.kept (HKw.out.tr q)) hc U hU
  have H5 : Hid (∀ w', Kept WA w' none → Kept w1 w' none → Calls Tryd.prog 12 #[siteV X S, .slice a1 n c1] w' fun e w'' => e = .returned (.tuple #[.bool (decide (allE S L = 0) && welS S L), .int .i64 (allE S L)]) ∧ Kept w' w'' none) := fun w' q r => ewell_any (HS.out.kept q) (HT.out.kept q) (HL1.out.kept r) HC1.out
  have H6 : Hid (∀ w', Kept WA w' none → Calls Tryd.prog 19 #[siteV X S, .slice a n c] w' fun e w'' => e = .returned (.tuple #[.bool (decide (allE S L = 0) && welS S L), .int .i64 (allE S L)]) ∧ Kept w' w'' none) := fun w' q => rwell_any (HS.out.kept q) (HT.out.kept q) (HAw.out.kept (HKw.out.tr q)) hc
  generalize nxK S i x ub = Y at *
  generalize nxE S i x = E1 at *
  generalize (decide (allE S L = 0) && welS S L) = wl at *
  generalize hE2 : allE S L = E2 at *
  go_wp2_with (first | (have hgo := m6; clear hgo; go_at_call 19; refine (H6.out _ hK6).mono ?_; rintro e w7 ⟨rfl, hk7⟩; have J7 : Kept w1 w7 none := J6.tr hk7; have hK7 : Kept WA w7 none := hK6.tr hk7; clear m6; have m7 := Hid.mk' trivial) | (have hgo := m5; clear hgo; go_at_call 12; refine (H5.out _ hK5 J5).mono ?_; rintro e w6 ⟨rfl, hk6⟩; have J6 : Kept w1 w6 none := J5.tr hk6; have hK6 : Kept WA w6 none := hK5.tr hk6; clear m5; have m6 := Hid.mk' trivial) | (have hgo := m4; clear hgo; go_at_call 18; refine (H4.out _ hK4).mono ?_; rintro e w5 ⟨vd, rfl, hP5⟩; have hk5 := hP5.kept; have J5 : Kept w1 w5 none := J4.tr hk5; have hK5 : Kept WA w5 none := hK4.tr hk5; obtain ⟨ad, cd, hvd, hLd, hCd, hNd⟩ := lks_own hP5.own allM_typ; subst hvd; have HLd := Hid.mk' hLd; have HCd := Hid.mk' hCd; clear hLd hCd hNd hP5 m4; have m5 := Hid.mk' trivial) | (have hgo := m3; clear hgo; go_at_call 11; refine (H3.out _ (hK3.tr (Kept.alloc _ _ _ _ _)) (J3.tr (Kept.alloc _ _ _ _ _))).mono ?_; rintro e w4 ⟨vc, rfl, hP4⟩; have hk4 := hP4.kept; have k4 : Kept w3 w4 none := (Kept.alloc _ _ _ _ _).tr hk4; have J4 : Kept w1 w4 none := J3.tr k4; have hK4 : Kept WA w4 none := hK3.tr k4; have BA4 : Kbox w4 w2.heap.size Y := BA3.kept k4; have BB4 : Kbox w4 w3.heap.size Y := (b5_alloc w3 (.bool Y.up) (.int .i64 Y.same) (.int .u64 Y.turns) (.bool Y.bad) (.int .i64 Y.well) 33).kept hk4; have ow4 := Ow8.base hP4.own (show w3.heap.size ≤ _ by simp); obtain ⟨ac, cc, hvc, hLc, hCc, hNc⟩ := lks_own ow4 allM_typ; have HN := Hid.mk' ow4; subst hvc; have HLc := Hid.mk' hLc; have HCc := Hid.mk' hCc; have HNc := Hid.mk' hNc; clear hLc hCc hNc hP4 ow4 m3; have m4 := Hid.mk' trivial) | (have hgo := m2; clear hgo; go_at_call 17; refine (H2.out _ (hK2.tr (Kept.alloc _ _ _ _ _))).mono ?_; rintro e w3 ⟨rfl, hk3⟩; have k3 : Kept w2 w3 none := (Kept.alloc _ _ _ _ _).tr hk3; have J3 : Kept w1 w3 none := J2.tr k3; have hK3 : Kept WA w3 none := hK2.tr k3; have BA3 : Kbox w3 w2.heap.size Y := (b5_alloc w2 (.bool Y.up) (.int .i64 Y.same) (.int .u64 Y.turns) (.bool Y.bad) (.int .i64 Y.well) 33).kept hk3; have l30 : w.heap.size < w3.heap.size := Nat.lt_of_lt_of_le hlA0 hK3.size; have l31 : w.heap.size + 1 < w3.heap.size := Nat.lt_of_lt_of_le hlA1 hK3.size; clear m2; have m3 := Hid.mk' trivial) | (have hgo := m1; clear hgo; go_at_call 10; refine (H1.out _ hK1).mono ?_; rintro e w2 ⟨rfl, hk2⟩; have J2 : Kept w1 w2 none := hk2; have hK2 : Kept WA w2 none := hK1.tr hk2; have l20 : w.heap.size < w2.heap.size := Nat.lt_of_lt_of_le hlA0 hK2.size; have l21 : w.heap.size + 1 < w2.heap.size := Nat.lt_of_lt_of_le hlA1 hK2.size; clear m1; have m2 := Hid.mk' trivial) | (at_builtin; refine wpList_app8 (by rfl) _ _ _ (by rfl) (by rfl) (by rfl) HCP.out ?_))
  have HBA := Hid.mk' (BA4.kept ((hk5.tr hk6).tr hk7))
  have HBB := Hid.mk' (BB4.kept ((hk5.tr hk6).tr hk7))
  have HJ7 := Hid.mk' J7
  have HK7 := Hid.mk' hK7
  have HK5 := Hid.mk' (hk6.tr hk7)
  have HK4 := Hid.mk' ((hk5.tr hk6).tr hk7)
  have HSZ := Hid.mk' (show w1.heap.size ≤ w3.heap.size from J3.size)
  have a0_ : ∀ w', Kept w7 w' none → w'.cell? ⟨w2.heap.size, 0, none⟩ = some (.bool Y.up) := fun w' q => (HBA.out.kept q).c0
  have b0_ : ∀ w', Kept w7 w' none → w'.cell? ⟨w3.heap.size, 0, none⟩ = some (.bool Y.up) := fun w' q => (HBB.out.kept q).c0
  have z0_ : ∀ w', Kept w7 w' none → w'.cell? ⟨w.heap.size + 1, 0, none⟩ = some (.bool x.up) := fun w' q => (HXB.out.kept (HK7.out.tr q)).c0
  have a1_ : ∀ w', Kept w7 w' none → w'.cell? ⟨w2.heap.size, 1, none⟩ = some (.int .i64 Y.same) := fun w' q => (HBA.out.kept q).c1
  have b1_ : ∀ w', Kept w7 w' none → w'.cell? ⟨w3.heap.size, 1, none⟩ = some (.int .i64 Y.same) := fun w' q => (HBB.out.kept q).c1
  have z1_ : ∀ w', Kept w7 w' none → w'.cell? ⟨w.heap.size + 1, 1, none⟩ = some (.int .i64 x.same) := fun w' q => (HXB.out.kept (HK7.out.tr q)).c1
  have a2_ : ∀ w', Kept w7 w' none → w'.cell? ⟨w2.heap.size, 2, none⟩ = some (.int .u64 Y.turns) := fun w' q => (HBA.out.kept q).c2
  have b2_ : ∀ w', Kept w7 w' none → w'.cell? ⟨w3.heap.size, 2, none⟩ = some (.int .u64 Y.turns) := fun w' q => (HBB.out.kept q).c2
  have z2_ : ∀ w', Kept w7 w' none → w'.cell? ⟨w.heap.size + 1, 2, none⟩ = some (.int .u64 x.turns) := fun w' q => (HXB.out.kept (HK7.out.tr q)).c2
  have a3_ : ∀ w', Kept w7 w' none → w'.cell? ⟨w2.heap.size, 3, none⟩ = some (.bool Y.bad) := fun w' q => (HBA.out.kept q).c3
  have b3_ : ∀ w', Kept w7 w' none → w'.cell? ⟨w3.heap.size, 3, none⟩ = some (.bool Y.bad) := fun w' q => (HBB.out.kept q).c3
  have z3_ : ∀ w', Kept w7 w' none → w'.cell? ⟨w.heap.size + 1, 3, none⟩ = some (.bool x.bad) := fun w' q => (HXB.out.kept (HK7.out.tr q)).c3
  have a4_ : ∀ w', Kept w7 w' none → w'.cell? ⟨w2.heap.size, 4, none⟩ = some (.int .i64 Y.well) := fun w' q => (HBA.out.kept q).c4
  have b4_ : ∀ w', Kept w7 w' none → w'.cell? ⟨w3.heap.size, 4, none⟩ = some (.int .i64 Y.well) := fun w' q => (HBB.out.kept q).c4
  have z4_ : ∀ w', Kept w7 w' none → w'.cell? ⟨w.heap.size + 1, 4, none⟩ = some (.int .i64 x.well) := fun w' q => (HXB.out.kept (HK7.out.tr q)).c4
  have HSM : Hid (∀ w', Kept w7 w' none → Calls Tryd.prog 20 #[.slice ac (allM S L U).length cc, .slice ad (allM S L U).length cd] w' fun e w'' => e = .returned (.bool true) ∧ Kept w' w'' none) := fun w' q => rsame_yes13 (HLc.out.kept (HK4.out.tr q)) (HLd.out.kept (HK5.out.tr q)) (by have := HN1.out; omega)
  have hnn : (allM S L U).length ≤ n := HN1.out
  have hccr : (allM S L U).length ≤ cc := HCc.out.room
  have hccm : cc ≤ 9223372036854775807 := HCc.out.max
  clear BA3 BA4 BB4 s0_ s1_ s2_ s3_ s4_ s5_ s6_ s7_ s8_ s9_ s10_ s11_ x0_ x1_ x2_ x3_ x4_ m7
  refine wp_region_held_drew (S := fun w' => Kept w7 w' none) (by kernel_rfl) (Kept.drew _ _) (fun hHeld => ?_)
  refine held_take (i := 0) (v := ?v1) rfl rfl (by kernel_rfl) (by kernel_rfl) (by kernel_rfl) (fun _ _ _ h => h) (Or.inl ⟨by rfl, ?hy1⟩) hHeld ?rest1
  case hy1 => first | (intro w hSw; (try dsimp only at hSw); go_simp; done) | (intro w hSw; (try dsimp only at hSw); go_simp; with_reducible rfl)
  try simp only [List.setIfInBounds_toArray, List.set_cons_zero, List.set_cons_succ]
  refine held_take (i := 1) (v := ?v2) rfl rfl (by kernel_rfl) (by kernel_rfl) (by kernel_rfl) (fun _ _ _ h => h) (Or.inl ⟨by rfl, ?hy2⟩) hHeld ?rest2
  case hy2 => first | (intro w hSw; (try dsimp only at hSw); go_simp; done) | (intro w hSw; (try dsimp only at hSw); go_simp; with_reducible rfl)
  try simp only [List.setIfInBounds_toArray, List.set_cons_zero, List.set_cons_succ]
  refine held_take (i := 2) (v := ?v3) rfl rfl (by kernel_rfl) (by kernel_rfl) (by kernel_rfl) (fun _ _ _ h => h) (Or.inl ⟨by rfl, ?hy3⟩) hHeld ?rest3
  case hy3 => first | (intro w hSw; (try dsimp only at hSw); go_simp; done) | (intro w hSw; (try dsimp only at hSw); go_simp; with_reducible rfl)
  try simp only [List.setIfInBounds_toArray, List.set_cons_zero, List.set_cons_succ]
  refine held_take (i := 3) (v := ?v4) rfl rfl (by kernel_rfl) (by kernel_rfl) (by kernel_rfl) (fun _ _ _ h => h) (Or.inl ⟨by rfl, ?hy4⟩) hHeld ?rest4
  case hy4 => first | (intro w hSw; (try dsimp only at hSw); go_simp; done) | (intro w hSw; (try dsimp only at hSw); go_simp; with_reducible rfl)
  try simp only [List.setIfInBounds_toArray, List.set_cons_zero, List.set_cons_succ]
  refine held_take (i := 4) (v := ?v5) rfl rfl (by kernel_rfl) (by kernel_rfl) (by kernel_rfl) (fun _ _ _ h => h) (Or.inl ⟨by rfl, ?hy5⟩) hHeld ?rest5
  case hy5 => first | (intro w hSw; (try dsimp only at hSw); go_simp; done) | (intro w hSw; (try dsimp only at hSw); go_simp; with_reducible rfl)
  try simp only [List.setIfInBounds_toArray, List.set_cons_zero, List.set_cons_succ]
  refine held_take (i := 5) (v := ?v6) rfl rfl (by kernel_rfl) (by kernel_rfl) (by kernel_rfl) (fun _ _ _ h => h) (Or.inl ⟨by rfl, ?hy6⟩) hHeld ?rest6
  case hy6 => first | (intro w hSw; (try dsimp only at hSw); go_simp; done) | (intro w hSw; (try dsimp only at hSw); go_simp; with_reducible rfl)
  try simp only [List.setIfInBounds_toArray, List.set_cons_zero, List.set_cons_succ]
  refine held_take (i := 6) (v := ?v7) rfl rfl (by kernel_rfl) (by kernel_rfl) (by kernel_rfl) (fun _ _ _ h => h) (Or.inl ⟨by rfl, ?hy7⟩) hHeld ?rest7
  case hy7 => first | (intro w hSw; (try dsimp only at hSw); go_simp; done) | (intro w hSw; (try dsimp only at hSw); go_simp; with_reducible rfl)
  try simp only [List.setIfInBounds_toArray, List.set_cons_zero, List.set_cons_succ]
  refine held_take (i := 7) (v := ?v8) rfl rfl (by kernel_rfl) (by kernel_rfl) (by kernel_rfl) (fun _ _ _ h => h) (Or.inl ⟨by rfl, ?hy8⟩) hHeld ?rest8
  case hy8 => first | (intro w hSw; (try dsimp only at hSw); go_simp; done) | (intro w hSw; (try dsimp only at hSw); go_simp; with_reducible rfl)
  try simp only [List.setIfInBounds_toArray, List.set_cons_zero, List.set_cons_succ]
  refine held_take (i := 8) (v := ?v9) rfl rfl (by kernel_rfl) (by kernel_rfl) (by kernel_rfl) (fun _ _ _ h => h) (Or.inl ⟨by rfl, ?hy9⟩) hHeld ?rest9
  case hy9 => first | (intro w hSw; (try dsimp only at hSw); go_simp; done) | (intro w hSw; (try dsimp only at hSw); go_simp; with_reducible rfl)
  try simp only [List.setIfInBounds_toArray, List.set_cons_zero, List.set_cons_succ]
  refine held_take (i := 9) (v := ?v10) rfl rfl (by kernel_rfl) (by kernel_rfl) (by kernel_rfl) (fun _ _ _ h => h) (Or.inl ⟨by rfl, ?hy10⟩) hHeld ?rest10
  case hy10 => first | (intro w hSw; (try dsimp only at hSw); go_simp; done) | (intro w hSw; (try dsimp only at hSw); go_simp; with_reducible rfl)
  try simp only [List.setIfInBounds_toArray, List.set_cons_zero, List.set_cons_succ]
  refine held_take (i := 10) (v := ?v11) rfl rfl (by kernel_rfl) (by kernel_rfl) (by kernel_rfl) (fun _ _ _ h => h) (Or.inl ⟨by rfl, ?hy11⟩) hHeld ?rest11
  case hy11 => first | (intro w hSw; (try dsimp only at hSw); go_simp; done) | (intro w hSw; (try dsimp only at hSw); go_simp; with_reducible rfl)
  try simp only [List.setIfInBounds_toArray, List.set_cons_zero, List.set_cons_succ]
  refine wpAnyH_ready (rs := [11]) (by kernel_rfl) (by simp) ?_
  refine AllReadyH.cons rfl (fun K hK => ?_) AllReadyH.nil
  go_simp
  go_wp2_with (go_at_call 20; refine (HSM.out _ hHeld).mono ?_; rintro e u1 ⟨rfl, hu1⟩)
  have hU1 : Kept w7 u1 none := hHeld.tr hu1
  refine hK.out _ _ hU1 (fun hHeld => ?_)
  clear hK K
  refine held_take (i := 12) (v := ?v12) rfl rfl (by kernel_rfl) (by kernel_rfl) (by kernel_rfl) (fun _ _ _ h => h) (Or.inl ⟨by rfl, ?hy12⟩) hHeld ?rest12
  case hy12 => first | (intro w hSw; (try dsimp only at hSw); go_simp; done) | (intro w hSw; (try dsimp only at hSw); go_simp; with_reducible rfl)
  try simp only [List.setIfInBounds_toArray, List.set_cons_zero, List.set_cons_succ]
  refine held_take (i := 13) (v := ?v13) rfl rfl (by kernel_rfl) (by kernel_rfl) (by kernel_rfl) (fun _ _ _ h => h) (Or.inl ⟨by rfl, ?hy13⟩) hHeld ?rest13
  case hy13 => first | (intro w hSw; (try dsimp only at hSw); go_simp; done) | (intro w hSw; (try dsimp only at hSw); go_simp; with_reducible rfl)
  try simp only [List.setIfInBounds_toArray, List.set_cons_zero, List.set_cons_succ]
  refine held_take (i := 14) (v := ?v14) rfl rfl (by kernel_rfl) (by kernel_rfl) (by kernel_rfl) (fun _ _ _ h => h) (Or.inl ⟨by rfl, ?hy14⟩) hHeld ?rest14
  case hy14 => first | (intro w hSw; (try dsimp only at hSw); go_simp; done) | (intro w hSw; (try dsimp only at hSw); go_simp; with_reducible rfl)
  try simp only [List.setIfInBounds_toArray, List.set_cons_zero, List.set_cons_succ]
  refine held_take (i := 15) (v := ?v15) rfl rfl (by kernel_rfl) (by kernel_rfl) (by kernel_rfl) (fun _ _ _ h => h) (Or.inl ⟨by rfl, ?hy15⟩) hHeld ?rest15
  case hy15 => first | (intro w hSw; (try dsimp only at hSw); go_simp; done) | (intro w hSw; (try dsimp only at hSw); go_simp; with_reducible rfl)
  try simp only [List.setIfInBounds_toArray, List.set_cons_zero, List.set_cons_succ]
  refine held_take (i := 16) (v := ?v16) rfl rfl (by kernel_rfl) (by kernel_rfl) (by kernel_rfl) (fun _ _ _ h => h) (Or.inl ⟨by rfl, ?hy16⟩) hHeld ?rest16
  case hy16 => first | (intro w hSw; (try dsimp only at hSw); go_simp; done) | (intro w hSw; (try dsimp only at hSw); go_simp; with_reducible rfl)
  try simp only [List.setIfInBounds_toArray, List.set_cons_zero, List.set_cons_succ]
  refine held_take (i := 17) (v := ?v17) rfl rfl (by kernel_rfl) (by kernel_rfl) (by kernel_rfl) (fun _ _ _ h => h) (Or.inl ⟨by rfl, ?hy17⟩) hHeld ?rest17
  case hy17 => first | (intro w hSw; (try dsimp only at hSw); go_simp; done) | (intro w hSw; (try dsimp only at hSw); go_simp; with_reducible rfl)
  try simp only [List.setIfInBounds_toArray, List.set_cons_zero, List.set_cons_succ]
  refine held_take (i := 18) (v := ?v18) rfl rfl (by kernel_rfl) (by kernel_rfl) (by kernel_rfl) (fun _ _ _ h => h) (Or.inl ⟨by rfl, ?hy18⟩) hHeld ?rest18
  case hy18 => first | (intro w hSw; (try dsimp only at hSw); go_simp; done) | (intro w hSw; (try dsimp only at hSw); go_simp; with_reducible rfl)
  try simp only [List.setIfInBounds_toArray, List.set_cons_zero, List.set_cons_succ]
  refine held_take (i := 19) (v := ?v19) rfl rfl (by kernel_rfl) (by kernel_rfl) (by kernel_rfl) (fun _ _ _ h => h) (Or.inl ⟨by rfl, ?hy19⟩) hHeld ?rest19
  case hy19 => first | (intro w hSw; (try dsimp only at hSw); go_simp; done) | (intro w hSw; (try dsimp only at hSw); go_simp; with_reducible rfl)
  try simp only [List.setIfInBounds_toArray, List.set_cons_zero, List.set_cons_succ]
  refine held_take (i := 20) (v := ?v20) rfl rfl (by kernel_rfl) (by kernel_rfl) (by kernel_rfl) (fun _ _ _ h => h) (Or.inl ⟨by rfl, ?hy20⟩) hHeld ?rest20
  case hy20 => first | (intro w hSw; (try dsimp only at hSw); go_simp; done) | (intro w hSw; (try dsimp only at hSw); go_simp; with_reducible rfl)
  try simp only [List.setIfInBounds_toArray, List.set_cons_zero, List.set_cons_succ]
  refine held_take (i := 21) (v := ?v21) rfl rfl (by kernel_rfl) (by kernel_rfl) (by kernel_rfl) (fun _ _ _ h => h) (Or.inl ⟨by rfl, ?hy21⟩) hHeld ?rest21
  case hy21 => first | (intro w hSw; (try dsimp only at hSw); go_simp; done) | (intro w hSw; (try dsimp only at hSw); go_simp; with_reducible rfl)
  try simp only [List.setIfInBounds_toArray, List.set_cons_zero, List.set_cons_succ]
  refine held_take (i := 22) (v := ?v22) rfl rfl (by kernel_rfl) (by kernel_rfl) (by kernel_rfl) (fun _ _ _ h => h) (Or.inl ⟨by rfl, ?hy22⟩) hHeld ?rest22
  case hy22 => first | (intro w hSw; (try dsimp only at hSw); go_simp; done) | (intro w hSw; (try dsimp only at hSw); go_simp; with_reducible rfl)
  try simp only [List.setIfInBounds_toArray, List.set_cons_zero, List.set_cons_succ]
  refine held_take (i := 23) (v := ?v23) rfl rfl (by kernel_rfl) (by kernel_rfl) (by kernel_rfl) (fun _ _ _ h => h) (Or.inl ⟨by rfl, ?hy23⟩) hHeld ?rest23
  case hy23 => first | (intro w hSw; (try dsimp only at hSw); go_simp; done) | (intro w hSw; (try dsimp only at hSw); go_simp; with_reducible rfl)
  try simp only [List.setIfInBounds_toArray, List.set_cons_zero, List.set_cons_succ]
  refine held_take (i := 24) (v := ?v24) rfl rfl (by kernel_rfl) (by kernel_rfl) (by kernel_rfl) (fun _ _ _ h => h) (Or.inl ⟨by rfl, ?hy24⟩) hHeld ?rest24
  case hy24 => first | (intro w hSw; (try dsimp only at hSw); go_simp; done) | (intro w hSw; (try dsimp only at hSw); go_simp; with_reducible rfl)
  try simp only [List.setIfInBounds_toArray, List.set_cons_zero, List.set_cons_succ]
  refine held_take (i := 25) (v := ?v25) rfl rfl (by kernel_rfl) (by kernel_rfl) (by kernel_rfl) (fun _ _ _ h => h) (Or.inl ⟨by rfl, ?hy25⟩) hHeld ?rest25
  case hy25 => first | (intro w hSw; (try dsimp only at hSw); go_simp; done) | (intro w hSw; (try dsimp only at hSw); go_simp; with_reducible rfl)
  try simp only [List.setIfInBounds_toArray, List.set_cons_zero, List.set_cons_succ]
  refine held_take (i := 26) (v := ?v26) rfl rfl (by kernel_rfl) (by kernel_rfl) (by kernel_rfl) (fun _ _ _ h => h) (Or.inl ⟨by rfl, ?hy26⟩) hHeld ?rest26
  case hy26 => first | (intro w hSw; (try dsimp only at hSw); go_simp; done) | (intro w hSw; (try dsimp only at hSw); go_simp; with_reducible rfl)
  try simp only [List.setIfInBounds_toArray, List.set_cons_zero, List.set_cons_succ]
  refine held_take (i := 27) (v := ?v27) rfl rfl (by kernel_rfl) (by kernel_rfl) (by kernel_rfl) (fun _ _ _ h => h) (Or.inl ⟨by rfl, ?hy27⟩) hHeld ?rest27
  case hy27 => first | (intro w hSw; (try dsimp only at hSw); go_simp; done) | (intro w hSw; (try dsimp only at hSw); go_simp; with_reducible rfl)
  try simp only [List.setIfInBounds_toArray, List.set_cons_zero, List.set_cons_succ]
  refine held_take (i := 28) (v := ?v28) rfl rfl (by kernel_rfl) (by kernel_rfl) (by kernel_rfl) (fun _ _ _ h => h) (Or.inl ⟨by rfl, ?hy28⟩) hHeld ?rest28
  case hy28 => first | (intro w hSw; (try dsimp only at hSw); go_simp; done) | (intro w hSw; (try dsimp only at hSw); go_simp; with_reducible rfl)
  try simp only [List.setIfInBounds_toArray, List.set_cons_zero, List.set_cons_succ]
  refine held_take (i := 29) (v := ?v29) rfl rfl (by kernel_rfl) (by kernel_rfl) (by kernel_rfl) (fun _ _ _ h => h) (Or.inl ⟨by rfl, ?hy29⟩) hHeld ?rest29
  case hy29 => first | (intro w hSw; (try dsimp only at hSw); go_simp; done) | (intro w hSw; (try dsimp only at hSw); go_simp; with_reducible rfl)
  try simp only [List.setIfInBounds_toArray, List.set_cons_zero, List.set_cons_succ]
  refine held_take (i := 30) (v := ?v30) rfl rfl (by kernel_rfl) (by kernel_rfl) (by kernel_rfl) (fun _ _ _ h => h) (Or.inl ⟨by rfl, ?hy30⟩) hHeld ?rest30
  case hy30 => first | (intro w hSw; (try dsimp only at hSw); go_simp; done) | (intro w hSw; (try dsimp only at hSw); go_simp; with_reducible rfl)
  try simp only [List.setIfInBounds_toArray, List.set_cons_zero, List.set_cons_succ]
  refine held_take (i := 32) (v := ?v31) rfl rfl (by kernel_rfl) (by kernel_rfl) (by kernel_rfl) (fun _ _ _ h => h) (Or.inl ⟨by rfl, ?hy31⟩) hHeld ?rest31
  case hy31 => first | (intro w hSw; (try dsimp only at hSw); go_simp; done) | (intro w hSw; (try dsimp only at hSw); go_simp; with_reducible rfl)
  try simp only [List.setIfInBounds_toArray, List.set_cons_zero, List.set_cons_succ]
  refine held_take (i := 33) (v := ?v32) rfl rfl (by kernel_rfl) (by kernel_rfl) (by kernel_rfl) (fun _ _ _ h => h) (Or.inl ⟨by rfl, ?hy32⟩) hHeld ?rest32
  case hy32 => first | (intro w hSw; (try dsimp only at hSw); go_simp; done) | (intro w hSw; (try dsimp only at hSw); go_simp; with_reducible rfl)
  try simp only [List.setIfInBounds_toArray, List.set_cons_zero, List.set_cons_succ]
  refine wpAnyH_ready (rs := [31]) (by kernel_rfl) (by simp) ?_
  refine AllReadyH.cons rfl (fun K hK => ?_) AllReadyH.nil
  go_simp
  go_wp2_with (go_at_call 15; refine (believed_any x _).mono ?_; rintro e u2 ⟨rfl, hu2⟩)
  have hU2 : Kept w7 u2 none := hU1.tr hu2
  refine hK.out _ _ hU2 (fun hHeld => ?_)
  clear hK K
  have hbn : ((!x.bad) == x.bad) = false := by cases x.bad <;> rfl
  refine held_take (i := 34) (v := ?v33) rfl rfl (by kernel_rfl) (by kernel_rfl) (by kernel_rfl) (fun _ _ _ h => h) (Or.inl ⟨by rfl, ?hy33⟩) hHeld ?rest33
  case hy33 => first | (intro w hSw; (try dsimp only at hSw); go_simp; done) | (intro w hSw; (try dsimp only at hSw); go_simp; with_reducible rfl)
  try simp only [List.setIfInBounds_toArray, List.set_cons_zero, List.set_cons_succ]
  refine held_take (i := 35) (v := ?v34) rfl rfl (by kernel_rfl) (by kernel_rfl) (by kernel_rfl) (fun _ _ _ h => h) (Or.inl ⟨by rfl, ?hy34⟩) hHeld ?rest34
  case hy34 => first | (intro w hSw; (try dsimp only at hSw); go_simp; done) | (intro w hSw; (try dsimp only at hSw); go_simp; with_reducible rfl)
  try simp only [List.setIfInBounds_toArray, List.set_cons_zero, List.set_cons_succ]
  refine held_take (i := 36) (v := ?v35) rfl rfl (by kernel_rfl) (by kernel_rfl) (by kernel_rfl) (fun _ _ _ h => h) (Or.inl ⟨by rfl, ?hy35⟩) hHeld ?rest35
  case hy35 => first | (intro w hSw; (try dsimp only at hSw); go_simp; done) | (intro w hSw; (try dsimp only at hSw); go_simp; with_reducible rfl)
  try simp only [List.setIfInBounds_toArray, List.set_cons_zero, List.set_cons_succ]
  refine held_take (i := 37) (v := ?v36) rfl rfl (by kernel_rfl) (by kernel_rfl) (by kernel_rfl) (fun _ _ _ h => h) (Or.inl ⟨by rfl, ?hy36⟩) hHeld ?rest36
  case hy36 => first | (intro w hSw; (try dsimp only at hSw); go_simp; done) | (intro w hSw; (try dsimp only at hSw); go_simp; with_reducible rfl)
  try simp only [List.setIfInBounds_toArray, List.set_cons_zero, List.set_cons_succ]
  refine held_take (i := 39) (v := ?v37) rfl rfl (by kernel_rfl) (by kernel_rfl) (by kernel_rfl) (fun _ _ _ h => h) (Or.inl ⟨by rfl, ?hy37⟩) hHeld ?rest37
  case hy37 => first | (intro w hSw; (try dsimp only at hSw); go_simp; done) | (intro w hSw; (try dsimp only at hSw); go_simp; with_reducible rfl)
  try simp only [List.setIfInBounds_toArray, List.set_cons_zero, List.set_cons_succ]
  refine wpAnyH_ready (rs := [38]) (by kernel_rfl) (by simp) ?_
  refine AllReadyH.cons rfl (fun K hK => ?_) AllReadyH.nil
  go_simp
  go_wp2_with (go_at_call 14; refine (wants_any x _).mono ?_; rintro e u3 ⟨rfl, hu3⟩)
  have hU3 : Kept w7 u3 none := hU2.tr hu3
  refine hK.out _ _ hU3 (fun hHeld => ?_)
  clear hK K
  refine wpAnyH_ready (rs := [40]) (by kernel_rfl) (by simp) ?_
  refine AllReadyH.cons rfl (fun K hK => ?_) AllReadyH.nil
  go_simp
  go_wp2_with (go_at_call 21; refine (rwants_any x _).mono ?_; rintro e u4 ⟨rfl, hu4⟩)
  have hU4 : Kept w7 u4 none := hU3.tr hu4
  refine hK.out _ _ hU4 (fun hHeld => ?_)
  clear hK K
  refine held_take (i := 41) (v := ?v38) rfl rfl (by kernel_rfl) (by kernel_rfl) (by kernel_rfl) (fun _ _ _ h => h) (Or.inl ⟨by rfl, ?hy38⟩) hHeld ?rest38
  case hy38 => first | (intro w hSw; (try dsimp only at hSw); go_simp; done) | (intro w hSw; (try dsimp only at hSw); go_simp; with_reducible rfl)
  try simp only [List.setIfInBounds_toArray, List.set_cons_zero, List.set_cons_succ]
  refine held_take (i := 42) (v := ?v39) rfl rfl (by kernel_rfl) (by kernel_rfl) (by kernel_rfl) (fun _ _ _ h => h) (Or.inl ⟨by rfl, ?hy39⟩) hHeld ?rest39
  case hy39 => first | (intro w hSw; (try dsimp only at hSw); go_simp; done) | (intro w hSw; (try dsimp only at hSw); go_simp; with_reducible rfl)
  try simp only [List.setIfInBounds_toArray, List.set_cons_zero, List.set_cons_succ]
  refine wpAnyH_done (by kernel_rfl) ?_ _
  have HU4 := Hid.mk' hU4
  have HJU := Hid.mk' (HJ7.out.tr hU4)
  have HKU := Hid.mk' (HKw.out.tr (HK7.out.tr hU4))
  have HNU := Hid.mk' (Ow8.keptR HN.out (HK4.out.tr hU4) (fun g e => (nomatch e)))
  clear hU1 hU2 hU3 hU4 HSM
  clear a0_ a1_ a2_ a3_ a4_ b0_ b1_ b2_ b3_ b4_ z0_ z1_ z2_ z3_ z4_
  by_cases hz : 0 < (allM S L U).length
  · obtain ⟨g, f0, hga, hgb, hgc, hrow0⟩ := LkS.row HNU.out hz
    subst hga
    have HR0 := Hid.mk' hrow0
    have HGB := Hid.mk' hgb
    have hu0 := Kept.refl u4 (some g)
    clear hrow0
    generalize (allM S L U).length = nc at *
    go_wp2
    go_loopw [25] (fun zv wr => ∃ (z : Nat) (f : Nat → Value), zv = .int .i64 z ∧ z ≤ nc ∧ wr.rowIs g 33 (cc * 5) f ∧ Kept u4 wr (some g)) (fun zv _ => nc - (intOf zv).toNat)
    case atStart => exact ⟨0, f0, rfl, by omega, HR0.out, hu0⟩
    case round =>
      obtain ⟨z, f, rfl, hzn, hrow, hkr⟩ := hrel
      have HRW := Hid.mk' hrow
      have HKR := Hid.mk' hkr
      by_cases hzl : z < nc
      · have v0 := hrow.cell (i := z * 5) (by omega)
        have v1 := hrow.cell (i := z * 5 + 1) (by omega)
        have v2 := hrow.cell (i := z * 5 + 2) (by omega)
        have v3 := hrow.cell (i := z * 5 + 3) (by omega)
        have v4 := hrow.cell (i := z * 5 + 4) (by omega)
        have y0 := hrow.frozen (z * 5)
        have y1 := hrow.frozen (z * 5 + 1)
        have y2 := hrow.frozen (z * 5 + 2)
        have y3 := hrow.frozen (z * 5 + 3)
        have y4 := hrow.frozen (z * 5 + 4)
        have hzc : z < cc := by omega
        clear hrow hkr
        go_wp2
        go_roundw
        case rel => exact ⟨z + 1, _, by go_num, by omega, ((((HRW.out.set _ _).set _ _).set _ _).set _ _).set _ _, kept_own (kept_own (kept_own (kept_own (kept_own HKR.out _ _) _ _) _ _) _ _) _ _⟩
        case measure => simp [intOf]; omega
      · have HSM2 : Hid (∀ w', Kept wr w' none → Calls Tryd.prog 20 #[.slice a1 n c1, .slice a n c] w' fun e w'' => e = .returned (.bool true) ∧ Kept w' w'' none) := fun w' q => rsame_yes13 (((HL1.out.kept HJU.out).keptB HKR.out (fun b e h0 => by have := (HN2.out b e).2; have := HGB.out; have := HSZ.out; omega)).kept q) (((HAw.out.kept HKU.out).keptB HKR.out (fun b e h0 => by
          obtain ⟨b', o', e', hb', _⟩ := HAw.out.lie.at_ h0
          rw [e] at e'
          injection e' with e'
          subst e'
          have h1 : b' < w.heap.size := hb'
          have := HGB.out
          show b' ≠ g
          omega)).kept q) (by omega)
        have hkw0 := Kept.refl wr none
        have hzl2 : ¬ (z : Int) < (nc : Int) := by omega
        have HKF : Hid (Kept w wr none) := HKU.out.newRow HKR.out (fun q e => by injection e with e; have := HGB.out; omega)
        clear hrow hkr
        go_wp2_with (go_at_call 20; refine (HSM2.out _ hkw0).mono ?_; rintro e w9 ⟨rfl, hk9⟩)
        go_ret
        exact ⟨rfl, (HKF.out.tr hk9).below⟩
  · have hz0 : (allM S L U).length = 0 := by omega
    rw [hz0]
    have HSM2 : Hid (∀ w', Kept u4 w' none → Calls Tryd.prog 20 #[.slice a1 n c1, .slice a n c] w' fun e w'' => e = .returned (.bool true) ∧ Kept w' w'' none) := fun w' q => rsame_yes13 ((HL1.out.kept HJU.out).kept q) ((HAw.out.kept HKU.out).kept q) (by omega)
    have hkw0 := Kept.refl u4 none
    go_wp2
    go_loopw [25] (fun zv wr => zv = .int .i64 0 ∧ Kept u4 wr none) (fun _ _ => 0)
    case atStart => exact ⟨rfl, hkw0⟩
    case round =>
      obtain ⟨rfl, hkr⟩ := hrel
      go_wp2_with (go_at_call 20; refine (HSM2.out _ hkr).mono ?_; rintro e w9 ⟨rfl, hk9⟩)
      go_ret
      exact ⟨rfl, ((HKU.out.tr hkr).tr hk9).below⟩
theorem etic_any {X : Sa} {S : St} {w : World} (h : Sat w X S) (hT : Tabb w) (i : Int) (x : Lk) (hx : Typ x) {a : Option Addr} {n c : Nat} {L : List Lk} (hA : Lks w a n L) (hc : Cap a n c) (U : Nat) (hU : U < 4294967296) : Calls Tryd.prog 4 #[siteV X S, .int .i64 i, lkV x, .slice a n c, .int .u32 (U : Int)] w fun e w' => e = .returned (.bool true) ∧ Below w.heap.size w w' := by
  by_cases hl : 60 < n
  · exact etic_long h hT i x hx hA hc U hU hl
  · exact etic_go h hT i x hx hA hc U hU (by omega) _ rfl

end Go.Proofs.YtommijjacknkpaaDoor

