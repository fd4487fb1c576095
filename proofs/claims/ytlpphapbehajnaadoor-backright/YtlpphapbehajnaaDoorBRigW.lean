/-
  THE WALK of BackRight (made by a program).
-/
import Derived.Test.YtlpphapbehajnaaDoorTwoB
import Derived.Test.YtlpphapbehajnaaDoorRefG
import Derived.Test.YtlpphapbehajnaaDoorJoin
namespace Go.Proofs.YtlpphapbehajnaaDoor
open Go.RowKit Go.Lib Go.Deep
set_option linter.unusedVariables false
set_option linter.unusedSimpArgs false

theorem wpList_join10 {ops : Array Oper} {rest : List Oper} {o : Oper} {act : Act} {Q : Exit → Act → World → Prop} {w : World} (hgd : o.guard = none) (s x : Operand)
    (ho : o.op = .call { callee := .builtin .append, args := #[s, x], argTypes := #[34, 34] })
    (base : Nat) (hs : act.eval s = .slice none 0 0) (a : Option Addr) (m c : Nat) (M : List Nat) (hx : act.eval x = .slice a m c) (hB : By w a m M) (ha : a = none → c = 0)
    (hm : m ≤ 70368744177664) (hbase : base ≤ w.heap.size)
    (h : ∀ a' cap w', Mine w' base a' m cap M → Kept w w' none → wpList Tryd.prog ops Q rest (act.put o.dst (.slice a' m cap)) w') : wpList Tryd.prog ops Q (o :: rest) act w := by
  refine wpList_join hgd s x ho base (.slice none 0 0) 0 [] hs (World.ownsRow_nil _ _ _ _) a m c M hx hB ha (by omega) hbase ?_
  intro a' cap w' h1 h2
  rw [Nat.zero_add] at h1 ⊢
  exact h a' cap w' h1 h2
theorem Mine.row {w : World} {base g n cap : Nat} {L : List Nat} (h : Mine w base (some ⟨g, 0, none⟩) n cap L) : n ≤ cap ∧ ∃ f : Nat → Value, w.rowIs g 5 cap (fun j => if j < n then .int .u8 ((L.getD j 0 : Nat) : Int) else f j) := by
  have hl : L.length = n := by have := h.own.1; simpa using this
  obtain ⟨_, ⟨e, _⟩ | ⟨g', cap', cur, e, hb, hh, hle, hmx, hsz, htk⟩⟩ := h.own
  · cases e
  · injection e with e1 e2 e3
    subst e3
    injection e1 with e1
    injection e1 with e1 _
    subst e1
    refine ⟨hle, fun j => (cur[j]?).getD (.bool false), cur, hh, by omega, fun i hi => ?_⟩
    show cur[i]? = some (if i < n then _ else _)
    by_cases hin : i < n
    · rw [if_pos hin]
      have : (cur.toList.take (n * 1))[i]? = (L.map byteV)[i]? := by rw [htk]
      rw [List.getElem?_take_of_lt (by omega)] at this
      have hiL : i < L.length := by omega
      simp [hiL] at this
      simp [this, hiL]
    · rw [if_neg hin]
      have : i < cur.size := by omega
      simp [this]

theorem mine_store {w : World} {base : Nat} {a : Option Addr} {n cap : Nat} {L : List Nat} (h : Mine w base a n cap L) (hL : ∀ x ∈ L, x < 256) {j o : Nat} (hj : j < n) (ho : o < 256) : ∃ g, a = some ⟨g, 0, none⟩ ∧ base ≤ g ∧ n ≤ cap ∧ cap ≤ 9223372036854775807 ∧ (∃ v, w.cell? ⟨g, j, none⟩ = some (.int .u8 v)) ∧ w.frozen? ⟨g, j, none⟩ = false ∧ By (w.setCell ⟨g, j, none⟩ (.int .u8 (o : Int))) (some ⟨g, 0, none⟩) n (L.set j o) := by
  obtain ⟨g, hg⟩ : ∃ g, a = some ⟨g, 0, none⟩ := by
    rcases id h.own.2 with ⟨e, e2⟩ | ⟨g, cap', cur, e, _⟩
    · omega
    · injection e with e1 e2 e3
      exact ⟨g, e1⟩
  subst hg
  have hl : L.length = n := by have := h.own.1; simpa using this
  obtain ⟨hle, f, hrow⟩ := h.row
  have y0 := hrow.cell (i := j) (by omega)
  simp only [if_pos hj] at y0
  have hm := h.max
  refine ⟨g, rfl, h.new g rfl, hle, hm, ⟨_, y0⟩, hrow.frozen j, By.row (hrow.set j (.int .u8 (o : Int))) _ n hle (by simpa using hl) (by omega) ?_ ?_⟩
  · intro x hx
    rcases List.mem_or_eq_of_mem_set hx with hx | hx
    · exact hL x hx
    · omega
  · intro i hi
    by_cases e : i = j
    · subst e; simp [hl, hi]
    · have : (L.set j o).getD i 0 = L.getD i 0 := by rw [List.getD_eq_getElem?_getD, List.getElem?_set_ne (fun h => e h.symm), ← List.getD_eq_getElem?_getD]
      rw [this]
      simp only [if_neg e, if_pos hi]
theorem bothE_self (g : Nat) (L : List Nat) : bothE g L L = litE g L := by unfold bothE; split <;> rfl
theorem bothE_nil (g : Nat) (L : List Nat) : bothE g L [] = litE g L := by unfold bothE; rw [if_pos (.inr rfl)]
theorem difB_nil (L : List Nat) : difB L [] = false := difB_no (fun i hi => absurd hi (Nat.not_lt_zero i))
theorem set_at10 {L : List Nat} {j o i : Nat} (hj : j < L.length) : at10 (L.set j o) i = if i = j then o else at10 L i := by
  unfold at10
  by_cases e : i = j
  · subst e; simp [hj]
  · rw [if_neg e, List.getD_eq_getElem?_getD, List.getElem?_set_ne (fun h => e h.symm), ← List.getD_eq_getElem?_getD]
theorem lit_set {g : Nat} {L : List Nat} {j o : Nat} (h : litE g L = 0) (hj : j < L.length) (ho : o ≤ 4) : litE g (L.set j o) = 0 := by
  obtain ⟨h1, h2⟩ := litE_zero h
  refine litE_ok (by simpa using h1) (litB_yes (fun i hi => ?_))
  rw [set_at10 hj]
  split
  · exact ho
  · have := allB_iff.1 h2 i (by simpa using hi)
    simpa using this
theorem both_set {g : Nat} {L : List Nat} {j o : Nat} (h : litE g L = 0) (hj : j < L.length) (ho : o ≤ 4) : bothE g L (L.set j o) = 0 := by
  unfold bothE
  rw [if_neg (by simp [h]; intro e; rw [e] at hj; simp at hj), lit_set h hj ho]
theorem dif_set {L : List Nat} {j o : Nat} (hj : j < L.length) (ho : o ≠ at10 L j) : difB L (L.set j o) = true :=
  difB_yes (i := j) (by simpa using hj) (by rw [set_at10 hj, if_pos rfl]; exact fun e => ho e.symm)
set_option maxRecDepth 100000 in
set_option maxHeartbeats 4000000 in
theorem brig_long {X : Sa} {S : St} {w : World} (h : Sat w X S) (hT : Tabb w) {a : Option Addr} {n c : Nat} {L : List Nat} (hA : Come w a n c L) (k p : Int) (o : Nat) (hl : 100 < n) : Calls Tryd.prog 5 #[siteV X S, .int .i64 k, .slice a n c, .int .i64 p, .int .u8 (o : Int)] w fun e w' => e = .returned (.bool true) ∧ Below w.heap.size w w' := by
  have hlb : decide ((100 : Int) < (n : Int)) = true := by simp; omega
  have hkA : Kept w (w.alloc (.cells #[.int .i64 S.id, .slice X.g S.groups.length X.gc, .slice X.a S.apart.length X.ac, .slice X.b S.between.length X.bc, .slice X.p S.phases.length X.pc, .slice X.e S.eyes.length X.ec, .int .i64 S.watch, .int .i64 S.feed, .int .i64 S.heal, .int .i64 S.low, .int .i64 S.high, .slice X.l S.plans.length X.lc] 29)) none := Kept.alloc _ _ _ _ _
  have hsb := sbox_alloc h 29
  have HS := Hid.mk' (h.kept hkA)
  have HT := Hid.mk' (hT.kept hkA)
  obtain ⟨WA, hWA⟩ : ∃ WA, (w.alloc (.cells #[.int .i64 S.id, .slice X.g S.groups.length X.gc, .slice X.a S.apart.length X.ac, .slice X.b S.between.length X.bc, .slice X.p S.phases.length X.pc, .slice X.e S.eyes.length X.ec, .int .i64 S.watch, .int .i64 S.feed, .int .i64 S.heal, .int .i64 S.low, .int .i64 S.high, .slice X.l S.plans.length X.lc] 29)) = WA := ⟨_, rfl⟩
  rw [hWA] at hkA hsb HS HT
  have HK := Hid.mk' hkA
  have HA := Hid.mk' (hA.by_.kept hkA)
  have HAN := Hid.mk' hA.nil
  have hAm := hA.by_.max
  have HAL := Hid.mk' hA.by_.lt
  have HAS := Hid.mk' hA.by_.size
  clear hA
  have HSB := Hid.mk' hsb
  have s0_ : ∀ w', Kept WA w' none → w'.cell? ⟨w.heap.size, 0, none⟩ = some (.int .i64 S.id) := fun w' q => (HSB.out.kept q).c0
  have s1_ : ∀ w', Kept WA w' none → w'.cell? ⟨w.heap.size, 1, none⟩ = some (.slice X.g S.groups.length X.gc) := fun w' q => (HSB.out.kept q).c1
  have s2_ : ∀ w', Kept WA w' none → w'.cell? ⟨w.heap.size, 2, none⟩ = some (.slice X.a S.apart.length X.ac) := fun w' q => (HSB.out.kept q).c2
  have s3_ : ∀ w', Kept WA w' none → w'.cell? ⟨w.heap.size, 3, none⟩ = some (.slice X.b S.between.length X.bc) := fun w' q => (HSB.out.kept q).c3
  have s4_ : ∀ w', Kept WA w' none → w'.cell? ⟨w.heap.size, 4, none⟩ = some (.slice X.p S.phases.length X.pc) := fun w' q => (HSB.out.kept q).c4
  have s5_ : ∀ w', Kept WA w' none → w'.cell? ⟨w.heap.size, 5, none⟩ = some (.slice X.e S.eyes.length X.ec) := fun w' q => (HSB.out.kept q).c5
  have s6_ : ∀ w', Kept WA w' none → w'.cell? ⟨w.heap.size, 6, none⟩ = some (.int .i64 S.watch) := fun w' q => (HSB.out.kept q).c6
  have s7_ : ∀ w', Kept WA w' none → w'.cell? ⟨w.heap.size, 7, none⟩ = some (.int .i64 S.feed) := fun w' q => (HSB.out.kept q).c7
  have s8_ : ∀ w', Kept WA w' none → w'.cell? ⟨w.heap.size, 8, none⟩ = some (.int .i64 S.heal) := fun w' q => (HSB.out.kept q).c8
  have s9_ : ∀ w', Kept WA w' none → w'.cell? ⟨w.heap.size, 9, none⟩ = some (.int .i64 S.low) := fun w' q => (HSB.out.kept q).c9
  have s10_ : ∀ w', Kept WA w' none → w'.cell? ⟨w.heap.size, 10, none⟩ = some (.int .i64 S.high) := fun w' q => (HSB.out.kept q).c10
  have s11_ : ∀ w', Kept WA w' none → w'.cell? ⟨w.heap.size, 11, none⟩ = some (.slice X.l S.plans.length X.lc) := fun w' q => (HSB.out.kept q).c11
  have hK0 := Kept.refl WA none
  clear h hT hkA hsb
  go_enter Tryd.func5, Tryd.ntmps5
  go_wp2_with (first | rw [hWA] | (go_at_call 11; refine (balive_any HT.out).mono ?_; rintro e wa ⟨rfl, hka⟩; have hKa : Kept WA wa none := hka))
  go_at_call 12
  refine (rgreat_any (HS.out.kept hKa)).mono ?_
  rintro e wg ⟨gr, rfl, hgr, hkg⟩
  have hKg : Kept WA wg none := hKa.tr hkg
  clear hgr
  cases gr with
  | true =>
    go_wp2
    go_ret
    exact ⟨rfl, (HK.out.tr hKg).below⟩
  | false =>
    go_wp2
    go_ret
    exact ⟨rfl, (HK.out.tr hKg).below⟩
set_option maxRecDepth 100000 in
set_option maxHeartbeats 4000000 in
theorem brig_site {X : Sa} {S : St} {w : World} (h : Sat w X S) (hT : Tabb w) {a : Option Addr} {n c : Nat} {L : List Nat} (hA : Come w a n c L) (k p : Int) (o : Nat) (hl : n ≤ 100) (hs : siteB S = false) : Calls Tryd.prog 5 #[siteV X S, .int .i64 k, .slice a n c, .int .i64 p, .int .u8 (o : Int)] w fun e w' => e = .returned (.bool true) ∧ Below w.heap.size w w' := by
  have hlb : decide ((100 : Int) < (n : Int)) = false := by simp; omega
  have hce : checkE S = 50 := by unfold checkE; rw [hs]; rfl
  have hkA : Kept w (w.alloc (.cells #[.int .i64 S.id, .slice X.g S.groups.length X.gc, .slice X.a S.apart.length X.ac, .slice X.b S.between.length X.bc, .slice X.p S.phases.length X.pc, .slice X.e S.eyes.length X.ec, .int .i64 S.watch, .int .i64 S.feed, .int .i64 S.heal, .int .i64 S.low, .int .i64 S.high, .slice X.l S.plans.length X.lc] 29)) none := Kept.alloc _ _ _ _ _
  have hsb := sbox_alloc h 29
  have HS := Hid.mk' (h.kept hkA)
  have HT := Hid.mk' (hT.kept hkA)
  obtain ⟨WA, hWA⟩ : ∃ WA, (w.alloc (.cells #[.int .i64 S.id, .slice X.g S.groups.length X.gc, .slice X.a S.apart.length X.ac, .slice X.b S.between.length X.bc, .slice X.p S.phases.length X.pc, .slice X.e S.eyes.length X.ec, .int .i64 S.watch, .int .i64 S.feed, .int .i64 S.heal, .int .i64 S.low, .int .i64 S.high, .slice X.l S.plans.length X.lc] 29)) = WA := ⟨_, rfl⟩
  rw [hWA] at hkA hsb HS HT
  have HK := Hid.mk' hkA
  have HA := Hid.mk' (hA.by_.kept hkA)
  have HAN := Hid.mk' hA.nil
  have hAm := hA.by_.max
  have HAL := Hid.mk' hA.by_.lt
  have HAS := Hid.mk' hA.by_.size
  clear hA
  have HSB := Hid.mk' hsb
  have s0_ : ∀ w', Kept WA w' none → w'.cell? ⟨w.heap.size, 0, none⟩ = some (.int .i64 S.id) := fun w' q => (HSB.out.kept q).c0
  have s1_ : ∀ w', Kept WA w' none → w'.cell? ⟨w.heap.size, 1, none⟩ = some (.slice X.g S.groups.length X.gc) := fun w' q => (HSB.out.kept q).c1
  have s2_ : ∀ w', Kept WA w' none → w'.cell? ⟨w.heap.size, 2, none⟩ = some (.slice X.a S.apart.length X.ac) := fun w' q => (HSB.out.kept q).c2
  have s3_ : ∀ w', Kept WA w' none → w'.cell? ⟨w.heap.size, 3, none⟩ = some (.slice X.b S.between.length X.bc) := fun w' q => (HSB.out.kept q).c3
  have s4_ : ∀ w', Kept WA w' none → w'.cell? ⟨w.heap.size, 4, none⟩ = some (.slice X.p S.phases.length X.pc) := fun w' q => (HSB.out.kept q).c4
  have s5_ : ∀ w', Kept WA w' none → w'.cell? ⟨w.heap.size, 5, none⟩ = some (.slice X.e S.eyes.length X.ec) := fun w' q => (HSB.out.kept q).c5
  have s6_ : ∀ w', Kept WA w' none → w'.cell? ⟨w.heap.size, 6, none⟩ = some (.int .i64 S.watch) := fun w' q => (HSB.out.kept q).c6
  have s7_ : ∀ w', Kept WA w' none → w'.cell? ⟨w.heap.size, 7, none⟩ = some (.int .i64 S.feed) := fun w' q => (HSB.out.kept q).c7
  have s8_ : ∀ w', Kept WA w' none → w'.cell? ⟨w.heap.size, 8, none⟩ = some (.int .i64 S.heal) := fun w' q => (HSB.out.kept q).c8
  have s9_ : ∀ w', Kept WA w' none → w'.cell? ⟨w.heap.size, 9, none⟩ = some (.int .i64 S.low) := fun w' q => (HSB.out.kept q).c9
  have s10_ : ∀ w', Kept WA w' none → w'.cell? ⟨w.heap.size, 10, none⟩ = some (.int .i64 S.high) := fun w' q => (HSB.out.kept q).c10
  have s11_ : ∀ w', Kept WA w' none → w'.cell? ⟨w.heap.size, 11, none⟩ = some (.slice X.l S.plans.length X.lc) := fun w' q => (HSB.out.kept q).c11
  have hK0 := Kept.refl WA none
  clear h hT hkA hsb
  go_enter Tryd.func5, Tryd.ntmps5
  go_wp2_with (first | rw [hWA] | (go_at_call 11; refine (balive_any HT.out).mono ?_; rintro e wa ⟨rfl, hka⟩; have hKa : Kept WA wa none := hka))
  go_at_call 12
  refine (rgreat_any (HS.out.kept hKa)).mono ?_
  rintro e wg ⟨gr, rfl, hgr, hkg⟩
  have hKg : Kept WA wg none := hKa.tr hkg
  clear hgr
  cases gr with
  | true =>
    go_wp2
    go_ret
    exact ⟨rfl, (HK.out.tr hKg).below⟩
  | false =>
    go_wp2_with (first | (go_at_call 16; have hx := check_any (HS.out.kept hKg) (HT.out.kept hKg); rw [hce] at hx; refine hx.mono ?_; rintro e wC ⟨rfl, hkC⟩; have hKC : Kept WA wC none := hKg.tr hkC; clear hx))
    go_ret
    exact ⟨rfl, (HK.out.tr hKC).below⟩
set_option maxRecDepth 100000 in
set_option maxHeartbeats 4000000 in
theorem brig_low {X : Sa} {S : St} {w : World} (h : Sat w X S) (hT : Tabb w) {a : Option Addr} {n c : Nat} {L : List Nat} (hA : Come w a n c L) (k p : Int) (o : Nat) (hl : n ≤ 100) (hs : siteB S = true) (hk : k < 0) : Calls Tryd.prog 5 #[siteV X S, .int .i64 k, .slice a n c, .int .i64 p, .int .u8 (o : Int)] w fun e w' => e = .returned (.bool true) ∧ Below w.heap.size w w' := by
  have hlb : decide ((100 : Int) < (n : Int)) = false := by simp; omega
  have hce : checkE S = 0 := by unfold checkE; rw [hs]; rfl
  have h1 : decide (k < 0) = true := by simpa using hk
  have hkA : Kept w (w.alloc (.cells #[.int .i64 S.id, .slice X.g S.groups.length X.gc, .slice X.a S.apart.length X.ac, .slice X.b S.between.length X.bc, .slice X.p S.phases.length X.pc, .slice X.e S.eyes.length X.ec, .int .i64 S.watch, .int .i64 S.feed, .int .i64 S.heal, .int .i64 S.low, .int .i64 S.high, .slice X.l S.plans.length X.lc] 29)) none := Kept.alloc _ _ _ _ _
  have hsb := sbox_alloc h 29
  have HS := Hid.mk' (h.kept hkA)
  have HT := Hid.mk' (hT.kept hkA)
  obtain ⟨WA, hWA⟩ : ∃ WA, (w.alloc (.cells #[.int .i64 S.id, .slice X.g S.groups.length X.gc, .slice X.a S.apart.length X.ac, .slice X.b S.between.length X.bc, .slice X.p S.phases.length X.pc, .slice X.e S.eyes.length X.ec, .int .i64 S.watch, .int .i64 S.feed, .int .i64 S.heal, .int .i64 S.low, .int .i64 S.high, .slice X.l S.plans.length X.lc] 29)) = WA := ⟨_, rfl⟩
  rw [hWA] at hkA hsb HS HT
  have HK := Hid.mk' hkA
  have HA := Hid.mk' (hA.by_.kept hkA)
  have HAN := Hid.mk' hA.nil
  have hAm := hA.by_.max
  have HAL := Hid.mk' hA.by_.lt
  have HAS := Hid.mk' hA.by_.size
  clear hA
  have HSB := Hid.mk' hsb
  have s0_ : ∀ w', Kept WA w' none → w'.cell? ⟨w.heap.size, 0, none⟩ = some (.int .i64 S.id) := fun w' q => (HSB.out.kept q).c0
  have s1_ : ∀ w', Kept WA w' none → w'.cell? ⟨w.heap.size, 1, none⟩ = some (.slice X.g S.groups.length X.gc) := fun w' q => (HSB.out.kept q).c1
  have s2_ : ∀ w', Kept WA w' none → w'.cell? ⟨w.heap.size, 2, none⟩ = some (.slice X.a S.apart.length X.ac) := fun w' q => (HSB.out.kept q).c2
  have s3_ : ∀ w', Kept WA w' none → w'.cell? ⟨w.heap.size, 3, none⟩ = some (.slice X.b S.between.length X.bc) := fun w' q => (HSB.out.kept q).c3
  have s4_ : ∀ w', Kept WA w' none → w'.cell? ⟨w.heap.size, 4, none⟩ = some (.slice X.p S.phases.length X.pc) := fun w' q => (HSB.out.kept q).c4
  have s5_ : ∀ w', Kept WA w' none → w'.cell? ⟨w.heap.size, 5, none⟩ = some (.slice X.e S.eyes.length X.ec) := fun w' q => (HSB.out.kept q).c5
  have s6_ : ∀ w', Kept WA w' none → w'.cell? ⟨w.heap.size, 6, none⟩ = some (.int .i64 S.watch) := fun w' q => (HSB.out.kept q).c6
  have s7_ : ∀ w', Kept WA w' none → w'.cell? ⟨w.heap.size, 7, none⟩ = some (.int .i64 S.feed) := fun w' q => (HSB.out.kept q).c7
  have s8_ : ∀ w', Kept WA w' none → w'.cell? ⟨w.heap.size, 8, none⟩ = some (.int .i64 S.heal) := fun w' q => (HSB.out.kept q).c8
  have s9_ : ∀ w', Kept WA w' none → w'.cell? ⟨w.heap.size, 9, none⟩ = some (.int .i64 S.low) := fun w' q => (HSB.out.kept q).c9
  have s10_ : ∀ w', Kept WA w' none → w'.cell? ⟨w.heap.size, 10, none⟩ = some (.int .i64 S.high) := fun w' q => (HSB.out.kept q).c10
  have s11_ : ∀ w', Kept WA w' none → w'.cell? ⟨w.heap.size, 11, none⟩ = some (.slice X.l S.plans.length X.lc) := fun w' q => (HSB.out.kept q).c11
  have hK0 := Kept.refl WA none
  clear h hT hkA hsb
  go_enter Tryd.func5, Tryd.ntmps5
  go_wp2_with (first | rw [hWA] | (go_at_call 11; refine (balive_any HT.out).mono ?_; rintro e wa ⟨rfl, hka⟩; have hKa : Kept WA wa none := hka))
  go_at_call 12
  refine (rgreat_any (HS.out.kept hKa)).mono ?_
  rintro e wg ⟨gr, rfl, hgr, hkg⟩
  have hKg : Kept WA wg none := hKa.tr hkg
  clear hgr
  cases gr with
  | true =>
    go_wp2
    go_ret
    exact ⟨rfl, (HK.out.tr hKg).below⟩
  | false =>
    go_wp2_with (first | (go_at_call 16; have hx := check_any (HS.out.kept hKg) (HT.out.kept hKg); rw [hce] at hx; refine hx.mono ?_; rintro e wC ⟨rfl, hkC⟩; have hKC : Kept WA wC none := hKg.tr hkC; clear hx))
    go_ret
    exact ⟨rfl, (HK.out.tr hKC).below⟩
set_option maxRecDepth 100000 in
set_option maxHeartbeats 4000000 in
theorem brig_high {X : Sa} {S : St} {w : World} (h : Sat w X S) (hT : Tabb w) {a : Option Addr} {n c : Nat} {L : List Nat} (hA : Come w a n c L) (k p : Int) (o : Nat) (hl : n ≤ 100) (hs : siteB S = true) (hk : 1048576 < k) : Calls Tryd.prog 5 #[siteV X S, .int .i64 k, .slice a n c, .int .i64 p, .int .u8 (o : Int)] w fun e w' => e = .returned (.bool true) ∧ Below w.heap.size w w' := by
  have hlb : decide ((100 : Int) < (n : Int)) = false := by simp; omega
  have hce : checkE S = 0 := by unfold checkE; rw [hs]; rfl
  have h1 : decide (k < 0) = false := by simp; omega
  have h2 : decide (1048576 < k) = true := by simpa using hk
  have hkA : Kept w (w.alloc (.cells #[.int .i64 S.id, .slice X.g S.groups.length X.gc, .slice X.a S.apart.length X.ac, .slice X.b S.between.length X.bc, .slice X.p S.phases.length X.pc, .slice X.e S.eyes.length X.ec, .int .i64 S.watch, .int .i64 S.feed, .int .i64 S.heal, .int .i64 S.low, .int .i64 S.high, .slice X.l S.plans.length X.lc] 29)) none := Kept.alloc _ _ _ _ _
  have hsb := sbox_alloc h 29
  have HS := Hid.mk' (h.kept hkA)
  have HT := Hid.mk' (hT.kept hkA)
  obtain ⟨WA, hWA⟩ : ∃ WA, (w.alloc (.cells #[.int .i64 S.id, .slice X.g S.groups.length X.gc, .slice X.a S.apart.length X.ac, .slice X.b S.between.length X.bc, .slice X.p S.phases.length X.pc, .slice X.e S.eyes.length X.ec, .int .i64 S.watch, .int .i64 S.feed, .int .i64 S.heal, .int .i64 S.low, .int .i64 S.high, .slice X.l S.plans.length X.lc] 29)) = WA := ⟨_, rfl⟩
  rw [hWA] at hkA hsb HS HT
  have HK := Hid.mk' hkA
  have HA := Hid.mk' (hA.by_.kept hkA)
  have HAN := Hid.mk' hA.nil
  have hAm := hA.by_.max
  have HAL := Hid.mk' hA.by_.lt
  have HAS := Hid.mk' hA.by_.size
  clear hA
  have HSB := Hid.mk' hsb
  have s0_ : ∀ w', Kept WA w' none → w'.cell? ⟨w.heap.size, 0, none⟩ = some (.int .i64 S.id) := fun w' q => (HSB.out.kept q).c0
  have s1_ : ∀ w', Kept WA w' none → w'.cell? ⟨w.heap.size, 1, none⟩ = some (.slice X.g S.groups.length X.gc) := fun w' q => (HSB.out.kept q).c1
  have s2_ : ∀ w', Kept WA w' none → w'.cell? ⟨w.heap.size, 2, none⟩ = some (.slice X.a S.apart.length X.ac) := fun w' q => (HSB.out.kept q).c2
  have s3_ : ∀ w', Kept WA w' none → w'.cell? ⟨w.heap.size, 3, none⟩ = some (.slice X.b S.between.length X.bc) := fun w' q => (HSB.out.kept q).c3
  have s4_ : ∀ w', Kept WA w' none → w'.cell? ⟨w.heap.size, 4, none⟩ = some (.slice X.p S.phases.length X.pc) := fun w' q => (HSB.out.kept q).c4
  have s5_ : ∀ w', Kept WA w' none → w'.cell? ⟨w.heap.size, 5, none⟩ = some (.slice X.e S.eyes.length X.ec) := fun w' q => (HSB.out.kept q).c5
  have s6_ : ∀ w', Kept WA w' none → w'.cell? ⟨w.heap.size, 6, none⟩ = some (.int .i64 S.watch) := fun w' q => (HSB.out.kept q).c6
  have s7_ : ∀ w', Kept WA w' none → w'.cell? ⟨w.heap.size, 7, none⟩ = some (.int .i64 S.feed) := fun w' q => (HSB.out.kept q).c7
  have s8_ : ∀ w', Kept WA w' none → w'.cell? ⟨w.heap.size, 8, none⟩ = some (.int .i64 S.heal) := fun w' q => (HSB.out.kept q).c8
  have s9_ : ∀ w', Kept WA w' none → w'.cell? ⟨w.heap.size, 9, none⟩ = some (.int .i64 S.low) := fun w' q => (HSB.out.kept q).c9
  have s10_ : ∀ w', Kept WA w' none → w'.cell? ⟨w.heap.size, 10, none⟩ = some (.int .i64 S.high) := fun w' q => (HSB.out.kept q).c10
  have s11_ : ∀ w', Kept WA w' none → w'.cell? ⟨w.heap.size, 11, none⟩ = some (.slice X.l S.plans.length X.lc) := fun w' q => (HSB.out.kept q).c11
  have hK0 := Kept.refl WA none
  clear h hT hkA hsb
  go_enter Tryd.func5, Tryd.ntmps5
  go_wp2_with (first | rw [hWA] | (go_at_call 11; refine (balive_any HT.out).mono ?_; rintro e wa ⟨rfl, hka⟩; have hKa : Kept WA wa none := hka))
  go_at_call 12
  refine (rgreat_any (HS.out.kept hKa)).mono ?_
  rintro e wg ⟨gr, rfl, hgr, hkg⟩
  have hKg : Kept WA wg none := hKa.tr hkg
  clear hgr
  cases gr with
  | true =>
    go_wp2
    go_ret
    exact ⟨rfl, (HK.out.tr hKg).below⟩
  | false =>
    go_wp2_with (first | (go_at_call 16; have hx := check_any (HS.out.kept hKg) (HT.out.kept hKg); rw [hce] at hx; refine hx.mono ?_; rintro e wC ⟨rfl, hkC⟩; have hKC : Kept WA wC none := hKg.tr hkC; clear hx))
    go_ret
    exact ⟨rfl, (HK.out.tr hKC).below⟩
set_option maxRecDepth 100000 in
set_option maxHeartbeats 4000000 in
theorem brig_err {X : Sa} {S : St} {w : World} (h : Sat w X S) (hT : Tabb w) {a : Option Addr} {n c : Nat} {L : List Nat} (hA : Come w a n c L) (k p : Int) (o : Nat) (hl : n ≤ 100) (hs : siteB S = true) (hk0 : 0 ≤ k) (hk1 : k ≤ 1048576) (z : Int) (hz : litE S.groups.length L = z) (hz0 : z ≠ 0) : Calls Tryd.prog 5 #[siteV X S, .int .i64 k, .slice a n c, .int .i64 p, .int .u8 (o : Int)] w fun e w' => e = .returned (.bool true) ∧ Below w.heap.size w w' := by
  have hlb : decide ((100 : Int) < (n : Int)) = false := by simp; omega
  have hce : checkE S = 0 := by unfold checkE; rw [hs]; rfl
  have h1 : decide (k < 0) = false := by simp; omega
  have h2 : decide (1048576 < k) = false := by simp; omega
  have hwe : wrongE S L L = z := by unfold wrongE; rw [hs, if_pos rfl, bothE_self, hz]
  have hwv : wrongV S L L = false := by unfold wrongV; rw [difB_same, Bool.and_false]
  have hcn : countE S k = 0 := by unfold countE; rw [hs, if_pos rfl, if_pos ⟨hk0, hk1⟩]
  have hne : nextE S k L [] = z := by unfold nextE; rw [if_pos hcn, bothE_nil, hz]
  have hnv : nextV S k L [] = 0 := by unfold nextV; rw [if_neg (by rw [difB_nil]; simp)]
  have HC1 : Hid (∀ w', Kept w w' none → Calls Tryd.prog 8 #[siteV X S, .slice a n c, .slice a n c] w' fun e w2 => e = .returned (.tuple #[.bool false, .int .i64 z]) ∧ Kept w' w2 none) := fun w' q => by
    have hx := wrong_any (c := c) (d := c) (h.kept q) (hT.kept q) (hA.by_.kept q) (hA.by_.kept q)
    rw [hwe, hwv] at hx
    exact hx
  have HC2 : Hid (∀ w', Kept w w' none → Calls Tryd.prog 9 #[siteV X S, .int .i64 k, .slice a n c, .slice none 0 0] w' fun e w2 => e = .returned (.tuple #[.int .i64 0, .int .i64 z]) ∧ Kept w' w2 none) := fun w' q => by
    have hx := next_any (c := c) (d := 0) (h.kept q) (hT.kept q) (hA.by_.kept q) (By.nil _ none) k
    rw [hne, hnv] at hx
    exact hx
  have hzb : (z != 0) = true := by simpa using hz0
  clear hwe hwv hcn hne hnv hz
  have hkA : Kept w (w.alloc (.cells #[.int .i64 S.id, .slice X.g S.groups.length X.gc, .slice X.a S.apart.length X.ac, .slice X.b S.between.length X.bc, .slice X.p S.phases.length X.pc, .slice X.e S.eyes.length X.ec, .int .i64 S.watch, .int .i64 S.feed, .int .i64 S.heal, .int .i64 S.low, .int .i64 S.high, .slice X.l S.plans.length X.lc] 29)) none := Kept.alloc _ _ _ _ _
  have hsb := sbox_alloc h 29
  have HS := Hid.mk' (h.kept hkA)
  have HT := Hid.mk' (hT.kept hkA)
  obtain ⟨WA, hWA⟩ : ∃ WA, (w.alloc (.cells #[.int .i64 S.id, .slice X.g S.groups.length X.gc, .slice X.a S.apart.length X.ac, .slice X.b S.between.length X.bc, .slice X.p S.phases.length X.pc, .slice X.e S.eyes.length X.ec, .int .i64 S.watch, .int .i64 S.feed, .int .i64 S.heal, .int .i64 S.low, .int .i64 S.high, .slice X.l S.plans.length X.lc] 29)) = WA := ⟨_, rfl⟩
  rw [hWA] at hkA hsb HS HT
  have HK := Hid.mk' hkA
  have HA := Hid.mk' (hA.by_.kept hkA)
  have HAN := Hid.mk' hA.nil
  have hAm := hA.by_.max
  have HAL := Hid.mk' hA.by_.lt
  have HAS := Hid.mk' hA.by_.size
  clear hA
  have HSB := Hid.mk' hsb
  have s0_ : ∀ w', Kept WA w' none → w'.cell? ⟨w.heap.size, 0, none⟩ = some (.int .i64 S.id) := fun w' q => (HSB.out.kept q).c0
  have s1_ : ∀ w', Kept WA w' none → w'.cell? ⟨w.heap.size, 1, none⟩ = some (.slice X.g S.groups.length X.gc) := fun w' q => (HSB.out.kept q).c1
  have s2_ : ∀ w', Kept WA w' none → w'.cell? ⟨w.heap.size, 2, none⟩ = some (.slice X.a S.apart.length X.ac) := fun w' q => (HSB.out.kept q).c2
  have s3_ : ∀ w', Kept WA w' none → w'.cell? ⟨w.heap.size, 3, none⟩ = some (.slice X.b S.between.length X.bc) := fun w' q => (HSB.out.kept q).c3
  have s4_ : ∀ w', Kept WA w' none → w'.cell? ⟨w.heap.size, 4, none⟩ = some (.slice X.p S.phases.length X.pc) := fun w' q => (HSB.out.kept q).c4
  have s5_ : ∀ w', Kept WA w' none → w'.cell? ⟨w.heap.size, 5, none⟩ = some (.slice X.e S.eyes.length X.ec) := fun w' q => (HSB.out.kept q).c5
  have s6_ : ∀ w', Kept WA w' none → w'.cell? ⟨w.heap.size, 6, none⟩ = some (.int .i64 S.watch) := fun w' q => (HSB.out.kept q).c6
  have s7_ : ∀ w', Kept WA w' none → w'.cell? ⟨w.heap.size, 7, none⟩ = some (.int .i64 S.feed) := fun w' q => (HSB.out.kept q).c7
  have s8_ : ∀ w', Kept WA w' none → w'.cell? ⟨w.heap.size, 8, none⟩ = some (.int .i64 S.heal) := fun w' q => (HSB.out.kept q).c8
  have s9_ : ∀ w', Kept WA w' none → w'.cell? ⟨w.heap.size, 9, none⟩ = some (.int .i64 S.low) := fun w' q => (HSB.out.kept q).c9
  have s10_ : ∀ w', Kept WA w' none → w'.cell? ⟨w.heap.size, 10, none⟩ = some (.int .i64 S.high) := fun w' q => (HSB.out.kept q).c10
  have s11_ : ∀ w', Kept WA w' none → w'.cell? ⟨w.heap.size, 11, none⟩ = some (.slice X.l S.plans.length X.lc) := fun w' q => (HSB.out.kept q).c11
  have hK0 := Kept.refl WA none
  clear h hT hkA hsb
  go_enter Tryd.func5, Tryd.ntmps5
  go_wp2_with (first | rw [hWA] | (go_at_call 11; refine (balive_any HT.out).mono ?_; rintro e wa ⟨rfl, hka⟩; have hKa : Kept WA wa none := hka))
  go_at_call 12
  refine (rgreat_any (HS.out.kept hKa)).mono ?_
  rintro e wg ⟨gr, rfl, hgr, hkg⟩
  have hKg : Kept WA wg none := hKa.tr hkg
  clear hgr
  cases gr with
  | true =>
    go_wp2
    go_ret
    exact ⟨rfl, (HK.out.tr hKg).below⟩
  | false =>
    go_wp2_with (first | (have hgo := hp1; clear hgo; go_at_call 9; refine (HC2.out _ (HK.out.tr hp1)).mono ?_; rintro e u2 ⟨rfl, hk⟩; have hp2 : Kept WA u2 none := hp1.tr hk; clear hk hp1) | (go_at_call 8; refine (HC1.out _ (HK.out.tr hKC)).mono ?_; rintro e u1 ⟨rfl, hk⟩; have hp1 : Kept WA u1 none := hKC.tr hk; clear hk) | (go_at_call 16; have hx := check_any (HS.out.kept hKg) (HT.out.kept hKg); rw [hce] at hx; refine hx.mono ?_; rintro e wC ⟨rfl, hkC⟩; have hKC : Kept WA wC none := hKg.tr hkC; clear hx))
    go_ret
    exact ⟨rfl, (HK.out.tr hp2).below⟩
set_option maxRecDepth 100000 in
set_option maxHeartbeats 4000000 in
theorem brig_p1 {X : Sa} {S : St} {w : World} (h : Sat w X S) (hT : Tabb w) {a : Option Addr} {n c : Nat} {L : List Nat} (hA : Come w a n c L) (k p : Int) (o : Nat) (hl : n ≤ 100) (hs : siteB S = true) (hk0 : 0 ≤ k) (hk1 : k ≤ 1048576) (hz : litE S.groups.length L = 0) (hp : p < 0) : Calls Tryd.prog 5 #[siteV X S, .int .i64 k, .slice a n c, .int .i64 p, .int .u8 (o : Int)] w fun e w' => e = .returned (.bool true) ∧ Below w.heap.size w w' := by
  have hlb : decide ((100 : Int) < (n : Int)) = false := by simp; omega
  have hce : checkE S = 0 := by unfold checkE; rw [hs]; rfl
  have h1 : decide (k < 0) = false := by simp; omega
  have h2 : decide (1048576 < k) = false := by simp; omega
  have hwe : wrongE S L L = 0 := by unfold wrongE; rw [hs, if_pos rfl, bothE_self, hz]
  have hwv : wrongV S L L = false := by unfold wrongV; rw [difB_same, Bool.and_false]
  have hcn : countE S k = 0 := by unfold countE; rw [hs, if_pos rfl, if_pos ⟨hk0, hk1⟩]
  have hne : nextE S k L [] = 0 := by unfold nextE; rw [if_pos hcn, bothE_nil, hz]
  have hnv : nextV S k L [] = 0 := by unfold nextV; rw [if_neg (by rw [difB_nil]; simp)]
  have HC1 : Hid (∀ w', Kept w w' none → Calls Tryd.prog 8 #[siteV X S, .slice a n c, .slice a n c] w' fun e w2 => e = .returned (.tuple #[.bool false, .int .i64 0]) ∧ Kept w' w2 none) := fun w' q => by
    have hx := wrong_any (c := c) (d := c) (h.kept q) (hT.kept q) (hA.by_.kept q) (hA.by_.kept q)
    rw [hwe, hwv] at hx
    exact hx
  have HC2 : Hid (∀ w', Kept w w' none → Calls Tryd.prog 9 #[siteV X S, .int .i64 k, .slice a n c, .slice none 0 0] w' fun e w2 => e = .returned (.tuple #[.int .i64 0, .int .i64 0]) ∧ Kept w' w2 none) := fun w' q => by
    have hx := next_any (c := c) (d := 0) (h.kept q) (hT.kept q) (hA.by_.kept q) (By.nil _ none) k
    rw [hne, hnv] at hx
    exact hx
  clear hwe hwv hcn hne hnv hz
  have p1 : decide (p < 0) = true := by simpa using hp
  have hkA : Kept w (w.alloc (.cells #[.int .i64 S.id, .slice X.g S.groups.length X.gc, .slice X.a S.apart.length X.ac, .slice X.b S.between.length X.bc, .slice X.p S.phases.length X.pc, .slice X.e S.eyes.length X.ec, .int .i64 S.watch, .int .i64 S.feed, .int .i64 S.heal, .int .i64 S.low, .int .i64 S.high, .slice X.l S.plans.length X.lc] 29)) none := Kept.alloc _ _ _ _ _
  have hsb := sbox_alloc h 29
  have HS := Hid.mk' (h.kept hkA)
  have HT := Hid.mk' (hT.kept hkA)
  obtain ⟨WA, hWA⟩ : ∃ WA, (w.alloc (.cells #[.int .i64 S.id, .slice X.g S.groups.length X.gc, .slice X.a S.apart.length X.ac, .slice X.b S.between.length X.bc, .slice X.p S.phases.length X.pc, .slice X.e S.eyes.length X.ec, .int .i64 S.watch, .int .i64 S.feed, .int .i64 S.heal, .int .i64 S.low, .int .i64 S.high, .slice X.l S.plans.length X.lc] 29)) = WA := ⟨_, rfl⟩
  rw [hWA] at hkA hsb HS HT
  have HK := Hid.mk' hkA
  have HA := Hid.mk' (hA.by_.kept hkA)
  have HAN := Hid.mk' hA.nil
  have hAm := hA.by_.max
  have HAL := Hid.mk' hA.by_.lt
  have HAS := Hid.mk' hA.by_.size
  clear hA
  have HSB := Hid.mk' hsb
  have s0_ : ∀ w', Kept WA w' none → w'.cell? ⟨w.heap.size, 0, none⟩ = some (.int .i64 S.id) := fun w' q => (HSB.out.kept q).c0
  have s1_ : ∀ w', Kept WA w' none → w'.cell? ⟨w.heap.size, 1, none⟩ = some (.slice X.g S.groups.length X.gc) := fun w' q => (HSB.out.kept q).c1
  have s2_ : ∀ w', Kept WA w' none → w'.cell? ⟨w.heap.size, 2, none⟩ = some (.slice X.a S.apart.length X.ac) := fun w' q => (HSB.out.kept q).c2
  have s3_ : ∀ w', Kept WA w' none → w'.cell? ⟨w.heap.size, 3, none⟩ = some (.slice X.b S.between.length X.bc) := fun w' q => (HSB.out.kept q).c3
  have s4_ : ∀ w', Kept WA w' none → w'.cell? ⟨w.heap.size, 4, none⟩ = some (.slice X.p S.phases.length X.pc) := fun w' q => (HSB.out.kept q).c4
  have s5_ : ∀ w', Kept WA w' none → w'.cell? ⟨w.heap.size, 5, none⟩ = some (.slice X.e S.eyes.length X.ec) := fun w' q => (HSB.out.kept q).c5
  have s6_ : ∀ w', Kept WA w' none → w'.cell? ⟨w.heap.size, 6, none⟩ = some (.int .i64 S.watch) := fun w' q => (HSB.out.kept q).c6
  have s7_ : ∀ w', Kept WA w' none → w'.cell? ⟨w.heap.size, 7, none⟩ = some (.int .i64 S.feed) := fun w' q => (HSB.out.kept q).c7
  have s8_ : ∀ w', Kept WA w' none → w'.cell? ⟨w.heap.size, 8, none⟩ = some (.int .i64 S.heal) := fun w' q => (HSB.out.kept q).c8
  have s9_ : ∀ w', Kept WA w' none → w'.cell? ⟨w.heap.size, 9, none⟩ = some (.int .i64 S.low) := fun w' q => (HSB.out.kept q).c9
  have s10_ : ∀ w', Kept WA w' none → w'.cell? ⟨w.heap.size, 10, none⟩ = some (.int .i64 S.high) := fun w' q => (HSB.out.kept q).c10
  have s11_ : ∀ w', Kept WA w' none → w'.cell? ⟨w.heap.size, 11, none⟩ = some (.slice X.l S.plans.length X.lc) := fun w' q => (HSB.out.kept q).c11
  have hK0 := Kept.refl WA none
  clear h hT hkA hsb
  go_enter Tryd.func5, Tryd.ntmps5
  go_wp2_with (first | rw [hWA] | (go_at_call 11; refine (balive_any HT.out).mono ?_; rintro e wa ⟨rfl, hka⟩; have hKa : Kept WA wa none := hka))
  go_at_call 12
  refine (rgreat_any (HS.out.kept hKa)).mono ?_
  rintro e wg ⟨gr, rfl, hgr, hkg⟩
  have hKg : Kept WA wg none := hKa.tr hkg
  clear hgr
  cases gr with
  | true =>
    go_wp2
    go_ret
    exact ⟨rfl, (HK.out.tr hKg).below⟩
  | false =>
    go_wp2_with (first | (have hgo := hp1; clear hgo; go_at_call 9; refine (HC2.out _ (HK.out.tr hp1)).mono ?_; rintro e u2 ⟨rfl, hk⟩; have hp2 : Kept WA u2 none := hp1.tr hk; clear hk hp1) | (go_at_call 8; refine (HC1.out _ (HK.out.tr hKC)).mono ?_; rintro e u1 ⟨rfl, hk⟩; have hp1 : Kept WA u1 none := hKC.tr hk; clear hk) | (go_at_call 16; have hx := check_any (HS.out.kept hKg) (HT.out.kept hKg); rw [hce] at hx; refine hx.mono ?_; rintro e wC ⟨rfl, hkC⟩; have hKC : Kept WA wC none := hKg.tr hkC; clear hx))
    go_ret
    exact ⟨rfl, (HK.out.tr hp2).below⟩
set_option maxRecDepth 100000 in
set_option maxHeartbeats 4000000 in
theorem brig_p2 {X : Sa} {S : St} {w : World} (h : Sat w X S) (hT : Tabb w) {a : Option Addr} {n c : Nat} {L : List Nat} (hA : Come w a n c L) (k p : Int) (o : Nat) (hl : n ≤ 100) (hs : siteB S = true) (hk0 : 0 ≤ k) (hk1 : k ≤ 1048576) (hz : litE S.groups.length L = 0) (hp0 : 0 ≤ p) (hp : (n : Int) ≤ p) : Calls Tryd.prog 5 #[siteV X S, .int .i64 k, .slice a n c, .int .i64 p, .int .u8 (o : Int)] w fun e w' => e = .returned (.bool true) ∧ Below w.heap.size w w' := by
  have hlb : decide ((100 : Int) < (n : Int)) = false := by simp; omega
  have hce : checkE S = 0 := by unfold checkE; rw [hs]; rfl
  have h1 : decide (k < 0) = false := by simp; omega
  have h2 : decide (1048576 < k) = false := by simp; omega
  have hwe : wrongE S L L = 0 := by unfold wrongE; rw [hs, if_pos rfl, bothE_self, hz]
  have hwv : wrongV S L L = false := by unfold wrongV; rw [difB_same, Bool.and_false]
  have hcn : countE S k = 0 := by unfold countE; rw [hs, if_pos rfl, if_pos ⟨hk0, hk1⟩]
  have hne : nextE S k L [] = 0 := by unfold nextE; rw [if_pos hcn, bothE_nil, hz]
  have hnv : nextV S k L [] = 0 := by unfold nextV; rw [if_neg (by rw [difB_nil]; simp)]
  have HC1 : Hid (∀ w', Kept w w' none → Calls Tryd.prog 8 #[siteV X S, .slice a n c, .slice a n c] w' fun e w2 => e = .returned (.tuple #[.bool false, .int .i64 0]) ∧ Kept w' w2 none) := fun w' q => by
    have hx := wrong_any (c := c) (d := c) (h.kept q) (hT.kept q) (hA.by_.kept q) (hA.by_.kept q)
    rw [hwe, hwv] at hx
    exact hx
  have HC2 : Hid (∀ w', Kept w w' none → Calls Tryd.prog 9 #[siteV X S, .int .i64 k, .slice a n c, .slice none 0 0] w' fun e w2 => e = .returned (.tuple #[.int .i64 0, .int .i64 0]) ∧ Kept w' w2 none) := fun w' q => by
    have hx := next_any (c := c) (d := 0) (h.kept q) (hT.kept q) (hA.by_.kept q) (By.nil _ none) k
    rw [hne, hnv] at hx
    exact hx
  clear hwe hwv hcn hne hnv hz
  have p1 : decide (p < 0) = false := by simp; omega
  have p2 : decide ((n : Int) ≤ p) = true := by simpa using hp
  have hkA : Kept w (w.alloc (.cells #[.int .i64 S.id, .slice X.g S.groups.length X.gc, .slice X.a S.apart.length X.ac, .slice X.b S.between.length X.bc, .slice X.p S.phases.length X.pc, .slice X.e S.eyes.length X.ec, .int .i64 S.watch, .int .i64 S.feed, .int .i64 S.heal, .int .i64 S.low, .int .i64 S.high, .slice X.l S.plans.length X.lc] 29)) none := Kept.alloc _ _ _ _ _
  have hsb := sbox_alloc h 29
  have HS := Hid.mk' (h.kept hkA)
  have HT := Hid.mk' (hT.kept hkA)
  obtain ⟨WA, hWA⟩ : ∃ WA, (w.alloc (.cells #[.int .i64 S.id, .slice X.g S.groups.length X.gc, .slice X.a S.apart.length X.ac, .slice X.b S.between.length X.bc, .slice X.p S.phases.length X.pc, .slice X.e S.eyes.length X.ec, .int .i64 S.watch, .int .i64 S.feed, .int .i64 S.heal, .int .i64 S.low, .int .i64 S.high, .slice X.l S.plans.length X.lc] 29)) = WA := ⟨_, rfl⟩
  rw [hWA] at hkA hsb HS HT
  have HK := Hid.mk' hkA
  have HA := Hid.mk' (hA.by_.kept hkA)
  have HAN := Hid.mk' hA.nil
  have hAm := hA.by_.max
  have HAL := Hid.mk' hA.by_.lt
  have HAS := Hid.mk' hA.by_.size
  clear hA
  have HSB := Hid.mk' hsb
  have s0_ : ∀ w', Kept WA w' none → w'.cell? ⟨w.heap.size, 0, none⟩ = some (.int .i64 S.id) := fun w' q => (HSB.out.kept q).c0
  have s1_ : ∀ w', Kept WA w' none → w'.cell? ⟨w.heap.size, 1, none⟩ = some (.slice X.g S.groups.length X.gc) := fun w' q => (HSB.out.kept q).c1
  have s2_ : ∀ w', Kept WA w' none → w'.cell? ⟨w.heap.size, 2, none⟩ = some (.slice X.a S.apart.length X.ac) := fun w' q => (HSB.out.kept q).c2
  have s3_ : ∀ w', Kept WA w' none → w'.cell? ⟨w.heap.size, 3, none⟩ = some (.slice X.b S.between.length X.bc) := fun w' q => (HSB.out.kept q).c3
  have s4_ : ∀ w', Kept WA w' none → w'.cell? ⟨w.heap.size, 4, none⟩ = some (.slice X.p S.phases.length X.pc) := fun w' q => (HSB.out.kept q).c4
  have s5_ : ∀ w', Kept WA w' none → w'.cell? ⟨w.heap.size, 5, none⟩ = some (.slice X.e S.eyes.length X.ec) := fun w' q => (HSB.out.kept q).c5
  have s6_ : ∀ w', Kept WA w' none → w'.cell? ⟨w.heap.size, 6, none⟩ = some (.int .i64 S.watch) := fun w' q => (HSB.out.kept q).c6
  have s7_ : ∀ w', Kept WA w' none → w'.cell? ⟨w.heap.size, 7, none⟩ = some (.int .i64 S.feed) := fun w' q => (HSB.out.kept q).c7
  have s8_ : ∀ w', Kept WA w' none → w'.cell? ⟨w.heap.size, 8, none⟩ = some (.int .i64 S.heal) := fun w' q => (HSB.out.kept q).c8
  have s9_ : ∀ w', Kept WA w' none → w'.cell? ⟨w.heap.size, 9, none⟩ = some (.int .i64 S.low) := fun w' q => (HSB.out.kept q).c9
  have s10_ : ∀ w', Kept WA w' none → w'.cell? ⟨w.heap.size, 10, none⟩ = some (.int .i64 S.high) := fun w' q => (HSB.out.kept q).c10
  have s11_ : ∀ w', Kept WA w' none → w'.cell? ⟨w.heap.size, 11, none⟩ = some (.slice X.l S.plans.length X.lc) := fun w' q => (HSB.out.kept q).c11
  have hK0 := Kept.refl WA none
  clear h hT hkA hsb
  go_enter Tryd.func5, Tryd.ntmps5
  go_wp2_with (first | rw [hWA] | (go_at_call 11; refine (balive_any HT.out).mono ?_; rintro e wa ⟨rfl, hka⟩; have hKa : Kept WA wa none := hka))
  go_at_call 12
  refine (rgreat_any (HS.out.kept hKa)).mono ?_
  rintro e wg ⟨gr, rfl, hgr, hkg⟩
  have hKg : Kept WA wg none := hKa.tr hkg
  clear hgr
  cases gr with
  | true =>
    go_wp2
    go_ret
    exact ⟨rfl, (HK.out.tr hKg).below⟩
  | false =>
    go_wp2_with (first | (have hgo := hp1; clear hgo; go_at_call 9; refine (HC2.out _ (HK.out.tr hp1)).mono ?_; rintro e u2 ⟨rfl, hk⟩; have hp2 : Kept WA u2 none := hp1.tr hk; clear hk hp1) | (go_at_call 8; refine (HC1.out _ (HK.out.tr hKC)).mono ?_; rintro e u1 ⟨rfl, hk⟩; have hp1 : Kept WA u1 none := hKC.tr hk; clear hk) | (go_at_call 16; have hx := check_any (HS.out.kept hKg) (HT.out.kept hKg); rw [hce] at hx; refine hx.mono ?_; rintro e wC ⟨rfl, hkC⟩; have hKC : Kept WA wC none := hKg.tr hkC; clear hx))
    go_ret
    exact ⟨rfl, (HK.out.tr hp2).below⟩
set_option maxRecDepth 100000 in
set_option maxHeartbeats 4000000 in
theorem brig_p3 {X : Sa} {S : St} {w : World} (h : Sat w X S) (hT : Tabb w) {a : Option Addr} {n c : Nat} {L : List Nat} (hA : Come w a n c L) (k p : Int) (o : Nat) (hl : n ≤ 100) (hs : siteB S = true) (hk0 : 0 ≤ k) (hk1 : k ≤ 1048576) (hz : litE S.groups.length L = 0) (j : Nat) (hj : p = (j : Int)) (hjn : j < n) (ho : 4 < o) : Calls Tryd.prog 5 #[siteV X S, .int .i64 k, .slice a n c, .int .i64 p, .int .u8 (o : Int)] w fun e w' => e = .returned (.bool true) ∧ Below w.heap.size w w' := by
  have hlb : decide ((100 : Int) < (n : Int)) = false := by simp; omega
  have hce : checkE S = 0 := by unfold checkE; rw [hs]; rfl
  have h1 : decide (k < 0) = false := by simp; omega
  have h2 : decide (1048576 < k) = false := by simp; omega
  have hwe : wrongE S L L = 0 := by unfold wrongE; rw [hs, if_pos rfl, bothE_self, hz]
  have hwv : wrongV S L L = false := by unfold wrongV; rw [difB_same, Bool.and_false]
  have hcn : countE S k = 0 := by unfold countE; rw [hs, if_pos rfl, if_pos ⟨hk0, hk1⟩]
  have hne : nextE S k L [] = 0 := by unfold nextE; rw [if_pos hcn, bothE_nil, hz]
  have hnv : nextV S k L [] = 0 := by unfold nextV; rw [if_neg (by rw [difB_nil]; simp)]
  have HC1 : Hid (∀ w', Kept w w' none → Calls Tryd.prog 8 #[siteV X S, .slice a n c, .slice a n c] w' fun e w2 => e = .returned (.tuple #[.bool false, .int .i64 0]) ∧ Kept w' w2 none) := fun w' q => by
    have hx := wrong_any (c := c) (d := c) (h.kept q) (hT.kept q) (hA.by_.kept q) (hA.by_.kept q)
    rw [hwe, hwv] at hx
    exact hx
  have HC2 : Hid (∀ w', Kept w w' none → Calls Tryd.prog 9 #[siteV X S, .int .i64 k, .slice a n c, .slice none 0 0] w' fun e w2 => e = .returned (.tuple #[.int .i64 0, .int .i64 0]) ∧ Kept w' w2 none) := fun w' q => by
    have hx := next_any (c := c) (d := 0) (h.kept q) (hT.kept q) (hA.by_.kept q) (By.nil _ none) k
    rw [hne, hnv] at hx
    exact hx
  clear hwe hwv hcn hne hnv hz
  subst hj
  have p1 : decide ((j : Int) < 0) = false := decide_eq_false (by omega)
  have p2 : decide ((n : Int) ≤ (j : Int)) = false := by simp; omega
  have p3 : decide ((4 : Int) < (o : Int)) = true := by simp; omega
  have hkA : Kept w (w.alloc (.cells #[.int .i64 S.id, .slice X.g S.groups.length X.gc, .slice X.a S.apart.length X.ac, .slice X.b S.between.length X.bc, .slice X.p S.phases.length X.pc, .slice X.e S.eyes.length X.ec, .int .i64 S.watch, .int .i64 S.feed, .int .i64 S.heal, .int .i64 S.low, .int .i64 S.high, .slice X.l S.plans.length X.lc] 29)) none := Kept.alloc _ _ _ _ _
  have hsb := sbox_alloc h 29
  have HS := Hid.mk' (h.kept hkA)
  have HT := Hid.mk' (hT.kept hkA)
  obtain ⟨WA, hWA⟩ : ∃ WA, (w.alloc (.cells #[.int .i64 S.id, .slice X.g S.groups.length X.gc, .slice X.a S.apart.length X.ac, .slice X.b S.between.length X.bc, .slice X.p S.phases.length X.pc, .slice X.e S.eyes.length X.ec, .int .i64 S.watch, .int .i64 S.feed, .int .i64 S.heal, .int .i64 S.low, .int .i64 S.high, .slice X.l S.plans.length X.lc] 29)) = WA := ⟨_, rfl⟩
  rw [hWA] at hkA hsb HS HT
  have HK := Hid.mk' hkA
  have HA := Hid.mk' (hA.by_.kept hkA)
  have HAN := Hid.mk' hA.nil
  have hAm := hA.by_.max
  have HAL := Hid.mk' hA.by_.lt
  have HAS := Hid.mk' hA.by_.size
  clear hA
  have HSB := Hid.mk' hsb
  have s0_ : ∀ w', Kept WA w' none → w'.cell? ⟨w.heap.size, 0, none⟩ = some (.int .i64 S.id) := fun w' q => (HSB.out.kept q).c0
  have s1_ : ∀ w', Kept WA w' none → w'.cell? ⟨w.heap.size, 1, none⟩ = some (.slice X.g S.groups.length X.gc) := fun w' q => (HSB.out.kept q).c1
  have s2_ : ∀ w', Kept WA w' none → w'.cell? ⟨w.heap.size, 2, none⟩ = some (.slice X.a S.apart.length X.ac) := fun w' q => (HSB.out.kept q).c2
  have s3_ : ∀ w', Kept WA w' none → w'.cell? ⟨w.heap.size, 3, none⟩ = some (.slice X.b S.between.length X.bc) := fun w' q => (HSB.out.kept q).c3
  have s4_ : ∀ w', Kept WA w' none → w'.cell? ⟨w.heap.size, 4, none⟩ = some (.slice X.p S.phases.length X.pc) := fun w' q => (HSB.out.kept q).c4
  have s5_ : ∀ w', Kept WA w' none → w'.cell? ⟨w.heap.size, 5, none⟩ = some (.slice X.e S.eyes.length X.ec) := fun w' q => (HSB.out.kept q).c5
  have s6_ : ∀ w', Kept WA w' none → w'.cell? ⟨w.heap.size, 6, none⟩ = some (.int .i64 S.watch) := fun w' q => (HSB.out.kept q).c6
  have s7_ : ∀ w', Kept WA w' none → w'.cell? ⟨w.heap.size, 7, none⟩ = some (.int .i64 S.feed) := fun w' q => (HSB.out.kept q).c7
  have s8_ : ∀ w', Kept WA w' none → w'.cell? ⟨w.heap.size, 8, none⟩ = some (.int .i64 S.heal) := fun w' q => (HSB.out.kept q).c8
  have s9_ : ∀ w', Kept WA w' none → w'.cell? ⟨w.heap.size, 9, none⟩ = some (.int .i64 S.low) := fun w' q => (HSB.out.kept q).c9
  have s10_ : ∀ w', Kept WA w' none → w'.cell? ⟨w.heap.size, 10, none⟩ = some (.int .i64 S.high) := fun w' q => (HSB.out.kept q).c10
  have s11_ : ∀ w', Kept WA w' none → w'.cell? ⟨w.heap.size, 11, none⟩ = some (.slice X.l S.plans.length X.lc) := fun w' q => (HSB.out.kept q).c11
  have hK0 := Kept.refl WA none
  clear h hT hkA hsb
  go_enter Tryd.func5, Tryd.ntmps5
  go_wp2_with (first | rw [hWA] | (go_at_call 11; refine (balive_any HT.out).mono ?_; rintro e wa ⟨rfl, hka⟩; have hKa : Kept WA wa none := hka))
  go_at_call 12
  refine (rgreat_any (HS.out.kept hKa)).mono ?_
  rintro e wg ⟨gr, rfl, hgr, hkg⟩
  have hKg : Kept WA wg none := hKa.tr hkg
  clear hgr
  cases gr with
  | true =>
    go_wp2
    go_ret
    exact ⟨rfl, (HK.out.tr hKg).below⟩
  | false =>
    go_wp2_with (first | (have hgo := hp1; clear hgo; go_at_call 9; refine (HC2.out _ (HK.out.tr hp1)).mono ?_; rintro e u2 ⟨rfl, hk⟩; have hp2 : Kept WA u2 none := hp1.tr hk; clear hk hp1) | (go_at_call 8; refine (HC1.out _ (HK.out.tr hKC)).mono ?_; rintro e u1 ⟨rfl, hk⟩; have hp1 : Kept WA u1 none := hKC.tr hk; clear hk) | (go_at_call 16; have hx := check_any (HS.out.kept hKg) (HT.out.kept hKg); rw [hce] at hx; refine hx.mono ?_; rintro e wC ⟨rfl, hkC⟩; have hKC : Kept WA wC none := hKg.tr hkC; clear hx))
    go_ret
    exact ⟨rfl, (HK.out.tr hp2).below⟩
set_option maxRecDepth 100000 in
set_option maxHeartbeats 4000000 in
theorem brig_p4 {X : Sa} {S : St} {w : World} (h : Sat w X S) (hT : Tabb w) {a : Option Addr} {n c : Nat} {L : List Nat} (hA : Come w a n c L) (k p : Int) (o : Nat) (hl : n ≤ 100) (hs : siteB S = true) (hk0 : 0 ≤ k) (hk1 : k ≤ 1048576) (hz : litE S.groups.length L = 0) (j : Nat) (hj : p = (j : Int)) (hjn : j < n) (ho : o ≤ 4) (hoj : L.getD j 0 = o) : Calls Tryd.prog 5 #[siteV X S, .int .i64 k, .slice a n c, .int .i64 p, .int .u8 (o : Int)] w fun e w' => e = .returned (.bool true) ∧ Below w.heap.size w w' := by
  have hlb : decide ((100 : Int) < (n : Int)) = false := by simp; omega
  have hce : checkE S = 0 := by unfold checkE; rw [hs]; rfl
  have h1 : decide (k < 0) = false := by simp; omega
  have h2 : decide (1048576 < k) = false := by simp; omega
  have hwe : wrongE S L L = 0 := by unfold wrongE; rw [hs, if_pos rfl, bothE_self, hz]
  have hwv : wrongV S L L = false := by unfold wrongV; rw [difB_same, Bool.and_false]
  have hcn : countE S k = 0 := by unfold countE; rw [hs, if_pos rfl, if_pos ⟨hk0, hk1⟩]
  have hne : nextE S k L [] = 0 := by unfold nextE; rw [if_pos hcn, bothE_nil, hz]
  have hnv : nextV S k L [] = 0 := by unfold nextV; rw [if_neg (by rw [difB_nil]; simp)]
  have HC1 : Hid (∀ w', Kept w w' none → Calls Tryd.prog 8 #[siteV X S, .slice a n c, .slice a n c] w' fun e w2 => e = .returned (.tuple #[.bool false, .int .i64 0]) ∧ Kept w' w2 none) := fun w' q => by
    have hx := wrong_any (c := c) (d := c) (h.kept q) (hT.kept q) (hA.by_.kept q) (hA.by_.kept q)
    rw [hwe, hwv] at hx
    exact hx
  have HC2 : Hid (∀ w', Kept w w' none → Calls Tryd.prog 9 #[siteV X S, .int .i64 k, .slice a n c, .slice none 0 0] w' fun e w2 => e = .returned (.tuple #[.int .i64 0, .int .i64 0]) ∧ Kept w' w2 none) := fun w' q => by
    have hx := next_any (c := c) (d := 0) (h.kept q) (hT.kept q) (hA.by_.kept q) (By.nil _ none) k
    rw [hne, hnv] at hx
    exact hx
  clear hwe hwv hcn hne hnv hz
  subst hj
  have HOJ := Hid.mk' hoj
  clear hoj
  have p1 : decide ((j : Int) < 0) = false := decide_eq_false (by omega)
  have p2 : decide ((n : Int) ≤ (j : Int)) = false := by simp; omega
  have p3 : decide ((4 : Int) < (o : Int)) = false := by simp; omega
  have hkA : Kept w (w.alloc (.cells #[.int .i64 S.id, .slice X.g S.groups.length X.gc, .slice X.a S.apart.length X.ac, .slice X.b S.between.length X.bc, .slice X.p S.phases.length X.pc, .slice X.e S.eyes.length X.ec, .int .i64 S.watch, .int .i64 S.feed, .int .i64 S.heal, .int .i64 S.low, .int .i64 S.high, .slice X.l S.plans.length X.lc] 29)) none := Kept.alloc _ _ _ _ _
  have hsb := sbox_alloc h 29
  have HS := Hid.mk' (h.kept hkA)
  have HT := Hid.mk' (hT.kept hkA)
  obtain ⟨WA, hWA⟩ : ∃ WA, (w.alloc (.cells #[.int .i64 S.id, .slice X.g S.groups.length X.gc, .slice X.a S.apart.length X.ac, .slice X.b S.between.length X.bc, .slice X.p S.phases.length X.pc, .slice X.e S.eyes.length X.ec, .int .i64 S.watch, .int .i64 S.feed, .int .i64 S.heal, .int .i64 S.low, .int .i64 S.high, .slice X.l S.plans.length X.lc] 29)) = WA := ⟨_, rfl⟩
  rw [hWA] at hkA hsb HS HT
  have HK := Hid.mk' hkA
  have HA := Hid.mk' (hA.by_.kept hkA)
  have HAN := Hid.mk' hA.nil
  have hAm := hA.by_.max
  have HAL := Hid.mk' hA.by_.lt
  have HAS := Hid.mk' hA.by_.size
  clear hA
  have HSB := Hid.mk' hsb
  have s0_ : ∀ w', Kept WA w' none → w'.cell? ⟨w.heap.size, 0, none⟩ = some (.int .i64 S.id) := fun w' q => (HSB.out.kept q).c0
  have s1_ : ∀ w', Kept WA w' none → w'.cell? ⟨w.heap.size, 1, none⟩ = some (.slice X.g S.groups.length X.gc) := fun w' q => (HSB.out.kept q).c1
  have s2_ : ∀ w', Kept WA w' none → w'.cell? ⟨w.heap.size, 2, none⟩ = some (.slice X.a S.apart.length X.ac) := fun w' q => (HSB.out.kept q).c2
  have s3_ : ∀ w', Kept WA w' none → w'.cell? ⟨w.heap.size, 3, none⟩ = some (.slice X.b S.between.length X.bc) := fun w' q => (HSB.out.kept q).c3
  have s4_ : ∀ w', Kept WA w' none → w'.cell? ⟨w.heap.size, 4, none⟩ = some (.slice X.p S.phases.length X.pc) := fun w' q => (HSB.out.kept q).c4
  have s5_ : ∀ w', Kept WA w' none → w'.cell? ⟨w.heap.size, 5, none⟩ = some (.slice X.e S.eyes.length X.ec) := fun w' q => (HSB.out.kept q).c5
  have s6_ : ∀ w', Kept WA w' none → w'.cell? ⟨w.heap.size, 6, none⟩ = some (.int .i64 S.watch) := fun w' q => (HSB.out.kept q).c6
  have s7_ : ∀ w', Kept WA w' none → w'.cell? ⟨w.heap.size, 7, none⟩ = some (.int .i64 S.feed) := fun w' q => (HSB.out.kept q).c7
  have s8_ : ∀ w', Kept WA w' none → w'.cell? ⟨w.heap.size, 8, none⟩ = some (.int .i64 S.heal) := fun w' q => (HSB.out.kept q).c8
  have s9_ : ∀ w', Kept WA w' none → w'.cell? ⟨w.heap.size, 9, none⟩ = some (.int .i64 S.low) := fun w' q => (HSB.out.kept q).c9
  have s10_ : ∀ w', Kept WA w' none → w'.cell? ⟨w.heap.size, 10, none⟩ = some (.int .i64 S.high) := fun w' q => (HSB.out.kept q).c10
  have s11_ : ∀ w', Kept WA w' none → w'.cell? ⟨w.heap.size, 11, none⟩ = some (.slice X.l S.plans.length X.lc) := fun w' q => (HSB.out.kept q).c11
  have hK0 := Kept.refl WA none
  clear h hT hkA hsb
  go_enter Tryd.func5, Tryd.ntmps5
  go_wp2_with (first | rw [hWA] | (go_at_call 11; refine (balive_any HT.out).mono ?_; rintro e wa ⟨rfl, hka⟩; have hKa : Kept WA wa none := hka))
  go_at_call 12
  refine (rgreat_any (HS.out.kept hKa)).mono ?_
  rintro e wg ⟨gr, rfl, hgr, hkg⟩
  have hKg : Kept WA wg none := hKa.tr hkg
  clear hgr
  cases gr with
  | true =>
    go_wp2
    go_ret
    exact ⟨rfl, (HK.out.tr hKg).below⟩
  | false =>
    go_wp2_with (first | (have hgo := hp1; clear hgo; go_at_call 9; refine (HC2.out _ (HK.out.tr hp1)).mono ?_; rintro e u2 ⟨rfl, hk⟩; have hp2 : Kept WA u2 none := hp1.tr hk; obtain ⟨b0, o0, hb0, _, hc0⟩ := (HA.out.kept hp2).at_ (by omega); subst hb0; have kc0 := hc0 j hjn; rw [HOJ.out] at kc0; clear hc0; clear hk hp1) | (go_at_call 8; refine (HC1.out _ (HK.out.tr hKC)).mono ?_; rintro e u1 ⟨rfl, hk⟩; have hp1 : Kept WA u1 none := hKC.tr hk; clear hk) | (go_at_call 16; have hx := check_any (HS.out.kept hKg) (HT.out.kept hKg); rw [hce] at hx; refine hx.mono ?_; rintro e wC ⟨rfl, hkC⟩; have hKC : Kept WA wC none := hKg.tr hkC; clear hx))
    go_ret
    exact ⟨rfl, (HK.out.tr hp2).below⟩
set_option maxRecDepth 100000 in
set_option maxHeartbeats 4000000 in
theorem brig_more {X : Sa} {S : St} {w : World} (h : Sat w X S) (hT : Tabb w) {a : Option Addr} {n c : Nat} {L : List Nat} (hA : Come w a n c L) (k p : Int) (o : Nat) (hl : n ≤ 100) (hs : siteB S = true) (hk0 : 0 ≤ k) (hk1 : k ≤ 1048576) (hz : litE S.groups.length L = 0) (j : Nat) (hj : p = (j : Int)) (hjn : j < n) (ho : o ≤ 4) (hoj : o ≠ at10 L j) (hkk : k < 1048576) : Calls Tryd.prog 5 #[siteV X S, .int .i64 k, .slice a n c, .int .i64 p, .int .u8 (o : Int)] w fun e w' => e = .returned (.bool true) ∧ Below w.heap.size w w' := by
  have hlb : decide ((100 : Int) < (n : Int)) = false := by simp; omega
  have hce : checkE S = 0 := by unfold checkE; rw [hs]; rfl
  have h1 : decide (k < 0) = false := by simp; omega
  have h2 : decide (1048576 < k) = false := by simp; omega
  have hwe : wrongE S L L = 0 := by unfold wrongE; rw [hs, if_pos rfl, bothE_self, hz]
  have hwv : wrongV S L L = false := by unfold wrongV; rw [difB_same, Bool.and_false]
  have hcn : countE S k = 0 := by unfold countE; rw [hs, if_pos rfl, if_pos ⟨hk0, hk1⟩]
  have hne : nextE S k L [] = 0 := by unfold nextE; rw [if_pos hcn, bothE_nil, hz]
  have hnv : nextV S k L [] = 0 := by unfold nextV; rw [if_neg (by rw [difB_nil]; simp)]
  have HC1 : Hid (∀ w', Kept w w' none → Calls Tryd.prog 8 #[siteV X S, .slice a n c, .slice a n c] w' fun e w2 => e = .returned (.tuple #[.bool false, .int .i64 0]) ∧ Kept w' w2 none) := fun w' q => by
    have hx := wrong_any (c := c) (d := c) (h.kept q) (hT.kept q) (hA.by_.kept q) (hA.by_.kept q)
    rw [hwe, hwv] at hx
    exact hx
  have HC2 : Hid (∀ w', Kept w w' none → Calls Tryd.prog 9 #[siteV X S, .int .i64 k, .slice a n c, .slice none 0 0] w' fun e w2 => e = .returned (.tuple #[.int .i64 0, .int .i64 0]) ∧ Kept w' w2 none) := fun w' q => by
    have hx := next_any (c := c) (d := 0) (h.kept q) (hT.kept q) (hA.by_.kept q) (By.nil _ none) k
    rw [hne, hnv] at hx
    exact hx
  subst hj
  have hAl := hA.by_.size
  have hbo := both_set (g := S.groups.length) (j := j) (o := o) hz (by omega) ho
  have hdi := dif_set (L := L) (j := j) (o := o) (by omega) hoj
  have hwe2 : wrongE S L (L.set j o) = 0 := by unfold wrongE; rw [hs, if_pos rfl, hbo]
  have hwv2 : wrongV S L (L.set j o) = true := by unfold wrongV; rw [hwe2, hdi]; rfl
  have hne2 : nextE S k L (L.set j o) = 0 := by unfold nextE; rw [if_pos hcn, hbo]
  have hnv2 : nextV S k L (L.set j o) = if k + 1 ≤ 1048576 then k + 1 else 1048576 := by unfold nextV; rw [if_pos ⟨hne2, hdi⟩]
  have HC3 : Hid (∀ w', Kept w w' none → ∀ (b1 : Option Addr) (d1 : Nat), By w' b1 n (L.set j o) → Calls Tryd.prog 8 #[siteV X S, .slice a n c, .slice b1 n d1] w' fun e w2 => e = .returned (.tuple #[.bool true, .int .i64 0]) ∧ Kept w' w2 none) := fun w' q b1 d1 hb => by
    have hx := wrong_any (c := c) (d := d1) (h.kept q) (hT.kept q) (hA.by_.kept q) hb
    rw [hwe2, hwv2] at hx
    exact hx
  have HC4 : Hid (∀ w', Kept w w' none → ∀ (b1 : Option Addr) (d1 : Nat), By w' b1 n (L.set j o) → Calls Tryd.prog 9 #[siteV X S, .int .i64 k, .slice a n c, .slice b1 n d1] w' fun e w2 => e = .returned (.tuple #[.int .i64 (k + 1), .int .i64 0]) ∧ Kept w' w2 none) := fun w' q b1 d1 hb => by
    have hx := next_any (c := c) (d := d1) (h.kept q) (hT.kept q) (hA.by_.kept q) hb k
    rw [hne2, hnv2, if_pos (by omega)] at hx
    exact hx
  have HSTO : Hid (∀ (w1 : World) (base : Nat) (a1 : Option Addr) (c1 : Nat), Mine w1 base a1 n c1 L → ∃ g, a1 = some ⟨g, 0, none⟩ ∧ base ≤ g ∧ n ≤ c1 ∧ c1 ≤ 9223372036854775807 ∧ (∃ v, w1.cell? ⟨g, j, none⟩ = some (.int .u8 v)) ∧ w1.frozen? ⟨g, j, none⟩ = false ∧ By (w1.setCell ⟨g, j, none⟩ (.int .u8 (o : Int))) (some ⟨g, 0, none⟩) n (L.set j o)) := fun w1 base a1 c1 hm => mine_store hm hA.by_.lt hjn (by omega)
  have HOJ : Hid (o ≠ at10 L j) := hoj
  have hob : ((o : Int) == (at10 L j : Int)) = false := by simp; omega
  clear hwe hwv hcn hne hnv hz hbo hdi hwe2 hwv2 hne2 hnv2 hoj
  generalize hLs : L.set j o = Ls at *
  clear hLs
  have p1 : decide ((j : Int) < 0) = false := decide_eq_false (by omega)
  have p2 : decide ((n : Int) ≤ (j : Int)) = false := by simp; omega
  have p3 : decide ((4 : Int) < (o : Int)) = false := by simp; omega
  have hkA : Kept w (w.alloc (.cells #[.int .i64 S.id, .slice X.g S.groups.length X.gc, .slice X.a S.apart.length X.ac, .slice X.b S.between.length X.bc, .slice X.p S.phases.length X.pc, .slice X.e S.eyes.length X.ec, .int .i64 S.watch, .int .i64 S.feed, .int .i64 S.heal, .int .i64 S.low, .int .i64 S.high, .slice X.l S.plans.length X.lc] 29)) none := Kept.alloc _ _ _ _ _
  have hsb := sbox_alloc h 29
  have HS := Hid.mk' (h.kept hkA)
  have HT := Hid.mk' (hT.kept hkA)
  obtain ⟨WA, hWA⟩ : ∃ WA, (w.alloc (.cells #[.int .i64 S.id, .slice X.g S.groups.length X.gc, .slice X.a S.apart.length X.ac, .slice X.b S.between.length X.bc, .slice X.p S.phases.length X.pc, .slice X.e S.eyes.length X.ec, .int .i64 S.watch, .int .i64 S.feed, .int .i64 S.heal, .int .i64 S.low, .int .i64 S.high, .slice X.l S.plans.length X.lc] 29)) = WA := ⟨_, rfl⟩
  rw [hWA] at hkA hsb HS HT
  have HK := Hid.mk' hkA
  have HA := Hid.mk' (hA.by_.kept hkA)
  have HAN := Hid.mk' hA.nil
  have hAm := hA.by_.max
  have HAL := Hid.mk' hA.by_.lt
  have HAS := Hid.mk' hA.by_.size
  clear hA
  have HSB := Hid.mk' hsb
  have s0_ : ∀ w', Kept WA w' none → w'.cell? ⟨w.heap.size, 0, none⟩ = some (.int .i64 S.id) := fun w' q => (HSB.out.kept q).c0
  have s1_ : ∀ w', Kept WA w' none → w'.cell? ⟨w.heap.size, 1, none⟩ = some (.slice X.g S.groups.length X.gc) := fun w' q => (HSB.out.kept q).c1
  have s2_ : ∀ w', Kept WA w' none → w'.cell? ⟨w.heap.size, 2, none⟩ = some (.slice X.a S.apart.length X.ac) := fun w' q => (HSB.out.kept q).c2
  have s3_ : ∀ w', Kept WA w' none → w'.cell? ⟨w.heap.size, 3, none⟩ = some (.slice X.b S.between.length X.bc) := fun w' q => (HSB.out.kept q).c3
  have s4_ : ∀ w', Kept WA w' none → w'.cell? ⟨w.heap.size, 4, none⟩ = some (.slice X.p S.phases.length X.pc) := fun w' q => (HSB.out.kept q).c4
  have s5_ : ∀ w', Kept WA w' none → w'.cell? ⟨w.heap.size, 5, none⟩ = some (.slice X.e S.eyes.length X.ec) := fun w' q => (HSB.out.kept q).c5
  have s6_ : ∀ w', Kept WA w' none → w'.cell? ⟨w.heap.size, 6, none⟩ = some (.int .i64 S.watch) := fun w' q => (HSB.out.kept q).c6
  have s7_ : ∀ w', Kept WA w' none → w'.cell? ⟨w.heap.size, 7, none⟩ = some (.int .i64 S.feed) := fun w' q => (HSB.out.kept q).c7
  have s8_ : ∀ w', Kept WA w' none → w'.cell? ⟨w.heap.size, 8, none⟩ = some (.int .i64 S.heal) := fun w' q => (HSB.out.kept q).c8
  have s9_ : ∀ w', Kept WA w' none → w'.cell? ⟨w.heap.size, 9, none⟩ = some (.int .i64 S.low) := fun w' q => (HSB.out.kept q).c9
  have s10_ : ∀ w', Kept WA w' none → w'.cell? ⟨w.heap.size, 10, none⟩ = some (.int .i64 S.high) := fun w' q => (HSB.out.kept q).c10
  have s11_ : ∀ w', Kept WA w' none → w'.cell? ⟨w.heap.size, 11, none⟩ = some (.slice X.l S.plans.length X.lc) := fun w' q => (HSB.out.kept q).c11
  have hK0 := Kept.refl WA none
  clear h hT hkA hsb
  go_enter Tryd.func5, Tryd.ntmps5
  go_wp2_with (first | rw [hWA] | (go_at_call 11; refine (balive_any HT.out).mono ?_; rintro e wa ⟨rfl, hka⟩; have hKa : Kept WA wa none := hka))
  go_at_call 12
  refine (rgreat_any (HS.out.kept hKa)).mono ?_
  rintro e wg ⟨gr, rfl, hgr, hkg⟩
  have hKg : Kept WA wg none := hKa.tr hkg
  clear hgr
  cases gr with
  | true =>
    go_wp2
    go_ret
    exact ⟨rfl, (HK.out.tr hKg).below⟩
  | false =>
    go_wp2_with (first | rw [hW5] | (have hgo := hp5; clear hgo; go_at_call 9; refine (HC4.out _ (HK.out.tr hp5) _ _ HB5.out).mono ?_; rintro e u6 ⟨rfl, hk⟩; have hp6 : Kept WA u6 none := hp5.tr hk; clear hk) | (have hgo := HBY; clear hgo; go_at_call 8; refine (HC3.out _ (HK.out.tr hp4) _ _ HBY.out).mono ?_; rintro e u5 ⟨rfl, hk⟩; have hp5 : Kept WA u5 none := hp4.tr hk; have HB5 := Hid.mk' (HBY.out.kept hk); clear hk) | (have hgo := hp2; clear hgo; at_builtin; refine wpList_join10 (by rfl) _ _ (by rfl) u2.heap.size (by rfl) (some ⟨b0, o0, none⟩) n c L (by rfl) (HA.out.kept hp2) HAN.out (by omega) (Nat.le_refl _) ?_; intro a1 c1 w1 hm1 hk1; obtain ⟨g, hg, hnew, hle, hcm, ⟨v0, y0⟩, z0, hby2⟩ := HSTO.out _ _ _ _ hm1; subst hg; have hp4 : Kept WA (w1.setCell ⟨g, j, none⟩ (.int .u8 (o : Int))) none := hp2.tr (hk1.setNew (p := ⟨g, j, none⟩) hnew _); obtain ⟨W5, hW5⟩ : ∃ W5, w1.setCell ⟨g, j, none⟩ (.int .u8 (o : Int)) = W5 := ⟨_, rfl⟩; rw [hW5] at hby2 hp4; have HBY := Hid.mk' hby2; clear hm1 hk1 hby2 hp2) | (have hgo := hp1; clear hgo; go_at_call 9; refine (HC2.out _ (HK.out.tr hp1)).mono ?_; rintro e u2 ⟨rfl, hk⟩; have hp2 : Kept WA u2 none := hp1.tr hk; obtain ⟨b0, o0, hb0, _, hc0⟩ := (HA.out.kept hp2).at_ (by omega); subst hb0; have kc0 := hc0 j hjn; rw [show L.getD j 0 = at10 L j from rfl] at kc0; clear hc0; clear hk hp1) | (go_at_call 8; refine (HC1.out _ (HK.out.tr hKC)).mono ?_; rintro e u1 ⟨rfl, hk⟩; have hp1 : Kept WA u1 none := hKC.tr hk; clear hk) | (go_at_call 16; have hx := check_any (HS.out.kept hKg) (HT.out.kept hKg); rw [hce] at hx; refine hx.mono ?_; rintro e wC ⟨rfl, hkC⟩; have hKC : Kept WA wC none := hKg.tr hkC; clear hx))
    go_ret
    exact ⟨rfl, (HK.out.tr hp6).below⟩
set_option maxRecDepth 100000 in
set_option maxHeartbeats 4000000 in
theorem brig_top {X : Sa} {S : St} {w : World} (h : Sat w X S) (hT : Tabb w) {a : Option Addr} {n c : Nat} {L : List Nat} (hA : Come w a n c L) (k p : Int) (o : Nat) (hl : n ≤ 100) (hs : siteB S = true) (hk0 : 0 ≤ k) (hk1 : k ≤ 1048576) (hz : litE S.groups.length L = 0) (j : Nat) (hj : p = (j : Int)) (hjn : j < n) (ho : o ≤ 4) (hoj : o ≠ at10 L j) (hkk : k = 1048576) : Calls Tryd.prog 5 #[siteV X S, .int .i64 k, .slice a n c, .int .i64 p, .int .u8 (o : Int)] w fun e w' => e = .returned (.bool true) ∧ Below w.heap.size w w' := by
  have hlb : decide ((100 : Int) < (n : Int)) = false := by simp; omega
  have hce : checkE S = 0 := by unfold checkE; rw [hs]; rfl
  have h1 : decide (k < 0) = false := by simp; omega
  have h2 : decide (1048576 < k) = false := by simp; omega
  have hwe : wrongE S L L = 0 := by unfold wrongE; rw [hs, if_pos rfl, bothE_self, hz]
  have hwv : wrongV S L L = false := by unfold wrongV; rw [difB_same, Bool.and_false]
  have hcn : countE S k = 0 := by unfold countE; rw [hs, if_pos rfl, if_pos ⟨hk0, hk1⟩]
  have hne : nextE S k L [] = 0 := by unfold nextE; rw [if_pos hcn, bothE_nil, hz]
  have hnv : nextV S k L [] = 0 := by unfold nextV; rw [if_neg (by rw [difB_nil]; simp)]
  have HC1 : Hid (∀ w', Kept w w' none → Calls Tryd.prog 8 #[siteV X S, .slice a n c, .slice a n c] w' fun e w2 => e = .returned (.tuple #[.bool false, .int .i64 0]) ∧ Kept w' w2 none) := fun w' q => by
    have hx := wrong_any (c := c) (d := c) (h.kept q) (hT.kept q) (hA.by_.kept q) (hA.by_.kept q)
    rw [hwe, hwv] at hx
    exact hx
  have HC2 : Hid (∀ w', Kept w w' none → Calls Tryd.prog 9 #[siteV X S, .int .i64 k, .slice a n c, .slice none 0 0] w' fun e w2 => e = .returned (.tuple #[.int .i64 0, .int .i64 0]) ∧ Kept w' w2 none) := fun w' q => by
    have hx := next_any (c := c) (d := 0) (h.kept q) (hT.kept q) (hA.by_.kept q) (By.nil _ none) k
    rw [hne, hnv] at hx
    exact hx
  subst hj
  have hAl := hA.by_.size
  have hbo := both_set (g := S.groups.length) (j := j) (o := o) hz (by omega) ho
  have hdi := dif_set (L := L) (j := j) (o := o) (by omega) hoj
  have hwe2 : wrongE S L (L.set j o) = 0 := by unfold wrongE; rw [hs, if_pos rfl, hbo]
  have hwv2 : wrongV S L (L.set j o) = true := by unfold wrongV; rw [hwe2, hdi]; rfl
  have hne2 : nextE S k L (L.set j o) = 0 := by unfold nextE; rw [if_pos hcn, hbo]
  have hnv2 : nextV S k L (L.set j o) = if k + 1 ≤ 1048576 then k + 1 else 1048576 := by unfold nextV; rw [if_pos ⟨hne2, hdi⟩]
  have HC3 : Hid (∀ w', Kept w w' none → ∀ (b1 : Option Addr) (d1 : Nat), By w' b1 n (L.set j o) → Calls Tryd.prog 8 #[siteV X S, .slice a n c, .slice b1 n d1] w' fun e w2 => e = .returned (.tuple #[.bool true, .int .i64 0]) ∧ Kept w' w2 none) := fun w' q b1 d1 hb => by
    have hx := wrong_any (c := c) (d := d1) (h.kept q) (hT.kept q) (hA.by_.kept q) hb
    rw [hwe2, hwv2] at hx
    exact hx
  have HC4 : Hid (∀ w', Kept w w' none → ∀ (b1 : Option Addr) (d1 : Nat), By w' b1 n (L.set j o) → Calls Tryd.prog 9 #[siteV X S, .int .i64 k, .slice a n c, .slice b1 n d1] w' fun e w2 => e = .returned (.tuple #[.int .i64 1048576, .int .i64 0]) ∧ Kept w' w2 none) := fun w' q b1 d1 hb => by
    have hx := next_any (c := c) (d := d1) (h.kept q) (hT.kept q) (hA.by_.kept q) hb k
    rw [hne2, hnv2, if_neg (by omega)] at hx
    exact hx
  have HSTO : Hid (∀ (w1 : World) (base : Nat) (a1 : Option Addr) (c1 : Nat), Mine w1 base a1 n c1 L → ∃ g, a1 = some ⟨g, 0, none⟩ ∧ base ≤ g ∧ n ≤ c1 ∧ c1 ≤ 9223372036854775807 ∧ (∃ v, w1.cell? ⟨g, j, none⟩ = some (.int .u8 v)) ∧ w1.frozen? ⟨g, j, none⟩ = false ∧ By (w1.setCell ⟨g, j, none⟩ (.int .u8 (o : Int))) (some ⟨g, 0, none⟩) n (L.set j o)) := fun w1 base a1 c1 hm => mine_store hm hA.by_.lt hjn (by omega)
  have HOJ : Hid (o ≠ at10 L j) := hoj
  have hob : ((o : Int) == (at10 L j : Int)) = false := by simp; omega
  clear hwe hwv hcn hne hnv hz hbo hdi hwe2 hwv2 hne2 hnv2 hoj
  generalize hLs : L.set j o = Ls at *
  clear hLs
  have p1 : decide ((j : Int) < 0) = false := decide_eq_false (by omega)
  have p2 : decide ((n : Int) ≤ (j : Int)) = false := by simp; omega
  have p3 : decide ((4 : Int) < (o : Int)) = false := by simp; omega
  subst hkk
  have hkA : Kept w (w.alloc (.cells #[.int .i64 S.id, .slice X.g S.groups.length X.gc, .slice X.a S.apart.length X.ac, .slice X.b S.between.length X.bc, .slice X.p S.phases.length X.pc, .slice X.e S.eyes.length X.ec, .int .i64 S.watch, .int .i64 S.feed, .int .i64 S.heal, .int .i64 S.low, .int .i64 S.high, .slice X.l S.plans.length X.lc] 29)) none := Kept.alloc _ _ _ _ _
  have hsb := sbox_alloc h 29
  have HS := Hid.mk' (h.kept hkA)
  have HT := Hid.mk' (hT.kept hkA)
  obtain ⟨WA, hWA⟩ : ∃ WA, (w.alloc (.cells #[.int .i64 S.id, .slice X.g S.groups.length X.gc, .slice X.a S.apart.length X.ac, .slice X.b S.between.length X.bc, .slice X.p S.phases.length X.pc, .slice X.e S.eyes.length X.ec, .int .i64 S.watch, .int .i64 S.feed, .int .i64 S.heal, .int .i64 S.low, .int .i64 S.high, .slice X.l S.plans.length X.lc] 29)) = WA := ⟨_, rfl⟩
  rw [hWA] at hkA hsb HS HT
  have HK := Hid.mk' hkA
  have HA := Hid.mk' (hA.by_.kept hkA)
  have HAN := Hid.mk' hA.nil
  have hAm := hA.by_.max
  have HAL := Hid.mk' hA.by_.lt
  have HAS := Hid.mk' hA.by_.size
  clear hA
  have HSB := Hid.mk' hsb
  have s0_ : ∀ w', Kept WA w' none → w'.cell? ⟨w.heap.size, 0, none⟩ = some (.int .i64 S.id) := fun w' q => (HSB.out.kept q).c0
  have s1_ : ∀ w', Kept WA w' none → w'.cell? ⟨w.heap.size, 1, none⟩ = some (.slice X.g S.groups.length X.gc) := fun w' q => (HSB.out.kept q).c1
  have s2_ : ∀ w', Kept WA w' none → w'.cell? ⟨w.heap.size, 2, none⟩ = some (.slice X.a S.apart.length X.ac) := fun w' q => (HSB.out.kept q).c2
  have s3_ : ∀ w', Kept WA w' none → w'.cell? ⟨w.heap.size, 3, none⟩ = some (.slice X.b S.between.length X.bc) := fun w' q => (HSB.out.kept q).c3
  have s4_ : ∀ w', Kept WA w' none → w'.cell? ⟨w.heap.size, 4, none⟩ = some (.slice X.p S.phases.length X.pc) := fun w' q => (HSB.out.kept q).c4
  have s5_ : ∀ w', Kept WA w' none → w'.cell? ⟨w.heap.size, 5, none⟩ = some (.slice X.e S.eyes.length X.ec) := fun w' q => (HSB.out.kept q).c5
  have s6_ : ∀ w', Kept WA w' none → w'.cell? ⟨w.heap.size, 6, none⟩ = some (.int .i64 S.watch) := fun w' q => (HSB.out.kept q).c6
  have s7_ : ∀ w', Kept WA w' none → w'.cell? ⟨w.heap.size, 7, none⟩ = some (.int .i64 S.feed) := fun w' q => (HSB.out.kept q).c7
  have s8_ : ∀ w', Kept WA w' none → w'.cell? ⟨w.heap.size, 8, none⟩ = some (.int .i64 S.heal) := fun w' q => (HSB.out.kept q).c8
  have s9_ : ∀ w', Kept WA w' none → w'.cell? ⟨w.heap.size, 9, none⟩ = some (.int .i64 S.low) := fun w' q => (HSB.out.kept q).c9
  have s10_ : ∀ w', Kept WA w' none → w'.cell? ⟨w.heap.size, 10, none⟩ = some (.int .i64 S.high) := fun w' q => (HSB.out.kept q).c10
  have s11_ : ∀ w', Kept WA w' none → w'.cell? ⟨w.heap.size, 11, none⟩ = some (.slice X.l S.plans.length X.lc) := fun w' q => (HSB.out.kept q).c11
  have hK0 := Kept.refl WA none
  clear h hT hkA hsb
  go_enter Tryd.func5, Tryd.ntmps5
  go_wp2_with (first | rw [hWA] | (go_at_call 11; refine (balive_any HT.out).mono ?_; rintro e wa ⟨rfl, hka⟩; have hKa : Kept WA wa none := hka))
  go_at_call 12
  refine (rgreat_any (HS.out.kept hKa)).mono ?_
  rintro e wg ⟨gr, rfl, hgr, hkg⟩
  have hKg : Kept WA wg none := hKa.tr hkg
  clear hgr
  cases gr with
  | true =>
    go_wp2
    go_ret
    exact ⟨rfl, (HK.out.tr hKg).below⟩
  | false =>
    go_wp2_with (first | rw [hW5] | (have hgo := hp5; clear hgo; go_at_call 9; refine (HC4.out _ (HK.out.tr hp5) _ _ HB5.out).mono ?_; rintro e u6 ⟨rfl, hk⟩; have hp6 : Kept WA u6 none := hp5.tr hk; clear hk) | (have hgo := HBY; clear hgo; go_at_call 8; refine (HC3.out _ (HK.out.tr hp4) _ _ HBY.out).mono ?_; rintro e u5 ⟨rfl, hk⟩; have hp5 : Kept WA u5 none := hp4.tr hk; have HB5 := Hid.mk' (HBY.out.kept hk); clear hk) | (have hgo := hp2; clear hgo; at_builtin; refine wpList_join10 (by rfl) _ _ (by rfl) u2.heap.size (by rfl) (some ⟨b0, o0, none⟩) n c L (by rfl) (HA.out.kept hp2) HAN.out (by omega) (Nat.le_refl _) ?_; intro a1 c1 w1 hm1 hk1; obtain ⟨g, hg, hnew, hle, hcm, ⟨v0, y0⟩, z0, hby2⟩ := HSTO.out _ _ _ _ hm1; subst hg; have hp4 : Kept WA (w1.setCell ⟨g, j, none⟩ (.int .u8 (o : Int))) none := hp2.tr (hk1.setNew (p := ⟨g, j, none⟩) hnew _); obtain ⟨W5, hW5⟩ : ∃ W5, w1.setCell ⟨g, j, none⟩ (.int .u8 (o : Int)) = W5 := ⟨_, rfl⟩; rw [hW5] at hby2 hp4; have HBY := Hid.mk' hby2; clear hm1 hk1 hby2 hp2) | (have hgo := hp1; clear hgo; go_at_call 9; refine (HC2.out _ (HK.out.tr hp1)).mono ?_; rintro e u2 ⟨rfl, hk⟩; have hp2 : Kept WA u2 none := hp1.tr hk; obtain ⟨b0, o0, hb0, _, hc0⟩ := (HA.out.kept hp2).at_ (by omega); subst hb0; have kc0 := hc0 j hjn; rw [show L.getD j 0 = at10 L j from rfl] at kc0; clear hc0; clear hk hp1) | (go_at_call 8; refine (HC1.out _ (HK.out.tr hKC)).mono ?_; rintro e u1 ⟨rfl, hk⟩; have hp1 : Kept WA u1 none := hKC.tr hk; clear hk) | (go_at_call 16; have hx := check_any (HS.out.kept hKg) (HT.out.kept hKg); rw [hce] at hx; refine hx.mono ?_; rintro e wC ⟨rfl, hkC⟩; have hKC : Kept WA wC none := hKg.tr hkC; clear hx))
    go_ret
    exact ⟨rfl, (HK.out.tr hp6).below⟩
theorem brig_any {X : Sa} {S : St} {w : World} (h : Sat w X S) (hT : Tabb w) {a : Option Addr} {n c : Nat} {L : List Nat} (hA : Come w a n c L) (k p : Int) (o : Nat) : Calls Tryd.prog 5 #[siteV X S, .int .i64 k, .slice a n c, .int .i64 p, .int .u8 (o : Int)] w fun e w' => e = .returned (.bool true) ∧ Below w.heap.size w w' := by
  by_cases hl : n ≤ 100
  · cases hs : siteB S with
    | false => exact brig_site h hT hA k p o hl hs
    | true =>
      by_cases hk0 : 0 ≤ k
      · by_cases hk1 : k ≤ 1048576
        · by_cases hz : litE S.groups.length L = 0
          · by_cases q1 : p < 0
            · exact brig_p1 h hT hA k p o hl hs hk0 hk1 hz q1
            · by_cases q2 : (n : Int) ≤ p
              · exact brig_p2 h hT hA k p o hl hs hk0 hk1 hz (by omega) q2
              · have hj : p = ((p.toNat : Nat) : Int) := by omega
                by_cases q3 : 4 < o
                · exact brig_p3 h hT hA k p o hl hs hk0 hk1 hz p.toNat hj (by omega) q3
                · by_cases q4 : o = at10 L p.toNat
                  · exact brig_p4 h hT hA k p o hl hs hk0 hk1 hz p.toNat hj (by omega) (by omega) q4.symm
                  · by_cases q5 : k < 1048576
                    · exact brig_more h hT hA k p o hl hs hk0 hk1 hz p.toNat hj (by omega) (by omega) q4 q5
                    · exact brig_top h hT hA k p o hl hs hk0 hk1 hz p.toNat hj (by omega) (by omega) q4 (by omega)
          · exact brig_err h hT hA k p o hl hs hk0 hk1 _ rfl hz
        · exact brig_high h hT hA k p o hl hs (by omega)
      · exact brig_low h hT hA k p o hl hs (by omega)
  · exact brig_long h hT hA k p o (by omega)

end Go.Proofs.YtlpphapbehajnaaDoor
