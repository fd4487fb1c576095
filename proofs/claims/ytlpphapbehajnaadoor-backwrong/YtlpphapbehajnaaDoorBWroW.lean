/-
  THE WALK of BackWrong (made by a program).
-/
import Derived.Test.YtlpphapbehajnaaDoorBackR
import Derived.Test.YtlpphapbehajnaaDoorRefG
import Derived.Test.YtlpphapbehajnaaDoorJoin
namespace Go.Proofs.YtlpphapbehajnaaDoor
open Go.RowKit Go.Lib Go.Deep
set_option linter.unusedVariables false
set_option linter.unusedSimpArgs false

theorem wpList_join10 {ops : Array Oper} {rest : List Oper} {o : Oper} {act : Act} {Q : Exit → Act → World → Prop} {w : World} (hgd : o.guard = none) (s x : Operand)
    (ho : o.op = .call { callee := .builtin .append, args := #[s, x], argTypes := #[34, 34] })
    (base : Nat) (hs : act.eval s = .slice none 0 0) (a : Option Addr) (m c : Nat) (M : List Nat) (hx : act.eval x = .slice a m c) (hB : By w a m M) (ha : a = none → c = 0)
    (hm : m ≤ 70368744177664) (hbase : base ≤ w.heap.size)
    (h : ∀ a' cap w', Mine w' base a' m cap M → Kept w w' none → wpList Tryd.prog ops Q rest (act.put o.dst (.slice a' m cap)) w') : wpList Tryd.prog ops Q (o :: rest) act w := by
  refine wpList_join hgd s x ho base (.slice none 0 0) 0 [] hs (World.ownsRow_nil _ _ _ _) a m c M hx hB ha (by omega) hbase ?_
  intro a' cap w' h1 h2
  rw [Nat.zero_add] at h1 ⊢
  exact h a' cap w' h1 h2
set_option maxRecDepth 100000 in
set_option maxHeartbeats 4000000 in
theorem bwro_long {X : Sa} {S : St} {w : World} (h : Sat w X S) (hT : Tabb w) {a b : Option Addr} {n c m d : Nat} {L M : List Nat} (hA : Come w a n c L) (hB : Come w b m d M) (k : Int) (hl : 100 < n) : Calls Tryd.prog 4 #[siteV X S, .int .i64 k, .slice a n c, .slice b m d] w fun e w' => e = .returned (.bool true) ∧ Below w.heap.size w w' := by
  have hlb : decide ((100 : Int) < (n : Int)) = true := by simp; omega
  have hkA : Kept w (w.alloc (.cells #[.int .i64 S.id, .slice X.g S.groups.length X.gc, .slice X.a S.apart.length X.ac, .slice X.b S.between.length X.bc, .slice X.p S.phases.length X.pc, .slice X.e S.eyes.length X.ec, .int .i64 S.watch, .int .i64 S.feed, .int .i64 S.heal, .int .i64 S.low, .int .i64 S.high, .slice X.l S.plans.length X.lc] 29)) none := Kept.alloc _ _ _ _ _
  have hsb := sbox_alloc h 29
  have HS := Hid.mk' (h.kept hkA)
  have HT := Hid.mk' (hT.kept hkA)
  obtain ⟨WA, hWA⟩ : ∃ WA, (w.alloc (.cells #[.int .i64 S.id, .slice X.g S.groups.length X.gc, .slice X.a S.apart.length X.ac, .slice X.b S.between.length X.bc, .slice X.p S.phases.length X.pc, .slice X.e S.eyes.length X.ec, .int .i64 S.watch, .int .i64 S.feed, .int .i64 S.heal, .int .i64 S.low, .int .i64 S.high, .slice X.l S.plans.length X.lc] 29)) = WA := ⟨_, rfl⟩
  rw [hWA] at hkA hsb HS HT
  have HK := Hid.mk' hkA
  have HA := Hid.mk' (hA.by_.kept hkA)
  have HB := Hid.mk' (hB.by_.kept hkA)
  have HAN := Hid.mk' hA.nil
  have HBN := Hid.mk' hB.nil
  have hAm := hA.by_.max
  have hBm := hB.by_.max
  have HAL := Hid.mk' hA.by_.lt
  have HBL := Hid.mk' hB.by_.lt
  clear hA hB
  have HSB := Hid.mk' hsb
  have s0_ : ∀ w', Kept WA w' none → w'.cell? ⟨w.heap.size, 0, none⟩ = some (.int .i64 S.id) := fun w' q => (HSB.out.kept q).c0
  have s1_ : ∀ w', Kept WA w' none → w'.cell? ⟨w.heap.size, 1, none⟩ = some (.slice X.g S.groups.length X.gc) := fun w' q => (HSB.out.kept q).c1
  have s2_ : ∀ w', Kept WA w' none → w'.cell? ⟨w.heap.size, 2, none⟩ = some (.slice X.a S.apart.length X.ac) := fun w' q => (HSB.out.kept q).c2
  have s3_ : ∀ w', Kept WA w' none → w'.cell? ⟨w.heap.size, 3, none⟩ = some (.slice X.b S.between.length X.bc) := fun w' q => (HSB.out.kept q).c3
  have s4_ : ∀ w', Kept WA w' none → w'.cell? ⟨w.heap.size, 4, none⟩ = some (.slice X.p S.phases.length X.pc) := fun w' q => (HSB.out.kept q).c4
  have s5_ : ∀ w', Kept WA w' none → w'.cell? ⟨w.heap.size, 5, none⟩ = some (.slice X.e S.eyes.length X.ec) := fun w' q => (HSB.out.kept q).c5
  have s6_ : ∀ w', Kept WA w' none → w'.cell? ⟨w.heap.size, 6, none⟩ = some (.int .i64 S.watch) := fun w' q => (HSB.out.kept q).c6
  have s7_ : ∀ w', Kept WA w' none → w'.cell? ⟨w.heap.size, 7, none⟩ = some (.int .i64 S.feed) := fun w' q => (HSB.out.kept q).c7
  have s8_ : ∀ w', Kept WA w' none → w'.cell? ⟨w.heap.size, 8, none⟩ = some (.int .i64 S.heal) := fun w' q => (HSB.out.kept q).c8
  have s9_ : ∀ w', Kept WA w' none → w'.cell? ⟨w.heap.size, 9, none⟩ = some (.int .i64 S.low) := fun w' q => (HSB.out.kept q).c9
  have s10_ : ∀ w', Kept WA w' none → w'.cell? ⟨w.heap.size, 10, none⟩ = some (.int .i64 S.high) := fun w' q => (HSB.out.kept q).c10
  have s11_ : ∀ w', Kept WA w' none → w'.cell? ⟨w.heap.size, 11, none⟩ = some (.slice X.l S.plans.length X.lc) := fun w' q => (HSB.out.kept q).c11
  have hK0 := Kept.refl WA none
  clear h hT hkA hsb
  go_enter Tryd.func4, Tryd.ntmps4
  go_wp2_with (first | rw [hWA])
  have hKa := Kept.refl WA none
  go_at_call 12
  refine (rgreat_any (HS.out.kept hKa)).mono ?_
  rintro e wg ⟨gr, rfl, hgr, hkg⟩
  have hKg : Kept WA wg none := hKa.tr hkg
  clear hgr
  cases gr with
  | true =>
    go_wp2
    go_ret
    exact ⟨rfl, (HK.out.tr hKg).below⟩
  | false =>
    go_wp2
    go_ret
    exact ⟨rfl, (HK.out.tr hKg).below⟩
set_option maxRecDepth 100000 in
set_option maxHeartbeats 4000000 in
theorem bwro_wide {X : Sa} {S : St} {w : World} (h : Sat w X S) (hT : Tabb w) {a b : Option Addr} {n c m d : Nat} {L M : List Nat} (hA : Come w a n c L) (hB : Come w b m d M) (k : Int) (hl : n ≤ 100) (hw : 100 < m) : Calls Tryd.prog 4 #[siteV X S, .int .i64 k, .slice a n c, .slice b m d] w fun e w' => e = .returned (.bool true) ∧ Below w.heap.size w w' := by
  have hlb : decide ((100 : Int) < (n : Int)) = false := by simp; omega
  have hwb : decide ((100 : Int) < (m : Int)) = true := by simp; omega
  have hkA : Kept w (w.alloc (.cells #[.int .i64 S.id, .slice X.g S.groups.length X.gc, .slice X.a S.apart.length X.ac, .slice X.b S.between.length X.bc, .slice X.p S.phases.length X.pc, .slice X.e S.eyes.length X.ec, .int .i64 S.watch, .int .i64 S.feed, .int .i64 S.heal, .int .i64 S.low, .int .i64 S.high, .slice X.l S.plans.length X.lc] 29)) none := Kept.alloc _ _ _ _ _
  have hsb := sbox_alloc h 29
  have HS := Hid.mk' (h.kept hkA)
  have HT := Hid.mk' (hT.kept hkA)
  obtain ⟨WA, hWA⟩ : ∃ WA, (w.alloc (.cells #[.int .i64 S.id, .slice X.g S.groups.length X.gc, .slice X.a S.apart.length X.ac, .slice X.b S.between.length X.bc, .slice X.p S.phases.length X.pc, .slice X.e S.eyes.length X.ec, .int .i64 S.watch, .int .i64 S.feed, .int .i64 S.heal, .int .i64 S.low, .int .i64 S.high, .slice X.l S.plans.length X.lc] 29)) = WA := ⟨_, rfl⟩
  rw [hWA] at hkA hsb HS HT
  have HK := Hid.mk' hkA
  have HA := Hid.mk' (hA.by_.kept hkA)
  have HB := Hid.mk' (hB.by_.kept hkA)
  have HAN := Hid.mk' hA.nil
  have HBN := Hid.mk' hB.nil
  have hAm := hA.by_.max
  have hBm := hB.by_.max
  have HAL := Hid.mk' hA.by_.lt
  have HBL := Hid.mk' hB.by_.lt
  clear hA hB
  have HSB := Hid.mk' hsb
  have s0_ : ∀ w', Kept WA w' none → w'.cell? ⟨w.heap.size, 0, none⟩ = some (.int .i64 S.id) := fun w' q => (HSB.out.kept q).c0
  have s1_ : ∀ w', Kept WA w' none → w'.cell? ⟨w.heap.size, 1, none⟩ = some (.slice X.g S.groups.length X.gc) := fun w' q => (HSB.out.kept q).c1
  have s2_ : ∀ w', Kept WA w' none → w'.cell? ⟨w.heap.size, 2, none⟩ = some (.slice X.a S.apart.length X.ac) := fun w' q => (HSB.out.kept q).c2
  have s3_ : ∀ w', Kept WA w' none → w'.cell? ⟨w.heap.size, 3, none⟩ = some (.slice X.b S.between.length X.bc) := fun w' q => (HSB.out.kept q).c3
  have s4_ : ∀ w', Kept WA w' none → w'.cell? ⟨w.heap.size, 4, none⟩ = some (.slice X.p S.phases.length X.pc) := fun w' q => (HSB.out.kept q).c4
  have s5_ : ∀ w', Kept WA w' none → w'.cell? ⟨w.heap.size, 5, none⟩ = some (.slice X.e S.eyes.length X.ec) := fun w' q => (HSB.out.kept q).c5
  have s6_ : ∀ w', Kept WA w' none → w'.cell? ⟨w.heap.size, 6, none⟩ = some (.int .i64 S.watch) := fun w' q => (HSB.out.kept q).c6
  have s7_ : ∀ w', Kept WA w' none → w'.cell? ⟨w.heap.size, 7, none⟩ = some (.int .i64 S.feed) := fun w' q => (HSB.out.kept q).c7
  have s8_ : ∀ w', Kept WA w' none → w'.cell? ⟨w.heap.size, 8, none⟩ = some (.int .i64 S.heal) := fun w' q => (HSB.out.kept q).c8
  have s9_ : ∀ w', Kept WA w' none → w'.cell? ⟨w.heap.size, 9, none⟩ = some (.int .i64 S.low) := fun w' q => (HSB.out.kept q).c9
  have s10_ : ∀ w', Kept WA w' none → w'.cell? ⟨w.heap.size, 10, none⟩ = some (.int .i64 S.high) := fun w' q => (HSB.out.kept q).c10
  have s11_ : ∀ w', Kept WA w' none → w'.cell? ⟨w.heap.size, 11, none⟩ = some (.slice X.l S.plans.length X.lc) := fun w' q => (HSB.out.kept q).c11
  have hK0 := Kept.refl WA none
  clear h hT hkA hsb
  go_enter Tryd.func4, Tryd.ntmps4
  go_wp2_with (first | rw [hWA])
  have hKa := Kept.refl WA none
  go_at_call 12
  refine (rgreat_any (HS.out.kept hKa)).mono ?_
  rintro e wg ⟨gr, rfl, hgr, hkg⟩
  have hKg : Kept WA wg none := hKa.tr hkg
  clear hgr
  cases gr with
  | true =>
    go_wp2
    go_ret
    exact ⟨rfl, (HK.out.tr hKg).below⟩
  | false =>
    go_wp2
    go_ret
    exact ⟨rfl, (HK.out.tr hKg).below⟩
set_option maxRecDepth 100000 in
set_option maxHeartbeats 4000000 in
theorem bwro_go {X : Sa} {S : St} {w : World} (h : Sat w X S) (hT : Tabb w) {a b : Option Addr} {n c m d : Nat} {L M : List Nat} (hA : Come w a n c L) (hB : Come w b m d M) (k : Int) (hl : n ≤ 100) (hw : m ≤ 100) : Calls Tryd.prog 4 #[siteV X S, .int .i64 k, .slice a n c, .slice b m d] w fun e w' => e = .returned (.bool true) ∧ Below w.heap.size w w' := by
  have hlb : decide ((100 : Int) < (n : Int)) = false := by simp; omega
  have hwb : decide ((100 : Int) < (m : Int)) = false := by simp; omega
  have HC1 : Hid (∀ w', Kept w w' none → ∀ (a1 b1 : Option Addr) (c1 d1 : Nat), By w' a1 n L → By w' b1 m M → Calls Tryd.prog 8 #[siteV X S, .slice a1 n c1, .slice b1 m d1] w' fun e w2 => e = .returned (.tuple #[.bool (wrongV S L M), .int .i64 (wrongE S L M)]) ∧ Kept w' w2 none) := fun w' q a1 b1 c1 d1 h1 h2 => wrong_any (h.kept q) (hT.kept q) h1 h2
  have HC2 : Hid (∀ w', Kept w w' none → ∀ (a1 b1 : Option Addr) (c1 d1 : Nat), By w' a1 n L → By w' b1 m M → Calls Tryd.prog 13 #[siteV X S, .slice a1 n c1, .slice b1 m d1] w' fun e w2 => e = .returned (.tuple #[.bool (wrongV S L M), .int .i64 (wrongE S L M)]) ∧ Kept w' w2 none) := fun w' q a1 b1 c1 d1 h1 h2 => rwrong_any (h.kept q) h1 h2
  have HC3 : Hid (∀ w', Kept w w' none → ∀ (a1 b1 : Option Addr) (c1 d1 : Nat), By w' a1 n L → By w' b1 m M → Calls Tryd.prog 9 #[siteV X S, .int .i64 k, .slice a1 n c1, .slice b1 m d1] w' fun e w2 => e = .returned (.tuple #[.int .i64 (nextV S k L M), .int .i64 (nextE S k L M)]) ∧ Kept w' w2 none) := fun w' q a1 b1 c1 d1 h1 h2 => next_any (h.kept q) (hT.kept q) h1 h2 k
  have HC4 : Hid (∀ w', Kept w w' none → ∀ (a1 b1 : Option Addr) (c1 d1 : Nat), By w' a1 n L → By w' b1 m M → Calls Tryd.prog 14 #[siteV X S, .int .i64 k, .slice a1 n c1, .slice b1 m d1] w' fun e w2 => e = .returned (.tuple #[.int .i64 (nextV S k L M), .int .i64 (nextE S k L M)]) ∧ Kept w' w2 none) := fun w' q a1 b1 c1 d1 h1 h2 => rnext_any (h.kept q) h1 h2 k
  have HC5 : Hid (∀ w', Kept w w' none → ∀ (a1 b1 : Option Addr) (c1 d1 : Nat), By w' a1 n L → By w' b1 m M → Calls Tryd.prog 10 #[siteV X S, .int .i64 k] w' fun e w2 => e = .returned (.tuple #[.bool (latV S k), .int .i64 (countE S k)]) ∧ Kept w' w2 none) := fun w' q a1 b1 c1 d1 h1 h2 => lat_any (h.kept q) (hT.kept q) k
  have HC6 : Hid (∀ w', Kept w w' none → ∀ (a1 b1 : Option Addr) (c1 d1 : Nat), By w' a1 n L → By w' b1 m M → Calls Tryd.prog 15 #[siteV X S, .int .i64 k] w' fun e w2 => e = .returned (.tuple #[.bool (latV S k), .int .i64 (countE S k)]) ∧ Kept w' w2 none) := fun w' q a1 b1 c1 d1 h1 h2 => rlat_any (h.kept q) k
  generalize wrongV S L M = v1 at *
  generalize wrongE S L M = v2 at *
  generalize nextV S k L M = v3 at *
  generalize nextE S k L M = v4 at *
  generalize latV S k = v5 at *
  generalize countE S k = v6 at *
  have hkA : Kept w (w.alloc (.cells #[.int .i64 S.id, .slice X.g S.groups.length X.gc, .slice X.a S.apart.length X.ac, .slice X.b S.between.length X.bc, .slice X.p S.phases.length X.pc, .slice X.e S.eyes.length X.ec, .int .i64 S.watch, .int .i64 S.feed, .int .i64 S.heal, .int .i64 S.low, .int .i64 S.high, .slice X.l S.plans.length X.lc] 29)) none := Kept.alloc _ _ _ _ _
  have hsb := sbox_alloc h 29
  have HS := Hid.mk' (h.kept hkA)
  have HT := Hid.mk' (hT.kept hkA)
  obtain ⟨WA, hWA⟩ : ∃ WA, (w.alloc (.cells #[.int .i64 S.id, .slice X.g S.groups.length X.gc, .slice X.a S.apart.length X.ac, .slice X.b S.between.length X.bc, .slice X.p S.phases.length X.pc, .slice X.e S.eyes.length X.ec, .int .i64 S.watch, .int .i64 S.feed, .int .i64 S.heal, .int .i64 S.low, .int .i64 S.high, .slice X.l S.plans.length X.lc] 29)) = WA := ⟨_, rfl⟩
  rw [hWA] at hkA hsb HS HT
  have HK := Hid.mk' hkA
  have HA := Hid.mk' (hA.by_.kept hkA)
  have HB := Hid.mk' (hB.by_.kept hkA)
  have HAN := Hid.mk' hA.nil
  have HBN := Hid.mk' hB.nil
  have hAm := hA.by_.max
  have hBm := hB.by_.max
  have HAL := Hid.mk' hA.by_.lt
  have HBL := Hid.mk' hB.by_.lt
  clear hA hB
  have HSB := Hid.mk' hsb
  have s0_ : ∀ w', Kept WA w' none → w'.cell? ⟨w.heap.size, 0, none⟩ = some (.int .i64 S.id) := fun w' q => (HSB.out.kept q).c0
  have s1_ : ∀ w', Kept WA w' none → w'.cell? ⟨w.heap.size, 1, none⟩ = some (.slice X.g S.groups.length X.gc) := fun w' q => (HSB.out.kept q).c1
  have s2_ : ∀ w', Kept WA w' none → w'.cell? ⟨w.heap.size, 2, none⟩ = some (.slice X.a S.apart.length X.ac) := fun w' q => (HSB.out.kept q).c2
  have s3_ : ∀ w', Kept WA w' none → w'.cell? ⟨w.heap.size, 3, none⟩ = some (.slice X.b S.between.length X.bc) := fun w' q => (HSB.out.kept q).c3
  have s4_ : ∀ w', Kept WA w' none → w'.cell? ⟨w.heap.size, 4, none⟩ = some (.slice X.p S.phases.length X.pc) := fun w' q => (HSB.out.kept q).c4
  have s5_ : ∀ w', Kept WA w' none → w'.cell? ⟨w.heap.size, 5, none⟩ = some (.slice X.e S.eyes.length X.ec) := fun w' q => (HSB.out.kept q).c5
  have s6_ : ∀ w', Kept WA w' none → w'.cell? ⟨w.heap.size, 6, none⟩ = some (.int .i64 S.watch) := fun w' q => (HSB.out.kept q).c6
  have s7_ : ∀ w', Kept WA w' none → w'.cell? ⟨w.heap.size, 7, none⟩ = some (.int .i64 S.feed) := fun w' q => (HSB.out.kept q).c7
  have s8_ : ∀ w', Kept WA w' none → w'.cell? ⟨w.heap.size, 8, none⟩ = some (.int .i64 S.heal) := fun w' q => (HSB.out.kept q).c8
  have s9_ : ∀ w', Kept WA w' none → w'.cell? ⟨w.heap.size, 9, none⟩ = some (.int .i64 S.low) := fun w' q => (HSB.out.kept q).c9
  have s10_ : ∀ w', Kept WA w' none → w'.cell? ⟨w.heap.size, 10, none⟩ = some (.int .i64 S.high) := fun w' q => (HSB.out.kept q).c10
  have s11_ : ∀ w', Kept WA w' none → w'.cell? ⟨w.heap.size, 11, none⟩ = some (.slice X.l S.plans.length X.lc) := fun w' q => (HSB.out.kept q).c11
  have hK0 := Kept.refl WA none
  clear h hT hkA hsb
  go_enter Tryd.func4, Tryd.ntmps4
  go_wp2_with (first | rw [hWA])
  have hKa := Kept.refl WA none
  go_at_call 12
  refine (rgreat_any (HS.out.kept hKa)).mono ?_
  rintro e wg ⟨gr, rfl, hgr, hkg⟩
  have hKg : Kept WA wg none := hKa.tr hkg
  clear hgr
  cases gr with
  | true =>
    go_wp2
    go_ret
    exact ⟨rfl, (HK.out.tr hKg).below⟩
  | false =>
    go_wp2_with (first | (have hgo := hp5; clear hgo; go_at_call 15; refine (HC6.out _ (HK.out.tr (hK2.tr hp5)) _ _ 0 0 (HA.out.kept (hK2.tr hp5)) (HB.out.kept (hK2.tr hp5))).mono ?_; rintro e u6 ⟨rfl, hk⟩; have hp6 : Kept w2 u6 none := hp5.tr hk; have hq6 : Kept WA u6 none := hK2.tr hp6; clear hk hp5; have t1 := run_text (MA.out.by HAL.out |>.kept (K12.out.tr hp6)) c1; have t2 := run_text (HA.out.kept (hK2.tr hp6)) c; have t3 := run_text (MB.out.by HBL.out |>.kept hp6) c2; have t4 := run_text (HB.out.kept (hK2.tr hp6)) d; obtain ⟨TL, hTL⟩ : ∃ T, textOf L = T := ⟨_, rfl⟩; obtain ⟨TM, hTM⟩ : ∃ T, textOf M = T := ⟨_, rfl⟩; rw [hTL] at t1 t2; rw [hTM] at t3 t4; clear hTL hTM) | (have hgo := hp4; clear hgo; go_at_call 10; refine (HC5.out _ (HK.out.tr (hK2.tr hp4)) _ _ 0 0 (MA.out.by HAL.out |>.kept (K12.out.tr hp4)) (MB.out.by HBL.out |>.kept hp4)).mono ?_; rintro e u5 ⟨rfl, hk⟩; have hp5 : Kept w2 u5 none := hp4.tr hk; have hq5 : Kept WA u5 none := hK2.tr hp5; clear hk hp4) | (have hgo := hp3; clear hgo; go_at_call 14; refine (HC4.out _ (HK.out.tr (hK2.tr hp3)) _ _ _ _ (HA.out.kept (hK2.tr hp3)) (HB.out.kept (hK2.tr hp3))).mono ?_; rintro e u4 ⟨rfl, hk⟩; have hp4 : Kept w2 u4 none := hp3.tr hk; have hq4 : Kept WA u4 none := hK2.tr hp4; clear hk hp3) | (have hgo := hp2; clear hgo; go_at_call 9; refine (HC3.out _ (HK.out.tr (hK2.tr hp2)) _ _ _ _ (MA.out.by HAL.out |>.kept (K12.out.tr hp2)) (MB.out.by HBL.out |>.kept hp2)).mono ?_; rintro e u3 ⟨rfl, hk⟩; have hp3 : Kept w2 u3 none := hp2.tr hk; have hq3 : Kept WA u3 none := hK2.tr hp3; clear hk hp2) | (have hgo := hp1; clear hgo; go_at_call 13; refine (HC2.out _ (HK.out.tr (hK2.tr hp1)) _ _ _ _ (HA.out.kept (hK2.tr hp1)) (HB.out.kept (hK2.tr hp1))).mono ?_; rintro e u2 ⟨rfl, hk⟩; have hp2 : Kept w2 u2 none := hp1.tr hk; have hq2 : Kept WA u2 none := hK2.tr hp2; clear hk hp1) | (have hgo := hp0; clear hgo; go_at_call 8; refine (HC1.out _ (HK.out.tr (hK2.tr hp0)) _ _ _ _ (MA.out.by HAL.out |>.kept (K12.out.tr hp0)) (MB.out.by HBL.out |>.kept hp0)).mono ?_; rintro e u1 ⟨rfl, hk⟩; have hp1 : Kept w2 u1 none := hp0.tr hk; have hq1 : Kept WA u1 none := hK2.tr hp1; clear hk hp0) | (have hgo := hK1; clear hgo; at_builtin; refine wpList_join10 (by rfl) _ _ (by rfl) w1.heap.size (by rfl) b m d M (by rfl) (HB.out.kept hK1) HBN.out (by omega) (Nat.le_refl _) ?_; intro a2 c2 w2 hm2 hk2; have MB := Hid.mk' hm2; have K12 := Hid.mk' hk2; have hK2 : Kept WA w2 none := hK1.tr hk2; have hp0 := Kept.refl w2 none; clear hm2 hk1 hk2 hK1) | (at_builtin; refine wpList_join10 (by rfl) _ _ (by rfl) wg.heap.size (by rfl) a n c L (by rfl) (HA.out.kept hKg) HAN.out (by omega) (Nat.le_refl _) ?_; intro a1 c1 w1 hm1 hk1; have MA := Hid.mk' hm1; have hK1 : Kept WA w1 none := hKg.tr hk1; clear hm1))
    go_ret
    exact ⟨rfl, (HK.out.tr (hK2.tr hp6)).below⟩
theorem bwro_any {X : Sa} {S : St} {w : World} (h : Sat w X S) (hT : Tabb w) {a b : Option Addr} {n c m d : Nat} {L M : List Nat} (hA : Come w a n c L) (hB : Come w b m d M) (k : Int) : Calls Tryd.prog 4 #[siteV X S, .int .i64 k, .slice a n c, .slice b m d] w fun e w' => e = .returned (.bool true) ∧ Below w.heap.size w w' := by
  by_cases hl : n ≤ 100
  · by_cases hw : m ≤ 100
    · exact bwro_go h hT hA hB k hl hw
    · exact bwro_wide h hT hA hB k hl (by omega)
  · exact bwro_long h hT hA hB k (by omega)

end Go.Proofs.YtlpphapbehajnaaDoor
