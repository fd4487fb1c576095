/-
  Texts joined: some of those that the proofs of this seat stand on.
-/
import Derived.Test.YtkbhcpgdhbfhnaaDoorToldAJ
import Derived.Test.YtkbhcpgdhbfhnaaDoorRefG
/-
  THE WALK of GateSafe (made by a program).
-/
namespace Go.Proofs.YtkbhcpgdhbfhnaaDoor
open Go.RowKit Go.Lib Go.Deep
set_option linter.unusedVariables false
set_option linter.unusedSimpArgs false

theorem same9_yes {w : World} {a b : Option Addr} {n m c d : Nat} {L : List Nat} (h1 : By w a n L) (h2 : By w b m L) : Calls Tryd.prog 24 #[.slice a n c, .slice b m d] w fun e w' => e = .returned (.bool true) ∧ Kept w w' none := by
  have t1 := run_text h1 c
  have t2 := run_text h2 d
  clear h1 h2
  generalize textOf L = Wx at *
  go_enter Tryd.func24, Tryd.ntmps24
  go_wp2
  go_ret
  exact ⟨rfl, Kept.refl _ _⟩
set_option maxRecDepth 100000 in
set_option maxHeartbeats 4000000 in
theorem gsaf_long {X : Sa} {S : St} {w : World} {a : Option Addr} {c : Nat} {F : Sf} {al : Option Addr} {n cl : Nat} {L : List Nat} (h : Sat w X S) (hT : Tabb w) (hF : SafeAt w a c F) (hB : By w al n L) (hl : 100 < F.groups.length) : Calls Tryd.prog 6 #[siteV X S, safeV a c F, .slice al n cl] w fun e w' => e = .returned (.bool true) ∧ Below w.heap.size w w' := by
  have hlb : decide ((100 : Int) < (F.groups.length : Int)) = true := by simp; omega
  have k1 : Kept w (w.alloc (.cells #[.int .i64 S.id, .slice X.g S.groups.length X.gc, .slice X.a S.apart.length X.ac, .slice X.b S.between.length X.bc, .slice X.p S.phases.length X.pc, .slice X.e S.eyes.length X.ec, .int .i64 S.watch, .int .i64 S.feed, .int .i64 S.heal, .int .i64 S.low, .int .i64 S.high, .slice X.l S.plans.length X.lc] 34)) none := Kept.alloc _ _ _ _ _
  have k2 : Kept (w.alloc (.cells #[.int .i64 S.id, .slice X.g S.groups.length X.gc, .slice X.a S.apart.length X.ac, .slice X.b S.between.length X.bc, .slice X.p S.phases.length X.pc, .slice X.e S.eyes.length X.ec, .int .i64 S.watch, .int .i64 S.feed, .int .i64 S.heal, .int .i64 S.low, .int .i64 S.high, .slice X.l S.plans.length X.lc] 34)) ((w.alloc (.cells #[.int .i64 S.id, .slice X.g S.groups.length X.gc, .slice X.a S.apart.length X.ac, .slice X.b S.between.length X.bc, .slice X.p S.phases.length X.pc, .slice X.e S.eyes.length X.ec, .int .i64 S.watch, .int .i64 S.feed, .int .i64 S.heal, .int .i64 S.low, .int .i64 S.high, .slice X.l S.plans.length X.lc] 34)).alloc (.cells #[.slice a F.groups.length c, .int .i64 F.start, .bool F.flashed] 41)) none := Kept.alloc _ _ _ _ _
  have hsb := (sbox_alloc h 34).kept k2
  have bn := box_alloc (w.alloc (.cells #[.int .i64 S.id, .slice X.g S.groups.length X.gc, .slice X.a S.apart.length X.ac, .slice X.b S.between.length X.bc, .slice X.p S.phases.length X.pc, .slice X.e S.eyes.length X.ec, .int .i64 S.watch, .int .i64 S.feed, .int .i64 S.heal, .int .i64 S.low, .int .i64 S.high, .slice X.l S.plans.length X.lc] 34)) (.slice a F.groups.length c) (.int .i64 F.start) (.bool F.flashed) 41
  rw [World.size_alloc] at bn
  have hkA := k1.tr k2
  obtain ⟨WA, hWA⟩ : ∃ WA, ((w.alloc (.cells #[.int .i64 S.id, .slice X.g S.groups.length X.gc, .slice X.a S.apart.length X.ac, .slice X.b S.between.length X.bc, .slice X.p S.phases.length X.pc, .slice X.e S.eyes.length X.ec, .int .i64 S.watch, .int .i64 S.feed, .int .i64 S.heal, .int .i64 S.low, .int .i64 S.high, .slice X.l S.plans.length X.lc] 34)).alloc (.cells #[.slice a F.groups.length c, .int .i64 F.start, .bool F.flashed] 41)) = WA := ⟨_, rfl⟩
  rw [hWA] at hsb bn hkA
  have HSB := Hid.mk' hsb
  have HBN := Hid.mk' bn
  have HK := Hid.mk' hkA
  have HS := Hid.mk' (h.kept hkA)
  have HT := Hid.mk' (hT.kept hkA)
  have HF := Hid.mk' (hF.kept hkA)
  have HB := Hid.mk' (hB.kept hkA)
  have hBm := hB.max
  have n0_ : ∀ w', Kept WA w' none → w'.cell? ⟨w.heap.size + 1, 0, none⟩ = some (.slice a F.groups.length c) := fun w' q => (HBN.out.kept q).c0
  have n1_ : ∀ w', Kept WA w' none → w'.cell? ⟨w.heap.size + 1, 1, none⟩ = some (.int .i64 F.start) := fun w' q => (HBN.out.kept q).c1
  have n2_ : ∀ w', Kept WA w' none → w'.cell? ⟨w.heap.size + 1, 2, none⟩ = some (.bool F.flashed) := fun w' q => (HBN.out.kept q).c2
  have s0_ : ∀ w', Kept WA w' none → w'.cell? ⟨w.heap.size, 0, none⟩ = some (.int .i64 S.id) := fun w' q => (HSB.out.kept q).c0
  have s1_ : ∀ w', Kept WA w' none → w'.cell? ⟨w.heap.size, 1, none⟩ = some (.slice X.g S.groups.length X.gc) := fun w' q => (HSB.out.kept q).c1
  have s2_ : ∀ w', Kept WA w' none → w'.cell? ⟨w.heap.size, 2, none⟩ = some (.slice X.a S.apart.length X.ac) := fun w' q => (HSB.out.kept q).c2
  have s3_ : ∀ w', Kept WA w' none → w'.cell? ⟨w.heap.size, 3, none⟩ = some (.slice X.b S.between.length X.bc) := fun w' q => (HSB.out.kept q).c3
  have s4_ : ∀ w', Kept WA w' none → w'.cell? ⟨w.heap.size, 4, none⟩ = some (.slice X.p S.phases.length X.pc) := fun w' q => (HSB.out.kept q).c4
  have s5_ : ∀ w', Kept WA w' none → w'.cell? ⟨w.heap.size, 5, none⟩ = some (.slice X.e S.eyes.length X.ec) := fun w' q => (HSB.out.kept q).c5
  have s6_ : ∀ w', Kept WA w' none → w'.cell? ⟨w.heap.size, 6, none⟩ = some (.int .i64 S.watch) := fun w' q => (HSB.out.kept q).c6
  have s7_ : ∀ w', Kept WA w' none → w'.cell? ⟨w.heap.size, 7, none⟩ = some (.int .i64 S.feed) := fun w' q => (HSB.out.kept q).c7
  have s8_ : ∀ w', Kept WA w' none → w'.cell? ⟨w.heap.size, 8, none⟩ = some (.int .i64 S.heal) := fun w' q => (HSB.out.kept q).c8
  have s9_ : ∀ w', Kept WA w' none → w'.cell? ⟨w.heap.size, 9, none⟩ = some (.int .i64 S.low) := fun w' q => (HSB.out.kept q).c9
  have s10_ : ∀ w', Kept WA w' none → w'.cell? ⟨w.heap.size, 10, none⟩ = some (.int .i64 S.high) := fun w' q => (HSB.out.kept q).c10
  have s11_ : ∀ w', Kept WA w' none → w'.cell? ⟨w.heap.size, 11, none⟩ = some (.slice X.l S.plans.length X.lc) := fun w' q => (HSB.out.kept q).c11
  have hK0 := Kept.refl WA none
  clear h hT hF hB k1 k2 hsb bn hkA hl
  go_enter Tryd.func6, Tryd.ntmps6
  go_wp2_with (first | rw [hWA] | (go_at_call 15; refine (galive_any HT.out).mono ?_; rintro e wa ⟨rfl, hka⟩; have hKa : Kept WA wa none := hka))
  go_at_call 16
  refine (rgreat_any (HS.out.kept hKa)).mono ?_
  rintro e wg ⟨gr, rfl, hgr, hkg⟩
  have hKg : Kept WA wg none := hKa.tr hkg
  clear hgr
  cases gr with
  | true =>
    go_wp2
    go_ret
    exact ⟨rfl, (HK.out.tr hKg).below⟩
  | false =>
  go_wp2
  go_ret
  exact ⟨rfl, (HK.out.tr hKg).below⟩
set_option maxRecDepth 100000 in
set_option maxHeartbeats 4000000 in
theorem gsaf_wide {X : Sa} {S : St} {w : World} {a : Option Addr} {c : Nat} {F : Sf} {al : Option Addr} {n cl : Nat} {L : List Nat} (h : Sat w X S) (hT : Tabb w) (hF : SafeAt w a c F) (hB : By w al n L) (hl : F.groups.length ≤ 100) (hn : 100 < n) : Calls Tryd.prog 6 #[siteV X S, safeV a c F, .slice al n cl] w fun e w' => e = .returned (.bool true) ∧ Below w.heap.size w w' := by
  have hlb : decide ((100 : Int) < (F.groups.length : Int)) = false := by simp; omega
  have hnb : decide ((100 : Int) < (n : Int)) = true := by simp; omega
  have k1 : Kept w (w.alloc (.cells #[.int .i64 S.id, .slice X.g S.groups.length X.gc, .slice X.a S.apart.length X.ac, .slice X.b S.between.length X.bc, .slice X.p S.phases.length X.pc, .slice X.e S.eyes.length X.ec, .int .i64 S.watch, .int .i64 S.feed, .int .i64 S.heal, .int .i64 S.low, .int .i64 S.high, .slice X.l S.plans.length X.lc] 34)) none := Kept.alloc _ _ _ _ _
  have k2 : Kept (w.alloc (.cells #[.int .i64 S.id, .slice X.g S.groups.length X.gc, .slice X.a S.apart.length X.ac, .slice X.b S.between.length X.bc, .slice X.p S.phases.length X.pc, .slice X.e S.eyes.length X.ec, .int .i64 S.watch, .int .i64 S.feed, .int .i64 S.heal, .int .i64 S.low, .int .i64 S.high, .slice X.l S.plans.length X.lc] 34)) ((w.alloc (.cells #[.int .i64 S.id, .slice X.g S.groups.length X.gc, .slice X.a S.apart.length X.ac, .slice X.b S.between.length X.bc, .slice X.p S.phases.length X.pc, .slice X.e S.eyes.length X.ec, .int .i64 S.watch, .int .i64 S.feed, .int .i64 S.heal, .int .i64 S.low, .int .i64 S.high, .slice X.l S.plans.length X.lc] 34)).alloc (.cells #[.slice a F.groups.length c, .int .i64 F.start, .bool F.flashed] 41)) none := Kept.alloc _ _ _ _ _
  have hsb := (sbox_alloc h 34).kept k2
  have bn := box_alloc (w.alloc (.cells #[.int .i64 S.id, .slice X.g S.groups.length X.gc, .slice X.a S.apart.length X.ac, .slice X.b S.between.length X.bc, .slice X.p S.phases.length X.pc, .slice X.e S.eyes.length X.ec, .int .i64 S.watch, .int .i64 S.feed, .int .i64 S.heal, .int .i64 S.low, .int .i64 S.high, .slice X.l S.plans.length X.lc] 34)) (.slice a F.groups.length c) (.int .i64 F.start) (.bool F.flashed) 41
  rw [World.size_alloc] at bn
  have hkA := k1.tr k2
  obtain ⟨WA, hWA⟩ : ∃ WA, ((w.alloc (.cells #[.int .i64 S.id, .slice X.g S.groups.length X.gc, .slice X.a S.apart.length X.ac, .slice X.b S.between.length X.bc, .slice X.p S.phases.length X.pc, .slice X.e S.eyes.length X.ec, .int .i64 S.watch, .int .i64 S.feed, .int .i64 S.heal, .int .i64 S.low, .int .i64 S.high, .slice X.l S.plans.length X.lc] 34)).alloc (.cells #[.slice a F.groups.length c, .int .i64 F.start, .bool F.flashed] 41)) = WA := ⟨_, rfl⟩
  rw [hWA] at hsb bn hkA
  have HSB := Hid.mk' hsb
  have HBN := Hid.mk' bn
  have HK := Hid.mk' hkA
  have HS := Hid.mk' (h.kept hkA)
  have HT := Hid.mk' (hT.kept hkA)
  have HF := Hid.mk' (hF.kept hkA)
  have HB := Hid.mk' (hB.kept hkA)
  have hBm := hB.max
  have n0_ : ∀ w', Kept WA w' none → w'.cell? ⟨w.heap.size + 1, 0, none⟩ = some (.slice a F.groups.length c) := fun w' q => (HBN.out.kept q).c0
  have n1_ : ∀ w', Kept WA w' none → w'.cell? ⟨w.heap.size + 1, 1, none⟩ = some (.int .i64 F.start) := fun w' q => (HBN.out.kept q).c1
  have n2_ : ∀ w', Kept WA w' none → w'.cell? ⟨w.heap.size + 1, 2, none⟩ = some (.bool F.flashed) := fun w' q => (HBN.out.kept q).c2
  have s0_ : ∀ w', Kept WA w' none → w'.cell? ⟨w.heap.size, 0, none⟩ = some (.int .i64 S.id) := fun w' q => (HSB.out.kept q).c0
  have s1_ : ∀ w', Kept WA w' none → w'.cell? ⟨w.heap.size, 1, none⟩ = some (.slice X.g S.groups.length X.gc) := fun w' q => (HSB.out.kept q).c1
  have s2_ : ∀ w', Kept WA w' none → w'.cell? ⟨w.heap.size, 2, none⟩ = some (.slice X.a S.apart.length X.ac) := fun w' q => (HSB.out.kept q).c2
  have s3_ : ∀ w', Kept WA w' none → w'.cell? ⟨w.heap.size, 3, none⟩ = some (.slice X.b S.between.length X.bc) := fun w' q => (HSB.out.kept q).c3
  have s4_ : ∀ w', Kept WA w' none → w'.cell? ⟨w.heap.size, 4, none⟩ = some (.slice X.p S.phases.length X.pc) := fun w' q => (HSB.out.kept q).c4
  have s5_ : ∀ w', Kept WA w' none → w'.cell? ⟨w.heap.size, 5, none⟩ = some (.slice X.e S.eyes.length X.ec) := fun w' q => (HSB.out.kept q).c5
  have s6_ : ∀ w', Kept WA w' none → w'.cell? ⟨w.heap.size, 6, none⟩ = some (.int .i64 S.watch) := fun w' q => (HSB.out.kept q).c6
  have s7_ : ∀ w', Kept WA w' none → w'.cell? ⟨w.heap.size, 7, none⟩ = some (.int .i64 S.feed) := fun w' q => (HSB.out.kept q).c7
  have s8_ : ∀ w', Kept WA w' none → w'.cell? ⟨w.heap.size, 8, none⟩ = some (.int .i64 S.heal) := fun w' q => (HSB.out.kept q).c8
  have s9_ : ∀ w', Kept WA w' none → w'.cell? ⟨w.heap.size, 9, none⟩ = some (.int .i64 S.low) := fun w' q => (HSB.out.kept q).c9
  have s10_ : ∀ w', Kept WA w' none → w'.cell? ⟨w.heap.size, 10, none⟩ = some (.int .i64 S.high) := fun w' q => (HSB.out.kept q).c10
  have s11_ : ∀ w', Kept WA w' none → w'.cell? ⟨w.heap.size, 11, none⟩ = some (.slice X.l S.plans.length X.lc) := fun w' q => (HSB.out.kept q).c11
  have hK0 := Kept.refl WA none
  clear h hT hF hB k1 k2 hsb bn hkA hl hn
  go_enter Tryd.func6, Tryd.ntmps6
  go_wp2_with (first | rw [hWA] | (go_at_call 15; refine (galive_any HT.out).mono ?_; rintro e wa ⟨rfl, hka⟩; have hKa : Kept WA wa none := hka))
  go_at_call 16
  refine (rgreat_any (HS.out.kept hKa)).mono ?_
  rintro e wg ⟨gr, rfl, hgr, hkg⟩
  have hKg : Kept WA wg none := hKa.tr hkg
  clear hgr
  cases gr with
  | true =>
    go_wp2
    go_ret
    exact ⟨rfl, (HK.out.tr hKg).below⟩
  | false =>
  go_wp2
  go_ret
  exact ⟨rfl, (HK.out.tr hKg).below⟩
set_option maxRecDepth 100000 in
set_option maxHeartbeats 4000000 in
theorem gsaf_err {X : Sa} {S : St} {w : World} {a : Option Addr} {c : Nat} {F : Sf} {al : Option Addr} {n cl : Nat} {L : List Nat} (h : Sat w X S) (hT : Tabb w) (hF : SafeAt w a c F) (hB : By w al n L) (hl : F.groups.length ≤ 100) (hn : n ≤ 100) (z : Int) (hz : z ≠ 0) (had : ∀ w', Kept w w' none → Calls Tryd.prog 12 #[siteV X S, safeV a c F, .slice al n cl] w' fun e w2 => e = .returned (.tuple #[.slice none 0 0, .int .i64 z]) ∧ Kept w' w2 none) : Calls Tryd.prog 6 #[siteV X S, safeV a c F, .slice al n cl] w fun e w' => e = .returned (.bool true) ∧ Below w.heap.size w w' := by
  have hlb : decide ((100 : Int) < (F.groups.length : Int)) = false := by simp; omega
  have hnb : decide ((100 : Int) < (n : Int)) = false := by simp; omega
  have hzb : (z != 0) = true := by simpa using hz
  have HAD := Hid.mk' had
  have k1 : Kept w (w.alloc (.cells #[.int .i64 S.id, .slice X.g S.groups.length X.gc, .slice X.a S.apart.length X.ac, .slice X.b S.between.length X.bc, .slice X.p S.phases.length X.pc, .slice X.e S.eyes.length X.ec, .int .i64 S.watch, .int .i64 S.feed, .int .i64 S.heal, .int .i64 S.low, .int .i64 S.high, .slice X.l S.plans.length X.lc] 34)) none := Kept.alloc _ _ _ _ _
  have k2 : Kept (w.alloc (.cells #[.int .i64 S.id, .slice X.g S.groups.length X.gc, .slice X.a S.apart.length X.ac, .slice X.b S.between.length X.bc, .slice X.p S.phases.length X.pc, .slice X.e S.eyes.length X.ec, .int .i64 S.watch, .int .i64 S.feed, .int .i64 S.heal, .int .i64 S.low, .int .i64 S.high, .slice X.l S.plans.length X.lc] 34)) ((w.alloc (.cells #[.int .i64 S.id, .slice X.g S.groups.length X.gc, .slice X.a S.apart.length X.ac, .slice X.b S.between.length X.bc, .slice X.p S.phases.length X.pc, .slice X.e S.eyes.length X.ec, .int .i64 S.watch, .int .i64 S.feed, .int .i64 S.heal, .int .i64 S.low, .int .i64 S.high, .slice X.l S.plans.length X.lc] 34)).alloc (.cells #[.slice a F.groups.length c, .int .i64 F.start, .bool F.flashed] 41)) none := Kept.alloc _ _ _ _ _
  have hsb := (sbox_alloc h 34).kept k2
  have bn := box_alloc (w.alloc (.cells #[.int .i64 S.id, .slice X.g S.groups.length X.gc, .slice X.a S.apart.length X.ac, .slice X.b S.between.length X.bc, .slice X.p S.phases.length X.pc, .slice X.e S.eyes.length X.ec, .int .i64 S.watch, .int .i64 S.feed, .int .i64 S.heal, .int .i64 S.low, .int .i64 S.high, .slice X.l S.plans.length X.lc] 34)) (.slice a F.groups.length c) (.int .i64 F.start) (.bool F.flashed) 41
  rw [World.size_alloc] at bn
  have hkA := k1.tr k2
  obtain ⟨WA, hWA⟩ : ∃ WA, ((w.alloc (.cells #[.int .i64 S.id, .slice X.g S.groups.length X.gc, .slice X.a S.apart.length X.ac, .slice X.b S.between.length X.bc, .slice X.p S.phases.length X.pc, .slice X.e S.eyes.length X.ec, .int .i64 S.watch, .int .i64 S.feed, .int .i64 S.heal, .int .i64 S.low, .int .i64 S.high, .slice X.l S.plans.length X.lc] 34)).alloc (.cells #[.slice a F.groups.length c, .int .i64 F.start, .bool F.flashed] 41)) = WA := ⟨_, rfl⟩
  rw [hWA] at hsb bn hkA
  have HSB := Hid.mk' hsb
  have HBN := Hid.mk' bn
  have HK := Hid.mk' hkA
  have HS := Hid.mk' (h.kept hkA)
  have HT := Hid.mk' (hT.kept hkA)
  have HF := Hid.mk' (hF.kept hkA)
  have HB := Hid.mk' (hB.kept hkA)
  have hBm := hB.max
  have n0_ : ∀ w', Kept WA w' none → w'.cell? ⟨w.heap.size + 1, 0, none⟩ = some (.slice a F.groups.length c) := fun w' q => (HBN.out.kept q).c0
  have n1_ : ∀ w', Kept WA w' none → w'.cell? ⟨w.heap.size + 1, 1, none⟩ = some (.int .i64 F.start) := fun w' q => (HBN.out.kept q).c1
  have n2_ : ∀ w', Kept WA w' none → w'.cell? ⟨w.heap.size + 1, 2, none⟩ = some (.bool F.flashed) := fun w' q => (HBN.out.kept q).c2
  have s0_ : ∀ w', Kept WA w' none → w'.cell? ⟨w.heap.size, 0, none⟩ = some (.int .i64 S.id) := fun w' q => (HSB.out.kept q).c0
  have s1_ : ∀ w', Kept WA w' none → w'.cell? ⟨w.heap.size, 1, none⟩ = some (.slice X.g S.groups.length X.gc) := fun w' q => (HSB.out.kept q).c1
  have s2_ : ∀ w', Kept WA w' none → w'.cell? ⟨w.heap.size, 2, none⟩ = some (.slice X.a S.apart.length X.ac) := fun w' q => (HSB.out.kept q).c2
  have s3_ : ∀ w', Kept WA w' none → w'.cell? ⟨w.heap.size, 3, none⟩ = some (.slice X.b S.between.length X.bc) := fun w' q => (HSB.out.kept q).c3
  have s4_ : ∀ w', Kept WA w' none → w'.cell? ⟨w.heap.size, 4, none⟩ = some (.slice X.p S.phases.length X.pc) := fun w' q => (HSB.out.kept q).c4
  have s5_ : ∀ w', Kept WA w' none → w'.cell? ⟨w.heap.size, 5, none⟩ = some (.slice X.e S.eyes.length X.ec) := fun w' q => (HSB.out.kept q).c5
  have s6_ : ∀ w', Kept WA w' none → w'.cell? ⟨w.heap.size, 6, none⟩ = some (.int .i64 S.watch) := fun w' q => (HSB.out.kept q).c6
  have s7_ : ∀ w', Kept WA w' none → w'.cell? ⟨w.heap.size, 7, none⟩ = some (.int .i64 S.feed) := fun w' q => (HSB.out.kept q).c7
  have s8_ : ∀ w', Kept WA w' none → w'.cell? ⟨w.heap.size, 8, none⟩ = some (.int .i64 S.heal) := fun w' q => (HSB.out.kept q).c8
  have s9_ : ∀ w', Kept WA w' none → w'.cell? ⟨w.heap.size, 9, none⟩ = some (.int .i64 S.low) := fun w' q => (HSB.out.kept q).c9
  have s10_ : ∀ w', Kept WA w' none → w'.cell? ⟨w.heap.size, 10, none⟩ = some (.int .i64 S.high) := fun w' q => (HSB.out.kept q).c10
  have s11_ : ∀ w', Kept WA w' none → w'.cell? ⟨w.heap.size, 11, none⟩ = some (.slice X.l S.plans.length X.lc) := fun w' q => (HSB.out.kept q).c11
  have hK0 := Kept.refl WA none
  clear h hT hF hB k1 k2 hsb bn hkA hl hn had hz
  go_enter Tryd.func6, Tryd.ntmps6
  go_wp2_with (first | rw [hWA] | (go_at_call 15; refine (galive_any HT.out).mono ?_; rintro e wa ⟨rfl, hka⟩; have hKa : Kept WA wa none := hka))
  go_at_call 16
  refine (rgreat_any (HS.out.kept hKa)).mono ?_
  rintro e wg ⟨gr, rfl, hgr, hkg⟩
  have hKg : Kept WA wg none := hKa.tr hkg
  clear hgr
  cases gr with
  | true =>
    go_wp2
    go_ret
    exact ⟨rfl, (HK.out.tr hKg).below⟩
  | false =>
  go_wp2_with (go_at_call 12; refine (HAD.out _ (HK.out.tr hKg)).mono ?_; rintro e w2 ⟨rfl, hk2⟩)
  go_ret
  exact ⟨rfl, (HK.out.tr (hKg.tr hk2)).below⟩
set_option maxRecDepth 100000 in
set_option maxHeartbeats 4000000 in
theorem gsaf_fault {X : Sa} {S : St} {w : World} {a : Option Addr} {c : Nat} {F : Sf} {al : Option Addr} {n cl : Nat} {L : List Nat} (h : Sat w X S) (hT : Tabb w) (hF : SafeAt w a c F) (hB : By w al n L) (hl : F.groups.length ≤ 100) (hn100 : n ≤ 100) (hz : goesE S F = 0) (hn : n = S.groups.length) (hf : faultV S F L ≠ 0) : Calls Tryd.prog 6 #[siteV X S, safeV a c F, .slice al n cl] w fun e w' => e = .returned (.bool true) ∧ Below w.heap.size w w' := by
  have hlb : decide ((100 : Int) < (F.groups.length : Int)) = false := by simp; omega
  have hnb : decide ((100 : Int) < (n : Int)) = false := by simp; omega
  obtain ⟨hs, hg⟩ := goesE_ok hz
  have hng := (span_may hs).base.sh.ok.ng
  have hmy := (goes_parts hg).1
  have hfn := (mayS_parts hmy).1
  have hLn : L.length = S.groups.length := hB.size.trans hn
  have hz1 := let_safe hs hg hLn
  have hlv : ∀ j, j < S.groups.length → letF S F L j = lg (letV S F L) j := fun j hj => (letV_lg (by omega)).symm
  have hll := (letV_len S F L).trans hLn
  have hlt := letV_lt S F L
  have hg2 := goes_next hs hg hz1
  have hz2 : goesE S (behindV S F (letV S F L)) = 0 := by unfold goesE; rw [hs, hg2]; rfl
  have hrg : ∀ s ∈ (behindV S F (letV S F L)).groups, s.asp < 256 ∧ i64B s.since ∧ i64B s.ended := fun s hs => by
    unfold behindV at hs
    simp only [List.mem_map, List.mem_range] at hs
    obtain ⟨i, hi, rfl⟩ := hs
    exact sndV_rng _ _ (hlt _ (lg_mem hi))
  have hsame : faultV S F L = 0 → letV S F L = L := let_same hs hg
  obtain ⟨LV, hLV⟩ : ∃ LV, letV S F L = LV := ⟨_, rfl⟩
  rw [hLV] at hz1 hlv hll hlt hg2 hz2 hrg hsame
  have hbl : (behindV S F LV).groups.length = S.groups.length := (behindV_len S F LV).trans hll
  subst hn
  have HMY := Hid.mk' hmy
  have HFN := Hid.mk' hfn
  have HZ1 := Hid.mk' hz1
  have HLV := Hid.mk' hlv
  have HLL := Hid.mk' hll
  have HLT := Hid.mk' hlt
  have HZ2 := Hid.mk' hz2
  have HRG := Hid.mk' hrg
  have HBL := Hid.mk' hbl
  have HZ := Hid.mk' hz
  have HSAME := Hid.mk' hsame
  clear hmy hz1 hlv hll hlt hg2 hz2 hrg hLV hLn hbl hz hl hn100 hsame
  have HAD : Hid (∀ w', Kept w w' none → Calls Tryd.prog 12 #[siteV X S, .agg #[.slice a S.groups.length c, .int .i64 F.start, .bool F.flashed], .slice al S.groups.length cl] w' fun e w2 => ∃ b, e = .returned (.tuple #[.slice (some ⟨b, 0, none⟩) S.groups.length S.groups.length, .int .i64 0]) ∧ w'.heap.size ≤ b ∧ By w2 (some ⟨b, 0, none⟩) S.groups.length LV ∧ Kept w' w2 none) := fun w' q => by
    have hx := gadmit_go (cl := cl) (h.kept q) (hT.kept q) (hF.kept q) (hB.kept q) HZ.out rfl
    rw [safeV, hfn] at hx
    refine hx.mono ?_
    rintro e w2 ⟨b, rfl, h1, h2, h3⟩
    exact ⟨b, rfl, h1, By.row h2 LV S.groups.length (Nat.le_refl _) HLL.out (by omega) HLT.out (fun i hi => by rw [HLV.out i hi]; rfl), h3⟩
  have HNX : Hid (∀ w' b, Kept w w' none → By w' (some ⟨b, 0, none⟩) S.groups.length LV → Calls Tryd.prog 23 #[siteV X S, .agg #[.slice a S.groups.length c, .int .i64 F.start, .bool F.flashed], .slice (some ⟨b, 0, none⟩) S.groups.length S.groups.length] w' fun e w2 => ∃ b2, e = .returned (.tuple #[.agg #[.slice (some ⟨b2, 0, none⟩) S.groups.length S.groups.length, .int .i64 (behindV S F LV).start, .bool (behindV S F LV).flashed], .int .u8 0, .int .i64 0]) ∧ SafeAt w2 (some ⟨b2, 0, none⟩) S.groups.length (behindV S F LV) ∧ Kept w' w2 none) := fun w' b q hb => by
    refine (next_go2 (h.kept q) (hT.kept q) (hF.kept q) hb hs HMY.out HZ1.out).mono ?_
    rintro e w2 ⟨b2, rfl, h1, h2, h3⟩
    exact ⟨b2, rfl, h2.safe HBL.out (fun _ _ => rfl) (by omega) HRG.out, h3⟩
  have HAD2 : Hid (∀ w' b2, Kept w w' none → SafeAt w' (some ⟨b2, 0, none⟩) S.groups.length (behindV S F LV) → Calls Tryd.prog 12 #[siteV X S, .agg #[.slice (some ⟨b2, 0, none⟩) S.groups.length S.groups.length, .int .i64 (behindV S F LV).start, .bool (behindV S F LV).flashed], .slice al S.groups.length cl] w' fun e w2 => ∃ b, e = .returned (.tuple #[.slice (some ⟨b, 0, none⟩) S.groups.length S.groups.length, .int .i64 0]) ∧ Kept w' w2 none) := fun w' b2 q hf => by
    have hx := gadmit_go (cl := cl) (h.kept q) (hT.kept q) hf (hB.kept q) HZ2.out rfl
    rw [safeV, HBL.out] at hx
    refine hx.mono ?_
    rintro e w2 ⟨b, rfl, h1, h2, h3⟩
    exact ⟨b, rfl, h3⟩
  have HN4 : Hid (∀ w', Kept w w' none → Calls Tryd.prog 23 #[siteV X S, .agg #[.slice a S.groups.length c, .int .i64 F.start, .bool F.flashed], .slice al S.groups.length cl] w' fun e w2 => ∃ b2, e = .returned (.tuple #[.agg #[.slice (some ⟨b2, 0, none⟩) S.groups.length S.groups.length, .int .i64 F.start, .bool F.flashed], .int .u8 (faultV S F L), .int .i64 0]) ∧ Kept w' w2 none) := fun w' q => by
    have hx := next_fault (cl := cl) (h.kept q) (hT.kept q) (hF.kept q) (hB.kept q) hs HMY.out hf
    rw [safeV, hfn] at hx
    refine hx.mono ?_
    rintro e w2 ⟨b2, rfl, h1, h2, h3⟩
    exact ⟨b2, by rw [safeV, hfn], h3⟩
  have hfb : (faultV S F L != 0) = true := by simpa using hf
  generalize faultV S F L = zf at *
  rw [show safeV a c F = .agg #[.slice a S.groups.length c, .int .i64 F.start, .bool F.flashed] by rw [safeV, hfn]]
  rw [hfn] at hlb
  clear hfn
  have k1 : Kept w (w.alloc (.cells #[.int .i64 S.id, .slice X.g S.groups.length X.gc, .slice X.a S.apart.length X.ac, .slice X.b S.between.length X.bc, .slice X.p S.phases.length X.pc, .slice X.e S.eyes.length X.ec, .int .i64 S.watch, .int .i64 S.feed, .int .i64 S.heal, .int .i64 S.low, .int .i64 S.high, .slice X.l S.plans.length X.lc] 34)) none := Kept.alloc _ _ _ _ _
  have k2 : Kept (w.alloc (.cells #[.int .i64 S.id, .slice X.g S.groups.length X.gc, .slice X.a S.apart.length X.ac, .slice X.b S.between.length X.bc, .slice X.p S.phases.length X.pc, .slice X.e S.eyes.length X.ec, .int .i64 S.watch, .int .i64 S.feed, .int .i64 S.heal, .int .i64 S.low, .int .i64 S.high, .slice X.l S.plans.length X.lc] 34)) ((w.alloc (.cells #[.int .i64 S.id, .slice X.g S.groups.length X.gc, .slice X.a S.apart.length X.ac, .slice X.b S.between.length X.bc, .slice X.p S.phases.length X.pc, .slice X.e S.eyes.length X.ec, .int .i64 S.watch, .int .i64 S.feed, .int .i64 S.heal, .int .i64 S.low, .int .i64 S.high, .slice X.l S.plans.length X.lc] 34)).alloc (.cells #[.slice a S.groups.length c, .int .i64 F.start, .bool F.flashed] 41)) none := Kept.alloc _ _ _ _ _
  have hsb := (sbox_alloc h 34).kept k2
  have bn := box_alloc (w.alloc (.cells #[.int .i64 S.id, .slice X.g S.groups.length X.gc, .slice X.a S.apart.length X.ac, .slice X.b S.between.length X.bc, .slice X.p S.phases.length X.pc, .slice X.e S.eyes.length X.ec, .int .i64 S.watch, .int .i64 S.feed, .int .i64 S.heal, .int .i64 S.low, .int .i64 S.high, .slice X.l S.plans.length X.lc] 34)) (.slice a S.groups.length c) (.int .i64 F.start) (.bool F.flashed) 41
  rw [World.size_alloc] at bn
  have hkA := k1.tr k2
  obtain ⟨WA, hWA⟩ : ∃ WA, ((w.alloc (.cells #[.int .i64 S.id, .slice X.g S.groups.length X.gc, .slice X.a S.apart.length X.ac, .slice X.b S.between.length X.bc, .slice X.p S.phases.length X.pc, .slice X.e S.eyes.length X.ec, .int .i64 S.watch, .int .i64 S.feed, .int .i64 S.heal, .int .i64 S.low, .int .i64 S.high, .slice X.l S.plans.length X.lc] 34)).alloc (.cells #[.slice a S.groups.length c, .int .i64 F.start, .bool F.flashed] 41)) = WA := ⟨_, rfl⟩
  rw [hWA] at hsb bn hkA
  have HSB := Hid.mk' hsb
  have HBN := Hid.mk' bn
  have HK := Hid.mk' hkA
  have HS := Hid.mk' (h.kept hkA)
  have HT := Hid.mk' (hT.kept hkA)
  have HF := Hid.mk' (hF.kept hkA)
  have HB := Hid.mk' (hB.kept hkA)
  have hBm := hB.max
  have n0_ : ∀ w', Kept WA w' none → w'.cell? ⟨w.heap.size + 1, 0, none⟩ = some (.slice a S.groups.length c) := fun w' q => (HBN.out.kept q).c0
  have n1_ : ∀ w', Kept WA w' none → w'.cell? ⟨w.heap.size + 1, 1, none⟩ = some (.int .i64 F.start) := fun w' q => (HBN.out.kept q).c1
  have n2_ : ∀ w', Kept WA w' none → w'.cell? ⟨w.heap.size + 1, 2, none⟩ = some (.bool F.flashed) := fun w' q => (HBN.out.kept q).c2
  have s0_ : ∀ w', Kept WA w' none → w'.cell? ⟨w.heap.size, 0, none⟩ = some (.int .i64 S.id) := fun w' q => (HSB.out.kept q).c0
  have s1_ : ∀ w', Kept WA w' none → w'.cell? ⟨w.heap.size, 1, none⟩ = some (.slice X.g S.groups.length X.gc) := fun w' q => (HSB.out.kept q).c1
  have s2_ : ∀ w', Kept WA w' none → w'.cell? ⟨w.heap.size, 2, none⟩ = some (.slice X.a S.apart.length X.ac) := fun w' q => (HSB.out.kept q).c2
  have s3_ : ∀ w', Kept WA w' none → w'.cell? ⟨w.heap.size, 3, none⟩ = some (.slice X.b S.between.length X.bc) := fun w' q => (HSB.out.kept q).c3
  have s4_ : ∀ w', Kept WA w' none → w'.cell? ⟨w.heap.size, 4, none⟩ = some (.slice X.p S.phases.length X.pc) := fun w' q => (HSB.out.kept q).c4
  have s5_ : ∀ w', Kept WA w' none → w'.cell? ⟨w.heap.size, 5, none⟩ = some (.slice X.e S.eyes.length X.ec) := fun w' q => (HSB.out.kept q).c5
  have s6_ : ∀ w', Kept WA w' none → w'.cell? ⟨w.heap.size, 6, none⟩ = some (.int .i64 S.watch) := fun w' q => (HSB.out.kept q).c6
  have s7_ : ∀ w', Kept WA w' none → w'.cell? ⟨w.heap.size, 7, none⟩ = some (.int .i64 S.feed) := fun w' q => (HSB.out.kept q).c7
  have s8_ : ∀ w', Kept WA w' none → w'.cell? ⟨w.heap.size, 8, none⟩ = some (.int .i64 S.heal) := fun w' q => (HSB.out.kept q).c8
  have s9_ : ∀ w', Kept WA w' none → w'.cell? ⟨w.heap.size, 9, none⟩ = some (.int .i64 S.low) := fun w' q => (HSB.out.kept q).c9
  have s10_ : ∀ w', Kept WA w' none → w'.cell? ⟨w.heap.size, 10, none⟩ = some (.int .i64 S.high) := fun w' q => (HSB.out.kept q).c10
  have s11_ : ∀ w', Kept WA w' none → w'.cell? ⟨w.heap.size, 11, none⟩ = some (.slice X.l S.plans.length X.lc) := fun w' q => (HSB.out.kept q).c11
  have hK0 := Kept.refl WA none
  clear h hT hF hB k1 k2 hsb bn hkA hf
  go_enter Tryd.func6, Tryd.ntmps6
  go_wp2_with (first | rw [hWA] | (go_at_call 15; refine (galive_any HT.out).mono ?_; rintro e wa ⟨rfl, hka⟩; have hKa : Kept WA wa none := hka))
  go_at_call 16
  refine (rgreat_any (HS.out.kept hKa)).mono ?_
  rintro e wg ⟨gr, rfl, hgr, hkg⟩
  have hKg : Kept WA wg none := hKa.tr hkg
  clear hgr
  cases gr with
  | true =>
    go_wp2
    go_ret
    exact ⟨rfl, (HK.out.tr hKg).below⟩
  | false =>
  go_wp2_with (first
    | rw [hW3]
    | (have hgo := hK4; clear hgo; go_at_call 23; refine (HN4.out _ (HK.out.tr hK4)).mono ?_; rintro e w5 ⟨b5, rfl, hk5⟩)
    | (have hgo := HS3; clear hgo; go_at_call 12; refine (HAD2.out _ _ (HK.out.tr hK3) HS3.out).mono ?_; rintro e w4 ⟨b4, rfl, hk4⟩; have hK4 : Kept WA w4 none := hK3.tr hk4)
    | (have hgo := HBY; clear hgo; go_at_call 23; refine (HNX.out _ _ (HK.out.tr hK2) HBY.out).mono ?_; rintro e w3 ⟨b2, rfl, hs3, hk3⟩; have kL : Kept w3 (w3.alloc (.cells #[.slice (some ⟨b2, 0, none⟩) S.groups.length S.groups.length, .int .i64 (behindV S F LV).start, .bool (behindV S F LV).flashed] 41)) none := Kept.alloc _ _ _ _ _; have bx3 := box_alloc w3 (.slice (some ⟨b2, 0, none⟩) S.groups.length S.groups.length) (.int .i64 (behindV S F LV).start) (.bool (behindV S F LV).flashed) 41; obtain ⟨W3, hW3⟩ : ∃ W3, w3.alloc (.cells #[.slice (some ⟨b2, 0, none⟩) S.groups.length S.groups.length, .int .i64 (behindV S F LV).start, .bool (behindV S F LV).flashed] 41) = W3 := ⟨_, rfl⟩; rw [hW3] at kL bx3; have HS3 := Hid.mk' (hs3.kept kL); have hK3 : Kept WA W3 none := (hK2.tr hk3).tr kL; have HBX3 := Hid.mk' bx3; have x0 := bx3.c0; have x1 := bx3.c1; have x2 := bx3.c2; have K23 := Hid.mk' (hk3.tr kL); clear hs3 bx3)
    | (go_at_call 12; refine (HAD.out _ (HK.out.tr hKg)).mono ?_; rintro e w2 ⟨b, rfl, hb2, hby, hk2⟩; have hK2 : Kept WA w2 none := hKg.tr hk2; have HBY := Hid.mk' hby; clear hby))
  go_ret
  exact ⟨rfl, (HK.out.tr ((hK4.tr hk5).tr (Kept.alloc _ _ _ _ _))).below⟩
set_option maxRecDepth 100000 in
set_option maxHeartbeats 4000000 in
theorem gsaf_same {X : Sa} {S : St} {w : World} {a : Option Addr} {c : Nat} {F : Sf} {al : Option Addr} {n cl : Nat} {L : List Nat} (h : Sat w X S) (hT : Tabb w) (hF : SafeAt w a c F) (hB : By w al n L) (hl : F.groups.length ≤ 100) (hn100 : n ≤ 100) (hz : goesE S F = 0) (hn : n = S.groups.length) (hf : faultV S F L = 0) : Calls Tryd.prog 6 #[siteV X S, safeV a c F, .slice al n cl] w fun e w' => e = .returned (.bool true) ∧ Below w.heap.size w w' := by
  have hlb : decide ((100 : Int) < (F.groups.length : Int)) = false := by simp; omega
  have hnb : decide ((100 : Int) < (n : Int)) = false := by simp; omega
  obtain ⟨hs, hg⟩ := goesE_ok hz
  have hng := (span_may hs).base.sh.ok.ng
  have hmy := (goes_parts hg).1
  have hfn := (mayS_parts hmy).1
  have hLn : L.length = S.groups.length := hB.size.trans hn
  have hz1 := let_safe hs hg hLn
  have hlv : ∀ j, j < S.groups.length → letF S F L j = lg (letV S F L) j := fun j hj => (letV_lg (by omega)).symm
  have hll := (letV_len S F L).trans hLn
  have hlt := letV_lt S F L
  have hg2 := goes_next hs hg hz1
  have hz2 : goesE S (behindV S F (letV S F L)) = 0 := by unfold goesE; rw [hs, hg2]; rfl
  have hrg : ∀ s ∈ (behindV S F (letV S F L)).groups, s.asp < 256 ∧ i64B s.since ∧ i64B s.ended := fun s hs => by
    unfold behindV at hs
    simp only [List.mem_map, List.mem_range] at hs
    obtain ⟨i, hi, rfl⟩ := hs
    exact sndV_rng _ _ (hlt _ (lg_mem hi))
  have hsame : faultV S F L = 0 → letV S F L = L := let_same hs hg
  obtain ⟨LV, hLV⟩ : ∃ LV, letV S F L = LV := ⟨_, rfl⟩
  rw [hLV] at hz1 hlv hll hlt hg2 hz2 hrg hsame
  have hbl : (behindV S F LV).groups.length = S.groups.length := (behindV_len S F LV).trans hll
  subst hn
  have HMY := Hid.mk' hmy
  have HFN := Hid.mk' hfn
  have HZ1 := Hid.mk' hz1
  have HLV := Hid.mk' hlv
  have HLL := Hid.mk' hll
  have HLT := Hid.mk' hlt
  have HZ2 := Hid.mk' hz2
  have HRG := Hid.mk' hrg
  have HBL := Hid.mk' hbl
  have HZ := Hid.mk' hz
  have HSAME := Hid.mk' hsame
  clear hmy hz1 hlv hll hlt hg2 hz2 hrg hLV hLn hbl hz hl hn100 hsame
  have HAD : Hid (∀ w', Kept w w' none → Calls Tryd.prog 12 #[siteV X S, .agg #[.slice a S.groups.length c, .int .i64 F.start, .bool F.flashed], .slice al S.groups.length cl] w' fun e w2 => ∃ b, e = .returned (.tuple #[.slice (some ⟨b, 0, none⟩) S.groups.length S.groups.length, .int .i64 0]) ∧ w'.heap.size ≤ b ∧ By w2 (some ⟨b, 0, none⟩) S.groups.length LV ∧ Kept w' w2 none) := fun w' q => by
    have hx := gadmit_go (cl := cl) (h.kept q) (hT.kept q) (hF.kept q) (hB.kept q) HZ.out rfl
    rw [safeV, hfn] at hx
    refine hx.mono ?_
    rintro e w2 ⟨b, rfl, h1, h2, h3⟩
    exact ⟨b, rfl, h1, By.row h2 LV S.groups.length (Nat.le_refl _) HLL.out (by omega) HLT.out (fun i hi => by rw [HLV.out i hi]; rfl), h3⟩
  have HNX : Hid (∀ w' b, Kept w w' none → By w' (some ⟨b, 0, none⟩) S.groups.length LV → Calls Tryd.prog 23 #[siteV X S, .agg #[.slice a S.groups.length c, .int .i64 F.start, .bool F.flashed], .slice (some ⟨b, 0, none⟩) S.groups.length S.groups.length] w' fun e w2 => ∃ b2, e = .returned (.tuple #[.agg #[.slice (some ⟨b2, 0, none⟩) S.groups.length S.groups.length, .int .i64 (behindV S F LV).start, .bool (behindV S F LV).flashed], .int .u8 0, .int .i64 0]) ∧ SafeAt w2 (some ⟨b2, 0, none⟩) S.groups.length (behindV S F LV) ∧ Kept w' w2 none) := fun w' b q hb => by
    refine (next_go2 (h.kept q) (hT.kept q) (hF.kept q) hb hs HMY.out HZ1.out).mono ?_
    rintro e w2 ⟨b2, rfl, h1, h2, h3⟩
    exact ⟨b2, rfl, h2.safe HBL.out (fun _ _ => rfl) (by omega) HRG.out, h3⟩
  have HAD2 : Hid (∀ w' b2, Kept w w' none → SafeAt w' (some ⟨b2, 0, none⟩) S.groups.length (behindV S F LV) → Calls Tryd.prog 12 #[siteV X S, .agg #[.slice (some ⟨b2, 0, none⟩) S.groups.length S.groups.length, .int .i64 (behindV S F LV).start, .bool (behindV S F LV).flashed], .slice al S.groups.length cl] w' fun e w2 => ∃ b, e = .returned (.tuple #[.slice (some ⟨b, 0, none⟩) S.groups.length S.groups.length, .int .i64 0]) ∧ Kept w' w2 none) := fun w' b2 q hf => by
    have hx := gadmit_go (cl := cl) (h.kept q) (hT.kept q) hf (hB.kept q) HZ2.out rfl
    rw [safeV, HBL.out] at hx
    refine hx.mono ?_
    rintro e w2 ⟨b, rfl, h1, h2, h3⟩
    exact ⟨b, rfl, h3⟩
  have hLV := HSAME.out hf
  have HN4 : Hid (∀ w', Kept w w' none → Calls Tryd.prog 23 #[siteV X S, .agg #[.slice a S.groups.length c, .int .i64 F.start, .bool F.flashed], .slice al S.groups.length cl] w' fun e w2 => ∃ b2, e = .returned (.tuple #[.agg #[.slice (some ⟨b2, 0, none⟩) S.groups.length S.groups.length, .int .i64 (behindV S F L).start, .bool (behindV S F L).flashed], .int .u8 0, .int .i64 0]) ∧ Kept w' w2 none) := fun w' q => by
    refine (next_go2 (cl := cl) (h.kept q) (hT.kept q) (hF.kept q) (hB.kept q) hs HMY.out hf).mono ?_
    rintro e w2 ⟨b2, rfl, h1, h2, h3⟩
    exact ⟨b2, rfl, h3⟩
  subst hLV
  rw [show safeV a c F = .agg #[.slice a S.groups.length c, .int .i64 F.start, .bool F.flashed] by rw [safeV, hfn]]
  rw [hfn] at hlb
  clear hfn
  have k1 : Kept w (w.alloc (.cells #[.int .i64 S.id, .slice X.g S.groups.length X.gc, .slice X.a S.apart.length X.ac, .slice X.b S.between.length X.bc, .slice X.p S.phases.length X.pc, .slice X.e S.eyes.length X.ec, .int .i64 S.watch, .int .i64 S.feed, .int .i64 S.heal, .int .i64 S.low, .int .i64 S.high, .slice X.l S.plans.length X.lc] 34)) none := Kept.alloc _ _ _ _ _
  have k2 : Kept (w.alloc (.cells #[.int .i64 S.id, .slice X.g S.groups.length X.gc, .slice X.a S.apart.length X.ac, .slice X.b S.between.length X.bc, .slice X.p S.phases.length X.pc, .slice X.e S.eyes.length X.ec, .int .i64 S.watch, .int .i64 S.feed, .int .i64 S.heal, .int .i64 S.low, .int .i64 S.high, .slice X.l S.plans.length X.lc] 34)) ((w.alloc (.cells #[.int .i64 S.id, .slice X.g S.groups.length X.gc, .slice X.a S.apart.length X.ac, .slice X.b S.between.length X.bc, .slice X.p S.phases.length X.pc, .slice X.e S.eyes.length X.ec, .int .i64 S.watch, .int .i64 S.feed, .int .i64 S.heal, .int .i64 S.low, .int .i64 S.high, .slice X.l S.plans.length X.lc] 34)).alloc (.cells #[.slice a S.groups.length c, .int .i64 F.start, .bool F.flashed] 41)) none := Kept.alloc _ _ _ _ _
  have hsb := (sbox_alloc h 34).kept k2
  have bn := box_alloc (w.alloc (.cells #[.int .i64 S.id, .slice X.g S.groups.length X.gc, .slice X.a S.apart.length X.ac, .slice X.b S.between.length X.bc, .slice X.p S.phases.length X.pc, .slice X.e S.eyes.length X.ec, .int .i64 S.watch, .int .i64 S.feed, .int .i64 S.heal, .int .i64 S.low, .int .i64 S.high, .slice X.l S.plans.length X.lc] 34)) (.slice a S.groups.length c) (.int .i64 F.start) (.bool F.flashed) 41
  rw [World.size_alloc] at bn
  have hkA := k1.tr k2
  obtain ⟨WA, hWA⟩ : ∃ WA, ((w.alloc (.cells #[.int .i64 S.id, .slice X.g S.groups.length X.gc, .slice X.a S.apart.length X.ac, .slice X.b S.between.length X.bc, .slice X.p S.phases.length X.pc, .slice X.e S.eyes.length X.ec, .int .i64 S.watch, .int .i64 S.feed, .int .i64 S.heal, .int .i64 S.low, .int .i64 S.high, .slice X.l S.plans.length X.lc] 34)).alloc (.cells #[.slice a S.groups.length c, .int .i64 F.start, .bool F.flashed] 41)) = WA := ⟨_, rfl⟩
  rw [hWA] at hsb bn hkA
  have HSB := Hid.mk' hsb
  have HBN := Hid.mk' bn
  have HK := Hid.mk' hkA
  have HS := Hid.mk' (h.kept hkA)
  have HT := Hid.mk' (hT.kept hkA)
  have HF := Hid.mk' (hF.kept hkA)
  have HB := Hid.mk' (hB.kept hkA)
  have hBm := hB.max
  have n0_ : ∀ w', Kept WA w' none → w'.cell? ⟨w.heap.size + 1, 0, none⟩ = some (.slice a S.groups.length c) := fun w' q => (HBN.out.kept q).c0
  have n1_ : ∀ w', Kept WA w' none → w'.cell? ⟨w.heap.size + 1, 1, none⟩ = some (.int .i64 F.start) := fun w' q => (HBN.out.kept q).c1
  have n2_ : ∀ w', Kept WA w' none → w'.cell? ⟨w.heap.size + 1, 2, none⟩ = some (.bool F.flashed) := fun w' q => (HBN.out.kept q).c2
  have s0_ : ∀ w', Kept WA w' none → w'.cell? ⟨w.heap.size, 0, none⟩ = some (.int .i64 S.id) := fun w' q => (HSB.out.kept q).c0
  have s1_ : ∀ w', Kept WA w' none → w'.cell? ⟨w.heap.size, 1, none⟩ = some (.slice X.g S.groups.length X.gc) := fun w' q => (HSB.out.kept q).c1
  have s2_ : ∀ w', Kept WA w' none → w'.cell? ⟨w.heap.size, 2, none⟩ = some (.slice X.a S.apart.length X.ac) := fun w' q => (HSB.out.kept q).c2
  have s3_ : ∀ w', Kept WA w' none → w'.cell? ⟨w.heap.size, 3, none⟩ = some (.slice X.b S.between.length X.bc) := fun w' q => (HSB.out.kept q).c3
  have s4_ : ∀ w', Kept WA w' none → w'.cell? ⟨w.heap.size, 4, none⟩ = some (.slice X.p S.phases.length X.pc) := fun w' q => (HSB.out.kept q).c4
  have s5_ : ∀ w', Kept WA w' none → w'.cell? ⟨w.heap.size, 5, none⟩ = some (.slice X.e S.eyes.length X.ec) := fun w' q => (HSB.out.kept q).c5
  have s6_ : ∀ w', Kept WA w' none → w'.cell? ⟨w.heap.size, 6, none⟩ = some (.int .i64 S.watch) := fun w' q => (HSB.out.kept q).c6
  have s7_ : ∀ w', Kept WA w' none → w'.cell? ⟨w.heap.size, 7, none⟩ = some (.int .i64 S.feed) := fun w' q => (HSB.out.kept q).c7
  have s8_ : ∀ w', Kept WA w' none → w'.cell? ⟨w.heap.size, 8, none⟩ = some (.int .i64 S.heal) := fun w' q => (HSB.out.kept q).c8
  have s9_ : ∀ w', Kept WA w' none → w'.cell? ⟨w.heap.size, 9, none⟩ = some (.int .i64 S.low) := fun w' q => (HSB.out.kept q).c9
  have s10_ : ∀ w', Kept WA w' none → w'.cell? ⟨w.heap.size, 10, none⟩ = some (.int .i64 S.high) := fun w' q => (HSB.out.kept q).c10
  have s11_ : ∀ w', Kept WA w' none → w'.cell? ⟨w.heap.size, 11, none⟩ = some (.slice X.l S.plans.length X.lc) := fun w' q => (HSB.out.kept q).c11
  have hK0 := Kept.refl WA none
  clear h hT hF hB k1 k2 hsb bn hkA hf
  go_enter Tryd.func6, Tryd.ntmps6
  go_wp2_with (first | rw [hWA] | (go_at_call 15; refine (galive_any HT.out).mono ?_; rintro e wa ⟨rfl, hka⟩; have hKa : Kept WA wa none := hka))
  go_at_call 16
  refine (rgreat_any (HS.out.kept hKa)).mono ?_
  rintro e wg ⟨gr, rfl, hgr, hkg⟩
  have hKg : Kept WA wg none := hKa.tr hkg
  clear hgr
  cases gr with
  | true =>
    go_wp2
    go_ret
    exact ⟨rfl, (HK.out.tr hKg).below⟩
  | false =>
  go_wp2_with (first
    | rw [hW3]
    | (go_at_call 24; refine (same9_yes (HB.out.kept hK5) (HBY.out.kept (K23.out.tr (K45.out)))).mono ?_; rintro e w6 ⟨rfl, hk6⟩)
    | (have hgo := hK4; clear hgo; go_at_call 23; refine (HN4.out _ (HK.out.tr hK4)).mono ?_; rintro e w5 ⟨b5, rfl, hk5⟩; have hK5 : Kept WA (w5.alloc (.cells #[.slice (some ⟨b5, 0, none⟩) S.groups.length S.groups.length, .int .i64 (behindV S F LV).start, .bool (behindV S F LV).flashed] 41)) none := (hK4.tr hk5).tr (Kept.alloc _ _ _ _ _); have K45 := Hid.mk' ((hk4.tr hk5).tr (Kept.alloc w5 #[.slice (some ⟨b5, 0, none⟩) S.groups.length S.groups.length, .int .i64 (behindV S F LV).start, .bool (behindV S F LV).flashed] 41 (0, 0) none)))
    | (have hgo := HS3; clear hgo; go_at_call 12; refine (HAD2.out _ _ (HK.out.tr hK3) HS3.out).mono ?_; rintro e w4 ⟨b4, rfl, hk4⟩; have hK4 : Kept WA w4 none := hK3.tr hk4)
    | (have hgo := HBY; clear hgo; go_at_call 23; refine (HNX.out _ _ (HK.out.tr hK2) HBY.out).mono ?_; rintro e w3 ⟨b2, rfl, hs3, hk3⟩; have kL : Kept w3 (w3.alloc (.cells #[.slice (some ⟨b2, 0, none⟩) S.groups.length S.groups.length, .int .i64 (behindV S F LV).start, .bool (behindV S F LV).flashed] 41)) none := Kept.alloc _ _ _ _ _; have bx3 := box_alloc w3 (.slice (some ⟨b2, 0, none⟩) S.groups.length S.groups.length) (.int .i64 (behindV S F LV).start) (.bool (behindV S F LV).flashed) 41; obtain ⟨W3, hW3⟩ : ∃ W3, w3.alloc (.cells #[.slice (some ⟨b2, 0, none⟩) S.groups.length S.groups.length, .int .i64 (behindV S F LV).start, .bool (behindV S F LV).flashed] 41) = W3 := ⟨_, rfl⟩; rw [hW3] at kL bx3; have HS3 := Hid.mk' (hs3.kept kL); have hK3 : Kept WA W3 none := (hK2.tr hk3).tr kL; have HBX3 := Hid.mk' bx3; have x0 := bx3.c0; have x1 := bx3.c1; have x2 := bx3.c2; have K23 := Hid.mk' (hk3.tr kL); clear hs3 bx3)
    | (go_at_call 12; refine (HAD.out _ (HK.out.tr hKg)).mono ?_; rintro e w2 ⟨b, rfl, hb2, hby, hk2⟩; have hK2 : Kept WA w2 none := hKg.tr hk2; have HBY := Hid.mk' hby; clear hby))
  go_ret
  exact ⟨rfl, (HK.out.tr (hK5.tr hk6)).below⟩
theorem gsafe_any {X : Sa} {S : St} {w : World} {a : Option Addr} {c : Nat} {F : Sf} {al : Option Addr} {n cl : Nat} {L : List Nat} (h : Sat w X S) (hT : Tabb w) (hF : SafeAt w a c F) (hB : By w al n L) : Calls Tryd.prog 6 #[siteV X S, safeV a c F, .slice al n cl] w fun e w' => e = .returned (.bool true) ∧ Below w.heap.size w w' := by
  by_cases h1 : F.groups.length ≤ 100
  · by_cases h2 : n ≤ 100
    · by_cases hz : goesE S F = 0
      · by_cases hn : n = S.groups.length
        · by_cases hf : faultV S F L = 0
          · exact gsaf_same h hT hF hB h1 h2 hz hn hf
          · exact gsaf_fault h hT hF hB h1 h2 hz hn hf
        · exact gsaf_err h hT hF hB h1 h2 90 (by decide) (fun w' q => gadmit_ask (h.kept q) (hT.kept q) (hF.kept q) hz hn)
      · exact gsaf_err h hT hF hB h1 h2 _ hz (fun w' q => gadmit_no (h.kept q) (hT.kept q) (hF.kept q) hz)
    · exact gsaf_wide h hT hF hB h1 (by omega)
  · exact gsaf_long h hT hF hB (by omega)

end Go.Proofs.YtkbhcpgdhbfhnaaDoor

