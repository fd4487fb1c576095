/-
  Texts joined: some of those that the proofs of this seat stand on.
-/
import Derived.Test.YtkgimccffggfdaaDoorSvM
import Derived.Test.YtkgimccffggfdaaDoorSAli
import Derived.Test.YtkgimccffggfdaaDoorTurWJ
import Derived.Test.YtkgimccffggfdaaDoorRefG
import Derived.Deep.RegionHeld
/-
  THE WALK of SeqServes: what ends at once (made by a program).
-/
namespace Go.Proofs.YtkgimccffggfdaaDoor
open Go.RowKit Go.Lib Go.Deep
set_option linter.unusedVariables false
set_option linter.unusedSimpArgs false

set_option maxRecDepth 100000 in
set_option maxHeartbeats 2000000 in
theorem sser_long {X : Sa} {S : St} {w : World} (h : Sat w X S) (hT : Tabb w) {a : Option Addr} {ca : Nat} {F : Sf} (hF : SafeAt w a ca F) (x y : Int) {cc cg : Option Addr} {lc lg_ kc kg : Nat} {LC LG : List Nat} (hC : U3 w cc lc kc LC) (hG : U3 w cg lg_ kg LG) (p : Int) (hl : 100 < F.groups.length) : Calls Tryd.prog 5 #[siteV X S, .agg #[.int .i64 x, .int .i64 y], safeV a ca F, .int .i64 p, .slice cc lc kc, .slice cg lg_ kg] w fun e w' => e = .returned (.bool true) ∧ Below w.heap.size w w' := by
  have hlb : decide ((100 : Int) < (F.groups.length : Int)) = true := by simp; omega
  clear hl
  obtain ⟨WA, hWA⟩ : ∃ WA, (((w.alloc (.cells #[.int .i64 S.id, .slice X.g S.groups.length X.gc, .slice X.a S.apart.length X.ac, .slice X.b S.between.length X.bc, .slice X.p S.phases.length X.pc, .slice X.e S.eyes.length X.ec, .int .i64 S.watch, .int .i64 S.feed, .int .i64 S.heal, .int .i64 S.low, .int .i64 S.high, .slice X.l S.plans.length X.lc] 37)).alloc (.cells #[.int .i64 x, .int .i64 y] 40)).alloc (.cells #[.slice a F.groups.length ca, .int .i64 F.start, .bool F.flashed] 26)) = WA := ⟨_, rfl⟩
  obtain ⟨HSB, HBQ, HBN, HK, HS, HF, HSZ, q0_, q1_, n0_, n1_, n2_, s0_, s1_, s2_, s3_, s4_, s5_, s6_, s7_, s8_, s9_, s10_, s11_⟩ := hd3 h hF hWA
  have HT := Hid.mk' (hT.kept HK.out)
  have hK0 := Kept.refl WA none
  clear h hT hF
  go_enter Tryd.func5, Tryd.ntmps5
  go_wp2_with (first | rw [hWA] | (go_at_call 10; refine (salive_any HT.out).mono ?_; rintro e wv ⟨rfl, hkv⟩; have hKv : Kept WA wv none := hkv))
  go_at_call 11
  refine (rgreat_any (HS.out.kept hKv)).mono ?_
  rintro e wg ⟨gr, rfl, hgr, hkg⟩
  have hKg : Kept WA wg none := hKv.tr hkg
  clear hgr
  cases gr with
  | true =>
    go_wp2
    go_ret
    exact ⟨rfl, (HK.out.tr hKg).below⟩
  | false =>
    go_wp2
    go_ret
    exact ⟨rfl, (HK.out.tr hKg).below⟩
set_option maxRecDepth 100000 in
set_option maxHeartbeats 2000000 in
theorem sser_start {X : Sa} {S : St} {w : World} (h : Sat w X S) (hT : Tabb w) {a : Option Addr} {ca : Nat} {F : Sf} (hF : SafeAt w a ca F) (x y : Int) {cc cg : Option Addr} {lc lg_ kc kg : Nat} {LC LG : List Nat} (hC : U3 w cc lc kc LC) (hG : U3 w cg lg_ kg LG) (p : Int) (hl : F.groups.length ≤ 100) (hst : F.start ≠ 0) : Calls Tryd.prog 5 #[siteV X S, .agg #[.int .i64 x, .int .i64 y], safeV a ca F, .int .i64 p, .slice cc lc kc, .slice cg lg_ kg] w fun e w' => e = .returned (.bool true) ∧ Below w.heap.size w w' := by
  have hlb : decide ((100 : Int) < (F.groups.length : Int)) = false := by simp; omega
  clear hl
  have hsb : (F.start != 0) = true := by simpa using hst
  clear hst
  obtain ⟨WA, hWA⟩ : ∃ WA, (((w.alloc (.cells #[.int .i64 S.id, .slice X.g S.groups.length X.gc, .slice X.a S.apart.length X.ac, .slice X.b S.between.length X.bc, .slice X.p S.phases.length X.pc, .slice X.e S.eyes.length X.ec, .int .i64 S.watch, .int .i64 S.feed, .int .i64 S.heal, .int .i64 S.low, .int .i64 S.high, .slice X.l S.plans.length X.lc] 37)).alloc (.cells #[.int .i64 x, .int .i64 y] 40)).alloc (.cells #[.slice a F.groups.length ca, .int .i64 F.start, .bool F.flashed] 26)) = WA := ⟨_, rfl⟩
  obtain ⟨HSB, HBQ, HBN, HK, HS, HF, HSZ, q0_, q1_, n0_, n1_, n2_, s0_, s1_, s2_, s3_, s4_, s5_, s6_, s7_, s8_, s9_, s10_, s11_⟩ := hd3 h hF hWA
  have HT := Hid.mk' (hT.kept HK.out)
  have hK0 := Kept.refl WA none
  clear h hT hF
  go_enter Tryd.func5, Tryd.ntmps5
  go_wp2_with (first | rw [hWA] | (go_at_call 10; refine (salive_any HT.out).mono ?_; rintro e wv ⟨rfl, hkv⟩; have hKv : Kept WA wv none := hkv))
  go_at_call 11
  refine (rgreat_any (HS.out.kept hKv)).mono ?_
  rintro e wg ⟨gr, rfl, hgr, hkg⟩
  have hKg : Kept WA wg none := hKv.tr hkg
  clear hgr
  cases gr with
  | true =>
    go_wp2
    go_ret
    exact ⟨rfl, (HK.out.tr hKg).below⟩
  | false =>
    go_wp2
    go_ret
    exact ⟨rfl, (HK.out.tr hKg).below⟩
set_option maxRecDepth 100000 in
set_option maxHeartbeats 2000000 in
theorem sser_flash {X : Sa} {S : St} {w : World} (h : Sat w X S) (hT : Tabb w) {a : Option Addr} {ca : Nat} {F : Sf} (hF : SafeAt w a ca F) (x y : Int) {cc cg : Option Addr} {lc lg_ kc kg : Nat} {LC LG : List Nat} (hC : U3 w cc lc kc LC) (hG : U3 w cg lg_ kg LG) (p : Int) (hl : F.groups.length ≤ 100) (hst : F.start = 0) (hfl : F.flashed = true) : Calls Tryd.prog 5 #[siteV X S, .agg #[.int .i64 x, .int .i64 y], safeV a ca F, .int .i64 p, .slice cc lc kc, .slice cg lg_ kg] w fun e w' => e = .returned (.bool true) ∧ Below w.heap.size w w' := by
  have hlb : decide ((100 : Int) < (F.groups.length : Int)) = false := by simp; omega
  clear hl
  obtain ⟨WA, hWA⟩ : ∃ WA, (((w.alloc (.cells #[.int .i64 S.id, .slice X.g S.groups.length X.gc, .slice X.a S.apart.length X.ac, .slice X.b S.between.length X.bc, .slice X.p S.phases.length X.pc, .slice X.e S.eyes.length X.ec, .int .i64 S.watch, .int .i64 S.feed, .int .i64 S.heal, .int .i64 S.low, .int .i64 S.high, .slice X.l S.plans.length X.lc] 37)).alloc (.cells #[.int .i64 x, .int .i64 y] 40)).alloc (.cells #[.slice a F.groups.length ca, .int .i64 F.start, .bool F.flashed] 26)) = WA := ⟨_, rfl⟩
  obtain ⟨HSB, HBQ, HBN, HK, HS, HF, HSZ, q0_, q1_, n0_, n1_, n2_, s0_, s1_, s2_, s3_, s4_, s5_, s6_, s7_, s8_, s9_, s10_, s11_⟩ := hd3 h hF hWA
  have HT := Hid.mk' (hT.kept HK.out)
  have hK0 := Kept.refl WA none
  clear h hT hF
  replace n1_ : ∀ w', Kept WA w' none → w'.cell? ⟨w.heap.size + 1 + 1, 1, none⟩ = some (.int .i64 0) := fun w' q => by rw [← hst]; exact n1_ w' q
  replace n2_ : ∀ w', Kept WA w' none → w'.cell? ⟨w.heap.size + 1 + 1, 2, none⟩ = some (.bool true) := fun w' q => by rw [← hfl]; exact n2_ w' q
  clear hst hfl
  go_enter Tryd.func5, Tryd.ntmps5
  go_wp2_with (first | rw [hWA] | (go_at_call 10; refine (salive_any HT.out).mono ?_; rintro e wv ⟨rfl, hkv⟩; have hKv : Kept WA wv none := hkv))
  go_at_call 11
  refine (rgreat_any (HS.out.kept hKv)).mono ?_
  rintro e wg ⟨gr, rfl, hgr, hkg⟩
  have hKg : Kept WA wg none := hKv.tr hkg
  clear hgr
  cases gr with
  | true =>
    go_wp2
    go_ret
    exact ⟨rfl, (HK.out.tr hKg).below⟩
  | false =>
    go_wp2
    go_ret
    exact ⟨rfl, (HK.out.tr hKg).below⟩
set_option maxRecDepth 100000 in
set_option maxHeartbeats 2000000 in
theorem sser_neg {X : Sa} {S : St} {w : World} (h : Sat w X S) (hT : Tabb w) {a : Option Addr} {ca : Nat} {F : Sf} (hF : SafeAt w a ca F) (x y : Int) {cc cg : Option Addr} {lc lg_ kc kg : Nat} {LC LG : List Nat} (hC : U3 w cc lc kc LC) (hG : U3 w cg lg_ kg LG) (p : Int) (hl : F.groups.length ≤ 100) (hst : F.start = 0) (hfl : F.flashed = false) (hp : p < 0) : Calls Tryd.prog 5 #[siteV X S, .agg #[.int .i64 x, .int .i64 y], safeV a ca F, .int .i64 p, .slice cc lc kc, .slice cg lg_ kg] w fun e w' => e = .returned (.bool true) ∧ Below w.heap.size w w' := by
  have hlb : decide ((100 : Int) < (F.groups.length : Int)) = false := by simp; omega
  clear hl
  have hp0 : decide (p < 0) = true := decide_eq_true hp
  clear hp
  obtain ⟨WA, hWA⟩ : ∃ WA, (((w.alloc (.cells #[.int .i64 S.id, .slice X.g S.groups.length X.gc, .slice X.a S.apart.length X.ac, .slice X.b S.between.length X.bc, .slice X.p S.phases.length X.pc, .slice X.e S.eyes.length X.ec, .int .i64 S.watch, .int .i64 S.feed, .int .i64 S.heal, .int .i64 S.low, .int .i64 S.high, .slice X.l S.plans.length X.lc] 37)).alloc (.cells #[.int .i64 x, .int .i64 y] 40)).alloc (.cells #[.slice a F.groups.length ca, .int .i64 F.start, .bool F.flashed] 26)) = WA := ⟨_, rfl⟩
  obtain ⟨HSB, HBQ, HBN, HK, HS, HF, HSZ, q0_, q1_, n0_, n1_, n2_, s0_, s1_, s2_, s3_, s4_, s5_, s6_, s7_, s8_, s9_, s10_, s11_⟩ := hd3 h hF hWA
  have HT := Hid.mk' (hT.kept HK.out)
  have hK0 := Kept.refl WA none
  clear h hT hF
  replace n1_ : ∀ w', Kept WA w' none → w'.cell? ⟨w.heap.size + 1 + 1, 1, none⟩ = some (.int .i64 0) := fun w' q => by rw [← hst]; exact n1_ w' q
  replace n2_ : ∀ w', Kept WA w' none → w'.cell? ⟨w.heap.size + 1 + 1, 2, none⟩ = some (.bool false) := fun w' q => by rw [← hfl]; exact n2_ w' q
  clear hst hfl
  go_enter Tryd.func5, Tryd.ntmps5
  go_wp2_with (first | rw [hWA] | (go_at_call 10; refine (salive_any HT.out).mono ?_; rintro e wv ⟨rfl, hkv⟩; have hKv : Kept WA wv none := hkv))
  go_at_call 11
  refine (rgreat_any (HS.out.kept hKv)).mono ?_
  rintro e wg ⟨gr, rfl, hgr, hkg⟩
  have hKg : Kept WA wg none := hKv.tr hkg
  clear hgr
  cases gr with
  | true =>
    go_wp2
    go_ret
    exact ⟨rfl, (HK.out.tr hKg).below⟩
  | false =>
    go_wp2
    go_ret
    exact ⟨rfl, (HK.out.tr hKg).below⟩
set_option maxRecDepth 100000 in
set_option maxHeartbeats 2000000 in
theorem sser_far {X : Sa} {S : St} {w : World} (h : Sat w X S) (hT : Tabb w) {a : Option Addr} {ca : Nat} {F : Sf} (hF : SafeAt w a ca F) (x y : Int) {cc cg : Option Addr} {lc lg_ kc kg : Nat} {LC LG : List Nat} (hC : U3 w cc lc kc LC) (hG : U3 w cg lg_ kg LG) (p : Int) (hl : F.groups.length ≤ 100) (hst : F.start = 0) (hfl : F.flashed = false) (hp : 0 ≤ p) (hp2 : (S.phases.length : Int) ≤ p) : Calls Tryd.prog 5 #[siteV X S, .agg #[.int .i64 x, .int .i64 y], safeV a ca F, .int .i64 p, .slice cc lc kc, .slice cg lg_ kg] w fun e w' => e = .returned (.bool true) ∧ Below w.heap.size w w' := by
  have hlb : decide ((100 : Int) < (F.groups.length : Int)) = false := by simp; omega
  clear hl
  have hp0 : decide (p < 0) = false := decide_eq_false (by omega)
  have hp3 : decide ((S.phases.length : Int) ≤ p) = true := decide_eq_true hp2
  clear hp hp2
  obtain ⟨WA, hWA⟩ : ∃ WA, (((w.alloc (.cells #[.int .i64 S.id, .slice X.g S.groups.length X.gc, .slice X.a S.apart.length X.ac, .slice X.b S.between.length X.bc, .slice X.p S.phases.length X.pc, .slice X.e S.eyes.length X.ec, .int .i64 S.watch, .int .i64 S.feed, .int .i64 S.heal, .int .i64 S.low, .int .i64 S.high, .slice X.l S.plans.length X.lc] 37)).alloc (.cells #[.int .i64 x, .int .i64 y] 40)).alloc (.cells #[.slice a F.groups.length ca, .int .i64 F.start, .bool F.flashed] 26)) = WA := ⟨_, rfl⟩
  obtain ⟨HSB, HBQ, HBN, HK, HS, HF, HSZ, q0_, q1_, n0_, n1_, n2_, s0_, s1_, s2_, s3_, s4_, s5_, s6_, s7_, s8_, s9_, s10_, s11_⟩ := hd3 h hF hWA
  have HT := Hid.mk' (hT.kept HK.out)
  have hK0 := Kept.refl WA none
  clear h hT hF
  replace n1_ : ∀ w', Kept WA w' none → w'.cell? ⟨w.heap.size + 1 + 1, 1, none⟩ = some (.int .i64 0) := fun w' q => by rw [← hst]; exact n1_ w' q
  replace n2_ : ∀ w', Kept WA w' none → w'.cell? ⟨w.heap.size + 1 + 1, 2, none⟩ = some (.bool false) := fun w' q => by rw [← hfl]; exact n2_ w' q
  clear hst hfl
  go_enter Tryd.func5, Tryd.ntmps5
  go_wp2_with (first | rw [hWA] | (go_at_call 10; refine (salive_any HT.out).mono ?_; rintro e wv ⟨rfl, hkv⟩; have hKv : Kept WA wv none := hkv))
  go_at_call 11
  refine (rgreat_any (HS.out.kept hKv)).mono ?_
  rintro e wg ⟨gr, rfl, hgr, hkg⟩
  have hKg : Kept WA wg none := hKv.tr hkg
  clear hgr
  cases gr with
  | true =>
    go_wp2
    go_ret
    exact ⟨rfl, (HK.out.tr hKg).below⟩
  | false =>
    go_wp2
    go_ret
    exact ⟨rfl, (HK.out.tr hKg).below⟩
theorem sopn_any {X : Sa} {S : St} {w : World} {a : Option Addr} {c : Nat} {F : Sf} (h : Sat w X S) (hT : Tabb w) (hF : SafeAt w a c F) : Calls Tryd.prog 16 #[siteV X S, safeV a c F, .int .i64 0] w fun e w' => ∃ ob, e = .returned (.tuple #[.bool ob, .int .i64 (goesE S F)]) ∧ Kept w w' none := by
  by_cases hz : goesE S F = 0
  · have hs := (goesE_ok hz).1
    have hng := (span_may hs).base.sh.ok.ng
    refine (gopn_go h hT hF 0 hz (by omega)).mono ?_
    rintro e w' ⟨rfl, hk⟩
    exact ⟨_, by rw [hz], hk⟩
  · refine (gopn_no h hT hF 0 hz).mono ?_
    rintro e w' ⟨rfl, hk⟩
    exact ⟨_, rfl, hk⟩
set_option maxRecDepth 100000 in
set_option maxHeartbeats 4000000 in
theorem sser_e1 {X : Sa} {S : St} {w : World} (h : Sat w X S) (hT : Tabb w) {a : Option Addr} {ca : Nat} {F : Sf} (hF : SafeAt w a ca F) (x y : Int) {cc cg : Option Addr} {lc lg_ kc kg : Nat} {LC LG : List Nat} (hC : U3 w cc lc kc LC) (hG : U3 w cg lg_ kg LG) (p : Nat) (hl : F.groups.length ≤ 100) (hst : F.start = 0) (hfl : F.flashed = false) (hp : p < S.phases.length) (V E1 E2 E3 : Int) (hV : bouV S = V) (hE1 : bouE S = E1) (hE2 : nxE S F x y = E2) (hE3 : goesE S F = E3) (he1 : E1 ≠ 0) : Calls Tryd.prog 5 #[siteV X S, .agg #[.int .i64 x, .int .i64 y], safeV a ca F, .int .i64 (p : Int), .slice cc lc kc, .slice cg lg_ kg] w fun e w' => e = .returned (.bool true) ∧ Below w.heap.size w w' := by
  have hlb : decide ((100 : Int) < (F.groups.length : Int)) = false := by simp; omega
  have hp0 : decide ((p : Int) < 0) = false := decide_eq_false (by omega)
  have hp3 : decide ((S.phases.length : Int) ≤ (p : Int)) = false := decide_eq_false (by omega)
  have hp4 : ¬ S.phases.length ≤ p := by omega
  clear hl
  have he1b : (E1 != 0) = true := by simpa using he1
  obtain ⟨WA, hWA⟩ : ∃ WA, (((w.alloc (.cells #[.int .i64 S.id, .slice X.g S.groups.length X.gc, .slice X.a S.apart.length X.ac, .slice X.b S.between.length X.bc, .slice X.p S.phases.length X.pc, .slice X.e S.eyes.length X.ec, .int .i64 S.watch, .int .i64 S.feed, .int .i64 S.heal, .int .i64 S.low, .int .i64 S.high, .slice X.l S.plans.length X.lc] 37)).alloc (.cells #[.int .i64 x, .int .i64 y] 40)).alloc (.cells #[.slice a F.groups.length ca, .int .i64 F.start, .bool F.flashed] 26)) = WA := ⟨_, rfl⟩
  obtain ⟨HSB, HBQ, HBN, HK, HS, HF, HSZ, q0_, q1_, n0_, n1_, n2_, s0_, s1_, s2_, s3_, s4_, s5_, s6_, s7_, s8_, s9_, s10_, s11_⟩ := hd3 h hF hWA
  have HT := Hid.mk' (hT.kept HK.out)
  have hK0 := Kept.refl WA none
  clear h hT hF
  replace n1_ : ∀ w', Kept WA w' none → w'.cell? ⟨w.heap.size + 1 + 1, 1, none⟩ = some (.int .i64 0) := fun w' q => by rw [← hst]; exact n1_ w' q
  replace n2_ : ∀ w', Kept WA w' none → w'.cell? ⟨w.heap.size + 1 + 1, 2, none⟩ = some (.bool false) := fun w' q => by rw [← hfl]; exact n2_ w' q
  have HBD : Hid (∀ w', Kept WA w' none → Calls Tryd.prog 7 #[siteV X S] w' fun e w2 => e = .returned (.tuple #[.int .i64 V, .int .i64 E1]) ∧ Kept w' w2 none) := fun w' q => by
    have hx := sbou_any (HS.out.kept q) (HT.out.kept q)
    rw [hV, hE1] at hx
    exact hx
  have HNQ0 : Hid (∃ np ns nl, ∀ w', Kept WA w' none → Calls Tryd.prog 9 #[siteV X S, .agg #[.int .i64 x, .int .i64 y], .agg #[.slice a F.groups.length ca, .int .i64 0, .bool false], .int .u32 0, .int .u32 0] w' fun e w2 => ∃ al cl, e = .returned (.tuple #[.agg #[.int .i64 np, .int .i64 ns], .slice al nl cl, .int .i64 E2]) ∧ Kept w' w2 none) := ⟨_, _, _, fun w' q => by
    have hx := snext_any (HS.out.kept q) (HT.out.kept q) (HF.out.kept q) x y 0 0 (by omega) (by omega)
    rw [safeV, hst, hfl, hE2] at hx
    refine hx.mono ?_
    rintro e w2 ⟨al, cl, rfl, _, hk⟩
    exact ⟨al, cl, rfl, hk⟩⟩
  obtain ⟨np, ns, nl, HNQ⟩ := HNQ0.out
  have HNQ := Hid.mk' HNQ
  have HOP : Hid (∀ w', Kept WA w' none → Calls Tryd.prog 16 #[siteV X S, .agg #[.slice a F.groups.length ca, .int .i64 0, .bool false], .int .i64 0] w' fun e w2 => ∃ ob, e = .returned (.tuple #[.bool ob, .int .i64 E3]) ∧ Kept w' w2 none) := fun w' q => by
    have hx := sopn_any (HS.out.kept q) (HT.out.kept q) (HF.out.kept q)
    rw [safeV, hst, hfl, hE3] at hx
    exact hx
  clear HNQ0
  clear hst hfl hV hE1 hE2 hE3 he1
  go_enter Tryd.func5, Tryd.ntmps5
  go_wp2_with (first | rw [hWA] | (go_at_call 10; refine (salive_any HT.out).mono ?_; rintro e wv ⟨rfl, hkv⟩; have hKv : Kept WA wv none := hkv))
  go_at_call 11
  refine (rgreat_any (HS.out.kept hKv)).mono ?_
  rintro e wg ⟨gr, rfl, hgr, hkg⟩
  have hKg : Kept WA wg none := hKv.tr hkg
  clear hgr
  cases gr with
  | true =>
    go_wp2
    go_ret
    exact ⟨rfl, (HK.out.tr hKg).below⟩
  | false =>
    go_wp2_with (first | rw [hw8] | (have hgo := hK8; clear hgo; go_at_call 16; refine (HOP.out _ hK8).mono ?_; rintro e wo ⟨ob, rfl, hko⟩; have hKo : Kept WA wo none := hK8.tr hko) | (have hgo := hKb; clear hgo; go_at_call 9; refine (HNQ.out _ hKb).mono ?_; rintro e wn ⟨al, cl, rfl, hkn⟩; have hKn : Kept WA wn none := hKb.tr hkn; have l2 : w.heap.size + 1 + 1 < wn.heap.size := Nat.lt_of_lt_of_le HBN.out.lt hKn.size; have l1 : w.heap.size + 1 < wn.heap.size := (by omega); have l0 : w.heap.size < wn.heap.size := (by omega); have k8 : Kept wn (wn.alloc (.cells #[.int .i64 np, .int .i64 ns] 40)) none := Kept.alloc _ _ _ _ _; obtain ⟨w8, hw8⟩ : ∃ w8, wn.alloc (.cells #[.int .i64 np, .int .i64 ns] 40) = w8 := ⟨_, rfl⟩; rw [hw8] at k8; have hK8 : Kept WA w8 none := hKn.tr k8) | (have hgo := hKg; clear hgo; go_at_call 7; refine (HBD.out _ hKg).mono ?_; rintro e wb ⟨rfl, hkb⟩; have hKb : Kept WA wb none := hKg.tr hkb))
    go_ret
    exact ⟨rfl, (HK.out.tr hKo).below⟩
set_option maxRecDepth 100000 in
set_option maxHeartbeats 4000000 in
theorem sser_e2 {X : Sa} {S : St} {w : World} (h : Sat w X S) (hT : Tabb w) {a : Option Addr} {ca : Nat} {F : Sf} (hF : SafeAt w a ca F) (x y : Int) {cc cg : Option Addr} {lc lg_ kc kg : Nat} {LC LG : List Nat} (hC : U3 w cc lc kc LC) (hG : U3 w cg lg_ kg LG) (p : Nat) (hl : F.groups.length ≤ 100) (hst : F.start = 0) (hfl : F.flashed = false) (hp : p < S.phases.length) (V E1 E2 E3 : Int) (hV : bouV S = V) (hE1 : bouE S = E1) (hE2 : nxE S F x y = E2) (hE3 : goesE S F = E3) (he1 : E1 = 0) (he2 : E2 ≠ 0) : Calls Tryd.prog 5 #[siteV X S, .agg #[.int .i64 x, .int .i64 y], safeV a ca F, .int .i64 (p : Int), .slice cc lc kc, .slice cg lg_ kg] w fun e w' => e = .returned (.bool true) ∧ Below w.heap.size w w' := by
  have hlb : decide ((100 : Int) < (F.groups.length : Int)) = false := by simp; omega
  have hp0 : decide ((p : Int) < 0) = false := decide_eq_false (by omega)
  have hp3 : decide ((S.phases.length : Int) ≤ (p : Int)) = false := decide_eq_false (by omega)
  have hp4 : ¬ S.phases.length ≤ p := by omega
  clear hl
  have he1b : (E1 != 0) = false := by simpa using he1
  have he2b : (E2 != 0) = true := by simpa using he2
  obtain ⟨WA, hWA⟩ : ∃ WA, (((w.alloc (.cells #[.int .i64 S.id, .slice X.g S.groups.length X.gc, .slice X.a S.apart.length X.ac, .slice X.b S.between.length X.bc, .slice X.p S.phases.length X.pc, .slice X.e S.eyes.length X.ec, .int .i64 S.watch, .int .i64 S.feed, .int .i64 S.heal, .int .i64 S.low, .int .i64 S.high, .slice X.l S.plans.length X.lc] 37)).alloc (.cells #[.int .i64 x, .int .i64 y] 40)).alloc (.cells #[.slice a F.groups.length ca, .int .i64 F.start, .bool F.flashed] 26)) = WA := ⟨_, rfl⟩
  obtain ⟨HSB, HBQ, HBN, HK, HS, HF, HSZ, q0_, q1_, n0_, n1_, n2_, s0_, s1_, s2_, s3_, s4_, s5_, s6_, s7_, s8_, s9_, s10_, s11_⟩ := hd3 h hF hWA
  have HT := Hid.mk' (hT.kept HK.out)
  have hK0 := Kept.refl WA none
  clear h hT hF
  replace n1_ : ∀ w', Kept WA w' none → w'.cell? ⟨w.heap.size + 1 + 1, 1, none⟩ = some (.int .i64 0) := fun w' q => by rw [← hst]; exact n1_ w' q
  replace n2_ : ∀ w', Kept WA w' none → w'.cell? ⟨w.heap.size + 1 + 1, 2, none⟩ = some (.bool false) := fun w' q => by rw [← hfl]; exact n2_ w' q
  have HBD : Hid (∀ w', Kept WA w' none → Calls Tryd.prog 7 #[siteV X S] w' fun e w2 => e = .returned (.tuple #[.int .i64 V, .int .i64 E1]) ∧ Kept w' w2 none) := fun w' q => by
    have hx := sbou_any (HS.out.kept q) (HT.out.kept q)
    rw [hV, hE1] at hx
    exact hx
  have HNQ0 : Hid (∃ np ns nl, ∀ w', Kept WA w' none → Calls Tryd.prog 9 #[siteV X S, .agg #[.int .i64 x, .int .i64 y], .agg #[.slice a F.groups.length ca, .int .i64 0, .bool false], .int .u32 0, .int .u32 0] w' fun e w2 => ∃ al cl, e = .returned (.tuple #[.agg #[.int .i64 np, .int .i64 ns], .slice al nl cl, .int .i64 E2]) ∧ Kept w' w2 none) := ⟨_, _, _, fun w' q => by
    have hx := snext_any (HS.out.kept q) (HT.out.kept q) (HF.out.kept q) x y 0 0 (by omega) (by omega)
    rw [safeV, hst, hfl, hE2] at hx
    refine hx.mono ?_
    rintro e w2 ⟨al, cl, rfl, _, hk⟩
    exact ⟨al, cl, rfl, hk⟩⟩
  obtain ⟨np, ns, nl, HNQ⟩ := HNQ0.out
  have HNQ := Hid.mk' HNQ
  have HOP : Hid (∀ w', Kept WA w' none → Calls Tryd.prog 16 #[siteV X S, .agg #[.slice a F.groups.length ca, .int .i64 0, .bool false], .int .i64 0] w' fun e w2 => ∃ ob, e = .returned (.tuple #[.bool ob, .int .i64 E3]) ∧ Kept w' w2 none) := fun w' q => by
    have hx := sopn_any (HS.out.kept q) (HT.out.kept q) (HF.out.kept q)
    rw [safeV, hst, hfl, hE3] at hx
    exact hx
  clear HNQ0
  clear hst hfl hV hE1 hE2 hE3 he1 he2
  go_enter Tryd.func5, Tryd.ntmps5
  go_wp2_with (first | rw [hWA] | (go_at_call 10; refine (salive_any HT.out).mono ?_; rintro e wv ⟨rfl, hkv⟩; have hKv : Kept WA wv none := hkv))
  go_at_call 11
  refine (rgreat_any (HS.out.kept hKv)).mono ?_
  rintro e wg ⟨gr, rfl, hgr, hkg⟩
  have hKg : Kept WA wg none := hKv.tr hkg
  clear hgr
  cases gr with
  | true =>
    go_wp2
    go_ret
    exact ⟨rfl, (HK.out.tr hKg).below⟩
  | false =>
    go_wp2_with (first | rw [hw8] | (have hgo := hK8; clear hgo; go_at_call 16; refine (HOP.out _ hK8).mono ?_; rintro e wo ⟨ob, rfl, hko⟩; have hKo : Kept WA wo none := hK8.tr hko) | (have hgo := hKb; clear hgo; go_at_call 9; refine (HNQ.out _ hKb).mono ?_; rintro e wn ⟨al, cl, rfl, hkn⟩; have hKn : Kept WA wn none := hKb.tr hkn; have l2 : w.heap.size + 1 + 1 < wn.heap.size := Nat.lt_of_lt_of_le HBN.out.lt hKn.size; have l1 : w.heap.size + 1 < wn.heap.size := (by omega); have l0 : w.heap.size < wn.heap.size := (by omega); have k8 : Kept wn (wn.alloc (.cells #[.int .i64 np, .int .i64 ns] 40)) none := Kept.alloc _ _ _ _ _; obtain ⟨w8, hw8⟩ : ∃ w8, wn.alloc (.cells #[.int .i64 np, .int .i64 ns] 40) = w8 := ⟨_, rfl⟩; rw [hw8] at k8; have hK8 : Kept WA w8 none := hKn.tr k8) | (have hgo := hKg; clear hgo; go_at_call 7; refine (HBD.out _ hKg).mono ?_; rintro e wb ⟨rfl, hkb⟩; have hKb : Kept WA wb none := hKg.tr hkb))
    go_ret
    exact ⟨rfl, (HK.out.tr hKo).below⟩
set_option maxRecDepth 100000 in
set_option maxHeartbeats 4000000 in
theorem sser_e3 {X : Sa} {S : St} {w : World} (h : Sat w X S) (hT : Tabb w) {a : Option Addr} {ca : Nat} {F : Sf} (hF : SafeAt w a ca F) (x y : Int) {cc cg : Option Addr} {lc lg_ kc kg : Nat} {LC LG : List Nat} (hC : U3 w cc lc kc LC) (hG : U3 w cg lg_ kg LG) (p : Nat) (hl : F.groups.length ≤ 100) (hst : F.start = 0) (hfl : F.flashed = false) (hp : p < S.phases.length) (V E1 E2 E3 : Int) (hV : bouV S = V) (hE1 : bouE S = E1) (hE2 : nxE S F x y = E2) (hE3 : goesE S F = E3) (he1 : E1 = 0) (he2 : E2 = 0) (he3 : E3 ≠ 0) : Calls Tryd.prog 5 #[siteV X S, .agg #[.int .i64 x, .int .i64 y], safeV a ca F, .int .i64 (p : Int), .slice cc lc kc, .slice cg lg_ kg] w fun e w' => e = .returned (.bool true) ∧ Below w.heap.size w w' := by
  have hlb : decide ((100 : Int) < (F.groups.length : Int)) = false := by simp; omega
  have hp0 : decide ((p : Int) < 0) = false := decide_eq_false (by omega)
  have hp3 : decide ((S.phases.length : Int) ≤ (p : Int)) = false := decide_eq_false (by omega)
  have hp4 : ¬ S.phases.length ≤ p := by omega
  clear hl
  have he1b : (E1 != 0) = false := by simpa using he1
  have he2b : (E2 != 0) = false := by simpa using he2
  have he3b : (E3 != 0) = true := by simpa using he3
  obtain ⟨WA, hWA⟩ : ∃ WA, (((w.alloc (.cells #[.int .i64 S.id, .slice X.g S.groups.length X.gc, .slice X.a S.apart.length X.ac, .slice X.b S.between.length X.bc, .slice X.p S.phases.length X.pc, .slice X.e S.eyes.length X.ec, .int .i64 S.watch, .int .i64 S.feed, .int .i64 S.heal, .int .i64 S.low, .int .i64 S.high, .slice X.l S.plans.length X.lc] 37)).alloc (.cells #[.int .i64 x, .int .i64 y] 40)).alloc (.cells #[.slice a F.groups.length ca, .int .i64 F.start, .bool F.flashed] 26)) = WA := ⟨_, rfl⟩
  obtain ⟨HSB, HBQ, HBN, HK, HS, HF, HSZ, q0_, q1_, n0_, n1_, n2_, s0_, s1_, s2_, s3_, s4_, s5_, s6_, s7_, s8_, s9_, s10_, s11_⟩ := hd3 h hF hWA
  have HT := Hid.mk' (hT.kept HK.out)
  have hK0 := Kept.refl WA none
  clear h hT hF
  replace n1_ : ∀ w', Kept WA w' none → w'.cell? ⟨w.heap.size + 1 + 1, 1, none⟩ = some (.int .i64 0) := fun w' q => by rw [← hst]; exact n1_ w' q
  replace n2_ : ∀ w', Kept WA w' none → w'.cell? ⟨w.heap.size + 1 + 1, 2, none⟩ = some (.bool false) := fun w' q => by rw [← hfl]; exact n2_ w' q
  have HBD : Hid (∀ w', Kept WA w' none → Calls Tryd.prog 7 #[siteV X S] w' fun e w2 => e = .returned (.tuple #[.int .i64 V, .int .i64 E1]) ∧ Kept w' w2 none) := fun w' q => by
    have hx := sbou_any (HS.out.kept q) (HT.out.kept q)
    rw [hV, hE1] at hx
    exact hx
  have HNQ0 : Hid (∃ np ns nl, ∀ w', Kept WA w' none → Calls Tryd.prog 9 #[siteV X S, .agg #[.int .i64 x, .int .i64 y], .agg #[.slice a F.groups.length ca, .int .i64 0, .bool false], .int .u32 0, .int .u32 0] w' fun e w2 => ∃ al cl, e = .returned (.tuple #[.agg #[.int .i64 np, .int .i64 ns], .slice al nl cl, .int .i64 E2]) ∧ Kept w' w2 none) := ⟨_, _, _, fun w' q => by
    have hx := snext_any (HS.out.kept q) (HT.out.kept q) (HF.out.kept q) x y 0 0 (by omega) (by omega)
    rw [safeV, hst, hfl, hE2] at hx
    refine hx.mono ?_
    rintro e w2 ⟨al, cl, rfl, _, hk⟩
    exact ⟨al, cl, rfl, hk⟩⟩
  obtain ⟨np, ns, nl, HNQ⟩ := HNQ0.out
  have HNQ := Hid.mk' HNQ
  have HOP : Hid (∀ w', Kept WA w' none → Calls Tryd.prog 16 #[siteV X S, .agg #[.slice a F.groups.length ca, .int .i64 0, .bool false], .int .i64 0] w' fun e w2 => ∃ ob, e = .returned (.tuple #[.bool ob, .int .i64 E3]) ∧ Kept w' w2 none) := fun w' q => by
    have hx := sopn_any (HS.out.kept q) (HT.out.kept q) (HF.out.kept q)
    rw [safeV, hst, hfl, hE3] at hx
    exact hx
  clear HNQ0
  clear hst hfl hV hE1 hE2 hE3 he1 he2 he3
  go_enter Tryd.func5, Tryd.ntmps5
  go_wp2_with (first | rw [hWA] | (go_at_call 10; refine (salive_any HT.out).mono ?_; rintro e wv ⟨rfl, hkv⟩; have hKv : Kept WA wv none := hkv))
  go_at_call 11
  refine (rgreat_any (HS.out.kept hKv)).mono ?_
  rintro e wg ⟨gr, rfl, hgr, hkg⟩
  have hKg : Kept WA wg none := hKv.tr hkg
  clear hgr
  cases gr with
  | true =>
    go_wp2
    go_ret
    exact ⟨rfl, (HK.out.tr hKg).below⟩
  | false =>
    go_wp2_with (first | rw [hw8] | (have hgo := hK8; clear hgo; go_at_call 16; refine (HOP.out _ hK8).mono ?_; rintro e wo ⟨ob, rfl, hko⟩; have hKo : Kept WA wo none := hK8.tr hko) | (have hgo := hKb; clear hgo; go_at_call 9; refine (HNQ.out _ hKb).mono ?_; rintro e wn ⟨al, cl, rfl, hkn⟩; have hKn : Kept WA wn none := hKb.tr hkn; have l2 : w.heap.size + 1 + 1 < wn.heap.size := Nat.lt_of_lt_of_le HBN.out.lt hKn.size; have l1 : w.heap.size + 1 < wn.heap.size := (by omega); have l0 : w.heap.size < wn.heap.size := (by omega); have k8 : Kept wn (wn.alloc (.cells #[.int .i64 np, .int .i64 ns] 40)) none := Kept.alloc _ _ _ _ _; obtain ⟨w8, hw8⟩ : ∃ w8, wn.alloc (.cells #[.int .i64 np, .int .i64 ns] 40) = w8 := ⟨_, rfl⟩; rw [hw8] at k8; have hK8 : Kept WA w8 none := hKn.tr k8) | (have hgo := hKg; clear hgo; go_at_call 7; refine (HBD.out _ hKg).mono ?_; rintro e wb ⟨rfl, hkb⟩; have hKb : Kept WA wb none := hKg.tr hkb))
    go_ret
    exact ⟨rfl, (HK.out.tr hKo).below⟩
set_option maxRecDepth 100000 in
set_option maxHeartbeats 4000000 in
theorem sser_e4 {X : Sa} {S : St} {w : World} (h : Sat w X S) (hT : Tabb w) {a : Option Addr} {ca : Nat} {F : Sf} (hF : SafeAt w a ca F) (x y : Int) {cc cg : Option Addr} {lc lg_ kc kg : Nat} {LC LG : List Nat} (hC : U3 w cc lc kc LC) (hG : U3 w cg lg_ kg LG) (p : Nat) (hl : F.groups.length ≤ 100) (hst : F.start = 0) (hfl : F.flashed = false) (hp : p < S.phases.length) (V E1 E2 E3 : Int) (hV : bouV S = V) (hE1 : bouE S = E1) (hE2 : nxE S F x y = E2) (hE3 : goesE S F = E3) (he1 : E1 = 0) (he2 : E2 = 0) (he3 : E3 = 0) (he4 : 600 < V) : Calls Tryd.prog 5 #[siteV X S, .agg #[.int .i64 x, .int .i64 y], safeV a ca F, .int .i64 (p : Int), .slice cc lc kc, .slice cg lg_ kg] w fun e w' => e = .returned (.bool true) ∧ Below w.heap.size w w' := by
  have hlb : decide ((100 : Int) < (F.groups.length : Int)) = false := by simp; omega
  have hp0 : decide ((p : Int) < 0) = false := decide_eq_false (by omega)
  have hp3 : decide ((S.phases.length : Int) ≤ (p : Int)) = false := decide_eq_false (by omega)
  have hp4 : ¬ S.phases.length ≤ p := by omega
  clear hl
  have he1b : (E1 != 0) = false := by simpa using he1
  have he2b : (E2 != 0) = false := by simpa using he2
  have he3b : (E3 != 0) = false := by simpa using he3
  have he4b : decide (600 < V) = true := decide_eq_true he4
  obtain ⟨WA, hWA⟩ : ∃ WA, (((w.alloc (.cells #[.int .i64 S.id, .slice X.g S.groups.length X.gc, .slice X.a S.apart.length X.ac, .slice X.b S.between.length X.bc, .slice X.p S.phases.length X.pc, .slice X.e S.eyes.length X.ec, .int .i64 S.watch, .int .i64 S.feed, .int .i64 S.heal, .int .i64 S.low, .int .i64 S.high, .slice X.l S.plans.length X.lc] 37)).alloc (.cells #[.int .i64 x, .int .i64 y] 40)).alloc (.cells #[.slice a F.groups.length ca, .int .i64 F.start, .bool F.flashed] 26)) = WA := ⟨_, rfl⟩
  obtain ⟨HSB, HBQ, HBN, HK, HS, HF, HSZ, q0_, q1_, n0_, n1_, n2_, s0_, s1_, s2_, s3_, s4_, s5_, s6_, s7_, s8_, s9_, s10_, s11_⟩ := hd3 h hF hWA
  have HT := Hid.mk' (hT.kept HK.out)
  have hK0 := Kept.refl WA none
  clear h hT hF
  replace n1_ : ∀ w', Kept WA w' none → w'.cell? ⟨w.heap.size + 1 + 1, 1, none⟩ = some (.int .i64 0) := fun w' q => by rw [← hst]; exact n1_ w' q
  replace n2_ : ∀ w', Kept WA w' none → w'.cell? ⟨w.heap.size + 1 + 1, 2, none⟩ = some (.bool false) := fun w' q => by rw [← hfl]; exact n2_ w' q
  have HBD : Hid (∀ w', Kept WA w' none → Calls Tryd.prog 7 #[siteV X S] w' fun e w2 => e = .returned (.tuple #[.int .i64 V, .int .i64 E1]) ∧ Kept w' w2 none) := fun w' q => by
    have hx := sbou_any (HS.out.kept q) (HT.out.kept q)
    rw [hV, hE1] at hx
    exact hx
  have HNQ0 : Hid (∃ np ns nl, ∀ w', Kept WA w' none → Calls Tryd.prog 9 #[siteV X S, .agg #[.int .i64 x, .int .i64 y], .agg #[.slice a F.groups.length ca, .int .i64 0, .bool false], .int .u32 0, .int .u32 0] w' fun e w2 => ∃ al cl, e = .returned (.tuple #[.agg #[.int .i64 np, .int .i64 ns], .slice al nl cl, .int .i64 E2]) ∧ Kept w' w2 none) := ⟨_, _, _, fun w' q => by
    have hx := snext_any (HS.out.kept q) (HT.out.kept q) (HF.out.kept q) x y 0 0 (by omega) (by omega)
    rw [safeV, hst, hfl, hE2] at hx
    refine hx.mono ?_
    rintro e w2 ⟨al, cl, rfl, _, hk⟩
    exact ⟨al, cl, rfl, hk⟩⟩
  obtain ⟨np, ns, nl, HNQ⟩ := HNQ0.out
  have HNQ := Hid.mk' HNQ
  have HOP : Hid (∀ w', Kept WA w' none → Calls Tryd.prog 16 #[siteV X S, .agg #[.slice a F.groups.length ca, .int .i64 0, .bool false], .int .i64 0] w' fun e w2 => ∃ ob, e = .returned (.tuple #[.bool ob, .int .i64 E3]) ∧ Kept w' w2 none) := fun w' q => by
    have hx := sopn_any (HS.out.kept q) (HT.out.kept q) (HF.out.kept q)
    rw [safeV, hst, hfl, hE3] at hx
    exact hx
  clear HNQ0
  clear hst hfl hV hE1 hE2 hE3 he1 he2 he3 he4
  go_enter Tryd.func5, Tryd.ntmps5
  go_wp2_with (first | rw [hWA] | (go_at_call 10; refine (salive_any HT.out).mono ?_; rintro e wv ⟨rfl, hkv⟩; have hKv : Kept WA wv none := hkv))
  go_at_call 11
  refine (rgreat_any (HS.out.kept hKv)).mono ?_
  rintro e wg ⟨gr, rfl, hgr, hkg⟩
  have hKg : Kept WA wg none := hKv.tr hkg
  clear hgr
  cases gr with
  | true =>
    go_wp2
    go_ret
    exact ⟨rfl, (HK.out.tr hKg).below⟩
  | false =>
    go_wp2_with (first | rw [hw8] | (have hgo := hK8; clear hgo; go_at_call 16; refine (HOP.out _ hK8).mono ?_; rintro e wo ⟨ob, rfl, hko⟩; have hKo : Kept WA wo none := hK8.tr hko) | (have hgo := hKb; clear hgo; go_at_call 9; refine (HNQ.out _ hKb).mono ?_; rintro e wn ⟨al, cl, rfl, hkn⟩; have hKn : Kept WA wn none := hKb.tr hkn; have l2 : w.heap.size + 1 + 1 < wn.heap.size := Nat.lt_of_lt_of_le HBN.out.lt hKn.size; have l1 : w.heap.size + 1 < wn.heap.size := (by omega); have l0 : w.heap.size < wn.heap.size := (by omega); have k8 : Kept wn (wn.alloc (.cells #[.int .i64 np, .int .i64 ns] 40)) none := Kept.alloc _ _ _ _ _; obtain ⟨w8, hw8⟩ : ∃ w8, wn.alloc (.cells #[.int .i64 np, .int .i64 ns] 40) = w8 := ⟨_, rfl⟩; rw [hw8] at k8; have hK8 : Kept WA w8 none := hKn.tr k8) | (have hgo := hKg; clear hgo; go_at_call 7; refine (HBD.out _ hKg).mono ?_; rintro e wb ⟨rfl, hkb⟩; have hKb : Kept WA wb none := hKg.tr hkb))
    go_ret
    exact ⟨rfl, (HK.out.tr hKo).below⟩

end Go.Proofs.YtkgimccffggfdaaDoor

/-
  THE WALK of SeqServes: the ticks (made by a program).
-/
namespace Go.Proofs.YtkgimccffggfdaaDoor
open Go.RowKit Go.Lib Go.Deep
set_option linter.unusedVariables false
set_option linter.unusedSimpArgs false

/-- The calls of a tick: what is told, and the phase. -/
def cQ (L : List Nat) (p n : Nat) : Nat := atU L n ||| 2 ^ p
theorem cQ_lt {L : List Nat} (h : ∀ x ∈ L, x < 4294967296) {p : Nat} (hp : p < 32) (n : Nat) : cQ L p n < 4294967296 := or_pow_lt _ _ (atU_lt h n) hp
theorem cQ_call (S : St) (L : List Nat) (p n : Nat) : callB S (cQ L p n) p = true := by
  unfold callB cQ
  rw [Nat.testBit_or, Nat.testBit_two_pow]
  simp
/-- What is known behind k ticks in none of which the phase was full. -/
theorem ser_at {S : St} {T : Nat} {q : Sq} {F : Sf} {C G : Nat → Nat} (hs : siteB S = true) (hg : goesV S F = true) (hc : Calm F) (hT : T < S.phases.length) (hp : q.ph < S.phases.length) (h0 : 0 ≤ q.since) (h9 : q.since ≤ 1048576) (hC : ∀ n, callB S (C n) T = true) (k : Nat) (hn : ∀ j, j < k → fullB S (runQ S C G q F j).2 T = false) : (k : Int) ≤ bouM S ∧ goesV S (runQ S C G q F k).2 = true ∧ (runQ S C G q F k).1.ph < S.phases.length ∧ 0 ≤ (runQ S C G q F k).1.since ∧ (runQ S C G q F k).1.since ≤ 1048576 := by
  obtain ⟨a, b, d, e, f, i⟩ := serves (G := G) hs hg hc hT hp h0 h9 hC k hn
  have := pot_ge hs e a
  exact ⟨by omega, b, e, f, i⟩
set_option maxRecDepth 100000 in
set_option maxHeartbeats 8000000 in
theorem sser_go {X : Sa} {S : St} {w : World} (h : Sat w X S) (hT : Tabb w) {a : Option Addr} {ca : Nat} {F : Sf} (hF : SafeAt w a ca F) (y : Int) {cc cg : Option Addr} {lc lg_ kc kg : Nat} {LC LG : List Nat} (hC : U3 w cc lc kc LC) (hG : U3 w cg lg_ kg LG) (p : Nat) (hl : F.groups.length ≤ 100) (hst : F.start = 0) (hfl : F.flashed = false) (hp : p < S.phases.length) (x0 : Nat) (hx0 : x0 < S.phases.length) (hy0 : 0 ≤ y) (hy9 : y ≤ 1048576) (hE2 : nxE S F (x0 : Int) y = 0) (hz : goesE S F = 0) (hbo : bouM S ≤ 600) : Calls Tryd.prog 5 #[siteV X S, .agg #[.int .i64 (x0 : Int), .int .i64 y], safeV a ca F, .int .i64 (p : Int), .slice cc lc kc, .slice cg lg_ kg] w fun e w' => e = .returned (.bool true) ∧ Below w.heap.size w w' := by
  have hlb : decide ((100 : Int) < (F.groups.length : Int)) = false := by simp; omega
  have hp0 : decide ((p : Int) < 0) = false := decide_eq_false (by omega)
  have hp3 : decide ((S.phases.length : Int) ≤ (p : Int)) = false := decide_eq_false (by omega)
  have hp4 : ¬ S.phases.length ≤ p := by omega
  obtain ⟨hs, hg⟩ := goesE_ok hz
  have hn8 := (span_may hs).base.sh.ok.np.2
  have hng := (span_may hs).base.sh.ok.ng
  have HSI := Hid.mk' hs
  have HSER := Hid.mk' (fun k hn => ser_at (G := atU LG) (q := ⟨x0, y⟩) hs hg ⟨hfl, hst⟩ hp hx0 hy0 hy9 (cQ_call S LC p) k hn)
  have HFN := Hid.mk' (mayS_parts (goes_parts hg).1).1
  have HOLD : Hid (∀ b, a = some b → 0 < F.groups.length → b.block < w.heap.size) := fun b e hpos => by
    obtain ⟨bf, off, ea, hbf, _⟩ := hF.lie.at_ hpos
    rw [ea] at e
    injection e with e
    subst e
    exact hbf
  have HSAT := Hid.mk' h
  have HTAB := Hid.mk' hT
  have HUC := Hid.mk' hC
  have HUG := Hid.mk' hG
  have HP := Hid.mk' hp
  have hE1 : bouE S = 0 := by unfold bouE; rw [hs]; rfl
  have hV : bouV S = bouM S := by unfold bouV; rw [hs]; rfl
  have hb6 : decide (600 < bouM S) = false := decide_eq_false (by omega)
  have hb9 : bouM S ≤ 600 := hbo
  obtain ⟨WA, hWA⟩ : ∃ WA, (((w.alloc (.cells #[.int .i64 S.id, .slice X.g S.groups.length X.gc, .slice X.a S.apart.length X.ac, .slice X.b S.between.length X.bc, .slice X.p S.phases.length X.pc, .slice X.e S.eyes.length X.ec, .int .i64 S.watch, .int .i64 S.feed, .int .i64 S.heal, .int .i64 S.low, .int .i64 S.high, .slice X.l S.plans.length X.lc] 37)).alloc (.cells #[.int .i64 (x0 : Int), .int .i64 y] 40)).alloc (.cells #[.slice a F.groups.length ca, .int .i64 F.start, .bool F.flashed] 26)) = WA := ⟨_, rfl⟩
  obtain ⟨HSB, HBQ, HBN, HK, HS, HF, HSZ, q0_, q1_, n0_, n1_, n2_, s0_, s1_, s2_, s3_, s4_, s5_, s6_, s7_, s8_, s9_, s10_, s11_⟩ := hd3 h hF hWA
  have HT := Hid.mk' (hT.kept HK.out)
  have hK0 := Kept.refl WA none
  clear hF
  replace n1_ : ∀ w', Kept WA w' none → w'.cell? ⟨w.heap.size + 1 + 1, 1, none⟩ = some (.int .i64 0) := fun w' q => by rw [← hst]; exact n1_ w' q
  replace n2_ : ∀ w', Kept WA w' none → w'.cell? ⟨w.heap.size + 1 + 1, 2, none⟩ = some (.bool false) := fun w' q => by rw [← hfl]; exact n2_ w' q
  have HBD : Hid (∀ w', Kept WA w' none → Calls Tryd.prog 7 #[siteV X S] w' fun e w2 => e = .returned (.tuple #[.int .i64 (bouM S), .int .i64 0]) ∧ Kept w' w2 none) := fun w' q => by
    have hx := sbou_any (HS.out.kept q) (HT.out.kept q)
    rw [hV, hE1] at hx
    exact hx
  have HNQ0 : Hid (∃ np ns nl, ∀ w', Kept WA w' none → Calls Tryd.prog 9 #[siteV X S, .agg #[.int .i64 (x0 : Int), .int .i64 y], .agg #[.slice a F.groups.length ca, .int .i64 0, .bool false], .int .u32 0, .int .u32 0] w' fun e w2 => ∃ al cl, e = .returned (.tuple #[.agg #[.int .i64 np, .int .i64 ns], .slice al nl cl, .int .i64 0]) ∧ Kept w' w2 none) := ⟨_, _, _, fun w' q => by
    have hx := snext_any (HS.out.kept q) (HT.out.kept q) (HF.out.kept q) (x0 : Int) y 0 0 (by omega) (by omega)
    rw [safeV, hst, hfl, hE2] at hx
    refine hx.mono ?_
    rintro e w2 ⟨al, cl, rfl, _, hk⟩
    exact ⟨al, cl, rfl, hk⟩⟩
  obtain ⟨np, ns, nl, HNQ⟩ := HNQ0.out
  have HNQ := Hid.mk' HNQ
  have HOP : Hid (∀ w', Kept WA w' none → Calls Tryd.prog 16 #[siteV X S, .agg #[.slice a F.groups.length ca, .int .i64 0, .bool false], .int .i64 0] w' fun e w2 => ∃ ob, e = .returned (.tuple #[.bool ob, .int .i64 0]) ∧ Kept w' w2 none) := fun w' q => by
    have hx := sopn_any (HS.out.kept q) (HT.out.kept q) (HF.out.kept q)
    rw [safeV, hst, hfl, hz] at hx
    exact hx
  clear HNQ0
  clear hst hfl hV hE1 hE2 hz hs hg h hT hC hG
  go_enter Tryd.func5, Tryd.ntmps5
  go_wp2_with (first | rw [hWA] | (go_at_call 10; refine (salive_any HT.out).mono ?_; rintro e wv ⟨rfl, hkv⟩; have hKv : Kept WA wv none := hkv))
  go_at_call 11
  refine (rgreat_any (HS.out.kept hKv)).mono ?_
  rintro e wg ⟨gr, rfl, hgr, hkg⟩
  have hKg : Kept WA wg none := hKv.tr hkg
  clear hgr
  cases gr with
  | true =>
    go_wp2
    go_ret
    exact ⟨rfl, (HK.out.tr hKg).below⟩
  | false =>
    go_wp2_with (first | rw [hw8] | (have hgo := hK8; clear hgo; go_at_call 16; refine (HOP.out _ hK8).mono ?_; rintro e wo ⟨ob, rfl, hko⟩; have hKo : Kept WA wo none := hK8.tr hko) | (have hgo := hKb; clear hgo; go_at_call 9; refine (HNQ.out _ hKb).mono ?_; rintro e wn ⟨al, cl, rfl, hkn⟩; have hKn : Kept WA wn none := hKb.tr hkn; have l2 : w.heap.size + 1 + 1 < wn.heap.size := Nat.lt_of_lt_of_le HBN.out.lt hKn.size; have l1 : w.heap.size + 1 < wn.heap.size := (by omega); have l0 : w.heap.size < wn.heap.size := (by omega); have k8 : Kept wn (wn.alloc (.cells #[.int .i64 np, .int .i64 ns] 40)) none := Kept.alloc _ _ _ _ _; obtain ⟨w8, hw8⟩ : ∃ w8, wn.alloc (.cells #[.int .i64 np, .int .i64 ns] 40) = w8 := ⟨_, rfl⟩; rw [hw8] at k8; have hK8 : Kept WA w8 none := hKn.tr k8) | (have hgo := hKg; clear hgo; go_at_call 7; refine (HBD.out _ hKg).mono ?_; rintro e wb ⟨rfl, hkb⟩; have hKb : Kept WA wb none := hKg.tr hkb))
    have hKo' := hKo
    have HSV0 : Hid (Sv w wo X S w.heap.size (w.heap.size + 1) (w.heap.size + 1 + 1) (runQ S (cQ LC p) (atU LG) ⟨x0, y⟩ F 0).1 (runQ S (cQ LC p) (atU LG) ⟨x0, y⟩ F 0).2) := by
      refine ⟨HK.out.tr hKo, HSB.out.kept hKo, HBQ.out.kept hKo, ⟨a, ca, ?_, HF.out.kept hKo, fun b e => ?_⟩⟩
      · rw [← HFN.out]; exact HBN.out.kept hKo
      · have := HOLD.out b e (by have := HFN.out; omega)
        omega
    have HD : Hid (Sd w w.heap.size (w.heap.size + 1) (w.heap.size + 1 + 1)) := ⟨by omega, by omega, by omega, by omega, by omega⟩
    clear hKo hko hKo' hKg hkg hKv hkv hK0 s0_ s1_ s2_ s3_ s4_ s5_ s6_ s7_ s8_ s9_ s10_ s11_ n0_ n1_ n2_ q0_ q1_ HBN HBQ HSB HS HF HT hw8 k8 hK8 hKb hkb hKn hkn l0 l1 l2 HBD HNQ HOP
    obtain ⟨bs, hbs⟩ : ∃ bs, w.heap.size = bs := ⟨_, rfl⟩
    obtain ⟨bq, hbq⟩ : ∃ bq, w.heap.size + 1 = bq := ⟨_, rfl⟩
    obtain ⟨bn, hbn⟩ : ∃ bn, w.heap.size + 1 + 1 = bn := ⟨_, rfl⟩
    rw [hbn, hbq] at HSV0 HD ⊢
    rw [show Sv w wo X S w.heap.size = Sv w wo X S bs by rw [hbs]] at HSV0
    rw [show Sd w w.heap.size bq bn = Sd w bs bq bn by rw [hbs]] at HD
    rw [show (Value.pointer (some ⟨w.heap.size, 0, none⟩)) = Value.pointer (some ⟨bs, 0, none⟩) by rw [hbs]]
    clear hbs hbq hbn HSZ
    go_loopw [21, 22, 23, 24] (fun i _ _ _ wr => ∃ k : Nat, i = .int .i64 k ∧ Sv w wr X S bs bq bn (runQ S (cQ LC p) (atU LG) ⟨x0, y⟩ F k).1 (runQ S (cQ LC p) (atU LG) ⟨x0, y⟩ F k).2 ∧ ∀ j, j < k → fullB S (runQ S (cQ LC p) (atU LG) ⟨x0, y⟩ F j).2 p = false) (fun i _ _ _ _ => (bouM S + 1).toNat - (intOf i).toNat)
    case atStart => exact ⟨0, rfl, HSV0.out, fun j hj => by omega⟩
    case round =>
      obtain ⟨k, rfl, hsv, hno⟩ := hrel
      obtain ⟨hkV, hgk, hpk, h0k, h9k⟩ := HSER.out k hno
      obtain ⟨ag, cg', hb, hsf, hne⟩ := hsv.bx
      have HNO := Hid.mk' hno
      have HSW := Hid.mk' hsv.sb
      have HBQ := Hid.mk' hsv.q
      have HBN := Hid.mk' hb
      have KPW := Hid.mk' hsv.kp
      have hk6 : k ≤ 600 := by omega
      obtain ⟨Q2, hQ2⟩ : ∃ Q2, (runQ S (cQ LC p) (atU LG) ⟨x0, y⟩ F (k + 1)).1 = Q2 := ⟨_, rfl⟩
      obtain ⟨G2, hG2⟩ : ∃ G2, (runQ S (cQ LC p) (atU LG) ⟨x0, y⟩ F (k + 1)).2 = G2 := ⟨_, rfl⟩
      have hq2 : goQ S (runQ S (cQ LC p) (atU LG) ⟨x0, y⟩ F k).1 (runQ S (cQ LC p) (atU LG) ⟨x0, y⟩ F k).2 (cQ LC p k) (atU LG k) = Q2 := hQ2
      have hg2 : stepT S Q2.ph (runQ S (cQ LC p) (atU LG) ⟨x0, y⟩ F k).2 = G2 := by rw [← hq2]; exact hG2
      have HQ2 := Hid.mk' hQ2
      have HG2 := Hid.mk' hG2
      have HNF : Hid (fullB S (runQ S (cQ LC p) (atU LG) ⟨x0, y⟩ F k).2 p = false → ∀ j, j < k + 1 → fullB S (runQ S (cQ LC p) (atU LG) ⟨x0, y⟩ F j).2 p = false) := fun e j hj => by
        by_cases q : j = k
        · rw [q]; exact e
        · exact hno j (by omega)
      clear hno hQ2 hG2
      obtain ⟨Q1, hQ1⟩ : ∃ Q1, (runQ S (cQ LC p) (atU LG) ⟨x0, y⟩ F k).1 = Q1 := ⟨_, rfl⟩
      obtain ⟨G1, hG1⟩ : ∃ G1, (runQ S (cQ LC p) (atU LG) ⟨x0, y⟩ F k).2 = G1 := ⟨_, rfl⟩
      rw [hQ1] at hq2 hpk h0k h9k HBQ
      rw [hG1] at hq2 hg2 hgk hsf HBN HNF
      rw [hQ1, hG1] at hsv
      obtain ⟨FB, hFB⟩ : ∃ FB, fullB S G1 p = FB := ⟨_, rfl⟩
      rw [hFB] at HNF
      have hfl1 := (mayS_parts (goes_parts hgk).1).1
      have HFU : Hid (∀ w', Kept wr w' none → Calls Tryd.prog 17 #[siteV X S, .agg #[.slice ag S.groups.length cg', .int .i64 G1.start, .bool G1.flashed], .int .i64 (p : Int)] w' fun e w2 => e = .returned (.tuple #[.bool FB, .int .i64 0]) ∧ Kept w' w2 none) := fun w' q => by
        have hx := tfull_go (hsv.sb.sat.kept q) ((HTAB.out.kept hsv.kp).kept q) (hsf.kept q) p HSI.out hfl1 HP.out
        rw [safeV, hfl1, hFB] at hx
        exact hx
      have HST : Hid (∀ w0 w', Kept w0 w' none → Kept wr w0 none → Calls Tryd.prog 18 #[siteV X S, .agg #[.int .i64 (Q1.ph : Int), .int .i64 Q1.since], .agg #[.slice ag S.groups.length cg', .int .i64 G1.start, .bool G1.flashed], .int .u32 ((cQ LC p k : Nat) : Int), .int .u32 ((atU LG k : Nat) : Int)] w' fun e w2 => ∃ b2, e = .returned (.tuple #[.agg #[.int .i64 (Q2.ph : Int), .int .i64 Q2.since], .agg #[.slice (some ⟨b2, 0, none⟩) S.groups.length S.groups.length, .int .i64 G2.start, .bool G2.flashed], .bool true]) ∧ w'.heap.size ≤ b2 ∧ SafeAt w2 (some ⟨b2, 0, none⟩) S.groups.length G2 ∧ Kept w' w2 none) := fun w0 w' q q2 => by
        have hx := sstep_any (hsv.sb.sat.kept (q2.tr q)) ((HTAB.out.kept hsv.kp).kept (q2.tr q)) (hsf.kept (q2.tr q)) Q1.ph Q1.since (cQ LC p k) (atU LG k) (cQ_lt HUC.out.rng (by omega) k) (atU_lt HUG.out.rng k) HSI.out hgk hpk h0k h9k Q2 hq2
        rw [hg2] at hx
        exact hx
      have HA1 : Hid (∀ w0 w', Kept w0 w' none → Kept wr w0 none → Calls Tryd.prog 19 #[.slice cc lc kc, .int .i64 (k : Int)] w' fun e w2 => e = .returned (.int .u32 ((atU LC k : Nat) : Int)) ∧ w2 = w') := fun w0 w' q q2 => sat_any (HUC.out.kept ((hsv.kp.tr q2).tr q)) k (by omega)
      have HA2 : Hid (∀ w0 w', Kept w0 w' none → Kept wr w0 none → Calls Tryd.prog 19 #[.slice cg lg_ kg, .int .i64 (k : Int)] w' fun e w2 => e = .returned (.int .u32 ((atU LG k : Nat) : Int)) ∧ w2 = w') := fun w0 w' q q2 => sat_any (HUG.out.kept ((hsv.kp.tr q2).tr q)) k (by omega)
      have HSVW := Hid.mk' hsv
      have hK0' := Kept.refl wr none
      have hor : bits BinOp.or IntKind.u32 ((atU LC k : Nat) : Int) (IntKind.u32.wrap (2 ^ p)) = ((cQ LC p k : Nat) : Int) := by
        have e : bits BinOp.or IntKind.u32 ((atU LC k : Nat) : Int) ((2 : Int) ^ p % 4294967296) = ((cQ LC p k : Nat) : Int) := by
          rw [pow_int (by omega), u32_or_nat _ _ (atU_lt HUC.out.rng k) (pow_lt32 (by omega))]
          rfl
        exact e
      have hor3 : bits BinOp.or IntKind.u32 ((atU LC k : Nat) : Int) (IntKind.u32.wrap (2 ^ min (IntKind.u64.wrap (p : Int)).toNat 32)) = ((cQ LC p k : Nat) : Int) := by
        have e1 : IntKind.u64.wrap (p : Int) = (p : Int) := by
          show (p : Int) % 18446744073709551616 = (p : Int)
          omega
        have e2 : min (IntKind.u64.wrap (p : Int)).toNat 32 = p := by rw [e1]; omega
        rw [e2]
        exact hor
      clear hor
      have s0_ : ∀ w', Kept wr w' none → w'.cell? ⟨bs, 0, none⟩ = some (.int .i64 S.id) := fun w' q => (HSW.out.kept q).c0
      have s1_ : ∀ w', Kept wr w' none → w'.cell? ⟨bs, 1, none⟩ = some (.slice X.g S.groups.length X.gc) := fun w' q => (HSW.out.kept q).c1
      have s2_ : ∀ w', Kept wr w' none → w'.cell? ⟨bs, 2, none⟩ = some (.slice X.a S.apart.length X.ac) := fun w' q => (HSW.out.kept q).c2
      have s3_ : ∀ w', Kept wr w' none → w'.cell? ⟨bs, 3, none⟩ = some (.slice X.b S.between.length X.bc) := fun w' q => (HSW.out.kept q).c3
      have s4_ : ∀ w', Kept wr w' none → w'.cell? ⟨bs, 4, none⟩ = some (.slice X.p S.phases.length X.pc) := fun w' q => (HSW.out.kept q).c4
      have s5_ : ∀ w', Kept wr w' none → w'.cell? ⟨bs, 5, none⟩ = some (.slice X.e S.eyes.length X.ec) := fun w' q => (HSW.out.kept q).c5
      have s6_ : ∀ w', Kept wr w' none → w'.cell? ⟨bs, 6, none⟩ = some (.int .i64 S.watch) := fun w' q => (HSW.out.kept q).c6
      have s7_ : ∀ w', Kept wr w' none → w'.cell? ⟨bs, 7, none⟩ = some (.int .i64 S.feed) := fun w' q => (HSW.out.kept q).c7
      have s8_ : ∀ w', Kept wr w' none → w'.cell? ⟨bs, 8, none⟩ = some (.int .i64 S.heal) := fun w' q => (HSW.out.kept q).c8
      have s9_ : ∀ w', Kept wr w' none → w'.cell? ⟨bs, 9, none⟩ = some (.int .i64 S.low) := fun w' q => (HSW.out.kept q).c9
      have s10_ : ∀ w', Kept wr w' none → w'.cell? ⟨bs, 10, none⟩ = some (.int .i64 S.high) := fun w' q => (HSW.out.kept q).c10
      have s11_ : ∀ w', Kept wr w' none → w'.cell? ⟨bs, 11, none⟩ = some (.slice X.l S.plans.length X.lc) := fun w' q => (HSW.out.kept q).c11
      have n0_ : ∀ w', Kept wr w' none → w'.cell? ⟨bn, 0, none⟩ = some (.slice ag S.groups.length cg') := fun w' q => (HBN.out.kept q).c0
      have n1_ : ∀ w', Kept wr w' none → w'.cell? ⟨bn, 1, none⟩ = some (.int .i64 G1.start) := fun w' q => (HBN.out.kept q).c1
      have n2_ : ∀ w', Kept wr w' none → w'.cell? ⟨bn, 2, none⟩ = some (.bool G1.flashed) := fun w' q => (HBN.out.kept q).c2
      have hkc : (k : Int) ≤ bouM S := hkV
      clear hsv hb hsf hne hgk hpk h0k h9k hq2 hg2 hQ1 hG1 hFB hfl1
      generalize bouM S = V at *
      cases FB with
      | true =>
        go_wp2_with (go_at_call 17; refine (HFU.out _ hK0').mono ?_; rintro e wF ⟨rfl, hkF⟩; have hKF : Kept wr wF none := hkF)
        go_ret
        exact ⟨rfl, (KPW.out.tr hKF).below⟩
      | false =>
        have HNF2 := Hid.mk' (HNF.out rfl)
        go_wp2_with (go_at_call 17; refine (HFU.out _ hK0').mono ?_; rintro e wF ⟨rfl, hkF⟩; have hKF : Kept wr wF none := hkF)
        have HST := Hid.mk' (fun w' q => HST.out wF w' q hKF)
        have HA1 := Hid.mk' (fun w' q => HA1.out wF w' q hKF)
        have HA2 := Hid.mk' (fun w' q => HA2.out wF w' q hKF)
        have HSVF : Hid (Sv w wF X S bs bq bn Q1 G1) := Hid.mk' (HSVW.out.kept hKF)
        have HSW := Hid.mk' HSVF.out.sb
        have HBQ := Hid.mk' (HBQ.out.kept hKF)
        have HBN := Hid.mk' (HBN.out.kept hKF)
        clear s0_ s1_ s2_ s3_ s4_ s5_ s6_ s7_ s8_ s9_ s10_ s11_ n0_ n1_ n2_ hK0' HFU HNF hkF HSVW KPW
        clear hKF
        have HSQ : Hid (∀ w7, Kept wF w7 none → Sbox ((w7.setCell ⟨bq, 0, none⟩ (.int .i64 (Q2.ph : Int))).setCell ⟨bq, 1, none⟩ (.int .i64 Q2.since)) bs X S) := fun w7 q => HSVF.out.half HD.out HSAT.out q
        have HSV : Hid (∀ w7 b2, Kept wF w7 none → SafeAt w7 (some ⟨b2, 0, none⟩) S.groups.length G2 → wF.heap.size ≤ b2 → Sv w (((((w7.setCell ⟨bq, 0, none⟩ (.int .i64 (Q2.ph : Int))).setCell ⟨bq, 1, none⟩ (.int .i64 Q2.since)).setCell ⟨bn, 0, none⟩ (.slice (some ⟨b2, 0, none⟩) S.groups.length S.groups.length)).setCell ⟨bn, 1, none⟩ (.int .i64 G2.start)).setCell ⟨bn, 2, none⟩ (.bool G2.flashed)) X S bs bq bn Q2 G2) := fun w7 b2 q h1 h2 => HSVF.out.step HD.out HSAT.out q h1 h2
        have hKd : Kept wF wF.drew none := Kept.drew _ _
        have y0 := HBQ.out.c0
        have y1 := HBQ.out.c1
        have x0_ := HBN.out.c0
        have x1_ := HBN.out.c1
        have x2_ := HBN.out.c2
        have hqn := HD.out.qn
        have hnq : bn ≠ bq := fun e => hqn e.symm
        have s0_ : ∀ w', Sbox w' bs X S → w'.cell? ⟨bs, 0, none⟩ = some (.int .i64 S.id) := fun w' q => q.c0
        have s1_ : ∀ w', Sbox w' bs X S → w'.cell? ⟨bs, 1, none⟩ = some (.slice X.g S.groups.length X.gc) := fun w' q => q.c1
        have s2_ : ∀ w', Sbox w' bs X S → w'.cell? ⟨bs, 2, none⟩ = some (.slice X.a S.apart.length X.ac) := fun w' q => q.c2
        have s3_ : ∀ w', Sbox w' bs X S → w'.cell? ⟨bs, 3, none⟩ = some (.slice X.b S.between.length X.bc) := fun w' q => q.c3
        have s4_ : ∀ w', Sbox w' bs X S → w'.cell? ⟨bs, 4, none⟩ = some (.slice X.p S.phases.length X.pc) := fun w' q => q.c4
        have s5_ : ∀ w', Sbox w' bs X S → w'.cell? ⟨bs, 5, none⟩ = some (.slice X.e S.eyes.length X.ec) := fun w' q => q.c5
        have s6_ : ∀ w', Sbox w' bs X S → w'.cell? ⟨bs, 6, none⟩ = some (.int .i64 S.watch) := fun w' q => q.c6
        have s7_ : ∀ w', Sbox w' bs X S → w'.cell? ⟨bs, 7, none⟩ = some (.int .i64 S.feed) := fun w' q => q.c7
        have s8_ : ∀ w', Sbox w' bs X S → w'.cell? ⟨bs, 8, none⟩ = some (.int .i64 S.heal) := fun w' q => q.c8
        have s9_ : ∀ w', Sbox w' bs X S → w'.cell? ⟨bs, 9, none⟩ = some (.int .i64 S.low) := fun w' q => q.c9
        have s10_ : ∀ w', Sbox w' bs X S → w'.cell? ⟨bs, 10, none⟩ = some (.int .i64 S.high) := fun w' q => q.c10
        have s11_ : ∀ w', Sbox w' bs X S → w'.cell? ⟨bs, 11, none⟩ = some (.slice X.l S.plans.length X.lc) := fun w' q => q.c11
        refine Code.wp_mono (Q := Rb ?A1 (fun w' => Sv w w' X S bs bq bn Q2 G2)) ?cont1 ?reg1
        case reg1 =>
            repeat (rename_i hh; clear hh)
            refine wp_region_held_drew (S := fun w' => Sbox w' bs X S) (by kernel_rfl) (HSW.out.kept (Kept.drew _ _)) (fun hHeld => ?_)
            refine (fun (LF : ?TF) => ?brn) ?leaf
            case brn =>
              refine held_take (i := 0) (v := ?v1) rfl rfl (by kernel_rfl) (by kernel_rfl) (by kernel_rfl) (fun _ _ _ h => h) (Or.inl ⟨by rfl, ?hy1⟩) hHeld ?rest1
              case hy1 => first | (intro w hSw; (try dsimp only at hSw); go_simp; done) | (intro w hSw; (try dsimp only at hSw); go_simp; with_reducible rfl)
              try simp only [List.setIfInBounds_toArray, List.set_cons_zero, List.set_cons_succ]
              refine held_take (i := 3) (v := ?v2) rfl rfl (by kernel_rfl) (by kernel_rfl) (by kernel_rfl) (fun _ _ _ h => h) (Or.inl ⟨by rfl, ?hy2⟩) hHeld ?rest2
              case hy2 => first | (intro w hSw; (try dsimp only at hSw); go_simp; done) | (intro w hSw; (try dsimp only at hSw); go_simp; with_reducible rfl)
              try simp only [List.setIfInBounds_toArray, List.set_cons_zero, List.set_cons_succ]
              refine held_take (i := 4) (v := ?v3) rfl rfl (by kernel_rfl) (by kernel_rfl) (by kernel_rfl) (fun _ _ _ h => h) (Or.inl ⟨by rfl, ?hy3⟩) hHeld ?rest3
              case hy3 => first | (intro w hSw; (try dsimp only at hSw); go_simp; done) | (intro w hSw; (try dsimp only at hSw); go_simp; with_reducible rfl)
              try simp only [List.setIfInBounds_toArray, List.set_cons_zero, List.set_cons_succ]
              refine held_take (i := 6) (v := ?v4) rfl rfl (by kernel_rfl) (by kernel_rfl) (by kernel_rfl) (fun _ _ _ h => h) (Or.inl ⟨by rfl, ?hy4⟩) hHeld ?rest4
              case hy4 => first | (intro w hSw; (try dsimp only at hSw); go_simp; done) | (intro w hSw; (try dsimp only at hSw); go_simp; with_reducible rfl)
              try simp only [List.setIfInBounds_toArray, List.set_cons_zero, List.set_cons_succ]
              refine held_take (i := 7) (v := ?v5) rfl rfl (by kernel_rfl) (by kernel_rfl) (by kernel_rfl) (fun _ _ _ h => h) (Or.inl ⟨by rfl, ?hy5⟩) hHeld ?rest5
              case hy5 => first | (intro w hSw; (try dsimp only at hSw); go_simp; done) | (intro w hSw; (try dsimp only at hSw); go_simp; with_reducible rfl)
              try simp only [List.setIfInBounds_toArray, List.set_cons_zero, List.set_cons_succ]
              refine held_take (i := 8) (v := ?v6) rfl rfl (by kernel_rfl) (by kernel_rfl) (by kernel_rfl) (fun _ _ _ h => h) (Or.inl ⟨by rfl, ?hy6⟩) hHeld ?rest6
              case hy6 => first | (intro w hSw; (try dsimp only at hSw); go_simp; done) | (intro w hSw; (try dsimp only at hSw); go_simp; with_reducible rfl)
              try simp only [List.setIfInBounds_toArray, List.set_cons_zero, List.set_cons_succ]
              refine held_take (i := 10) (v := ?v7) rfl rfl (by kernel_rfl) (by kernel_rfl) (by kernel_rfl) (fun _ _ _ h => h) (Or.inl ⟨by rfl, ?hy7⟩) hHeld ?rest7
              case hy7 => first | (intro w hSw; (try dsimp only at hSw); go_simp; done) | (intro w hSw; (try dsimp only at hSw); go_simp; with_reducible rfl)
              try simp only [List.setIfInBounds_toArray, List.set_cons_zero, List.set_cons_succ]
              refine held_take (i := 11) (v := ?v8) rfl rfl (by kernel_rfl) (by kernel_rfl) (by kernel_rfl) (fun _ _ _ h => h) (Or.inl ⟨by rfl, ?hy8⟩) hHeld ?rest8
              case hy8 => first | (intro w hSw; (try dsimp only at hSw); go_simp; done) | (intro w hSw; (try dsimp only at hSw); go_simp; with_reducible rfl)
              try simp only [List.setIfInBounds_toArray, List.set_cons_zero, List.set_cons_succ]
              refine wpAnyH_ready (rs := [1, 2, 5]) (by kernel_rfl) (by simp) ?_
              refine (AllReadyH.cons rfl (fun K hK => ?t2x1) (AllReadyH.cons rfl (fun K hK => ?t2x2) (AllReadyH.cons rfl (fun K hK => ?t2x5) AllReadyH.nil)))
              case t2x1 =>
                go_simp
                refine hK.out _ _ hHeld (fun hHeld => ?_)
                clear hK K
                refine wpAnyH_ready (rs := [2, 5]) (by kernel_rfl) (by simp) ?_
                refine (AllReadyH.cons rfl (fun K hK => ?t3x2) (AllReadyH.cons rfl (fun K hK => ?t3x5) AllReadyH.nil))
                case t3x2 =>
                  go_simp
                  refine hK.out _ _ hHeld (fun hHeld => ?_)
                  clear hK K
                  refine wpAnyH_ready (rs := [5]) (by kernel_rfl) (by simp) ?_
                  refine (AllReadyH.cons rfl (fun K hK => ?t4x5) AllReadyH.nil)
                  case t4x5 =>
                    go_simp
                    go_wp2_with (go_at_call 19; refine (HA1.out _ hKd).mono ?_; rintro e wA ⟨rfl, rfl⟩)
                    refine hK.out _ _ hHeld (fun hHeld => ?_)
                    clear hK K
                    refine held_take (i := 9) (v := ?v9) rfl rfl (by kernel_rfl) (by kernel_rfl) (by kernel_rfl) (fun _ _ _ h => h) (Or.inl ⟨by rfl, ?hy9⟩) hHeld ?rest9
                    case hy9 => first | (intro w hSw; (try dsimp only at hSw); go_simp; done) | (intro w hSw; (try dsimp only at hSw); go_simp; with_reducible rfl)
                    try simp only [List.setIfInBounds_toArray, List.set_cons_zero, List.set_cons_succ]
                    refine wpAnyH_ready (rs := [12]) (by kernel_rfl) (by simp) ?_
                    refine (AllReadyH.cons rfl (fun K hK => ?t5x12) AllReadyH.nil)
                    case t5x12 =>
                      go_simp
                      go_wp2_with (go_at_call 19; refine (HA2.out _ hKd).mono ?_; rintro e wA ⟨rfl, rfl⟩)
                      refine hK.out _ _ hHeld (fun hHeld => ?_)
                      clear hK K
                      refine listed_eq (l' := #[true, true, true, true, true, true, true, true, true, true, true, true, true, false, false, false, false, false, false, false, false]) (by kernel_rfl) ?_
                      refine Eq.mp ?eq6 LF
                      with_reducible rfl
                case t3x5 =>
                  go_simp
                  go_wp2_with (go_at_call 19; refine (HA1.out _ hKd).mono ?_; rintro e wA ⟨rfl, rfl⟩)
                  refine hK.out _ _ hHeld (fun hHeld => ?_)
                  clear hK K
                  refine held_take (i := 9) (v := ?v10) rfl rfl (by kernel_rfl) (by kernel_rfl) (by kernel_rfl) (fun _ _ _ h => h) (Or.inl ⟨by rfl, ?hy10⟩) hHeld ?rest10
                  case hy10 => first | (intro w hSw; (try dsimp only at hSw); go_simp; done) | (intro w hSw; (try dsimp only at hSw); go_simp; with_reducible rfl)
                  try simp only [List.setIfInBounds_toArray, List.set_cons_zero, List.set_cons_succ]
                  refine wpAnyH_ready (rs := [2, 12]) (by kernel_rfl) (by simp) ?_
                  refine (AllReadyH.cons rfl (fun K hK => ?t7x2) (AllReadyH.cons rfl (fun K hK => ?t7x12) AllReadyH.nil))
                  case t7x2 =>
                    go_simp
                    refine hK.out _ _ hHeld (fun hHeld => ?_)
                    clear hK K
                    refine wpAnyH_ready (rs := [12]) (by kernel_rfl) (by simp) ?_
                    refine (AllReadyH.cons rfl (fun K hK => ?t8x12) AllReadyH.nil)
                    case t8x12 =>
                      go_simp
                      go_wp2_with (go_at_call 19; refine (HA2.out _ hKd).mono ?_; rintro e wA ⟨rfl, rfl⟩)
                      refine hK.out _ _ hHeld (fun hHeld => ?_)
                      clear hK K
                      refine listed_eq (l' := #[true, true, true, true, true, true, true, true, true, true, true, true, true, false, false, false, false, false, false, false, false]) (by kernel_rfl) ?_
                      refine Eq.mp ?eq9 LF
                      with_reducible rfl
                  case t7x12 =>
                    go_simp
                    go_wp2_with (go_at_call 19; refine (HA2.out _ hKd).mono ?_; rintro e wA ⟨rfl, rfl⟩)
                    refine hK.out _ _ hHeld (fun hHeld => ?_)
                    clear hK K
                    refine wpAnyH_ready (rs := [2]) (by kernel_rfl) (by simp) ?_
                    refine (AllReadyH.cons rfl (fun K hK => ?t10x2) AllReadyH.nil)
                    case t10x2 =>
                      go_simp
                      refine hK.out _ _ hHeld (fun hHeld => ?_)
                      clear hK K
                      refine listed_eq (l' := #[true, true, true, true, true, true, true, true, true, true, true, true, true, false, false, false, false, false, false, false, false]) (by kernel_rfl) ?_
                      refine Eq.mp ?eq11 LF
                      with_reducible rfl
              case t2x2 =>
                go_simp
                refine hK.out _ _ hHeld (fun hHeld => ?_)
                clear hK K
                refine wpAnyH_ready (rs := [1, 5]) (by kernel_rfl) (by simp) ?_
                refine (AllReadyH.cons rfl (fun K hK => ?t12x1) (AllReadyH.cons rfl (fun K hK => ?t12x5) AllReadyH.nil))
                case t12x1 =>
                  go_simp
                  refine hK.out _ _ hHeld (fun hHeld => ?_)
                  clear hK K
                  refine wpAnyH_ready (rs := [5]) (by kernel_rfl) (by simp) ?_
                  refine (AllReadyH.cons rfl (fun K hK => ?t13x5) AllReadyH.nil)
                  case t13x5 =>
                    go_simp
                    go_wp2_with (go_at_call 19; refine (HA1.out _ hKd).mono ?_; rintro e wA ⟨rfl, rfl⟩)
                    refine hK.out _ _ hHeld (fun hHeld => ?_)
                    clear hK K
                    refine held_take (i := 9) (v := ?v11) rfl rfl (by kernel_rfl) (by kernel_rfl) (by kernel_rfl) (fun _ _ _ h => h) (Or.inl ⟨by rfl, ?hy11⟩) hHeld ?rest11
                    case hy11 => first | (intro w hSw; (try dsimp only at hSw); go_simp; done) | (intro w hSw; (try dsimp only at hSw); go_simp; with_reducible rfl)
                    try simp only [List.setIfInBounds_toArray, List.set_cons_zero, List.set_cons_succ]
                    refine wpAnyH_ready (rs := [12]) (by kernel_rfl) (by simp) ?_
                    refine (AllReadyH.cons rfl (fun K hK => ?t14x12) AllReadyH.nil)
                    case t14x12 =>
                      go_simp
                      go_wp2_with (go_at_call 19; refine (HA2.out _ hKd).mono ?_; rintro e wA ⟨rfl, rfl⟩)
                      refine hK.out _ _ hHeld (fun hHeld => ?_)
                      clear hK K
                      refine listed_eq (l' := #[true, true, true, true, true, true, true, true, true, true, true, true, true, false, false, false, false, false, false, false, false]) (by kernel_rfl) ?_
                      refine Eq.mp ?eq15 LF
                      with_reducible rfl
                case t12x5 =>
                  go_simp
                  go_wp2_with (go_at_call 19; refine (HA1.out _ hKd).mono ?_; rintro e wA ⟨rfl, rfl⟩)
                  refine hK.out _ _ hHeld (fun hHeld => ?_)
                  clear hK K
                  refine held_take (i := 9) (v := ?v12) rfl rfl (by kernel_rfl) (by kernel_rfl) (by kernel_rfl) (fun _ _ _ h => h) (Or.inl ⟨by rfl, ?hy12⟩) hHeld ?rest12
                  case hy12 => first | (intro w hSw; (try dsimp only at hSw); go_simp; done) | (intro w hSw; (try dsimp only at hSw); go_simp; with_reducible rfl)
                  try simp only [List.setIfInBounds_toArray, List.set_cons_zero, List.set_cons_succ]
                  refine wpAnyH_ready (rs := [1, 12]) (by kernel_rfl) (by simp) ?_
                  refine (AllReadyH.cons rfl (fun K hK => ?t16x1) (AllReadyH.cons rfl (fun K hK => ?t16x12) AllReadyH.nil))
                  case t16x1 =>
                    go_simp
                    refine hK.out _ _ hHeld (fun hHeld => ?_)
                    clear hK K
                    refine wpAnyH_ready (rs := [12]) (by kernel_rfl) (by simp) ?_
                    refine (AllReadyH.cons rfl (fun K hK => ?t17x12) AllReadyH.nil)
                    case t17x12 =>
                      go_simp
                      go_wp2_with (go_at_call 19; refine (HA2.out _ hKd).mono ?_; rintro e wA ⟨rfl, rfl⟩)
                      refine hK.out _ _ hHeld (fun hHeld => ?_)
                      clear hK K
                      refine listed_eq (l' := #[true, true, true, true, true, true, true, true, true, true, true, true, true, false, false, false, false, false, false, false, false]) (by kernel_rfl) ?_
                      refine Eq.mp ?eq18 LF
                      with_reducible rfl
                  case t16x12 =>
                    go_simp
                    go_wp2_with (go_at_call 19; refine (HA2.out _ hKd).mono ?_; rintro e wA ⟨rfl, rfl⟩)
                    refine hK.out _ _ hHeld (fun hHeld => ?_)
                    clear hK K
                    refine wpAnyH_ready (rs := [1]) (by kernel_rfl) (by simp) ?_
                    refine (AllReadyH.cons rfl (fun K hK => ?t19x1) AllReadyH.nil)
                    case t19x1 =>
                      go_simp
                      refine hK.out _ _ hHeld (fun hHeld => ?_)
                      clear hK K
                      refine listed_eq (l' := #[true, true, true, true, true, true, true, true, true, true, true, true, true, false, false, false, false, false, false, false, false]) (by kernel_rfl) ?_
                      refine Eq.mp ?eq20 LF
                      with_reducible rfl
              case t2x5 =>
                go_simp
                go_wp2_with (go_at_call 19; refine (HA1.out _ hKd).mono ?_; rintro e wA ⟨rfl, rfl⟩)
                refine hK.out _ _ hHeld (fun hHeld => ?_)
                clear hK K
                refine held_take (i := 9) (v := ?v13) rfl rfl (by kernel_rfl) (by kernel_rfl) (by kernel_rfl) (fun _ _ _ h => h) (Or.inl ⟨by rfl, ?hy13⟩) hHeld ?rest13
                case hy13 => first | (intro w hSw; (try dsimp only at hSw); go_simp; done) | (intro w hSw; (try dsimp only at hSw); go_simp; with_reducible rfl)
                try simp only [List.setIfInBounds_toArray, List.set_cons_zero, List.set_cons_succ]
                refine wpAnyH_ready (rs := [1, 2, 12]) (by kernel_rfl) (by simp) ?_
                refine (AllReadyH.cons rfl (fun K hK => ?t21x1) (AllReadyH.cons rfl (fun K hK => ?t21x2) (AllReadyH.cons rfl (fun K hK => ?t21x12) AllReadyH.nil)))
                case t21x1 =>
                  go_simp
                  refine hK.out _ _ hHeld (fun hHeld => ?_)
                  clear hK K
                  refine wpAnyH_ready (rs := [2, 12]) (by kernel_rfl) (by simp) ?_
                  refine (AllReadyH.cons rfl (fun K hK => ?t22x2) (AllReadyH.cons rfl (fun K hK => ?t22x12) AllReadyH.nil))
                  case t22x2 =>
                    go_simp
                    refine hK.out _ _ hHeld (fun hHeld => ?_)
                    clear hK K
                    refine wpAnyH_ready (rs := [12]) (by kernel_rfl) (by simp) ?_
                    refine (AllReadyH.cons rfl (fun K hK => ?t23x12) AllReadyH.nil)
                    case t23x12 =>
                      go_simp
                      go_wp2_with (go_at_call 19; refine (HA2.out _ hKd).mono ?_; rintro e wA ⟨rfl, rfl⟩)
                      refine hK.out _ _ hHeld (fun hHeld => ?_)
                      clear hK K
                      refine listed_eq (l' := #[true, true, true, true, true, true, true, true, true, true, true, true, true, false, false, false, false, false, false, false, false]) (by kernel_rfl) ?_
                      refine Eq.mp ?eq24 LF
                      with_reducible rfl
                  case t22x12 =>
                    go_simp
                    go_wp2_with (go_at_call 19; refine (HA2.out _ hKd).mono ?_; rintro e wA ⟨rfl, rfl⟩)
                    refine hK.out _ _ hHeld (fun hHeld => ?_)
                    clear hK K
                    refine wpAnyH_ready (rs := [2]) (by kernel_rfl) (by simp) ?_
                    refine (AllReadyH.cons rfl (fun K hK => ?t25x2) AllReadyH.nil)
                    case t25x2 =>
                      go_simp
                      refine hK.out _ _ hHeld (fun hHeld => ?_)
                      clear hK K
                      refine listed_eq (l' := #[true, true, true, true, true, true, true, true, true, true, true, true, true, false, false, false, false, false, false, false, false]) (by kernel_rfl) ?_
                      refine Eq.mp ?eq26 LF
                      with_reducible rfl
                case t21x2 =>
                  go_simp
                  refine hK.out _ _ hHeld (fun hHeld => ?_)
                  clear hK K
                  refine wpAnyH_ready (rs := [1, 12]) (by kernel_rfl) (by simp) ?_
                  refine (AllReadyH.cons rfl (fun K hK => ?t27x1) (AllReadyH.cons rfl (fun K hK => ?t27x12) AllReadyH.nil))
                  case t27x1 =>
                    go_simp
                    refine hK.out _ _ hHeld (fun hHeld => ?_)
                    clear hK K
                    refine wpAnyH_ready (rs := [12]) (by kernel_rfl) (by simp) ?_
                    refine (AllReadyH.cons rfl (fun K hK => ?t28x12) AllReadyH.nil)
                    case t28x12 =>
                      go_simp
                      go_wp2_with (go_at_call 19; refine (HA2.out _ hKd).mono ?_; rintro e wA ⟨rfl, rfl⟩)
                      refine hK.out _ _ hHeld (fun hHeld => ?_)
                      clear hK K
                      refine listed_eq (l' := #[true, true, true, true, true, true, true, true, true, true, true, true, true, false, false, false, false, false, false, false, false]) (by kernel_rfl) ?_
                      refine Eq.mp ?eq29 LF
                      with_reducible rfl
                  case t27x12 =>
                    go_simp
                    go_wp2_with (go_at_call 19; refine (HA2.out _ hKd).mono ?_; rintro e wA ⟨rfl, rfl⟩)
                    refine hK.out _ _ hHeld (fun hHeld => ?_)
                    clear hK K
                    refine wpAnyH_ready (rs := [1]) (by kernel_rfl) (by simp) ?_
                    refine (AllReadyH.cons rfl (fun K hK => ?t30x1) AllReadyH.nil)
                    case t30x1 =>
                      go_simp
                      refine hK.out _ _ hHeld (fun hHeld => ?_)
                      clear hK K
                      refine listed_eq (l' := #[true, true, true, true, true, true, true, true, true, true, true, true, true, false, false, false, false, false, false, false, false]) (by kernel_rfl) ?_
                      refine Eq.mp ?eq31 LF
                      with_reducible rfl
                case t21x12 =>
                  go_simp
                  go_wp2_with (go_at_call 19; refine (HA2.out _ hKd).mono ?_; rintro e wA ⟨rfl, rfl⟩)
                  refine hK.out _ _ hHeld (fun hHeld => ?_)
                  clear hK K
                  refine wpAnyH_ready (rs := [1, 2]) (by kernel_rfl) (by simp) ?_
                  refine (AllReadyH.cons rfl (fun K hK => ?t32x1) (AllReadyH.cons rfl (fun K hK => ?t32x2) AllReadyH.nil))
                  case t32x1 =>
                    go_simp
                    refine hK.out _ _ hHeld (fun hHeld => ?_)
                    clear hK K
                    refine wpAnyH_ready (rs := [2]) (by kernel_rfl) (by simp) ?_
                    refine (AllReadyH.cons rfl (fun K hK => ?t33x2) AllReadyH.nil)
                    case t33x2 =>
                      go_simp
                      refine hK.out _ _ hHeld (fun hHeld => ?_)
                      clear hK K
                      refine listed_eq (l' := #[true, true, true, true, true, true, true, true, true, true, true, true, true, false, false, false, false, false, false, false, false]) (by kernel_rfl) ?_
                      refine Eq.mp ?eq34 LF
                      with_reducible rfl
                  case t32x2 =>
                    go_simp
                    refine hK.out _ _ hHeld (fun hHeld => ?_)
                    clear hK K
                    refine wpAnyH_ready (rs := [1]) (by kernel_rfl) (by simp) ?_
                    refine (AllReadyH.cons rfl (fun K hK => ?t35x1) AllReadyH.nil)
                    case t35x1 =>
                      go_simp
                      refine hK.out _ _ hHeld (fun hHeld => ?_)
                      clear hK K
                      refine listed_eq (l' := #[true, true, true, true, true, true, true, true, true, true, true, true, true, false, false, false, false, false, false, false, false]) (by kernel_rfl) ?_
                      refine Eq.mp ?eq36 LF
                      with_reducible rfl
            case leaf =>
              refine wpAnyH_ready (rs := [13]) (by kernel_rfl) (by simp) ?_
              refine AllReadyH.cons rfl (fun K hK => ?_) AllReadyH.nil
              go_simp
              go_wp2_with (go_at_call 18; (try rw [hor3]); refine (HST.out _ hKd).mono ?_; rintro e wS ⟨b2, rfl, hb2, hsS, hkS⟩)
              have hKS : Kept wF wS none := hKd.tr hkS
              refine hK.out _ _ (HSW.out.kept hKS) (fun hHeld => ?_)
              clear hK K
              refine held_take (i := 14) (v := ?v14) rfl rfl (by kernel_rfl) (by kernel_rfl) (by kernel_rfl) (fun _ _ _ h => h) (Or.inl ⟨by rfl, ?hy14⟩) hHeld ?rest14
              case hy14 => first | (intro w hSw; (try dsimp only at hSw); go_simp; done) | (intro w hSw; (try dsimp only at hSw); go_simp; with_reducible rfl)
              try simp only [List.setIfInBounds_toArray, List.set_cons_zero, List.set_cons_succ]
              refine held_take (i := 15) (v := ?v15) rfl rfl (by kernel_rfl) (by kernel_rfl) (by kernel_rfl) (fun _ _ _ h => h) (Or.inl ⟨by rfl, ?hy15⟩) hHeld ?rest15
              case hy15 => first | (intro w hSw; (try dsimp only at hSw); go_simp; done) | (intro w hSw; (try dsimp only at hSw); go_simp; with_reducible rfl)
              try simp only [List.setIfInBounds_toArray, List.set_cons_zero, List.set_cons_succ]
              refine held_take (i := 16) (v := ?v16) rfl rfl (by kernel_rfl) (by kernel_rfl) (by kernel_rfl) (fun _ _ _ h => h) (Or.inl ⟨by rfl, ?hy16⟩) hHeld ?rest16
              case hy16 => first | (intro w hSw; (try dsimp only at hSw); go_simp; done) | (intro w hSw; (try dsimp only at hSw); go_simp; with_reducible rfl)
              try simp only [List.setIfInBounds_toArray, List.set_cons_zero, List.set_cons_succ]
              refine held_take (i := 17) (v := ?v17) rfl rfl (by kernel_rfl) (by kernel_rfl) (by kernel_rfl) (fun _ _ _ h => h) (Or.inl ⟨by rfl, ?hy17⟩) hHeld ?rest17
              case hy17 => first | (intro w hSw; (try dsimp only at hSw); go_simp; done) | (intro w hSw; (try dsimp only at hSw); go_simp; with_reducible rfl)
              try simp only [List.setIfInBounds_toArray, List.set_cons_zero, List.set_cons_succ]
              have BQ := HBQ.out.kept hKS
              have BN := HBN.out.kept hKS
              have v0 := BQ.c0
              have v1 := BQ.c1
              have g0 := BQ.f0
              have g1 := BQ.f1
              have t0 := BN.c0
              have t1 := BN.c1
              have t2 := BN.c2
              have f0 := BN.f0
              have f1 := BN.f1
              have f2 := BN.f2
              refine wpAnyH_ready (rs := [18]) (by kernel_rfl) (by simp) ?_
              refine AllReadyH.cons rfl (fun K hK => ?_) AllReadyH.nil
              go_simp
              refine hK.out _ _ (HSQ.out wS hKS) (fun hHeld => ?_)
              clear hK K
              refine wpAnyH_ready (rs := [19]) (by kernel_rfl) (by simp) ?_
              refine AllReadyH.cons rfl (fun K hK => ?_) AllReadyH.nil
              go_simp
              have hfin := HSV.out wS b2 hKS hsS (Nat.le_trans hKd.size hb2)
              refine hK.out _ _ hfin.sb (fun hHeld => ?_)
              clear hK K
              refine held_take (i := 20) (v := ?v18) rfl rfl (by kernel_rfl) (by kernel_rfl) (by kernel_rfl) (fun _ _ _ h => h) (Or.inl ⟨by rfl, ?hy18⟩) hHeld ?rest18
              case hy18 => first | (intro w hSw; (try dsimp only at hSw); go_simp; done) | (intro w hSw; (try dsimp only at hSw); go_simp; with_reducible rfl)
              try simp only [List.setIfInBounds_toArray, List.set_cons_zero, List.set_cons_succ]
              refine wpAnyH_done (by kernel_rfl) ?_ _
              refine ⟨b2, ?_, hfin⟩
              with_reducible rfl
        case cont1 =>
        intro e a' w' hq'
        obtain ⟨rfl, u', rfl, hv⟩ := hq'.out
        go_wp2
        go_roundw
        case rel => exact ⟨k + 1, by go_num, by rw [HQ2.out, HG2.out]; exact hv, HNF2.out⟩
        case measure => simp [intOf]; omega
      
end Go.Proofs.YtkgimccffggfdaaDoor

/-
  SeqServes, all ways together (made by a program).
-/
namespace Go.Proofs.YtkgimccffggfdaaDoor
open Go.RowKit Go.Lib Go.Deep
set_option linter.unusedVariables false
set_option linter.unusedSimpArgs false


theorem sserves_any {X : Sa} {S : St} {w : World} (h : Sat w X S) (hT : Tabb w) {a : Option Addr} {ca : Nat} {F : Sf} (hF : SafeAt w a ca F) (x y : Int) {cc cg : Option Addr} {lc lg_ kc kg : Nat} {LC LG : List Nat} (hC : U3 w cc lc kc LC) (hG : U3 w cg lg_ kg LG) (p : Int) : Calls Tryd.prog 5 #[siteV X S, .agg #[.int .i64 x, .int .i64 y], safeV a ca F, .int .i64 p, .slice cc lc kc, .slice cg lg_ kg] w fun e w' => e = .returned (.bool true) ∧ Below w.heap.size w w' := by
  by_cases hl : F.groups.length ≤ 100
  · by_cases hst : F.start = 0
    · cases hfl : F.flashed with
      | true => exact sser_flash h hT hF x y hC hG p hl hst hfl
      | false =>
        by_cases h0 : 0 ≤ p
        · by_cases h1 : p < (S.phases.length : Int)
          · obtain ⟨q, rfl⟩ : ∃ q : Nat, p = (q : Int) := ⟨p.toNat, by omega⟩
            have hq : q < S.phases.length := by omega
            by_cases e1 : bouE S = 0
            · by_cases e2 : nxE S F x y = 0
              · by_cases e3 : goesE S F = 0
                · by_cases e4 : 600 < bouV S
                  · exact sser_e4 h hT hF x y hC hG q hl hst hfl hq _ _ _ _ rfl rfl rfl rfl e1 e2 e3 e4
                  · have hs := (goesE_ok e3).1
                    have hV : bouV S = bouM S := by unfold bouV; rw [hs]; rfl
                    have hpl : plaB S x y = true := by
                      cases e : plaB S x y with
                      | true => rfl
                      | false => unfold nxE at e2; rw [hs, e] at e2; cases e2
                    obtain ⟨⟨x0, rfl, hx0⟩, hy0, hy9⟩ := plaB_yes hpl
                    exact sser_go h hT hF y hC hG q hl hst hfl hq x0 hx0 hy0 hy9 e2 e3 (by rw [hV] at e4; omega)
                · exact sser_e3 h hT hF x y hC hG q hl hst hfl hq _ _ _ _ rfl rfl rfl rfl e1 e2 e3
              · exact sser_e2 h hT hF x y hC hG q hl hst hfl hq _ _ _ _ rfl rfl rfl rfl e1 e2
            · exact sser_e1 h hT hF x y hC hG q hl hst hfl hq _ _ _ _ rfl rfl rfl rfl e1
          · exact sser_far h hT hF x y hC hG p hl hst hfl h0 (by omega)
        · exact sser_neg h hT hF x y hC hG p hl hst hfl (by omega)
    · exact sser_start h hT hF x y hC hG p hl hst
  · exact sser_long h hT hF x y hC hG p (by omega)

end Go.Proofs.YtkgimccffggfdaaDoor

