/-
  Texts joined: some of those that the proofs of this seat stand on.
-/
import Derived.Test.YtkgimccffggfdaaDoorRefQ2
import Derived.Test.YtkgimccffggfdaaDoorRefT8J
import Derived.Test.YtkgimccffggfdaaDoorRefG
/-
  THE WALK of SeqGoes (made by a program).
-/
namespace Go.Proofs.YtkgimccffggfdaaDoor
open Go.RowKit Go.Lib Go.Deep
set_option linter.unusedVariables false
set_option linter.unusedSimpArgs false

set_option maxRecDepth 100000 in
set_option maxHeartbeats 8000000 in
theorem sgoe_long {X : Sa} {S : St} {w : World} (h : Sat w X S) (hT : Tabb w) {a : Option Addr} {ca : Nat} {F : Sf} (hF : SafeAt w a ca F) (x y : Int) (c g : Nat) (hc : c < 4294967296) (hg : g < 4294967296) (hl : 100 < F.groups.length) : Calls Tryd.prog 4 #[siteV X S, .agg #[.int .i64 x, .int .i64 y], safeV a ca F, .int .u32 (c : Int), .int .u32 (g : Int)] w fun e w' => e = .returned (.bool true) ∧ Below w.heap.size w w' := by
  have hlb : decide ((100 : Int) < (F.groups.length : Int)) = true := by simp; omega
  clear hl
  obtain ⟨WA, hWA⟩ : ∃ WA, (((w.alloc (.cells #[.int .i64 S.id, .slice X.g S.groups.length X.gc, .slice X.a S.apart.length X.ac, .slice X.b S.between.length X.bc, .slice X.p S.phases.length X.pc, .slice X.e S.eyes.length X.ec, .int .i64 S.watch, .int .i64 S.feed, .int .i64 S.heal, .int .i64 S.low, .int .i64 S.high, .slice X.l S.plans.length X.lc] 37)).alloc (.cells #[.int .i64 x, .int .i64 y] 40)).alloc (.cells #[.slice a F.groups.length ca, .int .i64 F.start, .bool F.flashed] 26)) = WA := ⟨_, rfl⟩
  obtain ⟨HSB, HBQ, HBN, HK, HS, HF, HSZ, q0_, q1_, n0_, n1_, n2_, s0_, s1_, s2_, s3_, s4_, s5_, s6_, s7_, s8_, s9_, s10_, s11_⟩ := hd3 h hF hWA
  have HT := Hid.mk' (hT.kept HK.out)
  have hK0 := Kept.refl WA none
  clear h hT hF
  go_enter Tryd.func4, Tryd.ntmps4
  go_wp2_with (rw [hWA])
  go_at_call 11
  refine (rgreat_any HS.out).mono ?_
  rintro e wg ⟨gr, rfl, hgr, hkg⟩
  have hKg : Kept WA wg none := hkg
  clear hgr
  cases gr with
  | true =>
    go_wp2
    go_ret
    exact ⟨rfl, (HK.out.tr hKg).below⟩
  | false =>
    go_wp2
    go_ret
    exact ⟨rfl, (HK.out.tr hKg).below⟩
set_option maxRecDepth 100000 in
set_option maxHeartbeats 8000000 in
theorem sgoe_go {X : Sa} {S : St} {w : World} (h : Sat w X S) (hT : Tabb w) {a : Option Addr} {ca : Nat} {F : Sf} (hF : SafeAt w a ca F) (x y : Int) (c g : Nat) (hc : c < 4294967296) (hg : g < 4294967296) (hl : F.groups.length ≤ 100) : Calls Tryd.prog 4 #[siteV X S, .agg #[.int .i64 x, .int .i64 y], safeV a ca F, .int .u32 (c : Int), .int .u32 (g : Int)] w fun e w' => e = .returned (.bool true) ∧ Below w.heap.size w w' := by
  have hlb : decide ((100 : Int) < (F.groups.length : Int)) = false := by simp; omega
  obtain ⟨np, hnp⟩ : ∃ np : Int, ((nxS S F x y c g).ph : Int) = np := ⟨_, rfl⟩
  obtain ⟨ns, hns⟩ : ∃ ns, (nxS S F x y c g).since = ns := ⟨_, rfl⟩
  obtain ⟨NL, hNL⟩ : ∃ NL, nxL S F x y c g = NL := ⟨_, rfl⟩
  obtain ⟨NE, hNE⟩ : ∃ NE, nxE S F x y = NE := ⟨_, rfl⟩
  obtain ⟨WA, hWA⟩ : ∃ WA, (((w.alloc (.cells #[.int .i64 S.id, .slice X.g S.groups.length X.gc, .slice X.a S.apart.length X.ac, .slice X.b S.between.length X.bc, .slice X.p S.phases.length X.pc, .slice X.e S.eyes.length X.ec, .int .i64 S.watch, .int .i64 S.feed, .int .i64 S.heal, .int .i64 S.low, .int .i64 S.high, .slice X.l S.plans.length X.lc] 37)).alloc (.cells #[.int .i64 x, .int .i64 y] 40)).alloc (.cells #[.slice a F.groups.length ca, .int .i64 F.start, .bool F.flashed] 26)) = WA := ⟨_, rfl⟩
  obtain ⟨HSB, HBQ, HBN, HK, HS, HF, HSZ, q0_, q1_, n0_, n1_, n2_, s0_, s1_, s2_, s3_, s4_, s5_, s6_, s7_, s8_, s9_, s10_, s11_⟩ := hd3 h hF hWA
  have HT := Hid.mk' (hT.kept HK.out)
  have hK0 := Kept.refl WA none
  clear h hT hF
  have HN2 : Hid (∀ w', Kept WA w' none → Calls Tryd.prog 13 #[siteV X S, .agg #[.int .i64 x, .int .i64 y], safeV a ca F, .int .u32 (c : Int), .int .u32 (g : Int)] w' fun e w2 => ∃ al cl, e = .returned (.tuple #[.agg #[.int .i64 np, .int .i64 ns], .slice al NL.length cl, .int .i64 NE]) ∧ By w2 al NL.length NL ∧ Kept w' w2 none) := fun w' q => by
    have hx := rnx16_any (HS.out.kept q) (HF.out.kept q) x y c g hc hg
    rw [hnp, hns, hNL, hNE] at hx
    exact hx
  have HN0 : Hid (∀ w' aO cO, Kept WA w' none → SafeAt w' aO cO F → Calls Tryd.prog 9 #[siteV X S, .agg #[.int .i64 x, .int .i64 y], safeV aO cO F, .int .u32 (c : Int), .int .u32 (g : Int)] w' fun e w2 => ∃ al cl, e = .returned (.tuple #[.agg #[.int .i64 np, .int .i64 ns], .slice al NL.length cl, .int .i64 NE]) ∧ By w2 al NL.length NL ∧ Kept w' w2 none) := fun w' aO cO q hS => by
    have hx := snext_any (HS.out.kept q) (HT.out.kept q) hS x y c g hc hg
    rw [hnp, hns, hNL, hNE] at hx
    exact hx
  clear hnp hns hNL hNE
  go_enter Tryd.func4, Tryd.ntmps4
  go_wp2_with (rw [hWA])
  go_at_call 11
  refine (rgreat_any HS.out).mono ?_
  rintro e wg ⟨gr, rfl, hgr, hkg⟩
  have hKg : Kept WA wg none := hkg
  clear hgr
  cases gr with
  | true =>
    go_wp2
    go_ret
    exact ⟨rfl, (HK.out.tr hKg).below⟩
  | false =>
    go_wp2_with (first | rw [hWO] | rw [hV1] | rw [hV2] | (have hgo := hO4; clear hgo; go_at_call 15; refine (rsame8_yes (HSO.out.kept hO4) (HF.out.kept hA4) rfl rfl).mono ?_; rintro e w5 ⟨rfl, hk5⟩; have hA5 : Kept WA w5 none := hA4.tr hk5) | (have hgo := hO3; clear hgo; go_at_call 14; refine (rbou16_any (HS.out.kept hA3)).mono ?_; rintro e w4 ⟨rfl, hk4⟩; have hO4 : Kept WO w4 none := hO3.tr hk4; have hA4 : Kept WA w4 none := hK0O.tr hO4; have p4 : Kept V1 w4 none := p3.tr hk4; have q4 : Kept V2 w4 none := q3.tr hk4; have t1 := run_text (HB1.out.kept p4) cl1; have t2 := run_text (HB2.out.kept q4) cl2) | (have hgo := hO2; clear hgo; go_at_call 7; refine (sbou_any (HS.out.kept hA2) (HT.out.kept hA2)).mono ?_; rintro e w3 ⟨rfl, hk3⟩; have hO3 : Kept WO w3 none := hO2.tr hk3; have hA3 : Kept WA w3 none := hK0O.tr hO3; have p3 : Kept V1 w3 none := p2.tr hk3; have q3 : Kept V2 w3 none := hk3) | (have hgo := hO1; clear hgo; go_at_call 13; refine (HN2.out _ hA1).mono ?_; rintro e w2 ⟨al2, cl2, rfl, hb2, hk2⟩; have k2 : Kept w2 (w2.alloc (.cells #[.int .i64 np, .int .i64 ns] 40)) none := Kept.alloc _ _ _ _ _; have bx2 := bx2_alloc w2 (.int .i64 np) (.int .i64 ns) 40; obtain ⟨V2, hV2⟩ : ∃ V2, w2.alloc (.cells #[.int .i64 np, .int .i64 ns] 40) = V2 := ⟨_, rfl⟩; rw [hV2] at k2 bx2; have hO2 : Kept WO V2 none := (hO1.tr hk2).tr k2; have hA2 : Kept WA V2 none := hK0O.tr hO2; have HX2 := Hid.mk' bx2; have g20_ : ∀ w', Kept V2 w' none → w'.cell? ⟨w2.heap.size, 0, none⟩ = some (.int .i64 np) := fun w' q => (HX2.out.kept q).c0; have g21_ : ∀ w', Kept V2 w' none → w'.cell? ⟨w2.heap.size, 1, none⟩ = some (.int .i64 ns) := fun w' q => (HX2.out.kept q).c1; have HB2 := Hid.mk' (hb2.kept k2); have m2 := Kept.refl V2 none; clear bx2 hb2; have p2 : Kept V1 V2 none := hk2.tr k2) | (have hgo := hO0; clear hgo; go_at_call 9; refine (HN0.out WO aO cO hK0O HSO.out).mono ?_; rintro e w1 ⟨al1, cl1, rfl, hb1, hk1⟩; have k1 : Kept w1 (w1.alloc (.cells #[.int .i64 np, .int .i64 ns] 40)) none := Kept.alloc _ _ _ _ _; have bx1 := bx2_alloc w1 (.int .i64 np) (.int .i64 ns) 40; obtain ⟨V1, hV1⟩ : ∃ V1, w1.alloc (.cells #[.int .i64 np, .int .i64 ns] 40) = V1 := ⟨_, rfl⟩; rw [hV1] at k1 bx1; have hO1 : Kept WO V1 none := (hO0.tr hk1).tr k1; have hA1 : Kept WA V1 none := hK0O.tr hO1; have HX1 := Hid.mk' bx1; have g10_ : ∀ w', Kept V1 w' none → w'.cell? ⟨w1.heap.size, 0, none⟩ = some (.int .i64 np) := fun w' q => (HX1.out.kept q).c0; have g11_ : ∀ w', Kept V1 w' none → w'.cell? ⟨w1.heap.size, 1, none⟩ = some (.int .i64 ns) := fun w' q => (HX1.out.kept q).c1; have HB1 := Hid.mk' (hb1.kept k1); have m1 := Kept.refl V1 none; clear bx1 hb1) | (have hgo := hKg; clear hgo; go_at_call 12; refine (rtwin_any (HF.out.kept hKg) (by omega)).mono ?_; rintro e wt ⟨aO, cO, rfl, hsO, hnO, hkt⟩; have kO : Kept wt (wt.alloc (.cells #[.slice aO F.groups.length cO, .int .i64 F.start, .bool F.flashed] 26)) none := Kept.alloc _ _ _ _ _; have bO := box_alloc wt (.slice aO F.groups.length cO) (.int .i64 F.start) (.bool F.flashed) 26; obtain ⟨WO, hWO⟩ : ∃ WO, wt.alloc (.cells #[.slice aO F.groups.length cO, .int .i64 F.start, .bool F.flashed] 26) = WO := ⟨_, rfl⟩; rw [hWO] at kO bO; have hK0O : Kept WA WO none := (hKg.tr hkt).tr kO; have hO0 := Kept.refl WO none; have HSO := Hid.mk' (hsO.kept kO); have HBO := Hid.mk' bO; have o0_ : ∀ w', Kept WO w' none → w'.cell? ⟨wt.heap.size, 0, none⟩ = some (.slice aO F.groups.length cO) := fun w' q => (HBO.out.kept q).c0; have o1_ : ∀ w', Kept WO w' none → w'.cell? ⟨wt.heap.size, 1, none⟩ = some (.int .i64 F.start) := fun w' q => (HBO.out.kept q).c1; have o2_ : ∀ w', Kept WO w' none → w'.cell? ⟨wt.heap.size, 2, none⟩ = some (.bool F.flashed) := fun w' q => (HBO.out.kept q).c2; clear hsO hnO kO bO hkt))
    go_ret
    exact ⟨by simp, (HK.out.tr hA5).below⟩
theorem sgoes_any {X : Sa} {S : St} {w : World} (h : Sat w X S) (hT : Tabb w) {a : Option Addr} {ca : Nat} {F : Sf} (hF : SafeAt w a ca F) (x y : Int) (c g : Nat) (hc : c < 4294967296) (hg : g < 4294967296) : Calls Tryd.prog 4 #[siteV X S, .agg #[.int .i64 x, .int .i64 y], safeV a ca F, .int .u32 (c : Int), .int .u32 (g : Int)] w fun e w' => e = .returned (.bool true) ∧ Below w.heap.size w w' := by
  by_cases hl : F.groups.length ≤ 100
  · exact sgoe_go h hT hF x y c g hc hg hl
  · exact sgoe_long h hT hF x y c g hc hg (by omega)

end Go.Proofs.YtkgimccffggfdaaDoor

