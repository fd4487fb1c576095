/-
  THE WALK of BackNames (made by a program).
-/
import Derived.Test.YtlpphapbehajnaaDoorTwoB
namespace Go.Proofs.YtlpphapbehajnaaDoor
open Go.RowKit Go.Lib Go.Deep
set_option linter.unusedVariables false
set_option linter.unusedSimpArgs false

def S00 : St := ⟨0, [], [], [], [], [], 0, 0, 0, 0, 0, []⟩
def X00 : Sa := ⟨none, 0, none, 0, none, 0, none, 0, none, 0, none, 0⟩
theorem cap00 : Cap none 0 0 := ⟨fun _ => ⟨rfl, rfl⟩, Nat.le_refl _, Nat.zero_le _⟩
theorem sat00 (w : World) : Sat w X00 S00 := by
  have hi : i64B 0 := by unfold i64B; omega
  refine ⟨⟨fun h => absurd h (by decide)⟩, ⟨fun h => absurd h (by decide)⟩, ⟨⟨fun _ => (none, 0), ⟨fun h => absurd h (by decide)⟩, fun i h => absurd h (Nat.not_lt_zero i)⟩, rfl, cap00⟩, ⟨fun h => absurd h (by decide)⟩, ⟨fun h => absurd h (by decide)⟩, ⟨⟨fun _ => (none, 0), ⟨fun h => absurd h (by decide)⟩, fun i h => absurd h (Nat.not_lt_zero i)⟩, rfl, cap00, fun p h => (nomatch h)⟩, cap00, cap00, cap00, cap00, fun g h => (nomatch h), fun g h => (nomatch h), fun g h => (nomatch h), fun g h => (nomatch h), hi, hi, hi, hi, hi, hi⟩
theorem s00_no : siteB S00 = false := by decide +kernel
theorem nwpp {u : World} {X : Sa} (h : Sat u X S2) (hT : Tabb u) (p q : Nat) (P Q : Int) (hP : P = (p : Int)) (hQ : Q = (q : Int)) (hp : p < 256) (hq : q < 256) (r t : Nat) (R T : Int) (hR : R = (r : Int)) (hT2 : T = (t : Int)) (hr : r < 256) (ht : t < 256) (v : Bool) (z : Int) (hv : wrongV S2 [p, q] [r, t] = v) (hz : wrongE S2 [p, q] [r, t] = z) : Calls Tryd.prog 8 #[siteV X S2, .slice (some ⟨u.heap.size, 0, none⟩) 2 2, .slice (some ⟨u.heap.size + 1, 0, none⟩) 2 2] ((u.alloc (.cells #[.int .u8 P, .int .u8 Q] 5)).alloc (.cells #[.int .u8 R, .int .u8 T] 5)) fun e w' => e = .returned (.tuple #[.bool v, .int .i64 z]) ∧ Kept u w' none := by
  have hx := wrong_any (c := 2) (d := 2) (h.kept ((Kept.alloc u _ _ (0, 0) _).tr (Kept.alloc _ _ _ (0, 0) _))) (hT.kept ((Kept.alloc u _ _ (0, 0) _).tr (Kept.alloc _ _ _ (0, 0) _))) ((by_pair10 u P Q p q _ hP hQ rfl hp hq).kept (Kept.alloc _ _ _ (0, 0) _)) (by_pair10 _ R T r t _ hR hT2 (World.size_alloc _ _) hr ht)
  rw [hv, hz] at hx
  exact hx.mono (fun e w' ⟨h1, h2⟩ => ⟨h1, ((Kept.alloc u _ _ (0, 0) _).tr (Kept.alloc _ _ _ (0, 0) _)).tr h2⟩)
theorem nwpn {u : World} {X : Sa} (h : Sat u X S2) (hT : Tabb u) (p q : Nat) (P Q : Int) (hP : P = (p : Int)) (hQ : Q = (q : Int)) (hp : p < 256) (hq : q < 256) (v : Bool) (z : Int) (hv : wrongV S2 [p, q] [] = v) (hz : wrongE S2 [p, q] [] = z) : Calls Tryd.prog 8 #[siteV X S2, .slice (some ⟨u.heap.size, 0, none⟩) 2 2, .slice none 0 0] (u.alloc (.cells #[.int .u8 P, .int .u8 Q] 5)) fun e w' => e = .returned (.tuple #[.bool v, .int .i64 z]) ∧ Kept u w' none := by
  have hx := wrong_any (c := 2) (d := 0) (h.kept (Kept.alloc u _ _ (0, 0) _)) (hT.kept (Kept.alloc u _ _ (0, 0) _)) (by_pair10 u P Q p q _ hP hQ rfl hp hq) (By.nil _ none)
  rw [hv, hz] at hx
  exact hx.mono (fun e w' ⟨h1, h2⟩ => ⟨h1, (Kept.alloc u _ _ (0, 0) _).tr h2⟩)
theorem nxpp {u : World} {X : Sa} (h : Sat u X S2) (hT : Tabb u) (p q : Nat) (P Q : Int) (hP : P = (p : Int)) (hQ : Q = (q : Int)) (hp : p < 256) (hq : q < 256) (r t : Nat) (R T : Int) (hR : R = (r : Int)) (hT2 : T = (t : Int)) (hr : r < 256) (ht : t < 256) (k : Int) (v : Int) (z : Int) (hv : nextV S2 k [p, q] [r, t] = v) (hz : nextE S2 k [p, q] [r, t] = z) : Calls Tryd.prog 9 #[siteV X S2, .int .i64 k, .slice (some ⟨u.heap.size, 0, none⟩) 2 2, .slice (some ⟨u.heap.size + 1, 0, none⟩) 2 2] ((u.alloc (.cells #[.int .u8 P, .int .u8 Q] 5)).alloc (.cells #[.int .u8 R, .int .u8 T] 5)) fun e w' => e = .returned (.tuple #[.int .i64 v, .int .i64 z]) ∧ Kept u w' none := by
  have hx := next_any (c := 2) (d := 2) (h.kept ((Kept.alloc u _ _ (0, 0) _).tr (Kept.alloc _ _ _ (0, 0) _))) (hT.kept ((Kept.alloc u _ _ (0, 0) _).tr (Kept.alloc _ _ _ (0, 0) _))) ((by_pair10 u P Q p q _ hP hQ rfl hp hq).kept (Kept.alloc _ _ _ (0, 0) _)) (by_pair10 _ R T r t _ hR hT2 (World.size_alloc _ _) hr ht) k
  rw [hv, hz] at hx
  exact hx.mono (fun e w' ⟨h1, h2⟩ => ⟨h1, ((Kept.alloc u _ _ (0, 0) _).tr (Kept.alloc _ _ _ (0, 0) _)).tr h2⟩)
theorem nxpn {u : World} {X : Sa} (h : Sat u X S2) (hT : Tabb u) (p q : Nat) (P Q : Int) (hP : P = (p : Int)) (hQ : Q = (q : Int)) (hp : p < 256) (hq : q < 256) (k : Int) (v : Int) (z : Int) (hv : nextV S2 k [p, q] [] = v) (hz : nextE S2 k [p, q] [] = z) : Calls Tryd.prog 9 #[siteV X S2, .int .i64 k, .slice (some ⟨u.heap.size, 0, none⟩) 2 2, .slice none 0 0] (u.alloc (.cells #[.int .u8 P, .int .u8 Q] 5)) fun e w' => e = .returned (.tuple #[.int .i64 v, .int .i64 z]) ∧ Kept u w' none := by
  have hx := next_any (c := 2) (d := 0) (h.kept (Kept.alloc u _ _ (0, 0) _)) (hT.kept (Kept.alloc u _ _ (0, 0) _)) (by_pair10 u P Q p q _ hP hQ rfl hp hq) (By.nil _ none) k
  rw [hv, hz] at hx
  exact hx.mono (fun e w' ⟨h1, h2⟩ => ⟨h1, (Kept.alloc u _ _ (0, 0) _).tr h2⟩)
theorem by_one10 (w : World) (X : Int) (x : Nat) (hX : X = (x : Int)) (hx : x < 256) : By (w.alloc (.cells #[.int .u8 X] 5)) (some ⟨w.heap.size, 0, none⟩) 1 [x] := by
  subst hX
  refine ⟨rfl, by omega, ?_, fun _ => ⟨_, _, rfl, by simp, ?_⟩⟩
  · intro z hz
    have : z = x := by simpa using hz
    omega
  · intro i hi
    obtain rfl : i = 0 := by omega
    simp [World.cell?_alloc_mark]
theorem nw1n {u : World} {X : Sa} (h : Sat u X S2) (hT : Tabb u) (p : Nat) (P : Int) (hP : P = (p : Int)) (hp : p < 256) (v : Bool) (z : Int) (hv : wrongV S2 [p] [] = v) (hz : wrongE S2 [p] [] = z) : Calls Tryd.prog 8 #[siteV X S2, .slice (some ⟨u.heap.size, 0, none⟩) 1 1, .slice none 0 0] (u.alloc (.cells #[.int .u8 P] 5)) fun e w' => e = .returned (.tuple #[.bool v, .int .i64 z]) ∧ Kept u w' none := by
  have hx := wrong_any (c := 1) (d := 0) (h.kept (Kept.alloc u _ _ (0, 0) _)) (hT.kept (Kept.alloc u _ _ (0, 0) _)) (by_one10 u P p hP hp) (By.nil _ none)
  rw [hv, hz] at hx
  exact hx.mono (fun e w' ⟨h1, h2⟩ => ⟨h1, (Kept.alloc u _ _ (0, 0) _).tr h2⟩)
theorem nlat {u : World} {X : Sa} (h : Sat u X S2) (hT : Tabb u) (k : Int) (v : Bool) (z : Int) (hv : latV S2 k = v) (hz : countE S2 k = z) : Calls Tryd.prog 10 #[siteV X S2, .int .i64 k] u fun e w' => e = .returned (.tuple #[.bool v, .int .i64 z]) ∧ Kept u w' none := by
  have hx := lat_any h hT k
  rw [hv, hz] at hx
  exact hx
theorem nzero {u : World} (hT : Tabb u) : Calls Tryd.prog 8 #[siteV X00 S00, .slice none 0 0, .slice none 0 0] u fun e w' => e = .returned (.tuple #[.bool false, .int .i64 50]) ∧ Kept u w' none := by
  have hx := wrong_any (c := 0) (d := 0) (sat00 u) hT (By.nil _ none) (By.nil _ none)
  rw [show wrongV S00 [] [] = false by decide +kernel, show wrongE S00 [] [] = 50 by decide +kernel] at hx
  exact hx
set_option maxRecDepth 100000 in
set_option maxHeartbeats 8000000 in
theorem bnam_any {w : World} (hT : Tabb w) : Calls Tryd.prog 3 #[] w fun e w' => e = .returned (.bool true) ∧ Below w.heap.size w w' := by
  have HT := Hid.mk' hT
  clear hT
  go_enter Tryd.func3, Tryd.ntmps3
  go_wp2_with (fail)
  go_at_call 7
  refine two_any.mono ?_
  rintro e w1 ⟨X1, rfl, hsat, hk1⟩
  have hkA : Kept w1 (w1.alloc (.cells #[.int .i64 S2.id, .slice X1.g S2.groups.length X1.gc, .slice X1.a S2.apart.length X1.ac, .slice X1.b S2.between.length X1.bc, .slice X1.p S2.phases.length X1.pc, .slice X1.e S2.eyes.length X1.ec, .int .i64 S2.watch, .int .i64 S2.feed, .int .i64 S2.heal, .int .i64 S2.low, .int .i64 S2.high, .slice X1.l S2.plans.length X1.lc] 29)) none := Kept.alloc _ _ _ _ _
  have hsb := sbox_alloc hsat 29
  have HS := Hid.mk' (hsat.kept hkA)
  have k0 := hk1.tr hkA
  obtain ⟨W0, hW0⟩ : ∃ W0, w1.alloc (.cells #[.int .i64 S2.id, .slice X1.g S2.groups.length X1.gc, .slice X1.a S2.apart.length X1.ac, .slice X1.b S2.between.length X1.bc, .slice X1.p S2.phases.length X1.pc, .slice X1.e S2.eyes.length X1.ec, .int .i64 S2.watch, .int .i64 S2.feed, .int .i64 S2.heal, .int .i64 S2.low, .int .i64 S2.high, .slice X1.l S2.plans.length X1.lc] 29) = W0 := ⟨_, rfl⟩
  rw [hW0] at hkA hsb HS k0
  have K0 := Hid.mk' k0
  have HSB := Hid.mk' hsb
  clear hsat hk1 hkA hsb k0
  have s0_ : ∀ w', Kept W0 w' none → w'.cell? ⟨w1.heap.size, 0, none⟩ = some (.int .i64 S2.id) := fun w' q => (HSB.out.kept q).c0
  have s1_ : ∀ w', Kept W0 w' none → w'.cell? ⟨w1.heap.size, 1, none⟩ = some (.slice X1.g S2.groups.length X1.gc) := fun w' q => (HSB.out.kept q).c1
  have s2_ : ∀ w', Kept W0 w' none → w'.cell? ⟨w1.heap.size, 2, none⟩ = some (.slice X1.a S2.apart.length X1.ac) := fun w' q => (HSB.out.kept q).c2
  have s3_ : ∀ w', Kept W0 w' none → w'.cell? ⟨w1.heap.size, 3, none⟩ = some (.slice X1.b S2.between.length X1.bc) := fun w' q => (HSB.out.kept q).c3
  have s4_ : ∀ w', Kept W0 w' none → w'.cell? ⟨w1.heap.size, 4, none⟩ = some (.slice X1.p S2.phases.length X1.pc) := fun w' q => (HSB.out.kept q).c4
  have s5_ : ∀ w', Kept W0 w' none → w'.cell? ⟨w1.heap.size, 5, none⟩ = some (.slice X1.e S2.eyes.length X1.ec) := fun w' q => (HSB.out.kept q).c5
  have s6_ : ∀ w', Kept W0 w' none → w'.cell? ⟨w1.heap.size, 6, none⟩ = some (.int .i64 S2.watch) := fun w' q => (HSB.out.kept q).c6
  have s7_ : ∀ w', Kept W0 w' none → w'.cell? ⟨w1.heap.size, 7, none⟩ = some (.int .i64 S2.feed) := fun w' q => (HSB.out.kept q).c7
  have s8_ : ∀ w', Kept W0 w' none → w'.cell? ⟨w1.heap.size, 8, none⟩ = some (.int .i64 S2.heal) := fun w' q => (HSB.out.kept q).c8
  have s9_ : ∀ w', Kept W0 w' none → w'.cell? ⟨w1.heap.size, 9, none⟩ = some (.int .i64 S2.low) := fun w' q => (HSB.out.kept q).c9
  have s10_ : ∀ w', Kept W0 w' none → w'.cell? ⟨w1.heap.size, 10, none⟩ = some (.int .i64 S2.high) := fun w' q => (HSB.out.kept q).c10
  have s11_ : ∀ w', Kept W0 w' none → w'.cell? ⟨w1.heap.size, 11, none⟩ = some (.slice X1.l S2.plans.length X1.lc) := fun w' q => (HSB.out.kept q).c11
  have HC1 := Hid.mk' (fun (u : World) (q : Kept W0 u none) => nwpp (HS.out.kept q) (HT.out.kept (K0.out.tr q)) 1 2 1 2 rfl rfl (by omega) (by omega) 1 2 1 2 rfl rfl (by omega) (by omega) false 0 (by decide +kernel) (by decide +kernel))
  have HC2 := Hid.mk' (fun (u : World) (q : Kept W0 u none) => nwpn (HS.out.kept q) (HT.out.kept (K0.out.tr q)) 1 2 1 2 rfl rfl (by omega) (by omega) false 0 (by decide +kernel) (by decide +kernel))
  have HC3 := Hid.mk' (fun (u : World) (q : Kept W0 u none) => nwpp (HS.out.kept q) (HT.out.kept (K0.out.tr q)) 1 2 1 2 rfl rfl (by omega) (by omega) 2 2 2 2 rfl rfl (by omega) (by omega) true 0 (by decide +kernel) (by decide +kernel))
  have HC4 := Hid.mk' (fun (u : World) (q : Kept W0 u none) => nxpp (HS.out.kept q) (HT.out.kept (K0.out.tr q)) 1 2 1 2 rfl rfl (by omega) (by omega) 2 2 2 2 rfl rfl (by omega) (by omega) 0 1 0 (by decide +kernel) (by decide +kernel))
  have HC5 := Hid.mk' (fun (u : World) (q : Kept W0 u none) => nxpp (HS.out.kept q) (HT.out.kept (K0.out.tr q)) 1 2 1 2 rfl rfl (by omega) (by omega) 1 2 1 2 rfl rfl (by omega) (by omega) 1 0 0 (by decide +kernel) (by decide +kernel))
  have HC6 := Hid.mk' (fun (u : World) (q : Kept W0 u none) => nlat (HS.out.kept q) (HT.out.kept (K0.out.tr q)) 1 false 0 (by decide +kernel) (by decide +kernel))
  have HC7 := Hid.mk' (fun (u : World) (q : Kept W0 u none) => nw1n (HS.out.kept q) (HT.out.kept (K0.out.tr q)) 1 1 rfl (by omega) false 4 (by decide +kernel) (by decide +kernel))
  have HC8 := Hid.mk' (fun (u : World) (q : Kept W0 u none) => nwpn (HS.out.kept q) (HT.out.kept (K0.out.tr q)) 1 5 1 5 rfl rfl (by omega) (by omega) false 2 (by decide +kernel) (by decide +kernel))
  have HC9 := Hid.mk' (fun (u : World) (q : Kept W0 u none) => nxpn (HS.out.kept q) (HT.out.kept (K0.out.tr q)) 1 2 1 2 rfl rfl (by omega) (by omega) (-1) 0 2 (by decide +kernel) (by decide +kernel))
  have hp0 := Kept.refl W0 none
  go_wp2_with (first | rw [hW0] | (have hgo := hp10; clear hgo; go_at_call 11; refine (balive_any (HT.out.kept (K0.out.tr hp10))).mono ?_; rintro e u11 ⟨rfl, hk⟩; have hp11 : Kept W0 u11 none := hp10.tr hk; clear hk hp10) | (have hgo := hp9; clear hgo; go_at_call 8; refine (nzero (HT.out.kept (K0.out.tr hp9))).mono ?_; rintro e u10 ⟨rfl, hk⟩; have hp10 : Kept W0 u10 none := hp9.tr hk; clear hk hp9) | (have hgo := hp8; clear hgo; go_at_call 9; refine (HC9.out _ hp8).mono ?_; rintro e u9 ⟨rfl, hk⟩; have hp9 : Kept W0 u9 none := hp8.tr hk; clear hk hp8) | (have hgo := hp7; clear hgo; go_at_call 8; refine (HC8.out _ hp7).mono ?_; rintro e u8 ⟨rfl, hk⟩; have hp8 : Kept W0 u8 none := hp7.tr hk; clear hk hp7) | (have hgo := hp6; clear hgo; go_at_call 8; refine (HC7.out _ hp6).mono ?_; rintro e u7 ⟨rfl, hk⟩; have hp7 : Kept W0 u7 none := hp6.tr hk; clear hk hp6) | (have hgo := hp5; clear hgo; go_at_call 10; refine (HC6.out _ hp5).mono ?_; rintro e u6 ⟨rfl, hk⟩; have hp6 : Kept W0 u6 none := hp5.tr hk; clear hk hp5) | (have hgo := hp4; clear hgo; go_at_call 9; refine (HC5.out _ hp4).mono ?_; rintro e u5 ⟨rfl, hk⟩; have hp5 : Kept W0 u5 none := hp4.tr hk; clear hk hp4) | (have hgo := hp3; clear hgo; go_at_call 9; refine (HC4.out _ hp3).mono ?_; rintro e u4 ⟨rfl, hk⟩; have hp4 : Kept W0 u4 none := hp3.tr hk; clear hk hp3) | (have hgo := hp2; clear hgo; go_at_call 8; refine (HC3.out _ hp2).mono ?_; rintro e u3 ⟨rfl, hk⟩; have hp3 : Kept W0 u3 none := hp2.tr hk; clear hk hp2) | (have hgo := hp1; clear hgo; go_at_call 8; refine (HC2.out _ hp1).mono ?_; rintro e u2 ⟨rfl, hk⟩; have hp2 : Kept W0 u2 none := hp1.tr hk; clear hk hp1) | (have hgo := hp0; clear hgo; go_at_call 8; refine (HC1.out _ hp0).mono ?_; rintro e u1 ⟨rfl, hk⟩; have hp1 : Kept W0 u1 none := hp0.tr hk; clear hk hp0))
  go_ret
  exact ⟨rfl, (K0.out.tr hp11).below⟩

end Go.Proofs.YtlpphapbehajnaaDoor
