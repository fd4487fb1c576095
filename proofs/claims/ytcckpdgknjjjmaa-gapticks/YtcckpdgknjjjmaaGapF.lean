/-
  THE CONTRACTS of the document's Next, Past and Share for gaps (made by a program).
-/
import Derived.Test.YtcckpdgknjjjmaaGapD
namespace Go.Proofs.Ytcckpdgknjjjmaa
open Go.RowKit Go.Lib Go.Deep
set_option linter.unusedVariables false
set_option linter.unusedSimpArgs false

set_option maxHeartbeats 1000000 in
theorem rnext_bad (q : Bool) (a b c z : Int) (u : Bool) (w : World) (hm : mayG ⟨q, a, b, c, z⟩ = false) (h0 : 0 ≤ z) (h1 : z < 18446744073709551616) : Calls Try.prog 14 #[gaV ⟨q, a, b, c, z⟩, .bool u] w fun e w' => e = .returned (.tuple #[gaV Ga.zero, .int .i64 8]) ∧ Kept w w' none := by
  have HM := Hid.mk' hm
  clear hm
  go_enter Try.func14, Try.ntmps14
  go_wp2_with (first | (go_at_call 23; refine (rmay_any ⟨q, a, b, c, z⟩ _ h0 h1).mono ?_; rw [HM.out]; rintro e w1 ⟨rfl, hk1⟩; have hB := (gbox_alloc w ⟨q, a, b, c, z⟩ 24).kept ((Kept.alloc _ _ _ _ _).tr hk1); have c0 := hB.c0; have c1 := hB.c1; have c2 := hB.c2; have c3 := hB.c3; have c4 := hB.c4; have hlb := hB.lt; have hR := (gbox_alloc (w.alloc (.cells (gaC ⟨q, a, b, c, z⟩) 24)) Ga.zero 24).kept hk1; simp only [World.size_alloc] at hR; have d0 := hR.c0; have d1 := hR.c1; have d2 := hR.c2; have d3 := hR.c3; have d4 := hR.c4; have e0 := hR.f0; have e1 := hR.f1; have e2 := hR.f2; have e3 := hR.f3; have e4 := hR.f4; have hlt := hR.lt))
  refine bodyPost_ret (v := .tuple #[gaV _, .int .i64 _]) (by simp [results, Try.results14, go_sem, *]; done) rfl ⟨rfl, ?_⟩
  have hK : Kept w _ none := ((Kept.alloc _ _ _ _ _).tr (Kept.alloc _ _ _ _ _)).tr hk1
  exact (((((hK.setNew (p := ⟨w.heap.size + 1, 0, none⟩) (by simp) _).setNew (p := ⟨w.heap.size + 1, 1, none⟩) (by simp) _).setNew (p := ⟨w.heap.size + 1, 2, none⟩) (by simp) _).setNew (p := ⟨w.heap.size + 1, 3, none⟩) (by simp) _).setNew (p := ⟨w.heap.size + 1, 4, none⟩) (by simp) _)
set_option maxHeartbeats 1000000 in
theorem rnext_dy (u q : Bool) (a b c z : Int) (w : World) (hmay : mayG ⟨q, a, b, c, z⟩ = true) (i0 : 0 ≤ a) (i1 : a ≤ 1048576) (i2 : 0 ≤ b) (i3 : b ≤ 1048576) (i4 : 0 ≤ c) (i5 : c ≤ 1073741824) (h0 : 0 ≤ z) (h1 : z < 18446744073709551616) (hu : u = false) (hm : b + 1 < 1048576) : Calls Try.prog 14 #[gaV ⟨q, a, b, c, z⟩, .bool u] w fun e w' => e = .returned (.tuple #[gaV ⟨false, 0, b + 1, c, z * 2 % 18446744073709551616⟩, .int .i64 0]) ∧ Kept w w' none := by
  have HM := Hid.mk' hmay
  clear hmay
  have hz : IntKind.u64.wrap (z * 2) = z * 2 % 18446744073709551616 := IntKind.wrap_u64 _
  have hb0 : 0 ≤ z * 2 % 18446744073709551616 := by omega
  have hb1 : z * 2 % 18446744073709551616 + 1 ≤ 18446744073709551615 := by omega
  generalize z * 2 % 18446744073709551616 = Z at *
  subst hu
  go_enter Try.func14, Try.ntmps14
  go_wp2_with (first | (go_at_call 23; refine (rmay_any ⟨q, a, b, c, z⟩ _ h0 h1).mono ?_; rw [HM.out]; rintro e w1 ⟨rfl, hk1⟩; have hB := (gbox_alloc w ⟨q, a, b, c, z⟩ 24).kept ((Kept.alloc _ _ _ _ _).tr hk1); have c0 := hB.c0; have c1 := hB.c1; have c2 := hB.c2; have c3 := hB.c3; have c4 := hB.c4; have hlb := hB.lt; have hR := (gbox_alloc (w.alloc (.cells (gaC ⟨q, a, b, c, z⟩) 24)) Ga.zero 24).kept hk1; simp only [World.size_alloc] at hR; have d0 := hR.c0; have d1 := hR.c1; have d2 := hR.c2; have d3 := hR.c3; have d4 := hR.c4; have e0 := hR.f0; have e1 := hR.f1; have e2 := hR.f2; have e3 := hR.f3; have e4 := hR.f4; have hlt := hR.lt))
  refine bodyPost_ret (v := .tuple #[gaV _, .int .i64 _]) (by simp [results, Try.results14, go_sem, *]; done) rfl ⟨rfl, ?_⟩
  have hK : Kept w w1 none := ((Kept.alloc _ _ _ _ _).tr (Kept.alloc _ _ _ _ _)).tr hk1
  have hlt2 : w.heap.size + 1 < w1.heap.size := hlt
  exact (by (repeat (first | (with_reducible refine Kept.setNew ?_ (by simp <;> omega) _) | (with_reducible refine Kept.tr ?_ (Kept.alloc _ _ _ _ _)) | (with_reducible exact hK))))
set_option maxHeartbeats 1000000 in
theorem rnext_dz (u q : Bool) (a b c z : Int) (w : World) (hmay : mayG ⟨q, a, b, c, z⟩ = true) (i0 : 0 ≤ a) (i1 : a ≤ 1048576) (i2 : 0 ≤ b) (i3 : b ≤ 1048576) (i4 : 0 ≤ c) (i5 : c ≤ 1073741824) (h0 : 0 ≤ z) (h1 : z < 18446744073709551616) (hu : u = false) (hm : b = 1048575) : Calls Try.prog 14 #[gaV ⟨q, a, b, c, z⟩, .bool u] w fun e w' => e = .returned (.tuple #[gaV ⟨false, 0, 1048576, c, z * 2 % 18446744073709551616⟩, .int .i64 0]) ∧ Kept w w' none := by
  have HM := Hid.mk' hmay
  clear hmay
  have hz : IntKind.u64.wrap (z * 2) = z * 2 % 18446744073709551616 := IntKind.wrap_u64 _
  have hb0 : 0 ≤ z * 2 % 18446744073709551616 := by omega
  have hb1 : z * 2 % 18446744073709551616 + 1 ≤ 18446744073709551615 := by omega
  generalize z * 2 % 18446744073709551616 = Z at *
  subst hu
  subst hm
  go_enter Try.func14, Try.ntmps14
  go_wp2_with (first | (go_at_call 23; refine (rmay_any ⟨q, a, 1048575, c, z⟩ _ h0 h1).mono ?_; rw [HM.out]; rintro e w1 ⟨rfl, hk1⟩; have hB := (gbox_alloc w ⟨q, a, 1048575, c, z⟩ 24).kept ((Kept.alloc _ _ _ _ _).tr hk1); have c0 := hB.c0; have c1 := hB.c1; have c2 := hB.c2; have c3 := hB.c3; have c4 := hB.c4; have hlb := hB.lt; have hR := (gbox_alloc (w.alloc (.cells (gaC ⟨q, a, 1048575, c, z⟩) 24)) Ga.zero 24).kept hk1; simp only [World.size_alloc] at hR; have d0 := hR.c0; have d1 := hR.c1; have d2 := hR.c2; have d3 := hR.c3; have d4 := hR.c4; have e0 := hR.f0; have e1 := hR.f1; have e2 := hR.f2; have e3 := hR.f3; have e4 := hR.f4; have hlt := hR.lt))
  refine bodyPost_ret (v := .tuple #[gaV _, .int .i64 _]) (by simp [results, Try.results14, go_sem, *]; done) rfl ⟨rfl, ?_⟩
  have hK : Kept w w1 none := ((Kept.alloc _ _ _ _ _).tr (Kept.alloc _ _ _ _ _)).tr hk1
  have hlt2 : w.heap.size + 1 < w1.heap.size := hlt
  exact (by (repeat (first | (with_reducible refine Kept.setNew ?_ (by simp <;> omega) _) | (with_reducible refine Kept.tr ?_ (Kept.alloc _ _ _ _ _)) | (with_reducible exact hK))))
set_option maxHeartbeats 1000000 in
theorem rnext_dx (u q : Bool) (a b c z : Int) (w : World) (hmay : mayG ⟨q, a, b, c, z⟩ = true) (i0 : 0 ≤ a) (i1 : a ≤ 1048576) (i2 : 0 ≤ b) (i3 : b ≤ 1048576) (i4 : 0 ≤ c) (i5 : c ≤ 1073741824) (h0 : 0 ≤ z) (h1 : z < 18446744073709551616) (hu : u = false) (hm : b = 1048576) : Calls Try.prog 14 #[gaV ⟨q, a, b, c, z⟩, .bool u] w fun e w' => e = .returned (.tuple #[gaV ⟨false, 0, 1048576, c, z * 2 % 18446744073709551616⟩, .int .i64 0]) ∧ Kept w w' none := by
  have HM := Hid.mk' hmay
  clear hmay
  have hz : IntKind.u64.wrap (z * 2) = z * 2 % 18446744073709551616 := IntKind.wrap_u64 _
  have hb0 : 0 ≤ z * 2 % 18446744073709551616 := by omega
  have hb1 : z * 2 % 18446744073709551616 + 1 ≤ 18446744073709551615 := by omega
  generalize z * 2 % 18446744073709551616 = Z at *
  subst hu
  subst hm
  go_enter Try.func14, Try.ntmps14
  go_wp2_with (first | (go_at_call 23; refine (rmay_any ⟨q, a, 1048576, c, z⟩ _ h0 h1).mono ?_; rw [HM.out]; rintro e w1 ⟨rfl, hk1⟩; have hB := (gbox_alloc w ⟨q, a, 1048576, c, z⟩ 24).kept ((Kept.alloc _ _ _ _ _).tr hk1); have c0 := hB.c0; have c1 := hB.c1; have c2 := hB.c2; have c3 := hB.c3; have c4 := hB.c4; have hlb := hB.lt; have hR := (gbox_alloc (w.alloc (.cells (gaC ⟨q, a, 1048576, c, z⟩) 24)) Ga.zero 24).kept hk1; simp only [World.size_alloc] at hR; have d0 := hR.c0; have d1 := hR.c1; have d2 := hR.c2; have d3 := hR.c3; have d4 := hR.c4; have e0 := hR.f0; have e1 := hR.f1; have e2 := hR.f2; have e3 := hR.f3; have e4 := hR.f4; have hlt := hR.lt))
  refine bodyPost_ret (v := .tuple #[gaV _, .int .i64 _]) (by simp [results, Try.results14, go_sem, *]; done) rfl ⟨rfl, ?_⟩
  have hK : Kept w w1 none := ((Kept.alloc _ _ _ _ _).tr (Kept.alloc _ _ _ _ _)).tr hk1
  have hlt2 : w.heap.size + 1 < w1.heap.size := hlt
  exact (by (repeat (first | (with_reducible refine Kept.setNew ?_ (by simp <;> omega) _) | (with_reducible refine Kept.tr ?_ (Kept.alloc _ _ _ _ _)) | (with_reducible exact hK))))
set_option maxHeartbeats 1000000 in
theorem rnext_uy (u q : Bool) (a b c z : Int) (w : World) (hmay : mayG ⟨q, a, b, c, z⟩ = true) (i0 : 0 ≤ a) (i1 : a ≤ 1048576) (i2 : 0 ≤ b) (i3 : b ≤ 1048576) (i4 : 0 ≤ c) (i5 : c ≤ 1073741824) (h0 : 0 ≤ z) (h1 : z < 18446744073709551616) (hu : u = true) (hq : q = true) (hm : a + 1 < 1048576) : Calls Try.prog 14 #[gaV ⟨q, a, b, c, z⟩, .bool u] w fun e w' => e = .returned (.tuple #[gaV ⟨true, a + 1, 0, c, z * 2 % 18446744073709551616 + 1⟩, .int .i64 0]) ∧ Kept w w' none := by
  have HM := Hid.mk' hmay
  clear hmay
  have hz : IntKind.u64.wrap (z * 2) = z * 2 % 18446744073709551616 := IntKind.wrap_u64 _
  have hb0 : 0 ≤ z * 2 % 18446744073709551616 := by omega
  have hb1 : z * 2 % 18446744073709551616 + 1 ≤ 18446744073709551615 := by omega
  generalize z * 2 % 18446744073709551616 = Z at *
  subst hu hq
  go_enter Try.func14, Try.ntmps14
  go_wp2_with (first | (go_at_call 23; refine (rmay_any ⟨true, a, b, c, z⟩ _ h0 h1).mono ?_; rw [HM.out]; rintro e w1 ⟨rfl, hk1⟩; have hB := (gbox_alloc w ⟨true, a, b, c, z⟩ 24).kept ((Kept.alloc _ _ _ _ _).tr hk1); have c0 := hB.c0; have c1 := hB.c1; have c2 := hB.c2; have c3 := hB.c3; have c4 := hB.c4; have hlb := hB.lt; have hR := (gbox_alloc (w.alloc (.cells (gaC ⟨true, a, b, c, z⟩) 24)) Ga.zero 24).kept hk1; simp only [World.size_alloc] at hR; have d0 := hR.c0; have d1 := hR.c1; have d2 := hR.c2; have d3 := hR.c3; have d4 := hR.c4; have e0 := hR.f0; have e1 := hR.f1; have e2 := hR.f2; have e3 := hR.f3; have e4 := hR.f4; have hlt := hR.lt))
  refine bodyPost_ret (v := .tuple #[gaV _, .int .i64 _]) (by simp [results, Try.results14, go_sem, *]; done) rfl ⟨rfl, ?_⟩
  have hK : Kept w w1 none := ((Kept.alloc _ _ _ _ _).tr (Kept.alloc _ _ _ _ _)).tr hk1
  have hlt2 : w.heap.size + 1 < w1.heap.size := hlt
  exact (by (repeat (first | (with_reducible refine Kept.setNew ?_ (by simp <;> omega) _) | (with_reducible refine Kept.tr ?_ (Kept.alloc _ _ _ _ _)) | (with_reducible exact hK))))
set_option maxHeartbeats 1000000 in
theorem rnext_uz (u q : Bool) (a b c z : Int) (w : World) (hmay : mayG ⟨q, a, b, c, z⟩ = true) (i0 : 0 ≤ a) (i1 : a ≤ 1048576) (i2 : 0 ≤ b) (i3 : b ≤ 1048576) (i4 : 0 ≤ c) (i5 : c ≤ 1073741824) (h0 : 0 ≤ z) (h1 : z < 18446744073709551616) (hu : u = true) (hq : q = true) (hm : a = 1048575) : Calls Try.prog 14 #[gaV ⟨q, a, b, c, z⟩, .bool u] w fun e w' => e = .returned (.tuple #[gaV ⟨true, 1048576, 0, c, z * 2 % 18446744073709551616 + 1⟩, .int .i64 0]) ∧ Kept w w' none := by
  have HM := Hid.mk' hmay
  clear hmay
  have hz : IntKind.u64.wrap (z * 2) = z * 2 % 18446744073709551616 := IntKind.wrap_u64 _
  have hb0 : 0 ≤ z * 2 % 18446744073709551616 := by omega
  have hb1 : z * 2 % 18446744073709551616 + 1 ≤ 18446744073709551615 := by omega
  generalize z * 2 % 18446744073709551616 = Z at *
  subst hu hq
  subst hm
  go_enter Try.func14, Try.ntmps14
  go_wp2_with (first | (go_at_call 23; refine (rmay_any ⟨true, 1048575, b, c, z⟩ _ h0 h1).mono ?_; rw [HM.out]; rintro e w1 ⟨rfl, hk1⟩; have hB := (gbox_alloc w ⟨true, 1048575, b, c, z⟩ 24).kept ((Kept.alloc _ _ _ _ _).tr hk1); have c0 := hB.c0; have c1 := hB.c1; have c2 := hB.c2; have c3 := hB.c3; have c4 := hB.c4; have hlb := hB.lt; have hR := (gbox_alloc (w.alloc (.cells (gaC ⟨true, 1048575, b, c, z⟩) 24)) Ga.zero 24).kept hk1; simp only [World.size_alloc] at hR; have d0 := hR.c0; have d1 := hR.c1; have d2 := hR.c2; have d3 := hR.c3; have d4 := hR.c4; have e0 := hR.f0; have e1 := hR.f1; have e2 := hR.f2; have e3 := hR.f3; have e4 := hR.f4; have hlt := hR.lt))
  refine bodyPost_ret (v := .tuple #[gaV _, .int .i64 _]) (by simp [results, Try.results14, go_sem, *]; done) rfl ⟨rfl, ?_⟩
  have hK : Kept w w1 none := ((Kept.alloc _ _ _ _ _).tr (Kept.alloc _ _ _ _ _)).tr hk1
  have hlt2 : w.heap.size + 1 < w1.heap.size := hlt
  exact (by (repeat (first | (with_reducible refine Kept.setNew ?_ (by simp <;> omega) _) | (with_reducible refine Kept.tr ?_ (Kept.alloc _ _ _ _ _)) | (with_reducible exact hK))))
set_option maxHeartbeats 1000000 in
theorem rnext_ux (u q : Bool) (a b c z : Int) (w : World) (hmay : mayG ⟨q, a, b, c, z⟩ = true) (i0 : 0 ≤ a) (i1 : a ≤ 1048576) (i2 : 0 ≤ b) (i3 : b ≤ 1048576) (i4 : 0 ≤ c) (i5 : c ≤ 1073741824) (h0 : 0 ≤ z) (h1 : z < 18446744073709551616) (hu : u = true) (hq : q = true) (hm : a = 1048576) : Calls Try.prog 14 #[gaV ⟨q, a, b, c, z⟩, .bool u] w fun e w' => e = .returned (.tuple #[gaV ⟨true, 1048576, 0, c, z * 2 % 18446744073709551616 + 1⟩, .int .i64 0]) ∧ Kept w w' none := by
  have HM := Hid.mk' hmay
  clear hmay
  have hz : IntKind.u64.wrap (z * 2) = z * 2 % 18446744073709551616 := IntKind.wrap_u64 _
  have hb0 : 0 ≤ z * 2 % 18446744073709551616 := by omega
  have hb1 : z * 2 % 18446744073709551616 + 1 ≤ 18446744073709551615 := by omega
  generalize z * 2 % 18446744073709551616 = Z at *
  subst hu hq
  subst hm
  go_enter Try.func14, Try.ntmps14
  go_wp2_with (first | (go_at_call 23; refine (rmay_any ⟨true, 1048576, b, c, z⟩ _ h0 h1).mono ?_; rw [HM.out]; rintro e w1 ⟨rfl, hk1⟩; have hB := (gbox_alloc w ⟨true, 1048576, b, c, z⟩ 24).kept ((Kept.alloc _ _ _ _ _).tr hk1); have c0 := hB.c0; have c1 := hB.c1; have c2 := hB.c2; have c3 := hB.c3; have c4 := hB.c4; have hlb := hB.lt; have hR := (gbox_alloc (w.alloc (.cells (gaC ⟨true, 1048576, b, c, z⟩) 24)) Ga.zero 24).kept hk1; simp only [World.size_alloc] at hR; have d0 := hR.c0; have d1 := hR.c1; have d2 := hR.c2; have d3 := hR.c3; have d4 := hR.c4; have e0 := hR.f0; have e1 := hR.f1; have e2 := hR.f2; have e3 := hR.f3; have e4 := hR.f4; have hlt := hR.lt))
  refine bodyPost_ret (v := .tuple #[gaV _, .int .i64 _]) (by simp [results, Try.results14, go_sem, *]; done) rfl ⟨rfl, ?_⟩
  have hK : Kept w w1 none := ((Kept.alloc _ _ _ _ _).tr (Kept.alloc _ _ _ _ _)).tr hk1
  have hlt2 : w.heap.size + 1 < w1.heap.size := hlt
  exact (by (repeat (first | (with_reducible refine Kept.setNew ?_ (by simp <;> omega) _) | (with_reducible refine Kept.tr ?_ (Kept.alloc _ _ _ _ _)) | (with_reducible exact hK))))
set_option maxHeartbeats 1000000 in
theorem rnext_nyy (u q : Bool) (a b c z : Int) (w : World) (hmay : mayG ⟨q, a, b, c, z⟩ = true) (i0 : 0 ≤ a) (i1 : a ≤ 1048576) (i2 : 0 ≤ b) (i3 : b ≤ 1048576) (i4 : 0 ≤ c) (i5 : c ≤ 1073741824) (h0 : 0 ≤ z) (h1 : z < 18446744073709551616) (hu : u = true) (hq : q = false) (hm : a + 1 < 1048576) (hk : c + 1 < 1073741824) : Calls Try.prog 14 #[gaV ⟨q, a, b, c, z⟩, .bool u] w fun e w' => e = .returned (.tuple #[gaV ⟨true, a + 1, 0, c + 1, z * 2 % 18446744073709551616 + 1⟩, .int .i64 0]) ∧ Kept w w' none := by
  have HM := Hid.mk' hmay
  clear hmay
  have hz : IntKind.u64.wrap (z * 2) = z * 2 % 18446744073709551616 := IntKind.wrap_u64 _
  have hb0 : 0 ≤ z * 2 % 18446744073709551616 := by omega
  have hb1 : z * 2 % 18446744073709551616 + 1 ≤ 18446744073709551615 := by omega
  generalize z * 2 % 18446744073709551616 = Z at *
  subst hu hq
  go_enter Try.func14, Try.ntmps14
  go_wp2_with (first | (go_at_call 23; refine (rmay_any ⟨false, a, b, c, z⟩ _ h0 h1).mono ?_; rw [HM.out]; rintro e w1 ⟨rfl, hk1⟩; have hB := (gbox_alloc w ⟨false, a, b, c, z⟩ 24).kept ((Kept.alloc _ _ _ _ _).tr hk1); have c0 := hB.c0; have c1 := hB.c1; have c2 := hB.c2; have c3 := hB.c3; have c4 := hB.c4; have hlb := hB.lt; have hR := (gbox_alloc (w.alloc (.cells (gaC ⟨false, a, b, c, z⟩) 24)) Ga.zero 24).kept hk1; simp only [World.size_alloc] at hR; have d0 := hR.c0; have d1 := hR.c1; have d2 := hR.c2; have d3 := hR.c3; have d4 := hR.c4; have e0 := hR.f0; have e1 := hR.f1; have e2 := hR.f2; have e3 := hR.f3; have e4 := hR.f4; have hlt := hR.lt))
  refine bodyPost_ret (v := .tuple #[gaV _, .int .i64 _]) (by simp [results, Try.results14, go_sem, *]; done) rfl ⟨rfl, ?_⟩
  have hK : Kept w w1 none := ((Kept.alloc _ _ _ _ _).tr (Kept.alloc _ _ _ _ _)).tr hk1
  have hlt2 : w.heap.size + 1 < w1.heap.size := hlt
  exact (by (repeat (first | (with_reducible refine Kept.setNew ?_ (by simp <;> omega) _) | (with_reducible refine Kept.tr ?_ (Kept.alloc _ _ _ _ _)) | (with_reducible exact hK))))
set_option maxHeartbeats 1000000 in
theorem rnext_nyz (u q : Bool) (a b c z : Int) (w : World) (hmay : mayG ⟨q, a, b, c, z⟩ = true) (i0 : 0 ≤ a) (i1 : a ≤ 1048576) (i2 : 0 ≤ b) (i3 : b ≤ 1048576) (i4 : 0 ≤ c) (i5 : c ≤ 1073741824) (h0 : 0 ≤ z) (h1 : z < 18446744073709551616) (hu : u = true) (hq : q = false) (hm : a + 1 < 1048576) (hk : c = 1073741823) : Calls Try.prog 14 #[gaV ⟨q, a, b, c, z⟩, .bool u] w fun e w' => e = .returned (.tuple #[gaV ⟨true, a + 1, 0, 1073741824, z * 2 % 18446744073709551616 + 1⟩, .int .i64 0]) ∧ Kept w w' none := by
  have HM := Hid.mk' hmay
  clear hmay
  have hz : IntKind.u64.wrap (z * 2) = z * 2 % 18446744073709551616 := IntKind.wrap_u64 _
  have hb0 : 0 ≤ z * 2 % 18446744073709551616 := by omega
  have hb1 : z * 2 % 18446744073709551616 + 1 ≤ 18446744073709551615 := by omega
  generalize z * 2 % 18446744073709551616 = Z at *
  subst hu hq
  subst hk
  go_enter Try.func14, Try.ntmps14
  go_wp2_with (first | (go_at_call 23; refine (rmay_any ⟨false, a, b, 1073741823, z⟩ _ h0 h1).mono ?_; rw [HM.out]; rintro e w1 ⟨rfl, hk1⟩; have hB := (gbox_alloc w ⟨false, a, b, 1073741823, z⟩ 24).kept ((Kept.alloc _ _ _ _ _).tr hk1); have c0 := hB.c0; have c1 := hB.c1; have c2 := hB.c2; have c3 := hB.c3; have c4 := hB.c4; have hlb := hB.lt; have hR := (gbox_alloc (w.alloc (.cells (gaC ⟨false, a, b, 1073741823, z⟩) 24)) Ga.zero 24).kept hk1; simp only [World.size_alloc] at hR; have d0 := hR.c0; have d1 := hR.c1; have d2 := hR.c2; have d3 := hR.c3; have d4 := hR.c4; have e0 := hR.f0; have e1 := hR.f1; have e2 := hR.f2; have e3 := hR.f3; have e4 := hR.f4; have hlt := hR.lt))
  refine bodyPost_ret (v := .tuple #[gaV _, .int .i64 _]) (by simp [results, Try.results14, go_sem, *]; done) rfl ⟨rfl, ?_⟩
  have hK : Kept w w1 none := ((Kept.alloc _ _ _ _ _).tr (Kept.alloc _ _ _ _ _)).tr hk1
  have hlt2 : w.heap.size + 1 < w1.heap.size := hlt
  exact (by (repeat (first | (with_reducible refine Kept.setNew ?_ (by simp <;> omega) _) | (with_reducible refine Kept.tr ?_ (Kept.alloc _ _ _ _ _)) | (with_reducible exact hK))))
set_option maxHeartbeats 1000000 in
theorem rnext_nyx (u q : Bool) (a b c z : Int) (w : World) (hmay : mayG ⟨q, a, b, c, z⟩ = true) (i0 : 0 ≤ a) (i1 : a ≤ 1048576) (i2 : 0 ≤ b) (i3 : b ≤ 1048576) (i4 : 0 ≤ c) (i5 : c ≤ 1073741824) (h0 : 0 ≤ z) (h1 : z < 18446744073709551616) (hu : u = true) (hq : q = false) (hm : a + 1 < 1048576) (hk : c = 1073741824) : Calls Try.prog 14 #[gaV ⟨q, a, b, c, z⟩, .bool u] w fun e w' => e = .returned (.tuple #[gaV ⟨true, a + 1, 0, 1073741824, z * 2 % 18446744073709551616 + 1⟩, .int .i64 0]) ∧ Kept w w' none := by
  have HM := Hid.mk' hmay
  clear hmay
  have hz : IntKind.u64.wrap (z * 2) = z * 2 % 18446744073709551616 := IntKind.wrap_u64 _
  have hb0 : 0 ≤ z * 2 % 18446744073709551616 := by omega
  have hb1 : z * 2 % 18446744073709551616 + 1 ≤ 18446744073709551615 := by omega
  generalize z * 2 % 18446744073709551616 = Z at *
  subst hu hq
  subst hk
  go_enter Try.func14, Try.ntmps14
  go_wp2_with (first | (go_at_call 23; refine (rmay_any ⟨false, a, b, 1073741824, z⟩ _ h0 h1).mono ?_; rw [HM.out]; rintro e w1 ⟨rfl, hk1⟩; have hB := (gbox_alloc w ⟨false, a, b, 1073741824, z⟩ 24).kept ((Kept.alloc _ _ _ _ _).tr hk1); have c0 := hB.c0; have c1 := hB.c1; have c2 := hB.c2; have c3 := hB.c3; have c4 := hB.c4; have hlb := hB.lt; have hR := (gbox_alloc (w.alloc (.cells (gaC ⟨false, a, b, 1073741824, z⟩) 24)) Ga.zero 24).kept hk1; simp only [World.size_alloc] at hR; have d0 := hR.c0; have d1 := hR.c1; have d2 := hR.c2; have d3 := hR.c3; have d4 := hR.c4; have e0 := hR.f0; have e1 := hR.f1; have e2 := hR.f2; have e3 := hR.f3; have e4 := hR.f4; have hlt := hR.lt))
  refine bodyPost_ret (v := .tuple #[gaV _, .int .i64 _]) (by simp [results, Try.results14, go_sem, *]; done) rfl ⟨rfl, ?_⟩
  have hK : Kept w w1 none := ((Kept.alloc _ _ _ _ _).tr (Kept.alloc _ _ _ _ _)).tr hk1
  have hlt2 : w.heap.size + 1 < w1.heap.size := hlt
  exact (by (repeat (first | (with_reducible refine Kept.setNew ?_ (by simp <;> omega) _) | (with_reducible refine Kept.tr ?_ (Kept.alloc _ _ _ _ _)) | (with_reducible exact hK))))
set_option maxHeartbeats 1000000 in
theorem rnext_nzy (u q : Bool) (a b c z : Int) (w : World) (hmay : mayG ⟨q, a, b, c, z⟩ = true) (i0 : 0 ≤ a) (i1 : a ≤ 1048576) (i2 : 0 ≤ b) (i3 : b ≤ 1048576) (i4 : 0 ≤ c) (i5 : c ≤ 1073741824) (h0 : 0 ≤ z) (h1 : z < 18446744073709551616) (hu : u = true) (hq : q = false) (hm : a = 1048575) (hk : c + 1 < 1073741824) : Calls Try.prog 14 #[gaV ⟨q, a, b, c, z⟩, .bool u] w fun e w' => e = .returned (.tuple #[gaV ⟨true, 1048576, 0, c + 1, z * 2 % 18446744073709551616 + 1⟩, .int .i64 0]) ∧ Kept w w' none := by
  have HM := Hid.mk' hmay
  clear hmay
  have hz : IntKind.u64.wrap (z * 2) = z * 2 % 18446744073709551616 := IntKind.wrap_u64 _
  have hb0 : 0 ≤ z * 2 % 18446744073709551616 := by omega
  have hb1 : z * 2 % 18446744073709551616 + 1 ≤ 18446744073709551615 := by omega
  generalize z * 2 % 18446744073709551616 = Z at *
  subst hu hq
  subst hm
  go_enter Try.func14, Try.ntmps14
  go_wp2_with (first | (go_at_call 23; refine (rmay_any ⟨false, 1048575, b, c, z⟩ _ h0 h1).mono ?_; rw [HM.out]; rintro e w1 ⟨rfl, hk1⟩; have hB := (gbox_alloc w ⟨false, 1048575, b, c, z⟩ 24).kept ((Kept.alloc _ _ _ _ _).tr hk1); have c0 := hB.c0; have c1 := hB.c1; have c2 := hB.c2; have c3 := hB.c3; have c4 := hB.c4; have hlb := hB.lt; have hR := (gbox_alloc (w.alloc (.cells (gaC ⟨false, 1048575, b, c, z⟩) 24)) Ga.zero 24).kept hk1; simp only [World.size_alloc] at hR; have d0 := hR.c0; have d1 := hR.c1; have d2 := hR.c2; have d3 := hR.c3; have d4 := hR.c4; have e0 := hR.f0; have e1 := hR.f1; have e2 := hR.f2; have e3 := hR.f3; have e4 := hR.f4; have hlt := hR.lt))
  refine bodyPost_ret (v := .tuple #[gaV _, .int .i64 _]) (by simp [results, Try.results14, go_sem, *]; done) rfl ⟨rfl, ?_⟩
  have hK : Kept w w1 none := ((Kept.alloc _ _ _ _ _).tr (Kept.alloc _ _ _ _ _)).tr hk1
  have hlt2 : w.heap.size + 1 < w1.heap.size := hlt
  exact (by (repeat (first | (with_reducible refine Kept.setNew ?_ (by simp <;> omega) _) | (with_reducible refine Kept.tr ?_ (Kept.alloc _ _ _ _ _)) | (with_reducible exact hK))))
set_option maxHeartbeats 1000000 in
theorem rnext_nzz (u q : Bool) (a b c z : Int) (w : World) (hmay : mayG ⟨q, a, b, c, z⟩ = true) (i0 : 0 ≤ a) (i1 : a ≤ 1048576) (i2 : 0 ≤ b) (i3 : b ≤ 1048576) (i4 : 0 ≤ c) (i5 : c ≤ 1073741824) (h0 : 0 ≤ z) (h1 : z < 18446744073709551616) (hu : u = true) (hq : q = false) (hm : a = 1048575) (hk : c = 1073741823) : Calls Try.prog 14 #[gaV ⟨q, a, b, c, z⟩, .bool u] w fun e w' => e = .returned (.tuple #[gaV ⟨true, 1048576, 0, 1073741824, z * 2 % 18446744073709551616 + 1⟩, .int .i64 0]) ∧ Kept w w' none := by
  have HM := Hid.mk' hmay
  clear hmay
  have hz : IntKind.u64.wrap (z * 2) = z * 2 % 18446744073709551616 := IntKind.wrap_u64 _
  have hb0 : 0 ≤ z * 2 % 18446744073709551616 := by omega
  have hb1 : z * 2 % 18446744073709551616 + 1 ≤ 18446744073709551615 := by omega
  generalize z * 2 % 18446744073709551616 = Z at *
  subst hu hq
  subst hm
  subst hk
  go_enter Try.func14, Try.ntmps14
  go_wp2_with (first | (go_at_call 23; refine (rmay_any ⟨false, 1048575, b, 1073741823, z⟩ _ h0 h1).mono ?_; rw [HM.out]; rintro e w1 ⟨rfl, hk1⟩; have hB := (gbox_alloc w ⟨false, 1048575, b, 1073741823, z⟩ 24).kept ((Kept.alloc _ _ _ _ _).tr hk1); have c0 := hB.c0; have c1 := hB.c1; have c2 := hB.c2; have c3 := hB.c3; have c4 := hB.c4; have hlb := hB.lt; have hR := (gbox_alloc (w.alloc (.cells (gaC ⟨false, 1048575, b, 1073741823, z⟩) 24)) Ga.zero 24).kept hk1; simp only [World.size_alloc] at hR; have d0 := hR.c0; have d1 := hR.c1; have d2 := hR.c2; have d3 := hR.c3; have d4 := hR.c4; have e0 := hR.f0; have e1 := hR.f1; have e2 := hR.f2; have e3 := hR.f3; have e4 := hR.f4; have hlt := hR.lt))
  refine bodyPost_ret (v := .tuple #[gaV _, .int .i64 _]) (by simp [results, Try.results14, go_sem, *]; done) rfl ⟨rfl, ?_⟩
  have hK : Kept w w1 none := ((Kept.alloc _ _ _ _ _).tr (Kept.alloc _ _ _ _ _)).tr hk1
  have hlt2 : w.heap.size + 1 < w1.heap.size := hlt
  exact (by (repeat (first | (with_reducible refine Kept.setNew ?_ (by simp <;> omega) _) | (with_reducible refine Kept.tr ?_ (Kept.alloc _ _ _ _ _)) | (with_reducible exact hK))))
set_option maxHeartbeats 1000000 in
theorem rnext_nzx (u q : Bool) (a b c z : Int) (w : World) (hmay : mayG ⟨q, a, b, c, z⟩ = true) (i0 : 0 ≤ a) (i1 : a ≤ 1048576) (i2 : 0 ≤ b) (i3 : b ≤ 1048576) (i4 : 0 ≤ c) (i5 : c ≤ 1073741824) (h0 : 0 ≤ z) (h1 : z < 18446744073709551616) (hu : u = true) (hq : q = false) (hm : a = 1048575) (hk : c = 1073741824) : Calls Try.prog 14 #[gaV ⟨q, a, b, c, z⟩, .bool u] w fun e w' => e = .returned (.tuple #[gaV ⟨true, 1048576, 0, 1073741824, z * 2 % 18446744073709551616 + 1⟩, .int .i64 0]) ∧ Kept w w' none := by
  have HM := Hid.mk' hmay
  clear hmay
  have hz : IntKind.u64.wrap (z * 2) = z * 2 % 18446744073709551616 := IntKind.wrap_u64 _
  have hb0 : 0 ≤ z * 2 % 18446744073709551616 := by omega
  have hb1 : z * 2 % 18446744073709551616 + 1 ≤ 18446744073709551615 := by omega
  generalize z * 2 % 18446744073709551616 = Z at *
  subst hu hq
  subst hm
  subst hk
  go_enter Try.func14, Try.ntmps14
  go_wp2_with (first | (go_at_call 23; refine (rmay_any ⟨false, 1048575, b, 1073741824, z⟩ _ h0 h1).mono ?_; rw [HM.out]; rintro e w1 ⟨rfl, hk1⟩; have hB := (gbox_alloc w ⟨false, 1048575, b, 1073741824, z⟩ 24).kept ((Kept.alloc _ _ _ _ _).tr hk1); have c0 := hB.c0; have c1 := hB.c1; have c2 := hB.c2; have c3 := hB.c3; have c4 := hB.c4; have hlb := hB.lt; have hR := (gbox_alloc (w.alloc (.cells (gaC ⟨false, 1048575, b, 1073741824, z⟩) 24)) Ga.zero 24).kept hk1; simp only [World.size_alloc] at hR; have d0 := hR.c0; have d1 := hR.c1; have d2 := hR.c2; have d3 := hR.c3; have d4 := hR.c4; have e0 := hR.f0; have e1 := hR.f1; have e2 := hR.f2; have e3 := hR.f3; have e4 := hR.f4; have hlt := hR.lt))
  refine bodyPost_ret (v := .tuple #[gaV _, .int .i64 _]) (by simp [results, Try.results14, go_sem, *]; done) rfl ⟨rfl, ?_⟩
  have hK : Kept w w1 none := ((Kept.alloc _ _ _ _ _).tr (Kept.alloc _ _ _ _ _)).tr hk1
  have hlt2 : w.heap.size + 1 < w1.heap.size := hlt
  exact (by (repeat (first | (with_reducible refine Kept.setNew ?_ (by simp <;> omega) _) | (with_reducible refine Kept.tr ?_ (Kept.alloc _ _ _ _ _)) | (with_reducible exact hK))))
set_option maxHeartbeats 1000000 in
theorem rnext_nxy (u q : Bool) (a b c z : Int) (w : World) (hmay : mayG ⟨q, a, b, c, z⟩ = true) (i0 : 0 ≤ a) (i1 : a ≤ 1048576) (i2 : 0 ≤ b) (i3 : b ≤ 1048576) (i4 : 0 ≤ c) (i5 : c ≤ 1073741824) (h0 : 0 ≤ z) (h1 : z < 18446744073709551616) (hu : u = true) (hq : q = false) (hm : a = 1048576) (hk : c + 1 < 1073741824) : Calls Try.prog 14 #[gaV ⟨q, a, b, c, z⟩, .bool u] w fun e w' => e = .returned (.tuple #[gaV ⟨true, 1048576, 0, c + 1, z * 2 % 18446744073709551616 + 1⟩, .int .i64 0]) ∧ Kept w w' none := by
  have HM := Hid.mk' hmay
  clear hmay
  have hz : IntKind.u64.wrap (z * 2) = z * 2 % 18446744073709551616 := IntKind.wrap_u64 _
  have hb0 : 0 ≤ z * 2 % 18446744073709551616 := by omega
  have hb1 : z * 2 % 18446744073709551616 + 1 ≤ 18446744073709551615 := by omega
  generalize z * 2 % 18446744073709551616 = Z at *
  subst hu hq
  subst hm
  go_enter Try.func14, Try.ntmps14
  go_wp2_with (first | (go_at_call 23; refine (rmay_any ⟨false, 1048576, b, c, z⟩ _ h0 h1).mono ?_; rw [HM.out]; rintro e w1 ⟨rfl, hk1⟩; have hB := (gbox_alloc w ⟨false, 1048576, b, c, z⟩ 24).kept ((Kept.alloc _ _ _ _ _).tr hk1); have c0 := hB.c0; have c1 := hB.c1; have c2 := hB.c2; have c3 := hB.c3; have c4 := hB.c4; have hlb := hB.lt; have hR := (gbox_alloc (w.alloc (.cells (gaC ⟨false, 1048576, b, c, z⟩) 24)) Ga.zero 24).kept hk1; simp only [World.size_alloc] at hR; have d0 := hR.c0; have d1 := hR.c1; have d2 := hR.c2; have d3 := hR.c3; have d4 := hR.c4; have e0 := hR.f0; have e1 := hR.f1; have e2 := hR.f2; have e3 := hR.f3; have e4 := hR.f4; have hlt := hR.lt))
  refine bodyPost_ret (v := .tuple #[gaV _, .int .i64 _]) (by simp [results, Try.results14, go_sem, *]; done) rfl ⟨rfl, ?_⟩
  have hK : Kept w w1 none := ((Kept.alloc _ _ _ _ _).tr (Kept.alloc _ _ _ _ _)).tr hk1
  have hlt2 : w.heap.size + 1 < w1.heap.size := hlt
  exact (by (repeat (first | (with_reducible refine Kept.setNew ?_ (by simp <;> omega) _) | (with_reducible refine Kept.tr ?_ (Kept.alloc _ _ _ _ _)) | (with_reducible exact hK))))
set_option maxHeartbeats 1000000 in
theorem rnext_nxz (u q : Bool) (a b c z : Int) (w : World) (hmay : mayG ⟨q, a, b, c, z⟩ = true) (i0 : 0 ≤ a) (i1 : a ≤ 1048576) (i2 : 0 ≤ b) (i3 : b ≤ 1048576) (i4 : 0 ≤ c) (i5 : c ≤ 1073741824) (h0 : 0 ≤ z) (h1 : z < 18446744073709551616) (hu : u = true) (hq : q = false) (hm : a = 1048576) (hk : c = 1073741823) : Calls Try.prog 14 #[gaV ⟨q, a, b, c, z⟩, .bool u] w fun e w' => e = .returned (.tuple #[gaV ⟨true, 1048576, 0, 1073741824, z * 2 % 18446744073709551616 + 1⟩, .int .i64 0]) ∧ Kept w w' none := by
  have HM := Hid.mk' hmay
  clear hmay
  have hz : IntKind.u64.wrap (z * 2) = z * 2 % 18446744073709551616 := IntKind.wrap_u64 _
  have hb0 : 0 ≤ z * 2 % 18446744073709551616 := by omega
  have hb1 : z * 2 % 18446744073709551616 + 1 ≤ 18446744073709551615 := by omega
  generalize z * 2 % 18446744073709551616 = Z at *
  subst hu hq
  subst hm
  subst hk
  go_enter Try.func14, Try.ntmps14
  go_wp2_with (first | (go_at_call 23; refine (rmay_any ⟨false, 1048576, b, 1073741823, z⟩ _ h0 h1).mono ?_; rw [HM.out]; rintro e w1 ⟨rfl, hk1⟩; have hB := (gbox_alloc w ⟨false, 1048576, b, 1073741823, z⟩ 24).kept ((Kept.alloc _ _ _ _ _).tr hk1); have c0 := hB.c0; have c1 := hB.c1; have c2 := hB.c2; have c3 := hB.c3; have c4 := hB.c4; have hlb := hB.lt; have hR := (gbox_alloc (w.alloc (.cells (gaC ⟨false, 1048576, b, 1073741823, z⟩) 24)) Ga.zero 24).kept hk1; simp only [World.size_alloc] at hR; have d0 := hR.c0; have d1 := hR.c1; have d2 := hR.c2; have d3 := hR.c3; have d4 := hR.c4; have e0 := hR.f0; have e1 := hR.f1; have e2 := hR.f2; have e3 := hR.f3; have e4 := hR.f4; have hlt := hR.lt))
  refine bodyPost_ret (v := .tuple #[gaV _, .int .i64 _]) (by simp [results, Try.results14, go_sem, *]; done) rfl ⟨rfl, ?_⟩
  have hK : Kept w w1 none := ((Kept.alloc _ _ _ _ _).tr (Kept.alloc _ _ _ _ _)).tr hk1
  have hlt2 : w.heap.size + 1 < w1.heap.size := hlt
  exact (by (repeat (first | (with_reducible refine Kept.setNew ?_ (by simp <;> omega) _) | (with_reducible refine Kept.tr ?_ (Kept.alloc _ _ _ _ _)) | (with_reducible exact hK))))
set_option maxHeartbeats 1000000 in
theorem rnext_nxx (u q : Bool) (a b c z : Int) (w : World) (hmay : mayG ⟨q, a, b, c, z⟩ = true) (i0 : 0 ≤ a) (i1 : a ≤ 1048576) (i2 : 0 ≤ b) (i3 : b ≤ 1048576) (i4 : 0 ≤ c) (i5 : c ≤ 1073741824) (h0 : 0 ≤ z) (h1 : z < 18446744073709551616) (hu : u = true) (hq : q = false) (hm : a = 1048576) (hk : c = 1073741824) : Calls Try.prog 14 #[gaV ⟨q, a, b, c, z⟩, .bool u] w fun e w' => e = .returned (.tuple #[gaV ⟨true, 1048576, 0, 1073741824, z * 2 % 18446744073709551616 + 1⟩, .int .i64 0]) ∧ Kept w w' none := by
  have HM := Hid.mk' hmay
  clear hmay
  have hz : IntKind.u64.wrap (z * 2) = z * 2 % 18446744073709551616 := IntKind.wrap_u64 _
  have hb0 : 0 ≤ z * 2 % 18446744073709551616 := by omega
  have hb1 : z * 2 % 18446744073709551616 + 1 ≤ 18446744073709551615 := by omega
  generalize z * 2 % 18446744073709551616 = Z at *
  subst hu hq
  subst hm
  subst hk
  go_enter Try.func14, Try.ntmps14
  go_wp2_with (first | (go_at_call 23; refine (rmay_any ⟨false, 1048576, b, 1073741824, z⟩ _ h0 h1).mono ?_; rw [HM.out]; rintro e w1 ⟨rfl, hk1⟩; have hB := (gbox_alloc w ⟨false, 1048576, b, 1073741824, z⟩ 24).kept ((Kept.alloc _ _ _ _ _).tr hk1); have c0 := hB.c0; have c1 := hB.c1; have c2 := hB.c2; have c3 := hB.c3; have c4 := hB.c4; have hlb := hB.lt; have hR := (gbox_alloc (w.alloc (.cells (gaC ⟨false, 1048576, b, 1073741824, z⟩) 24)) Ga.zero 24).kept hk1; simp only [World.size_alloc] at hR; have d0 := hR.c0; have d1 := hR.c1; have d2 := hR.c2; have d3 := hR.c3; have d4 := hR.c4; have e0 := hR.f0; have e1 := hR.f1; have e2 := hR.f2; have e3 := hR.f3; have e4 := hR.f4; have hlt := hR.lt))
  refine bodyPost_ret (v := .tuple #[gaV _, .int .i64 _]) (by simp [results, Try.results14, go_sem, *]; done) rfl ⟨rfl, ?_⟩
  have hK : Kept w w1 none := ((Kept.alloc _ _ _ _ _).tr (Kept.alloc _ _ _ _ _)).tr hk1
  have hlt2 : w.heap.size + 1 < w1.heap.size := hlt
  exact (by (repeat (first | (with_reducible refine Kept.setNew ?_ (by simp <;> omega) _) | (with_reducible refine Kept.tr ?_ (Kept.alloc _ _ _ _ _)) | (with_reducible exact hK))))
theorem rnext_ok (g : Ga) (u : Bool) (w : World) (hg : mayG g = true) (h0 : 0 ≤ g.last) (h1 : g.last < 18446744073709551616) : Calls Try.prog 14 #[gaV g, .bool u] w fun e w' => e = .returned (.tuple #[gaV (stepG g u), .int .i64 0]) ∧ Kept w w' none := by
  obtain ⟨i0, i1, i2, i3, i4, i5, _, _, _⟩ := may_iff.1 hg
  obtain ⟨q, a, b, c, z⟩ := g
  dsimp only at *
  unfold stepG lasG
  dsimp only
  cases hu : u
  · rw [← hu, if_neg (by rw [hu]; decide), if_neg (by rw [hu]; decide), if_neg (by rw [hu]; simp), if_neg (by rw [hu]; decide), hu]
    unfold incG
    by_cases hm : b + 1 < 1048576
    · rw [if_pos hm]; exact rnext_dy _ q a b c z w hg i0 i1 i2 i3 i4 i5 h0 h1 rfl hm
    · rw [if_neg hm]
      by_cases hk : b = 1048575
      · exact rnext_dz _ q a b c z w hg i0 i1 i2 i3 i4 i5 h0 h1 rfl hk
      · exact rnext_dx _ q a b c z w hg i0 i1 i2 i3 i4 i5 h0 h1 rfl (by omega)
  · rw [if_pos rfl, if_pos rfl, if_pos rfl]
    cases hq : q <;> rw [hq] at hg
    · rw [if_pos ⟨rfl, rfl⟩]
      unfold incG
      by_cases hm : a + 1 < 1048576
      · rw [if_pos hm]
        by_cases hn : c + 1 < 1073741824
        · rw [if_pos hn]; exact rnext_nyy _ _ a b c z w hg i0 i1 i2 i3 i4 i5 h0 h1 rfl rfl hm hn
        · rw [if_neg hn]
          by_cases hl : c = 1073741823
          · exact rnext_nyz _ _ a b c z w hg i0 i1 i2 i3 i4 i5 h0 h1 rfl rfl hm hl
          · exact rnext_nyx _ _ a b c z w hg i0 i1 i2 i3 i4 i5 h0 h1 rfl rfl hm (by omega)
      · rw [if_neg hm]
        by_cases hk : a = 1048575
        · by_cases hn : c + 1 < 1073741824
          · rw [if_pos hn]; exact rnext_nzy _ _ a b c z w hg i0 i1 i2 i3 i4 i5 h0 h1 rfl rfl hk hn
          · rw [if_neg hn]
            by_cases hl : c = 1073741823
            · exact rnext_nzz _ _ a b c z w hg i0 i1 i2 i3 i4 i5 h0 h1 rfl rfl hk hl
            · exact rnext_nzx _ _ a b c z w hg i0 i1 i2 i3 i4 i5 h0 h1 rfl rfl hk (by omega)
        · have hk : a = 1048576 := by omega
          by_cases hn : c + 1 < 1073741824
          · rw [if_pos hn]; exact rnext_nxy _ _ a b c z w hg i0 i1 i2 i3 i4 i5 h0 h1 rfl rfl hk hn
          · rw [if_neg hn]
            by_cases hl : c = 1073741823
            · exact rnext_nxz _ _ a b c z w hg i0 i1 i2 i3 i4 i5 h0 h1 rfl rfl hk hl
            · exact rnext_nxx _ _ a b c z w hg i0 i1 i2 i3 i4 i5 h0 h1 rfl rfl hk (by omega)
    · rw [if_neg (by simp)]
      unfold incG
      by_cases hm : a + 1 < 1048576
      · rw [if_pos hm]; exact rnext_uy _ _ a b c z w hg i0 i1 i2 i3 i4 i5 h0 h1 rfl rfl hm
      · rw [if_neg hm]
        by_cases hk : a = 1048575
        · exact rnext_uz _ _ a b c z w hg i0 i1 i2 i3 i4 i5 h0 h1 rfl rfl hk
        · exact rnext_ux _ _ a b c z w hg i0 i1 i2 i3 i4 i5 h0 h1 rfl rfl (by omega)
theorem rnext_any (g : Ga) (u : Bool) (w : World) (h0 : 0 ≤ g.last) (h1 : g.last < 18446744073709551616) : Calls Try.prog 14 #[gaV g, .bool u] w fun e w' => e = .returned (.tuple #[gaV (nxG g u), .int .i64 (nxE g)]) ∧ Kept w w' none := by
  unfold nxG nxE
  cases hm : mayG g
  · obtain ⟨q, a, b, c, z⟩ := g
    exact rnext_bad q a b c z u w hm h0 h1
  · exact rnext_ok g u w hm h0 h1
set_option maxHeartbeats 1000000 in
theorem rshare_bad (q : Bool) (a b c z n : Int) (w : World) (hm : mayG ⟨q, a, b, c, z⟩ = false) (h0 : 0 ≤ z) (h1 : z < 18446744073709551616) : Calls Try.prog 15 #[gaV ⟨q, a, b, c, z⟩, .int .i64 n] w fun e w' => e = .returned (.tuple #[.int .i64 0, .int .i64 8]) ∧ Kept w w' none := by
  have HM := Hid.mk' hm
  clear hm
  go_enter Try.func15, Try.ntmps15
  go_wp2_with (first | (go_at_call 23; refine (rmay_any ⟨q, a, b, c, z⟩ _ h0 h1).mono ?_; rw [HM.out]; rintro e w1 ⟨rfl, hk1⟩; have hB := (gbox_alloc w ⟨q, a, b, c, z⟩ 24).kept hk1; have c0 := hB.c0; have c1 := hB.c1; have c2 := hB.c2; have c3 := hB.c3; have c4 := hB.c4;))
  go_ret2
  exact ⟨rfl, (Kept.alloc _ _ _ _ _).tr hk1⟩
set_option maxHeartbeats 1000000 in
theorem rshare_lo (q : Bool) (a b c z n : Int) (w : World) (hm : mayG ⟨q, a, b, c, z⟩ = true) (hn : n < 1) (h0 : 0 ≤ z) (h1 : z < 18446744073709551616) : Calls Try.prog 15 #[gaV ⟨q, a, b, c, z⟩, .int .i64 n] w fun e w' => e = .returned (.tuple #[.int .i64 0, .int .i64 2]) ∧ Kept w w' none := by
  have HM := Hid.mk' hm
  clear hm
  go_enter Try.func15, Try.ntmps15
  go_wp2_with (first | (go_at_call 23; refine (rmay_any ⟨q, a, b, c, z⟩ _ h0 h1).mono ?_; rw [HM.out]; rintro e w1 ⟨rfl, hk1⟩; have hB := (gbox_alloc w ⟨q, a, b, c, z⟩ 24).kept hk1; have c0 := hB.c0; have c1 := hB.c1; have c2 := hB.c2; have c3 := hB.c3; have c4 := hB.c4;))
  go_ret2
  exact ⟨rfl, (Kept.alloc _ _ _ _ _).tr hk1⟩
set_option maxHeartbeats 1000000 in
theorem rshare_hi (q : Bool) (a b c z n : Int) (w : World) (hm : mayG ⟨q, a, b, c, z⟩ = true) (hl : ¬ n < 1) (hn : 64 < n) (h0 : 0 ≤ z) (h1 : z < 18446744073709551616) : Calls Try.prog 15 #[gaV ⟨q, a, b, c, z⟩, .int .i64 n] w fun e w' => e = .returned (.tuple #[.int .i64 0, .int .i64 2]) ∧ Kept w w' none := by
  have HM := Hid.mk' hm
  clear hm
  go_enter Try.func15, Try.ntmps15
  go_wp2_with (first | (go_at_call 23; refine (rmay_any ⟨q, a, b, c, z⟩ _ h0 h1).mono ?_; rw [HM.out]; rintro e w1 ⟨rfl, hk1⟩; have hB := (gbox_alloc w ⟨q, a, b, c, z⟩ 24).kept hk1; have c0 := hB.c0; have c1 := hB.c1; have c2 := hB.c2; have c3 := hB.c3; have c4 := hB.c4;))
  go_ret2
  exact ⟨rfl, (Kept.alloc _ _ _ _ _).tr hk1⟩
set_option maxHeartbeats 1000000 in
theorem rpast_bad (q : Bool) (a b c z n : Int) (w : World) (hm : mayG ⟨q, a, b, c, z⟩ = false) (h0 : 0 ≤ z) (h1 : z < 18446744073709551616) : Calls Try.prog 16 #[gaV ⟨q, a, b, c, z⟩, .int .i64 n] w fun e w' => e = .returned (.tuple #[.bool false, .int .i64 8]) ∧ Kept w w' none := by
  have HM := Hid.mk' hm
  clear hm
  go_enter Try.func16, Try.ntmps16
  go_wp2_with (first | (go_at_call 23; refine (rmay_any ⟨q, a, b, c, z⟩ _ h0 h1).mono ?_; rw [HM.out]; rintro e w1 ⟨rfl, hk1⟩; have hB := (gbox_alloc w ⟨q, a, b, c, z⟩ 24).kept hk1; have c0 := hB.c0; have c1 := hB.c1; have c2 := hB.c2; have c3 := hB.c3; have c4 := hB.c4;))
  go_ret2
  exact ⟨rfl, (Kept.alloc _ _ _ _ _).tr hk1⟩
set_option maxHeartbeats 1000000 in
theorem rpast_lo (q : Bool) (a b c z n : Int) (w : World) (hm : mayG ⟨q, a, b, c, z⟩ = true) (hn : n < 0) (h0 : 0 ≤ z) (h1 : z < 18446744073709551616) : Calls Try.prog 16 #[gaV ⟨q, a, b, c, z⟩, .int .i64 n] w fun e w' => e = .returned (.tuple #[.bool false, .int .i64 2]) ∧ Kept w w' none := by
  have HM := Hid.mk' hm
  clear hm
  go_enter Try.func16, Try.ntmps16
  go_wp2_with (first | (go_at_call 23; refine (rmay_any ⟨q, a, b, c, z⟩ _ h0 h1).mono ?_; rw [HM.out]; rintro e w1 ⟨rfl, hk1⟩; have hB := (gbox_alloc w ⟨q, a, b, c, z⟩ 24).kept hk1; have c0 := hB.c0; have c1 := hB.c1; have c2 := hB.c2; have c3 := hB.c3; have c4 := hB.c4;))
  go_ret2
  exact ⟨rfl, (Kept.alloc _ _ _ _ _).tr hk1⟩
set_option maxHeartbeats 1000000 in
theorem rpast_hi (q : Bool) (a b c z n : Int) (w : World) (hm : mayG ⟨q, a, b, c, z⟩ = true) (hl : ¬ n < 0) (hn : 1048576 < n) (h0 : 0 ≤ z) (h1 : z < 18446744073709551616) : Calls Try.prog 16 #[gaV ⟨q, a, b, c, z⟩, .int .i64 n] w fun e w' => e = .returned (.tuple #[.bool false, .int .i64 2]) ∧ Kept w w' none := by
  have HM := Hid.mk' hm
  clear hm
  go_enter Try.func16, Try.ntmps16
  go_wp2_with (first | (go_at_call 23; refine (rmay_any ⟨q, a, b, c, z⟩ _ h0 h1).mono ?_; rw [HM.out]; rintro e w1 ⟨rfl, hk1⟩; have hB := (gbox_alloc w ⟨q, a, b, c, z⟩ 24).kept hk1; have c0 := hB.c0; have c1 := hB.c1; have c2 := hB.c2; have c3 := hB.c3; have c4 := hB.c4;))
  go_ret2
  exact ⟨rfl, (Kept.alloc _ _ _ _ _).tr hk1⟩
set_option maxHeartbeats 1000000 in
theorem rpast_t (q : Bool) (a b c z n : Int) (w : World) (hm : mayG ⟨q, a, b, c, z⟩ = true) (hl : ¬ n < 0) (hu : ¬ 1048576 < n) (hq : q = true) (h0 : 0 ≤ z) (h1 : z < 18446744073709551616) : Calls Try.prog 16 #[gaV ⟨q, a, b, c, z⟩, .int .i64 n] w fun e w' => e = .returned (.tuple #[.bool false, .int .i64 0]) ∧ Kept w w' none := by
  subst hq
  have HM := Hid.mk' hm
  clear hm
  go_enter Try.func16, Try.ntmps16
  go_wp2_with (first | (go_at_call 23; refine (rmay_any ⟨true, a, b, c, z⟩ _ h0 h1).mono ?_; rw [HM.out]; rintro e w1 ⟨rfl, hk1⟩; have hB := (gbox_alloc w ⟨true, a, b, c, z⟩ 24).kept hk1; have c0 := hB.c0; have c1 := hB.c1; have c2 := hB.c2; have c3 := hB.c3; have c4 := hB.c4;))
  go_ret2
  exact ⟨rfl, (Kept.alloc _ _ _ _ _).tr hk1⟩
set_option maxHeartbeats 1000000 in
theorem rpast_y (q : Bool) (a b c z n : Int) (w : World) (hm : mayG ⟨q, a, b, c, z⟩ = true) (hl : ¬ n < 0) (hu : ¬ 1048576 < n) (hq : q = false) (hn : n ≤ b) (h0 : 0 ≤ z) (h1 : z < 18446744073709551616) : Calls Try.prog 16 #[gaV ⟨q, a, b, c, z⟩, .int .i64 n] w fun e w' => e = .returned (.tuple #[.bool true, .int .i64 0]) ∧ Kept w w' none := by
  subst hq
  have HM := Hid.mk' hm
  clear hm
  go_enter Try.func16, Try.ntmps16
  go_wp2_with (first | (go_at_call 23; refine (rmay_any ⟨false, a, b, c, z⟩ _ h0 h1).mono ?_; rw [HM.out]; rintro e w1 ⟨rfl, hk1⟩; have hB := (gbox_alloc w ⟨false, a, b, c, z⟩ 24).kept hk1; have c0 := hB.c0; have c1 := hB.c1; have c2 := hB.c2; have c3 := hB.c3; have c4 := hB.c4;))
  go_ret2
  exact ⟨by simp [hn], (Kept.alloc _ _ _ _ _).tr hk1⟩
set_option maxHeartbeats 1000000 in
theorem rpast_n (q : Bool) (a b c z n : Int) (w : World) (hm : mayG ⟨q, a, b, c, z⟩ = true) (hl : ¬ n < 0) (hu : ¬ 1048576 < n) (hq : q = false) (hn : ¬ n ≤ b) (h0 : 0 ≤ z) (h1 : z < 18446744073709551616) : Calls Try.prog 16 #[gaV ⟨q, a, b, c, z⟩, .int .i64 n] w fun e w' => e = .returned (.tuple #[.bool false, .int .i64 0]) ∧ Kept w w' none := by
  subst hq
  have HM := Hid.mk' hm
  clear hm
  go_enter Try.func16, Try.ntmps16
  go_wp2_with (first | (go_at_call 23; refine (rmay_any ⟨false, a, b, c, z⟩ _ h0 h1).mono ?_; rw [HM.out]; rintro e w1 ⟨rfl, hk1⟩; have hB := (gbox_alloc w ⟨false, a, b, c, z⟩ 24).kept hk1; have c0 := hB.c0; have c1 := hB.c1; have c2 := hB.c2; have c3 := hB.c3; have c4 := hB.c4;))
  go_ret2
  exact ⟨by simp [hn], (Kept.alloc _ _ _ _ _).tr hk1⟩
theorem rpast_any (g : Ga) (n : Int) (w : World) (h0 : 0 ≤ g.last) (h1 : g.last < 18446744073709551616) : Calls Try.prog 16 #[gaV g, .int .i64 n] w fun e w' => e = .returned (.tuple #[.bool (paB g n), .int .i64 (paE g n)]) ∧ Kept w w' none := by
  obtain ⟨q, a, b, c, z⟩ := g
  unfold paB paE
  dsimp only
  cases hm : mayG ⟨q, a, b, c, z⟩
  · exact rpast_bad q a b c z n w hm h0 h1
  · by_cases hl : n < 0
    · rw [show wiB n 0 1048576 = false from decide_eq_false (by omega)]
      exact rpast_lo q a b c z n w hm hl h0 h1
    by_cases hu : 1048576 < n
    · rw [show wiB n 0 1048576 = false from decide_eq_false (by omega)]
      exact rpast_hi q a b c z n w hm hl hu h0 h1
    rw [show wiB n 0 1048576 = true from decide_eq_true (by omega)]
    cases hq : q
    · by_cases hn : n ≤ b
      · rw [hq] at hm
        rw [decide_eq_true hn]
        exact rpast_y false a b c z n w hm hl hu rfl hn h0 h1
      · rw [hq] at hm
        rw [decide_eq_false hn]
        exact rpast_n false a b c z n w hm hl hu rfl hn h0 h1
    · rw [hq] at hm
      exact rpast_t true a b c z n w hm hl hu rfl h0 h1
/-- The bits from the i-th on. -/
def lasI (z : Int) (i : Nat) : Int := ((z.toNat / 2 ^ i : Nat) : Int)
theorem lasI_zero {z : Int} (h : 0 ≤ z) : lasI z 0 = z := by unfold lasI; rw [Nat.pow_zero, Nat.div_one]; omega
theorem lasI_succ (z : Int) (i : Nat) : lasI z (i + 1) = lasI z i / 2 := by unfold lasI; rw [Nat.pow_succ, ← Nat.div_div_eq_div_mul]; omega
theorem lasI_bd {z : Int} (h : 0 ≤ z) (h1 : z < 18446744073709551616) (i : Nat) : 0 ≤ lasI z i ∧ lasI z i < 18446744073709551616 := by
  unfold lasI
  have : z.toNat / 2 ^ i ≤ z.toNat := Nat.div_le_self _ _
  generalize z.toNat / 2 ^ i = k at *
  omega
theorem stand_succ (z : Int) (i : Nat) : stand z ((i + 1 : Nat) : Int) = stand z (i : Int) + lasI z i % 2 := by
  unfold stand lasI
  have e1 : ((i + 1 : Nat) : Int).toNat = i + 1 := by omega
  have e2 : ((i : Nat) : Int).toNat = i := by omega
  rw [e1, e2, cnt_split]
  have := cnt_half (z.toNat / 2 ^ i) 0
  have e3 : cnt (z.toNat / 2 ^ i / 2) 0 = 0 := rfl
  rw [e3] at this
  rw [this]
  omega
set_option maxHeartbeats 2000000 in
theorem rshare_ok (q : Bool) (a b c z : Int) (m : Nat) (w : World) (hm : mayG ⟨q, a, b, c, z⟩ = true) (n0 : 1 ≤ m) (n1 : m ≤ 64) (h0 : 0 ≤ z) (h1 : z < 18446744073709551616) : Calls Try.prog 15 #[gaV ⟨q, a, b, c, z⟩, .int .i64 (m : Int)] w fun e w' => e = .returned (.tuple #[.int .i64 (fDiv (fOf (stand z m)) (fOf m)), .int .i64 0]) ∧ Kept w w' none := by
  have HM := Hid.mk' hm
  clear hm
  have HD := Hid.mk' (fOf_ne (n := (m : Int)) (by omega))
  go_enter Try.func15, Try.ntmps15
  go_wp2_with (first | (go_at_call 23; refine (rmay_any ⟨q, a, b, c, z⟩ _ h0 h1).mono ?_; rw [HM.out]; rintro e w1 ⟨rfl, hk1⟩; have hB := (gbox_alloc w ⟨q, a, b, c, z⟩ 24).kept hk1; have c0 := hB.c0; have c1 := hB.c1; have c2 := hB.c2; have c3 := hB.c3; have c4 := hB.c4;))
  have HK := Hid.mk' ((Kept.alloc w (gaC ⟨q, a, b, c, z⟩) 24 (0, 0) none).tr hk1)
  clear hk1
  go_loopw [6, 7, 8] (fun nv lv iv wr => ∃ (i : Nat), nv = .int .i64 (stand z i) ∧ lv = .int .u64 (lasI z i) ∧ iv = .int .i64 i ∧ i ≤ m ∧ wr = w1) (fun _ _ iv _ => m - (intOf iv).toNat)
  case atStart => exact ⟨0, by rfl, by rw [lasI_zero h0], rfl, by omega, rfl⟩
  case round =>
    obtain ⟨i, rfl, rfl, rfl, him, rfl⟩ := hrel
    have t := stand_bd z i
    have l := lasI_bd h0 h1 i
    have s1 := stand_succ z i
    have s2 := lasI_succ z i
    obtain ⟨t0, t1⟩ := t
    obtain ⟨l0, l1⟩ := l
    have hb : stand z i ≤ 64 := by omega
    have S1 := Hid.mk' s1
    have S2 := Hid.mk' s2
    clear s1 s2
    by_cases hlt : i < m
    · by_cases ho : lasI z i % 2 = 1
      · go_wp2
        go_roundw
        case rel => exact ⟨i + 1, by rw [S1.out, ho], by rw [S2.out], by go_num, by omega, by first | trivial | rfl⟩
        case measure => simp [intOf]; omega
      · have ho0 : lasI z i % 2 = 0 := by omega
        go_wp2
        go_roundw
        case rel => exact ⟨i + 1, by rw [S1.out, ho0, Int.add_zero], by rw [S2.out], by go_num, by omega, by first | trivial | rfl⟩
        case measure => simp [intOf]; omega
    · have him' : i = m := by omega
      subst him'
      go_wp2_with (first | (go_at_call 24; refine (rdiv_any _ _ _ HD.out).mono ?_; rintro e w2 ⟨rfl, rfl⟩) | (go_at_call 25; have hgo := HH; clear hgo; refine (rof_any (i : Int) _).mono ?_; rintro e w2 ⟨rfl, rfl⟩) | (go_at_call 25; refine (rof_any (stand z i) _).mono ?_; rintro e w2 ⟨rfl, rfl⟩; have HH := Hid.mk' trivial))
      go_ret2
      exact ⟨rfl, HK.out⟩
theorem rshare_any (g : Ga) (n : Int) (w : World) (h0 : 0 ≤ g.last) (h1 : g.last < 18446744073709551616) : Calls Try.prog 15 #[gaV g, .int .i64 n] w fun e w' => e = .returned (.tuple #[.int .i64 (shV g n), .int .i64 (shE g n)]) ∧ Kept w w' none := by
  obtain ⟨q, a, b, c, z⟩ := g
  unfold shV shE
  cases hm : mayG ⟨q, a, b, c, z⟩
  · exact rshare_bad q a b c z n w hm h0 h1
  · by_cases hl : n < 1
    · rw [show wiB n 1 64 = false from decide_eq_false (by omega)]
      exact rshare_lo q a b c z n w hm hl h0 h1
    by_cases hu : 64 < n
    · rw [show wiB n 1 64 = false from decide_eq_false (by omega)]
      exact rshare_hi q a b c z n w hm hl hu h0 h1
    rw [show wiB n 1 64 = true from decide_eq_true (by omega)]
    obtain ⟨m, rfl⟩ : ∃ m : Nat, n = m := ⟨n.toNat, by omega⟩
    exact rshare_ok q a b c z m w hm (by omega) (by omega) h0 h1

end Go.Proofs.Ytcckpdgknjjjmaa
