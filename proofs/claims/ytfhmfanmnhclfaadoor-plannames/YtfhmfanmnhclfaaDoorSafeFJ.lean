/-
  Texts joined: some of those that the proofs of this seat stand on.
-/
import Derived.Test.YtfhmfanmnhclfaaDoorSafeCJ
import Derived.Laws.CopyOwn
import Derived.Laws.MakeOwn
/-
  THE CONTRACTS of Greatest, First, copied, mayBe.
-/
namespace Go.Proofs.YtfhmfanmnhclfaaDoor
open Go.RowKit Go.Lib Go.Deep
set_option linter.unusedVariables false
set_option linter.unusedSimpArgs false

theorem worst_rng {S : St} (h : siteB S = true) : 0 ≤ worstM S ∧ worstM S ≤ 1048576 := by
  have hb := (span_may h).base
  have h1 := mostL_is S.between.flatten
  refine ⟨h1.1, h1.le (by omega) (fun x hx => ?_)⟩
  obtain ⟨l, hl, hx⟩ := List.mem_flatten.1 hx
  obtain ⟨a, ha, rfl⟩ := List.getElem_of_mem hl
  obtain ⟨b, hb2, rfl⟩ := List.getElem_of_mem hx
  have hnb := hb.sh.ok.nb
  have hr := hb.sh.row a (by omega)
  have e : S.between.getD a [] = S.between[a] := by simp [ha]
  rw [e] at hr
  have := hb.bt a b (by omega) (by omega)
  unfold St.bt at this
  rw [e] at this
  simpa [hb2] using this
theorem great_yes {X : Sa} {S : St} {w : World} (h : Sat w X S) (hT : Tabb w) (hs : siteB S = true) : Calls Tryd.prog 43 #[siteV X S] w fun e w' => e = .returned (.tuple #[.int .i64 (worstM S), .int .i64 0]) ∧ Kept w w' none := by
  have hkA : Kept w (w.alloc (.cells #[.int .i64 S.id, .slice X.g S.groups.length X.gc, .slice X.a S.apart.length X.ac, .slice X.b S.between.length X.bc, .slice X.p S.phases.length X.pc, .slice X.e S.eyes.length X.ec, .int .i64 S.watch, .int .i64 S.feed, .int .i64 S.heal, .int .i64 S.low, .int .i64 S.high, .slice X.l S.plans.length X.lc] 35)) none := Kept.alloc _ _ _ _ _
  have HK := Hid.mk' hkA
  have HS := Hid.mk' (h.kept hkA)
  have HT := Hid.mk' (hT.kept hkA)
  clear h hT hkA
  go_enter Tryd.func43, Tryd.ntmps43
  go_wp2_with (go_at_call 78; refine (worst_yes HS.out HT.out hs).mono ?_; rintro e w2 ⟨rfl, hk2⟩)
  go_ret2
  exact ⟨rfl, HK.out.tr hk2⟩
theorem great_no {X : Sa} {S : St} {w : World} (h : Sat w X S) (hT : Tabb w) (hs : siteB S = false) : Calls Tryd.prog 43 #[siteV X S] w fun e w' => e = .returned (.tuple #[.int .i64 0, .int .i64 50]) ∧ Kept w w' none := by
  have hkA : Kept w (w.alloc (.cells #[.int .i64 S.id, .slice X.g S.groups.length X.gc, .slice X.a S.apart.length X.ac, .slice X.b S.between.length X.bc, .slice X.p S.phases.length X.pc, .slice X.e S.eyes.length X.ec, .int .i64 S.watch, .int .i64 S.feed, .int .i64 S.heal, .int .i64 S.low, .int .i64 S.high, .slice X.l S.plans.length X.lc] 35)) none := Kept.alloc _ _ _ _ _
  have HK := Hid.mk' hkA
  have HS := Hid.mk' (h.kept hkA)
  have HT := Hid.mk' (hT.kept hkA)
  clear h hT hkA
  go_enter Tryd.func43, Tryd.ntmps43
  go_wp2_with (go_at_call 78; refine (worst_no HS.out HT.out hs).mono ?_; rintro e w2 ⟨rfl, hk2⟩)
  go_ret2
  exact ⟨rfl, HK.out.tr hk2⟩

/-! ### make of standings -/
theorem Tryd.infoSeen : (Tryd.prog.info? 95).map (fun i => (i.zero, i.size, i.bytes)) = some (some (.agg #[.int .u8 0, .int .i64 0, .int .i64 0]), 3, 24) := by kernel_rfl
theorem make_seen (n : Nat) (hn : n ≤ 100) (w : World) : (Instr.makeSlice 59 (.int .i64 (n : Int)) (.int .i64 (n : Int))).run Tryd.prog w = .ok (.slice (some ⟨w.heap.size, 0, none⟩) n n) (w.alloc (.cells (madeCells #[.int .u8 0, .int .i64 0, .int .i64 0] (n * 3)) 95)) := by
  obtain ⟨i, hi, hzz⟩ := Option.map_eq_some_iff.1 Tryd.infoSeen
  simp only [Prod.mk.injEq] at hzz
  obtain ⟨hz, hs, hb⟩ := hzz
  have hr := run_make (P := Tryd.prog) w 59 95 i _ Tryd.underlying59 hi hz .i64 .i64 n n (by omega) (Int.le_refl _) (by rw [hb]; omega) (by omega)
  simp only [Int.toNat_natCast, hs, Value.cells] at hr
  exact hr
theorem own_made (w : World) (n : Nat) : OwnG (w.alloc (.cells (madeCells #[.int .u8 0, .int .i64 0, .int .i64 0] (n * 3)) 95)) w.heap.size n (fun _ => n0) := by
  refine ⟨_, blk_alloc_new _ _, size_madeCells _ _, fun i hi => ?_⟩
  unfold gcell
  have h3 : i % 3 < 3 := Nat.mod_lt _ (by omega)
  rcases (show i % 3 = 0 ∨ i % 3 = 1 ∨ i % 3 = 2 by omega) with e | e | e <;> simp [madeCells, hi, e, snV, n0]
abbrev seen1 : Sn := ⟨1, 1, 1048576⟩
theorem firstV_g {S : St} {i : Nat} (h : i < S.groups.length) : (firstV S).g i = seen1 := by simp [firstV, Sf.g, h]
theorem firstV_len (S : St) : (firstV S).groups.length = S.groups.length := by simp [firstV]

end Go.Proofs.YtfhmfanmnhclfaaDoor

/-
  THE CONTRACT of First.
-/
namespace Go.Proofs.YtfhmfanmnhclfaaDoor
open Go.RowKit Go.Lib Go.Deep
set_option linter.unusedVariables false
set_option linter.unusedSimpArgs false

abbrev safe0 : Value := .agg #[.slice none 0 0, .int .i64 0, .bool false]
set_option maxRecDepth 100000 in
set_option maxHeartbeats 1000000 in
theorem first_no {X : Sa} {S : St} {w : World} (h : Sat w X S) (hT : Tabb w) (hs : siteB S = false) : Calls Tryd.prog 22 #[siteV X S] w fun e w' => e = .returned (.tuple #[safe0, .int .i64 50]) ∧ Kept w w' none := by
  have hk1 : Kept w (w.alloc (.cells #[.int .i64 S.id, .slice X.g S.groups.length X.gc, .slice X.a S.apart.length X.ac, .slice X.b S.between.length X.bc, .slice X.p S.phases.length X.pc, .slice X.e S.eyes.length X.ec, .int .i64 S.watch, .int .i64 S.feed, .int .i64 S.heal, .int .i64 S.low, .int .i64 S.high, .slice X.l S.plans.length X.lc] 35)) none := Kept.alloc _ _ _ _ _
  have bx := box_alloc (w.alloc (.cells #[.int .i64 S.id, .slice X.g S.groups.length X.gc, .slice X.a S.apart.length X.ac, .slice X.b S.between.length X.bc, .slice X.p S.phases.length X.pc, .slice X.e S.eyes.length X.ec, .int .i64 S.watch, .int .i64 S.feed, .int .i64 S.heal, .int .i64 S.low, .int .i64 S.high, .slice X.l S.plans.length X.lc] 35)) (.slice none 0 0) (.int .i64 0) (.bool false) 61
  rw [World.size_alloc] at bx
  have hkA : Kept w ((w.alloc (.cells #[.int .i64 S.id, .slice X.g S.groups.length X.gc, .slice X.a S.apart.length X.ac, .slice X.b S.between.length X.bc, .slice X.p S.phases.length X.pc, .slice X.e S.eyes.length X.ec, .int .i64 S.watch, .int .i64 S.feed, .int .i64 S.heal, .int .i64 S.low, .int .i64 S.high, .slice X.l S.plans.length X.lc] 35)).alloc (.cells #[.slice none 0 0, .int .i64 0, .bool false] 61)) none := hk1.tr (Kept.alloc _ _ _ _ _)
  have HBX := Hid.mk' bx
  have HK := Hid.mk' hkA
  have HS := Hid.mk' (h.kept hkA)
  have HT := Hid.mk' (hT.kept hkA)
  clear h hT hkA hk1 bx
  go_enter Tryd.func22, Tryd.ntmps22
  go_wp2_with (go_at_call 43; refine (great_no HS.out HT.out hs).mono ?_; rintro e w2 ⟨rfl, hk2⟩; have B2 := Hid.mk' (HBX.out.kept hk2); have c0 := B2.out.c0; have c1 := B2.out.c1; have c2 := B2.out.c2; have z0 := B2.out.f0; have z1 := B2.out.f1; have z2 := B2.out.f2)
  exact bodyPost_ret (v := .tuple #[safe0, .int .i64 50]) (by simp [results, Tryd.results22, go_sem, *]) rfl ⟨rfl, by
    have hb := HK.out.tr hk2
    exact ((hb.setNew (by simp) _).setNew (by simp) _).setNew (by simp) _⟩
set_option maxRecDepth 100000 in
set_option maxHeartbeats 1000000 in
theorem first_yes {X : Sa} {S : St} {w : World} (h : Sat w X S) (hT : Tabb w) (hs : siteB S = true) : Calls Tryd.prog 22 #[siteV X S] w fun e w' => ∃ b, e = .returned (.tuple #[safeV (some ⟨b, 0, none⟩) S.groups.length (firstV S), .int .i64 0]) ∧ w.heap.size ≤ b ∧ OwnG w' b S.groups.length (fun _ => seen1) ∧ Kept w w' none := by
  have hng := (span_may hs).base.sh.ok.ng
  have hk1 : Kept w (w.alloc (.cells #[.int .i64 S.id, .slice X.g S.groups.length X.gc, .slice X.a S.apart.length X.ac, .slice X.b S.between.length X.bc, .slice X.p S.phases.length X.pc, .slice X.e S.eyes.length X.ec, .int .i64 S.watch, .int .i64 S.feed, .int .i64 S.heal, .int .i64 S.low, .int .i64 S.high, .slice X.l S.plans.length X.lc] 35)) none := Kept.alloc _ _ _ _ _
  have hsb := sbox_alloc h 35
  have bx := box_alloc (w.alloc (.cells #[.int .i64 S.id, .slice X.g S.groups.length X.gc, .slice X.a S.apart.length X.ac, .slice X.b S.between.length X.bc, .slice X.p S.phases.length X.pc, .slice X.e S.eyes.length X.ec, .int .i64 S.watch, .int .i64 S.feed, .int .i64 S.heal, .int .i64 S.low, .int .i64 S.high, .slice X.l S.plans.length X.lc] 35)) (.slice none 0 0) (.int .i64 0) (.bool false) 61
  rw [World.size_alloc] at bx
  have hkA : Kept w ((w.alloc (.cells #[.int .i64 S.id, .slice X.g S.groups.length X.gc, .slice X.a S.apart.length X.ac, .slice X.b S.between.length X.bc, .slice X.p S.phases.length X.pc, .slice X.e S.eyes.length X.ec, .int .i64 S.watch, .int .i64 S.feed, .int .i64 S.heal, .int .i64 S.low, .int .i64 S.high, .slice X.l S.plans.length X.lc] 35)).alloc (.cells #[.slice none 0 0, .int .i64 0, .bool false] 61)) none := hk1.tr (Kept.alloc _ _ _ _ _)
  have hsz : ((w.alloc (.cells #[.int .i64 S.id, .slice X.g S.groups.length X.gc, .slice X.a S.apart.length X.ac, .slice X.b S.between.length X.bc, .slice X.p S.phases.length X.pc, .slice X.e S.eyes.length X.ec, .int .i64 S.watch, .int .i64 S.feed, .int .i64 S.heal, .int .i64 S.low, .int .i64 S.high, .slice X.l S.plans.length X.lc] 35)).alloc (.cells #[.slice none 0 0, .int .i64 0, .bool false] 61)).heap.size = w.heap.size + 1 + 1 := by simp
  have HSZ := Hid.mk' hsz
  have HSB := Hid.mk' (hsb.kept (Kept.alloc _ #[.slice none 0 0, .int .i64 0, .bool false] 61 (0, 0) none))
  have HBX := Hid.mk' bx
  have HK := Hid.mk' hkA
  have HS := Hid.mk' (h.kept hkA)
  have HT := Hid.mk' (hT.kept hkA)
  have hmk := make_seen S.groups.length (by omega)
  clear h hT hkA hk1 bx hsb hsz
  go_enter Tryd.func22, Tryd.ntmps22
  go_wp2_with (go_at_call 43; refine (great_yes HS.out HT.out hs).mono ?_; rintro e w2 ⟨rfl, hk2⟩; have B2 := Hid.mk' (HBX.out.kept hk2); have c1 := (HSB.out.kept hk2).c1)
  have hsz2 := hk2.size
  rw [HSZ.out] at hsz2
  have hog := own_made w2 S.groups.length
  have kM : Kept w2 (w2.alloc (.cells (madeCells #[.int .u8 0, .int .i64 0, .int .i64 0] (S.groups.length * 3)) 95)) none := Kept.alloc _ _ _ _ _
  obtain ⟨W3, hW3⟩ : ∃ W3, w2.alloc (.cells (madeCells #[.int .u8 0, .int .i64 0, .int .i64 0] (S.groups.length * 3)) 95) = W3 := ⟨_, rfl⟩
  rw [hW3] at hog kM ⊢
  have HOG := Hid.mk' hog
  have KM := Hid.mk' kM
  have K2 := Hid.mk' hk2
  clear hW3 hog kM hk2 c1 hmk
  go_loopw [7, 23] (fun _ i wr => ∃ k : Nat, k ≤ S.groups.length ∧ i = .int .i64 k ∧ Kept w2 wr none ∧ OwnG wr w2.heap.size S.groups.length (mixG k (fun _ => seen1) (fun _ => n0))) (fun _ i _ => S.groups.length - (intOf i).toNat)
  case atStart => exact ⟨0, by omega, rfl, KM.out, HOG.out.congr (fun i hi => by unfold gcell mixG; simp)⟩
  case round =>
    obtain ⟨k, hk, rfl, hkw, hgw⟩ := hrel
    have HKW := Hid.mk' hkw
    have HGW := Hid.mk' hgw
    clear hkw
    by_cases hlt : k < S.groups.length
    · have y0 := hgw.cell (i := k * 3) (by omega)
      have y1 := hgw.cell (i := k * 3 + 1) (by omega)
      have y2 := hgw.cell (i := k * 3 + 2) (by omega)
      have z0 := hgw.frozen (k * 3)
      have z1 := hgw.frozen (k * 3 + 1)
      have z2 := hgw.frozen (k * 3 + 2)
      clear hgw
      go_wp2
      go_roundw
      case rel =>
        refine ⟨k + 1, by omega, by go_num, ((HKW.out.setNew (Nat.le_refl _) _).setNew (Nat.le_refl _) _).setNew (Nat.le_refl _) _, ?_⟩
        rw [← mixG_set (f := fun _ => seen1)]
        exact OwnG.set HGW.out (i := k) seen1
      case measure => simp [intOf]; omega
    · clear hgw
      have e : k = S.groups.length := by omega
      subst e
      have HGF : Hid (OwnG wr w2.heap.size S.groups.length (fun _ => seen1)) := HGW.out.congr (fun q hq => by unfold gcell mixG; rw [if_pos (by omega)])
      have B3 := Hid.mk' (B2.out.kept HKW.out)
      have c0 := B3.out.c0
      have c1 := B3.out.c1
      have c2 := B3.out.c2
      have z0 := B3.out.f0
      have z1 := B3.out.f1
      have z2 := B3.out.f2
      have hl := firstV_len S
      have hne : w2.heap.size ≠ w.heap.size + 1 := by omega
      go_wp2
      refine bodyPost_ret (v := .tuple #[.agg #[.slice (some ⟨w2.heap.size, 0, none⟩) S.groups.length S.groups.length, .int .i64 (worstM S), .bool false], .int .i64 0]) (by simp [results, Tryd.results22, go_sem, *]) rfl ⟨w2.heap.size, by rw [safeV, hl]; rfl, by omega, ((World.rowIs.setOther HGF.out hne _).setOther hne _).setOther hne _, ?_⟩
      have hb := (HK.out.tr K2.out).tr HKW.out
      exact ((hb.setNew (by simp) _).setNew (by simp) _).setNew (by simp) _

end Go.Proofs.YtfhmfanmnhclfaaDoor

