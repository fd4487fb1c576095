/-
  SafeBegins: the walk (made by a program).
-/
import Derived.Test.YtpnmlgillphodaaDoorIsA
import Derived.Test.YtpnmlgillphodaaDoorBegM
import Derived.Test.YtpnmlgillphodaaDoorRefG
namespace Go.Proofs.YtpnmlgillphodaaDoor
open Go.RowKit Go.Lib Go.Deep
set_option linter.unusedVariables false
set_option linter.unusedSimpArgs false

set_option maxRecDepth 100000 in
set_option maxHeartbeats 4000000 in
theorem beg_no_nil {X : Sa} {S : St} {w : World} {n cp : Nat} {T : List (List Nat)} {cut : Int} (h : Sat w X S) (hT : Tabb w) (hP : Trc w none n T) (hC : Cap none n cp) (hs : siteB S = false) : Calls Tryd.prog 7 #[siteV X S, .slice none n cp, .int .i64 cut] w fun e w' => e = .returned (.bool true) ∧ Below w.heap.size w w' := by
  have hroom := hC.room
  have hcmax := hC.max
  have HCAP := Hid.mk' hC
  have HPS := Hid.mk' hP.size
  obtain ⟨rfl, rfl⟩ := hC.nil rfl
  have k1 : Kept w (w.alloc (.cells #[.int .i64 S.id, .slice X.g S.groups.length X.gc, .slice X.a S.apart.length X.ac, .slice X.b S.between.length X.bc, .slice X.p S.phases.length X.pc, .slice X.e S.eyes.length X.ec, .int .i64 S.watch, .int .i64 S.feed, .int .i64 S.heal, .int .i64 S.low, .int .i64 S.high, .slice X.l S.plans.length X.lc] 33)) none := Kept.alloc _ _ _ _ _
  have hsb := sbox_alloc h 33
  have hsz : (w.alloc (.cells #[.int .i64 S.id, .slice X.g S.groups.length X.gc, .slice X.a S.apart.length X.ac, .slice X.b S.between.length X.bc, .slice X.p S.phases.length X.pc, .slice X.e S.eyes.length X.ec, .int .i64 S.watch, .int .i64 S.feed, .int .i64 S.heal, .int .i64 S.low, .int .i64 S.high, .slice X.l S.plans.length X.lc] 33)).heap.size = w.heap.size + 1 := by simp
  have hSA := h.kept k1
  have hTA := hT.kept k1
  have hPA := hP.kept k1
  obtain ⟨W1, hW1⟩ : ∃ W1, w.alloc (.cells #[.int .i64 S.id, .slice X.g S.groups.length X.gc, .slice X.a S.apart.length X.ac, .slice X.b S.between.length X.bc, .slice X.p S.phases.length X.pc, .slice X.e S.eyes.length X.ec, .int .i64 S.watch, .int .i64 S.feed, .int .i64 S.heal, .int .i64 S.low, .int .i64 S.high, .slice X.l S.plans.length X.lc] 33) = W1 := ⟨_, rfl⟩
  rw [hW1] at k1 hsb hsz hSA hTA hPA
  have HSB := Hid.mk' hsb
  have HSZ := Hid.mk' hsz
  have HK := Hid.mk' k1
  have HS := Hid.mk' hSA
  have HT := Hid.mk' hTA
  have HP := Hid.mk' hPA
  have hPm := hP.max
  have hK0 := Kept.refl W1 none
  have s0_ : ∀ w', Kept W1 w' none → w'.cell? ⟨w.heap.size, 0, none⟩ = some (.int .i64 S.id) := fun w' q => (HSB.out.kept q).c0
  have s1_ : ∀ w', Kept W1 w' none → w'.cell? ⟨w.heap.size, 1, none⟩ = some (.slice X.g S.groups.length X.gc) := fun w' q => (HSB.out.kept q).c1
  have s2_ : ∀ w', Kept W1 w' none → w'.cell? ⟨w.heap.size, 2, none⟩ = some (.slice X.a S.apart.length X.ac) := fun w' q => (HSB.out.kept q).c2
  have s3_ : ∀ w', Kept W1 w' none → w'.cell? ⟨w.heap.size, 3, none⟩ = some (.slice X.b S.between.length X.bc) := fun w' q => (HSB.out.kept q).c3
  have s4_ : ∀ w', Kept W1 w' none → w'.cell? ⟨w.heap.size, 4, none⟩ = some (.slice X.p S.phases.length X.pc) := fun w' q => (HSB.out.kept q).c4
  have s5_ : ∀ w', Kept W1 w' none → w'.cell? ⟨w.heap.size, 5, none⟩ = some (.slice X.e S.eyes.length X.ec) := fun w' q => (HSB.out.kept q).c5
  have s6_ : ∀ w', Kept W1 w' none → w'.cell? ⟨w.heap.size, 6, none⟩ = some (.int .i64 S.watch) := fun w' q => (HSB.out.kept q).c6
  have s7_ : ∀ w', Kept W1 w' none → w'.cell? ⟨w.heap.size, 7, none⟩ = some (.int .i64 S.feed) := fun w' q => (HSB.out.kept q).c7
  have s8_ : ∀ w', Kept W1 w' none → w'.cell? ⟨w.heap.size, 8, none⟩ = some (.int .i64 S.heal) := fun w' q => (HSB.out.kept q).c8
  have s9_ : ∀ w', Kept W1 w' none → w'.cell? ⟨w.heap.size, 9, none⟩ = some (.int .i64 S.low) := fun w' q => (HSB.out.kept q).c9
  have s10_ : ∀ w', Kept W1 w' none → w'.cell? ⟨w.heap.size, 10, none⟩ = some (.int .i64 S.high) := fun w' q => (HSB.out.kept q).c10
  have s11_ : ∀ w', Kept W1 w' none → w'.cell? ⟨w.heap.size, 11, none⟩ = some (.slice X.l S.plans.length X.lc) := fun w' q => (HSB.out.kept q).c11
  clear h hT hP k1 hsb hsz hSA hTA hPA
  go_enter Tryd.func7, Tryd.ntmps7
  go_wp2_with (first | rw [hW1] | (go_at_call 13; refine (salive_any HT.out).mono ?_; rintro e wa ⟨rfl, hka⟩; have hKa : Kept W1 wa none := hka))
  go_at_call 14
  refine (rgreat_any (HS.out.kept hKa)).mono ?_
  rintro e wg ⟨gr, rfl, hgr, hkg⟩
  have hKg : Kept W1 wg none := hKa.tr hkg
  cases gr with
  | true =>
    go_wp2
    go_ret
    exact ⟨rfl, (HK.out.tr hKg).below⟩
  | false =>
  have hF := Hid.mk' (hgr rfl)
  clear hgr
  by_cases hc0 : cut < 0
  · go_wp2
    go_ret
    exact ⟨rfl, (HK.out.tr hKg).below⟩
  have hc0b : decide (cut < 0) = false := by simp; omega
  by_cases hc1 : (0 : Int) < cut
  · go_wp2
    go_ret
    exact ⟨rfl, (HK.out.tr hKg).below⟩
  obtain rfl : cut = 0 := by omega
  have hqn : 0 ≤ 0 := Nat.le_refl 0
  have hn300 : 0 ≤ 300 := by omega
  clear hc0 hc1 hc0b
  go_wp2_with (go_at_call 9; refine (check_no (cp := 0) (HS.out.kept hKg) (HT.out.kept hKg) (HP.out.kept hKg) hs).mono ?_; rintro e w2 ⟨rfl, hk2⟩; have hK2 : Kept W1 w2 none := hKg.tr hk2)
  go_region_held (fun w' => Kept W1 w' none)
    ((first | exact hK2 | exact Kept.tr hK2 (Kept.drew _ _) | assumption | exact Kept.tr (by assumption) (Kept.drew _ _)))
    ((go_at_call 9; refine (check_no (cp := 0) (HS.out.kept (by assumption)) (HT.out.kept (by assumption)) ((HP.out.take hqn).kept (by assumption)) hs).mono ?_; rintro e w3 ⟨rfl, hk3⟩; have hK3 : Kept W1 w3 none := Kept.tr (by assumption) hk3))
  all_goals
    go_wp2
    go_ret
    exact ⟨rfl, (HK.out.tr hK3).below⟩
set_option maxRecDepth 100000 in
set_option maxHeartbeats 4000000 in
theorem beg_nonea_nil {X : Sa} {S : St} {w : World} {n cp : Nat} {T : List (List Nat)} {cut : Int} (h : Sat w X S) (hT : Tabb w) (hP : Trc w none n T) (hC : Cap none n cp) (hs : siteB S = true) (hall : ∀ j, j < n → fltV S T j = 0) : Calls Tryd.prog 7 #[siteV X S, .slice none n cp, .int .i64 cut] w fun e w' => e = .returned (.bool true) ∧ Below w.heap.size w w' := by
  have hroom := hC.room
  have hcmax := hC.max
  have HCAP := Hid.mk' hC
  have HPS := Hid.mk' hP.size
  obtain ⟨rfl, rfl⟩ := hC.nil rfl
  have k1 : Kept w (w.alloc (.cells #[.int .i64 S.id, .slice X.g S.groups.length X.gc, .slice X.a S.apart.length X.ac, .slice X.b S.between.length X.bc, .slice X.p S.phases.length X.pc, .slice X.e S.eyes.length X.ec, .int .i64 S.watch, .int .i64 S.feed, .int .i64 S.heal, .int .i64 S.low, .int .i64 S.high, .slice X.l S.plans.length X.lc] 33)) none := Kept.alloc _ _ _ _ _
  have hsb := sbox_alloc h 33
  have hsz : (w.alloc (.cells #[.int .i64 S.id, .slice X.g S.groups.length X.gc, .slice X.a S.apart.length X.ac, .slice X.b S.between.length X.bc, .slice X.p S.phases.length X.pc, .slice X.e S.eyes.length X.ec, .int .i64 S.watch, .int .i64 S.feed, .int .i64 S.heal, .int .i64 S.low, .int .i64 S.high, .slice X.l S.plans.length X.lc] 33)).heap.size = w.heap.size + 1 := by simp
  have hSA := h.kept k1
  have hTA := hT.kept k1
  have hPA := hP.kept k1
  obtain ⟨W1, hW1⟩ : ∃ W1, w.alloc (.cells #[.int .i64 S.id, .slice X.g S.groups.length X.gc, .slice X.a S.apart.length X.ac, .slice X.b S.between.length X.bc, .slice X.p S.phases.length X.pc, .slice X.e S.eyes.length X.ec, .int .i64 S.watch, .int .i64 S.feed, .int .i64 S.heal, .int .i64 S.low, .int .i64 S.high, .slice X.l S.plans.length X.lc] 33) = W1 := ⟨_, rfl⟩
  rw [hW1] at k1 hsb hsz hSA hTA hPA
  have HSB := Hid.mk' hsb
  have HSZ := Hid.mk' hsz
  have HK := Hid.mk' k1
  have HS := Hid.mk' hSA
  have HT := Hid.mk' hTA
  have HP := Hid.mk' hPA
  have hPm := hP.max
  have hK0 := Kept.refl W1 none
  have s0_ : ∀ w', Kept W1 w' none → w'.cell? ⟨w.heap.size, 0, none⟩ = some (.int .i64 S.id) := fun w' q => (HSB.out.kept q).c0
  have s1_ : ∀ w', Kept W1 w' none → w'.cell? ⟨w.heap.size, 1, none⟩ = some (.slice X.g S.groups.length X.gc) := fun w' q => (HSB.out.kept q).c1
  have s2_ : ∀ w', Kept W1 w' none → w'.cell? ⟨w.heap.size, 2, none⟩ = some (.slice X.a S.apart.length X.ac) := fun w' q => (HSB.out.kept q).c2
  have s3_ : ∀ w', Kept W1 w' none → w'.cell? ⟨w.heap.size, 3, none⟩ = some (.slice X.b S.between.length X.bc) := fun w' q => (HSB.out.kept q).c3
  have s4_ : ∀ w', Kept W1 w' none → w'.cell? ⟨w.heap.size, 4, none⟩ = some (.slice X.p S.phases.length X.pc) := fun w' q => (HSB.out.kept q).c4
  have s5_ : ∀ w', Kept W1 w' none → w'.cell? ⟨w.heap.size, 5, none⟩ = some (.slice X.e S.eyes.length X.ec) := fun w' q => (HSB.out.kept q).c5
  have s6_ : ∀ w', Kept W1 w' none → w'.cell? ⟨w.heap.size, 6, none⟩ = some (.int .i64 S.watch) := fun w' q => (HSB.out.kept q).c6
  have s7_ : ∀ w', Kept W1 w' none → w'.cell? ⟨w.heap.size, 7, none⟩ = some (.int .i64 S.feed) := fun w' q => (HSB.out.kept q).c7
  have s8_ : ∀ w', Kept W1 w' none → w'.cell? ⟨w.heap.size, 8, none⟩ = some (.int .i64 S.heal) := fun w' q => (HSB.out.kept q).c8
  have s9_ : ∀ w', Kept W1 w' none → w'.cell? ⟨w.heap.size, 9, none⟩ = some (.int .i64 S.low) := fun w' q => (HSB.out.kept q).c9
  have s10_ : ∀ w', Kept W1 w' none → w'.cell? ⟨w.heap.size, 10, none⟩ = some (.int .i64 S.high) := fun w' q => (HSB.out.kept q).c10
  have s11_ : ∀ w', Kept W1 w' none → w'.cell? ⟨w.heap.size, 11, none⟩ = some (.slice X.l S.plans.length X.lc) := fun w' q => (HSB.out.kept q).c11
  clear h hT hP k1 hsb hsz hSA hTA hPA
  go_enter Tryd.func7, Tryd.ntmps7
  go_wp2_with (first | rw [hW1] | (go_at_call 13; refine (salive_any HT.out).mono ?_; rintro e wa ⟨rfl, hka⟩; have hKa : Kept W1 wa none := hka))
  go_at_call 14
  refine (rgreat_any (HS.out.kept hKa)).mono ?_
  rintro e wg ⟨gr, rfl, hgr, hkg⟩
  have hKg : Kept W1 wg none := hKa.tr hkg
  cases gr with
  | true =>
    go_wp2
    go_ret
    exact ⟨rfl, (HK.out.tr hKg).below⟩
  | false =>
  have hF := Hid.mk' (hgr rfl)
  clear hgr
  by_cases hc0 : cut < 0
  · go_wp2
    go_ret
    exact ⟨rfl, (HK.out.tr hKg).below⟩
  have hc0b : decide (cut < 0) = false := by simp; omega
  by_cases hc1 : (0 : Int) < cut
  · go_wp2
    go_ret
    exact ⟨rfl, (HK.out.tr hKg).below⟩
  obtain rfl : cut = 0 := by omega
  have hqn : 0 ≤ 0 := Nat.le_refl 0
  have hn300 : 0 ≤ 300 := by omega
  clear hc0 hc1 hc0b
  have HA1 : Hid (ansN (fltV S T) 0 = -1) := ansN_no hall
  have HO1 : Hid (ownV (fltV S T) 0 = 0) := ownV_no hall
  have hq0 : ∀ j, j < 0 → fltV S T j = 0 := fun j hj => hall j (by omega)
  clear hall
  have HA2 : Hid (ansN (fltV S (T.take 0)) 0 = -1) := ansN_no (fun j hj => (flt_take hj).trans (hq0 j hj))
  have HO2 : Hid (ownV (fltV S (T.take 0)) 0 = 0) := ownV_no (fun j hj => (flt_take hj).trans (hq0 j hj))
  have hql : 0 ≤ T.length := by have := HPS.out; omega
  have HFL := Hid.mk' (flt_long hql hq0)
  have HLL := Hid.mk' (long_len (m := S.groups.length) hql)
  have hng := (span_may hs).base.sh.ok.ng
  clear hq0
  go_wp2_with (go_at_call 9; have hn := check_go (cp := 0) (HS.out.kept (by assumption)) (HT.out.kept (by assumption)) (HP.out.kept (by assumption)) hs (by omega); rw [HA1.out, HO1.out] at hn; refine hn.mono ?_; rintro e w2 ⟨rfl, hk2⟩; have hK2 : Kept W1 w2 none := hKg.tr hk2)
  go_region_held (fun w' => Kept W1 w' none)
    ((first | exact hK2 | exact Kept.tr hK2 (Kept.drew _ _) | assumption | exact Kept.tr (by assumption) (Kept.drew _ _)))
    ((go_at_call 9; have hn := check_go (cp := 0) (HS.out.kept (by assumption)) (HT.out.kept (by assumption)) ((HP.out.take hqn).kept (by assumption)) hs (by omega); rw [HA2.out, HO2.out] at hn; refine hn.mono ?_; rintro e w3 ⟨rfl, hk3⟩; have hK3 : Kept W1 w3 none := Kept.tr (by assumption) hk3))
  all_goals
    have hmk := run_make_row' (P := Tryd.prog) 35 5 (.int .u8 0) 1 Tryd.uB Tryd.infoByte rfl .i64 .i64 S.groups.length (by omega) (by omega)
    go_wp2
    have hrw := World.rowIs_made w3 (.int .u8 0) S.groups.length 5
    have kM : Kept w3 (w3.alloc (.cells (madeCells #[.int .u8 0] S.groups.length) 5)) none := Kept.alloc _ _ _ _ _
    obtain ⟨W4, hW4⟩ : ∃ W4, w3.alloc (.cells (madeCells #[.int .u8 0] S.groups.length) 5) = W4 := ⟨_, rfl⟩
    rw [hW4] at hrw kM ⊢
    have HRW := Hid.mk' hrw
    have KM := Hid.mk' kM
    clear hW4 hrw kM hmk
    go_loopw [15] (fun i wr => ∃ k : Nat, k ≤ S.groups.length ∧ i = .int .i64 k ∧ Kept w3 wr none ∧ wr.rowIs w3.heap.size 5 S.groups.length (bcell k (List.replicate S.groups.length 4))) (fun i _ => S.groups.length - (intOf i).toNat)
    case atStart => exact ⟨0, by omega, rfl, KM.out, HRW.out.congr (fun i hi => by unfold bcell; simp)⟩
    case round =>
      obtain ⟨k, hk, rfl, hkw, hrow⟩ := hrel
      have HKW := Hid.mk' hkw
      have HRO := Hid.mk' hrow
      by_cases hlt : k < S.groups.length
      · have y0 := hrow.cell hlt
        have z0 := hrow.frozen k
        have h4 : lg (List.replicate S.groups.length 4) k = 4 := by simp [lg, hlt]
        have H4 := Hid.mk' h4
        clear hkw hrow h4
        go_wp2
        go_roundw
        case rel =>
          refine ⟨k + 1, by omega, by go_num, HKW.out.setNew (p := ⟨w3.heap.size, k, none⟩) (Nat.le_refl _) _, ?_⟩
          rw [← bcell_set, H4.out]
          exact HRO.out.set k _
        case measure => simp [intOf]; omega
      · have e : k = S.groups.length := by omega
        subst e
        have hby : By wr (some ⟨w3.heap.size, 0, none⟩) S.groups.length (List.replicate S.groups.length 4) := By.row HRO.out _ S.groups.length (Nat.le_refl _) (by simp) (by omega) (fun x hx => by
          have := (List.mem_replicate.1 hx).2
          omega) (fun i hi => by unfold bcell; rw [if_pos hi]; rfl)
        have hKr : Kept W1 wr none := hK3.tr hkw
        obtain ⟨l, hll, hlm, hlie, hlb⟩ := ((HP.out.take hqn).kept hKr).list
        have hblk : ∀ y ∈ l, 0 < y.2.1.length → ∀ b, y.1 = some b → b.block < wr.heap.size := fun y hy hp b e => by
          obtain ⟨b', off, e', hb', _⟩ := (hlb y hy).at_ hp
          rw [e] at e'
          injection e' with e'
          subst e'
          exact hb'
        obtain ⟨a4, c4, w4, hr4, hL4, hk4⟩ := (LtS.nil wr wr.heap.size).join l (c := 0) (m := 0) hll.symm hlie HCAP.out hlb (fun y hy hp b e => ⟨fun ec => (nomatch ec), hblk y hy hp b e⟩) (by simp; omega) (Nat.le_refl _)
        simp only [List.length_nil, Nat.zero_add, List.nil_append] at hr4 hL4
        have hk4' : Kept wr w4 none := hk4
        have hs4 := hk4'.size
        have kB : Kept w4 (w4.alloc (.cells #[.slice (some ⟨w3.heap.size, 0, none⟩) S.groups.length S.groups.length, .slice (some ⟨w3.heap.size, 0, none⟩) S.groups.length S.groups.length] 35)) none := Kept.alloc _ _ _ _ _
        have hw3r := HRO.out.lt
        have hown4 := hL4.own.lt
        have hlfl : ([(some ⟨w3.heap.size, 0, none⟩, List.replicate S.groups.length 4, S.groups.length), (some ⟨w3.heap.size, 0, none⟩, List.replicate S.groups.length 4, S.groups.length)] : List Lt).length = 2 := rfl
        have hlieB : Lie (w4.alloc (.cells #[.slice (some ⟨w3.heap.size, 0, none⟩) S.groups.length S.groups.length, .slice (some ⟨w3.heap.size, 0, none⟩) S.groups.length S.groups.length] 35)) (some ⟨w4.heap.size, 0, none⟩) 2 1 (fun i j => ltV (([(some ⟨w3.heap.size, 0, none⟩, List.replicate S.groups.length 4, S.groups.length), (some ⟨w3.heap.size, 0, none⟩, List.replicate S.groups.length 4, S.groups.length)] : List Lt).getD i lt0) j) := ⟨fun _ => ⟨w4.heap.size, 0, rfl, by simp, fun i hi j hj => by
          obtain rfl : j = 0 := by omega
          have : i = 0 ∨ i = 1 := by omega
          rcases this with rfl | rfl
          · refine alloc_at8 _ _ _ rfl ?_
            show some _ = some (ltV _ 0)
            simp [ltV]
          · refine alloc_at8 _ _ _ rfl ?_
            show some _ = some (ltV _ 0)
            simp [ltV]⟩⟩
        obtain ⟨a5, c5, w5, hr5, hL5, hk5⟩ := (hL4.kept kB).join _ (c := 2) (m := 2) hlfl.symm hlieB ⟨fun e => (nomatch e), Nat.le_refl _, by omega⟩ (fun y hy => by
          have : y = (some ⟨w3.heap.size, 0, none⟩, List.replicate S.groups.length 4, S.groups.length) := by simpa using hy
          subst this
          have := (hby.kept hk4').kept kB
          simpa using this) (fun y hy hp b e => by
          have : y = (some ⟨w3.heap.size, 0, none⟩, List.replicate S.groups.length 4, S.groups.length) := by simpa using hy
          subst this
          injection e with e
          subst e
          refine ⟨fun ec => ?_, by simp; omega⟩
          have := (hown4 _ ec).1
          dsimp only at this
          omega) (by rw [hll, hlfl]; omega) (by have := kB.size; omega)
        obtain ⟨a6, c6, e6, hT6⟩ := hL5.trc (by rw [List.length_append, hll, hlfl]; omega)
        have hlen6 : (l ++ ([(some ⟨w3.heap.size, 0, none⟩, List.replicate S.groups.length 4, S.groups.length), (some ⟨w3.heap.size, 0, none⟩, List.replicate S.groups.length 4, S.groups.length)] : List Lt)).length = 0 + 2 := by rw [List.length_append, hll]; rfl
        rw [hll] at hr5 e6
        injection e6 with e61 e62 e63
        subst e61 e63
        clear e62
        rw [hlen6, List.map_append, hlm] at hT6
        have HT6 : Hid (Trc w5 a5 2 (longL T 0 S.groups.length)) := hT6
        have HR4 := Hid.mk' hr4
        try simp only [Nat.zero_add] at hr5
        have HR5 := Hid.mk' hr5
        have hK5 : Kept W1 w5 none := ((hKr.tr hk4').tr kB).newRow hk5 (fun i e => by
          have := (hown4 i e).1
          have := hKr.size
          omega)
        have HA3 : Hid (ansN (fltV S (longL T 0 S.groups.length)) 2 = -1) := ansN_no HFL.out
        have HO3 : Hid (ownV (fltV S (longL T 0 S.groups.length)) 2 = 0) := ownV_no HFL.out
        clear hby hll hlm hlie hlb hblk hL4 hk4 hk4' hs4 kB hw3r hown4 hlfl hlieB hL5 hk5 hT6 hlen6 hr4 hr5 hkw hrow
        go_wp2_with (first
          | (have hgo := HX5; clear hgo; go_at_call 9; have hn := check_go (cp := c5) (HS.out.kept hK5) (HT.out.kept hK5) HT6.out hs (by omega); rw [HA3.out, HO3.out] at hn; refine hn.mono ?_; rintro e w7 ⟨rfl, hk7⟩)
          | (have hgo := HX4; clear hgo; at_builtin; refine wpList_app8 (by rfl) _ _ _ (by rfl) (by rfl) (by rfl) HR5.out ?_; have HX5 : Hid True := trivial)
          | (at_builtin; refine wpList_app8 (by rfl) _ _ _ (by rfl) (by rfl) (by rfl) HR4.out ?_; have HX4 : Hid True := trivial))
        go_ret
        exact ⟨rfl, ((HK.out.tr hK5).tr hk7).below⟩
set_option maxRecDepth 100000 in
set_option maxHeartbeats 4000000 in
theorem beg_no_some {X : Sa} {S : St} {w : World} {pd : Addr} {n cp : Nat} {T : List (List Nat)} {cut : Int} (h : Sat w X S) (hT : Tabb w) (hP : Trc w (some pd) n T) (hC : Cap (some pd) n cp) (hs : siteB S = false) : Calls Tryd.prog 7 #[siteV X S, .slice (some pd) n cp, .int .i64 cut] w fun e w' => e = .returned (.bool true) ∧ Below w.heap.size w w' := by
  have hroom := hC.room
  have hcmax := hC.max
  have HCAP := Hid.mk' hC
  have HPS := Hid.mk' hP.size
  have k1 : Kept w (w.alloc (.cells #[.int .i64 S.id, .slice X.g S.groups.length X.gc, .slice X.a S.apart.length X.ac, .slice X.b S.between.length X.bc, .slice X.p S.phases.length X.pc, .slice X.e S.eyes.length X.ec, .int .i64 S.watch, .int .i64 S.feed, .int .i64 S.heal, .int .i64 S.low, .int .i64 S.high, .slice X.l S.plans.length X.lc] 33)) none := Kept.alloc _ _ _ _ _
  have hsb := sbox_alloc h 33
  have hsz : (w.alloc (.cells #[.int .i64 S.id, .slice X.g S.groups.length X.gc, .slice X.a S.apart.length X.ac, .slice X.b S.between.length X.bc, .slice X.p S.phases.length X.pc, .slice X.e S.eyes.length X.ec, .int .i64 S.watch, .int .i64 S.feed, .int .i64 S.heal, .int .i64 S.low, .int .i64 S.high, .slice X.l S.plans.length X.lc] 33)).heap.size = w.heap.size + 1 := by simp
  have hSA := h.kept k1
  have hTA := hT.kept k1
  have hPA := hP.kept k1
  obtain ⟨W1, hW1⟩ : ∃ W1, w.alloc (.cells #[.int .i64 S.id, .slice X.g S.groups.length X.gc, .slice X.a S.apart.length X.ac, .slice X.b S.between.length X.bc, .slice X.p S.phases.length X.pc, .slice X.e S.eyes.length X.ec, .int .i64 S.watch, .int .i64 S.feed, .int .i64 S.heal, .int .i64 S.low, .int .i64 S.high, .slice X.l S.plans.length X.lc] 33) = W1 := ⟨_, rfl⟩
  rw [hW1] at k1 hsb hsz hSA hTA hPA
  have HSB := Hid.mk' hsb
  have HSZ := Hid.mk' hsz
  have HK := Hid.mk' k1
  have HS := Hid.mk' hSA
  have HT := Hid.mk' hTA
  have HP := Hid.mk' hPA
  have hPm := hP.max
  have hK0 := Kept.refl W1 none
  have s0_ : ∀ w', Kept W1 w' none → w'.cell? ⟨w.heap.size, 0, none⟩ = some (.int .i64 S.id) := fun w' q => (HSB.out.kept q).c0
  have s1_ : ∀ w', Kept W1 w' none → w'.cell? ⟨w.heap.size, 1, none⟩ = some (.slice X.g S.groups.length X.gc) := fun w' q => (HSB.out.kept q).c1
  have s2_ : ∀ w', Kept W1 w' none → w'.cell? ⟨w.heap.size, 2, none⟩ = some (.slice X.a S.apart.length X.ac) := fun w' q => (HSB.out.kept q).c2
  have s3_ : ∀ w', Kept W1 w' none → w'.cell? ⟨w.heap.size, 3, none⟩ = some (.slice X.b S.between.length X.bc) := fun w' q => (HSB.out.kept q).c3
  have s4_ : ∀ w', Kept W1 w' none → w'.cell? ⟨w.heap.size, 4, none⟩ = some (.slice X.p S.phases.length X.pc) := fun w' q => (HSB.out.kept q).c4
  have s5_ : ∀ w', Kept W1 w' none → w'.cell? ⟨w.heap.size, 5, none⟩ = some (.slice X.e S.eyes.length X.ec) := fun w' q => (HSB.out.kept q).c5
  have s6_ : ∀ w', Kept W1 w' none → w'.cell? ⟨w.heap.size, 6, none⟩ = some (.int .i64 S.watch) := fun w' q => (HSB.out.kept q).c6
  have s7_ : ∀ w', Kept W1 w' none → w'.cell? ⟨w.heap.size, 7, none⟩ = some (.int .i64 S.feed) := fun w' q => (HSB.out.kept q).c7
  have s8_ : ∀ w', Kept W1 w' none → w'.cell? ⟨w.heap.size, 8, none⟩ = some (.int .i64 S.heal) := fun w' q => (HSB.out.kept q).c8
  have s9_ : ∀ w', Kept W1 w' none → w'.cell? ⟨w.heap.size, 9, none⟩ = some (.int .i64 S.low) := fun w' q => (HSB.out.kept q).c9
  have s10_ : ∀ w', Kept W1 w' none → w'.cell? ⟨w.heap.size, 10, none⟩ = some (.int .i64 S.high) := fun w' q => (HSB.out.kept q).c10
  have s11_ : ∀ w', Kept W1 w' none → w'.cell? ⟨w.heap.size, 11, none⟩ = some (.slice X.l S.plans.length X.lc) := fun w' q => (HSB.out.kept q).c11
  clear h hT hP k1 hsb hsz hSA hTA hPA
  go_enter Tryd.func7, Tryd.ntmps7
  go_wp2_with (first | rw [hW1] | (go_at_call 13; refine (salive_any HT.out).mono ?_; rintro e wa ⟨rfl, hka⟩; have hKa : Kept W1 wa none := hka))
  go_at_call 14
  refine (rgreat_any (HS.out.kept hKa)).mono ?_
  rintro e wg ⟨gr, rfl, hgr, hkg⟩
  have hKg : Kept W1 wg none := hKa.tr hkg
  cases gr with
  | true =>
    go_wp2
    go_ret
    exact ⟨rfl, (HK.out.tr hKg).below⟩
  | false =>
  have hF := Hid.mk' (hgr rfl)
  clear hgr
  by_cases h300 : (300 : Int) < (n : Int)
  · go_wp2
    go_ret
    exact ⟨rfl, (HK.out.tr hKg).below⟩
  have h300b : decide ((300 : Int) < (n : Int)) = false := by simp; omega
  by_cases hc0 : cut < 0
  · go_wp2
    go_ret
    exact ⟨rfl, (HK.out.tr hKg).below⟩
  have hc0b : decide (cut < 0) = false := by simp; omega
  by_cases hc1 : (n : Int) < cut
  · go_wp2
    go_ret
    exact ⟨rfl, (HK.out.tr hKg).below⟩
  have hc1b : decide ((n : Int) < cut) = false := by simp; omega
  obtain ⟨q, rfl⟩ : ∃ q : Nat, cut = (q : Int) := ⟨cut.toNat, by omega⟩
  have hqn : q ≤ n := by omega
  have hn300 : n ≤ 300 := by omega
  clear h300 hc0 hc1
  go_wp2_with (go_at_call 9; refine (check_no (cp := cp) (HS.out.kept hKg) (HT.out.kept hKg) (HP.out.kept hKg) hs).mono ?_; rintro e w2 ⟨rfl, hk2⟩; have hK2 : Kept W1 w2 none := hKg.tr hk2)
  have hqc : (q : Int) ≤ (cp : Int) := by omega
  go_region_held (fun w' => Kept W1 w' none)
    ((first | exact hK2 | exact Kept.tr hK2 (Kept.drew _ _) | assumption | exact Kept.tr (by assumption) (Kept.drew _ _)))
    ((go_at_call 9; refine (check_no (cp := cp) (HS.out.kept (by assumption)) (HT.out.kept (by assumption)) ((HP.out.take hqn).kept (by assumption)) hs).mono ?_; rintro e w3 ⟨rfl, hk3⟩; have hK3 : Kept W1 w3 none := Kept.tr (by assumption) hk3))
  all_goals
    go_wp2
    go_ret
    exact ⟨rfl, (HK.out.tr hK3).below⟩
set_option maxRecDepth 100000 in
set_option maxHeartbeats 4000000 in
theorem beg_fault_some {X : Sa} {S : St} {w : World} {pd : Addr} {n cp : Nat} {T : List (List Nat)} {cut : Int} (h : Sat w X S) (hT : Tabb w) (hP : Trc w (some pd) n T) (hC : Cap (some pd) n cp) (hs : siteB S = true) {k0 : Nat} (hkq : (k0 : Int) < cut) (hno : ∀ j, j < k0 → fltV S T j = 0) (hz : fltV S T k0 ≠ 0) : Calls Tryd.prog 7 #[siteV X S, .slice (some pd) n cp, .int .i64 cut] w fun e w' => e = .returned (.bool true) ∧ Below w.heap.size w w' := by
  have hroom := hC.room
  have hcmax := hC.max
  have HCAP := Hid.mk' hC
  have HPS := Hid.mk' hP.size
  have k1 : Kept w (w.alloc (.cells #[.int .i64 S.id, .slice X.g S.groups.length X.gc, .slice X.a S.apart.length X.ac, .slice X.b S.between.length X.bc, .slice X.p S.phases.length X.pc, .slice X.e S.eyes.length X.ec, .int .i64 S.watch, .int .i64 S.feed, .int .i64 S.heal, .int .i64 S.low, .int .i64 S.high, .slice X.l S.plans.length X.lc] 33)) none := Kept.alloc _ _ _ _ _
  have hsb := sbox_alloc h 33
  have hsz : (w.alloc (.cells #[.int .i64 S.id, .slice X.g S.groups.length X.gc, .slice X.a S.apart.length X.ac, .slice X.b S.between.length X.bc, .slice X.p S.phases.length X.pc, .slice X.e S.eyes.length X.ec, .int .i64 S.watch, .int .i64 S.feed, .int .i64 S.heal, .int .i64 S.low, .int .i64 S.high, .slice X.l S.plans.length X.lc] 33)).heap.size = w.heap.size + 1 := by simp
  have hSA := h.kept k1
  have hTA := hT.kept k1
  have hPA := hP.kept k1
  obtain ⟨W1, hW1⟩ : ∃ W1, w.alloc (.cells #[.int .i64 S.id, .slice X.g S.groups.length X.gc, .slice X.a S.apart.length X.ac, .slice X.b S.between.length X.bc, .slice X.p S.phases.length X.pc, .slice X.e S.eyes.length X.ec, .int .i64 S.watch, .int .i64 S.feed, .int .i64 S.heal, .int .i64 S.low, .int .i64 S.high, .slice X.l S.plans.length X.lc] 33) = W1 := ⟨_, rfl⟩
  rw [hW1] at k1 hsb hsz hSA hTA hPA
  have HSB := Hid.mk' hsb
  have HSZ := Hid.mk' hsz
  have HK := Hid.mk' k1
  have HS := Hid.mk' hSA
  have HT := Hid.mk' hTA
  have HP := Hid.mk' hPA
  have hPm := hP.max
  have hK0 := Kept.refl W1 none
  have s0_ : ∀ w', Kept W1 w' none → w'.cell? ⟨w.heap.size, 0, none⟩ = some (.int .i64 S.id) := fun w' q => (HSB.out.kept q).c0
  have s1_ : ∀ w', Kept W1 w' none → w'.cell? ⟨w.heap.size, 1, none⟩ = some (.slice X.g S.groups.length X.gc) := fun w' q => (HSB.out.kept q).c1
  have s2_ : ∀ w', Kept W1 w' none → w'.cell? ⟨w.heap.size, 2, none⟩ = some (.slice X.a S.apart.length X.ac) := fun w' q => (HSB.out.kept q).c2
  have s3_ : ∀ w', Kept W1 w' none → w'.cell? ⟨w.heap.size, 3, none⟩ = some (.slice X.b S.between.length X.bc) := fun w' q => (HSB.out.kept q).c3
  have s4_ : ∀ w', Kept W1 w' none → w'.cell? ⟨w.heap.size, 4, none⟩ = some (.slice X.p S.phases.length X.pc) := fun w' q => (HSB.out.kept q).c4
  have s5_ : ∀ w', Kept W1 w' none → w'.cell? ⟨w.heap.size, 5, none⟩ = some (.slice X.e S.eyes.length X.ec) := fun w' q => (HSB.out.kept q).c5
  have s6_ : ∀ w', Kept W1 w' none → w'.cell? ⟨w.heap.size, 6, none⟩ = some (.int .i64 S.watch) := fun w' q => (HSB.out.kept q).c6
  have s7_ : ∀ w', Kept W1 w' none → w'.cell? ⟨w.heap.size, 7, none⟩ = some (.int .i64 S.feed) := fun w' q => (HSB.out.kept q).c7
  have s8_ : ∀ w', Kept W1 w' none → w'.cell? ⟨w.heap.size, 8, none⟩ = some (.int .i64 S.heal) := fun w' q => (HSB.out.kept q).c8
  have s9_ : ∀ w', Kept W1 w' none → w'.cell? ⟨w.heap.size, 9, none⟩ = some (.int .i64 S.low) := fun w' q => (HSB.out.kept q).c9
  have s10_ : ∀ w', Kept W1 w' none → w'.cell? ⟨w.heap.size, 10, none⟩ = some (.int .i64 S.high) := fun w' q => (HSB.out.kept q).c10
  have s11_ : ∀ w', Kept W1 w' none → w'.cell? ⟨w.heap.size, 11, none⟩ = some (.slice X.l S.plans.length X.lc) := fun w' q => (HSB.out.kept q).c11
  clear h hT hP k1 hsb hsz hSA hTA hPA
  go_enter Tryd.func7, Tryd.ntmps7
  go_wp2_with (first | rw [hW1] | (go_at_call 13; refine (salive_any HT.out).mono ?_; rintro e wa ⟨rfl, hka⟩; have hKa : Kept W1 wa none := hka))
  go_at_call 14
  refine (rgreat_any (HS.out.kept hKa)).mono ?_
  rintro e wg ⟨gr, rfl, hgr, hkg⟩
  have hKg : Kept W1 wg none := hKa.tr hkg
  cases gr with
  | true =>
    go_wp2
    go_ret
    exact ⟨rfl, (HK.out.tr hKg).below⟩
  | false =>
  have hF := Hid.mk' (hgr rfl)
  clear hgr
  by_cases h300 : (300 : Int) < (n : Int)
  · go_wp2
    go_ret
    exact ⟨rfl, (HK.out.tr hKg).below⟩
  have h300b : decide ((300 : Int) < (n : Int)) = false := by simp; omega
  by_cases hc0 : cut < 0
  · go_wp2
    go_ret
    exact ⟨rfl, (HK.out.tr hKg).below⟩
  have hc0b : decide (cut < 0) = false := by simp; omega
  by_cases hc1 : (n : Int) < cut
  · go_wp2
    go_ret
    exact ⟨rfl, (HK.out.tr hKg).below⟩
  have hc1b : decide ((n : Int) < cut) = false := by simp; omega
  obtain ⟨q, rfl⟩ : ∃ q : Nat, cut = (q : Int) := ⟨cut.toNat, by omega⟩
  have hqn : q ≤ n := by omega
  have hn300 : n ≤ 300 := by omega
  clear h300 hc0 hc1
  have hkq0 := hkq
  clear hkq
  have hkq : k0 < q := by have := hkq0; omega
  have HA1 : Hid (ansN (fltV S T) n = k0) := ansN_at (by omega) hno hz
  have HO1 : Hid (ownV (fltV S T) n = fltV S T k0) := ownV_at (by omega) hno hz
  have hz2 := flt_take (S := S) (T := T) hkq
  have HA2 : Hid (ansN (fltV S (T.take q)) q = k0) := ansN_at hkq (fun j hj => (flt_take (by omega)).trans (hno j hj)) (by rw [hz2]; exact hz)
  have HO2 : Hid (ownV (fltV S (T.take q)) q = fltV S T k0) := (ownV_at hkq (fun j hj => (flt_take (by omega)).trans (hno j hj)) (by rw [hz2]; exact hz)).trans hz2
  clear hno hz hz2
  generalize fltV S T k0 = z at *
  have hb1 : (0 : Int) ≤ (k0 : Int) := by omega
  have hb2 : (k0 : Int) < (q : Int) := by omega
  go_wp2_with (go_at_call 9; have hn := check_go (cp := cp) (HS.out.kept (by assumption)) (HT.out.kept (by assumption)) (HP.out.kept (by assumption)) hs (by omega); rw [HA1.out, HO1.out] at hn; refine hn.mono ?_; rintro e w2 ⟨rfl, hk2⟩; have hK2 : Kept W1 w2 none := hKg.tr hk2)
  have hqc : (q : Int) ≤ (cp : Int) := by omega
  go_region_held (fun w' => Kept W1 w' none)
    ((first | exact hK2 | exact Kept.tr hK2 (Kept.drew _ _) | assumption | exact Kept.tr (by assumption) (Kept.drew _ _)))
    ((go_at_call 9; have hn := check_go (cp := cp) (HS.out.kept (by assumption)) (HT.out.kept (by assumption)) ((HP.out.take hqn).kept (by assumption)) hs (by omega); rw [HA2.out, HO2.out] at hn; refine hn.mono ?_; rintro e w3 ⟨rfl, hk3⟩; have hK3 : Kept W1 w3 none := Kept.tr (by assumption) hk3))
  all_goals
    go_wp2
    go_ret
    exact ⟨rfl, (HK.out.tr hK3).below⟩
set_option maxRecDepth 100000 in
set_option maxHeartbeats 4000000 in
theorem beg_nonea_some {X : Sa} {S : St} {w : World} {pd : Addr} {n cp : Nat} {T : List (List Nat)} {cut : Int} (h : Sat w X S) (hT : Tabb w) (hP : Trc w (some pd) n T) (hC : Cap (some pd) n cp) (hs : siteB S = true) (hall : ∀ j, j < n → fltV S T j = 0) : Calls Tryd.prog 7 #[siteV X S, .slice (some pd) n cp, .int .i64 cut] w fun e w' => e = .returned (.bool true) ∧ Below w.heap.size w w' := by
  have hroom := hC.room
  have hcmax := hC.max
  have HCAP := Hid.mk' hC
  have HPS := Hid.mk' hP.size
  have k1 : Kept w (w.alloc (.cells #[.int .i64 S.id, .slice X.g S.groups.length X.gc, .slice X.a S.apart.length X.ac, .slice X.b S.between.length X.bc, .slice X.p S.phases.length X.pc, .slice X.e S.eyes.length X.ec, .int .i64 S.watch, .int .i64 S.feed, .int .i64 S.heal, .int .i64 S.low, .int .i64 S.high, .slice X.l S.plans.length X.lc] 33)) none := Kept.alloc _ _ _ _ _
  have hsb := sbox_alloc h 33
  have hsz : (w.alloc (.cells #[.int .i64 S.id, .slice X.g S.groups.length X.gc, .slice X.a S.apart.length X.ac, .slice X.b S.between.length X.bc, .slice X.p S.phases.length X.pc, .slice X.e S.eyes.length X.ec, .int .i64 S.watch, .int .i64 S.feed, .int .i64 S.heal, .int .i64 S.low, .int .i64 S.high, .slice X.l S.plans.length X.lc] 33)).heap.size = w.heap.size + 1 := by simp
  have hSA := h.kept k1
  have hTA := hT.kept k1
  have hPA := hP.kept k1
  obtain ⟨W1, hW1⟩ : ∃ W1, w.alloc (.cells #[.int .i64 S.id, .slice X.g S.groups.length X.gc, .slice X.a S.apart.length X.ac, .slice X.b S.between.length X.bc, .slice X.p S.phases.length X.pc, .slice X.e S.eyes.length X.ec, .int .i64 S.watch, .int .i64 S.feed, .int .i64 S.heal, .int .i64 S.low, .int .i64 S.high, .slice X.l S.plans.length X.lc] 33) = W1 := ⟨_, rfl⟩
  rw [hW1] at k1 hsb hsz hSA hTA hPA
  have HSB := Hid.mk' hsb
  have HSZ := Hid.mk' hsz
  have HK := Hid.mk' k1
  have HS := Hid.mk' hSA
  have HT := Hid.mk' hTA
  have HP := Hid.mk' hPA
  have hPm := hP.max
  have hK0 := Kept.refl W1 none
  have s0_ : ∀ w', Kept W1 w' none → w'.cell? ⟨w.heap.size, 0, none⟩ = some (.int .i64 S.id) := fun w' q => (HSB.out.kept q).c0
  have s1_ : ∀ w', Kept W1 w' none → w'.cell? ⟨w.heap.size, 1, none⟩ = some (.slice X.g S.groups.length X.gc) := fun w' q => (HSB.out.kept q).c1
  have s2_ : ∀ w', Kept W1 w' none → w'.cell? ⟨w.heap.size, 2, none⟩ = some (.slice X.a S.apart.length X.ac) := fun w' q => (HSB.out.kept q).c2
  have s3_ : ∀ w', Kept W1 w' none → w'.cell? ⟨w.heap.size, 3, none⟩ = some (.slice X.b S.between.length X.bc) := fun w' q => (HSB.out.kept q).c3
  have s4_ : ∀ w', Kept W1 w' none → w'.cell? ⟨w.heap.size, 4, none⟩ = some (.slice X.p S.phases.length X.pc) := fun w' q => (HSB.out.kept q).c4
  have s5_ : ∀ w', Kept W1 w' none → w'.cell? ⟨w.heap.size, 5, none⟩ = some (.slice X.e S.eyes.length X.ec) := fun w' q => (HSB.out.kept q).c5
  have s6_ : ∀ w', Kept W1 w' none → w'.cell? ⟨w.heap.size, 6, none⟩ = some (.int .i64 S.watch) := fun w' q => (HSB.out.kept q).c6
  have s7_ : ∀ w', Kept W1 w' none → w'.cell? ⟨w.heap.size, 7, none⟩ = some (.int .i64 S.feed) := fun w' q => (HSB.out.kept q).c7
  have s8_ : ∀ w', Kept W1 w' none → w'.cell? ⟨w.heap.size, 8, none⟩ = some (.int .i64 S.heal) := fun w' q => (HSB.out.kept q).c8
  have s9_ : ∀ w', Kept W1 w' none → w'.cell? ⟨w.heap.size, 9, none⟩ = some (.int .i64 S.low) := fun w' q => (HSB.out.kept q).c9
  have s10_ : ∀ w', Kept W1 w' none → w'.cell? ⟨w.heap.size, 10, none⟩ = some (.int .i64 S.high) := fun w' q => (HSB.out.kept q).c10
  have s11_ : ∀ w', Kept W1 w' none → w'.cell? ⟨w.heap.size, 11, none⟩ = some (.slice X.l S.plans.length X.lc) := fun w' q => (HSB.out.kept q).c11
  clear h hT hP k1 hsb hsz hSA hTA hPA
  go_enter Tryd.func7, Tryd.ntmps7
  go_wp2_with (first | rw [hW1] | (go_at_call 13; refine (salive_any HT.out).mono ?_; rintro e wa ⟨rfl, hka⟩; have hKa : Kept W1 wa none := hka))
  go_at_call 14
  refine (rgreat_any (HS.out.kept hKa)).mono ?_
  rintro e wg ⟨gr, rfl, hgr, hkg⟩
  have hKg : Kept W1 wg none := hKa.tr hkg
  cases gr with
  | true =>
    go_wp2
    go_ret
    exact ⟨rfl, (HK.out.tr hKg).below⟩
  | false =>
  have hF := Hid.mk' (hgr rfl)
  clear hgr
  by_cases h300 : (300 : Int) < (n : Int)
  · go_wp2
    go_ret
    exact ⟨rfl, (HK.out.tr hKg).below⟩
  have h300b : decide ((300 : Int) < (n : Int)) = false := by simp; omega
  by_cases hc0 : cut < 0
  · go_wp2
    go_ret
    exact ⟨rfl, (HK.out.tr hKg).below⟩
  have hc0b : decide (cut < 0) = false := by simp; omega
  by_cases hc1 : (n : Int) < cut
  · go_wp2
    go_ret
    exact ⟨rfl, (HK.out.tr hKg).below⟩
  have hc1b : decide ((n : Int) < cut) = false := by simp; omega
  obtain ⟨q, rfl⟩ : ∃ q : Nat, cut = (q : Int) := ⟨cut.toNat, by omega⟩
  have hqn : q ≤ n := by omega
  have hn300 : n ≤ 300 := by omega
  clear h300 hc0 hc1
  have HA1 : Hid (ansN (fltV S T) n = -1) := ansN_no hall
  have HO1 : Hid (ownV (fltV S T) n = 0) := ownV_no hall
  have hq0 : ∀ j, j < q → fltV S T j = 0 := fun j hj => hall j (by omega)
  clear hall
  have HA2 : Hid (ansN (fltV S (T.take q)) q = -1) := ansN_no (fun j hj => (flt_take hj).trans (hq0 j hj))
  have HO2 : Hid (ownV (fltV S (T.take q)) q = 0) := ownV_no (fun j hj => (flt_take hj).trans (hq0 j hj))
  have hql : q ≤ T.length := by have := HPS.out; omega
  have HFL := Hid.mk' (flt_long hql hq0)
  have HLL := Hid.mk' (long_len (m := S.groups.length) hql)
  have hng := (span_may hs).base.sh.ok.ng
  clear hq0
  go_wp2_with (go_at_call 9; have hn := check_go (cp := cp) (HS.out.kept (by assumption)) (HT.out.kept (by assumption)) (HP.out.kept (by assumption)) hs (by omega); rw [HA1.out, HO1.out] at hn; refine hn.mono ?_; rintro e w2 ⟨rfl, hk2⟩; have hK2 : Kept W1 w2 none := hKg.tr hk2)
  have hqc : (q : Int) ≤ (cp : Int) := by omega
  go_region_held (fun w' => Kept W1 w' none)
    ((first | exact hK2 | exact Kept.tr hK2 (Kept.drew _ _) | assumption | exact Kept.tr (by assumption) (Kept.drew _ _)))
    ((go_at_call 9; have hn := check_go (cp := cp) (HS.out.kept (by assumption)) (HT.out.kept (by assumption)) ((HP.out.take hqn).kept (by assumption)) hs (by omega); rw [HA2.out, HO2.out] at hn; refine hn.mono ?_; rintro e w3 ⟨rfl, hk3⟩; have hK3 : Kept W1 w3 none := Kept.tr (by assumption) hk3))
  all_goals
    have hmk := run_make_row' (P := Tryd.prog) 35 5 (.int .u8 0) 1 Tryd.uB Tryd.infoByte rfl .i64 .i64 S.groups.length (by omega) (by omega)
    go_wp2
    have hrw := World.rowIs_made w3 (.int .u8 0) S.groups.length 5
    have kM : Kept w3 (w3.alloc (.cells (madeCells #[.int .u8 0] S.groups.length) 5)) none := Kept.alloc _ _ _ _ _
    obtain ⟨W4, hW4⟩ : ∃ W4, w3.alloc (.cells (madeCells #[.int .u8 0] S.groups.length) 5) = W4 := ⟨_, rfl⟩
    rw [hW4] at hrw kM ⊢
    have HRW := Hid.mk' hrw
    have KM := Hid.mk' kM
    clear hW4 hrw kM hmk
    go_loopw [15] (fun i wr => ∃ k : Nat, k ≤ S.groups.length ∧ i = .int .i64 k ∧ Kept w3 wr none ∧ wr.rowIs w3.heap.size 5 S.groups.length (bcell k (List.replicate S.groups.length 4))) (fun i _ => S.groups.length - (intOf i).toNat)
    case atStart => exact ⟨0, by omega, rfl, KM.out, HRW.out.congr (fun i hi => by unfold bcell; simp)⟩
    case round =>
      obtain ⟨k, hk, rfl, hkw, hrow⟩ := hrel
      have HKW := Hid.mk' hkw
      have HRO := Hid.mk' hrow
      by_cases hlt : k < S.groups.length
      · have y0 := hrow.cell hlt
        have z0 := hrow.frozen k
        have h4 : lg (List.replicate S.groups.length 4) k = 4 := by simp [lg, hlt]
        have H4 := Hid.mk' h4
        clear hkw hrow h4
        go_wp2
        go_roundw
        case rel =>
          refine ⟨k + 1, by omega, by go_num, HKW.out.setNew (p := ⟨w3.heap.size, k, none⟩) (Nat.le_refl _) _, ?_⟩
          rw [← bcell_set, H4.out]
          exact HRO.out.set k _
        case measure => simp [intOf]; omega
      · have e : k = S.groups.length := by omega
        subst e
        have hby : By wr (some ⟨w3.heap.size, 0, none⟩) S.groups.length (List.replicate S.groups.length 4) := By.row HRO.out _ S.groups.length (Nat.le_refl _) (by simp) (by omega) (fun x hx => by
          have := (List.mem_replicate.1 hx).2
          omega) (fun i hi => by unfold bcell; rw [if_pos hi]; rfl)
        have hKr : Kept W1 wr none := hK3.tr hkw
        obtain ⟨l, hll, hlm, hlie, hlb⟩ := ((HP.out.take hqn).kept hKr).list
        have hblk : ∀ y ∈ l, 0 < y.2.1.length → ∀ b, y.1 = some b → b.block < wr.heap.size := fun y hy hp b e => by
          obtain ⟨b', off, e', hb', _⟩ := (hlb y hy).at_ hp
          rw [e] at e'
          injection e' with e'
          subst e'
          exact hb'
        obtain ⟨a4, c4, w4, hr4, hL4, hk4⟩ := (LtS.nil wr wr.heap.size).join l (c := cp) (m := q) hll.symm hlie ⟨fun e => (nomatch e), by omega, by omega⟩ hlb (fun y hy hp b e => ⟨fun ec => (nomatch ec), hblk y hy hp b e⟩) (by simp; omega) (Nat.le_refl _)
        simp only [List.length_nil, Nat.zero_add, List.nil_append] at hr4 hL4
        have hk4' : Kept wr w4 none := hk4
        have hs4 := hk4'.size
        have kB : Kept w4 (w4.alloc (.cells #[.slice (some ⟨w3.heap.size, 0, none⟩) S.groups.length S.groups.length, .slice (some ⟨w3.heap.size, 0, none⟩) S.groups.length S.groups.length] 35)) none := Kept.alloc _ _ _ _ _
        have hw3r := HRO.out.lt
        have hown4 := hL4.own.lt
        have hlfl : ([(some ⟨w3.heap.size, 0, none⟩, List.replicate S.groups.length 4, S.groups.length), (some ⟨w3.heap.size, 0, none⟩, List.replicate S.groups.length 4, S.groups.length)] : List Lt).length = 2 := rfl
        have hlieB : Lie (w4.alloc (.cells #[.slice (some ⟨w3.heap.size, 0, none⟩) S.groups.length S.groups.length, .slice (some ⟨w3.heap.size, 0, none⟩) S.groups.length S.groups.length] 35)) (some ⟨w4.heap.size, 0, none⟩) 2 1 (fun i j => ltV (([(some ⟨w3.heap.size, 0, none⟩, List.replicate S.groups.length 4, S.groups.length), (some ⟨w3.heap.size, 0, none⟩, List.replicate S.groups.length 4, S.groups.length)] : List Lt).getD i lt0) j) := ⟨fun _ => ⟨w4.heap.size, 0, rfl, by simp, fun i hi j hj => by
          obtain rfl : j = 0 := by omega
          have : i = 0 ∨ i = 1 := by omega
          rcases this with rfl | rfl
          · refine alloc_at8 _ _ _ rfl ?_
            show some _ = some (ltV _ 0)
            simp [ltV]
          · refine alloc_at8 _ _ _ rfl ?_
            show some _ = some (ltV _ 0)
            simp [ltV]⟩⟩
        obtain ⟨a5, c5, w5, hr5, hL5, hk5⟩ := (hL4.kept kB).join _ (c := 2) (m := 2) hlfl.symm hlieB ⟨fun e => (nomatch e), Nat.le_refl _, by omega⟩ (fun y hy => by
          have : y = (some ⟨w3.heap.size, 0, none⟩, List.replicate S.groups.length 4, S.groups.length) := by simpa using hy
          subst this
          have := (hby.kept hk4').kept kB
          simpa using this) (fun y hy hp b e => by
          have : y = (some ⟨w3.heap.size, 0, none⟩, List.replicate S.groups.length 4, S.groups.length) := by simpa using hy
          subst this
          injection e with e
          subst e
          refine ⟨fun ec => ?_, by simp; omega⟩
          have := (hown4 _ ec).1
          dsimp only at this
          omega) (by rw [hll, hlfl]; omega) (by have := kB.size; omega)
        obtain ⟨a6, c6, e6, hT6⟩ := hL5.trc (by rw [List.length_append, hll, hlfl]; omega)
        have hlen6 : (l ++ ([(some ⟨w3.heap.size, 0, none⟩, List.replicate S.groups.length 4, S.groups.length), (some ⟨w3.heap.size, 0, none⟩, List.replicate S.groups.length 4, S.groups.length)] : List Lt)).length = q + 2 := by rw [List.length_append, hll]; rfl
        rw [hll] at hr5 e6
        injection e6 with e61 e62 e63
        subst e61 e63
        clear e62
        rw [hlen6, List.map_append, hlm] at hT6
        have HT6 : Hid (Trc w5 a5 (q + 2) (longL T q S.groups.length)) := hT6
        have HR4 := Hid.mk' hr4
        try simp only [Nat.zero_add] at hr5
        have HR5 := Hid.mk' hr5
        have hK5 : Kept W1 w5 none := ((hKr.tr hk4').tr kB).newRow hk5 (fun i e => by
          have := (hown4 i e).1
          have := hKr.size
          omega)
        have HA3 : Hid (ansN (fltV S (longL T q S.groups.length)) (q + 2) = -1) := ansN_no HFL.out
        have HO3 : Hid (ownV (fltV S (longL T q S.groups.length)) (q + 2) = 0) := ownV_no HFL.out
        clear hby hll hlm hlie hlb hblk hL4 hk4 hk4' hs4 kB hw3r hown4 hlfl hlieB hL5 hk5 hT6 hlen6 hr4 hr5 hkw hrow
        go_wp2_with (first
          | (have hgo := HX5; clear hgo; go_at_call 9; have hn := check_go (cp := c5) (HS.out.kept hK5) (HT.out.kept hK5) HT6.out hs (by omega); rw [HA3.out, HO3.out] at hn; refine hn.mono ?_; rintro e w7 ⟨rfl, hk7⟩)
          | (have hgo := HX4; clear hgo; at_builtin; refine wpList_app8 (by rfl) _ _ _ (by rfl) (by rfl) (by rfl) HR5.out ?_; have HX5 : Hid True := trivial)
          | (at_builtin; refine wpList_app8 (by rfl) _ _ _ (by rfl) (by rfl) (by rfl) HR4.out ?_; have HX4 : Hid True := trivial))
        go_ret
        exact ⟨rfl, ((HK.out.tr hK5).tr hk7).below⟩
set_option maxRecDepth 100000 in
set_option maxHeartbeats 4000000 in
theorem beg_noneb_some {X : Sa} {S : St} {w : World} {pd : Addr} {n cp : Nat} {T : List (List Nat)} {cut : Int} (h : Sat w X S) (hT : Tabb w) (hP : Trc w (some pd) n T) (hC : Cap (some pd) n cp) (hs : siteB S = true) {k0 : Nat} (hk0 : k0 < n) (hkc : cut ≤ (k0 : Int)) (hno : ∀ j, j < k0 → fltV S T j = 0) (hz : fltV S T k0 ≠ 0) : Calls Tryd.prog 7 #[siteV X S, .slice (some pd) n cp, .int .i64 cut] w fun e w' => e = .returned (.bool true) ∧ Below w.heap.size w w' := by
  have hroom := hC.room
  have hcmax := hC.max
  have HCAP := Hid.mk' hC
  have HPS := Hid.mk' hP.size
  have k1 : Kept w (w.alloc (.cells #[.int .i64 S.id, .slice X.g S.groups.length X.gc, .slice X.a S.apart.length X.ac, .slice X.b S.between.length X.bc, .slice X.p S.phases.length X.pc, .slice X.e S.eyes.length X.ec, .int .i64 S.watch, .int .i64 S.feed, .int .i64 S.heal, .int .i64 S.low, .int .i64 S.high, .slice X.l S.plans.length X.lc] 33)) none := Kept.alloc _ _ _ _ _
  have hsb := sbox_alloc h 33
  have hsz : (w.alloc (.cells #[.int .i64 S.id, .slice X.g S.groups.length X.gc, .slice X.a S.apart.length X.ac, .slice X.b S.between.length X.bc, .slice X.p S.phases.length X.pc, .slice X.e S.eyes.length X.ec, .int .i64 S.watch, .int .i64 S.feed, .int .i64 S.heal, .int .i64 S.low, .int .i64 S.high, .slice X.l S.plans.length X.lc] 33)).heap.size = w.heap.size + 1 := by simp
  have hSA := h.kept k1
  have hTA := hT.kept k1
  have hPA := hP.kept k1
  obtain ⟨W1, hW1⟩ : ∃ W1, w.alloc (.cells #[.int .i64 S.id, .slice X.g S.groups.length X.gc, .slice X.a S.apart.length X.ac, .slice X.b S.between.length X.bc, .slice X.p S.phases.length X.pc, .slice X.e S.eyes.length X.ec, .int .i64 S.watch, .int .i64 S.feed, .int .i64 S.heal, .int .i64 S.low, .int .i64 S.high, .slice X.l S.plans.length X.lc] 33) = W1 := ⟨_, rfl⟩
  rw [hW1] at k1 hsb hsz hSA hTA hPA
  have HSB := Hid.mk' hsb
  have HSZ := Hid.mk' hsz
  have HK := Hid.mk' k1
  have HS := Hid.mk' hSA
  have HT := Hid.mk' hTA
  have HP := Hid.mk' hPA
  have hPm := hP.max
  have hK0 := Kept.refl W1 none
  have s0_ : ∀ w', Kept W1 w' none → w'.cell? ⟨w.heap.size, 0, none⟩ = some (.int .i64 S.id) := fun w' q => (HSB.out.kept q).c0
  have s1_ : ∀ w', Kept W1 w' none → w'.cell? ⟨w.heap.size, 1, none⟩ = some (.slice X.g S.groups.length X.gc) := fun w' q => (HSB.out.kept q).c1
  have s2_ : ∀ w', Kept W1 w' none → w'.cell? ⟨w.heap.size, 2, none⟩ = some (.slice X.a S.apart.length X.ac) := fun w' q => (HSB.out.kept q).c2
  have s3_ : ∀ w', Kept W1 w' none → w'.cell? ⟨w.heap.size, 3, none⟩ = some (.slice X.b S.between.length X.bc) := fun w' q => (HSB.out.kept q).c3
  have s4_ : ∀ w', Kept W1 w' none → w'.cell? ⟨w.heap.size, 4, none⟩ = some (.slice X.p S.phases.length X.pc) := fun w' q => (HSB.out.kept q).c4
  have s5_ : ∀ w', Kept W1 w' none → w'.cell? ⟨w.heap.size, 5, none⟩ = some (.slice X.e S.eyes.length X.ec) := fun w' q => (HSB.out.kept q).c5
  have s6_ : ∀ w', Kept W1 w' none → w'.cell? ⟨w.heap.size, 6, none⟩ = some (.int .i64 S.watch) := fun w' q => (HSB.out.kept q).c6
  have s7_ : ∀ w', Kept W1 w' none → w'.cell? ⟨w.heap.size, 7, none⟩ = some (.int .i64 S.feed) := fun w' q => (HSB.out.kept q).c7
  have s8_ : ∀ w', Kept W1 w' none → w'.cell? ⟨w.heap.size, 8, none⟩ = some (.int .i64 S.heal) := fun w' q => (HSB.out.kept q).c8
  have s9_ : ∀ w', Kept W1 w' none → w'.cell? ⟨w.heap.size, 9, none⟩ = some (.int .i64 S.low) := fun w' q => (HSB.out.kept q).c9
  have s10_ : ∀ w', Kept W1 w' none → w'.cell? ⟨w.heap.size, 10, none⟩ = some (.int .i64 S.high) := fun w' q => (HSB.out.kept q).c10
  have s11_ : ∀ w', Kept W1 w' none → w'.cell? ⟨w.heap.size, 11, none⟩ = some (.slice X.l S.plans.length X.lc) := fun w' q => (HSB.out.kept q).c11
  clear h hT hP k1 hsb hsz hSA hTA hPA
  go_enter Tryd.func7, Tryd.ntmps7
  go_wp2_with (first | rw [hW1] | (go_at_call 13; refine (salive_any HT.out).mono ?_; rintro e wa ⟨rfl, hka⟩; have hKa : Kept W1 wa none := hka))
  go_at_call 14
  refine (rgreat_any (HS.out.kept hKa)).mono ?_
  rintro e wg ⟨gr, rfl, hgr, hkg⟩
  have hKg : Kept W1 wg none := hKa.tr hkg
  cases gr with
  | true =>
    go_wp2
    go_ret
    exact ⟨rfl, (HK.out.tr hKg).below⟩
  | false =>
  have hF := Hid.mk' (hgr rfl)
  clear hgr
  by_cases h300 : (300 : Int) < (n : Int)
  · go_wp2
    go_ret
    exact ⟨rfl, (HK.out.tr hKg).below⟩
  have h300b : decide ((300 : Int) < (n : Int)) = false := by simp; omega
  by_cases hc0 : cut < 0
  · go_wp2
    go_ret
    exact ⟨rfl, (HK.out.tr hKg).below⟩
  have hc0b : decide (cut < 0) = false := by simp; omega
  by_cases hc1 : (n : Int) < cut
  · go_wp2
    go_ret
    exact ⟨rfl, (HK.out.tr hKg).below⟩
  have hc1b : decide ((n : Int) < cut) = false := by simp; omega
  obtain ⟨q, rfl⟩ : ∃ q : Nat, cut = (q : Int) := ⟨cut.toNat, by omega⟩
  have hqn : q ≤ n := by omega
  have hn300 : n ≤ 300 := by omega
  clear h300 hc0 hc1
  have HA1 : Hid (ansN (fltV S T) n = k0) := ansN_at hk0 hno hz
  have HO1 : Hid (ownV (fltV S T) n = fltV S T k0) := ownV_at hk0 hno hz
  have hq0 : ∀ j, j < q → fltV S T j = 0 := fun j hj => hno j (by omega)
  have hb1 : (0 : Int) ≤ (k0 : Int) := by omega
  have hb2 : decide ((k0 : Int) < (q : Int)) = false := by simp; omega
  have hb3 : ¬ k0 < q := by omega
  clear hno hz hkc
  generalize fltV S T k0 = z at *
  have HA2 : Hid (ansN (fltV S (T.take q)) q = -1) := ansN_no (fun j hj => (flt_take hj).trans (hq0 j hj))
  have HO2 : Hid (ownV (fltV S (T.take q)) q = 0) := ownV_no (fun j hj => (flt_take hj).trans (hq0 j hj))
  have hql : q ≤ T.length := by have := HPS.out; omega
  have HFL := Hid.mk' (flt_long hql hq0)
  have HLL := Hid.mk' (long_len (m := S.groups.length) hql)
  have hng := (span_may hs).base.sh.ok.ng
  clear hq0
  go_wp2_with (go_at_call 9; have hn := check_go (cp := cp) (HS.out.kept (by assumption)) (HT.out.kept (by assumption)) (HP.out.kept (by assumption)) hs (by omega); rw [HA1.out, HO1.out] at hn; refine hn.mono ?_; rintro e w2 ⟨rfl, hk2⟩; have hK2 : Kept W1 w2 none := hKg.tr hk2)
  have hqc : (q : Int) ≤ (cp : Int) := by omega
  go_region_held (fun w' => Kept W1 w' none)
    ((first | exact hK2 | exact Kept.tr hK2 (Kept.drew _ _) | assumption | exact Kept.tr (by assumption) (Kept.drew _ _)))
    ((go_at_call 9; have hn := check_go (cp := cp) (HS.out.kept (by assumption)) (HT.out.kept (by assumption)) ((HP.out.take hqn).kept (by assumption)) hs (by omega); rw [HA2.out, HO2.out] at hn; refine hn.mono ?_; rintro e w3 ⟨rfl, hk3⟩; have hK3 : Kept W1 w3 none := Kept.tr (by assumption) hk3))
  all_goals
    have hmk := run_make_row' (P := Tryd.prog) 35 5 (.int .u8 0) 1 Tryd.uB Tryd.infoByte rfl .i64 .i64 S.groups.length (by omega) (by omega)
    go_wp2
    have hrw := World.rowIs_made w3 (.int .u8 0) S.groups.length 5
    have kM : Kept w3 (w3.alloc (.cells (madeCells #[.int .u8 0] S.groups.length) 5)) none := Kept.alloc _ _ _ _ _
    obtain ⟨W4, hW4⟩ : ∃ W4, w3.alloc (.cells (madeCells #[.int .u8 0] S.groups.length) 5) = W4 := ⟨_, rfl⟩
    rw [hW4] at hrw kM ⊢
    have HRW := Hid.mk' hrw
    have KM := Hid.mk' kM
    clear hW4 hrw kM hmk
    go_loopw [15] (fun i wr => ∃ k : Nat, k ≤ S.groups.length ∧ i = .int .i64 k ∧ Kept w3 wr none ∧ wr.rowIs w3.heap.size 5 S.groups.length (bcell k (List.replicate S.groups.length 4))) (fun i _ => S.groups.length - (intOf i).toNat)
    case atStart => exact ⟨0, by omega, rfl, KM.out, HRW.out.congr (fun i hi => by unfold bcell; simp)⟩
    case round =>
      obtain ⟨k, hk, rfl, hkw, hrow⟩ := hrel
      have HKW := Hid.mk' hkw
      have HRO := Hid.mk' hrow
      by_cases hlt : k < S.groups.length
      · have y0 := hrow.cell hlt
        have z0 := hrow.frozen k
        have h4 : lg (List.replicate S.groups.length 4) k = 4 := by simp [lg, hlt]
        have H4 := Hid.mk' h4
        clear hkw hrow h4
        go_wp2
        go_roundw
        case rel =>
          refine ⟨k + 1, by omega, by go_num, HKW.out.setNew (p := ⟨w3.heap.size, k, none⟩) (Nat.le_refl _) _, ?_⟩
          rw [← bcell_set, H4.out]
          exact HRO.out.set k _
        case measure => simp [intOf]; omega
      · have e : k = S.groups.length := by omega
        subst e
        have hby : By wr (some ⟨w3.heap.size, 0, none⟩) S.groups.length (List.replicate S.groups.length 4) := By.row HRO.out _ S.groups.length (Nat.le_refl _) (by simp) (by omega) (fun x hx => by
          have := (List.mem_replicate.1 hx).2
          omega) (fun i hi => by unfold bcell; rw [if_pos hi]; rfl)
        have hKr : Kept W1 wr none := hK3.tr hkw
        obtain ⟨l, hll, hlm, hlie, hlb⟩ := ((HP.out.take hqn).kept hKr).list
        have hblk : ∀ y ∈ l, 0 < y.2.1.length → ∀ b, y.1 = some b → b.block < wr.heap.size := fun y hy hp b e => by
          obtain ⟨b', off, e', hb', _⟩ := (hlb y hy).at_ hp
          rw [e] at e'
          injection e' with e'
          subst e'
          exact hb'
        obtain ⟨a4, c4, w4, hr4, hL4, hk4⟩ := (LtS.nil wr wr.heap.size).join l (c := cp) (m := q) hll.symm hlie ⟨fun e => (nomatch e), by omega, by omega⟩ hlb (fun y hy hp b e => ⟨fun ec => (nomatch ec), hblk y hy hp b e⟩) (by simp; omega) (Nat.le_refl _)
        simp only [List.length_nil, Nat.zero_add, List.nil_append] at hr4 hL4
        have hk4' : Kept wr w4 none := hk4
        have hs4 := hk4'.size
        have kB : Kept w4 (w4.alloc (.cells #[.slice (some ⟨w3.heap.size, 0, none⟩) S.groups.length S.groups.length, .slice (some ⟨w3.heap.size, 0, none⟩) S.groups.length S.groups.length] 35)) none := Kept.alloc _ _ _ _ _
        have hw3r := HRO.out.lt
        have hown4 := hL4.own.lt
        have hlfl : ([(some ⟨w3.heap.size, 0, none⟩, List.replicate S.groups.length 4, S.groups.length), (some ⟨w3.heap.size, 0, none⟩, List.replicate S.groups.length 4, S.groups.length)] : List Lt).length = 2 := rfl
        have hlieB : Lie (w4.alloc (.cells #[.slice (some ⟨w3.heap.size, 0, none⟩) S.groups.length S.groups.length, .slice (some ⟨w3.heap.size, 0, none⟩) S.groups.length S.groups.length] 35)) (some ⟨w4.heap.size, 0, none⟩) 2 1 (fun i j => ltV (([(some ⟨w3.heap.size, 0, none⟩, List.replicate S.groups.length 4, S.groups.length), (some ⟨w3.heap.size, 0, none⟩, List.replicate S.groups.length 4, S.groups.length)] : List Lt).getD i lt0) j) := ⟨fun _ => ⟨w4.heap.size, 0, rfl, by simp, fun i hi j hj => by
          obtain rfl : j = 0 := by omega
          have : i = 0 ∨ i = 1 := by omega
          rcases this with rfl | rfl
          · refine alloc_at8 _ _ _ rfl ?_
            show some _ = some (ltV _ 0)
            simp [ltV]
          · refine alloc_at8 _ _ _ rfl ?_
            show some _ = some (ltV _ 0)
            simp [ltV]⟩⟩
        obtain ⟨a5, c5, w5, hr5, hL5, hk5⟩ := (hL4.kept kB).join _ (c := 2) (m := 2) hlfl.symm hlieB ⟨fun e => (nomatch e), Nat.le_refl _, by omega⟩ (fun y hy => by
          have : y = (some ⟨w3.heap.size, 0, none⟩, List.replicate S.groups.length 4, S.groups.length) := by simpa using hy
          subst this
          have := (hby.kept hk4').kept kB
          simpa using this) (fun y hy hp b e => by
          have : y = (some ⟨w3.heap.size, 0, none⟩, List.replicate S.groups.length 4, S.groups.length) := by simpa using hy
          subst this
          injection e with e
          subst e
          refine ⟨fun ec => ?_, by simp; omega⟩
          have := (hown4 _ ec).1
          dsimp only at this
          omega) (by rw [hll, hlfl]; omega) (by have := kB.size; omega)
        obtain ⟨a6, c6, e6, hT6⟩ := hL5.trc (by rw [List.length_append, hll, hlfl]; omega)
        have hlen6 : (l ++ ([(some ⟨w3.heap.size, 0, none⟩, List.replicate S.groups.length 4, S.groups.length), (some ⟨w3.heap.size, 0, none⟩, List.replicate S.groups.length 4, S.groups.length)] : List Lt)).length = q + 2 := by rw [List.length_append, hll]; rfl
        rw [hll] at hr5 e6
        injection e6 with e61 e62 e63
        subst e61 e63
        clear e62
        rw [hlen6, List.map_append, hlm] at hT6
        have HT6 : Hid (Trc w5 a5 (q + 2) (longL T q S.groups.length)) := hT6
        have HR4 := Hid.mk' hr4
        try simp only [Nat.zero_add] at hr5
        have HR5 := Hid.mk' hr5
        have hK5 : Kept W1 w5 none := ((hKr.tr hk4').tr kB).newRow hk5 (fun i e => by
          have := (hown4 i e).1
          have := hKr.size
          omega)
        have HA3 : Hid (ansN (fltV S (longL T q S.groups.length)) (q + 2) = -1) := ansN_no HFL.out
        have HO3 : Hid (ownV (fltV S (longL T q S.groups.length)) (q + 2) = 0) := ownV_no HFL.out
        clear hby hll hlm hlie hlb hblk hL4 hk4 hk4' hs4 kB hw3r hown4 hlfl hlieB hL5 hk5 hT6 hlen6 hr4 hr5 hkw hrow
        go_wp2_with (first
          | (have hgo := HX5; clear hgo; go_at_call 9; have hn := check_go (cp := c5) (HS.out.kept hK5) (HT.out.kept hK5) HT6.out hs (by omega); rw [HA3.out, HO3.out] at hn; refine hn.mono ?_; rintro e w7 ⟨rfl, hk7⟩)
          | (have hgo := HX4; clear hgo; at_builtin; refine wpList_app8 (by rfl) _ _ _ (by rfl) (by rfl) (by rfl) HR5.out ?_; have HX5 : Hid True := trivial)
          | (at_builtin; refine wpList_app8 (by rfl) _ _ _ (by rfl) (by rfl) (by rfl) HR4.out ?_; have HX4 : Hid True := trivial))
        go_ret
        exact ⟨rfl, ((HK.out.tr hK5).tr hk7).below⟩
theorem sbegins_any {X : Sa} {S : St} {w : World} {pa : Option Addr} {n cp : Nat} {T : List (List Nat)} {cut : Int} (h : Sat w X S) (hT : Tabb w) (hP : Trc w pa n T) (hC : Cap pa n cp) : Calls Tryd.prog 7 #[siteV X S, .slice pa n cp, .int .i64 cut] w fun e w' => e = .returned (.bool true) ∧ Below w.heap.size w w' := by
  cases hs : siteB S with
  | false =>
    cases pa with
    | none => exact beg_no_nil h hT hP hC hs
    | some pd => exact beg_no_some h hT hP hC hs
  | true =>
    cases pa with
    | none => exact beg_nonea_nil h hT hP hC hs (fun j hj => by have := (hC.nil rfl).1; omega)
    | some pd =>
      rcases firstN_cases (fltV S T) n with ⟨_, h2⟩ | ⟨k0, _, h2, h3, h4⟩
      · exact beg_nonea_some h hT hP hC hs h2
      · by_cases hc : (k0 : Int) < cut
        · exact beg_fault_some h hT hP hC hs hc h3 h4
        · exact beg_noneb_some h hT hP hC hs h2 (by omega) h3 h4

end Go.Proofs.YtpnmlgillphodaaDoor
