/-
  Texts joined: some of those that the proofs of this seat stand on.
-/
import Derived.Test.YtcgflfngoaccoaaDoorMeanMJ
/-
  THE CONTRACT of holds, of SafeMeans, case by case (made by a program).
-/
namespace Go.Proofs.YtcgflfngoaccoaaDoor
open Go.RowKit Go.Lib Go.Deep
set_option linter.unusedVariables false
set_option linter.unusedSimpArgs false

set_option maxRecDepth 100000 in
set_option maxHeartbeats 4000000 in
theorem holds_t1a {X : Sa} {S : St} {w : World} {bp op cp q : Nat} {T : List (List Nat)} (h : Sat w X S) (hP : Trc w (some ⟨bp, op, none⟩) q T) (hN : Nof S T q) {t a : Nat} (ht : t < q) (ha : a < S.groups.length) (hfl : allIs (tk T t) 4 = false) (hx : lg (tk T t) a = 1) {u0 : Nat} (hu0 : t = u0 + 1) (hfu : allIs (tk T u0) 4 = false) (hw : lg (tk T u0) a = 3) (hye : (lastN T a u0 : Int) = (S.gr a).yellow) (hl : lastN T a u0 = 1) : Calls Tryd.prog 7 #[siteV X S, .slice (some ⟨bp, op, none⟩) q cp, .int .i64 (t : Int), .int .i64 (a : Int)] w fun e w' => e = .returned (.bool true) ∧ Kept w w' none := by
  have hng := mean_ng hN
  have hfew := hN.few
  have HSH := Hid.mk' (span_may hN.ok).base.sh
  have hlen : ∀ i, i < q → (tk T i).length = S.groups.length := fun i hi => (mean_out hN hi).1
  have HNF := Hid.mk' hN
  have k1 : Kept w (w.alloc (.cells #[.int .i64 S.id, .slice X.g S.groups.length X.gc, .slice X.a S.apart.length X.ac, .slice X.b S.between.length X.bc, .slice X.p S.phases.length X.pc, .slice X.e S.eyes.length X.ec, .int .i64 S.watch, .int .i64 S.feed, .int .i64 S.heal, .int .i64 S.low, .int .i64 S.high, .slice X.l S.plans.length X.lc] 29)) none := Kept.alloc _ _ _ _ _
  have hsb := sbox_alloc h 29
  have hPA := hP.kept k1
  obtain ⟨W1, hW1⟩ : ∃ W1, w.alloc (.cells #[.int .i64 S.id, .slice X.g S.groups.length X.gc, .slice X.a S.apart.length X.ac, .slice X.b S.between.length X.bc, .slice X.p S.phases.length X.pc, .slice X.e S.eyes.length X.ec, .int .i64 S.watch, .int .i64 S.feed, .int .i64 S.heal, .int .i64 S.low, .int .i64 S.high, .slice X.l S.plans.length X.lc] 29) = W1 := ⟨_, rfl⟩
  rw [hW1] at k1 hsb hPA
  have HSB := Hid.mk' hsb
  have HK := Hid.mk' k1
  have HP := Hid.mk' hPA
  have HLEN := Hid.mk' hlen
  obtain ⟨bt, ot, ct, y1, y2⟩ := tick_at hPA ht (hlen t ht) (by omega)
  have HY2 : Hid (∀ b, b < S.groups.length → ∀ w', Kept W1 w' none → w'.cell? ⟨bt, ot + b, none⟩ = some (.int .u8 ((lg (tk T t) b : Nat) : Int))) := fun b hb w' qk => cell_kept0 (y2 b hb) qk
  have t1_ : ∀ w', Kept W1 w' none → w'.cell? ⟨bp, op + t, none⟩ = some (.slice (some ⟨bt, ot, none⟩) S.groups.length ct) := fun w' qk => cell_kept0 y1 qk
  have HALL := Hid.mk' (fun w' (qk : Kept W1 w' none) => mall_any (cp := cp) (hPA.kept qk) ht (hlen t ht) (by omega))
  have hK0 := Kept.refl W1 none
  have HT0 : Hid True := trivial
  obtain ⟨ba, oa, ea, hca⟩ := hsb.sat.apAt (n := S.groups.length) (by omega) (by have := HSH.out.ok.na; omega)
  have c1_ : ∀ w', Kept W1 w' none → w'.cell? ⟨w.heap.size, 1, none⟩ = some (.slice X.g S.groups.length X.gc) := fun w' qk => (HSB.out.kept qk).c1
  have c2_ : ∀ w', Kept W1 w' none → w'.cell? ⟨w.heap.size, 2, none⟩ = some (.slice (some ⟨ba, oa, none⟩) S.groups.length X.ac) := fun w' qk => by have h5 := (HSB.out.kept qk).c2; rw [ea, HSH.out.ok.na] at h5; exact h5
  have p1_ : ∀ w', Kept W1 w' none → w'.cell? ⟨ba, oa + a, none⟩ = some (.int .u32 (S.ap a : Int)) := fun w' qk => cell_kept0 (hca a ha) qk
  have har := hsb.sat.apr a
  have hal : S.groups.length ≤ X.ac := by have := hsb.sat.ak.room; have := HSH.out.ok.na; omega
  have ta_ := HY2.out a ha
  obtain ⟨u, hu⟩ : ∃ u, t = u + 1 := ⟨t - 1, by omega⟩
  have huq : u < q := by omega
  obtain ⟨bu, ou, cu, v1, v2⟩ := tick_at hPA huq (hlen u huq) (by omega)
  have u1_ : ∀ w', Kept W1 w' none → w'.cell? ⟨bp, op + u, none⟩ = some (.slice (some ⟨bu, ou, none⟩) S.groups.length cu) := fun w' qk => cell_kept0 v1 qk
  have ua_ : ∀ w', Kept W1 w' none → w'.cell? ⟨bu, ou + a, none⟩ = some (.int .u8 ((lg (tk T u) a : Nat) : Int)) := fun w' qk => cell_kept0 (v2 a ha) qk
  have HALU := Hid.mk' (fun w' (qk : Kept W1 w' none) => mall_any (cp := cp) (hPA.kept qk) huq (hlen u huq) (by omega))
  have hsub : (t : Int) - 1 = (u : Int) := by omega
  have HSUB := Hid.mk' hsub
  have hq1 : (0 : Int) ≤ (t : Int) - 1 := by omega
  have hq2 : ((t : Int) - 1).toNat = u := by omega
  have hq3 : (t : Int) - 1 < (q : Int) := by omega
  have htp : (0 : Int) < (t : Int) := by omega
  have HU := Hid.mk' hu
  clear v1 v2
  obtain rfl : u = u0 := by omega
  clear hu0 hu
  have h04 : (lg (tk T t) 0 == 4) = false := by
    have := mean_all hN ht
    rw [hfl] at this
    simpa using this
  rw [h04] at HALL
  rw [hx] at ta_
  replace ta_ : ∀ w', Kept W1 w' none → w'.cell? ⟨bt, ot + a, none⟩ = some (.int .u8 1) := ta_
  have hu4 : (lg (tk T u) 0 == 4) = false := by
    have := mean_all hN huq
    rw [hfu] at this
    simpa using this
  rw [hu4] at HALU
  clear hu4
  rw [hw] at ua_
  replace ua_ : ∀ w', Kept W1 w' none → w'.cell? ⟨bu, ou + a, none⟩ = some (.int .u8 3) := ua_
  have HLA : Hid (∀ j, Calls Tryd.prog 13 #[.slice (some ⟨bp, op, none⟩) q cp, .int .i64 (u : Int), .int .i64 (a : Int)] (W1.drewN j) fun e w' => e = .returned (.int .i64 ((lastN T a u : Nat) : Int)) ∧ ∃ m, w' = (W1.drewN j).drewN m) := fun j => mlast_any (HP.out.kept (Kept.drewN _ _ _)) HNF.out.few huq (fun i hi => HLEN.out i (by omega)) ha
  obtain ⟨bg, og, eg, g0, g1, g2⟩ := HSB.out.sat.grAt ha
  have hgc := HSB.out.sat.gk.room
  rw [eg] at c1_
  clear eg
  have hRp := lastN_pos T a u
  clear hRp
  rw [← hye, hl, show (((1 : Nat)) : Int) = 1 from rfl] at g2
  rw [hl, show (((1 : Nat)) : Int) = 1 from rfl] at HLA
  clear hye hl
  clear h hP hN k1 hsb hPA hlen y1 y2 hca ea
  clear hfl hx h04
  go_enter Tryd.func7, Tryd.ntmps7
  go_wp2_with (first | rw [hW1] | (have hgo := HT1; clear hgo; go_at_call 12; (try rw [HSUB.out]); refine (HALU.out _ hK0).mono ?_; rintro e w3 ⟨rfl, hw3⟩; have hw3 := hw3.symm; subst hw3) | (have hgo := HT0; clear hgo HT0; go_at_call 12; refine (HALL.out _ hK0).mono ?_; rintro e w2 ⟨rfl, hw2⟩; have hw2 := hw2.symm; subst hw2; have HT1 : Hid True := trivial))
  go_quiet ((go_at_call 13; (try rw [HSUB.out]); exact Calls.quiet_of (HLA.out _)))
  go_wp2
  go_loopw [11, 12, 13] (fun i _ _ wr => ∃ b : Nat, b ≤ S.groups.length ∧ i = .int .i64 b ∧ Kept W1 wr none) (fun i _ _ _ => S.groups.length - (intOf i).toNat)
  case atStart => exact ⟨0, by omega, rfl, Kept.drewN _ _ _⟩
  case round =>
    obtain ⟨b, hb, rfl, hkw⟩ := hrel
    have HKW := Hid.mk' hkw
    by_cases hbl : b < S.groups.length
    · have hbu : ((b : Int) % 18446744073709551616) = (b : Int) := by omega
      have hbit := zero_bit (S.ap a) b har
      by_cases hap : (S.ap a).testBit b = true
      · rw [hap] at hbit
        replace hbit : (bits .and .u32 ((S.ap a : Int) / 2 ^ b) 1 == 0) = false := hbit
        generalize S.ap a = P at *
        go_wp2
        obtain ⟨wi, hwi⟩ : ∃ wi, wi = wr := ⟨_, rfl⟩
        subst hwi
        go_loopw [13] (fun i wr2 => i = .int .i64 1 ∧ wr2 = wi) (fun _ _ => 0)
        case atStart => exact ⟨rfl, rfl⟩
        case round =>
          obtain ⟨rfl, rfl⟩ := hrel
          go_wp2
          go_roundw
          case rel => exact ⟨b + 1, by omega, by go_num, HKW.out⟩
          case measure => simp [intOf]; omega
      · have hap : (S.ap a).testBit b = false := by simpa using hap
        rw [hap] at hbit
        replace hbit : (bits .and .u32 ((S.ap a : Int) / 2 ^ b) 1 == 0) = true := hbit
        clear hap
        generalize S.ap a = P at *
        go_wp2
        go_roundw
        case rel => exact ⟨b + 1, by omega, by go_num, HKW.out⟩
        case measure => simp [intOf]; omega
    · go_wp2
      go_ret
      exact ⟨rfl, HK.out.tr HKW.out⟩

end Go.Proofs.YtcgflfngoaccoaaDoor

/-
  THE CONTRACT of holds, of SafeMeans, case by case (made by a program).
-/
namespace Go.Proofs.YtcgflfngoaccoaaDoor
open Go.RowKit Go.Lib Go.Deep
set_option linter.unusedVariables false
set_option linter.unusedSimpArgs false

set_option maxRecDepth 100000 in
set_option maxHeartbeats 4000000 in
theorem holds_t1b {X : Sa} {S : St} {w : World} {bp op cp q : Nat} {T : List (List Nat)} (h : Sat w X S) (hP : Trc w (some ⟨bp, op, none⟩) q T) (hN : Nof S T q) {t a : Nat} (ht : t < q) (ha : a < S.groups.length) (hfl : allIs (tk T t) 4 = false) (hx : lg (tk T t) a = 1) {u0 : Nat} (hu0 : t = u0 + 1) (hfu : allIs (tk T u0) 4 = false) (hw : lg (tk T u0) a = 3) (hye : (lastN T a u0 : Int) = (S.gr a).yellow) (hl : 1 < lastN T a u0) : Calls Tryd.prog 7 #[siteV X S, .slice (some ⟨bp, op, none⟩) q cp, .int .i64 (t : Int), .int .i64 (a : Int)] w fun e w' => e = .returned (.bool true) ∧ Kept w w' none := by
  have hng := mean_ng hN
  have hfew := hN.few
  have HSH := Hid.mk' (span_may hN.ok).base.sh
  have hlen : ∀ i, i < q → (tk T i).length = S.groups.length := fun i hi => (mean_out hN hi).1
  have HNF := Hid.mk' hN
  have k1 : Kept w (w.alloc (.cells #[.int .i64 S.id, .slice X.g S.groups.length X.gc, .slice X.a S.apart.length X.ac, .slice X.b S.between.length X.bc, .slice X.p S.phases.length X.pc, .slice X.e S.eyes.length X.ec, .int .i64 S.watch, .int .i64 S.feed, .int .i64 S.heal, .int .i64 S.low, .int .i64 S.high, .slice X.l S.plans.length X.lc] 29)) none := Kept.alloc _ _ _ _ _
  have hsb := sbox_alloc h 29
  have hPA := hP.kept k1
  obtain ⟨W1, hW1⟩ : ∃ W1, w.alloc (.cells #[.int .i64 S.id, .slice X.g S.groups.length X.gc, .slice X.a S.apart.length X.ac, .slice X.b S.between.length X.bc, .slice X.p S.phases.length X.pc, .slice X.e S.eyes.length X.ec, .int .i64 S.watch, .int .i64 S.feed, .int .i64 S.heal, .int .i64 S.low, .int .i64 S.high, .slice X.l S.plans.length X.lc] 29) = W1 := ⟨_, rfl⟩
  rw [hW1] at k1 hsb hPA
  have HSB := Hid.mk' hsb
  have HK := Hid.mk' k1
  have HP := Hid.mk' hPA
  have HLEN := Hid.mk' hlen
  obtain ⟨bt, ot, ct, y1, y2⟩ := tick_at hPA ht (hlen t ht) (by omega)
  have HY2 : Hid (∀ b, b < S.groups.length → ∀ w', Kept W1 w' none → w'.cell? ⟨bt, ot + b, none⟩ = some (.int .u8 ((lg (tk T t) b : Nat) : Int))) := fun b hb w' qk => cell_kept0 (y2 b hb) qk
  have t1_ : ∀ w', Kept W1 w' none → w'.cell? ⟨bp, op + t, none⟩ = some (.slice (some ⟨bt, ot, none⟩) S.groups.length ct) := fun w' qk => cell_kept0 y1 qk
  have HALL := Hid.mk' (fun w' (qk : Kept W1 w' none) => mall_any (cp := cp) (hPA.kept qk) ht (hlen t ht) (by omega))
  have hK0 := Kept.refl W1 none
  have HT0 : Hid True := trivial
  obtain ⟨ba, oa, ea, hca⟩ := hsb.sat.apAt (n := S.groups.length) (by omega) (by have := HSH.out.ok.na; omega)
  have c1_ : ∀ w', Kept W1 w' none → w'.cell? ⟨w.heap.size, 1, none⟩ = some (.slice X.g S.groups.length X.gc) := fun w' qk => (HSB.out.kept qk).c1
  have c2_ : ∀ w', Kept W1 w' none → w'.cell? ⟨w.heap.size, 2, none⟩ = some (.slice (some ⟨ba, oa, none⟩) S.groups.length X.ac) := fun w' qk => by have h5 := (HSB.out.kept qk).c2; rw [ea, HSH.out.ok.na] at h5; exact h5
  have p1_ : ∀ w', Kept W1 w' none → w'.cell? ⟨ba, oa + a, none⟩ = some (.int .u32 (S.ap a : Int)) := fun w' qk => cell_kept0 (hca a ha) qk
  have har := hsb.sat.apr a
  have hal : S.groups.length ≤ X.ac := by have := hsb.sat.ak.room; have := HSH.out.ok.na; omega
  have ta_ := HY2.out a ha
  obtain ⟨u, hu⟩ : ∃ u, t = u + 1 := ⟨t - 1, by omega⟩
  have huq : u < q := by omega
  obtain ⟨bu, ou, cu, v1, v2⟩ := tick_at hPA huq (hlen u huq) (by omega)
  have u1_ : ∀ w', Kept W1 w' none → w'.cell? ⟨bp, op + u, none⟩ = some (.slice (some ⟨bu, ou, none⟩) S.groups.length cu) := fun w' qk => cell_kept0 v1 qk
  have ua_ : ∀ w', Kept W1 w' none → w'.cell? ⟨bu, ou + a, none⟩ = some (.int .u8 ((lg (tk T u) a : Nat) : Int)) := fun w' qk => cell_kept0 (v2 a ha) qk
  have HALU := Hid.mk' (fun w' (qk : Kept W1 w' none) => mall_any (cp := cp) (hPA.kept qk) huq (hlen u huq) (by omega))
  have hsub : (t : Int) - 1 = (u : Int) := by omega
  have HSUB := Hid.mk' hsub
  have hq1 : (0 : Int) ≤ (t : Int) - 1 := by omega
  have hq2 : ((t : Int) - 1).toNat = u := by omega
  have hq3 : (t : Int) - 1 < (q : Int) := by omega
  have htp : (0 : Int) < (t : Int) := by omega
  have HU := Hid.mk' hu
  clear v1 v2
  obtain rfl : u = u0 := by omega
  clear hu0 hu
  have h04 : (lg (tk T t) 0 == 4) = false := by
    have := mean_all hN ht
    rw [hfl] at this
    simpa using this
  rw [h04] at HALL
  rw [hx] at ta_
  replace ta_ : ∀ w', Kept W1 w' none → w'.cell? ⟨bt, ot + a, none⟩ = some (.int .u8 1) := ta_
  have hu4 : (lg (tk T u) 0 == 4) = false := by
    have := mean_all hN huq
    rw [hfu] at this
    simpa using this
  rw [hu4] at HALU
  clear hu4
  rw [hw] at ua_
  replace ua_ : ∀ w', Kept W1 w' none → w'.cell? ⟨bu, ou + a, none⟩ = some (.int .u8 3) := ua_
  have HLA : Hid (∀ j, Calls Tryd.prog 13 #[.slice (some ⟨bp, op, none⟩) q cp, .int .i64 (u : Int), .int .i64 (a : Int)] (W1.drewN j) fun e w' => e = .returned (.int .i64 ((lastN T a u : Nat) : Int)) ∧ ∃ m, w' = (W1.drewN j).drewN m) := fun j => mlast_any (HP.out.kept (Kept.drewN _ _ _)) HNF.out.few huq (fun i hi => HLEN.out i (by omega)) ha
  obtain ⟨bg, og, eg, g0, g1, g2⟩ := HSB.out.sat.grAt ha
  have hgc := HSB.out.sat.gk.room
  rw [eg] at c1_
  clear eg
  have hRp := lastN_pos T a u
  clear hRp
  rw [← hye] at g2
  clear hye
  generalize lastN T a u = L at *
  have hl2 : (1 : Int) < (L : Int) := by omega
  have hl3 : decide ((1 : Int) < (L : Int)) = true := by simp; omega
  have hl4 : (if (1 : Int) < (L : Int) then (L : Int) else 1) = (L : Int) := by rw [if_pos hl2]
  clear hl
  clear h hP hN k1 hsb hPA hlen y1 y2 hca ea
  clear hfl hx h04
  go_enter Tryd.func7, Tryd.ntmps7
  go_wp2_with (first | rw [hW1] | (have hgo := HT1; clear hgo; go_at_call 12; (try rw [HSUB.out]); refine (HALU.out _ hK0).mono ?_; rintro e w3 ⟨rfl, hw3⟩; have hw3 := hw3.symm; subst hw3) | (have hgo := HT0; clear hgo HT0; go_at_call 12; refine (HALL.out _ hK0).mono ?_; rintro e w2 ⟨rfl, hw2⟩; have hw2 := hw2.symm; subst hw2; have HT1 : Hid True := trivial))
  go_quiet ((go_at_call 13; (try rw [HSUB.out]); exact Calls.quiet_of (HLA.out _)))
  go_wp2
  go_loopw [11, 12, 13] (fun i _ _ wr => ∃ b : Nat, b ≤ S.groups.length ∧ i = .int .i64 b ∧ Kept W1 wr none) (fun i _ _ _ => S.groups.length - (intOf i).toNat)
  case atStart => exact ⟨0, by omega, rfl, Kept.drewN _ _ _⟩
  case round =>
    obtain ⟨b, hb, rfl, hkw⟩ := hrel
    have HKW := Hid.mk' hkw
    by_cases hbl : b < S.groups.length
    · have hbu : ((b : Int) % 18446744073709551616) = (b : Int) := by omega
      have hbit := zero_bit (S.ap a) b har
      by_cases hap : (S.ap a).testBit b = true
      · rw [hap] at hbit
        replace hbit : (bits .and .u32 ((S.ap a : Int) / 2 ^ b) 1 == 0) = false := hbit
        generalize S.ap a = P at *
        go_wp2
        obtain ⟨wi, hwi⟩ : ∃ wi, wi = wr := ⟨_, rfl⟩
        subst hwi
        go_loopw [13] (fun i wr2 => i = .int .i64 1 ∧ wr2 = wi) (fun _ _ => 0)
        case atStart => exact ⟨rfl, rfl⟩
        case round =>
          obtain ⟨rfl, rfl⟩ := hrel
          go_wp2
          go_roundw
          case rel => exact ⟨b + 1, by omega, by go_num, HKW.out⟩
          case measure => simp [intOf]; omega
      · have hap : (S.ap a).testBit b = false := by simpa using hap
        rw [hap] at hbit
        replace hbit : (bits .and .u32 ((S.ap a : Int) / 2 ^ b) 1 == 0) = true := hbit
        clear hap
        generalize S.ap a = P at *
        go_wp2
        go_roundw
        case rel => exact ⟨b + 1, by omega, by go_num, HKW.out⟩
        case measure => simp [intOf]; omega
    · go_wp2
      go_ret
      exact ⟨rfl, HK.out.tr HKW.out⟩

end Go.Proofs.YtcgflfngoaccoaaDoor

