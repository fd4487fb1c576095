/-
  Texts joined: some of those that the proofs of this seat stand on.
-/
import Derived.Test.YtcgflfngoaccoaaDoorMeanH
import Derived.Test.YtcgflfngoaccoaaDoorMeanI
import Derived.Test.YtcgflfngoaccoaaDoorMeanJ
import Derived.Test.YtcgflfngoaccoaaDoorMeanKJ
import Derived.Test.YtcgflfngoaccoaaDoorMeanNJ
import Derived.Test.YtcgflfngoaccoaaDoorIsAJ
import Derived.Test.YtcgflfngoaccoaaDoorRefG
/-
  THE WALK of SafeMeans (made by a program).
-/
namespace Go.Proofs.YtcgflfngoaccoaaDoor
open Go.RowKit Go.Lib Go.Deep
set_option linter.unusedVariables false
set_option linter.unusedSimpArgs false

theorem holds_any {X : Sa} {S : St} {w : World} {bp op cp q : Nat} {T : List (List Nat)} (h : Sat w X S) (hP : Trc w (some ⟨bp, op, none⟩) q T) (hN : Nof S T q) {t a : Nat} (ht : t < q) (ha : a < S.groups.length) : Calls Tryd.prog 7 #[siteV X S, .slice (some ⟨bp, op, none⟩) q cp, .int .i64 (t : Int), .int .i64 (a : Int)] w fun e w' => e = .returned (.bool true) ∧ Kept w w' none := by
  cases hfl : allIs (tk T t) 4 with
  | true => exact holds_flash h hP hN ht ha hfl
  | false =>
    have hr := mean_asp hN ht hfl ha
    cases t with
    | zero =>
      have hm := mean_may hN ht hfl rfl ha
      rw [asp_first a ha] at hm
      unfold mayV at hm
      rw [if_pos (by omega)] at hm
      split at hm
      · rename_i hh
        rcases hh with hh | hh
        · exact holds_a1 h hP hN ht ha hfl (by omega) rfl
        · exact holds_a2 h hP hN ht ha hfl (by omega) rfl
      · cases hm
    | succ u =>
      cases hfu : allIs (tk T u) 4 with
      | true => exact holds_f1 h hP hN ht ha hfl (mean_red hN ht hfl hfu ha) rfl hfu
      | false =>
        by_cases he : lg (tk T u) a = lg (tk T (u + 1)) a
        · rcases (show lg (tk T (u + 1)) a = 1 ∨ lg (tk T (u + 1)) a = 2 ∨ lg (tk T (u + 1)) a = 3 by omega) with e | e | e
          · exact holds_s1 h hP hN ht ha hfl e rfl hfu (he.trans e)
          · exact holds_s2 h hP hN ht ha hfl e rfl hfu (he.trans e)
          · exact holds_s3 h hP hN ht ha hfl e rfl hfu (he.trans e)
        · rcases mean_turn hN ha ht hfu hfl he with ⟨e1, e2⟩ | ⟨e1, e2, e3⟩ | ⟨e1, e2, e3⟩
          · exact holds_t2 h hP hN ht ha hfl e2 rfl hfu e1
          · exact holds_t3 h hP hN ht ha hfl e2 rfl hfu e1 e3
          · rcases (show lastN T a u = 1 ∨ 1 < lastN T a u by have := lastN_pos T a u; omega) with e4 | e4
            · exact holds_t1a h hP hN ht ha hfl e2 rfl hfu e1 e3 e4
            · exact holds_t1b h hP hN ht ha hfl e2 rfl hfu e1 e3 e4
set_option maxRecDepth 100000 in
set_option maxHeartbeats 4000000 in
theorem means_over {X : Sa} {S : St} {w : World} {pa : Option Addr} {n cp : Nat} {T : List (List Nat)} (h : Sat w X S) (hT : Tabb w) (hP : Trc w pa n T) (hC : Cap pa n cp) (hn : 300 < n) : Calls Tryd.prog 3 #[siteV X S, .slice pa n cp] w fun e w' => e = .returned (.bool true) ∧ Below w.heap.size w w' := by
  have hnb : decide ((300 : Int) < (n : Int)) = true := by simp; omega
  have hroom := hC.room
  have hcmax := hC.max
  have k1 : Kept w (w.alloc (.cells #[.int .i64 S.id, .slice X.g S.groups.length X.gc, .slice X.a S.apart.length X.ac, .slice X.b S.between.length X.bc, .slice X.p S.phases.length X.pc, .slice X.e S.eyes.length X.ec, .int .i64 S.watch, .int .i64 S.feed, .int .i64 S.heal, .int .i64 S.low, .int .i64 S.high, .slice X.l S.plans.length X.lc] 29)) none := Kept.alloc _ _ _ _ _
  have hsb := sbox_alloc h 29
  have hSA := h.kept k1
  have hTA := hT.kept k1
  have hPA := hP.kept k1
  obtain ⟨W1, hW1⟩ : ∃ W1, w.alloc (.cells #[.int .i64 S.id, .slice X.g S.groups.length X.gc, .slice X.a S.apart.length X.ac, .slice X.b S.between.length X.bc, .slice X.p S.phases.length X.pc, .slice X.e S.eyes.length X.ec, .int .i64 S.watch, .int .i64 S.feed, .int .i64 S.heal, .int .i64 S.low, .int .i64 S.high, .slice X.l S.plans.length X.lc] 29) = W1 := ⟨_, rfl⟩
  rw [hW1] at k1 hsb hSA hTA hPA
  have HSB := Hid.mk' hsb
  have HK := Hid.mk' k1
  have HS := Hid.mk' hSA
  have HT := Hid.mk' hTA
  have HP := Hid.mk' hPA
  have hPm := hP.max
  have hK0 := Kept.refl W1 none
  have s0_ : ∀ w', Kept W1 w' none → w'.cell? ⟨w.heap.size, 0, none⟩ = some (.int .i64 S.id) := fun w' q => (HSB.out.kept q).c0
  have s1_ : ∀ w', Kept W1 w' none → w'.cell? ⟨w.heap.size, 1, none⟩ = some (.slice X.g S.groups.length X.gc) := fun w' q => (HSB.out.kept q).c1
  have s2_ : ∀ w', Kept W1 w' none → w'.cell? ⟨w.heap.size, 2, none⟩ = some (.slice X.a S.apart.length X.ac) := fun w' q => (HSB.out.kept q).c2
  have s3_ : ∀ w', Kept W1 w' none → w'.cell? ⟨w.heap.size, 3, none⟩ = some (.slice X.b S.between.length X.bc) := fun w' q => (HSB.out.kept q).c3
  have s4_ : ∀ w', Kept W1 w' none → w'.cell? ⟨w.heap.size, 4, none⟩ = some (.slice X.p S.phases.length X.pc) := fun w' q => (HSB.out.kept q).c4
  have s5_ : ∀ w', Kept W1 w' none → w'.cell? ⟨w.heap.size, 5, none⟩ = some (.slice X.e S.eyes.length X.ec) := fun w' q => (HSB.out.kept q).c5
  have s6_ : ∀ w', Kept W1 w' none → w'.cell? ⟨w.heap.size, 6, none⟩ = some (.int .i64 S.watch) := fun w' q => (HSB.out.kept q).c6
  have s7_ : ∀ w', Kept W1 w' none → w'.cell? ⟨w.heap.size, 7, none⟩ = some (.int .i64 S.feed) := fun w' q => (HSB.out.kept q).c7
  have s8_ : ∀ w', Kept W1 w' none → w'.cell? ⟨w.heap.size, 8, none⟩ = some (.int .i64 S.heal) := fun w' q => (HSB.out.kept q).c8
  have s9_ : ∀ w', Kept W1 w' none → w'.cell? ⟨w.heap.size, 9, none⟩ = some (.int .i64 S.low) := fun w' q => (HSB.out.kept q).c9
  have s10_ : ∀ w', Kept W1 w' none → w'.cell? ⟨w.heap.size, 10, none⟩ = some (.int .i64 S.high) := fun w' q => (HSB.out.kept q).c10
  have s11_ : ∀ w', Kept W1 w' none → w'.cell? ⟨w.heap.size, 11, none⟩ = some (.slice X.l S.plans.length X.lc) := fun w' q => (HSB.out.kept q).c11
  clear h hT hP hC k1 hsb hSA hTA hPA
  go_enter Tryd.func3, Tryd.ntmps3
  go_wp2_with (first | rw [hW1] | (go_at_call 4; refine (salive_any HT.out).mono ?_; rintro e wa ⟨rfl, hka⟩; have hKa : Kept W1 wa none := hka))
  go_at_call 5
  refine (rgreat_any (HS.out.kept hKa)).mono ?_
  rintro e wg ⟨gr, rfl, hgr, hkg⟩
  have hKg : Kept W1 wg none := hKa.tr hkg
  clear hgr
  cases gr with
  | true =>
    go_wp2
    go_ret
    exact ⟨rfl, (HK.out.tr hKg).below⟩
  | false =>
  go_wp2
  go_ret
  exact ⟨rfl, (HK.out.tr hKg).below⟩
set_option maxRecDepth 100000 in
set_option maxHeartbeats 4000000 in
theorem means_no {X : Sa} {S : St} {w : World} {pa : Option Addr} {n cp : Nat} {T : List (List Nat)} (h : Sat w X S) (hT : Tabb w) (hP : Trc w pa n T) (hC : Cap pa n cp) (hn : n ≤ 300) (hs : siteB S = false) : Calls Tryd.prog 3 #[siteV X S, .slice pa n cp] w fun e w' => e = .returned (.bool true) ∧ Below w.heap.size w w' := by
  have hnb : decide ((300 : Int) < (n : Int)) = false := by simp; omega
  have hroom := hC.room
  have hcmax := hC.max
  have k1 : Kept w (w.alloc (.cells #[.int .i64 S.id, .slice X.g S.groups.length X.gc, .slice X.a S.apart.length X.ac, .slice X.b S.between.length X.bc, .slice X.p S.phases.length X.pc, .slice X.e S.eyes.length X.ec, .int .i64 S.watch, .int .i64 S.feed, .int .i64 S.heal, .int .i64 S.low, .int .i64 S.high, .slice X.l S.plans.length X.lc] 29)) none := Kept.alloc _ _ _ _ _
  have hsb := sbox_alloc h 29
  have hSA := h.kept k1
  have hTA := hT.kept k1
  have hPA := hP.kept k1
  obtain ⟨W1, hW1⟩ : ∃ W1, w.alloc (.cells #[.int .i64 S.id, .slice X.g S.groups.length X.gc, .slice X.a S.apart.length X.ac, .slice X.b S.between.length X.bc, .slice X.p S.phases.length X.pc, .slice X.e S.eyes.length X.ec, .int .i64 S.watch, .int .i64 S.feed, .int .i64 S.heal, .int .i64 S.low, .int .i64 S.high, .slice X.l S.plans.length X.lc] 29) = W1 := ⟨_, rfl⟩
  rw [hW1] at k1 hsb hSA hTA hPA
  have HSB := Hid.mk' hsb
  have HK := Hid.mk' k1
  have HS := Hid.mk' hSA
  have HT := Hid.mk' hTA
  have HP := Hid.mk' hPA
  have hPm := hP.max
  have hK0 := Kept.refl W1 none
  have s0_ : ∀ w', Kept W1 w' none → w'.cell? ⟨w.heap.size, 0, none⟩ = some (.int .i64 S.id) := fun w' q => (HSB.out.kept q).c0
  have s1_ : ∀ w', Kept W1 w' none → w'.cell? ⟨w.heap.size, 1, none⟩ = some (.slice X.g S.groups.length X.gc) := fun w' q => (HSB.out.kept q).c1
  have s2_ : ∀ w', Kept W1 w' none → w'.cell? ⟨w.heap.size, 2, none⟩ = some (.slice X.a S.apart.length X.ac) := fun w' q => (HSB.out.kept q).c2
  have s3_ : ∀ w', Kept W1 w' none → w'.cell? ⟨w.heap.size, 3, none⟩ = some (.slice X.b S.between.length X.bc) := fun w' q => (HSB.out.kept q).c3
  have s4_ : ∀ w', Kept W1 w' none → w'.cell? ⟨w.heap.size, 4, none⟩ = some (.slice X.p S.phases.length X.pc) := fun w' q => (HSB.out.kept q).c4
  have s5_ : ∀ w', Kept W1 w' none → w'.cell? ⟨w.heap.size, 5, none⟩ = some (.slice X.e S.eyes.length X.ec) := fun w' q => (HSB.out.kept q).c5
  have s6_ : ∀ w', Kept W1 w' none → w'.cell? ⟨w.heap.size, 6, none⟩ = some (.int .i64 S.watch) := fun w' q => (HSB.out.kept q).c6
  have s7_ : ∀ w', Kept W1 w' none → w'.cell? ⟨w.heap.size, 7, none⟩ = some (.int .i64 S.feed) := fun w' q => (HSB.out.kept q).c7
  have s8_ : ∀ w', Kept W1 w' none → w'.cell? ⟨w.heap.size, 8, none⟩ = some (.int .i64 S.heal) := fun w' q => (HSB.out.kept q).c8
  have s9_ : ∀ w', Kept W1 w' none → w'.cell? ⟨w.heap.size, 9, none⟩ = some (.int .i64 S.low) := fun w' q => (HSB.out.kept q).c9
  have s10_ : ∀ w', Kept W1 w' none → w'.cell? ⟨w.heap.size, 10, none⟩ = some (.int .i64 S.high) := fun w' q => (HSB.out.kept q).c10
  have s11_ : ∀ w', Kept W1 w' none → w'.cell? ⟨w.heap.size, 11, none⟩ = some (.slice X.l S.plans.length X.lc) := fun w' q => (HSB.out.kept q).c11
  clear h hT hP hC k1 hsb hSA hTA hPA
  go_enter Tryd.func3, Tryd.ntmps3
  go_wp2_with (first | rw [hW1] | (go_at_call 4; refine (salive_any HT.out).mono ?_; rintro e wa ⟨rfl, hka⟩; have hKa : Kept W1 wa none := hka))
  go_at_call 5
  refine (rgreat_any (HS.out.kept hKa)).mono ?_
  rintro e wg ⟨gr, rfl, hgr, hkg⟩
  have hKg : Kept W1 wg none := hKa.tr hkg
  clear hgr
  cases gr with
  | true =>
    go_wp2
    go_ret
    exact ⟨rfl, (HK.out.tr hKg).below⟩
  | false =>
  go_wp2_with (go_at_call 6; refine (check_no (cp := cp) (HS.out.kept hKg) (HT.out.kept hKg) (HP.out.kept hKg) hs).mono ?_; rintro e w2 ⟨rfl, hk2⟩; have hK2 : Kept W1 w2 none := hKg.tr hk2)
  go_ret
  exact ⟨rfl, (HK.out.tr hK2).below⟩
set_option maxRecDepth 100000 in
set_option maxHeartbeats 4000000 in
theorem means_all {X : Sa} {S : St} {w : World} {pa : Option Addr} {n cp : Nat} {T : List (List Nat)} (h : Sat w X S) (hT : Tabb w) (hP : Trc w pa n T) (hC : Cap pa n cp) (hn : n ≤ 300) (hs : siteB S = true) (hno : ∀ j, j < n → fltV S T j = 0) : Calls Tryd.prog 3 #[siteV X S, .slice pa n cp] w fun e w' => e = .returned (.bool true) ∧ Below w.heap.size w w' := by
  have hnb : decide ((300 : Int) < (n : Int)) = false := by simp; omega
  have HNF : Hid (Nof S T n) := ⟨hs, hno, hn⟩
  have HA : Hid (ansN (fltV S T) n = -1) := ansN_no hno
  have HO : Hid (ownV (fltV S T) n = 0) := ownV_no hno
  clear hno
  have hroom := hC.room
  have hcmax := hC.max
  have k1 : Kept w (w.alloc (.cells #[.int .i64 S.id, .slice X.g S.groups.length X.gc, .slice X.a S.apart.length X.ac, .slice X.b S.between.length X.bc, .slice X.p S.phases.length X.pc, .slice X.e S.eyes.length X.ec, .int .i64 S.watch, .int .i64 S.feed, .int .i64 S.heal, .int .i64 S.low, .int .i64 S.high, .slice X.l S.plans.length X.lc] 29)) none := Kept.alloc _ _ _ _ _
  have hsb := sbox_alloc h 29
  have hSA := h.kept k1
  have hTA := hT.kept k1
  have hPA := hP.kept k1
  obtain ⟨W1, hW1⟩ : ∃ W1, w.alloc (.cells #[.int .i64 S.id, .slice X.g S.groups.length X.gc, .slice X.a S.apart.length X.ac, .slice X.b S.between.length X.bc, .slice X.p S.phases.length X.pc, .slice X.e S.eyes.length X.ec, .int .i64 S.watch, .int .i64 S.feed, .int .i64 S.heal, .int .i64 S.low, .int .i64 S.high, .slice X.l S.plans.length X.lc] 29) = W1 := ⟨_, rfl⟩
  rw [hW1] at k1 hsb hSA hTA hPA
  have HSB := Hid.mk' hsb
  have HK := Hid.mk' k1
  have HS := Hid.mk' hSA
  have HT := Hid.mk' hTA
  have HP := Hid.mk' hPA
  have hPm := hP.max
  have hK0 := Kept.refl W1 none
  have s0_ : ∀ w', Kept W1 w' none → w'.cell? ⟨w.heap.size, 0, none⟩ = some (.int .i64 S.id) := fun w' q => (HSB.out.kept q).c0
  have s1_ : ∀ w', Kept W1 w' none → w'.cell? ⟨w.heap.size, 1, none⟩ = some (.slice X.g S.groups.length X.gc) := fun w' q => (HSB.out.kept q).c1
  have s2_ : ∀ w', Kept W1 w' none → w'.cell? ⟨w.heap.size, 2, none⟩ = some (.slice X.a S.apart.length X.ac) := fun w' q => (HSB.out.kept q).c2
  have s3_ : ∀ w', Kept W1 w' none → w'.cell? ⟨w.heap.size, 3, none⟩ = some (.slice X.b S.between.length X.bc) := fun w' q => (HSB.out.kept q).c3
  have s4_ : ∀ w', Kept W1 w' none → w'.cell? ⟨w.heap.size, 4, none⟩ = some (.slice X.p S.phases.length X.pc) := fun w' q => (HSB.out.kept q).c4
  have s5_ : ∀ w', Kept W1 w' none → w'.cell? ⟨w.heap.size, 5, none⟩ = some (.slice X.e S.eyes.length X.ec) := fun w' q => (HSB.out.kept q).c5
  have s6_ : ∀ w', Kept W1 w' none → w'.cell? ⟨w.heap.size, 6, none⟩ = some (.int .i64 S.watch) := fun w' q => (HSB.out.kept q).c6
  have s7_ : ∀ w', Kept W1 w' none → w'.cell? ⟨w.heap.size, 7, none⟩ = some (.int .i64 S.feed) := fun w' q => (HSB.out.kept q).c7
  have s8_ : ∀ w', Kept W1 w' none → w'.cell? ⟨w.heap.size, 8, none⟩ = some (.int .i64 S.heal) := fun w' q => (HSB.out.kept q).c8
  have s9_ : ∀ w', Kept W1 w' none → w'.cell? ⟨w.heap.size, 9, none⟩ = some (.int .i64 S.low) := fun w' q => (HSB.out.kept q).c9
  have s10_ : ∀ w', Kept W1 w' none → w'.cell? ⟨w.heap.size, 10, none⟩ = some (.int .i64 S.high) := fun w' q => (HSB.out.kept q).c10
  have s11_ : ∀ w', Kept W1 w' none → w'.cell? ⟨w.heap.size, 11, none⟩ = some (.slice X.l S.plans.length X.lc) := fun w' q => (HSB.out.kept q).c11
  clear h hT hP hC k1 hsb hSA hTA hPA
  go_enter Tryd.func3, Tryd.ntmps3
  go_wp2_with (first | rw [hW1] | (go_at_call 4; refine (salive_any HT.out).mono ?_; rintro e wa ⟨rfl, hka⟩; have hKa : Kept W1 wa none := hka))
  go_at_call 5
  refine (rgreat_any (HS.out.kept hKa)).mono ?_
  rintro e wg ⟨gr, rfl, hgr, hkg⟩
  have hKg : Kept W1 wg none := hKa.tr hkg
  clear hgr
  cases gr with
  | true =>
    go_wp2
    go_ret
    exact ⟨rfl, (HK.out.tr hKg).below⟩
  | false =>
  go_wp2_with (go_at_call 6; have hc := check_go (cp := cp) (HS.out.kept hKg) (HT.out.kept hKg) (HP.out.kept hKg) hs (by omega); rw [HA.out, HO.out] at hc; refine hc.mono ?_; rintro e w2 ⟨rfl, hk2⟩; have hK2 : Kept W1 w2 none := hKg.tr hk2)
  have HPT := HP
  have HK2 := Hid.mk' hK2
  clear hK2 hk2 hka hKa hkg hKg
  go_loopw [9, 10] (fun i _ wr => ∃ k : Nat, k ≤ n ∧ i = .int .i64 k ∧ Kept W1 wr none) (fun i _ _ => n - (intOf i).toNat)
  case atStart => exact ⟨0, by omega, rfl, HK2.out⟩
  case round =>
    obtain ⟨k, hk, rfl, hkw⟩ := hrel
    by_cases hlt : k < n
    · obtain ⟨bp, op, rfl, _, _⟩ := HP.out.at_ (by omega)
      have hlk := (mean_out HNF.out hlt).1
      have hng := mean_ng HNF.out
      obtain ⟨bk, ok, ck, e1, e2⟩ := tick_at HPT.out hlt hlk (by omega)
      have y1 := cell_kept0 e1 hkw
      have c1 := s1_ wr hkw
      have HKW := Hid.mk' hkw
      clear e1 e2 hlk hkw
      go_wp2
      go_quiet (fail)
      go_wp2
      obtain ⟨wq, hwq⟩ : ∃ wq, wq = wr.drewN nq := ⟨_, rfl⟩
      have HKQ : Hid (Kept W1 wq none) := by rw [hwq]; exact HKW.out.tr (Kept.drewN _ _ _)
      rw [← hwq]
      clear hwq y1 c1
      go_loopw [10] (fun i wr => ∃ a : Nat, a ≤ S.groups.length ∧ i = .int .i64 a ∧ Kept W1 wr none) (fun i _ => S.groups.length - (intOf i).toNat)
      case atStart => exact ⟨0, by omega, rfl, HKQ.out⟩
      case round =>
        obtain ⟨a, ha, rfl, hka⟩ := hrel
        have c1 := s1_ wr hka
        have HKA := Hid.mk' hka
        by_cases hal : a < S.groups.length
        · have HHO := Hid.mk' (holds_any (cp := cp) (HS.out.kept hka) (HPT.out.kept hka) HNF.out hlt hal)
          have hKA : Kept W1 wr none := hka
          clear hka
          go_wp2_with (go_at_call 7; refine HHO.out.mono ?_; rintro e w4 ⟨rfl, hk4⟩)
          go_roundw
          case rel => exact ⟨a + 1, by omega, by go_num, HKA.out.tr hk4⟩
          case measure => simp [intOf]; omega
        · clear hka
          go_wp2
          go_roundw
          case rel => exact ⟨k + 1, by omega, by go_num, HKA.out⟩
          case measure => simp [intOf]; omega
    · have HKW := Hid.mk' hkw
      have e : k = n := by omega
      clear hkw
      go_wp2
      go_ret
      exact ⟨rfl, (HK.out.tr HKW.out).below⟩
set_option maxRecDepth 100000 in
set_option maxHeartbeats 4000000 in
theorem means_cut {X : Sa} {S : St} {w : World} {bp op : Nat} {n cp : Nat} {T : List (List Nat)} (h : Sat w X S) (hT : Tabb w) (hP : Trc w (some ⟨bp, op, none⟩) n T) (hC : Cap (some ⟨bp, op, none⟩) n cp) (hn : n ≤ 300) (hs : siteB S = true) {q : Nat} (hq : q < n) (hno : ∀ j, j < q → fltV S T j = 0) (hz : fltV S T q ≠ 0) : Calls Tryd.prog 3 #[siteV X S, .slice (some ⟨bp, op, none⟩) n cp] w fun e w' => e = .returned (.bool true) ∧ Below w.heap.size w w' := by
  have hnb : decide ((300 : Int) < (n : Int)) = false := by simp; omega
  have HNF : Hid (Nof S (T.take q) q) := ⟨hs, fun j hj => (flt_take hj).trans (hno j hj), by omega⟩
  have HA : Hid (ansN (fltV S T) n = q) := ansN_at hq hno hz
  have HO : Hid (ownV (fltV S T) n = fltV S T q) := ownV_at hq hno hz
  generalize fltV S T q = zf at *
  clear hno
  have hroom := hC.room
  have hcmax := hC.max
  have k1 : Kept w (w.alloc (.cells #[.int .i64 S.id, .slice X.g S.groups.length X.gc, .slice X.a S.apart.length X.ac, .slice X.b S.between.length X.bc, .slice X.p S.phases.length X.pc, .slice X.e S.eyes.length X.ec, .int .i64 S.watch, .int .i64 S.feed, .int .i64 S.heal, .int .i64 S.low, .int .i64 S.high, .slice X.l S.plans.length X.lc] 29)) none := Kept.alloc _ _ _ _ _
  have hsb := sbox_alloc h 29
  have hSA := h.kept k1
  have hTA := hT.kept k1
  have hPA := hP.kept k1
  obtain ⟨W1, hW1⟩ : ∃ W1, w.alloc (.cells #[.int .i64 S.id, .slice X.g S.groups.length X.gc, .slice X.a S.apart.length X.ac, .slice X.b S.between.length X.bc, .slice X.p S.phases.length X.pc, .slice X.e S.eyes.length X.ec, .int .i64 S.watch, .int .i64 S.feed, .int .i64 S.heal, .int .i64 S.low, .int .i64 S.high, .slice X.l S.plans.length X.lc] 29) = W1 := ⟨_, rfl⟩
  rw [hW1] at k1 hsb hSA hTA hPA
  have HSB := Hid.mk' hsb
  have HK := Hid.mk' k1
  have HS := Hid.mk' hSA
  have HT := Hid.mk' hTA
  have HP := Hid.mk' hPA
  have hPm := hP.max
  have hK0 := Kept.refl W1 none
  have s0_ : ∀ w', Kept W1 w' none → w'.cell? ⟨w.heap.size, 0, none⟩ = some (.int .i64 S.id) := fun w' q => (HSB.out.kept q).c0
  have s1_ : ∀ w', Kept W1 w' none → w'.cell? ⟨w.heap.size, 1, none⟩ = some (.slice X.g S.groups.length X.gc) := fun w' q => (HSB.out.kept q).c1
  have s2_ : ∀ w', Kept W1 w' none → w'.cell? ⟨w.heap.size, 2, none⟩ = some (.slice X.a S.apart.length X.ac) := fun w' q => (HSB.out.kept q).c2
  have s3_ : ∀ w', Kept W1 w' none → w'.cell? ⟨w.heap.size, 3, none⟩ = some (.slice X.b S.between.length X.bc) := fun w' q => (HSB.out.kept q).c3
  have s4_ : ∀ w', Kept W1 w' none → w'.cell? ⟨w.heap.size, 4, none⟩ = some (.slice X.p S.phases.length X.pc) := fun w' q => (HSB.out.kept q).c4
  have s5_ : ∀ w', Kept W1 w' none → w'.cell? ⟨w.heap.size, 5, none⟩ = some (.slice X.e S.eyes.length X.ec) := fun w' q => (HSB.out.kept q).c5
  have s6_ : ∀ w', Kept W1 w' none → w'.cell? ⟨w.heap.size, 6, none⟩ = some (.int .i64 S.watch) := fun w' q => (HSB.out.kept q).c6
  have s7_ : ∀ w', Kept W1 w' none → w'.cell? ⟨w.heap.size, 7, none⟩ = some (.int .i64 S.feed) := fun w' q => (HSB.out.kept q).c7
  have s8_ : ∀ w', Kept W1 w' none → w'.cell? ⟨w.heap.size, 8, none⟩ = some (.int .i64 S.heal) := fun w' q => (HSB.out.kept q).c8
  have s9_ : ∀ w', Kept W1 w' none → w'.cell? ⟨w.heap.size, 9, none⟩ = some (.int .i64 S.low) := fun w' q => (HSB.out.kept q).c9
  have s10_ : ∀ w', Kept W1 w' none → w'.cell? ⟨w.heap.size, 10, none⟩ = some (.int .i64 S.high) := fun w' q => (HSB.out.kept q).c10
  have s11_ : ∀ w', Kept W1 w' none → w'.cell? ⟨w.heap.size, 11, none⟩ = some (.slice X.l S.plans.length X.lc) := fun w' q => (HSB.out.kept q).c11
  clear h hT hP hC k1 hsb hSA hTA hPA
  go_enter Tryd.func3, Tryd.ntmps3
  go_wp2_with (first | rw [hW1] | (go_at_call 4; refine (salive_any HT.out).mono ?_; rintro e wa ⟨rfl, hka⟩; have hKa : Kept W1 wa none := hka))
  go_at_call 5
  refine (rgreat_any (HS.out.kept hKa)).mono ?_
  rintro e wg ⟨gr, rfl, hgr, hkg⟩
  have hKg : Kept W1 wg none := hKa.tr hkg
  clear hgr
  cases gr with
  | true =>
    go_wp2
    go_ret
    exact ⟨rfl, (HK.out.tr hKg).below⟩
  | false =>
  have hqc : (q : Int) ≤ (cp : Int) := by omega
  go_wp2_with (go_at_call 6; have hc := check_go (cp := cp) (HS.out.kept hKg) (HT.out.kept hKg) (HP.out.kept hKg) hs (by omega); rw [HA.out, HO.out] at hc; refine hc.mono ?_; rintro e w2 ⟨rfl, hk2⟩; have hK2 : Kept W1 w2 none := hKg.tr hk2)
  have HPT := Hid.mk' (HP.out.take (c := q) (by omega))
  have HK2 := Hid.mk' hK2
  clear hK2 hk2 hka hKa hkg hKg
  go_loopw [9, 10] (fun i _ wr => ∃ k : Nat, k ≤ q ∧ i = .int .i64 k ∧ Kept W1 wr none) (fun i _ _ => q - (intOf i).toNat)
  case atStart => exact ⟨0, by omega, rfl, HK2.out⟩
  case round =>
    obtain ⟨k, hk, rfl, hkw⟩ := hrel
    by_cases hlt : k < q
    · have hlk := (mean_out HNF.out hlt).1
      have hng := mean_ng HNF.out
      obtain ⟨bk, ok, ck, e1, e2⟩ := tick_at HPT.out hlt hlk (by omega)
      have y1 := cell_kept0 e1 hkw
      have c1 := s1_ wr hkw
      have HKW := Hid.mk' hkw
      clear e1 e2 hlk hkw
      go_wp2
      go_quiet (fail)
      go_wp2
      obtain ⟨wq, hwq⟩ : ∃ wq, wq = wr.drewN nq := ⟨_, rfl⟩
      have HKQ : Hid (Kept W1 wq none) := by rw [hwq]; exact HKW.out.tr (Kept.drewN _ _ _)
      rw [← hwq]
      clear hwq y1 c1
      go_loopw [10] (fun i wr => ∃ a : Nat, a ≤ S.groups.length ∧ i = .int .i64 a ∧ Kept W1 wr none) (fun i _ => S.groups.length - (intOf i).toNat)
      case atStart => exact ⟨0, by omega, rfl, HKQ.out⟩
      case round =>
        obtain ⟨a, ha, rfl, hka⟩ := hrel
        have c1 := s1_ wr hka
        have HKA := Hid.mk' hka
        by_cases hal : a < S.groups.length
        · have HHO := Hid.mk' (holds_any (cp := cp) (HS.out.kept hka) (HPT.out.kept hka) HNF.out hlt hal)
          have hKA : Kept W1 wr none := hka
          clear hka
          go_wp2_with (go_at_call 7; refine HHO.out.mono ?_; rintro e w4 ⟨rfl, hk4⟩)
          go_roundw
          case rel => exact ⟨a + 1, by omega, by go_num, HKA.out.tr hk4⟩
          case measure => simp [intOf]; omega
        · clear hka
          go_wp2
          go_roundw
          case rel => exact ⟨k + 1, by omega, by go_num, HKA.out⟩
          case measure => simp [intOf]; omega
    · have HKW := Hid.mk' hkw
      have e : k = q := by omega
      clear hkw
      go_wp2
      go_ret
      exact ⟨rfl, (HK.out.tr HKW.out).below⟩
theorem smeans_any {X : Sa} {S : St} {w : World} {pa : Option Addr} {n cp : Nat} {T : List (List Nat)} (h : Sat w X S) (hT : Tabb w) (hP : Trc w pa n T) (hC : Cap pa n cp) : Calls Tryd.prog 3 #[siteV X S, .slice pa n cp] w fun e w' => e = .returned (.bool true) ∧ Below w.heap.size w w' := by
  by_cases hn : n ≤ 300
  · cases hs : siteB S with
    | false => exact means_no h hT hP hC hn hs
    | true =>
      rcases firstN_cases (fltV S T) n with ⟨_, h2⟩ | ⟨k, _, h2, h3, h4⟩
      · exact means_all h hT hP hC hn hs h2
      · obtain ⟨bp, op, rfl, _, _⟩ := hP.at_ (by omega)
        exact means_cut h hT hP hC hn hs h2 h3 h4
  · exact means_over h hT hP hC (by omega)

end Go.Proofs.YtcgflfngoaccoaaDoor

