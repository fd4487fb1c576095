/-
  Texts joined: some of those that the proofs of this seat stand on.
-/
import Derived.Test.YtpnmlgillphodaaDoorApartMJ
import Derived.Test.YtpnmlgillphodaaDoorLampR
/-
  THE DOCUMENT'S Fault of layer 8 (made by a program).
-/
namespace Go.Proofs.YtpnmlgillphodaaDoor
open Go.RowKit Go.Lib Go.Deep
set_option linter.unusedVariables false
set_option linter.unusedSimpArgs false

def Rg8 (A : Act) (W : World) (e : Exit) (a : Act) (w : World) : Prop := match e with
  | .normal => a = A ∧ Kept W w none
  | _ => False
theorem Rg8.out {A : Act} {W w : World} {e : Exit} {a : Act} (h : Rg8 A W e a w) : e = .normal ∧ a = A ∧ Kept W w none := by
  cases e with
  | normal => exact ⟨rfl, h.1, h.2⟩
  | _ => exact h.elim
/-- Nothing is asked red by a start. -/
def NoSt (F : Sf) (L : List Nat) : Prop := ¬ ((F.flashed = true ∨ 0 < F.start) ∧ allIs L 1 = false)
section
variable {S : St} {F : Sf} {L : List Nat} (hn : L.length = S.groups.length) (h4 : allIs L 4 = false) (hH : hasIt L 4 = false)
include hn h4 hH
theorem flt_rest : faultV S F L = if (F.flashed = true ∨ 0 < F.start) ∧ allIs L 1 = false then 8 else if oneV S F L ≠ 0 then oneV S F L else if mtB S L = true then 3 else if soonB S F L = true then 4 else 0 := by
  unfold faultV
  rw [if_neg (by simp [hn]), if_neg (by simp [h4]), if_neg (by simp [hH])]
theorem flt_is8 {k : Nat} (hs : F.flashed = true ∨ 0 < F.start) (hk : k < L.length) (e : lg L k ≠ 1) : faultV S F L = 8 := by
  rw [flt_rest hn h4 hH, if_pos ⟨hs, allIs_no hk e⟩]
variable (hR : NoSt F L)
include hR
theorem flt_isone {z : Int} (h : oneV S F L = z) (hz : z ≠ 0) : faultV S F L = z := by
  rw [flt_rest hn h4 hH, if_neg hR, h, if_pos hz]
variable (hO : oneV S F L = 0)
include hO
theorem flt_is3 (h : mtB S L = true) : faultV S F L = 3 := by
  rw [flt_rest hn h4 hH, if_neg hR, if_neg (by simp [hO]), if_pos h]
theorem flt_is4 (h : mtB S L = false) (h2 : soonB S F L = true) : faultV S F L = 4 := by
  rw [flt_rest hn h4 hH, if_neg hR, if_neg (by simp [hO]), if_neg (by simp [h]), if_pos h2]
theorem flt_is0 (h : mtB S L = false) (h2 : soonB S F L = false) : faultV S F L = 0 := by
  rw [flt_rest hn h4 hH, if_neg hR, if_neg (by simp [hO]), if_neg (by simp [h]), if_neg (by simp [h2])]
end

end Go.Proofs.YtpnmlgillphodaaDoor

/-
  THE DOCUMENT'S Fault of layer 8, a way (made by a program).
-/
namespace Go.Proofs.YtpnmlgillphodaaDoor
open Go.RowKit Go.Lib Go.Deep
set_option linter.unusedVariables false
set_option linter.unusedSimpArgs false

set_option maxRecDepth 100000 in
set_option maxHeartbeats 20000000 in
theorem rfault_a {X : Sa} {S : St} {w : World} {c : Nat} {G : List Sn} {st : Int} {bf off bl ol cl : Nat} {L : List Nat} (h : Sat w X S) (hSh : Shape S) (hcf : ∀ i, i < S.groups.length → ∀ j, j < 3 → w.cell? ⟨bf, off + i * 3 + j, none⟩ = some (snV (Sf.g ⟨G, st, true⟩ i) j)) (hcr : S.groups.length ≤ c) (hcm : c ≤ 9223372036854775807) (hcl : ∀ i, i < S.groups.length → w.cell? ⟨bl, ol + i, none⟩ = some (.int .u8 (lg L i : Int))) (hB : By w (some ⟨bl, ol, none⟩) S.groups.length L) (h4 : allIs L 4 = false) (hH : hasIt L 4 = false) : Calls Tryd.prog 33 #[siteV X S, .agg #[.slice (some ⟨bf, off, none⟩) S.groups.length c, .int .i64 st, .bool true], .slice (some ⟨bl, ol, none⟩) S.groups.length cl] w fun e w' => e = .returned (.int .u8 (faultV S ⟨G, st, true⟩ L)) ∧ Kept w w' none := by
  have HCNT : Hid (cntN L 4 = 0) := by
    show _ = _
    by_cases hc : 0 < cntN L 4
    · rw [cnt_pos.1 hc] at hH; cases hH
    · omega
  have hng := hSh.ok.ng
  have hna := hSh.ok.na
  have k1 : Kept w (w.alloc (.cells #[.int .i64 S.id, .slice X.g S.groups.length X.gc, .slice X.a S.apart.length X.ac, .slice X.b S.between.length X.bc, .slice X.p S.phases.length X.pc, .slice X.e S.eyes.length X.ec, .int .i64 S.watch, .int .i64 S.feed, .int .i64 S.heal, .int .i64 S.low, .int .i64 S.high, .slice X.l S.plans.length X.lc] 33)) none := Kept.alloc _ _ _ _ _
  have k2 : Kept (w.alloc (.cells #[.int .i64 S.id, .slice X.g S.groups.length X.gc, .slice X.a S.apart.length X.ac, .slice X.b S.between.length X.bc, .slice X.p S.phases.length X.pc, .slice X.e S.eyes.length X.ec, .int .i64 S.watch, .int .i64 S.feed, .int .i64 S.heal, .int .i64 S.low, .int .i64 S.high, .slice X.l S.plans.length X.lc] 33)) ((w.alloc (.cells #[.int .i64 S.id, .slice X.g S.groups.length X.gc, .slice X.a S.apart.length X.ac, .slice X.b S.between.length X.bc, .slice X.p S.phases.length X.pc, .slice X.e S.eyes.length X.ec, .int .i64 S.watch, .int .i64 S.feed, .int .i64 S.heal, .int .i64 S.low, .int .i64 S.high, .slice X.l S.plans.length X.lc] 33)).alloc (.cells #[.slice (some ⟨bf, off, none⟩) S.groups.length c, .int .i64 st, .bool true] 41)) none := Kept.alloc _ _ _ _ _
  have hsb := (sbox_alloc h 33).kept k2
  have bn := box_alloc (w.alloc (.cells #[.int .i64 S.id, .slice X.g S.groups.length X.gc, .slice X.a S.apart.length X.ac, .slice X.b S.between.length X.bc, .slice X.p S.phases.length X.pc, .slice X.e S.eyes.length X.ec, .int .i64 S.watch, .int .i64 S.feed, .int .i64 S.heal, .int .i64 S.low, .int .i64 S.high, .slice X.l S.plans.length X.lc] 33)) (.slice (some ⟨bf, off, none⟩) S.groups.length c) (.int .i64 st) (.bool true) 41
  rw [World.size_alloc] at bn
  have hkA := k1.tr k2
  have hBA := hB.kept hkA
  obtain ⟨W2, hW2⟩ : ∃ W2, (w.alloc (.cells #[.int .i64 S.id, .slice X.g S.groups.length X.gc, .slice X.a S.apart.length X.ac, .slice X.b S.between.length X.bc, .slice X.p S.phases.length X.pc, .slice X.e S.eyes.length X.ec, .int .i64 S.watch, .int .i64 S.feed, .int .i64 S.heal, .int .i64 S.low, .int .i64 S.high, .slice X.l S.plans.length X.lc] 33)).alloc (.cells #[.slice (some ⟨bf, off, none⟩) S.groups.length c, .int .i64 st, .bool true] 41) = W2 := ⟨_, rfl⟩
  rw [hW2] at hsb bn hkA hBA
  have HSB := Hid.mk' hsb
  have HBN := Hid.mk' bn
  have HK := Hid.mk' hkA
  have HB := Hid.mk' hBA
  have HSH := Hid.mk' hSh
  have HNA := Hid.mk' hna
  have hK0 := Kept.refl W2 none
  have s0_ : ∀ w', Kept W2 w' none → w'.cell? ⟨w.heap.size, 0, none⟩ = some (.int .i64 S.id) := fun w' q => (HSB.out.kept q).c0
  have s1_ : ∀ w', Kept W2 w' none → w'.cell? ⟨w.heap.size, 1, none⟩ = some (.slice X.g S.groups.length X.gc) := fun w' q => (HSB.out.kept q).c1
  have s2_ : ∀ w', Kept W2 w' none → w'.cell? ⟨w.heap.size, 2, none⟩ = some (.slice X.a S.apart.length X.ac) := fun w' q => (HSB.out.kept q).c2
  have s3_ : ∀ w', Kept W2 w' none → w'.cell? ⟨w.heap.size, 3, none⟩ = some (.slice X.b S.between.length X.bc) := fun w' q => (HSB.out.kept q).c3
  have s4_ : ∀ w', Kept W2 w' none → w'.cell? ⟨w.heap.size, 4, none⟩ = some (.slice X.p S.phases.length X.pc) := fun w' q => (HSB.out.kept q).c4
  have s5_ : ∀ w', Kept W2 w' none → w'.cell? ⟨w.heap.size, 5, none⟩ = some (.slice X.e S.eyes.length X.ec) := fun w' q => (HSB.out.kept q).c5
  have s6_ : ∀ w', Kept W2 w' none → w'.cell? ⟨w.heap.size, 6, none⟩ = some (.int .i64 S.watch) := fun w' q => (HSB.out.kept q).c6
  have s7_ : ∀ w', Kept W2 w' none → w'.cell? ⟨w.heap.size, 7, none⟩ = some (.int .i64 S.feed) := fun w' q => (HSB.out.kept q).c7
  have s8_ : ∀ w', Kept W2 w' none → w'.cell? ⟨w.heap.size, 8, none⟩ = some (.int .i64 S.heal) := fun w' q => (HSB.out.kept q).c8
  have s9_ : ∀ w', Kept W2 w' none → w'.cell? ⟨w.heap.size, 9, none⟩ = some (.int .i64 S.low) := fun w' q => (HSB.out.kept q).c9
  have s10_ : ∀ w', Kept W2 w' none → w'.cell? ⟨w.heap.size, 10, none⟩ = some (.int .i64 S.high) := fun w' q => (HSB.out.kept q).c10
  have s11_ : ∀ w', Kept W2 w' none → w'.cell? ⟨w.heap.size, 11, none⟩ = some (.slice X.l S.plans.length X.lc) := fun w' q => (HSB.out.kept q).c11
  have n0_ : ∀ w', Kept W2 w' none → w'.cell? ⟨w.heap.size + 1, 0, none⟩ = some (.slice (some ⟨bf, off, none⟩) S.groups.length c) := fun w' q => (HBN.out.kept q).c0
  have n1_ : ∀ w', Kept W2 w' none → w'.cell? ⟨w.heap.size + 1, 1, none⟩ = some (.int .i64 st) := fun w' q => (HBN.out.kept q).c1
  have n2_ : ∀ w', Kept W2 w' none → w'.cell? ⟨w.heap.size + 1, 2, none⟩ = some (.bool true) := fun w' q => (HBN.out.kept q).c2
  have HCF : Hid (∀ i, i < S.groups.length → ∀ j, j < 3 → ∀ w', Kept W2 w' none → w'.cell? ⟨bf, off + i * 3 + j, none⟩ = some (snV (Sf.g ⟨G, st, true⟩ i) j)) := fun i hi j hj w' q => cell_kept0 (cell_kept0 (hcf i hi j hj) HK.out) q
  have HCL : Hid (∀ i, i < S.groups.length → ∀ w', Kept W2 w' none → w'.cell? ⟨bl, ol + i, none⟩ = some (.int .u8 (lg L i : Int))) := fun i hi w' q => cell_kept0 (cell_kept0 (hcl i hi) HK.out) q
  have HS := Hid.mk' hB.size
  clear h hB k1 k2 hsb bn hkA hBA hSh hcf hcl hna
  have hz0 : ((0 : Int) == (S.groups.length : Int)) = false := by simp; omega
  go_enter Tryd.func33, Tryd.ntmps33
  go_wp2_with (first | rw [hW2] | (go_at_call 54; have hn := rflash_any (c := cl) (HB.out.kept (by assumption)); rw [HCNT.out] at hn; refine hn.mono ?_; rintro e wq ⟨rfl, hwq⟩; have hwq := hwq.symm; subst hwq))
  go_loopw [8] (fun i wr => ∃ k : Nat, k ≤ S.groups.length ∧ i = .int .i64 k ∧ Kept W2 wr none ∧ ∀ j, j < k → lg L j = 1) (fun i _ => S.groups.length - (intOf i).toNat)
  case atStart => exact ⟨0, by omega, rfl, (by assumption), fun j hj => by omega⟩
  case round =>
    obtain ⟨k, hk, rfl, hkw, hno⟩ := hrel
    have HN := Hid.mk' hno
    clear hno
    by_cases hlt : k < S.groups.length
    · have l0 := HCL.out k hlt
      by_cases e : lg L k = 1
      · have HN2 := Hid.mk' (ext_no HN.out e)
        rw [e] at l0
        clear e
        go_wp2
        go_roundw
        case rel => exact ⟨k + 1, by omega, by go_num, hkw, HN2.out⟩
        case measure => simp [intOf]; omega
      · have HV := Hid.mk' (flt_is8 HS.out h4 hH (F := ⟨G, st, true⟩) (.inl rfl) (by have := HS.out; omega) e)
        have e1 : ((lg L k : Int) != 1) = true := by simp; omega
        clear e
        generalize lg L k = y at *
        go_wp2
        go_ret
        exact ⟨by rw [HV.out]; rfl, HK.out.tr hkw⟩
    have hR : NoSt ⟨G, st, true⟩ L := fun h => by
      rw [allIs_yes (fun i hi => HN.out i (by have := HS.out; omega))] at h
      cases h.2
    have HR := Hid.mk' hR
    clear hR
    go_wp2
    obtain ⟨wo, hwo⟩ : ∃ wo, wo = wr := ⟨_, rfl⟩
    subst hwo
    go_loopw [9, 10] (fun i _ wr => i = .int .i64 0 ∧ Kept W2 wr none) (fun _ _ _ => 0)
    case atStart => exact ⟨rfl, hkw⟩
    case round =>
      obtain ⟨rfl, hkr2⟩ := hrel
      have hO : oneV S ⟨G, st, true⟩ L = 0 := by unfold oneV; simp
      have HO := Hid.mk' hO
      have hln : (0 : Int) < (S.groups.length : Int) := by omega
      clear hO
      by_cases hm : mtB S L = true
      · have HV := Hid.mk' (flt_is3 HS.out h4 hH HR.out HO.out hm)
        go_wp2_with (go_at_call 55; have hn := rmeet8_any (c := cl) (HSB.out.sat.kept hkr2) HSH.out.ok (HB.out.kept hkr2) rfl; rw [hm] at hn; refine hn.mono ?_; rintro e wM ⟨rfl, hqM⟩; have hkM : Kept W2 wM none := hkr2.tr hqM)
        go_ret
        exact ⟨by rw [HV.out]; rfl, HK.out.tr hkM⟩
      have hm : mtB S L = false := by simpa using hm
      have HV4 : Hid (soonB S ⟨G, st, true⟩ L = true → faultV S ⟨G, st, true⟩ L = 4) := fun hh => flt_is4 HS.out h4 hH HR.out HO.out hm hh
      have HV0 : Hid (soonB S ⟨G, st, true⟩ L = false → faultV S ⟨G, st, true⟩ L = 0) := fun hh => flt_is0 HS.out h4 hH HR.out HO.out hm hh
      go_wp2_with (go_at_call 55; have hn := rmeet8_any (c := cl) (HSB.out.sat.kept hkr2) HSH.out.ok (HB.out.kept hkr2) rfl; rw [hm] at hn; refine hn.mono ?_; rintro e wM ⟨rfl, hqM⟩; have hkM : Kept W2 wM none := hkr2.tr hqM)
      clear h4 hH
      go_loopw [11, 12, 13] (fun i _ _ wr => ∃ k : Nat, k ≤ S.groups.length ∧ i = .int .i64 k ∧ Kept W2 wr none ∧ ∀ j, j < k → ∀ b, b < S.groups.length → pairS S ⟨G, st, true⟩ L j b = false) (fun i _ _ _ => S.groups.length - (intOf i).toNat)
      case atStart => exact ⟨0, by omega, rfl, hkM, fun j hj => by omega⟩
      case round =>
        obtain ⟨k3, hk3, rfl, hkr3, hno⟩ := hrel
        have HN3 := Hid.mk' hno
        clear hno
        by_cases hlt3 : k3 < S.groups.length
        · go_wp2
          obtain ⟨wo3, hwo3⟩ : ∃ wo3, wo3 = wr := ⟨_, rfl⟩
          subst hwo3
          go_loopw [12, 13] (fun i _ wr => ∃ q : Nat, q ≤ S.groups.length ∧ i = .int .i64 q ∧ Kept W2 wr none ∧ ∀ b, b < q → pairS S ⟨G, st, true⟩ L k3 b = false) (fun i _ _ => S.groups.length - (intOf i).toNat)
          case atStart => exact ⟨0, by omega, rfl, hkr3, fun j hj => by omega⟩
          case round =>
            obtain ⟨q, hq, rfl, hkr, hno⟩ := hrel
            have HNQ := Hid.mk' hno
            clear hno
            by_cases hql : q < S.groups.length
            · have l3 := HCL.out k3 hlt3
              have z3 : ∀ w', Kept W2 w' none → w'.cell? ⟨bf, off + k3 * 3, none⟩ = some (.int .u8 ((Sf.g ⟨G, st, true⟩ k3).asp : Int)) := fun w' q => HCF.out k3 hlt3 0 (by omega) w' q
              have e3 : ∀ w', Kept W2 w' none → w'.cell? ⟨bf, off + q * 3 + 2, none⟩ = some (.int .i64 (Sf.g ⟨G, st, true⟩ q).ended) := fun w' qq => HCF.out q hql 2 (by omega) w' qq
              have hpq : pairS S ⟨G, st, true⟩ L k3 q = ((lg L k3 == 2) && (!((Sf.g ⟨G, st, true⟩ k3).asp == 2) && ((S.ap q).testBit k3 && decide ((Sf.g ⟨G, st, true⟩ q).ended < S.bt q k3)))) := rfl
              have HYES : Hid (pairS S ⟨G, st, true⟩ L k3 q = true → faultV S ⟨G, st, true⟩ L = 4) := fun hh => HV4.out (soonB_yes (by have := HS.out; omega) (by have := HS.out; omega) hh)
              have HNO : Hid (pairS S ⟨G, st, true⟩ L k3 q = false → ∀ b, b < q + 1 → pairS S ⟨G, st, true⟩ L k3 b = false) := fun hh => ext_no HNQ.out hh
              have HAP := Hid.mk' (fun w' (qq : Kept W2 w' none) => rap8_any (HSB.out.sat.kept qq) q k3 (by have := HNA.out; omega) (by omega))
              have HBT := Hid.mk' (fun w' (qq : Kept W2 w' none) => rbt8_any (HSB.out.sat.kept qq) HSH.out hql hlt3)
              rw [hpq] at HYES HNO
              clear hpq
              generalize (Sf.g ⟨G, st, true⟩ q).ended = en at *
              generalize S.bt q k3 = v at *
              generalize (S.ap q).testBit k3 = t at *
              by_cases ht : lg L k3 = 2 ∧ (Sf.g ⟨G, st, true⟩ k3).asp ≠ 2
              · obtain ⟨ht1, ht2⟩ := ht
                have ht2b : (((Sf.g ⟨G, st, true⟩ k3).asp : Int) != 2) = true := by simp; omega
                have e2b : ((Sf.g ⟨G, st, true⟩ k3).asp == 2) = false := by simpa using ht2
                rw [ht1, e2b] at HYES HNO
                rw [ht1] at l3
                clear ht1 ht2 e2b
                generalize (Sf.g ⟨G, st, true⟩ k3).asp = ap at *
                cases t with
                | true =>
                  go_wp2
                  refine Code.wp_mono (Q := Rg8 ?Aa1 W2) ?conta1 ?rega1
                  case rega1 =>
                    repeat (rename_i hh; clear hh)
                    refine wp_region_held_drew (S := fun w' => Kept W2 w' none) (by kernel_rfl) (Kept.tr hkr (Kept.drew _ _)) (fun hHeld => ?_)
                    refine held_take (i := 0) (v := ?v1) rfl rfl (by kernel_rfl) (by kernel_rfl) (by kernel_rfl) (fun _ _ _ h => h) (Or.inl ⟨by rfl, ?hy1⟩) hHeld ?rest1
                    case hy1 => first | (intro w hSw; (try dsimp only at hSw); go_simp; done) | (intro w hSw; (try dsimp only at hSw); go_simp; with_reducible rfl)
                    try simp only [List.setIfInBounds_toArray, List.set_cons_zero, List.set_cons_succ]
                    refine held_take (i := 1) (v := ?v2) rfl rfl (by kernel_rfl) (by kernel_rfl) (by kernel_rfl) (fun _ _ _ h => h) (Or.inl ⟨by rfl, ?hy2⟩) hHeld ?rest2
                    case hy2 => first | (intro w hSw; (try dsimp only at hSw); go_simp; done) | (intro w hSw; (try dsimp only at hSw); go_simp; with_reducible rfl)
                    try simp only [List.setIfInBounds_toArray, List.set_cons_zero, List.set_cons_succ]
                    refine held_take (i := 2) (v := ?v3) rfl rfl (by kernel_rfl) (by kernel_rfl) (by kernel_rfl) (fun _ _ _ h => h) (Or.inl ⟨by rfl, ?hy3⟩) hHeld ?rest3
                    case hy3 => first | (intro w hSw; (try dsimp only at hSw); go_simp; done) | (intro w hSw; (try dsimp only at hSw); go_simp; with_reducible rfl)
                    try simp only [List.setIfInBounds_toArray, List.set_cons_zero, List.set_cons_succ]
                    refine held_take (i := 3) (v := ?v4) rfl rfl (by kernel_rfl) (by kernel_rfl) (by kernel_rfl) (fun _ _ _ h => h) (Or.inl ⟨by rfl, ?hy4⟩) hHeld ?rest4
                    case hy4 => first | (intro w hSw; (try dsimp only at hSw); go_simp; done) | (intro w hSw; (try dsimp only at hSw); go_simp; with_reducible rfl)
                    try simp only [List.setIfInBounds_toArray, List.set_cons_zero, List.set_cons_succ]
                    refine held_take (i := 4) (v := ?v5) rfl rfl (by kernel_rfl) (by kernel_rfl) (by kernel_rfl) (fun _ _ _ h => h) (Or.inl ⟨by rfl, ?hy5⟩) hHeld ?rest5
                    case hy5 => first | (intro w hSw; (try dsimp only at hSw); go_simp; done) | (intro w hSw; (try dsimp only at hSw); go_simp; with_reducible rfl)
                    try simp only [List.setIfInBounds_toArray, List.set_cons_zero, List.set_cons_succ]
                    refine wpAnyH_ready (rs := [5]) (by kernel_rfl) (by simp) ?_
                    refine AllReadyH.cons rfl (fun K hK => ?_) AllReadyH.nil
                    go_simp
                    go_wp2_with (go_at_call 51; refine (HAP.out _ hHeld).mono ?_; rintro e wA ⟨rfl, hkA⟩; have hKS : Kept W2 wA none := hHeld.tr hkA)
                    refine hK.out _ _ hKS (fun hHeld => ?_)
                    clear hK K
                    refine held_take (i := 6) (v := ?v6) rfl rfl (by kernel_rfl) (by kernel_rfl) (by kernel_rfl) (fun _ _ _ h => h) (Or.inl ⟨by rfl, ?hy6⟩) hHeld ?rest6
                    case hy6 => first | (intro w hSw; (try dsimp only at hSw); go_simp; done) | (intro w hSw; (try dsimp only at hSw); go_simp; with_reducible rfl)
                    try simp only [List.setIfInBounds_toArray, List.set_cons_zero, List.set_cons_succ]
                    refine held_take (i := 7) (v := ?v7) rfl rfl (by kernel_rfl) (by kernel_rfl) (by kernel_rfl) (fun _ _ _ h => h) (Or.inl ⟨by rfl, ?hy7⟩) hHeld ?rest7
                    case hy7 => first | (intro w hSw; (try dsimp only at hSw); go_simp; done) | (intro w hSw; (try dsimp only at hSw); go_simp; with_reducible rfl)
                    try simp only [List.setIfInBounds_toArray, List.set_cons_zero, List.set_cons_succ]
                    refine held_take (i := 8) (v := ?v8) rfl rfl (by kernel_rfl) (by kernel_rfl) (by kernel_rfl) (fun _ _ _ h => h) (Or.inl ⟨by rfl, ?hy8⟩) hHeld ?rest8
                    case hy8 => first | (intro w hSw; (try dsimp only at hSw); go_simp; done) | (intro w hSw; (try dsimp only at hSw); go_simp; with_reducible rfl)
                    try simp only [List.setIfInBounds_toArray, List.set_cons_zero, List.set_cons_succ]
                    refine held_take (i := 9) (v := ?v9) rfl rfl (by kernel_rfl) (by kernel_rfl) (by kernel_rfl) (fun _ _ _ h => h) (Or.inl ⟨by rfl, ?hy9⟩) hHeld ?rest9
                    case hy9 => first | (intro w hSw; (try dsimp only at hSw); go_simp; done) | (intro w hSw; (try dsimp only at hSw); go_simp; with_reducible rfl)
                    try simp only [List.setIfInBounds_toArray, List.set_cons_zero, List.set_cons_succ]
                    refine held_take (i := 10) (v := ?v10) rfl rfl (by kernel_rfl) (by kernel_rfl) (by kernel_rfl) (fun _ _ _ h => h) (Or.inl ⟨by rfl, ?hy10⟩) hHeld ?rest10
                    case hy10 => first | (intro w hSw; (try dsimp only at hSw); go_simp; done) | (intro w hSw; (try dsimp only at hSw); go_simp; with_reducible rfl)
                    try simp only [List.setIfInBounds_toArray, List.set_cons_zero, List.set_cons_succ]
                    refine held_take (i := 11) (v := ?v11) rfl rfl (by kernel_rfl) (by kernel_rfl) (by kernel_rfl) (fun _ _ _ h => h) (Or.inl ⟨by rfl, ?hy11⟩) hHeld ?rest11
                    case hy11 => first | (intro w hSw; (try dsimp only at hSw); go_simp; done) | (intro w hSw; (try dsimp only at hSw); go_simp; with_reducible rfl)
                    try simp only [List.setIfInBounds_toArray, List.set_cons_zero, List.set_cons_succ]
                    refine held_take (i := 12) (v := ?v12) rfl rfl (by kernel_rfl) (by kernel_rfl) (by kernel_rfl) (fun _ _ _ h => h) (Or.inl ⟨by rfl, ?hy12⟩) hHeld ?rest12
                    case hy12 => first | (intro w hSw; (try dsimp only at hSw); go_simp; done) | (intro w hSw; (try dsimp only at hSw); go_simp; with_reducible rfl)
                    try simp only [List.setIfInBounds_toArray, List.set_cons_zero, List.set_cons_succ]
                    refine held_take (i := 13) (v := ?v13) rfl rfl (by kernel_rfl) (by kernel_rfl) (by kernel_rfl) (fun _ _ _ h => h) (Or.inl ⟨by rfl, ?hy13⟩) hHeld ?rest13
                    case hy13 => first | (intro w hSw; (try dsimp only at hSw); go_simp; done) | (intro w hSw; (try dsimp only at hSw); go_simp; with_reducible rfl)
                    try simp only [List.setIfInBounds_toArray, List.set_cons_zero, List.set_cons_succ]
                    refine held_take (i := 14) (v := ?v14) rfl rfl (by kernel_rfl) (by kernel_rfl) (by kernel_rfl) (fun _ _ _ h => h) (Or.inl ⟨by rfl, ?hy14⟩) hHeld ?rest14
                    case hy14 => first | (intro w hSw; (try dsimp only at hSw); go_simp; done) | (intro w hSw; (try dsimp only at hSw); go_simp; with_reducible rfl)
                    try simp only [List.setIfInBounds_toArray, List.set_cons_zero, List.set_cons_succ]
                    refine held_take (i := 15) (v := ?v15) rfl rfl (by kernel_rfl) (by kernel_rfl) (by kernel_rfl) (fun _ _ _ h => h) (Or.inl ⟨by rfl, ?hy15⟩) hHeld ?rest15
                    case hy15 => first | (intro w hSw; (try dsimp only at hSw); go_simp; done) | (intro w hSw; (try dsimp only at hSw); go_simp; with_reducible rfl)
                    try simp only [List.setIfInBounds_toArray, List.set_cons_zero, List.set_cons_succ]
                    refine held_take (i := 16) (v := ?v16) rfl rfl (by kernel_rfl) (by kernel_rfl) (by kernel_rfl) (fun _ _ _ h => h) (Or.inl ⟨by rfl, ?hy16⟩) hHeld ?rest16
                    case hy16 => first | (intro w hSw; (try dsimp only at hSw); go_simp; done) | (intro w hSw; (try dsimp only at hSw); go_simp; with_reducible rfl)
                    try simp only [List.setIfInBounds_toArray, List.set_cons_zero, List.set_cons_succ]
                    refine wpAnyH_ready (rs := [17]) (by kernel_rfl) (by simp) ?_
                    refine AllReadyH.cons rfl (fun K hK => ?_) AllReadyH.nil
                    go_simp
                    go_wp2_with (go_at_call 52; refine (HBT.out _ hHeld).mono ?_; rintro e wB ⟨rfl, hkB⟩; have hKT : Kept W2 wB none := hHeld.tr hkB)
                    refine hK.out _ _ hKT (fun hHeld => ?_)
                    clear hK K
                    refine held_take (i := 18) (v := ?v17) rfl rfl (by kernel_rfl) (by kernel_rfl) (by kernel_rfl) (fun _ _ _ h => h) (Or.inl ⟨by rfl, ?hy17⟩) hHeld ?rest17
                    case hy17 => first | (intro w hSw; (try dsimp only at hSw); go_simp; done) | (intro w hSw; (try dsimp only at hSw); go_simp; with_reducible rfl)
                    try simp only [List.setIfInBounds_toArray, List.set_cons_zero, List.set_cons_succ]
                    refine held_take (i := 19) (v := ?v18) rfl rfl (by kernel_rfl) (by kernel_rfl) (by kernel_rfl) (fun _ _ _ h => h) (Or.inl ⟨by rfl, ?hy18⟩) hHeld ?rest18
                    case hy18 => first | (intro w hSw; (try dsimp only at hSw); go_simp; done) | (intro w hSw; (try dsimp only at hSw); go_simp; with_reducible rfl)
                    try simp only [List.setIfInBounds_toArray, List.set_cons_zero, List.set_cons_succ]
                    refine wpAnyH_done (by kernel_rfl) ?_ _
                    refine And.intro ?_ hHeld
                    with_reducible rfl
                  case conta1 =>
                  intro e a' w' hq'
                  obtain ⟨rfl, rfl, hkq⟩ := hq'.out
                  by_cases hv : en < v
                  · have HY := Hid.mk' (HYES.out (by simp [hv]))
                    go_wp2
                    go_ret
                    exact ⟨by rw [HY.out]; rfl, HK.out.tr hkq⟩
                  · have HN2 := Hid.mk' (HNO.out (by simp [hv]))
                    have hvb : decide (en < v) = false := by simp [hv]
                    go_wp2
                    go_roundw
                    case rel => exact ⟨q + 1, by omega, by go_num, hkq, HN2.out⟩
                    case measure => simp [intOf]; omega
                | false =>
                  have HN2 := Hid.mk' (HNO.out (by simp))
                  go_wp2
                  refine Code.wp_mono (Q := Rg8 ?Aa2 W2) ?conta2 ?rega2
                  case rega2 =>
                    repeat (rename_i hh; clear hh)
                    refine wp_region_held_drew (S := fun w' => Kept W2 w' none) (by kernel_rfl) (Kept.tr hkr (Kept.drew _ _)) (fun hHeld => ?_)
                    refine held_take (i := 0) (v := ?v19) rfl rfl (by kernel_rfl) (by kernel_rfl) (by kernel_rfl) (fun _ _ _ h => h) (Or.inl ⟨by rfl, ?hy19⟩) hHeld ?rest19
                    case hy19 => first | (intro w hSw; (try dsimp only at hSw); go_simp; done) | (intro w hSw; (try dsimp only at hSw); go_simp; with_reducible rfl)
                    try simp only [List.setIfInBounds_toArray, List.set_cons_zero, List.set_cons_succ]
                    refine held_take (i := 1) (v := ?v20) rfl rfl (by kernel_rfl) (by kernel_rfl) (by kernel_rfl) (fun _ _ _ h => h) (Or.inl ⟨by rfl, ?hy20⟩) hHeld ?rest20
                    case hy20 => first | (intro w hSw; (try dsimp only at hSw); go_simp; done) | (intro w hSw; (try dsimp only at hSw); go_simp; with_reducible rfl)
                    try simp only [List.setIfInBounds_toArray, List.set_cons_zero, List.set_cons_succ]
                    refine held_take (i := 2) (v := ?v21) rfl rfl (by kernel_rfl) (by kernel_rfl) (by kernel_rfl) (fun _ _ _ h => h) (Or.inl ⟨by rfl, ?hy21⟩) hHeld ?rest21
                    case hy21 => first | (intro w hSw; (try dsimp only at hSw); go_simp; done) | (intro w hSw; (try dsimp only at hSw); go_simp; with_reducible rfl)
                    try simp only [List.setIfInBounds_toArray, List.set_cons_zero, List.set_cons_succ]
                    refine held_take (i := 3) (v := ?v22) rfl rfl (by kernel_rfl) (by kernel_rfl) (by kernel_rfl) (fun _ _ _ h => h) (Or.inl ⟨by rfl, ?hy22⟩) hHeld ?rest22
                    case hy22 => first | (intro w hSw; (try dsimp only at hSw); go_simp; done) | (intro w hSw; (try dsimp only at hSw); go_simp; with_reducible rfl)
                    try simp only [List.setIfInBounds_toArray, List.set_cons_zero, List.set_cons_succ]
                    refine held_take (i := 4) (v := ?v23) rfl rfl (by kernel_rfl) (by kernel_rfl) (by kernel_rfl) (fun _ _ _ h => h) (Or.inl ⟨by rfl, ?hy23⟩) hHeld ?rest23
                    case hy23 => first | (intro w hSw; (try dsimp only at hSw); go_simp; done) | (intro w hSw; (try dsimp only at hSw); go_simp; with_reducible rfl)
                    try simp only [List.setIfInBounds_toArray, List.set_cons_zero, List.set_cons_succ]
                    refine wpAnyH_ready (rs := [5]) (by kernel_rfl) (by simp) ?_
                    refine AllReadyH.cons rfl (fun K hK => ?_) AllReadyH.nil
                    go_simp
                    go_wp2_with (go_at_call 51; refine (HAP.out _ hHeld).mono ?_; rintro e wA ⟨rfl, hkA⟩; have hKS : Kept W2 wA none := hHeld.tr hkA)
                    refine hK.out _ _ hKS (fun hHeld => ?_)
                    clear hK K
                    refine held_take (i := 6) (v := ?v24) rfl rfl (by kernel_rfl) (by kernel_rfl) (by kernel_rfl) (fun _ _ _ h => h) (Or.inl ⟨by rfl, ?hy24⟩) hHeld ?rest24
                    case hy24 => first | (intro w hSw; (try dsimp only at hSw); go_simp; done) | (intro w hSw; (try dsimp only at hSw); go_simp; with_reducible rfl)
                    try simp only [List.setIfInBounds_toArray, List.set_cons_zero, List.set_cons_succ]
                    refine held_take (i := 7) (v := ?v25) rfl rfl (by kernel_rfl) (by kernel_rfl) (by kernel_rfl) (fun _ _ _ h => h) (Or.inl ⟨by rfl, ?hy25⟩) hHeld ?rest25
                    case hy25 => first | (intro w hSw; (try dsimp only at hSw); go_simp; done) | (intro w hSw; (try dsimp only at hSw); go_simp; with_reducible rfl)
                    try simp only [List.setIfInBounds_toArray, List.set_cons_zero, List.set_cons_succ]
                    refine held_take (i := 8) (v := undef) rfl rfl (by kernel_rfl) (by kernel_rfl) (by kernel_rfl) (fun _ _ _ h => h) (Or.inr ⟨by rfl, rfl⟩) hHeld ?_
                    try simp only [List.setIfInBounds_toArray, List.set_cons_zero, List.set_cons_succ]
                    refine held_take (i := 9) (v := undef) rfl rfl (by kernel_rfl) (by kernel_rfl) (by kernel_rfl) (fun _ _ _ h => h) (Or.inr ⟨by rfl, rfl⟩) hHeld ?_
                    try simp only [List.setIfInBounds_toArray, List.set_cons_zero, List.set_cons_succ]
                    refine held_take (i := 10) (v := undef) rfl rfl (by kernel_rfl) (by kernel_rfl) (by kernel_rfl) (fun _ _ _ h => h) (Or.inr ⟨by rfl, rfl⟩) hHeld ?_
                    try simp only [List.setIfInBounds_toArray, List.set_cons_zero, List.set_cons_succ]
                    refine held_take (i := 11) (v := undef) rfl rfl (by kernel_rfl) (by kernel_rfl) (by kernel_rfl) (fun _ _ _ h => h) (Or.inr ⟨by rfl, rfl⟩) hHeld ?_
                    try simp only [List.setIfInBounds_toArray, List.set_cons_zero, List.set_cons_succ]
                    refine held_take (i := 12) (v := undef) rfl rfl (by kernel_rfl) (by kernel_rfl) (by kernel_rfl) (fun _ _ _ h => h) (Or.inr ⟨by rfl, rfl⟩) hHeld ?_
                    try simp only [List.setIfInBounds_toArray, List.set_cons_zero, List.set_cons_succ]
                    refine held_take (i := 13) (v := undef) rfl rfl (by kernel_rfl) (by kernel_rfl) (by kernel_rfl) (fun _ _ _ h => h) (Or.inr ⟨by rfl, rfl⟩) hHeld ?_
                    try simp only [List.setIfInBounds_toArray, List.set_cons_zero, List.set_cons_succ]
                    refine held_take (i := 14) (v := undef) rfl rfl (by kernel_rfl) (by kernel_rfl) (by kernel_rfl) (fun _ _ _ h => h) (Or.inr ⟨by rfl, rfl⟩) hHeld ?_
                    try simp only [List.setIfInBounds_toArray, List.set_cons_zero, List.set_cons_succ]
                    refine held_take (i := 15) (v := undef) rfl rfl (by kernel_rfl) (by kernel_rfl) (by kernel_rfl) (fun _ _ _ h => h) (Or.inr ⟨by rfl, rfl⟩) hHeld ?_
                    try simp only [List.setIfInBounds_toArray, List.set_cons_zero, List.set_cons_succ]
                    refine held_take (i := 16) (v := undef) rfl rfl (by kernel_rfl) (by kernel_rfl) (by kernel_rfl) (fun _ _ _ h => h) (Or.inr ⟨by rfl, rfl⟩) hHeld ?_
                    try simp only [List.setIfInBounds_toArray, List.set_cons_zero, List.set_cons_succ]
                    refine held_take (i := 17) (v := undef) rfl rfl (by kernel_rfl) (by kernel_rfl) (by kernel_rfl) (fun _ _ _ h => h) (Or.inr ⟨by rfl, rfl⟩) hHeld ?_
                    try simp only [List.setIfInBounds_toArray, List.set_cons_zero, List.set_cons_succ]
                    refine held_take (i := 18) (v := undef) rfl rfl (by kernel_rfl) (by kernel_rfl) (by kernel_rfl) (fun _ _ _ h => h) (Or.inr ⟨by rfl, rfl⟩) hHeld ?_
                    try simp only [List.setIfInBounds_toArray, List.set_cons_zero, List.set_cons_succ]
                    refine held_take (i := 19) (v := ?v26) rfl rfl (by kernel_rfl) (by kernel_rfl) (by kernel_rfl) (fun _ _ _ h => h) (Or.inl ⟨by rfl, ?hy26⟩) hHeld ?rest26
                    case hy26 => first | (intro w hSw; (try dsimp only at hSw); go_simp; done) | (intro w hSw; (try dsimp only at hSw); go_simp; with_reducible rfl)
                    try simp only [List.setIfInBounds_toArray, List.set_cons_zero, List.set_cons_succ]
                    refine wpAnyH_done (by kernel_rfl) ?_ _
                    refine And.intro ?_ hHeld
                    with_reducible rfl
                  case conta2 =>
                  intro e a' w' hq'
                  obtain ⟨rfl, rfl, hkq⟩ := hq'.out
                  go_wp2
                  go_roundw
                  case rel => exact ⟨q + 1, by omega, by go_num, hkq, HN2.out⟩
                  case measure => simp [intOf]; omega
              · have hpf : ((lg L k3 == 2) && (!((Sf.g ⟨G, st, true⟩ k3).asp == 2) && (t && decide (en < v)))) = false := by
                  by_cases h1 : lg L k3 = 2
                  · have h2 : (Sf.g ⟨G, st, true⟩ k3).asp = 2 := by
                      by_cases h2 : (Sf.g ⟨G, st, true⟩ k3).asp = 2
                      · exact h2
                      · exact absurd ⟨h1, h2⟩ ht
                    simp [h2]
                  · simp [h1]
                have HN2 := Hid.mk' (HNO.out hpf)
                clear hpf
                by_cases h1 : lg L k3 = 2
                · have h2 : (Sf.g ⟨G, st, true⟩ k3).asp = 2 := by
                    by_cases h2 : (Sf.g ⟨G, st, true⟩ k3).asp = 2
                    · exact h2
                    · exact absurd ⟨h1, h2⟩ ht
                  rw [h1] at l3
                  rw [h2] at z3
                  clear h1 h2 ht
                  go_wp2
                  go_quiet (fail)
                  go_wp2
                  go_roundw
                  case rel => exact ⟨q + 1, by omega, by go_num, hkr.tr (Kept.drewN _ _ _), HN2.out⟩
                  case measure => simp [intOf]; omega
                · have h1b : ((lg L k3 : Int) == 2) = false := by simp; omega
                  clear h1 ht
                  generalize lg L k3 = y at *
                  go_wp2
                  go_quiet (fail)
                  go_wp2
                  go_roundw
                  case rel => exact ⟨q + 1, by omega, by go_num, hkr.tr (Kept.drewN _ _ _), HN2.out⟩
                  case measure => simp [intOf]; omega
            · have HN2 : Hid (∀ j, j < k3 + 1 → ∀ b, b < S.groups.length → pairS S ⟨G, st, true⟩ L j b = false) := ext_no HN3.out (fun b hb => HNQ.out b (by omega))
              go_wp2
              go_roundw
              case rel => exact ⟨k3 + 1, by omega, by go_num, hkr, HN2.out⟩
              case measure => simp [intOf]; omega
        · have HF := Hid.mk' (HV0.out (soonB_no (S := S) (F := ⟨G, st, true⟩) (L := L) (fun a ha b hb => HN3.out a (by have := HS.out; omega) b (by have := HS.out; omega))))
          go_wp2
          go_ret
          exact ⟨by rw [HF.out]; rfl, HK.out.tr hkr3⟩

end Go.Proofs.YtpnmlgillphodaaDoor

/-
  THE DOCUMENT'S Fault of layer 8, a way (made by a program).
-/
namespace Go.Proofs.YtpnmlgillphodaaDoor
open Go.RowKit Go.Lib Go.Deep
set_option linter.unusedVariables false
set_option linter.unusedSimpArgs false

set_option maxRecDepth 100000 in
set_option maxHeartbeats 20000000 in
theorem rfault_b {X : Sa} {S : St} {w : World} {c : Nat} {G : List Sn} {st : Int} {bf off bl ol cl : Nat} {L : List Nat} (h : Sat w X S) (hSh : Shape S) (hcf : ∀ i, i < S.groups.length → ∀ j, j < 3 → w.cell? ⟨bf, off + i * 3 + j, none⟩ = some (snV (Sf.g ⟨G, st, false⟩ i) j)) (hcr : S.groups.length ≤ c) (hcm : c ≤ 9223372036854775807) (hcl : ∀ i, i < S.groups.length → w.cell? ⟨bl, ol + i, none⟩ = some (.int .u8 (lg L i : Int))) (hB : By w (some ⟨bl, ol, none⟩) S.groups.length L) (h4 : allIs L 4 = false) (hH : hasIt L 4 = false) (hs : 0 < st) : Calls Tryd.prog 33 #[siteV X S, .agg #[.slice (some ⟨bf, off, none⟩) S.groups.length c, .int .i64 st, .bool false], .slice (some ⟨bl, ol, none⟩) S.groups.length cl] w fun e w' => e = .returned (.int .u8 (faultV S ⟨G, st, false⟩ L)) ∧ Kept w w' none := by
  have HCNT : Hid (cntN L 4 = 0) := by
    show _ = _
    by_cases hc : 0 < cntN L 4
    · rw [cnt_pos.1 hc] at hH; cases hH
    · omega
  have hng := hSh.ok.ng
  have hna := hSh.ok.na
  have k1 : Kept w (w.alloc (.cells #[.int .i64 S.id, .slice X.g S.groups.length X.gc, .slice X.a S.apart.length X.ac, .slice X.b S.between.length X.bc, .slice X.p S.phases.length X.pc, .slice X.e S.eyes.length X.ec, .int .i64 S.watch, .int .i64 S.feed, .int .i64 S.heal, .int .i64 S.low, .int .i64 S.high, .slice X.l S.plans.length X.lc] 33)) none := Kept.alloc _ _ _ _ _
  have k2 : Kept (w.alloc (.cells #[.int .i64 S.id, .slice X.g S.groups.length X.gc, .slice X.a S.apart.length X.ac, .slice X.b S.between.length X.bc, .slice X.p S.phases.length X.pc, .slice X.e S.eyes.length X.ec, .int .i64 S.watch, .int .i64 S.feed, .int .i64 S.heal, .int .i64 S.low, .int .i64 S.high, .slice X.l S.plans.length X.lc] 33)) ((w.alloc (.cells #[.int .i64 S.id, .slice X.g S.groups.length X.gc, .slice X.a S.apart.length X.ac, .slice X.b S.between.length X.bc, .slice X.p S.phases.length X.pc, .slice X.e S.eyes.length X.ec, .int .i64 S.watch, .int .i64 S.feed, .int .i64 S.heal, .int .i64 S.low, .int .i64 S.high, .slice X.l S.plans.length X.lc] 33)).alloc (.cells #[.slice (some ⟨bf, off, none⟩) S.groups.length c, .int .i64 st, .bool false] 41)) none := Kept.alloc _ _ _ _ _
  have hsb := (sbox_alloc h 33).kept k2
  have bn := box_alloc (w.alloc (.cells #[.int .i64 S.id, .slice X.g S.groups.length X.gc, .slice X.a S.apart.length X.ac, .slice X.b S.between.length X.bc, .slice X.p S.phases.length X.pc, .slice X.e S.eyes.length X.ec, .int .i64 S.watch, .int .i64 S.feed, .int .i64 S.heal, .int .i64 S.low, .int .i64 S.high, .slice X.l S.plans.length X.lc] 33)) (.slice (some ⟨bf, off, none⟩) S.groups.length c) (.int .i64 st) (.bool false) 41
  rw [World.size_alloc] at bn
  have hkA := k1.tr k2
  have hBA := hB.kept hkA
  obtain ⟨W2, hW2⟩ : ∃ W2, (w.alloc (.cells #[.int .i64 S.id, .slice X.g S.groups.length X.gc, .slice X.a S.apart.length X.ac, .slice X.b S.between.length X.bc, .slice X.p S.phases.length X.pc, .slice X.e S.eyes.length X.ec, .int .i64 S.watch, .int .i64 S.feed, .int .i64 S.heal, .int .i64 S.low, .int .i64 S.high, .slice X.l S.plans.length X.lc] 33)).alloc (.cells #[.slice (some ⟨bf, off, none⟩) S.groups.length c, .int .i64 st, .bool false] 41) = W2 := ⟨_, rfl⟩
  rw [hW2] at hsb bn hkA hBA
  have HSB := Hid.mk' hsb
  have HBN := Hid.mk' bn
  have HK := Hid.mk' hkA
  have HB := Hid.mk' hBA
  have HSH := Hid.mk' hSh
  have HNA := Hid.mk' hna
  have hK0 := Kept.refl W2 none
  have s0_ : ∀ w', Kept W2 w' none → w'.cell? ⟨w.heap.size, 0, none⟩ = some (.int .i64 S.id) := fun w' q => (HSB.out.kept q).c0
  have s1_ : ∀ w', Kept W2 w' none → w'.cell? ⟨w.heap.size, 1, none⟩ = some (.slice X.g S.groups.length X.gc) := fun w' q => (HSB.out.kept q).c1
  have s2_ : ∀ w', Kept W2 w' none → w'.cell? ⟨w.heap.size, 2, none⟩ = some (.slice X.a S.apart.length X.ac) := fun w' q => (HSB.out.kept q).c2
  have s3_ : ∀ w', Kept W2 w' none → w'.cell? ⟨w.heap.size, 3, none⟩ = some (.slice X.b S.between.length X.bc) := fun w' q => (HSB.out.kept q).c3
  have s4_ : ∀ w', Kept W2 w' none → w'.cell? ⟨w.heap.size, 4, none⟩ = some (.slice X.p S.phases.length X.pc) := fun w' q => (HSB.out.kept q).c4
  have s5_ : ∀ w', Kept W2 w' none → w'.cell? ⟨w.heap.size, 5, none⟩ = some (.slice X.e S.eyes.length X.ec) := fun w' q => (HSB.out.kept q).c5
  have s6_ : ∀ w', Kept W2 w' none → w'.cell? ⟨w.heap.size, 6, none⟩ = some (.int .i64 S.watch) := fun w' q => (HSB.out.kept q).c6
  have s7_ : ∀ w', Kept W2 w' none → w'.cell? ⟨w.heap.size, 7, none⟩ = some (.int .i64 S.feed) := fun w' q => (HSB.out.kept q).c7
  have s8_ : ∀ w', Kept W2 w' none → w'.cell? ⟨w.heap.size, 8, none⟩ = some (.int .i64 S.heal) := fun w' q => (HSB.out.kept q).c8
  have s9_ : ∀ w', Kept W2 w' none → w'.cell? ⟨w.heap.size, 9, none⟩ = some (.int .i64 S.low) := fun w' q => (HSB.out.kept q).c9
  have s10_ : ∀ w', Kept W2 w' none → w'.cell? ⟨w.heap.size, 10, none⟩ = some (.int .i64 S.high) := fun w' q => (HSB.out.kept q).c10
  have s11_ : ∀ w', Kept W2 w' none → w'.cell? ⟨w.heap.size, 11, none⟩ = some (.slice X.l S.plans.length X.lc) := fun w' q => (HSB.out.kept q).c11
  have n0_ : ∀ w', Kept W2 w' none → w'.cell? ⟨w.heap.size + 1, 0, none⟩ = some (.slice (some ⟨bf, off, none⟩) S.groups.length c) := fun w' q => (HBN.out.kept q).c0
  have n1_ : ∀ w', Kept W2 w' none → w'.cell? ⟨w.heap.size + 1, 1, none⟩ = some (.int .i64 st) := fun w' q => (HBN.out.kept q).c1
  have n2_ : ∀ w', Kept W2 w' none → w'.cell? ⟨w.heap.size + 1, 2, none⟩ = some (.bool false) := fun w' q => (HBN.out.kept q).c2
  have HCF : Hid (∀ i, i < S.groups.length → ∀ j, j < 3 → ∀ w', Kept W2 w' none → w'.cell? ⟨bf, off + i * 3 + j, none⟩ = some (snV (Sf.g ⟨G, st, false⟩ i) j)) := fun i hi j hj w' q => cell_kept0 (cell_kept0 (hcf i hi j hj) HK.out) q
  have HCL : Hid (∀ i, i < S.groups.length → ∀ w', Kept W2 w' none → w'.cell? ⟨bl, ol + i, none⟩ = some (.int .u8 (lg L i : Int))) := fun i hi w' q => cell_kept0 (cell_kept0 (hcl i hi) HK.out) q
  have HS := Hid.mk' hB.size
  clear h hB k1 k2 hsb bn hkA hBA hSh hcf hcl hna
  have hz0 : ((0 : Int) == (S.groups.length : Int)) = false := by simp; omega
  go_enter Tryd.func33, Tryd.ntmps33
  go_wp2_with (first | rw [hW2] | (go_at_call 54; have hn := rflash_any (c := cl) (HB.out.kept (by assumption)); rw [HCNT.out] at hn; refine hn.mono ?_; rintro e wq ⟨rfl, hwq⟩; have hwq := hwq.symm; subst hwq))
  go_loopw [8] (fun i wr => ∃ k : Nat, k ≤ S.groups.length ∧ i = .int .i64 k ∧ Kept W2 wr none ∧ ∀ j, j < k → lg L j = 1) (fun i _ => S.groups.length - (intOf i).toNat)
  case atStart => exact ⟨0, by omega, rfl, (by assumption), fun j hj => by omega⟩
  case round =>
    obtain ⟨k, hk, rfl, hkw, hno⟩ := hrel
    have HN := Hid.mk' hno
    clear hno
    by_cases hlt : k < S.groups.length
    · have l0 := HCL.out k hlt
      by_cases e : lg L k = 1
      · have HN2 := Hid.mk' (ext_no HN.out e)
        rw [e] at l0
        clear e
        go_wp2
        go_roundw
        case rel => exact ⟨k + 1, by omega, by go_num, hkw, HN2.out⟩
        case measure => simp [intOf]; omega
      · have HV := Hid.mk' (flt_is8 HS.out h4 hH (F := ⟨G, st, false⟩) (.inr hs) (by have := HS.out; omega) e)
        have e1 : ((lg L k : Int) != 1) = true := by simp; omega
        clear e
        generalize lg L k = y at *
        go_wp2
        go_ret
        exact ⟨by rw [HV.out]; rfl, HK.out.tr hkw⟩
    have hR : NoSt ⟨G, st, false⟩ L := fun h => by
      rw [allIs_yes (fun i hi => HN.out i (by have := HS.out; omega))] at h
      cases h.2
    have HR := Hid.mk' hR
    clear hR
    go_wp2
    obtain ⟨wo, hwo⟩ : ∃ wo, wo = wr := ⟨_, rfl⟩
    subst hwo
    go_loopw [9, 10] (fun i _ wr => ∃ k : Nat, k ≤ S.groups.length ∧ i = .int .i64 k ∧ Kept W2 wr none ∧ ∀ j, j < k → oneF S ⟨G, st, false⟩ L j = 0) (fun i _ _ => S.groups.length - (intOf i).toNat)
    case atStart => exact ⟨0, by omega, rfl, hkw, fun j hj => by omega⟩
    case round =>
      obtain ⟨k2, hk2, rfl, hkr2, hno⟩ := hrel
      have HN1 := Hid.mk' hno
      clear hno
      by_cases hlt2 : k2 < S.groups.length
      · obtain ⟨bg, og, eg, hcg⟩ : ∃ bg og, X.g = some ⟨bg, og, none⟩ ∧ ∀ i, i < S.groups.length → ∀ j, j < 3 → W2.cell? ⟨bg, og + i * 3 + j, none⟩ = some (grV (S.gr i) j) := by
          obtain ⟨b, o, e, _, hc⟩ := HSB.out.sat.g.at_ (by omega)
          exact ⟨b, o, e, hc⟩
        rw [eg] at s1_
        have g0 : ∀ w', Kept W2 w' none → w'.cell? ⟨bg, og + k2 * 3, none⟩ = some (.int .u8 ((S.gr k2).kind : Int)) := fun w' q => cell_kept0 (hcg k2 hlt2 0 (by omega)) q
        have g1 : ∀ w', Kept W2 w' none → w'.cell? ⟨bg, og + k2 * 3 + 1, none⟩ = some (.int .i64 (S.gr k2).min) := fun w' q => cell_kept0 (hcg k2 hlt2 1 (by omega)) q
        have g2 : ∀ w', Kept W2 w' none → w'.cell? ⟨bg, og + k2 * 3 + 2, none⟩ = some (.int .i64 (S.gr k2).yellow) := fun w' q => cell_kept0 (hcg k2 hlt2 2 (by omega)) q
        have t0 : ∀ w', Kept W2 w' none → w'.cell? ⟨bf, off + k2 * 3, none⟩ = some (.int .u8 ((Sf.g ⟨G, st, false⟩ k2).asp : Int)) := fun w' q => HCF.out k2 hlt2 0 (by omega) w' q
        have t1 : ∀ w', Kept W2 w' none → w'.cell? ⟨bf, off + k2 * 3 + 1, none⟩ = some (.int .i64 (Sf.g ⟨G, st, false⟩ k2).since) := fun w' q => HCF.out k2 hlt2 1 (by omega) w' q
        have t2 : ∀ w', Kept W2 w' none → w'.cell? ⟨bf, off + k2 * 3 + 2, none⟩ = some (.int .i64 (Sf.g ⟨G, st, false⟩ k2).ended) := fun w' q => HCF.out k2 hlt2 2 (by omega) w' q
        have m0 := HCL.out k2 hlt2
        have hgc := HSB.out.sat.gk.room
        have hof : oneF S ⟨G, st, false⟩ L k2 = mayV (S.gr k2).min (S.gr k2).yellow (Sf.g ⟨G, st, false⟩ k2).asp (Sf.g ⟨G, st, false⟩ k2).since (lg L k2) := rfl
        have HOF := Hid.mk' hof
        have HYES : Hid (oneF S ⟨G, st, false⟩ L k2 ≠ 0 → faultV S ⟨G, st, false⟩ L = oneF S ⟨G, st, false⟩ L k2) := fun hz => flt_isone HS.out h4 hH HR.out (by unfold oneV; rw [if_neg (by simp), HS.out]; exact ownV_at hlt2 HN1.out hz) hz
        have HNO : Hid (oneF S ⟨G, st, false⟩ L k2 = 0 → ∀ j, j < k2 + 1 → oneF S ⟨G, st, false⟩ L j = 0) := fun h => ext_no HN1.out h
        clear hof hcg eg
        generalize oneF S ⟨G, st, false⟩ L k2 = z at *
        generalize S.gr k2 = Gr0 at *
        generalize Sf.g ⟨G, st, false⟩ k2 = N at *
        generalize lg L k2 = y at *
        go_wp2
        go_region_held (fun w' => Kept W2 w' none)
          ((first | exact hkr2 | exact Kept.tr hkr2 (Kept.drew _ _) | assumption | exact Kept.tr (by assumption) (Kept.drew _ _)))
          ((go_at_call 56; refine (rmay_any _ _ _ _ _ _ _ _).mono ?_; rintro e wS ⟨rfl, hkS⟩; have hKS : Kept W2 wS none := Kept.tr (by assumption) hkS))
        all_goals
          clear g0 g1 g2 t0 t1 t2 m0
          rw [← HOF.out]
          clear HOF
          by_cases hz : z = 0
          · have HN2 := Hid.mk' (HNO.out hz)
            subst hz
            go_wp2
            go_roundw
            case rel => exact ⟨k2 + 1, by omega, by go_num, hKS, HN2.out⟩
            case measure => simp [intOf]; omega
          · have HY := Hid.mk' (HYES.out hz)
            have hzb : (z != 0) = true := by simpa using hz
            go_wp2
            go_ret
            exact ⟨by rw [HY.out]; rfl, HK.out.tr hKS⟩
      have hO : oneV S ⟨G, st, false⟩ L = 0 := by unfold oneV; rw [if_neg (by simp), HS.out]; exact ownV_no (fun j hj => HN1.out j (by omega))
      have HO := Hid.mk' hO
      clear hO
      by_cases hm : mtB S L = true
      · have HV := Hid.mk' (flt_is3 HS.out h4 hH HR.out HO.out hm)
        go_wp2_with (go_at_call 55; have hn := rmeet8_any (c := cl) (HSB.out.sat.kept hkr2) HSH.out.ok (HB.out.kept hkr2) rfl; rw [hm] at hn; refine hn.mono ?_; rintro e wM ⟨rfl, hqM⟩; have hkM : Kept W2 wM none := hkr2.tr hqM)
        go_ret
        exact ⟨by rw [HV.out]; rfl, HK.out.tr hkM⟩
      have hm : mtB S L = false := by simpa using hm
      have HV4 : Hid (soonB S ⟨G, st, false⟩ L = true → faultV S ⟨G, st, false⟩ L = 4) := fun hh => flt_is4 HS.out h4 hH HR.out HO.out hm hh
      have HV0 : Hid (soonB S ⟨G, st, false⟩ L = false → faultV S ⟨G, st, false⟩ L = 0) := fun hh => flt_is0 HS.out h4 hH HR.out HO.out hm hh
      go_wp2_with (go_at_call 55; have hn := rmeet8_any (c := cl) (HSB.out.sat.kept hkr2) HSH.out.ok (HB.out.kept hkr2) rfl; rw [hm] at hn; refine hn.mono ?_; rintro e wM ⟨rfl, hqM⟩; have hkM : Kept W2 wM none := hkr2.tr hqM)
      clear h4 hH
      go_loopw [11, 12, 13] (fun i _ _ wr => ∃ k : Nat, k ≤ S.groups.length ∧ i = .int .i64 k ∧ Kept W2 wr none ∧ ∀ j, j < k → ∀ b, b < S.groups.length → pairS S ⟨G, st, false⟩ L j b = false) (fun i _ _ _ => S.groups.length - (intOf i).toNat)
      case atStart => exact ⟨0, by omega, rfl, hkM, fun j hj => by omega⟩
      case round =>
        obtain ⟨k3, hk3, rfl, hkr3, hno⟩ := hrel
        have HN3 := Hid.mk' hno
        clear hno
        by_cases hlt3 : k3 < S.groups.length
        · go_wp2
          obtain ⟨wo3, hwo3⟩ : ∃ wo3, wo3 = wr := ⟨_, rfl⟩
          subst hwo3
          go_loopw [12, 13] (fun i _ wr => ∃ q : Nat, q ≤ S.groups.length ∧ i = .int .i64 q ∧ Kept W2 wr none ∧ ∀ b, b < q → pairS S ⟨G, st, false⟩ L k3 b = false) (fun i _ _ => S.groups.length - (intOf i).toNat)
          case atStart => exact ⟨0, by omega, rfl, hkr3, fun j hj => by omega⟩
          case round =>
            obtain ⟨q, hq, rfl, hkr, hno⟩ := hrel
            have HNQ := Hid.mk' hno
            clear hno
            by_cases hql : q < S.groups.length
            · have l3 := HCL.out k3 hlt3
              have z3 : ∀ w', Kept W2 w' none → w'.cell? ⟨bf, off + k3 * 3, none⟩ = some (.int .u8 ((Sf.g ⟨G, st, false⟩ k3).asp : Int)) := fun w' q => HCF.out k3 hlt3 0 (by omega) w' q
              have e3 : ∀ w', Kept W2 w' none → w'.cell? ⟨bf, off + q * 3 + 2, none⟩ = some (.int .i64 (Sf.g ⟨G, st, false⟩ q).ended) := fun w' qq => HCF.out q hql 2 (by omega) w' qq
              have hpq : pairS S ⟨G, st, false⟩ L k3 q = ((lg L k3 == 2) && (!((Sf.g ⟨G, st, false⟩ k3).asp == 2) && ((S.ap q).testBit k3 && decide ((Sf.g ⟨G, st, false⟩ q).ended < S.bt q k3)))) := rfl
              have HYES : Hid (pairS S ⟨G, st, false⟩ L k3 q = true → faultV S ⟨G, st, false⟩ L = 4) := fun hh => HV4.out (soonB_yes (by have := HS.out; omega) (by have := HS.out; omega) hh)
              have HNO : Hid (pairS S ⟨G, st, false⟩ L k3 q = false → ∀ b, b < q + 1 → pairS S ⟨G, st, false⟩ L k3 b = false) := fun hh => ext_no HNQ.out hh
              have HAP := Hid.mk' (fun w' (qq : Kept W2 w' none) => rap8_any (HSB.out.sat.kept qq) q k3 (by have := HNA.out; omega) (by omega))
              have HBT := Hid.mk' (fun w' (qq : Kept W2 w' none) => rbt8_any (HSB.out.sat.kept qq) HSH.out hql hlt3)
              rw [hpq] at HYES HNO
              clear hpq
              generalize (Sf.g ⟨G, st, false⟩ q).ended = en at *
              generalize S.bt q k3 = v at *
              generalize (S.ap q).testBit k3 = t at *
              by_cases ht : lg L k3 = 2 ∧ (Sf.g ⟨G, st, false⟩ k3).asp ≠ 2
              · obtain ⟨ht1, ht2⟩ := ht
                have ht2b : (((Sf.g ⟨G, st, false⟩ k3).asp : Int) != 2) = true := by simp; omega
                have e2b : ((Sf.g ⟨G, st, false⟩ k3).asp == 2) = false := by simpa using ht2
                rw [ht1, e2b] at HYES HNO
                rw [ht1] at l3
                clear ht1 ht2 e2b
                generalize (Sf.g ⟨G, st, false⟩ k3).asp = ap at *
                cases t with
                | true =>
                  go_wp2
                  refine Code.wp_mono (Q := Rg8 ?Ab1 W2) ?contb1 ?regb1
                  case regb1 =>
                    repeat (rename_i hh; clear hh)
                    refine wp_region_held_drew (S := fun w' => Kept W2 w' none) (by kernel_rfl) (Kept.tr hkr (Kept.drew _ _)) (fun hHeld => ?_)
                    refine held_take (i := 0) (v := ?v27) rfl rfl (by kernel_rfl) (by kernel_rfl) (by kernel_rfl) (fun _ _ _ h => h) (Or.inl ⟨by rfl, ?hy27⟩) hHeld ?rest27
                    case hy27 => first | (intro w hSw; (try dsimp only at hSw); go_simp; done) | (intro w hSw; (try dsimp only at hSw); go_simp; with_reducible rfl)
                    try simp only [List.setIfInBounds_toArray, List.set_cons_zero, List.set_cons_succ]
                    refine held_take (i := 1) (v := ?v28) rfl rfl (by kernel_rfl) (by kernel_rfl) (by kernel_rfl) (fun _ _ _ h => h) (Or.inl ⟨by rfl, ?hy28⟩) hHeld ?rest28
                    case hy28 => first | (intro w hSw; (try dsimp only at hSw); go_simp; done) | (intro w hSw; (try dsimp only at hSw); go_simp; with_reducible rfl)
                    try simp only [List.setIfInBounds_toArray, List.set_cons_zero, List.set_cons_succ]
                    refine held_take (i := 2) (v := ?v29) rfl rfl (by kernel_rfl) (by kernel_rfl) (by kernel_rfl) (fun _ _ _ h => h) (Or.inl ⟨by rfl, ?hy29⟩) hHeld ?rest29
                    case hy29 => first | (intro w hSw; (try dsimp only at hSw); go_simp; done) | (intro w hSw; (try dsimp only at hSw); go_simp; with_reducible rfl)
                    try simp only [List.setIfInBounds_toArray, List.set_cons_zero, List.set_cons_succ]
                    refine held_take (i := 3) (v := ?v30) rfl rfl (by kernel_rfl) (by kernel_rfl) (by kernel_rfl) (fun _ _ _ h => h) (Or.inl ⟨by rfl, ?hy30⟩) hHeld ?rest30
                    case hy30 => first | (intro w hSw; (try dsimp only at hSw); go_simp; done) | (intro w hSw; (try dsimp only at hSw); go_simp; with_reducible rfl)
                    try simp only [List.setIfInBounds_toArray, List.set_cons_zero, List.set_cons_succ]
                    refine held_take (i := 4) (v := ?v31) rfl rfl (by kernel_rfl) (by kernel_rfl) (by kernel_rfl) (fun _ _ _ h => h) (Or.inl ⟨by rfl, ?hy31⟩) hHeld ?rest31
                    case hy31 => first | (intro w hSw; (try dsimp only at hSw); go_simp; done) | (intro w hSw; (try dsimp only at hSw); go_simp; with_reducible rfl)
                    try simp only [List.setIfInBounds_toArray, List.set_cons_zero, List.set_cons_succ]
                    refine wpAnyH_ready (rs := [5]) (by kernel_rfl) (by simp) ?_
                    refine AllReadyH.cons rfl (fun K hK => ?_) AllReadyH.nil
                    go_simp
                    go_wp2_with (go_at_call 51; refine (HAP.out _ hHeld).mono ?_; rintro e wA ⟨rfl, hkA⟩; have hKS : Kept W2 wA none := hHeld.tr hkA)
                    refine hK.out _ _ hKS (fun hHeld => ?_)
                    clear hK K
                    refine held_take (i := 6) (v := ?v32) rfl rfl (by kernel_rfl) (by kernel_rfl) (by kernel_rfl) (fun _ _ _ h => h) (Or.inl ⟨by rfl, ?hy32⟩) hHeld ?rest32
                    case hy32 => first | (intro w hSw; (try dsimp only at hSw); go_simp; done) | (intro w hSw; (try dsimp only at hSw); go_simp; with_reducible rfl)
                    try simp only [List.setIfInBounds_toArray, List.set_cons_zero, List.set_cons_succ]
                    refine held_take (i := 7) (v := ?v33) rfl rfl (by kernel_rfl) (by kernel_rfl) (by kernel_rfl) (fun _ _ _ h => h) (Or.inl ⟨by rfl, ?hy33⟩) hHeld ?rest33
                    case hy33 => first | (intro w hSw; (try dsimp only at hSw); go_simp; done) | (intro w hSw; (try dsimp only at hSw); go_simp; with_reducible rfl)
                    try simp only [List.setIfInBounds_toArray, List.set_cons_zero, List.set_cons_succ]
                    refine held_take (i := 8) (v := ?v34) rfl rfl (by kernel_rfl) (by kernel_rfl) (by kernel_rfl) (fun _ _ _ h => h) (Or.inl ⟨by rfl, ?hy34⟩) hHeld ?rest34
                    case hy34 => first | (intro w hSw; (try dsimp only at hSw); go_simp; done) | (intro w hSw; (try dsimp only at hSw); go_simp; with_reducible rfl)
                    try simp only [List.setIfInBounds_toArray, List.set_cons_zero, List.set_cons_succ]
                    refine held_take (i := 9) (v := ?v35) rfl rfl (by kernel_rfl) (by kernel_rfl) (by kernel_rfl) (fun _ _ _ h => h) (Or.inl ⟨by rfl, ?hy35⟩) hHeld ?rest35
                    case hy35 => first | (intro w hSw; (try dsimp only at hSw); go_simp; done) | (intro w hSw; (try dsimp only at hSw); go_simp; with_reducible rfl)
                    try simp only [List.setIfInBounds_toArray, List.set_cons_zero, List.set_cons_succ]
                    refine held_take (i := 10) (v := ?v36) rfl rfl (by kernel_rfl) (by kernel_rfl) (by kernel_rfl) (fun _ _ _ h => h) (Or.inl ⟨by rfl, ?hy36⟩) hHeld ?rest36
                    case hy36 => first | (intro w hSw; (try dsimp only at hSw); go_simp; done) | (intro w hSw; (try dsimp only at hSw); go_simp; with_reducible rfl)
                    try simp only [List.setIfInBounds_toArray, List.set_cons_zero, List.set_cons_succ]
                    refine held_take (i := 11) (v := ?v37) rfl rfl (by kernel_rfl) (by kernel_rfl) (by kernel_rfl) (fun _ _ _ h => h) (Or.inl ⟨by rfl, ?hy37⟩) hHeld ?rest37
                    case hy37 => first | (intro w hSw; (try dsimp only at hSw); go_simp; done) | (intro w hSw; (try dsimp only at hSw); go_simp; with_reducible rfl)
                    try simp only [List.setIfInBounds_toArray, List.set_cons_zero, List.set_cons_succ]
                    refine held_take (i := 12) (v := ?v38) rfl rfl (by kernel_rfl) (by kernel_rfl) (by kernel_rfl) (fun _ _ _ h => h) (Or.inl ⟨by rfl, ?hy38⟩) hHeld ?rest38
                    case hy38 => first | (intro w hSw; (try dsimp only at hSw); go_simp; done) | (intro w hSw; (try dsimp only at hSw); go_simp; with_reducible rfl)
                    try simp only [List.setIfInBounds_toArray, List.set_cons_zero, List.set_cons_succ]
                    refine held_take (i := 13) (v := ?v39) rfl rfl (by kernel_rfl) (by kernel_rfl) (by kernel_rfl) (fun _ _ _ h => h) (Or.inl ⟨by rfl, ?hy39⟩) hHeld ?rest39
                    case hy39 => first | (intro w hSw; (try dsimp only at hSw); go_simp; done) | (intro w hSw; (try dsimp only at hSw); go_simp; with_reducible rfl)
                    try simp only [List.setIfInBounds_toArray, List.set_cons_zero, List.set_cons_succ]
                    refine held_take (i := 14) (v := ?v40) rfl rfl (by kernel_rfl) (by kernel_rfl) (by kernel_rfl) (fun _ _ _ h => h) (Or.inl ⟨by rfl, ?hy40⟩) hHeld ?rest40
                    case hy40 => first | (intro w hSw; (try dsimp only at hSw); go_simp; done) | (intro w hSw; (try dsimp only at hSw); go_simp; with_reducible rfl)
                    try simp only [List.setIfInBounds_toArray, List.set_cons_zero, List.set_cons_succ]
                    refine held_take (i := 15) (v := ?v41) rfl rfl (by kernel_rfl) (by kernel_rfl) (by kernel_rfl) (fun _ _ _ h => h) (Or.inl ⟨by rfl, ?hy41⟩) hHeld ?rest41
                    case hy41 => first | (intro w hSw; (try dsimp only at hSw); go_simp; done) | (intro w hSw; (try dsimp only at hSw); go_simp; with_reducible rfl)
                    try simp only [List.setIfInBounds_toArray, List.set_cons_zero, List.set_cons_succ]
                    refine held_take (i := 16) (v := ?v42) rfl rfl (by kernel_rfl) (by kernel_rfl) (by kernel_rfl) (fun _ _ _ h => h) (Or.inl ⟨by rfl, ?hy42⟩) hHeld ?rest42
                    case hy42 => first | (intro w hSw; (try dsimp only at hSw); go_simp; done) | (intro w hSw; (try dsimp only at hSw); go_simp; with_reducible rfl)
                    try simp only [List.setIfInBounds_toArray, List.set_cons_zero, List.set_cons_succ]
                    refine wpAnyH_ready (rs := [17]) (by kernel_rfl) (by simp) ?_
                    refine AllReadyH.cons rfl (fun K hK => ?_) AllReadyH.nil
                    go_simp
                    go_wp2_with (go_at_call 52; refine (HBT.out _ hHeld).mono ?_; rintro e wB ⟨rfl, hkB⟩; have hKT : Kept W2 wB none := hHeld.tr hkB)
                    refine hK.out _ _ hKT (fun hHeld => ?_)
                    clear hK K
                    refine held_take (i := 18) (v := ?v43) rfl rfl (by kernel_rfl) (by kernel_rfl) (by kernel_rfl) (fun _ _ _ h => h) (Or.inl ⟨by rfl, ?hy43⟩) hHeld ?rest43
                    case hy43 => first | (intro w hSw; (try dsimp only at hSw); go_simp; done) | (intro w hSw; (try dsimp only at hSw); go_simp; with_reducible rfl)
                    try simp only [List.setIfInBounds_toArray, List.set_cons_zero, List.set_cons_succ]
                    refine held_take (i := 19) (v := ?v44) rfl rfl (by kernel_rfl) (by kernel_rfl) (by kernel_rfl) (fun _ _ _ h => h) (Or.inl ⟨by rfl, ?hy44⟩) hHeld ?rest44
                    case hy44 => first | (intro w hSw; (try dsimp only at hSw); go_simp; done) | (intro w hSw; (try dsimp only at hSw); go_simp; with_reducible rfl)
                    try simp only [List.setIfInBounds_toArray, List.set_cons_zero, List.set_cons_succ]
                    refine wpAnyH_done (by kernel_rfl) ?_ _
                    refine And.intro ?_ hHeld
                    with_reducible rfl
                  case contb1 =>
                  intro e a' w' hq'
                  obtain ⟨rfl, rfl, hkq⟩ := hq'.out
                  by_cases hv : en < v
                  · have HY := Hid.mk' (HYES.out (by simp [hv]))
                    go_wp2
                    go_ret
                    exact ⟨by rw [HY.out]; rfl, HK.out.tr hkq⟩
                  · have HN2 := Hid.mk' (HNO.out (by simp [hv]))
                    have hvb : decide (en < v) = false := by simp [hv]
                    go_wp2
                    go_roundw
                    case rel => exact ⟨q + 1, by omega, by go_num, hkq, HN2.out⟩
                    case measure => simp [intOf]; omega
                | false =>
                  have HN2 := Hid.mk' (HNO.out (by simp))
                  go_wp2
                  refine Code.wp_mono (Q := Rg8 ?Ab2 W2) ?contb2 ?regb2
                  case regb2 =>
                    repeat (rename_i hh; clear hh)
                    refine wp_region_held_drew (S := fun w' => Kept W2 w' none) (by kernel_rfl) (Kept.tr hkr (Kept.drew _ _)) (fun hHeld => ?_)
                    refine held_take (i := 0) (v := ?v45) rfl rfl (by kernel_rfl) (by kernel_rfl) (by kernel_rfl) (fun _ _ _ h => h) (Or.inl ⟨by rfl, ?hy45⟩) hHeld ?rest45
                    case hy45 => first | (intro w hSw; (try dsimp only at hSw); go_simp; done) | (intro w hSw; (try dsimp only at hSw); go_simp; with_reducible rfl)
                    try simp only [List.setIfInBounds_toArray, List.set_cons_zero, List.set_cons_succ]
                    refine held_take (i := 1) (v := ?v46) rfl rfl (by kernel_rfl) (by kernel_rfl) (by kernel_rfl) (fun _ _ _ h => h) (Or.inl ⟨by rfl, ?hy46⟩) hHeld ?rest46
                    case hy46 => first | (intro w hSw; (try dsimp only at hSw); go_simp; done) | (intro w hSw; (try dsimp only at hSw); go_simp; with_reducible rfl)
                    try simp only [List.setIfInBounds_toArray, List.set_cons_zero, List.set_cons_succ]
                    refine held_take (i := 2) (v := ?v47) rfl rfl (by kernel_rfl) (by kernel_rfl) (by kernel_rfl) (fun _ _ _ h => h) (Or.inl ⟨by rfl, ?hy47⟩) hHeld ?rest47
                    case hy47 => first | (intro w hSw; (try dsimp only at hSw); go_simp; done) | (intro w hSw; (try dsimp only at hSw); go_simp; with_reducible rfl)
                    try simp only [List.setIfInBounds_toArray, List.set_cons_zero, List.set_cons_succ]
                    refine held_take (i := 3) (v := ?v48) rfl rfl (by kernel_rfl) (by kernel_rfl) (by kernel_rfl) (fun _ _ _ h => h) (Or.inl ⟨by rfl, ?hy48⟩) hHeld ?rest48
                    case hy48 => first | (intro w hSw; (try dsimp only at hSw); go_simp; done) | (intro w hSw; (try dsimp only at hSw); go_simp; with_reducible rfl)
                    try simp only [List.setIfInBounds_toArray, List.set_cons_zero, List.set_cons_succ]
                    refine held_take (i := 4) (v := ?v49) rfl rfl (by kernel_rfl) (by kernel_rfl) (by kernel_rfl) (fun _ _ _ h => h) (Or.inl ⟨by rfl, ?hy49⟩) hHeld ?rest49
                    case hy49 => first | (intro w hSw; (try dsimp only at hSw); go_simp; done) | (intro w hSw; (try dsimp only at hSw); go_simp; with_reducible rfl)
                    try simp only [List.setIfInBounds_toArray, List.set_cons_zero, List.set_cons_succ]
                    refine wpAnyH_ready (rs := [5]) (by kernel_rfl) (by simp) ?_
                    refine AllReadyH.cons rfl (fun K hK => ?_) AllReadyH.nil
                    go_simp
                    go_wp2_with (go_at_call 51; refine (HAP.out _ hHeld).mono ?_; rintro e wA ⟨rfl, hkA⟩; have hKS : Kept W2 wA none := hHeld.tr hkA)
                    refine hK.out _ _ hKS (fun hHeld => ?_)
                    clear hK K
                    refine held_take (i := 6) (v := ?v50) rfl rfl (by kernel_rfl) (by kernel_rfl) (by kernel_rfl) (fun _ _ _ h => h) (Or.inl ⟨by rfl, ?hy50⟩) hHeld ?rest50
                    case hy50 => first | (intro w hSw; (try dsimp only at hSw); go_simp; done) | (intro w hSw; (try dsimp only at hSw); go_simp; with_reducible rfl)
                    try simp only [List.setIfInBounds_toArray, List.set_cons_zero, List.set_cons_succ]
                    refine held_take (i := 7) (v := ?v51) rfl rfl (by kernel_rfl) (by kernel_rfl) (by kernel_rfl) (fun _ _ _ h => h) (Or.inl ⟨by rfl, ?hy51⟩) hHeld ?rest51
                    case hy51 => first | (intro w hSw; (try dsimp only at hSw); go_simp; done) | (intro w hSw; (try dsimp only at hSw); go_simp; with_reducible rfl)
                    try simp only [List.setIfInBounds_toArray, List.set_cons_zero, List.set_cons_succ]
                    refine held_take (i := 8) (v := undef) rfl rfl (by kernel_rfl) (by kernel_rfl) (by kernel_rfl) (fun _ _ _ h => h) (Or.inr ⟨by rfl, rfl⟩) hHeld ?_
                    try simp only [List.setIfInBounds_toArray, List.set_cons_zero, List.set_cons_succ]
                    refine held_take (i := 9) (v := undef) rfl rfl (by kernel_rfl) (by kernel_rfl) (by kernel_rfl) (fun _ _ _ h => h) (Or.inr ⟨by rfl, rfl⟩) hHeld ?_
                    try simp only [List.setIfInBounds_toArray, List.set_cons_zero, List.set_cons_succ]
                    refine held_take (i := 10) (v := undef) rfl rfl (by kernel_rfl) (by kernel_rfl) (by kernel_rfl) (fun _ _ _ h => h) (Or.inr ⟨by rfl, rfl⟩) hHeld ?_
                    try simp only [List.setIfInBounds_toArray, List.set_cons_zero, List.set_cons_succ]
                    refine held_take (i := 11) (v := undef) rfl rfl (by kernel_rfl) (by kernel_rfl) (by kernel_rfl) (fun _ _ _ h => h) (Or.inr ⟨by rfl, rfl⟩) hHeld ?_
                    try simp only [List.setIfInBounds_toArray, List.set_cons_zero, List.set_cons_succ]
                    refine held_take (i := 12) (v := undef) rfl rfl (by kernel_rfl) (by kernel_rfl) (by kernel_rfl) (fun _ _ _ h => h) (Or.inr ⟨by rfl, rfl⟩) hHeld ?_
                    try simp only [List.setIfInBounds_toArray, List.set_cons_zero, List.set_cons_succ]
                    refine held_take (i := 13) (v := undef) rfl rfl (by kernel_rfl) (by kernel_rfl) (by kernel_rfl) (fun _ _ _ h => h) (Or.inr ⟨by rfl, rfl⟩) hHeld ?_
                    try simp only [List.setIfInBounds_toArray, List.set_cons_zero, List.set_cons_succ]
                    refine held_take (i := 14) (v := undef) rfl rfl (by kernel_rfl) (by kernel_rfl) (by kernel_rfl) (fun _ _ _ h => h) (Or.inr ⟨by rfl, rfl⟩) hHeld ?_
                    try simp only [List.setIfInBounds_toArray, List.set_cons_zero, List.set_cons_succ]
                    refine held_take (i := 15) (v := undef) rfl rfl (by kernel_rfl) (by kernel_rfl) (by kernel_rfl) (fun _ _ _ h => h) (Or.inr ⟨by rfl, rfl⟩) hHeld ?_
                    try simp only [List.setIfInBounds_toArray, List.set_cons_zero, List.set_cons_succ]
                    refine held_take (i := 16) (v := undef) rfl rfl (by kernel_rfl) (by kernel_rfl) (by kernel_rfl) (fun _ _ _ h => h) (Or.inr ⟨by rfl, rfl⟩) hHeld ?_
                    try simp only [List.setIfInBounds_toArray, List.set_cons_zero, List.set_cons_succ]
                    refine held_take (i := 17) (v := undef) rfl rfl (by kernel_rfl) (by kernel_rfl) (by kernel_rfl) (fun _ _ _ h => h) (Or.inr ⟨by rfl, rfl⟩) hHeld ?_
                    try simp only [List.setIfInBounds_toArray, List.set_cons_zero, List.set_cons_succ]
                    refine held_take (i := 18) (v := undef) rfl rfl (by kernel_rfl) (by kernel_rfl) (by kernel_rfl) (fun _ _ _ h => h) (Or.inr ⟨by rfl, rfl⟩) hHeld ?_
                    try simp only [List.setIfInBounds_toArray, List.set_cons_zero, List.set_cons_succ]
                    refine held_take (i := 19) (v := ?v52) rfl rfl (by kernel_rfl) (by kernel_rfl) (by kernel_rfl) (fun _ _ _ h => h) (Or.inl ⟨by rfl, ?hy52⟩) hHeld ?rest52
                    case hy52 => first | (intro w hSw; (try dsimp only at hSw); go_simp; done) | (intro w hSw; (try dsimp only at hSw); go_simp; with_reducible rfl)
                    try simp only [List.setIfInBounds_toArray, List.set_cons_zero, List.set_cons_succ]
                    refine wpAnyH_done (by kernel_rfl) ?_ _
                    refine And.intro ?_ hHeld
                    with_reducible rfl
                  case contb2 =>
                  intro e a' w' hq'
                  obtain ⟨rfl, rfl, hkq⟩ := hq'.out
                  go_wp2
                  go_roundw
                  case rel => exact ⟨q + 1, by omega, by go_num, hkq, HN2.out⟩
                  case measure => simp [intOf]; omega
              · have hpf : ((lg L k3 == 2) && (!((Sf.g ⟨G, st, false⟩ k3).asp == 2) && (t && decide (en < v)))) = false := by
                  by_cases h1 : lg L k3 = 2
                  · have h2 : (Sf.g ⟨G, st, false⟩ k3).asp = 2 := by
                      by_cases h2 : (Sf.g ⟨G, st, false⟩ k3).asp = 2
                      · exact h2
                      · exact absurd ⟨h1, h2⟩ ht
                    simp [h2]
                  · simp [h1]
                have HN2 := Hid.mk' (HNO.out hpf)
                clear hpf
                by_cases h1 : lg L k3 = 2
                · have h2 : (Sf.g ⟨G, st, false⟩ k3).asp = 2 := by
                    by_cases h2 : (Sf.g ⟨G, st, false⟩ k3).asp = 2
                    · exact h2
                    · exact absurd ⟨h1, h2⟩ ht
                  rw [h1] at l3
                  rw [h2] at z3
                  clear h1 h2 ht
                  go_wp2
                  go_quiet (fail)
                  go_wp2
                  go_roundw
                  case rel => exact ⟨q + 1, by omega, by go_num, hkr.tr (Kept.drewN _ _ _), HN2.out⟩
                  case measure => simp [intOf]; omega
                · have h1b : ((lg L k3 : Int) == 2) = false := by simp; omega
                  clear h1 ht
                  generalize lg L k3 = y at *
                  go_wp2
                  go_quiet (fail)
                  go_wp2
                  go_roundw
                  case rel => exact ⟨q + 1, by omega, by go_num, hkr.tr (Kept.drewN _ _ _), HN2.out⟩
                  case measure => simp [intOf]; omega
            · have HN2 : Hid (∀ j, j < k3 + 1 → ∀ b, b < S.groups.length → pairS S ⟨G, st, false⟩ L j b = false) := ext_no HN3.out (fun b hb => HNQ.out b (by omega))
              go_wp2
              go_roundw
              case rel => exact ⟨k3 + 1, by omega, by go_num, hkr, HN2.out⟩
              case measure => simp [intOf]; omega
        · have HF := Hid.mk' (HV0.out (soonB_no (S := S) (F := ⟨G, st, false⟩) (L := L) (fun a ha b hb => HN3.out a (by have := HS.out; omega) b (by have := HS.out; omega))))
          go_wp2
          go_ret
          exact ⟨by rw [HF.out]; rfl, HK.out.tr hkr3⟩

end Go.Proofs.YtpnmlgillphodaaDoor

/-
  THE DOCUMENT'S Fault of layer 8, a way (made by a program).
-/
namespace Go.Proofs.YtpnmlgillphodaaDoor
open Go.RowKit Go.Lib Go.Deep
set_option linter.unusedVariables false
set_option linter.unusedSimpArgs false

set_option maxRecDepth 100000 in
set_option maxHeartbeats 20000000 in
theorem rfault_c {X : Sa} {S : St} {w : World} {c : Nat} {G : List Sn} {st : Int} {bf off bl ol cl : Nat} {L : List Nat} (h : Sat w X S) (hSh : Shape S) (hcf : ∀ i, i < S.groups.length → ∀ j, j < 3 → w.cell? ⟨bf, off + i * 3 + j, none⟩ = some (snV (Sf.g ⟨G, st, false⟩ i) j)) (hcr : S.groups.length ≤ c) (hcm : c ≤ 9223372036854775807) (hcl : ∀ i, i < S.groups.length → w.cell? ⟨bl, ol + i, none⟩ = some (.int .u8 (lg L i : Int))) (hB : By w (some ⟨bl, ol, none⟩) S.groups.length L) (h4 : allIs L 4 = false) (hH : hasIt L 4 = false) (hs : st ≤ 0) : Calls Tryd.prog 33 #[siteV X S, .agg #[.slice (some ⟨bf, off, none⟩) S.groups.length c, .int .i64 st, .bool false], .slice (some ⟨bl, ol, none⟩) S.groups.length cl] w fun e w' => e = .returned (.int .u8 (faultV S ⟨G, st, false⟩ L)) ∧ Kept w w' none := by
  have HCNT : Hid (cntN L 4 = 0) := by
    show _ = _
    by_cases hc : 0 < cntN L 4
    · rw [cnt_pos.1 hc] at hH; cases hH
    · omega
  have hng := hSh.ok.ng
  have hna := hSh.ok.na
  have k1 : Kept w (w.alloc (.cells #[.int .i64 S.id, .slice X.g S.groups.length X.gc, .slice X.a S.apart.length X.ac, .slice X.b S.between.length X.bc, .slice X.p S.phases.length X.pc, .slice X.e S.eyes.length X.ec, .int .i64 S.watch, .int .i64 S.feed, .int .i64 S.heal, .int .i64 S.low, .int .i64 S.high, .slice X.l S.plans.length X.lc] 33)) none := Kept.alloc _ _ _ _ _
  have k2 : Kept (w.alloc (.cells #[.int .i64 S.id, .slice X.g S.groups.length X.gc, .slice X.a S.apart.length X.ac, .slice X.b S.between.length X.bc, .slice X.p S.phases.length X.pc, .slice X.e S.eyes.length X.ec, .int .i64 S.watch, .int .i64 S.feed, .int .i64 S.heal, .int .i64 S.low, .int .i64 S.high, .slice X.l S.plans.length X.lc] 33)) ((w.alloc (.cells #[.int .i64 S.id, .slice X.g S.groups.length X.gc, .slice X.a S.apart.length X.ac, .slice X.b S.between.length X.bc, .slice X.p S.phases.length X.pc, .slice X.e S.eyes.length X.ec, .int .i64 S.watch, .int .i64 S.feed, .int .i64 S.heal, .int .i64 S.low, .int .i64 S.high, .slice X.l S.plans.length X.lc] 33)).alloc (.cells #[.slice (some ⟨bf, off, none⟩) S.groups.length c, .int .i64 st, .bool false] 41)) none := Kept.alloc _ _ _ _ _
  have hsb := (sbox_alloc h 33).kept k2
  have bn := box_alloc (w.alloc (.cells #[.int .i64 S.id, .slice X.g S.groups.length X.gc, .slice X.a S.apart.length X.ac, .slice X.b S.between.length X.bc, .slice X.p S.phases.length X.pc, .slice X.e S.eyes.length X.ec, .int .i64 S.watch, .int .i64 S.feed, .int .i64 S.heal, .int .i64 S.low, .int .i64 S.high, .slice X.l S.plans.length X.lc] 33)) (.slice (some ⟨bf, off, none⟩) S.groups.length c) (.int .i64 st) (.bool false) 41
  rw [World.size_alloc] at bn
  have hkA := k1.tr k2
  have hBA := hB.kept hkA
  obtain ⟨W2, hW2⟩ : ∃ W2, (w.alloc (.cells #[.int .i64 S.id, .slice X.g S.groups.length X.gc, .slice X.a S.apart.length X.ac, .slice X.b S.between.length X.bc, .slice X.p S.phases.length X.pc, .slice X.e S.eyes.length X.ec, .int .i64 S.watch, .int .i64 S.feed, .int .i64 S.heal, .int .i64 S.low, .int .i64 S.high, .slice X.l S.plans.length X.lc] 33)).alloc (.cells #[.slice (some ⟨bf, off, none⟩) S.groups.length c, .int .i64 st, .bool false] 41) = W2 := ⟨_, rfl⟩
  rw [hW2] at hsb bn hkA hBA
  have HSB := Hid.mk' hsb
  have HBN := Hid.mk' bn
  have HK := Hid.mk' hkA
  have HB := Hid.mk' hBA
  have HSH := Hid.mk' hSh
  have HNA := Hid.mk' hna
  have hK0 := Kept.refl W2 none
  have s0_ : ∀ w', Kept W2 w' none → w'.cell? ⟨w.heap.size, 0, none⟩ = some (.int .i64 S.id) := fun w' q => (HSB.out.kept q).c0
  have s1_ : ∀ w', Kept W2 w' none → w'.cell? ⟨w.heap.size, 1, none⟩ = some (.slice X.g S.groups.length X.gc) := fun w' q => (HSB.out.kept q).c1
  have s2_ : ∀ w', Kept W2 w' none → w'.cell? ⟨w.heap.size, 2, none⟩ = some (.slice X.a S.apart.length X.ac) := fun w' q => (HSB.out.kept q).c2
  have s3_ : ∀ w', Kept W2 w' none → w'.cell? ⟨w.heap.size, 3, none⟩ = some (.slice X.b S.between.length X.bc) := fun w' q => (HSB.out.kept q).c3
  have s4_ : ∀ w', Kept W2 w' none → w'.cell? ⟨w.heap.size, 4, none⟩ = some (.slice X.p S.phases.length X.pc) := fun w' q => (HSB.out.kept q).c4
  have s5_ : ∀ w', Kept W2 w' none → w'.cell? ⟨w.heap.size, 5, none⟩ = some (.slice X.e S.eyes.length X.ec) := fun w' q => (HSB.out.kept q).c5
  have s6_ : ∀ w', Kept W2 w' none → w'.cell? ⟨w.heap.size, 6, none⟩ = some (.int .i64 S.watch) := fun w' q => (HSB.out.kept q).c6
  have s7_ : ∀ w', Kept W2 w' none → w'.cell? ⟨w.heap.size, 7, none⟩ = some (.int .i64 S.feed) := fun w' q => (HSB.out.kept q).c7
  have s8_ : ∀ w', Kept W2 w' none → w'.cell? ⟨w.heap.size, 8, none⟩ = some (.int .i64 S.heal) := fun w' q => (HSB.out.kept q).c8
  have s9_ : ∀ w', Kept W2 w' none → w'.cell? ⟨w.heap.size, 9, none⟩ = some (.int .i64 S.low) := fun w' q => (HSB.out.kept q).c9
  have s10_ : ∀ w', Kept W2 w' none → w'.cell? ⟨w.heap.size, 10, none⟩ = some (.int .i64 S.high) := fun w' q => (HSB.out.kept q).c10
  have s11_ : ∀ w', Kept W2 w' none → w'.cell? ⟨w.heap.size, 11, none⟩ = some (.slice X.l S.plans.length X.lc) := fun w' q => (HSB.out.kept q).c11
  have n0_ : ∀ w', Kept W2 w' none → w'.cell? ⟨w.heap.size + 1, 0, none⟩ = some (.slice (some ⟨bf, off, none⟩) S.groups.length c) := fun w' q => (HBN.out.kept q).c0
  have n1_ : ∀ w', Kept W2 w' none → w'.cell? ⟨w.heap.size + 1, 1, none⟩ = some (.int .i64 st) := fun w' q => (HBN.out.kept q).c1
  have n2_ : ∀ w', Kept W2 w' none → w'.cell? ⟨w.heap.size + 1, 2, none⟩ = some (.bool false) := fun w' q => (HBN.out.kept q).c2
  have HCF : Hid (∀ i, i < S.groups.length → ∀ j, j < 3 → ∀ w', Kept W2 w' none → w'.cell? ⟨bf, off + i * 3 + j, none⟩ = some (snV (Sf.g ⟨G, st, false⟩ i) j)) := fun i hi j hj w' q => cell_kept0 (cell_kept0 (hcf i hi j hj) HK.out) q
  have HCL : Hid (∀ i, i < S.groups.length → ∀ w', Kept W2 w' none → w'.cell? ⟨bl, ol + i, none⟩ = some (.int .u8 (lg L i : Int))) := fun i hi w' q => cell_kept0 (cell_kept0 (hcl i hi) HK.out) q
  have HS := Hid.mk' hB.size
  clear h hB k1 k2 hsb bn hkA hBA hSh hcf hcl hna
  have hz0 : ((0 : Int) == (S.groups.length : Int)) = false := by simp; omega
  go_enter Tryd.func33, Tryd.ntmps33
  go_wp2_with (first | rw [hW2] | (go_at_call 54; have hn := rflash_any (c := cl) (HB.out.kept (by assumption)); rw [HCNT.out] at hn; refine hn.mono ?_; rintro e wq ⟨rfl, hwq⟩; have hwq := hwq.symm; subst hwq))
  go_loopw [8] (fun i wr => ∃ k : Nat, k ≤ S.groups.length ∧ i = .int .i64 k ∧ Kept W2 wr none) (fun i _ => S.groups.length - (intOf i).toNat)
  case atStart => exact ⟨0, by omega, rfl, (by assumption)⟩
  case round =>
    obtain ⟨k, hk, rfl, hkw⟩ := hrel
    by_cases hlt : k < S.groups.length
    · have l0 := HCL.out k hlt
      by_cases e : lg L k = 1
      · rw [e] at l0
        clear e
        go_wp2
        go_roundw
        case rel => exact ⟨k + 1, by omega, by go_num, hkw⟩
        case measure => simp [intOf]; omega
      · have e1 : ((lg L k : Int) != 1) = true := by simp; omega
        clear e
        generalize lg L k = y at *
        go_wp2
        go_roundw
        case rel => exact ⟨k + 1, by omega, by go_num, hkw⟩
        case measure => simp [intOf]; omega
    have hR : NoSt ⟨G, st, false⟩ L := fun h => by
      rcases h.1 with h | h
      · cases h
      · dsimp only at h
        omega
    have HR := Hid.mk' hR
    clear hR
    go_wp2
    obtain ⟨wo, hwo⟩ : ∃ wo, wo = wr := ⟨_, rfl⟩
    subst hwo
    go_loopw [9, 10] (fun i _ wr => ∃ k : Nat, k ≤ S.groups.length ∧ i = .int .i64 k ∧ Kept W2 wr none ∧ ∀ j, j < k → oneF S ⟨G, st, false⟩ L j = 0) (fun i _ _ => S.groups.length - (intOf i).toNat)
    case atStart => exact ⟨0, by omega, rfl, hkw, fun j hj => by omega⟩
    case round =>
      obtain ⟨k2, hk2, rfl, hkr2, hno⟩ := hrel
      have HN1 := Hid.mk' hno
      clear hno
      by_cases hlt2 : k2 < S.groups.length
      · obtain ⟨bg, og, eg, hcg⟩ : ∃ bg og, X.g = some ⟨bg, og, none⟩ ∧ ∀ i, i < S.groups.length → ∀ j, j < 3 → W2.cell? ⟨bg, og + i * 3 + j, none⟩ = some (grV (S.gr i) j) := by
          obtain ⟨b, o, e, _, hc⟩ := HSB.out.sat.g.at_ (by omega)
          exact ⟨b, o, e, hc⟩
        rw [eg] at s1_
        have g0 : ∀ w', Kept W2 w' none → w'.cell? ⟨bg, og + k2 * 3, none⟩ = some (.int .u8 ((S.gr k2).kind : Int)) := fun w' q => cell_kept0 (hcg k2 hlt2 0 (by omega)) q
        have g1 : ∀ w', Kept W2 w' none → w'.cell? ⟨bg, og + k2 * 3 + 1, none⟩ = some (.int .i64 (S.gr k2).min) := fun w' q => cell_kept0 (hcg k2 hlt2 1 (by omega)) q
        have g2 : ∀ w', Kept W2 w' none → w'.cell? ⟨bg, og + k2 * 3 + 2, none⟩ = some (.int .i64 (S.gr k2).yellow) := fun w' q => cell_kept0 (hcg k2 hlt2 2 (by omega)) q
        have t0 : ∀ w', Kept W2 w' none → w'.cell? ⟨bf, off + k2 * 3, none⟩ = some (.int .u8 ((Sf.g ⟨G, st, false⟩ k2).asp : Int)) := fun w' q => HCF.out k2 hlt2 0 (by omega) w' q
        have t1 : ∀ w', Kept W2 w' none → w'.cell? ⟨bf, off + k2 * 3 + 1, none⟩ = some (.int .i64 (Sf.g ⟨G, st, false⟩ k2).since) := fun w' q => HCF.out k2 hlt2 1 (by omega) w' q
        have t2 : ∀ w', Kept W2 w' none → w'.cell? ⟨bf, off + k2 * 3 + 2, none⟩ = some (.int .i64 (Sf.g ⟨G, st, false⟩ k2).ended) := fun w' q => HCF.out k2 hlt2 2 (by omega) w' q
        have m0 := HCL.out k2 hlt2
        have hgc := HSB.out.sat.gk.room
        have hof : oneF S ⟨G, st, false⟩ L k2 = mayV (S.gr k2).min (S.gr k2).yellow (Sf.g ⟨G, st, false⟩ k2).asp (Sf.g ⟨G, st, false⟩ k2).since (lg L k2) := rfl
        have HOF := Hid.mk' hof
        have HYES : Hid (oneF S ⟨G, st, false⟩ L k2 ≠ 0 → faultV S ⟨G, st, false⟩ L = oneF S ⟨G, st, false⟩ L k2) := fun hz => flt_isone HS.out h4 hH HR.out (by unfold oneV; rw [if_neg (by simp), HS.out]; exact ownV_at hlt2 HN1.out hz) hz
        have HNO : Hid (oneF S ⟨G, st, false⟩ L k2 = 0 → ∀ j, j < k2 + 1 → oneF S ⟨G, st, false⟩ L j = 0) := fun h => ext_no HN1.out h
        clear hof hcg eg
        generalize oneF S ⟨G, st, false⟩ L k2 = z at *
        generalize S.gr k2 = Gr0 at *
        generalize Sf.g ⟨G, st, false⟩ k2 = N at *
        generalize lg L k2 = y at *
        go_wp2
        go_region_held (fun w' => Kept W2 w' none)
          ((first | exact hkr2 | exact Kept.tr hkr2 (Kept.drew _ _) | assumption | exact Kept.tr (by assumption) (Kept.drew _ _)))
          ((go_at_call 56; refine (rmay_any _ _ _ _ _ _ _ _).mono ?_; rintro e wS ⟨rfl, hkS⟩; have hKS : Kept W2 wS none := Kept.tr (by assumption) hkS))
        all_goals
          clear g0 g1 g2 t0 t1 t2 m0
          rw [← HOF.out]
          clear HOF
          by_cases hz : z = 0
          · have HN2 := Hid.mk' (HNO.out hz)
            subst hz
            go_wp2
            go_roundw
            case rel => exact ⟨k2 + 1, by omega, by go_num, hKS, HN2.out⟩
            case measure => simp [intOf]; omega
          · have HY := Hid.mk' (HYES.out hz)
            have hzb : (z != 0) = true := by simpa using hz
            go_wp2
            go_ret
            exact ⟨by rw [HY.out]; rfl, HK.out.tr hKS⟩
      have hO : oneV S ⟨G, st, false⟩ L = 0 := by unfold oneV; rw [if_neg (by simp), HS.out]; exact ownV_no (fun j hj => HN1.out j (by omega))
      have HO := Hid.mk' hO
      clear hO
      by_cases hm : mtB S L = true
      · have HV := Hid.mk' (flt_is3 HS.out h4 hH HR.out HO.out hm)
        go_wp2_with (go_at_call 55; have hn := rmeet8_any (c := cl) (HSB.out.sat.kept hkr2) HSH.out.ok (HB.out.kept hkr2) rfl; rw [hm] at hn; refine hn.mono ?_; rintro e wM ⟨rfl, hqM⟩; have hkM : Kept W2 wM none := hkr2.tr hqM)
        go_ret
        exact ⟨by rw [HV.out]; rfl, HK.out.tr hkM⟩
      have hm : mtB S L = false := by simpa using hm
      have HV4 : Hid (soonB S ⟨G, st, false⟩ L = true → faultV S ⟨G, st, false⟩ L = 4) := fun hh => flt_is4 HS.out h4 hH HR.out HO.out hm hh
      have HV0 : Hid (soonB S ⟨G, st, false⟩ L = false → faultV S ⟨G, st, false⟩ L = 0) := fun hh => flt_is0 HS.out h4 hH HR.out HO.out hm hh
      go_wp2_with (go_at_call 55; have hn := rmeet8_any (c := cl) (HSB.out.sat.kept hkr2) HSH.out.ok (HB.out.kept hkr2) rfl; rw [hm] at hn; refine hn.mono ?_; rintro e wM ⟨rfl, hqM⟩; have hkM : Kept W2 wM none := hkr2.tr hqM)
      clear h4 hH
      go_loopw [11, 12, 13] (fun i _ _ wr => ∃ k : Nat, k ≤ S.groups.length ∧ i = .int .i64 k ∧ Kept W2 wr none ∧ ∀ j, j < k → ∀ b, b < S.groups.length → pairS S ⟨G, st, false⟩ L j b = false) (fun i _ _ _ => S.groups.length - (intOf i).toNat)
      case atStart => exact ⟨0, by omega, rfl, hkM, fun j hj => by omega⟩
      case round =>
        obtain ⟨k3, hk3, rfl, hkr3, hno⟩ := hrel
        have HN3 := Hid.mk' hno
        clear hno
        by_cases hlt3 : k3 < S.groups.length
        · go_wp2
          obtain ⟨wo3, hwo3⟩ : ∃ wo3, wo3 = wr := ⟨_, rfl⟩
          subst hwo3
          go_loopw [12, 13] (fun i _ wr => ∃ q : Nat, q ≤ S.groups.length ∧ i = .int .i64 q ∧ Kept W2 wr none ∧ ∀ b, b < q → pairS S ⟨G, st, false⟩ L k3 b = false) (fun i _ _ => S.groups.length - (intOf i).toNat)
          case atStart => exact ⟨0, by omega, rfl, hkr3, fun j hj => by omega⟩
          case round =>
            obtain ⟨q, hq, rfl, hkr, hno⟩ := hrel
            have HNQ := Hid.mk' hno
            clear hno
            by_cases hql : q < S.groups.length
            · have l3 := HCL.out k3 hlt3
              have z3 : ∀ w', Kept W2 w' none → w'.cell? ⟨bf, off + k3 * 3, none⟩ = some (.int .u8 ((Sf.g ⟨G, st, false⟩ k3).asp : Int)) := fun w' q => HCF.out k3 hlt3 0 (by omega) w' q
              have e3 : ∀ w', Kept W2 w' none → w'.cell? ⟨bf, off + q * 3 + 2, none⟩ = some (.int .i64 (Sf.g ⟨G, st, false⟩ q).ended) := fun w' qq => HCF.out q hql 2 (by omega) w' qq
              have hpq : pairS S ⟨G, st, false⟩ L k3 q = ((lg L k3 == 2) && (!((Sf.g ⟨G, st, false⟩ k3).asp == 2) && ((S.ap q).testBit k3 && decide ((Sf.g ⟨G, st, false⟩ q).ended < S.bt q k3)))) := rfl
              have HYES : Hid (pairS S ⟨G, st, false⟩ L k3 q = true → faultV S ⟨G, st, false⟩ L = 4) := fun hh => HV4.out (soonB_yes (by have := HS.out; omega) (by have := HS.out; omega) hh)
              have HNO : Hid (pairS S ⟨G, st, false⟩ L k3 q = false → ∀ b, b < q + 1 → pairS S ⟨G, st, false⟩ L k3 b = false) := fun hh => ext_no HNQ.out hh
              have HAP := Hid.mk' (fun w' (qq : Kept W2 w' none) => rap8_any (HSB.out.sat.kept qq) q k3 (by have := HNA.out; omega) (by omega))
              have HBT := Hid.mk' (fun w' (qq : Kept W2 w' none) => rbt8_any (HSB.out.sat.kept qq) HSH.out hql hlt3)
              rw [hpq] at HYES HNO
              clear hpq
              generalize (Sf.g ⟨G, st, false⟩ q).ended = en at *
              generalize S.bt q k3 = v at *
              generalize (S.ap q).testBit k3 = t at *
              by_cases ht : lg L k3 = 2 ∧ (Sf.g ⟨G, st, false⟩ k3).asp ≠ 2
              · obtain ⟨ht1, ht2⟩ := ht
                have ht2b : (((Sf.g ⟨G, st, false⟩ k3).asp : Int) != 2) = true := by simp; omega
                have e2b : ((Sf.g ⟨G, st, false⟩ k3).asp == 2) = false := by simpa using ht2
                rw [ht1, e2b] at HYES HNO
                rw [ht1] at l3
                clear ht1 ht2 e2b
                generalize (Sf.g ⟨G, st, false⟩ k3).asp = ap at *
                cases t with
                | true =>
                  go_wp2
                  refine Code.wp_mono (Q := Rg8 ?Ac1 W2) ?contc1 ?regc1
                  case regc1 =>
                    repeat (rename_i hh; clear hh)
                    refine wp_region_held_drew (S := fun w' => Kept W2 w' none) (by kernel_rfl) (Kept.tr hkr (Kept.drew _ _)) (fun hHeld => ?_)
                    refine held_take (i := 0) (v := ?v53) rfl rfl (by kernel_rfl) (by kernel_rfl) (by kernel_rfl) (fun _ _ _ h => h) (Or.inl ⟨by rfl, ?hy53⟩) hHeld ?rest53
                    case hy53 => first | (intro w hSw; (try dsimp only at hSw); go_simp; done) | (intro w hSw; (try dsimp only at hSw); go_simp; with_reducible rfl)
                    try simp only [List.setIfInBounds_toArray, List.set_cons_zero, List.set_cons_succ]
                    refine held_take (i := 1) (v := ?v54) rfl rfl (by kernel_rfl) (by kernel_rfl) (by kernel_rfl) (fun _ _ _ h => h) (Or.inl ⟨by rfl, ?hy54⟩) hHeld ?rest54
                    case hy54 => first | (intro w hSw; (try dsimp only at hSw); go_simp; done) | (intro w hSw; (try dsimp only at hSw); go_simp; with_reducible rfl)
                    try simp only [List.setIfInBounds_toArray, List.set_cons_zero, List.set_cons_succ]
                    refine held_take (i := 2) (v := ?v55) rfl rfl (by kernel_rfl) (by kernel_rfl) (by kernel_rfl) (fun _ _ _ h => h) (Or.inl ⟨by rfl, ?hy55⟩) hHeld ?rest55
                    case hy55 => first | (intro w hSw; (try dsimp only at hSw); go_simp; done) | (intro w hSw; (try dsimp only at hSw); go_simp; with_reducible rfl)
                    try simp only [List.setIfInBounds_toArray, List.set_cons_zero, List.set_cons_succ]
                    refine held_take (i := 3) (v := ?v56) rfl rfl (by kernel_rfl) (by kernel_rfl) (by kernel_rfl) (fun _ _ _ h => h) (Or.inl ⟨by rfl, ?hy56⟩) hHeld ?rest56
                    case hy56 => first | (intro w hSw; (try dsimp only at hSw); go_simp; done) | (intro w hSw; (try dsimp only at hSw); go_simp; with_reducible rfl)
                    try simp only [List.setIfInBounds_toArray, List.set_cons_zero, List.set_cons_succ]
                    refine held_take (i := 4) (v := ?v57) rfl rfl (by kernel_rfl) (by kernel_rfl) (by kernel_rfl) (fun _ _ _ h => h) (Or.inl ⟨by rfl, ?hy57⟩) hHeld ?rest57
                    case hy57 => first | (intro w hSw; (try dsimp only at hSw); go_simp; done) | (intro w hSw; (try dsimp only at hSw); go_simp; with_reducible rfl)
                    try simp only [List.setIfInBounds_toArray, List.set_cons_zero, List.set_cons_succ]
                    refine wpAnyH_ready (rs := [5]) (by kernel_rfl) (by simp) ?_
                    refine AllReadyH.cons rfl (fun K hK => ?_) AllReadyH.nil
                    go_simp
                    go_wp2_with (go_at_call 51; refine (HAP.out _ hHeld).mono ?_; rintro e wA ⟨rfl, hkA⟩; have hKS : Kept W2 wA none := hHeld.tr hkA)
                    refine hK.out _ _ hKS (fun hHeld => ?_)
                    clear hK K
                    refine held_take (i := 6) (v := ?v58) rfl rfl (by kernel_rfl) (by kernel_rfl) (by kernel_rfl) (fun _ _ _ h => h) (Or.inl ⟨by rfl, ?hy58⟩) hHeld ?rest58
                    case hy58 => first | (intro w hSw; (try dsimp only at hSw); go_simp; done) | (intro w hSw; (try dsimp only at hSw); go_simp; with_reducible rfl)
                    try simp only [List.setIfInBounds_toArray, List.set_cons_zero, List.set_cons_succ]
                    refine held_take (i := 7) (v := ?v59) rfl rfl (by kernel_rfl) (by kernel_rfl) (by kernel_rfl) (fun _ _ _ h => h) (Or.inl ⟨by rfl, ?hy59⟩) hHeld ?rest59
                    case hy59 => first | (intro w hSw; (try dsimp only at hSw); go_simp; done) | (intro w hSw; (try dsimp only at hSw); go_simp; with_reducible rfl)
                    try simp only [List.setIfInBounds_toArray, List.set_cons_zero, List.set_cons_succ]
                    refine held_take (i := 8) (v := ?v60) rfl rfl (by kernel_rfl) (by kernel_rfl) (by kernel_rfl) (fun _ _ _ h => h) (Or.inl ⟨by rfl, ?hy60⟩) hHeld ?rest60
                    case hy60 => first | (intro w hSw; (try dsimp only at hSw); go_simp; done) | (intro w hSw; (try dsimp only at hSw); go_simp; with_reducible rfl)
                    try simp only [List.setIfInBounds_toArray, List.set_cons_zero, List.set_cons_succ]
                    refine held_take (i := 9) (v := ?v61) rfl rfl (by kernel_rfl) (by kernel_rfl) (by kernel_rfl) (fun _ _ _ h => h) (Or.inl ⟨by rfl, ?hy61⟩) hHeld ?rest61
                    case hy61 => first | (intro w hSw; (try dsimp only at hSw); go_simp; done) | (intro w hSw; (try dsimp only at hSw); go_simp; with_reducible rfl)
                    try simp only [List.setIfInBounds_toArray, List.set_cons_zero, List.set_cons_succ]
                    refine held_take (i := 10) (v := ?v62) rfl rfl (by kernel_rfl) (by kernel_rfl) (by kernel_rfl) (fun _ _ _ h => h) (Or.inl ⟨by rfl, ?hy62⟩) hHeld ?rest62
                    case hy62 => first | (intro w hSw; (try dsimp only at hSw); go_simp; done) | (intro w hSw; (try dsimp only at hSw); go_simp; with_reducible rfl)
                    try simp only [List.setIfInBounds_toArray, List.set_cons_zero, List.set_cons_succ]
                    refine held_take (i := 11) (v := ?v63) rfl rfl (by kernel_rfl) (by kernel_rfl) (by kernel_rfl) (fun _ _ _ h => h) (Or.inl ⟨by rfl, ?hy63⟩) hHeld ?rest63
                    case hy63 => first | (intro w hSw; (try dsimp only at hSw); go_simp; done) | (intro w hSw; (try dsimp only at hSw); go_simp; with_reducible rfl)
                    try simp only [List.setIfInBounds_toArray, List.set_cons_zero, List.set_cons_succ]
                    refine held_take (i := 12) (v := ?v64) rfl rfl (by kernel_rfl) (by kernel_rfl) (by kernel_rfl) (fun _ _ _ h => h) (Or.inl ⟨by rfl, ?hy64⟩) hHeld ?rest64
                    case hy64 => first | (intro w hSw; (try dsimp only at hSw); go_simp; done) | (intro w hSw; (try dsimp only at hSw); go_simp; with_reducible rfl)
                    try simp only [List.setIfInBounds_toArray, List.set_cons_zero, List.set_cons_succ]
                    refine held_take (i := 13) (v := ?v65) rfl rfl (by kernel_rfl) (by kernel_rfl) (by kernel_rfl) (fun _ _ _ h => h) (Or.inl ⟨by rfl, ?hy65⟩) hHeld ?rest65
                    case hy65 => first | (intro w hSw; (try dsimp only at hSw); go_simp; done) | (intro w hSw; (try dsimp only at hSw); go_simp; with_reducible rfl)
                    try simp only [List.setIfInBounds_toArray, List.set_cons_zero, List.set_cons_succ]
                    refine held_take (i := 14) (v := ?v66) rfl rfl (by kernel_rfl) (by kernel_rfl) (by kernel_rfl) (fun _ _ _ h => h) (Or.inl ⟨by rfl, ?hy66⟩) hHeld ?rest66
                    case hy66 => first | (intro w hSw; (try dsimp only at hSw); go_simp; done) | (intro w hSw; (try dsimp only at hSw); go_simp; with_reducible rfl)
                    try simp only [List.setIfInBounds_toArray, List.set_cons_zero, List.set_cons_succ]
                    refine held_take (i := 15) (v := ?v67) rfl rfl (by kernel_rfl) (by kernel_rfl) (by kernel_rfl) (fun _ _ _ h => h) (Or.inl ⟨by rfl, ?hy67⟩) hHeld ?rest67
                    case hy67 => first | (intro w hSw; (try dsimp only at hSw); go_simp; done) | (intro w hSw; (try dsimp only at hSw); go_simp; with_reducible rfl)
                    try simp only [List.setIfInBounds_toArray, List.set_cons_zero, List.set_cons_succ]
                    refine held_take (i := 16) (v := ?v68) rfl rfl (by kernel_rfl) (by kernel_rfl) (by kernel_rfl) (fun _ _ _ h => h) (Or.inl ⟨by rfl, ?hy68⟩) hHeld ?rest68
                    case hy68 => first | (intro w hSw; (try dsimp only at hSw); go_simp; done) | (intro w hSw; (try dsimp only at hSw); go_simp; with_reducible rfl)
                    try simp only [List.setIfInBounds_toArray, List.set_cons_zero, List.set_cons_succ]
                    refine wpAnyH_ready (rs := [17]) (by kernel_rfl) (by simp) ?_
                    refine AllReadyH.cons rfl (fun K hK => ?_) AllReadyH.nil
                    go_simp
                    go_wp2_with (go_at_call 52; refine (HBT.out _ hHeld).mono ?_; rintro e wB ⟨rfl, hkB⟩; have hKT : Kept W2 wB none := hHeld.tr hkB)
                    refine hK.out _ _ hKT (fun hHeld => ?_)
                    clear hK K
                    refine held_take (i := 18) (v := ?v69) rfl rfl (by kernel_rfl) (by kernel_rfl) (by kernel_rfl) (fun _ _ _ h => h) (Or.inl ⟨by rfl, ?hy69⟩) hHeld ?rest69
                    case hy69 => first | (intro w hSw; (try dsimp only at hSw); go_simp; done) | (intro w hSw; (try dsimp only at hSw); go_simp; with_reducible rfl)
                    try simp only [List.setIfInBounds_toArray, List.set_cons_zero, List.set_cons_succ]
                    refine held_take (i := 19) (v := ?v70) rfl rfl (by kernel_rfl) (by kernel_rfl) (by kernel_rfl) (fun _ _ _ h => h) (Or.inl ⟨by rfl, ?hy70⟩) hHeld ?rest70
                    case hy70 => first | (intro w hSw; (try dsimp only at hSw); go_simp; done) | (intro w hSw; (try dsimp only at hSw); go_simp; with_reducible rfl)
                    try simp only [List.setIfInBounds_toArray, List.set_cons_zero, List.set_cons_succ]
                    refine wpAnyH_done (by kernel_rfl) ?_ _
                    refine And.intro ?_ hHeld
                    with_reducible rfl
                  case contc1 =>
                  intro e a' w' hq'
                  obtain ⟨rfl, rfl, hkq⟩ := hq'.out
                  by_cases hv : en < v
                  · have HY := Hid.mk' (HYES.out (by simp [hv]))
                    go_wp2
                    go_ret
                    exact ⟨by rw [HY.out]; rfl, HK.out.tr hkq⟩
                  · have HN2 := Hid.mk' (HNO.out (by simp [hv]))
                    have hvb : decide (en < v) = false := by simp [hv]
                    go_wp2
                    go_roundw
                    case rel => exact ⟨q + 1, by omega, by go_num, hkq, HN2.out⟩
                    case measure => simp [intOf]; omega
                | false =>
                  have HN2 := Hid.mk' (HNO.out (by simp))
                  go_wp2
                  refine Code.wp_mono (Q := Rg8 ?Ac2 W2) ?contc2 ?regc2
                  case regc2 =>
                    repeat (rename_i hh; clear hh)
                    refine wp_region_held_drew (S := fun w' => Kept W2 w' none) (by kernel_rfl) (Kept.tr hkr (Kept.drew _ _)) (fun hHeld => ?_)
                    refine held_take (i := 0) (v := ?v71) rfl rfl (by kernel_rfl) (by kernel_rfl) (by kernel_rfl) (fun _ _ _ h => h) (Or.inl ⟨by rfl, ?hy71⟩) hHeld ?rest71
                    case hy71 => first | (intro w hSw; (try dsimp only at hSw); go_simp; done) | (intro w hSw; (try dsimp only at hSw); go_simp; with_reducible rfl)
                    try simp only [List.setIfInBounds_toArray, List.set_cons_zero, List.set_cons_succ]
                    refine held_take (i := 1) (v := ?v72) rfl rfl (by kernel_rfl) (by kernel_rfl) (by kernel_rfl) (fun _ _ _ h => h) (Or.inl ⟨by rfl, ?hy72⟩) hHeld ?rest72
                    case hy72 => first | (intro w hSw; (try dsimp only at hSw); go_simp; done) | (intro w hSw; (try dsimp only at hSw); go_simp; with_reducible rfl)
                    try simp only [List.setIfInBounds_toArray, List.set_cons_zero, List.set_cons_succ]
                    refine held_take (i := 2) (v := ?v73) rfl rfl (by kernel_rfl) (by kernel_rfl) (by kernel_rfl) (fun _ _ _ h => h) (Or.inl ⟨by rfl, ?hy73⟩) hHeld ?rest73
                    case hy73 => first | (intro w hSw; (try dsimp only at hSw); go_simp; done) | (intro w hSw; (try dsimp only at hSw); go_simp; with_reducible rfl)
                    try simp only [List.setIfInBounds_toArray, List.set_cons_zero, List.set_cons_succ]
                    refine held_take (i := 3) (v := ?v74) rfl rfl (by kernel_rfl) (by kernel_rfl) (by kernel_rfl) (fun _ _ _ h => h) (Or.inl ⟨by rfl, ?hy74⟩) hHeld ?rest74
                    case hy74 => first | (intro w hSw; (try dsimp only at hSw); go_simp; done) | (intro w hSw; (try dsimp only at hSw); go_simp; with_reducible rfl)
                    try simp only [List.setIfInBounds_toArray, List.set_cons_zero, List.set_cons_succ]
                    refine held_take (i := 4) (v := ?v75) rfl rfl (by kernel_rfl) (by kernel_rfl) (by kernel_rfl) (fun _ _ _ h => h) (Or.inl ⟨by rfl, ?hy75⟩) hHeld ?rest75
                    case hy75 => first | (intro w hSw; (try dsimp only at hSw); go_simp; done) | (intro w hSw; (try dsimp only at hSw); go_simp; with_reducible rfl)
                    try simp only [List.setIfInBounds_toArray, List.set_cons_zero, List.set_cons_succ]
                    refine wpAnyH_ready (rs := [5]) (by kernel_rfl) (by simp) ?_
                    refine AllReadyH.cons rfl (fun K hK => ?_) AllReadyH.nil
                    go_simp
                    go_wp2_with (go_at_call 51; refine (HAP.out _ hHeld).mono ?_; rintro e wA ⟨rfl, hkA⟩; have hKS : Kept W2 wA none := hHeld.tr hkA)
                    refine hK.out _ _ hKS (fun hHeld => ?_)
                    clear hK K
                    refine held_take (i := 6) (v := ?v76) rfl rfl (by kernel_rfl) (by kernel_rfl) (by kernel_rfl) (fun _ _ _ h => h) (Or.inl ⟨by rfl, ?hy76⟩) hHeld ?rest76
                    case hy76 => first | (intro w hSw; (try dsimp only at hSw); go_simp; done) | (intro w hSw; (try dsimp only at hSw); go_simp; with_reducible rfl)
                    try simp only [List.setIfInBounds_toArray, List.set_cons_zero, List.set_cons_succ]
                    refine held_take (i := 7) (v := ?v77) rfl rfl (by kernel_rfl) (by kernel_rfl) (by kernel_rfl) (fun _ _ _ h => h) (Or.inl ⟨by rfl, ?hy77⟩) hHeld ?rest77
                    case hy77 => first | (intro w hSw; (try dsimp only at hSw); go_simp; done) | (intro w hSw; (try dsimp only at hSw); go_simp; with_reducible rfl)
                    try simp only [List.setIfInBounds_toArray, List.set_cons_zero, List.set_cons_succ]
                    refine held_take (i := 8) (v := undef) rfl rfl (by kernel_rfl) (by kernel_rfl) (by kernel_rfl) (fun _ _ _ h => h) (Or.inr ⟨by rfl, rfl⟩) hHeld ?_
                    try simp only [List.setIfInBounds_toArray, List.set_cons_zero, List.set_cons_succ]
                    refine held_take (i := 9) (v := undef) rfl rfl (by kernel_rfl) (by kernel_rfl) (by kernel_rfl) (fun _ _ _ h => h) (Or.inr ⟨by rfl, rfl⟩) hHeld ?_
                    try simp only [List.setIfInBounds_toArray, List.set_cons_zero, List.set_cons_succ]
                    refine held_take (i := 10) (v := undef) rfl rfl (by kernel_rfl) (by kernel_rfl) (by kernel_rfl) (fun _ _ _ h => h) (Or.inr ⟨by rfl, rfl⟩) hHeld ?_
                    try simp only [List.setIfInBounds_toArray, List.set_cons_zero, List.set_cons_succ]
                    refine held_take (i := 11) (v := undef) rfl rfl (by kernel_rfl) (by kernel_rfl) (by kernel_rfl) (fun _ _ _ h => h) (Or.inr ⟨by rfl, rfl⟩) hHeld ?_
                    try simp only [List.setIfInBounds_toArray, List.set_cons_zero, List.set_cons_succ]
                    refine held_take (i := 12) (v := undef) rfl rfl (by kernel_rfl) (by kernel_rfl) (by kernel_rfl) (fun _ _ _ h => h) (Or.inr ⟨by rfl, rfl⟩) hHeld ?_
                    try simp only [List.setIfInBounds_toArray, List.set_cons_zero, List.set_cons_succ]
                    refine held_take (i := 13) (v := undef) rfl rfl (by kernel_rfl) (by kernel_rfl) (by kernel_rfl) (fun _ _ _ h => h) (Or.inr ⟨by rfl, rfl⟩) hHeld ?_
                    try simp only [List.setIfInBounds_toArray, List.set_cons_zero, List.set_cons_succ]
                    refine held_take (i := 14) (v := undef) rfl rfl (by kernel_rfl) (by kernel_rfl) (by kernel_rfl) (fun _ _ _ h => h) (Or.inr ⟨by rfl, rfl⟩) hHeld ?_
                    try simp only [List.setIfInBounds_toArray, List.set_cons_zero, List.set_cons_succ]
                    refine held_take (i := 15) (v := undef) rfl rfl (by kernel_rfl) (by kernel_rfl) (by kernel_rfl) (fun _ _ _ h => h) (Or.inr ⟨by rfl, rfl⟩) hHeld ?_
                    try simp only [List.setIfInBounds_toArray, List.set_cons_zero, List.set_cons_succ]
                    refine held_take (i := 16) (v := undef) rfl rfl (by kernel_rfl) (by kernel_rfl) (by kernel_rfl) (fun _ _ _ h => h) (Or.inr ⟨by rfl, rfl⟩) hHeld ?_
                    try simp only [List.setIfInBounds_toArray, List.set_cons_zero, List.set_cons_succ]
                    refine held_take (i := 17) (v := undef) rfl rfl (by kernel_rfl) (by kernel_rfl) (by kernel_rfl) (fun _ _ _ h => h) (Or.inr ⟨by rfl, rfl⟩) hHeld ?_
                    try simp only [List.setIfInBounds_toArray, List.set_cons_zero, List.set_cons_succ]
                    refine held_take (i := 18) (v := undef) rfl rfl (by kernel_rfl) (by kernel_rfl) (by kernel_rfl) (fun _ _ _ h => h) (Or.inr ⟨by rfl, rfl⟩) hHeld ?_
                    try simp only [List.setIfInBounds_toArray, List.set_cons_zero, List.set_cons_succ]
                    refine held_take (i := 19) (v := ?v78) rfl rfl (by kernel_rfl) (by kernel_rfl) (by kernel_rfl) (fun _ _ _ h => h) (Or.inl ⟨by rfl, ?hy78⟩) hHeld ?rest78
                    case hy78 => first | (intro w hSw; (try dsimp only at hSw); go_simp; done) | (intro w hSw; (try dsimp only at hSw); go_simp; with_reducible rfl)
                    try simp only [List.setIfInBounds_toArray, List.set_cons_zero, List.set_cons_succ]
                    refine wpAnyH_done (by kernel_rfl) ?_ _
                    refine And.intro ?_ hHeld
                    with_reducible rfl
                  case contc2 =>
                  intro e a' w' hq'
                  obtain ⟨rfl, rfl, hkq⟩ := hq'.out
                  go_wp2
                  go_roundw
                  case rel => exact ⟨q + 1, by omega, by go_num, hkq, HN2.out⟩
                  case measure => simp [intOf]; omega
              · have hpf : ((lg L k3 == 2) && (!((Sf.g ⟨G, st, false⟩ k3).asp == 2) && (t && decide (en < v)))) = false := by
                  by_cases h1 : lg L k3 = 2
                  · have h2 : (Sf.g ⟨G, st, false⟩ k3).asp = 2 := by
                      by_cases h2 : (Sf.g ⟨G, st, false⟩ k3).asp = 2
                      · exact h2
                      · exact absurd ⟨h1, h2⟩ ht
                    simp [h2]
                  · simp [h1]
                have HN2 := Hid.mk' (HNO.out hpf)
                clear hpf
                by_cases h1 : lg L k3 = 2
                · have h2 : (Sf.g ⟨G, st, false⟩ k3).asp = 2 := by
                    by_cases h2 : (Sf.g ⟨G, st, false⟩ k3).asp = 2
                    · exact h2
                    · exact absurd ⟨h1, h2⟩ ht
                  rw [h1] at l3
                  rw [h2] at z3
                  clear h1 h2 ht
                  go_wp2
                  go_quiet (fail)
                  go_wp2
                  go_roundw
                  case rel => exact ⟨q + 1, by omega, by go_num, hkr.tr (Kept.drewN _ _ _), HN2.out⟩
                  case measure => simp [intOf]; omega
                · have h1b : ((lg L k3 : Int) == 2) = false := by simp; omega
                  clear h1 ht
                  generalize lg L k3 = y at *
                  go_wp2
                  go_quiet (fail)
                  go_wp2
                  go_roundw
                  case rel => exact ⟨q + 1, by omega, by go_num, hkr.tr (Kept.drewN _ _ _), HN2.out⟩
                  case measure => simp [intOf]; omega
            · have HN2 : Hid (∀ j, j < k3 + 1 → ∀ b, b < S.groups.length → pairS S ⟨G, st, false⟩ L j b = false) := ext_no HN3.out (fun b hb => HNQ.out b (by omega))
              go_wp2
              go_roundw
              case rel => exact ⟨k3 + 1, by omega, by go_num, hkr, HN2.out⟩
              case measure => simp [intOf]; omega
        · have HF := Hid.mk' (HV0.out (soonB_no (S := S) (F := ⟨G, st, false⟩) (L := L) (fun a ha b hb => HN3.out a (by have := HS.out; omega) b (by have := HS.out; omega))))
          go_wp2
          go_ret
          exact ⟨by rw [HF.out]; rfl, HK.out.tr hkr3⟩

end Go.Proofs.YtpnmlgillphodaaDoor

/-
  THE DOCUMENT'S Fault of layer 8, whatever the lights.
-/
namespace Go.Proofs.YtpnmlgillphodaaDoor
open Go.RowKit Go.Lib Go.Deep
set_option linter.unusedVariables false
set_option linter.unusedSimpArgs false

set_option maxRecDepth 100000 in
set_option maxHeartbeats 2000000 in
theorem rfault_count {X : Sa} {S : St} {w : World} {a : Option Addr} {m c : Nat} {st : Int} {fl : Bool} {al : Option Addr} {n cl : Nat} (h : Sat w X S) (hn : n ≠ S.groups.length) : Calls Tryd.prog 33 #[siteV X S, .agg #[.slice a m c, .int .i64 st, .bool fl], .slice al n cl] w fun e w' => e = .returned (.int .u8 1) ∧ Kept w w' none := by
  have hnb : ((n : Int) != (S.groups.length : Int)) = true := by simp; omega
  clear h hn
  go_enter Tryd.func33, Tryd.ntmps33
  go_wp2
  go_ret
  exact ⟨rfl, (Kept.alloc _ _ _ _ _).tr (Kept.alloc _ _ _ _ _)⟩
set_option maxRecDepth 100000 in
set_option maxHeartbeats 2000000 in
theorem rfault_flash {X : Sa} {S : St} {w : World} {a : Option Addr} {m c : Nat} {st : Int} {fl : Bool} {al : Option Addr} {cl : Nat} {L : List Nat} (hB : By w al S.groups.length L) (h4 : allIs L 4 = true) : Calls Tryd.prog 33 #[siteV X S, .agg #[.slice a m c, .int .i64 st, .bool fl], .slice al S.groups.length cl] w fun e w' => e = .returned (.int .u8 0) ∧ Kept w w' none := by
  have HC : Hid (cntN L 4 = S.groups.length) := (cnt_all.2 h4).trans hB.size
  have HB := Hid.mk' hB
  clear hB h4
  go_enter Tryd.func33, Tryd.ntmps33
  go_wp2_with (go_at_call 54; refine (rflash_any (c := cl) ((HB.out.kept (Kept.alloc _ _ _ _ _)).kept (Kept.alloc _ _ _ _ _))).mono ?_; rintro e wq ⟨rfl, hwq⟩; have hwq := hwq.symm; subst hwq; rw [HC.out])
  go_ret
  exact ⟨rfl, (Kept.alloc _ _ _ _ _).tr (Kept.alloc _ _ _ _ _)⟩
set_option maxRecDepth 100000 in
set_option maxHeartbeats 2000000 in
theorem rfault_some {X : Sa} {S : St} {w : World} {a : Option Addr} {m c : Nat} {st : Int} {fl : Bool} {al : Option Addr} {cl : Nat} {L : List Nat} (hB : By w al S.groups.length L) (h4 : allIs L 4 = false) (hH : hasIt L 4 = true) : Calls Tryd.prog 33 #[siteV X S, .agg #[.slice a m c, .int .i64 st, .bool fl], .slice al S.groups.length cl] w fun e w' => e = .returned (.int .u8 7) ∧ Kept w w' none := by
  have hc := cnt_pos.2 hH
  have hc2 : cntN L 4 ≠ S.groups.length := fun e => by
    rw [← hB.size] at e
    rw [cnt_all.1 e] at h4
    cases h4
  have hc1 : (0 : Int) < ((cntN L 4 : Nat) : Int) := by omega
  have hc3 : (((cntN L 4 : Nat) : Int) == (S.groups.length : Int)) = false := by simp; omega
  have HB := Hid.mk' hB
  clear hB h4 hH hc hc2
  go_enter Tryd.func33, Tryd.ntmps33
  go_wp2_with (go_at_call 54; refine (rflash_any (c := cl) ((HB.out.kept (Kept.alloc _ _ _ _ _)).kept (Kept.alloc _ _ _ _ _))).mono ?_; rintro e wq ⟨rfl, hwq⟩; have hwq := hwq.symm; subst hwq)
  go_ret
  exact ⟨rfl, (Kept.alloc _ _ _ _ _).tr (Kept.alloc _ _ _ _ _)⟩
theorem rfault_any {X : Sa} {S : St} {w : World} {a : Option Addr} {c : Nat} {F : Sf} {al : Option Addr} {n cl : Nat} {L : List Nat} (h : Sat w X S) (hSh : Shape S) (hF : SafeAt w a c F) (hf : F.groups.length = S.groups.length) (hB : By w al n L) : Calls Tryd.prog 33 #[siteV X S, .agg #[.slice a S.groups.length c, .int .i64 F.start, .bool F.flashed], .slice al n cl] w fun e w' => e = .returned (.int .u8 (faultV S F L)) ∧ Kept w w' none := by
  obtain ⟨G, st, fl⟩ := F
  dsimp only at hf
  have hng := hSh.ok.ng
  by_cases hn : n = S.groups.length
  · subst hn
    have hsz := hB.size
    cases h4 : allIs L 4 with
    | true =>
      have : faultV S ⟨G, st, fl⟩ L = 0 := by unfold faultV; rw [if_neg (by simp [hsz]), if_pos h4]
      rw [this]
      exact rfault_flash hB h4
    | false =>
      cases hH : hasIt L 4 with
      | true =>
        have : faultV S ⟨G, st, fl⟩ L = 7 := by unfold faultV; rw [if_neg (by simp [hsz]), if_neg (by simp [h4]), if_pos hH]
        rw [this]
        exact rfault_some hB h4 hH
      | false =>
        have hcr : S.groups.length ≤ c := by have := hF.cap.room; dsimp only at this; omega
        have hcm := hF.cap.max
        obtain ⟨bf, off, ea, _, hcf⟩ := hF.lie.at_ (by dsimp only; omega)
        obtain ⟨bl, ol, el, _, hcl⟩ := hB.at_ (by omega)
        subst ea el
        dsimp only at hcf
        rw [hf] at hcf
        cases fl with
        | true => exact rfault_a h hSh hcf hcr hcm hcl hB h4 hH
        | false =>
          by_cases hs : 0 < st
          · exact rfault_b h hSh hcf hcr hcm hcl hB h4 hH hs
          · exact rfault_c h hSh hcf hcr hcm hcl hB h4 hH (Int.not_lt.1 hs)
  · have : faultV S ⟨G, st, fl⟩ L = 1 := by unfold faultV; rw [if_pos (by rw [hB.size]; exact hn)]
    rw [this]
    exact rfault_count h hn

end Go.Proofs.YtpnmlgillphodaaDoor

