/-
  THE CONTRACTS of faultOfOne and tooSoon.
-/
import Derived.Test.YtfhmfanmnhclfaaDoorSafeA
import Derived.Test.YtfhmfanmnhclfaaDoorLampC
import Derived.Deep.RegionHeld
import Derived.Deep.RegionHeld3
import Derived.Deep.RegionHeldLaw
import Derived.BigQuiet
namespace Go.Proofs.YtfhmfanmnhclfaaDoor
open Go.RowKit Go.Lib Go.Deep
set_option linter.unusedVariables false
set_option linter.unusedSimpArgs false

abbrev sv (s : Sn) : Value := seenV (s.asp : Int) s.since s.ended
set_option maxRecDepth 100000 in
set_option maxHeartbeats 1000000 in
theorem one_any {w : World} {B : Nat} {X : Sa} {S : St} {a : Option Addr} {c : Nat} {F : Sf} {al : Option Addr} {n cl : Nat} {L : List Nat} (h : Sbox w B X S) (hO : Okay S) (hF : SafeAt w a c F) (hf : F.groups.length = S.groups.length) (hB : By w al n L) (hn : n = S.groups.length) : Calls Tryd.prog 90 #[.pointer (some ⟨B, 0, none⟩), safeV a c F, .slice al n cl] w fun e w' => e = .returned (.int .u8 (oneV S F L)) ∧ Kept w w' none := by
  subst hn
  have hng := hO.ng
  obtain ⟨bf, off, rfl, hbf, hcf⟩ := hF.lie.at_ (by omega)
  obtain ⟨bl, ol, rfl, hbl, hcl⟩ := hB.at_ (by omega)
  have hkA : Kept w (w.alloc (.cells #[.slice (some ⟨bf, off, none⟩) F.groups.length c, .int .i64 F.start, .bool F.flashed] 61)) none := Kept.alloc _ _ _ _ _
  have bx := box_alloc w (.slice (some ⟨bf, off, none⟩) F.groups.length c) (.int .i64 F.start) (.bool F.flashed) 61
  have hs := hB.size
  have HKA := Hid.mk' hkA
  have HBX := Hid.mk' bx
  have HSB := Hid.mk' (h.kept hkA)
  have HCF : Hid (∀ i, i < S.groups.length → ∀ j, j < 3 → w.cell? ⟨bf, off + i * 3 + j, none⟩ = some (snV (F.g i) j)) := fun i hi => hcf i (by omega)
  have HCL := Hid.mk' hcl
  have HS := Hid.mk' hs
  have HFN := Hid.mk' hf
  have hFr := hF.cap.room
  have hFm := hF.cap.max
  have HGR := Hid.mk' h.sat.gk
  have c1 := h.c1
  have hBlt := h.lt
  clear hkA bx h hF hB hs hO hcf hcl
  unfold oneV
  rw [HS.out]
  cases hfl : F.flashed with
  | true =>
    rw [if_pos rfl]
    rw [hfl] at HKA
    clear hf
    go_enter Tryd.func90, Tryd.ntmps90
    go_wp2
    go_ret
    exact ⟨rfl, HKA.out⟩
  | false =>
    rw [if_neg (by simp)]
    rw [hfl] at HKA HBX HSB
    have hfl2 : (k : Nat) → k < S.groups.length → (k : Int) < (F.groups.length : Int) := fun k hk => by omega
    have HFL := Hid.mk' hfl2
    clear hf hfl2
    go_enter Tryd.func90, Tryd.ntmps90
    go_wp2
    obtain ⟨W0, hW0⟩ : ∃ W0, w.alloc (.cells #[.slice (some ⟨bf, off, none⟩) F.groups.length c, .int .i64 F.start, .bool false] 61) = W0 := ⟨_, rfl⟩
    rw [hW0] at HKA HBX HSB ⊢
    clear hW0 c1
    go_loopw [7, 8, 9, 17] (fun _ _ _ i wr => ∃ k : Nat, k ≤ S.groups.length ∧ i = .int .i64 k ∧ Kept W0 wr none ∧ ∀ j, j < k → oneF S F L j = 0) (fun _ _ _ i _ => S.groups.length - (intOf i).toNat)
    case atStart => exact ⟨0, by omega, rfl, Kept.refl _ _, fun j hj => by omega⟩
    case round =>
      obtain ⟨k, hk, rfl, hkw, hno⟩ := hrel
      have HN := Hid.mk' hno
      have HKW := Hid.mk' hkw
      clear hno hkw
      by_cases hlt : k < S.groups.length
      · obtain ⟨bg, og, eg, g0, g1, g2⟩ := (HSB.out.kept HKW.out).sat.grAt hlt
        rw [eg]
        clear eg
        have hbg := block_lt g0
        have hkf := HFL.out k hlt
        have hof : oneF S F L k = mayV (S.gr k).min (S.gr k).yellow (F.g k).asp (F.g k).since (lg L k) := rfl
        have HOF := Hid.mk' hof
        have HYES : Hid (oneF S F L k ≠ 0 → ownV (oneF S F L) S.groups.length = oneF S F L k) := fun h => ownV_at hlt HN.out h
        have HNO : Hid (oneF S F L k = 0 → ∀ j, j < k + 1 → oneF S F L j = 0) := fun h => ext_no HN.out h
        have s0 := HCF.out k hlt 0 (by omega)
        have s1 := HCF.out k hlt 1 (by omega)
        have s2 := HCF.out k hlt 2 (by omega)
        have l0 := HCL.out k hlt
        rw [show L.getD k 0 = lg L k from rfl] at l0
        simp only [snV, Nat.add_zero] at s0 s1 s2
        clear hof
        generalize oneF S F L k = z at *
        generalize S.gr k = G at *
        generalize F.g k = N at *
        generalize lg L k = y at *
        go_wp2
        clear g0 g1 g2
        obtain ⟨W1, hW1⟩ : ∃ W1, wr.alloc (.cells #[.int .u8 (G.kind : Int), .int .i64 G.min, .int .i64 G.yellow] 77) = W1 := ⟨_, rfl⟩
        have bg1 := box_alloc wr (.int .u8 (G.kind : Int)) (.int .i64 G.min) (.int .i64 G.yellow) 77
        have k01 : Kept wr W1 none := by rw [← hW1]; exact Kept.alloc _ _ _ _ _
        have k1 : Kept W0 W1 none := HKW.out.tr k01
        have K1 := Hid.mk' k1
        have BG := Hid.mk' bg1
        rw [hW1] at BG ⊢
        have e0 : ∀ w', Kept W1 w' none → w'.cell? ⟨wr.heap.size, 0, none⟩ = some (.int .u8 (G.kind : Int)) := fun w' q => (BG.out.kept q).c0
        have e1 : ∀ w', Kept W1 w' none → w'.cell? ⟨wr.heap.size, 1, none⟩ = some (.int .i64 G.min) := fun w' q => (BG.out.kept q).c1
        have e2 : ∀ w', Kept W1 w' none → w'.cell? ⟨wr.heap.size, 2, none⟩ = some (.int .i64 G.yellow) := fun w' q => (BG.out.kept q).c2
        have f0 : ∀ w', Kept W1 w' none → w'.cell? ⟨w.heap.size, 0, none⟩ = some (.slice (some ⟨bf, off, none⟩) F.groups.length c) := fun w' q => (HBX.out.kept (K1.out.tr q)).c0
        have t0 : ∀ w', Kept W1 w' none → w'.cell? ⟨bf, off + k * 3, none⟩ = some (.int .u8 (N.asp : Int)) := fun w' q => cell_kept0 s0 (HKA.out.tr (K1.out.tr q))
        have t1 : ∀ w', Kept W1 w' none → w'.cell? ⟨bf, off + k * 3 + 1, none⟩ = some (.int .i64 N.since) := fun w' q => cell_kept0 s1 (HKA.out.tr (K1.out.tr q))
        have t2 : ∀ w', Kept W1 w' none → w'.cell? ⟨bf, off + k * 3 + 2, none⟩ = some (.int .i64 N.ended) := fun w' q => cell_kept0 s2 (HKA.out.tr (K1.out.tr q))
        have m0 : ∀ w', Kept W1 w' none → w'.cell? ⟨bl, ol + k, none⟩ = some (.int .u8 (y : Int)) := fun w' q => cell_kept0 l0 (HKA.out.tr (K1.out.tr q))
        clear hW1 bg1 k01 k1 s0 s1 s2 l0
        go_region_held (fun w' => Kept W1 w' none)
          ((first | exact Kept.refl _ _ | exact Kept.drew _ _ | assumption | exact Kept.tr (by assumption) (Kept.drew _ _)))
          ((go_at_call 112; refine (may_any _ _ _ _ _ _ _ _).mono ?_; rintro e wS ⟨rfl, hkS⟩; have hKS : Kept W1 wS none := Kept.tr (by assumption) hkS))
        all_goals
          clear e0 e1 e2 f0 t0 t1 t2 m0
          rw [← HOF.out]
          clear HOF
          by_cases hz : z = 0
          · have HN2 := Hid.mk' (HNO.out hz)
            subst hz
            go_wp2
            go_roundw
            case rel => exact ⟨k + 1, by omega, by go_num, K1.out.tr (by assumption), HN2.out⟩
            case measure => simp [intOf]; omega
          · have HY := Hid.mk' (HYES.out hz)
            have hzb : (z != 0) = true := by simpa using hz
            go_wp2
            go_ret
            exact ⟨by rw [HY.out]; rfl, HKA.out.tr (K1.out.tr (by assumption))⟩
      · have HF := Hid.mk' (ownV_no HN.out)
        have e : k = S.groups.length := by omega
        subst e
        go_wp2
        go_ret
        exact ⟨by rw [HF.out]; rfl, HKA.out.tr HKW.out⟩

/-- What a region's facts come from: the site in its box, the standing in a box of its own. -/
structure Two (w W0 : World) (B : Nat) (X : Sa) (S : St) (bf off c : Nat) (F : Sf) : Prop where
  k : Kept w W0 none
  bx : Box W0 w.heap.size (.slice (some ⟨bf, off, none⟩) S.groups.length c) (.int .i64 F.start) (.bool F.flashed)
  sb : Sbox W0 B X S
  cf : ∀ i, i < S.groups.length → ∀ j, j < 3 → W0.cell? ⟨bf, off + i * 3 + j, none⟩ = some (snV (F.g i) j)
theorem Sat.btAt {w : World} {X : Sa} {S : St} (h : Sat w X S) (hSh : Shape S) {a b : Nat} (ha : a < S.groups.length) (hb : b < S.groups.length) : ∃ bb ob br or c, X.b = some ⟨bb, ob, none⟩ ∧ w.cell? ⟨bb, ob + a, none⟩ = some (.slice (some ⟨br, or, none⟩) S.groups.length c) ∧ S.groups.length ≤ c ∧ w.cell? ⟨br, or + b, none⟩ = some (.int .i64 (S.bt a b)) := by
  have hnb := hSh.ok.nb
  obtain ⟨bb, ob, a', c', e, kb, hI⟩ := h.b.at_ (i := a) (by omega)
  have hr := hSh.row a ha
  rw [hr] at kb hI
  obtain ⟨br, or, rfl, _, hc⟩ := hI.at_ (by omega)
  exact ⟨bb, ob, br, or, c', e, kb, hI.cap.room, hc b hb⟩
set_option maxRecDepth 100000 in
set_option maxHeartbeats 2000000 in
theorem soon_any {w : World} {B : Nat} {X : Sa} {S : St} {a : Option Addr} {c : Nat} {F : Sf} {al : Option Addr} {n cl : Nat} {L : List Nat} (h : Sbox w B X S) (hSh : Shape S) (hF : SafeAt w a c F) (hf : F.groups.length = S.groups.length) (hB : By w al n L) (hn : n = S.groups.length) : Calls Tryd.prog 91 #[.pointer (some ⟨B, 0, none⟩), safeV a c F, .slice al n cl] w fun e w' => e = .returned (.bool (soonB S F L)) ∧ Kept w w' none := by
  subst hn
  have hng := hSh.ok.ng
  have hna := hSh.ok.na
  have hnb := hSh.ok.nb
  obtain ⟨bf, off, rfl, hbf, hcf⟩ := hF.lie.at_ (by omega)
  obtain ⟨bl, ol, rfl, hbl, hcl⟩ := hB.at_ (by omega)
  have hkA : Kept w (w.alloc (.cells #[.slice (some ⟨bf, off, none⟩) S.groups.length c, .int .i64 F.start, .bool F.flashed] 61)) none := Kept.alloc _ _ _ _ _
  have hT : Two w (w.alloc (.cells #[.slice (some ⟨bf, off, none⟩) S.groups.length c, .int .i64 F.start, .bool F.flashed] 61)) B X S bf off c F :=
    ⟨hkA, box_alloc w (.slice (some ⟨bf, off, none⟩) S.groups.length c) (.int .i64 F.start) (.bool F.flashed) 61, h.kept hkA, fun i hi j hj => cell_kept0 (hcf i (by omega) j hj) hkA⟩
  have hs := hB.size
  have HT := Hid.mk' hT
  have HCL : Hid (∀ i, i < S.groups.length → (w.alloc (.cells #[.slice (some ⟨bf, off, none⟩) S.groups.length c, .int .i64 F.start, .bool F.flashed] 61)).cell? ⟨bl, ol + i, none⟩ = some (.int .u8 (lg L i : Int))) := fun i hi => cell_kept0 (hcl i hi) hkA
  have HS := Hid.mk' hs
  have HSH := Hid.mk' hSh
  have hFr : S.groups.length ≤ c := by have := hF.cap.room; omega
  have hFm := hF.cap.max
  have hBlt := h.lt
  have hac := h.sat.ak.room
  have hbc := h.sat.b.cap.room
  rw [hna] at hac
  rw [hnb] at hbc
  have HNA := Hid.mk' hna
  have HNB := Hid.mk' hnb
  clear hkA hT h hF hB hs hSh hcf hcl hna hnb
  go_enter Tryd.func91, Tryd.ntmps91
  go_wp2
  go_step3
  go_wp2
  go_step3
  go_wp2
  obtain ⟨W0, hW0⟩ : ∃ W0, w.alloc (.cells #[.slice (some ⟨bf, off, none⟩) S.groups.length c, .int .i64 F.start, .bool F.flashed] 61) = W0 := ⟨_, rfl⟩
  rw [hW0] at HT HCL ⊢
  clear hW0
  go_loopw [7, 8, 9, 10, 13] (fun _ _ _ _ i wr => ∃ k : Nat, k ≤ S.groups.length ∧ i = .int .i64 k ∧ Kept W0 wr none ∧ ∀ j, j < k → ∀ b, b < S.groups.length → pairS S F L j b = false) (fun _ _ _ _ i _ => S.groups.length - (intOf i).toNat)
  case atStart => exact ⟨0, by omega, rfl, Kept.refl _ _, fun j hj => by omega⟩
  case round =>
    obtain ⟨k, hk, rfl, hkw, hno⟩ := hrel
    obtain ⟨wo, hwo⟩ : ∃ wo, wo = wr := ⟨_, rfl⟩
    have HN := Hid.mk' hno
    have HKW := Hid.mk' hkw
    clear hno hkw
    by_cases hlt : k < S.groups.length
    · have l0 := cell_kept0 (HCL.out k hlt) HKW.out
      have f0 := (HT.out.bx.kept HKW.out).c0
      go_wp2
      clear l0 f0
      subst hwo
      go_loopw [9, 10, 21] (fun _ _ i wr => ∃ q : Nat, q ≤ S.groups.length ∧ i = .int .i64 q ∧ Kept W0 wr none ∧ ∀ b, b < q → pairS S F L k b = false) (fun _ _ i _ => S.groups.length - (intOf i).toNat)
      case atStart => exact ⟨0, by omega, rfl, HKW.out, fun j hj => by omega⟩
      case round =>
        obtain ⟨q, hq, rfl, hkw, hno⟩ := hrel
        have HNQ := Hid.mk' hno
        have HKQ := Hid.mk' hkw
        clear hno hkw
        by_cases hql : q < S.groups.length
        · have s0 := cell_kept0 (HT.out.cf q hql 0 (by omega)) HKQ.out
          have s1 := cell_kept0 (HT.out.cf q hql 1 (by omega)) HKQ.out
          have s2 := cell_kept0 (HT.out.cf q hql 2 (by omega)) HKQ.out
          have f0 := (HT.out.bx.kept HKQ.out).c0
          have z0 := cell_kept0 (HT.out.cf k hlt 0 (by omega)) HKQ.out
          simp only [snV, Nat.add_zero] at s0 s1 s2 z0
          have hbs := block_lt s0
          have hbw := block_lt f0
          dsimp only at hbs hbw
          by_cases e1 : lg L k = 2
          · by_cases e2 : (F.g k).asp = 2
            · have HN2 : Hid (∀ j, j < k + 1 → ∀ b, b < S.groups.length → pairS S F L j b = false) := ext_no HN.out (fun b hb => by simp [pairS, e2])
              rw [e1]
              rw [e2] at z0
              go_wp2
              go_roundw
              case rel => exact ⟨k + 1, by omega, by go_num, HKQ.out.tr (Kept.alloc _ _ _ _ _), HN2.out⟩
              case measure => simp [intOf]; omega
            · have hap : S.ap q < 4294967296 := HT.out.sb.sat.apr q
              have hpq : pairS S F L k q = ((S.ap q).testBit k && decide ((F.g q).ended < S.bt q k)) := by
                unfold pairS
                rw [e1, show ((F.g k).asp == 2) = false by simpa using e2]
                rfl
              have HYES : Hid (pairS S F L k q = true → soonB S F L = true) := fun hh => soonB_yes (by have := HS.out; omega) (by have := HS.out; omega) hh
              have HNO : Hid (pairS S F L k q = false → ∀ b, b < q + 1 → pairS S F L k b = false) := fun hh => ext_no HNQ.out hh
              obtain ⟨ba, oa, ea, hca⟩ := (HT.out.sb.sat).apAt (n := S.groups.length) (by omega) (by have := HNA.out; omega)
              obtain ⟨bb, ob, br, or, cr, eb, kb, hcr, kr⟩ := (HT.out.sb.sat).btAt HSH.out hql hlt
              have a0 := hca q hql
              have hbt := fun w' (q : Kept W0 w' none) => HT.out.sb.kept q
              rw [e1]
              have hz2 : (((F.g k).asp : Int) == 2) = false := by simp; omega
              clear hca e1 e2
              rw [hpq] at HYES HNO
              generalize F.g q = N at *
              generalize F.g k = M at *
              generalize S.bt q k = v at *
              generalize S.ap q = P at *
              have HHAS := Hid.mk' (fun w' => shas_any P k w' hap (by omega))
              generalize P.testBit k = t at *
              clear hpq
              have HA0 := Hid.mk' a0
              have HKB := Hid.mk' kb
              have HKR := Hid.mk' kr
              clear a0 kb kr hbt
              go_wp2
              obtain ⟨W1, hW1⟩ : ∃ W1, wr.alloc (.cells #[.int .u8 (N.asp : Int), .int .i64 N.since, .int .i64 N.ended] 95) = W1 := ⟨_, rfl⟩
              have bg1 := box_alloc wr (.int .u8 (N.asp : Int)) (.int .i64 N.since) (.int .i64 N.ended) 95
              have k01 : Kept wr W1 none := by rw [← hW1]; exact Kept.alloc _ _ _ _ _
              have K1 := Hid.mk' (HKQ.out.tr k01)
              rw [hW1] at bg1 ⊢
              have g2 := bg1.c2
              have c2 := (HT.out.sb.kept K1.out).c2
              have c3 := (HT.out.sb.kept K1.out).c3
              have a0 := cell_kept0 HA0.out K1.out
              have kb := cell_kept0 HKB.out K1.out
              have kr := cell_kept0 HKR.out K1.out
              rw [ea, HNA.out] at c2
              rw [eb, HNB.out] at c3
              clear hW1 bg1 k01 s0 s1 s2 f0 z0 ea eb
              cases t with
              | true =>
                by_cases hv : N.ended < v
                · have HY := Hid.mk' (HYES.out (by simp [hv]))
                  go_quiet ((go_at_call 109; exact Calls.quiet_of_same (HHAS.out _)))
                  go_wp2
                  try rw [Exit.noGoto_ret]
                  go_ret
                  exact ⟨by rw [HY.out]; rfl, HT.out.k.tr (K1.out.tr (Kept.drewN _ _ _))⟩
                · have HN2 := Hid.mk' (HNO.out (by simp [hv]))
                  have hvb : decide (N.ended < v) = false := by simp [hv]
                  go_quiet ((go_at_call 109; exact Calls.quiet_of_same (HHAS.out _)))
                  go_wp2
                  go_roundw
                  case rel => exact ⟨q + 1, by omega, by go_num, K1.out.tr (Kept.drewN _ _ _), HN2.out⟩
                  case measure => simp [intOf]; omega
              | false =>
                have HN2 := Hid.mk' (HNO.out (by simp))
                go_quiet ((go_at_call 109; exact Calls.quiet_of_same (HHAS.out _)))
                go_wp2
                go_roundw
                case rel => exact ⟨q + 1, by omega, by go_num, K1.out.tr (Kept.drewN _ _ _), HN2.out⟩
                case measure => simp [intOf]; omega
          · have HN2 : Hid (∀ j, j < k + 1 → ∀ b, b < S.groups.length → pairS S F L j b = false) := ext_no HN.out (fun b hb => by simp [pairS, e1])
            have e1b : ((lg L k : Int) != 2) = true := by simp; omega
            go_wp2
            go_roundw
            case rel => exact ⟨k + 1, by omega, by go_num, HKQ.out.tr (Kept.alloc _ _ _ _ _), HN2.out⟩
            case measure => simp [intOf]; omega
        · have HN2 : Hid (∀ j, j < k + 1 → ∀ b, b < S.groups.length → pairS S F L j b = false) := ext_no HN.out (fun b hb => HNQ.out b (by omega))
          go_wp2
          go_roundw
          case rel => exact ⟨k + 1, by omega, by go_num, HKQ.out, HN2.out⟩
          case measure => simp [intOf]; omega
    · have HF := Hid.mk' (soonB_no (S := S) (F := F) (L := L) (fun a ha b hb => HN.out a (by have := HS.out; omega) b (by have := HS.out; omega)))
      subst hwo
      go_wp2
      try rw [Exit.noGoto_ret]
      go_ret
      exact ⟨by rw [HF.out]; rfl, HT.out.k.tr HKW.out⟩

end Go.Proofs.YtfhmfanmnhclfaaDoor
