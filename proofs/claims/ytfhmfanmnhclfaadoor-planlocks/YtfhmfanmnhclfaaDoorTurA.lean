/-
  Texts joined: some of those that the proofs of this seat stand on.
-/
import Derived.Test.YtfhmfanmnhclfaaDoorGateMJ
import Derived.Test.YtfhmfanmnhclfaaDoorGateA
/-
  THE CONTRACTS of turn's small calls: isPhase, hasGroup, asked, isFull (made by a program).
-/
namespace Go.Proofs.YtfhmfanmnhclfaaDoor
open Go.RowKit Go.Lib Go.Deep
set_option linter.unusedVariables false
set_option linter.unusedSimpArgs false

/-- Is there such a phase? -/
def phB (S : St) (p : Int) : Bool := decide (0 ≤ p) && decide (p < (S.phases.length : Int))
theorem phB_yes {S : St} {p : Int} (h : phB S p = true) : ∃ q : Nat, p = (q : Int) ∧ q < S.phases.length := by
  unfold phB at h
  simp only [Bool.and_eq_true, decide_eq_true_eq] at h
  exact ⟨p.toNat, by omega, by omega⟩
theorem tisp_any {w : World} {B : Nat} {X : Sa} {S : St} (h : Sbox w B X S) (p : Int) : Calls Tryd.prog 44 #[.pointer (some ⟨B, 0, none⟩), .int .i64 p] w fun e w' => e = .returned (.bool (phB S p)) ∧ w' = w := by
  have c4 := h.c4
  clear h
  by_cases h0 : 0 ≤ p
  · have hb : decide (0 ≤ p) = true := by simpa using h0
    have HV : Hid (phB S p = decide (p < (S.phases.length : Int))) := by show _ = _; unfold phB; rw [hb]; rfl
    clear h0
    go_enter Tryd.func44, Tryd.ntmps44
    go_wp2
    go_ret
    exact ⟨by rw [HV.out]; rfl, rfl⟩
  · have hb : decide (0 ≤ p) = false := by simpa using h0
    have HV : Hid (phB S p = false) := by show _ = _; unfold phB; rw [hb]; rfl
    clear h0
    go_enter Tryd.func44, Tryd.ntmps44
    go_wp2
    go_ret
    exact ⟨by rw [HV.out]; rfl, rfl⟩
theorem thas_any {w : World} {B : Nat} {X : Sa} {S : St} (h : Sbox w B X S) {p g : Nat} (hp : p < S.phases.length) (hg : g < 32) : Calls Tryd.prog 79 #[.pointer (some ⟨B, 0, none⟩), .int .i64 (p : Int), .int .i64 (g : Int)] w fun e w' => e = .returned (.bool (inP S p g)) ∧ w' = w := by
  obtain ⟨pb, po, ep, k0, _⟩ := h.sat.phAt hp
  have c4 := h.c4
  rw [ep] at c4
  have hb := has_bit (S.ph p).groups g (h.sat.phr p)
  have hpr := h.sat.pk.room
  have HV : Hid (inP S p g = (S.ph p).groups.testBit g) := rfl
  clear h ep
  generalize inP S p g = z at *
  generalize (S.ph p).groups = G at *
  go_enter Tryd.func79, Tryd.ntmps79
  go_wp2
  go_ret
  exact ⟨by rw [HV.out, ← hb]; rfl, rfl⟩

/-! ### asked -/
def acell (S : St) (p k i : Nat) : Value := .int .u8 ((if i < k then (if inP S p i = true then 2 else 1) else 0 : Nat) : Int)
theorem acell_set {S : St} {p k x : Nat} (hx : x = if inP S p k = true then 2 else 1) : (fun j => if j = k then Value.int .u8 (x : Int) else acell S p k j) = acell S p (k + 1) := by
  funext j
  unfold acell
  by_cases h : j = k
  · subst h; rw [if_pos rfl, if_pos (show j < j + 1 by omega), hx]
  · rw [if_neg h]
    by_cases h2 : j < k
    · rw [if_pos h2, if_pos (show j < k + 1 by omega)]
    · rw [if_neg h2, if_neg (show ¬ j < k + 1 by omega)]
theorem row_twice {w : World} {b n k : Nat} {t : TypeId} {f : Nat → Value} {x y : Value} (h : w.rowIs b t n f) : ((w.setCell ⟨b, k, none⟩ x).setCell ⟨b, k, none⟩ y).rowIs b t n (fun j => if j = k then y else f j) :=
  ((h.set k x).set k y).congr (fun j hj => by
    show (if j = k then y else if j = k then x else f j) = if j = k then y else f j
    by_cases e : j = k
    · rw [if_pos e, if_pos e]
    · rw [if_neg e, if_neg e, if_neg e])
theorem Sbox.setNew {w wr : World} {B : Nat} {X : Sa} {S : St} (h : Sbox w B X S) (k : Kept w wr none) {p : Addr} (hp : w.heap.size ≤ p.block) (v : Value) : Sbox (wr.setCell p v) B X S := h.kept (k.setNew hp v)
set_option maxRecDepth 100000 in
set_option maxHeartbeats 1000000 in
theorem task_any {w : World} {B : Nat} {X : Sa} {S : St} (h : Sbox w B X S) (hng : S.groups.length ≤ 32) {p : Nat} (hp : p < S.phases.length) : Calls Tryd.prog 45 #[.pointer (some ⟨B, 0, none⟩), .int .i64 (p : Int)] w fun e w' => e = .returned (.slice (some ⟨w.heap.size, 0, none⟩) S.groups.length S.groups.length) ∧ w'.rowIs w.heap.size 5 S.groups.length (fun i => .int .u8 ((lg (askV S p) i : Nat) : Int)) ∧ Kept w w' none := by
  have hmk := run_make_row' (P := Tryd.prog) 64 5 (.int .u8 0) 1 Tryd.uB Tryd.infoByte rfl .i64 .i64 S.groups.length (by omega) (by omega)
  have c1 := h.c1
  have HB := Hid.mk' h
  clear h
  go_enter Tryd.func45, Tryd.ntmps45
  go_wp2
  have hrw := World.rowIs_made w (.int .u8 0) S.groups.length 5
  have kM : Kept w (w.alloc (.cells (madeCells #[.int .u8 0] S.groups.length) 5)) none := Kept.alloc _ _ _ _ _
  obtain ⟨W3, hW3⟩ : ∃ W3, w.alloc (.cells (madeCells #[.int .u8 0] S.groups.length) 5) = W3 := ⟨_, rfl⟩
  rw [hW3] at hrw kM ⊢
  have HRW := Hid.mk' hrw
  have KM := Hid.mk' kM
  clear hW3 hrw kM hmk c1
  go_loopw [6, 15] (fun _ i wr => ∃ k : Nat, k ≤ S.groups.length ∧ i = .int .i64 k ∧ Kept w wr none ∧ wr.rowIs w.heap.size 5 S.groups.length (acell S p k)) (fun _ i _ => S.groups.length - (intOf i).toNat)
  case atStart => exact ⟨0, by omega, rfl, KM.out, HRW.out.congr (fun i hi => by unfold acell; simp)⟩
  case round =>
    obtain ⟨k, hk, rfl, hkw, hrow⟩ := hrel
    have HKW := Hid.mk' hkw
    have HRO := Hid.mk' hrow
    have hlr := hrow.lt
    clear hkw hrow
    by_cases hlt : k < S.groups.length
    · have y0 := HRO.out.cell hlt
      have z0 := HRO.out.frozen k
      have HHAS := Hid.mk' (thas_any (HB.out.setNew HKW.out (p := ⟨w.heap.size, k, none⟩) (Nat.le_refl _) (.int .u8 1)) hp (g := k) (by omega))
      have HX1 : Hid (inP S p k = true → 2 = if inP S p k = true then 2 else 1) := fun e => by rw [if_pos e]
      have HX0 : Hid (inP S p k = false → 1 = if inP S p k = true then 2 else 1) := fun e => by rw [if_neg (by rw [e]; decide)]
      cases hz : inP S p k with
      | true =>
        rw [hz] at HHAS
        have HX := Hid.mk' (HX1.out hz)
        clear hz HX1 HX0
        go_wp2_with (go_at_call 79; refine HHAS.out.mono ?_; rintro e w2 ⟨rfl, hw2⟩; have hw2 := hw2.symm; subst hw2)
        go_roundw
        case rel =>
          refine ⟨k + 1, by omega, by go_num, (HKW.out.setNew (p := ⟨w.heap.size, k, none⟩) (Nat.le_refl _) _).setNew (p := ⟨w.heap.size, k, none⟩) (Nat.le_refl _) _, ?_⟩
          rw [← acell_set HX.out]
          exact row_twice HRO.out
        case measure => simp [intOf]; omega
      | false =>
        rw [hz] at HHAS
        have HX := Hid.mk' (HX0.out hz)
        clear hz HX1 HX0
        go_wp2_with (go_at_call 79; refine HHAS.out.mono ?_; rintro e w2 ⟨rfl, hw2⟩; have hw2 := hw2.symm; subst hw2)
        go_roundw
        case rel =>
          refine ⟨k + 1, by omega, by go_num, HKW.out.setNew (p := ⟨w.heap.size, k, none⟩) (Nat.le_refl _) _, ?_⟩
          rw [← acell_set HX.out]
          exact HRO.out.set k _
        case measure => simp [intOf]; omega
    · have e : k = S.groups.length := by omega
      subst e
      go_wp2
      go_ret
      exact ⟨rfl, HRO.out.congr (fun i hi => by unfold acell; rw [if_pos hi, askV_lg hi]), HKW.out⟩

/-! ### isFull -/
theorem full_no {S : St} {F : Sf} {p i : Nat} (hi : i < S.groups.length) (hp : inP S p i = true) (ha : (F.g i).asp ≠ 2) : fullB S F p = false := by
  cases h : fullB S F p with
  | false => rfl
  | true => exact absurd (fullB_iff.1 h i hi hp) ha
theorem ext_ful {S : St} {F : Sf} {p k : Nat} (h : ∀ j, j < k → inP S p j = true → (F.g j).asp = 2) (hk : inP S p k = true → (F.g k).asp = 2) : ∀ j, j < k + 1 → inP S p j = true → (F.g j).asp = 2 := fun j hj => by
  by_cases e : j = k
  · subst e; exact hk
  · exact h j (by omega)
set_option maxRecDepth 100000 in
set_option maxHeartbeats 1000000 in
theorem tful_any {w : World} {B : Nat} {X : Sa} {S : St} (h : Sbox w B X S) (hng : S.groups.length ≤ 32) {p : Nat} (hp : p < S.phases.length) {a : Option Addr} {c : Nat} {F : Sf} (hF : SafeAt w a c F) (hf : F.groups.length = S.groups.length) : Calls Tryd.prog 52 #[.pointer (some ⟨B, 0, none⟩), .agg #[.slice a S.groups.length c, .int .i64 F.start, .bool F.flashed], .int .i64 (p : Int)] w fun e w' => e = .returned (.bool (fullB S F p)) ∧ Kept w w' none := by
  have k1 : Kept w (w.alloc (.cells #[.slice a S.groups.length c, .int .i64 F.start, .bool F.flashed] 61)) none := Kept.alloc _ _ _ _ _
  have bn := box_alloc w (.slice a S.groups.length c) (.int .i64 F.start) (.bool F.flashed) 61
  have HS := Hid.mk' (h.kept k1)
  have HF := Hid.mk' (hF.kept k1)
  have hcr : S.groups.length ≤ c := by have := hF.cap.room; omega
  have hcm := hF.cap.max
  have HFL := Hid.mk' hf
  obtain ⟨WA, hWA⟩ : ∃ WA, (w.alloc (.cells #[.slice a S.groups.length c, .int .i64 F.start, .bool F.flashed] 61)) = WA := ⟨_, rfl⟩
  rw [hWA] at k1 bn HS HF
  have HK := Hid.mk' k1
  have n0 := bn.c0
  have HYES : Hid ((∀ j, j < S.groups.length → inP S p j = true → (F.g j).asp = 2) → fullB S F p = true) := fullB_iff.2
  clear h hF hf k1 bn
  go_enter Tryd.func52, Tryd.ntmps52
  go_wp2_with (rw [hWA])
  go_loopw [7, 8, 12] (fun _ _ i wr => ∃ k : Nat, k ≤ S.groups.length ∧ i = .int .i64 k ∧ Kept WA wr none ∧ ∀ j, j < k → inP S p j = true → (F.g j).asp = 2) (fun _ _ i _ => S.groups.length - (intOf i).toNat)
  case atStart => exact ⟨0, by omega, rfl, Kept.refl _ _, fun j hj => by omega⟩
  case round =>
    obtain ⟨k, hk, rfl, hkw, hno⟩ := hrel
    have HKW := Hid.mk' hkw
    have HNO := Hid.mk' hno
    clear hno
    by_cases hlt : k < S.groups.length
    · obtain ⟨bf, off, ea, hbf, q0, q1, q2⟩ := (HF.out.kept hkw).at_ (i := k) (by have := HFL.out; omega)
      subst ea
      have HEX : Hid ((inP S p k = true → (F.g k).asp = 2) → ∀ j, j < k + 1 → inP S p j = true → (F.g j).asp = 2) := ext_ful HNO.out
      have HNF : Hid (inP S p k = true → (F.g k).asp ≠ 2 → fullB S F p = false) := full_no hlt
      have kS : Kept wr (wr.alloc (.cells #[.int .u8 ((F.g k).asp : Int), .int .i64 (F.g k).since, .int .i64 (F.g k).ended] 95)) none := Kept.alloc _ _ _ _ _
      have bS := box_alloc wr (.int .u8 ((F.g k).asp : Int)) (.int .i64 (F.g k).since) (.int .i64 (F.g k).ended) 95
      have HHAS := Hid.mk' (thas_any ((HS.out.kept hkw).kept kS) hp (g := k) (by omega))
      have HKS := Hid.mk' (hkw.tr kS)
      clear hkw
      generalize F.g k = N at *
      obtain ⟨WS, hWS⟩ : ∃ WS, wr.alloc (.cells #[.int .u8 (N.asp : Int), .int .i64 N.since, .int .i64 N.ended] 95) = WS := ⟨_, rfl⟩
      rw [hWS] at kS bS HHAS HKS
      have x0 := bS.c0
      clear kS bS
      cases hz : inP S p k with
      | true =>
        rw [hz] at HHAS HNF HEX
        by_cases h2 : N.asp = 2
        · have h2b : (((N.asp : Nat) : Int) != 2) = false := by rw [h2]; rfl
          have HE := Hid.mk' (HEX.out (fun _ => h2))
          clear hz h2 HEX HNF
          go_wp2_with (first | rw [hWS] | (go_at_call 79; refine HHAS.out.mono ?_; rintro e w2 ⟨rfl, hw2⟩; have hw2 := hw2.symm; subst hw2))
          go_roundw
          case rel => exact ⟨k + 1, by omega, by go_num, HKS.out, HE.out⟩
          case measure => simp [intOf]; omega
        · have h2b : (((N.asp : Nat) : Int) != 2) = true := by simp; omega
          have HE := Hid.mk' (HNF.out rfl h2)
          clear hz h2 HEX HNF
          go_wp2_with (first | rw [hWS] | (go_at_call 79; refine HHAS.out.mono ?_; rintro e w2 ⟨rfl, hw2⟩; have hw2 := hw2.symm; subst hw2))
          go_ret
          exact ⟨by rw [HE.out]; rfl, HK.out.tr HKS.out⟩
      | false =>
        rw [hz] at HHAS HEX
        have HE := Hid.mk' (HEX.out (fun e => by cases e))
        clear hz HEX HNF
        go_wp2_with (first | rw [hWS] | (go_at_call 79; refine HHAS.out.mono ?_; rintro e w2 ⟨rfl, hw2⟩; have hw2 := hw2.symm; subst hw2))
        go_roundw
        case rel => exact ⟨k + 1, by omega, by go_num, HKS.out, HE.out⟩
        case measure => simp [intOf]; omega
    · have e : k = S.groups.length := by omega
      have HE := Hid.mk' (HYES.out (fun j hj => HNO.out j (by omega)))
      clear hkw
      go_wp2
      go_ret
      exact ⟨by rw [HE.out]; rfl, HK.out.tr HKW.out⟩

end Go.Proofs.YtfhmfanmnhclfaaDoor

