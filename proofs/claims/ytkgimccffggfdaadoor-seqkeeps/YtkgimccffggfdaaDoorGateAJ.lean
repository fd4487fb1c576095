/-
  Texts joined: some of those that the proofs of this seat stand on.
-/
import Derived.Test.YtkgimccffggfdaaDoorGateMJ
import Derived.Test.YtkgimccffggfdaaDoorTurH
import Derived.Deep.QuietTactic
/-
  THE CONTRACTS of gate's small calls: has, allAre, allOf, aspectGoesOn; of letThrough's closures bars and open.
-/
namespace Go.Proofs.YtkgimccffggfdaaDoor
open Go.RowKit Go.Lib Go.Deep
set_option linter.unusedVariables false
set_option linter.unusedSimpArgs false

theorem ghas_any (S i : Nat) (w : World) (hS : S < 4294967296) (hi : i < 32) : Calls Tryd.prog 54 #[.int .u32 (S : Int), .int .i64 (i : Int)] w fun e w' => e = .returned (.bool (S.testBit i)) ∧ w' = w := by
  have hb := has_bit S i hS
  go_enter Tryd.func54, Tryd.ntmps54
  go_wp2
  go_ret
  exact ⟨by rw [← hb]; rfl, rfl⟩
set_option maxRecDepth 100000 in
theorem gindexFn_any {w : World} {a : Option Addr} {n c : Nat} {L : List Nat} (hB : By w a n L) (x B : Nat) (hx : w.cell? ⟨B, 0, none⟩ = some (.int .u8 (x : Int))) : Calls Tryd.prog 100 #[.slice a n c, .func (.func 83) #[] #[.pointer (some ⟨B, 0, none⟩)]] w fun e w' => (∃ z : Int, e = .returned (.int .i64 z) ∧ allIs L x = !decide (0 ≤ z)) ∧ w' = w := by
  have hs := hB.size
  have hm := hB.max
  have HB := Hid.mk' hB
  have HS := Hid.mk' hs
  clear hB hs
  go_enter Tryd.func100, Tryd.ntmps100
  go_wp2
  go_loop [5, 8] (fun _ i => ∃ k : Nat, k ≤ n ∧ i = .int .i64 k ∧ ∀ j, j < k → lg L j = x) (fun _ i => n - (intOf i).toNat)
  case atStart => exact ⟨0, by omega, rfl, fun j hj => by omega⟩
  case round =>
    obtain ⟨k, hk, rfl, hno⟩ := hrel
    have HN := Hid.mk' hno
    clear hno
    by_cases hlt : k < n
    · obtain ⟨b, off, rfl, hb, hc⟩ := HB.out.at_ (by omega)
      have kc := hc k hlt
      rw [show L.getD k 0 = lg L k from rfl] at kc
      by_cases e : lg L k = x
      · have HN2 := Hid.mk' (ext_no HN.out e)
        rw [e] at kc
        clear hc e
        go_wp2
        exact ⟨⟨k + 1, by omega, by go_num, HN2.out⟩, by simp [intOf]; omega⟩
      · have HY := Hid.mk' (allIs_no (by have := HS.out; omega) e)
        have e1 : ((lg L k : Int) == (x : Int)) = false := by simp; omega
        clear hc e
        generalize lg L k = y at *
        go_wp2
        go_ret
        exact ⟨⟨_, rfl, by rw [HY.out]; simp⟩, rfl⟩
    · have HF := Hid.mk' (allIs_yes (L := L) (x := x) (fun i hi => HN.out i (by have := HS.out; omega)))
      go_wp2
      go_ret
      exact ⟨⟨_, rfl, by rw [HF.out]; simp⟩, rfl⟩
theorem gall_any {w : World} {a : Option Addr} {n c : Nat} {L : List Nat} (hB : By w a n L) (x : Nat) : Calls Tryd.prog 52 #[.slice a n c, .int .u8 (x : Int)] w fun e w' => e = .returned (.bool (allIs L x)) ∧ Kept w w' none := by
  have hk : Kept w (w.alloc (.cells #[.int .u8 (x : Int)] 5)) none := Kept.alloc _ _ _ _ _
  have HB := Hid.mk' (hB.kept hk)
  have HK := Hid.mk' hk
  clear hB hk
  have hc : (w.alloc (.cells #[.int .u8 (x : Int)] 5)).cell? ⟨w.heap.size, 0, none⟩ = some (.int .u8 (x : Int)) := by simp [World.cell?_alloc_mark]
  have HC := Hid.mk' hc
  clear hc
  go_enter Tryd.func52, Tryd.ntmps52
  go_wp2_with (first
    | (go_at_call 82; go_in)
    | (go_at_call 100; refine (gindexFn_any HB.out x _ HC.out).mono ?_; rintro e w' ⟨⟨z, rfl, hz⟩, rfl⟩))
  go_ret
  exact ⟨by rw [hz]; rfl, HK.out⟩

/-! ### allOf -/
def ocell (k x : Nat) (i : Nat) : Value := .int .u8 ((if i < k then x else 0 : Nat) : Int)
theorem ocell_set {k x : Nat} : (fun j => if j = k then Value.int .u8 (x : Int) else ocell k x j) = ocell (k + 1) x := by
  funext j
  unfold ocell
  by_cases h : j = k
  · subst h; simp
  · rw [if_neg h]
    by_cases h2 : j < k
    · rw [if_pos h2, if_pos (by omega)]
    · rw [if_neg h2, if_neg (by omega)]
set_option maxRecDepth 100000 in
set_option maxHeartbeats 1000000 in
theorem gallOf_any {w : World} (x n : Nat) (hn : n ≤ 100) : Calls Tryd.prog 31 #[.int .u8 (x : Int), .int .i64 (n : Int)] w fun e w' => e = .returned (.slice (some ⟨w.heap.size, 0, none⟩) n n) ∧ w'.rowIs w.heap.size 5 n (fun _ => .int .u8 (x : Int)) ∧ Kept w w' none := by
  have hmk := run_make_row' (P := Tryd.prog) 41 5 (.int .u8 0) 1 Tryd.uB Tryd.infoByte rfl .i64 .i64 n (by omega) (by omega)
  go_enter Tryd.func31, Tryd.ntmps31
  go_wp2
  have hrw := World.rowIs_made w (.int .u8 0) n 5
  have kM : Kept w (w.alloc (.cells (madeCells #[.int .u8 0] n) 5)) none := Kept.alloc _ _ _ _ _
  obtain ⟨W3, hW3⟩ : ∃ W3, w.alloc (.cells (madeCells #[.int .u8 0] n) 5) = W3 := ⟨_, rfl⟩
  rw [hW3] at hrw kM ⊢
  have HRW := Hid.mk' hrw
  have KM := Hid.mk' kM
  clear hW3 hrw kM hmk
  go_loopw [6, 11] (fun _ i wr => ∃ k : Nat, k ≤ n ∧ i = .int .i64 k ∧ Kept w wr none ∧ wr.rowIs w.heap.size 5 n (ocell k x)) (fun _ i _ => n - (intOf i).toNat)
  case atStart => exact ⟨0, by omega, rfl, KM.out, HRW.out.congr (fun i hi => by unfold ocell; simp)⟩
  case round =>
    obtain ⟨k, hk, rfl, hkw, hrow⟩ := hrel
    have HKW := Hid.mk' hkw
    have HRO := Hid.mk' hrow
    have hlr := hrow.lt
    clear hkw hrow
    by_cases hlt : k < n
    · have y0 := HRO.out.cell hlt
      have z0 := HRO.out.frozen k
      go_wp2
      go_roundw
      case rel =>
        refine ⟨k + 1, by omega, by go_num, HKW.out.setNew (p := ⟨w.heap.size, k, none⟩) (Nat.le_refl _) _, ?_⟩
        rw [← ocell_set]
        exact HRO.out.set k _
      case measure => simp [intOf]; omega
    · have e : k = n := by omega
      subst e
      go_wp2
      go_ret
      exact ⟨rfl, HRO.out.congr (fun i hi => by unfold ocell; rw [if_pos hi]), HKW.out⟩

/-! ### aspectGoesOn -/
set_option maxRecDepth 100000 in
set_option maxHeartbeats 1000000 in
theorem gasp_any {w : World} {a : Option Addr} {c : Nat} {F : Sf} (x : Nat) : Calls Tryd.prog 51 #[safeV a c F, .int .u8 (x : Int)] w fun e w' => e = .returned (.bool (aspG F x)) ∧ Kept w w' none := by
  obtain ⟨G, st, fl⟩ := F
  have hk : Kept w (w.alloc (.cells #[.slice a G.length c, .int .i64 st, .bool fl] 26)) none := Kept.alloc _ _ _ _ _
  have HK := Hid.mk' hk
  clear hk
  unfold aspG
  dsimp only
  cases fl with
  | true =>
    rw [if_pos rfl]
    have hb : ((x : Int) == 4) = (x == 4) := by rw [Bool.eq_iff_iff]; simp; omega
    have HB := Hid.mk' hb
    clear hb
    go_enter Tryd.func51, Tryd.ntmps51
    go_wp2
    go_ret
    exact ⟨by rw [← HB.out]; rfl, HK.out⟩
  | false =>
    rw [if_neg (by decide)]
    by_cases hs : 0 < st
    · rw [if_pos hs]
      have hb : ((x : Int) == 1) = (x == 1) := by rw [Bool.eq_iff_iff]; simp; omega
      have HB := Hid.mk' hb
      clear hb
      go_enter Tryd.func51, Tryd.ntmps51
      go_wp2
      go_ret
      exact ⟨by rw [← HB.out]; rfl, HK.out⟩
    · rw [if_neg hs]
      have hsb : decide (0 < st) = false := by simp; omega
      by_cases h1 : x = 1
      · subst h1
        go_enter Tryd.func51, Tryd.ntmps51
        go_wp2
        go_ret
        exact ⟨rfl, HK.out⟩
      · have b1 : ((x : Int) == 1) = false := by simp; omega
        by_cases h2 : x = 2
        · subst h2
          go_enter Tryd.func51, Tryd.ntmps51
          go_wp2
          go_ret
          exact ⟨rfl, HK.out⟩
        · have b2 : ((x : Int) == 2) = false := by simp; omega
          have hb : ((x : Int) == 3) = (x == 1 || (x == 2 || x == 3)) := by rw [Bool.eq_iff_iff]; simp; omega
          have HB := Hid.mk' hb
          clear hb
          go_enter Tryd.func51, Tryd.ntmps51
          go_wp2
          go_ret
          exact ⟨by rw [← HB.out]; rfl, HK.out⟩

/-! ### The closures -/
/-- What they ask: the site's pointer, the lights' slice, the standing, each in a box. -/
structure Gt (w : World) (B : Nat) (X : Sa) (S : St) (bs bl bn bf off c g : Nat) (F : Sf) (f : Nat → Nat) : Prop where
  ps : w.cell? ⟨bs, 0, none⟩ = some (.pointer (some ⟨B, 0, none⟩))
  pl : w.cell? ⟨bl, 0, none⟩ = some (.slice (some ⟨g, 0, none⟩) S.groups.length S.groups.length)
  bx : Box w bn (.slice (some ⟨bf, off, none⟩) S.groups.length c) (.int .i64 F.start) (.bool F.flashed)
  sb : Sbox w B X S
  cf : ∀ i, i < S.groups.length → ∀ j, j < 3 → w.cell? ⟨bf, off + i * 3 + j, none⟩ = some (snV (F.g i) j)
  rw_ : w.rowIs g 5 S.groups.length (fun i => .int .u8 ((f i : Nat) : Int))
  room : S.groups.length ≤ c
  max : c ≤ 9223372036854775807
theorem Gt.kept {w w' : World} {B : Nat} {X : Sa} {S : St} {bs bl bn bf off c g : Nat} {F : Sf} {f : Nat → Nat} (h : Gt w B X S bs bl bn bf off c g F f) (k : Kept w w' none) : Gt w' B X S bs bl bn bf off c g F f :=
  ⟨cell_kept0 h.ps k, cell_kept0 h.pl k, h.bx.kept k, h.sb.kept k, fun i hi j hj => cell_kept0 (h.cf i hi j hj) k, row_kept h.rw_ k (by simp), h.room, h.max⟩
theorem Gt.congr {w : World} {B : Nat} {X : Sa} {S : St} {bs bl bn bf off c g : Nat} {F : Sf} {f f' : Nat → Nat} (h : Gt w B X S bs bl bn bf off c g F f) (e : ∀ i, i < S.groups.length → f i = f' i) : Gt w B X S bs bl bn bf off c g F f' :=
  ⟨h.ps, h.pl, h.bx, h.sb, h.cf, h.rw_.congr (fun i hi => by rw [e i hi]), h.room, h.max⟩
set_option maxRecDepth 100000 in
set_option maxHeartbeats 2000000 in
theorem gbars_any {w : World} {B : Nat} {X : Sa} {S : St} {bs bl bn bf off c g : Nat} {F : Sf} {f : Nat → Nat} (h : Gt w B X S bs bl bn bf off c g F f) (hSh : Shape S) {that it : Nat} (ht : that < S.groups.length) (hi : it < S.groups.length) : Calls Tryd.prog 53 #[.int .i64 (that : Int), .int .i64 (it : Int), .pointer (some ⟨bs, 0, none⟩), .pointer (some ⟨bl, 0, none⟩), .pointer (some ⟨bn, 0, none⟩)] w fun e w' => e = .returned (.bool (barB S F f it that)) ∧ Kept w w' none := by
  have hng := hSh.ok.ng
  have hna := hSh.ok.na
  have hnb := hSh.ok.nb
  have ps := h.ps
  have pl := h.pl
  have f0 := h.bx.c0
  have c2 := h.sb.c2
  have c3 := h.sb.c3
  have hap : S.ap it < 4294967296 := h.sb.sat.apr it
  obtain ⟨ba, oa, ea, hca⟩ := h.sb.sat.apAt (n := S.groups.length) (by omega) (by omega)
  obtain ⟨bb, ob, br, or, cr, eb, kb, hcr, kr⟩ := h.sb.sat.btAt hSh ht hi
  have a0 := hca it hi
  have s2 := h.cf that ht 2 (by omega)
  have l0 := h.rw_.cell (i := that) ht
  simp only [snV] at s2
  have hac := h.sb.sat.ak.room
  have hbc := h.sb.sat.b.cap.room
  have hro := h.room
  have hmx := h.max
  rw [hna] at hac
  rw [hnb] at hbc
  rw [ea, hna] at c2
  rw [eb, hnb] at c3
  have HHAS := Hid.mk' (fun w' => ghas_any (S.ap it) that w' hap (by omega))
  have HV : Hid (barB S F f it that = ((S.ap it).testBit that && (!(f that == 1) || decide ((F.g that).ended < S.bt that it)))) := rfl
  clear h hSh ea eb hca hna hnb
  generalize barB S F f it that = z at *
  generalize F.g that = N at *
  generalize S.bt that it = v at *
  generalize S.ap it = P at *
  generalize P.testBit that = t at *
  generalize f that = y at *
  cases t with
  | false =>
    go_enter Tryd.func53, Tryd.ntmps53
    go_wp2
    go_quiet ((go_at_call 54; exact Calls.quiet_of_same (HHAS.out _)))
    go_wp2
    go_ret
    exact ⟨by rw [HV.out]; rfl, Kept.drewN _ _ _⟩
  | true =>
    by_cases hy : y = 1
    · subst hy
      by_cases hv : N.ended < v
      · go_enter Tryd.func53, Tryd.ntmps53
        go_wp2
        go_quiet ((go_at_call 54; exact Calls.quiet_of_same (HHAS.out _)))
        go_wp2
        go_ret
        exact ⟨by rw [HV.out]; simp [hv], Kept.drewN _ _ _⟩
      · have hvb : decide (N.ended < v) = false := by simp [hv]
        go_enter Tryd.func53, Tryd.ntmps53
        go_wp2
        go_quiet ((go_at_call 54; exact Calls.quiet_of_same (HHAS.out _)))
        go_wp2
        go_ret
        exact ⟨by rw [HV.out]; simp [hv], Kept.drewN _ _ _⟩
    · have hyb : ((y : Int) != 1) = true := by simp; omega
      have HY : Hid ((y == 1) = false) := by show _ = _; simp [hy]
      clear hy
      go_enter Tryd.func53, Tryd.ntmps53
      go_wp2
      go_quiet ((go_at_call 54; exact Calls.quiet_of_same (HHAS.out _)))
      go_wp2
      go_ret
      exact ⟨by rw [HV.out, HY.out]; rfl, Kept.drewN _ _ _⟩
set_option maxRecDepth 100000 in
set_option maxHeartbeats 1000000 in
theorem gopen_any {w : World} {B : Nat} {X : Sa} {S : St} {bs bl bn bf off c g bb : Nat} {F : Sf} {f : Nat → Nat} (h : Gt w B X S bs bl bn bf off c g F f) (hSh : Shape S) (hb : w.cell? ⟨bb, 0, none⟩ = some (.func (.func 53) #[] #[.pointer (some ⟨bs, 0, none⟩), .pointer (some ⟨bl, 0, none⟩), .pointer (some ⟨bn, 0, none⟩)])) {it : Nat} (hi : it < S.groups.length) : Calls Tryd.prog 55 #[.int .i64 (it : Int), .pointer (some ⟨bl, 0, none⟩), .pointer (some ⟨bb, 0, none⟩)] w fun e w' => e = .returned (.bool (openB S F S.groups.length f it)) ∧ Kept w w' none := by
  have hng := hSh.ok.ng
  have pl := h.pl
  have HG := Hid.mk' h
  have HSH := Hid.mk' hSh
  have HB := Hid.mk' hb
  clear h hSh hb
  go_enter Tryd.func55, Tryd.ntmps55
  go_wp2
  go_loopw [5, 8] (fun _ i wr => ∃ k : Nat, k ≤ S.groups.length ∧ i = .int .i64 k ∧ Kept w wr none ∧ ∀ j, j < k → barB S F f it j = false) (fun _ i _ => S.groups.length - (intOf i).toNat)
  case atStart => exact ⟨0, by omega, rfl, Kept.refl _ _, fun j hj => by omega⟩
  case round =>
    obtain ⟨k, hk, rfl, hkw, hno⟩ := hrel
    have HKW := Hid.mk' hkw
    have HN := Hid.mk' hno
    clear hkw hno
    by_cases hlt : k < S.groups.length
    · have pb := cell_kept0 HB.out HKW.out
      have HBA := Hid.mk' (gbars_any (HG.out.kept HKW.out) HSH.out hlt hi)
      have HY : Hid (barB S F f it k = true → openB S F S.groups.length f it = false) := fun e => allB_no hlt (by rw [e]; rfl)
      have HNO : Hid (barB S F f it k = false → ∀ j, j < k + 1 → barB S F f it j = false) := fun e => ext_no HN.out e
      generalize barB S F f it k = z at *
      cases z with
      | true =>
        have HF := Hid.mk' (HY.out rfl)
        clear HNO HY
        go_wp2_with (go_at_call 53; refine HBA.out.mono ?_; rintro e w2 ⟨rfl, hk2⟩)
        go_ret
        exact ⟨by rw [HF.out]; rfl, HKW.out.tr hk2⟩
      | false =>
        have HN2 := Hid.mk' (HNO.out rfl)
        clear HNO HY
        go_wp2_with (go_at_call 53; refine HBA.out.mono ?_; rintro e w2 ⟨rfl, hk2⟩)
        go_roundw
        case rel => exact ⟨k + 1, by omega, by go_num, HKW.out.tr hk2, HN2.out⟩
        case measure => simp [intOf]; omega
    · have e : k = S.groups.length := by omega
      subst e
      have HF : Hid (openB S F S.groups.length f it = true) := allB_iff.2 (fun j hj => by rw [HN.out j hj]; rfl)
      go_wp2
      go_ret
      exact ⟨by rw [HF.out]; rfl, HKW.out⟩

end Go.Proofs.YtkgimccffggfdaaDoor

/-
  THE CONTRACTS of turn's small calls: isPhase, hasGroup, asked, isFull (made by a program).
-/
namespace Go.Proofs.YtkgimccffggfdaaDoor
open Go.RowKit Go.Lib Go.Deep
set_option linter.unusedVariables false
set_option linter.unusedSimpArgs false

/-- Is there such a phase? -/
def phB (S : St) (p : Int) : Bool := decide (0 ≤ p) && decide (p < (S.phases.length : Int))
theorem phB_yes {S : St} {p : Int} (h : phB S p = true) : ∃ q : Nat, p = (q : Int) ∧ q < S.phases.length := by
  unfold phB at h
  simp only [Bool.and_eq_true, decide_eq_true_eq] at h
  exact ⟨p.toNat, by omega, by omega⟩
theorem tisp_any {w : World} {B : Nat} {X : Sa} {S : St} (h : Sbox w B X S) (p : Int) : Calls Tryd.prog 33 #[.pointer (some ⟨B, 0, none⟩), .int .i64 p] w fun e w' => e = .returned (.bool (phB S p)) ∧ w' = w := by
  have c4 := h.c4
  clear h
  by_cases h0 : 0 ≤ p
  · have hb : decide (0 ≤ p) = true := by simpa using h0
    have HV : Hid (phB S p = decide (p < (S.phases.length : Int))) := by show _ = _; unfold phB; rw [hb]; rfl
    clear h0
    go_enter Tryd.func33, Tryd.ntmps33
    go_wp2
    go_ret
    exact ⟨by rw [HV.out]; rfl, rfl⟩
  · have hb : decide (0 ≤ p) = false := by simpa using h0
    have HV : Hid (phB S p = false) := by show _ = _; unfold phB; rw [hb]; rfl
    clear h0
    go_enter Tryd.func33, Tryd.ntmps33
    go_wp2
    go_ret
    exact ⟨by rw [HV.out]; rfl, rfl⟩
theorem thas_any {w : World} {B : Nat} {X : Sa} {S : St} (h : Sbox w B X S) {p g : Nat} (hp : p < S.phases.length) (hg : g < 32) : Calls Tryd.prog 57 #[.pointer (some ⟨B, 0, none⟩), .int .i64 (p : Int), .int .i64 (g : Int)] w fun e w' => e = .returned (.bool (inP S p g)) ∧ w' = w := by
  obtain ⟨pb, po, ep, k0, _⟩ := h.sat.phAt hp
  have c4 := h.c4
  rw [ep] at c4
  have hb := has_bit (S.ph p).groups g (h.sat.phr p)
  have hpr := h.sat.pk.room
  have HV : Hid (inP S p g = (S.ph p).groups.testBit g) := rfl
  clear h ep
  generalize inP S p g = z at *
  generalize (S.ph p).groups = G at *
  go_enter Tryd.func57, Tryd.ntmps57
  go_wp2
  go_ret
  exact ⟨by rw [HV.out, ← hb]; rfl, rfl⟩

/-! ### asked -/
def acell (S : St) (p k i : Nat) : Value := .int .u8 ((if i < k then (if inP S p i = true then 2 else 1) else 0 : Nat) : Int)
theorem acell_set {S : St} {p k x : Nat} (hx : x = if inP S p k = true then 2 else 1) : (fun j => if j = k then Value.int .u8 (x : Int) else acell S p k j) = acell S p (k + 1) := by
  funext j
  unfold acell
  by_cases h : j = k
  · subst h; rw [if_pos rfl, if_pos (show j < j + 1 by omega), hx]
  · rw [if_neg h]
    by_cases h2 : j < k
    · rw [if_pos h2, if_pos (show j < k + 1 by omega)]
    · rw [if_neg h2, if_neg (show ¬ j < k + 1 by omega)]
theorem row_twice {w : World} {b n k : Nat} {t : TypeId} {f : Nat → Value} {x y : Value} (h : w.rowIs b t n f) : ((w.setCell ⟨b, k, none⟩ x).setCell ⟨b, k, none⟩ y).rowIs b t n (fun j => if j = k then y else f j) :=
  ((h.set k x).set k y).congr (fun j hj => by
    show (if j = k then y else if j = k then x else f j) = if j = k then y else f j
    by_cases e : j = k
    · rw [if_pos e, if_pos e]
    · rw [if_neg e, if_neg e, if_neg e])
theorem Sbox.setNew {w wr : World} {B : Nat} {X : Sa} {S : St} (h : Sbox w B X S) (k : Kept w wr none) {p : Addr} (hp : w.heap.size ≤ p.block) (v : Value) : Sbox (wr.setCell p v) B X S := h.kept (k.setNew hp v)
set_option maxRecDepth 100000 in
set_option maxHeartbeats 1000000 in
theorem task_any {w : World} {B : Nat} {X : Sa} {S : St} (h : Sbox w B X S) (hng : S.groups.length ≤ 32) {p : Nat} (hp : p < S.phases.length) : Calls Tryd.prog 41 #[.pointer (some ⟨B, 0, none⟩), .int .i64 (p : Int)] w fun e w' => e = .returned (.slice (some ⟨w.heap.size, 0, none⟩) S.groups.length S.groups.length) ∧ w'.rowIs w.heap.size 5 S.groups.length (fun i => .int .u8 ((lg (askV S p) i : Nat) : Int)) ∧ Kept w w' none := by
  have hmk := run_make_row' (P := Tryd.prog) 41 5 (.int .u8 0) 1 Tryd.uB Tryd.infoByte rfl .i64 .i64 S.groups.length (by omega) (by omega)
  have c1 := h.c1
  have HB := Hid.mk' h
  clear h
  go_enter Tryd.func41, Tryd.ntmps41
  go_wp2
  have hrw := World.rowIs_made w (.int .u8 0) S.groups.length 5
  have kM : Kept w (w.alloc (.cells (madeCells #[.int .u8 0] S.groups.length) 5)) none := Kept.alloc _ _ _ _ _
  obtain ⟨W3, hW3⟩ : ∃ W3, w.alloc (.cells (madeCells #[.int .u8 0] S.groups.length) 5) = W3 := ⟨_, rfl⟩
  rw [hW3] at hrw kM ⊢
  have HRW := Hid.mk' hrw
  have KM := Hid.mk' kM
  clear hW3 hrw kM hmk c1
  go_loopw [6, 15] (fun _ i wr => ∃ k : Nat, k ≤ S.groups.length ∧ i = .int .i64 k ∧ Kept w wr none ∧ wr.rowIs w.heap.size 5 S.groups.length (acell S p k)) (fun _ i _ => S.groups.length - (intOf i).toNat)
  case atStart => exact ⟨0, by omega, rfl, KM.out, HRW.out.congr (fun i hi => by unfold acell; simp)⟩
  case round =>
    obtain ⟨k, hk, rfl, hkw, hrow⟩ := hrel
    have HKW := Hid.mk' hkw
    have HRO := Hid.mk' hrow
    have hlr := hrow.lt
    clear hkw hrow
    by_cases hlt : k < S.groups.length
    · have y0 := HRO.out.cell hlt
      have z0 := HRO.out.frozen k
      have HHAS := Hid.mk' (thas_any (HB.out.setNew HKW.out (p := ⟨w.heap.size, k, none⟩) (Nat.le_refl _) (.int .u8 1)) hp (g := k) (by omega))
      have HX1 : Hid (inP S p k = true → 2 = if inP S p k = true then 2 else 1) := fun e => by rw [if_pos e]
      have HX0 : Hid (inP S p k = false → 1 = if inP S p k = true then 2 else 1) := fun e => by rw [if_neg (by rw [e]; decide)]
      cases hz : inP S p k with
      | true =>
        rw [hz] at HHAS
        have HX := Hid.mk' (HX1.out hz)
        clear hz HX1 HX0
        go_wp2_with (go_at_call 57; refine HHAS.out.mono ?_; rintro e w2 ⟨rfl, hw2⟩; have hw2 := hw2.symm; subst hw2)
        go_roundw
        case rel =>
          refine ⟨k + 1, by omega, by go_num, (HKW.out.setNew (p := ⟨w.heap.size, k, none⟩) (Nat.le_refl _) _).setNew (p := ⟨w.heap.size, k, none⟩) (Nat.le_refl _) _, ?_⟩
          rw [← acell_set HX.out]
          exact row_twice HRO.out
        case measure => simp [intOf]; omega
      | false =>
        rw [hz] at HHAS
        have HX := Hid.mk' (HX0.out hz)
        clear hz HX1 HX0
        go_wp2_with (go_at_call 57; refine HHAS.out.mono ?_; rintro e w2 ⟨rfl, hw2⟩; have hw2 := hw2.symm; subst hw2)
        go_roundw
        case rel =>
          refine ⟨k + 1, by omega, by go_num, HKW.out.setNew (p := ⟨w.heap.size, k, none⟩) (Nat.le_refl _) _, ?_⟩
          rw [← acell_set HX.out]
          exact HRO.out.set k _
        case measure => simp [intOf]; omega
    · have e : k = S.groups.length := by omega
      subst e
      go_wp2
      go_ret
      exact ⟨rfl, HRO.out.congr (fun i hi => by unfold acell; rw [if_pos hi, askV_lg hi]), HKW.out⟩

/-! ### isFull -/
theorem full_no {S : St} {F : Sf} {p i : Nat} (hi : i < S.groups.length) (hp : inP S p i = true) (ha : (F.g i).asp ≠ 2) : fullB S F p = false := by
  cases h : fullB S F p with
  | false => rfl
  | true => exact absurd (fullB_iff.1 h i hi hp) ha
theorem ext_ful {S : St} {F : Sf} {p k : Nat} (h : ∀ j, j < k → inP S p j = true → (F.g j).asp = 2) (hk : inP S p k = true → (F.g k).asp = 2) : ∀ j, j < k + 1 → inP S p j = true → (F.g j).asp = 2 := fun j hj => by
  by_cases e : j = k
  · subst e; exact hk
  · exact h j (by omega)
set_option maxRecDepth 100000 in
set_option maxHeartbeats 1000000 in
theorem tful_any {w : World} {B : Nat} {X : Sa} {S : St} (h : Sbox w B X S) (hng : S.groups.length ≤ 32) {p : Nat} (hp : p < S.phases.length) {a : Option Addr} {c : Nat} {F : Sf} (hF : SafeAt w a c F) (hf : F.groups.length = S.groups.length) : Calls Tryd.prog 34 #[.pointer (some ⟨B, 0, none⟩), .agg #[.slice a S.groups.length c, .int .i64 F.start, .bool F.flashed], .int .i64 (p : Int)] w fun e w' => e = .returned (.bool (fullB S F p)) ∧ Kept w w' none := by
  have k1 : Kept w (w.alloc (.cells #[.slice a S.groups.length c, .int .i64 F.start, .bool F.flashed] 26)) none := Kept.alloc _ _ _ _ _
  have bn := box_alloc w (.slice a S.groups.length c) (.int .i64 F.start) (.bool F.flashed) 26
  have HS := Hid.mk' (h.kept k1)
  have HF := Hid.mk' (hF.kept k1)
  have hcr : S.groups.length ≤ c := by have := hF.cap.room; omega
  have hcm := hF.cap.max
  have HFL := Hid.mk' hf
  obtain ⟨WA, hWA⟩ : ∃ WA, (w.alloc (.cells #[.slice a S.groups.length c, .int .i64 F.start, .bool F.flashed] 26)) = WA := ⟨_, rfl⟩
  rw [hWA] at k1 bn HS HF
  have HK := Hid.mk' k1
  have n0 := bn.c0
  have HYES : Hid ((∀ j, j < S.groups.length → inP S p j = true → (F.g j).asp = 2) → fullB S F p = true) := fullB_iff.2
  clear h hF hf k1 bn
  go_enter Tryd.func34, Tryd.ntmps34
  go_wp2_with (rw [hWA])
  go_loopw [7, 8, 12] (fun _ _ i wr => ∃ k : Nat, k ≤ S.groups.length ∧ i = .int .i64 k ∧ Kept WA wr none ∧ ∀ j, j < k → inP S p j = true → (F.g j).asp = 2) (fun _ _ i _ => S.groups.length - (intOf i).toNat)
  case atStart => exact ⟨0, by omega, rfl, Kept.refl _ _, fun j hj => by omega⟩
  case round =>
    obtain ⟨k, hk, rfl, hkw, hno⟩ := hrel
    have HKW := Hid.mk' hkw
    have HNO := Hid.mk' hno
    clear hno
    by_cases hlt : k < S.groups.length
    · obtain ⟨bf, off, ea, hbf, q0, q1, q2⟩ := (HF.out.kept hkw).at_ (i := k) (by have := HFL.out; omega)
      subst ea
      have HEX : Hid ((inP S p k = true → (F.g k).asp = 2) → ∀ j, j < k + 1 → inP S p j = true → (F.g j).asp = 2) := ext_ful HNO.out
      have HNF : Hid (inP S p k = true → (F.g k).asp ≠ 2 → fullB S F p = false) := full_no hlt
      have kS : Kept wr (wr.alloc (.cells #[.int .u8 ((F.g k).asp : Int), .int .i64 (F.g k).since, .int .i64 (F.g k).ended] 23)) none := Kept.alloc _ _ _ _ _
      have bS := box_alloc wr (.int .u8 ((F.g k).asp : Int)) (.int .i64 (F.g k).since) (.int .i64 (F.g k).ended) 23
      have HHAS := Hid.mk' (thas_any ((HS.out.kept hkw).kept kS) hp (g := k) (by omega))
      have HKS := Hid.mk' (hkw.tr kS)
      clear hkw
      generalize F.g k = N at *
      obtain ⟨WS, hWS⟩ : ∃ WS, wr.alloc (.cells #[.int .u8 (N.asp : Int), .int .i64 N.since, .int .i64 N.ended] 23) = WS := ⟨_, rfl⟩
      rw [hWS] at kS bS HHAS HKS
      have x0 := bS.c0
      clear kS bS
      cases hz : inP S p k with
      | true =>
        rw [hz] at HHAS HNF HEX
        by_cases h2 : N.asp = 2
        · have h2b : (((N.asp : Nat) : Int) != 2) = false := by rw [h2]; rfl
          have HE := Hid.mk' (HEX.out (fun _ => h2))
          clear hz h2 HEX HNF
          go_wp2_with (first | rw [hWS] | (go_at_call 57; refine HHAS.out.mono ?_; rintro e w2 ⟨rfl, hw2⟩; have hw2 := hw2.symm; subst hw2))
          go_roundw
          case rel => exact ⟨k + 1, by omega, by go_num, HKS.out, HE.out⟩
          case measure => simp [intOf]; omega
        · have h2b : (((N.asp : Nat) : Int) != 2) = true := by simp; omega
          have HE := Hid.mk' (HNF.out rfl h2)
          clear hz h2 HEX HNF
          go_wp2_with (first | rw [hWS] | (go_at_call 57; refine HHAS.out.mono ?_; rintro e w2 ⟨rfl, hw2⟩; have hw2 := hw2.symm; subst hw2))
          go_ret
          exact ⟨by rw [HE.out]; rfl, HK.out.tr HKS.out⟩
      | false =>
        rw [hz] at HHAS HEX
        have HE := Hid.mk' (HEX.out (fun e => by cases e))
        clear hz HEX HNF
        go_wp2_with (first | rw [hWS] | (go_at_call 57; refine HHAS.out.mono ?_; rintro e w2 ⟨rfl, hw2⟩; have hw2 := hw2.symm; subst hw2))
        go_roundw
        case rel => exact ⟨k + 1, by omega, by go_num, HKS.out, HE.out⟩
        case measure => simp [intOf]; omega
    · have e : k = S.groups.length := by omega
      have HE := Hid.mk' (HYES.out (fun j hj => HNO.out j (by omega)))
      clear hkw
      go_wp2
      go_ret
      exact ⟨by rw [HE.out]; rfl, HK.out.tr HKW.out⟩

end Go.Proofs.YtkgimccffggfdaaDoor

/-
  THE CONTRACTS of seq's small calls: firstBehind, isPlace, called (made by a program).
-/
namespace Go.Proofs.YtkgimccffggfdaaDoor
open Go.RowKit Go.Lib Go.Deep
set_option linter.unusedVariables false
set_option linter.unusedSimpArgs false


/-- A phase's cells. -/
theorem Sat.phq {w : World} {X : Sa} {S : St} (h : Sat w X S) {pb po : Nat} (e : X.p = some ⟨pb, po, none⟩) {k : Nat} (hk : k < S.phases.length) : pb < w.heap.size ∧ w.cell? ⟨pb, po + k * 5, none⟩ = some (.int .u32 ((S.ph k).groups : Int)) ∧ w.cell? ⟨pb, po + k * 5 + 1, none⟩ = some (.int .i64 (S.ph k).min) ∧ w.cell? ⟨pb, po + k * 5 + 2, none⟩ = some (.int .i64 (S.ph k).max) ∧ w.cell? ⟨pb, po + k * 5 + 3, none⟩ = some (.int .i64 (S.ph k).gap) ∧ w.cell? ⟨pb, po + k * 5 + 4, none⟩ = some (.bool (S.ph k).always) := by
  obtain ⟨b, off, e2, hb, hc⟩ := h.p.at_ (by omega)
  rw [e] at e2
  injection e2 with e2
  injection e2 with e3 e4
  subst e3 e4
  exact ⟨hb, hc k hk 0 (by omega), hc k hk 1 (by omega), hc k hk 2 (by omega), hc k hk 3 (by omega), hc k hk 4 (by omega)⟩
theorem Sat.ppq {w : World} {X : Sa} {S : St} (h : Sat w X S) (hk : 0 < S.phases.length) : ∃ pb po, X.p = some ⟨pb, po, none⟩ := by
  obtain ⟨b, off, e2, hb, hc⟩ := h.p.at_ hk
  exact ⟨b, off, e2⟩
theorem srot_any (x s : Nat) (z : Int) (w : World) (hx : x < 4294967296) (hs0 : 1 ≤ s) (hs : s < 32) (hz : bits BinOp.and IntKind.u64 (IntKind.u64.wrap z) 31 = (s : Int)) (hz0 : z < 0) : Calls Tryd.prog 74 #[.int .u32 (x : Int), .int .i64 z] w fun e w' => e = .returned (.int .u32 ((rotN x s : Nat) : Int)) ∧ w' = w := by
  have hor : bits BinOp.or IntKind.u32 ((x : Int) * 2 ^ s % 4294967296) ((x : Int) / 2 ^ (32 - s)) = ((rotN x s : Nat) : Int) := by
    have e1 : (x : Int) * 2 ^ s % 4294967296 = ((x * 2 ^ s % 4294967296 : Nat) : Int) := by simp
    have e2 : (x : Int) / 2 ^ (32 - s) = ((x / 2 ^ (32 - s) : Nat) : Int) := by simp
    rw [e1, e2, u32_or_nat _ _ (Nat.mod_lt _ (by omega)) (Nat.lt_of_le_of_lt (Nat.div_le_self _ _) hx)]
    rfl
  go_enter Tryd.func74, Tryd.ntmps74
  go_wp2
  go_ret
  exact ⟨rfl, rfl⟩
theorem neg_31 {p : Nat} (hp : p < 8) : bits BinOp.and IntKind.u64 (IntKind.u64.wrap (-((p : Int) + 1))) 31 = (((31 - p : Nat)) : Int) := by
  have : p = 0 ∨ p = 1 ∨ p = 2 ∨ p = 3 ∨ p = 4 ∨ p = 5 ∨ p = 6 ∨ p = 7 := by omega
  rcases this with rfl | rfl | rfl | rfl | rfl | rfl | rfl | rfl <;> decide +kernel
theorem sfst_any (x p : Nat) (w : World) (hx : x < 4294967296) (h0 : 0 < x) (hp : p < 8) (ht : Tabb w) : Calls Tryd.prog 40 #[.int .u32 (x : Int), .int .i64 (p : Int)] w fun e w' => e = .returned (.int .i64 ((rndV x p : Nat) : Int)) ∧ w' = w := by
  have hr := rot_pos (s := 31 - p) (by simpa using hx) (by omega) h0
  have hr2 := rot_lt (s := 31 - p) (by simpa using hx)
  have hl := (lowN_spec 32 _ hr hr2).1
  have HT := Hid.mk' ht
  have hm : ((p : Int) + 1 + ((lowN 32 (rotN x (31 - p)) : Nat) : Int)).tmod 32 = ((rndV x p : Nat) : Int) := by
    unfold rndV
    rw [Int.tmod_eq_emod_of_nonneg (by omega)]
    simp
  have hm2 : ((p : Int) + 1 + ((lowN 32 (rotN x (31 - p)) : Nat) : Int)) % 32 = ((rndV x p : Nat) : Int) := by
    unfold rndV
    simp
  have hr3 : rotN x (31 - p) < 4294967296 := by simpa using hr2
  clear ht hr2
  generalize rndV x p = V at *
  go_enter Tryd.func40, Tryd.ntmps40
  go_wp2_with (first | (go_at_call 73; refine (zeros_any _ _ hr3 hr HT.out).mono ?_; rintro e w ⟨rfl, rfl⟩) | (go_at_call 74; refine (srot_any x (31 - p) _ _ hx (by omega) (by omega) (neg_31 hp) (by omega)).mono ?_; rintro e w ⟨rfl, rfl⟩))
  go_ret
  exact ⟨rfl, rfl⟩

/-! ### isPlace -/
/-- May it be there? -/
def plaB (S : St) (p s : Int) : Bool := phB S p && (decide (0 ≤ s) && decide (s ≤ 1048576))
set_option maxRecDepth 100000 in
set_option maxHeartbeats 2000000 in
theorem sisp_low {w : World} {B : Nat} {X : Sa} {S : St} (h : Sbox w B X S) (p s : Int) (hb0 : ¬ 0 ≤ p) : Calls Tryd.prog 23 #[.pointer (some ⟨B, 0, none⟩), .agg #[.int .i64 p, .int .i64 s]] w fun e w' => e = .returned (.bool (false)) ∧ Kept w w' none := by
  have c4 := h.c4
  have hlt := h.lt
  have hb : decide (0 ≤ p) = false := by simpa using hb0
  clear h
  go_enter Tryd.func23, Tryd.ntmps23
  go_wp2
  go_quiet (fail)
  go_wp2
  go_ret
  exact ⟨rfl, (Kept.alloc _ _ _ _ _).tr (Kept.drewN _ _ _)⟩
set_option maxRecDepth 100000 in
set_option maxHeartbeats 2000000 in
theorem sisp_far {w : World} {B : Nat} {X : Sa} {S : St} (h : Sbox w B X S) (p s : Int) (hb0 : 0 ≤ p) (hc0 : ¬ p < (S.phases.length : Int)) : Calls Tryd.prog 23 #[.pointer (some ⟨B, 0, none⟩), .agg #[.int .i64 p, .int .i64 s]] w fun e w' => e = .returned (.bool (false)) ∧ Kept w w' none := by
  have c4 := h.c4
  have hlt := h.lt
  have hb : decide (0 ≤ p) = true := by simpa using hb0
  have hc : decide (p < (S.phases.length : Int)) = false := by simpa using hc0
  clear h
  go_enter Tryd.func23, Tryd.ntmps23
  go_wp2
  go_quiet (fail)
  go_wp2
  go_ret
  exact ⟨rfl, (Kept.alloc _ _ _ _ _).tr (Kept.drewN _ _ _)⟩
set_option maxRecDepth 100000 in
set_option maxHeartbeats 2000000 in
theorem sisp_neg {w : World} {B : Nat} {X : Sa} {S : St} (h : Sbox w B X S) (p s : Int) (hb0 : 0 ≤ p) (hc0 : p < (S.phases.length : Int)) (hd0 : ¬ 0 ≤ s) : Calls Tryd.prog 23 #[.pointer (some ⟨B, 0, none⟩), .agg #[.int .i64 p, .int .i64 s]] w fun e w' => e = .returned (.bool (false)) ∧ Kept w w' none := by
  have c4 := h.c4
  have hlt := h.lt
  have hb : decide (0 ≤ p) = true := by simpa using hb0
  have hc : decide (p < (S.phases.length : Int)) = true := by simpa using hc0
  have hd : decide (0 ≤ s) = false := by simpa using hd0
  clear h
  go_enter Tryd.func23, Tryd.ntmps23
  go_wp2
  go_quiet (fail)
  go_wp2
  go_ret
  exact ⟨rfl, (Kept.alloc _ _ _ _ _).tr (Kept.drewN _ _ _)⟩
set_option maxRecDepth 100000 in
set_option maxHeartbeats 2000000 in
theorem sisp_go {w : World} {B : Nat} {X : Sa} {S : St} (h : Sbox w B X S) (p s : Int) (hb0 : 0 ≤ p) (hc0 : p < (S.phases.length : Int)) (hd0 : 0 ≤ s) : Calls Tryd.prog 23 #[.pointer (some ⟨B, 0, none⟩), .agg #[.int .i64 p, .int .i64 s]] w fun e w' => e = .returned (.bool (decide (s ≤ 1048576))) ∧ Kept w w' none := by
  have c4 := h.c4
  have hlt := h.lt
  have hb : decide (0 ≤ p) = true := by simpa using hb0
  have hc : decide (p < (S.phases.length : Int)) = true := by simpa using hc0
  have hd : decide (0 ≤ s) = true := by simpa using hd0
  clear h
  go_enter Tryd.func23, Tryd.ntmps23
  go_wp2
  go_quiet (fail)
  go_wp2
  go_ret
  exact ⟨rfl, (Kept.alloc _ _ _ _ _).tr (Kept.drewN _ _ _)⟩
theorem sisp_any {w : World} {B : Nat} {X : Sa} {S : St} (h : Sbox w B X S) (p s : Int) : Calls Tryd.prog 23 #[.pointer (some ⟨B, 0, none⟩), .agg #[.int .i64 p, .int .i64 s]] w fun e w' => e = .returned (.bool (plaB S p s)) ∧ Kept w w' none := by
  unfold plaB phB
  by_cases h0 : 0 ≤ p
  · by_cases h1 : p < (S.phases.length : Int)
    · by_cases h2 : 0 ≤ s
      · rw [decide_eq_true h0, decide_eq_true h1, decide_eq_true h2]
        exact sisp_go h p s h0 h1 h2
      · rw [decide_eq_true h0, decide_eq_true h1, decide_eq_false h2]
        exact sisp_neg h p s h0 h1 h2
    · rw [decide_eq_true h0, decide_eq_false h1]
      exact sisp_far h p s h0 h1
  · rw [decide_eq_false h0]
    exact sisp_low h p s h0

/-! ### called -/
theorem low_and {c n : Nat} (hc : c < 4294967296) (hn : n ≤ 8) : bits BinOp.and IntKind.u32 (c : Int) (((2 : Int) ^ n - 1) % 4294967296) = ((c % 2 ^ n : Nat) : Int) := by
  have hp : 2 ^ n ≤ 2 ^ 8 := Nat.pow_le_pow_right (by omega) hn
  have hp0 : 0 < 2 ^ n := Nat.two_pow_pos n
  have e : ((2 : Int) ^ n - 1) % 4294967296 = ((2 ^ n - 1 : Nat) : Int) := by
    rw [show (2 : Int) ^ n = ((2 ^ n : Nat) : Int) by simp]
    omega
  rw [e, u32_and_nat _ _ hc (by omega), Nat.and_two_pow_sub_one_eq_mod]
set_option maxRecDepth 100000 in
set_option maxHeartbeats 2000000 in
theorem scal_any {w : World} {B : Nat} {X : Sa} {S : St} (h : Sbox w B X S) (hn : S.phases.length ≤ 8) (h1 : 0 < S.phases.length) (c : Nat) (hc : c < 4294967296) : Calls Tryd.prog 39 #[.pointer (some ⟨B, 0, none⟩), .int .u32 (c : Int)] w fun e w' => e = .returned (.int .u32 ((clsN S c S.phases.length : Nat) : Int)) ∧ Kept w w' none := by
  obtain ⟨pb, po, ep⟩ := h.sat.ppq h1
  have c4 := h.c4
  rw [ep] at c4
  have hlt := h.lt
  have HB := Hid.mk' h
  have HEP := Hid.mk' ep
  have HLT := Hid.mk' (fun k hk => clsN_lt (S := S) (by omega) c k hk)
  have hand := low_and hc hn
  have hrm := h.sat.pk.room
  have h0 : c % 2 ^ S.phases.length = clsN S c 0 := rfl
  rw [h0] at hand
  clear h ep h0
  go_enter Tryd.func39, Tryd.ntmps39
  go_wp2
  go_loopw [5, 6, 7, 22] (fun u _ _ i wr => ∃ k : Nat, k ≤ S.phases.length ∧ i = .int .i64 k ∧ u = .int .u32 ((clsN S c k : Nat) : Int) ∧ Kept w wr none) (fun _ _ _ i _ => S.phases.length - (intOf i).toNat)
  case atStart => exact ⟨0, by omega, rfl, rfl, Kept.refl _ _⟩
  case round =>
    obtain ⟨k, hk, rfl, rfl, hkw⟩ := hrel
    have HKW := Hid.mk' hkw
    have hN9 := HLT.out k hk
    clear hand
    by_cases hkl : k < S.phases.length
    · obtain ⟨hpb, q0, q1, q2, q3, q4⟩ := (HB.out.sat.kept hkw).phq HEP.out hkl
      clear hkw c4
      cases hal : (S.ph k).always
      ·
        have HN : Hid (clsN S c (k + 1) = clsN S c k) := clsN_no hal
        rw [hal] at q4
        clear hal
        generalize clsN S c k = N1 at *
        generalize S.ph k = x at *
        obtain ⟨x0', x1', x2', x3', x4'⟩ := x
        dsimp only at q0 q1 q2 q3
        go_wp2
        go_roundw
        case rel => exact ⟨k + 1, by omega, by go_num, by rw [HN.out], HKW.out.tr (Kept.alloc _ _ _ _ _)⟩
        case measure => simp [intOf]; omega
      ·
        have HN : Hid (clsN S c (k + 1) = clsN S c k ||| 2 ^ k) := clsN_yes hal
        rw [hal] at q4
        clear hal
        have hor : bits BinOp.or IntKind.u32 ((clsN S c k : Nat) : Int) ((2 : Int) ^ k % 4294967296) = ((clsN S c k ||| 2 ^ k : Nat) : Int) := by rw [pow_int (by omega), u32_or_nat _ _ hN9 (pow_lt32 (by omega))]
        generalize clsN S c k ||| 2 ^ k = M at *
        generalize clsN S c k = N1 at *
        generalize S.ph k = x at *
        obtain ⟨x0', x1', x2', x3', x4'⟩ := x
        dsimp only at q0 q1 q2 q3
        go_wp2
        go_roundw
        case rel => exact ⟨k + 1, by omega, by go_num, by rw [HN.out], HKW.out.tr (Kept.alloc _ _ _ _ _)⟩
        case measure => simp [intOf]; omega
    · obtain rfl : k = S.phases.length := by omega
      clear hkw
      go_wp2
      go_ret
      exact ⟨rfl, HKW.out⟩

end Go.Proofs.YtkgimccffggfdaaDoor

