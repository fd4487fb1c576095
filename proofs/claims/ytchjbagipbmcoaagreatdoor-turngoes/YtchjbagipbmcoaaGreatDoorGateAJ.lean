/-
  Texts joined: some of those that the proofs of this seat stand on.
-/
import Derived.Test.YtchjbagipbmcoaaGreatDoorGateMJ
import Derived.Test.YtchjbagipbmcoaaGreatDoorSafeK
import Derived.Test.YtchjbagipbmcoaaGreatDoorApartM
/-
  THE CONTRACTS of gate's small calls: has, allAre, allOf, aspectGoesOn; of letThrough's closures bars and open.
-/
namespace Go.Proofs.YtchjbagipbmcoaaGreatDoor
open Go.RowKit Go.Lib Go.Deep
set_option linter.unusedVariables false
set_option linter.unusedSimpArgs false

theorem ghas_any (S i : Nat) (w : World) (hS : S < 4294967296) (hi : i < 32) : Calls Tryz.prog 74 #[.int .u32 (S : Int), .int .i64 (i : Int)] w fun e w' => e = .returned (.bool (S.testBit i)) ∧ w' = w := by
  have hb := has_bit S i hS
  go_enter Tryz.func74, Tryz.ntmps74
  go_wp2
  go_ret
  exact ⟨by rw [← hb]; rfl, rfl⟩
set_option maxRecDepth 100000 in
theorem gindexFn_any {w : World} {a : Option Addr} {n c : Nat} {L : List Nat} (hB : By w a n L) (x B : Nat) (hx : w.cell? ⟨B, 0, none⟩ = some (.int .u8 (x : Int))) : Calls Tryz.prog 108 #[.slice a n c, .func (.func 96) #[] #[.pointer (some ⟨B, 0, none⟩)]] w fun e w' => (∃ z : Int, e = .returned (.int .i64 z) ∧ allIs L x = !decide (0 ≤ z)) ∧ w' = w := by
  have hs := hB.size
  have hm := hB.max
  have HB := Hid.mk' hB
  have HS := Hid.mk' hs
  clear hB hs
  go_enter Tryz.func108, Tryz.ntmps108
  go_wp2
  go_loop [5, 8] (fun _ i => ∃ k : Nat, k ≤ n ∧ i = .int .i64 k ∧ ∀ j, j < k → lg L j = x) (fun _ i => n - (intOf i).toNat)
  case atStart => exact ⟨0, by omega, rfl, fun j hj => by omega⟩
  case round =>
    obtain ⟨k, hk, rfl, hno⟩ := hrel
    have HN := Hid.mk' hno
    clear hno
    by_cases hlt : k < n
    · obtain ⟨b, off, rfl, hb, hc⟩ := HB.out.at_ (by omega)
      have kc := hc k hlt
      rw [show L.getD k 0 = lg L k from rfl] at kc
      by_cases e : lg L k = x
      · have HN2 := Hid.mk' (ext_no HN.out e)
        rw [e] at kc
        clear hc e
        go_wp2
        exact ⟨⟨k + 1, by omega, by go_num, HN2.out⟩, by simp [intOf]; omega⟩
      · have HY := Hid.mk' (allIs_no (by have := HS.out; omega) e)
        have e1 : ((lg L k : Int) == (x : Int)) = false := by simp; omega
        clear hc e
        generalize lg L k = y at *
        go_wp2
        go_ret
        exact ⟨⟨_, rfl, by rw [HY.out]; simp⟩, rfl⟩
    · have HF := Hid.mk' (allIs_yes (L := L) (x := x) (fun i hi => HN.out i (by have := HS.out; omega)))
      go_wp2
      go_ret
      exact ⟨⟨_, rfl, by rw [HF.out]; simp⟩, rfl⟩
theorem gall_any {w : World} {a : Option Addr} {n c : Nat} {L : List Nat} (hB : By w a n L) (x : Nat) : Calls Tryz.prog 72 #[.slice a n c, .int .u8 (x : Int)] w fun e w' => e = .returned (.bool (allIs L x)) ∧ Kept w w' none := by
  have hk : Kept w (w.alloc (.cells #[.int .u8 (x : Int)] 5)) none := Kept.alloc _ _ _ _ _
  have HB := Hid.mk' (hB.kept hk)
  have HK := Hid.mk' hk
  clear hB hk
  have hc : (w.alloc (.cells #[.int .u8 (x : Int)] 5)).cell? ⟨w.heap.size, 0, none⟩ = some (.int .u8 (x : Int)) := by simp [World.cell?_alloc_mark]
  have HC := Hid.mk' hc
  clear hc
  go_enter Tryz.func72, Tryz.ntmps72
  go_wp2_with (first
    | (go_at_call 95; go_in)
    | (go_at_call 108; refine (gindexFn_any HB.out x _ HC.out).mono ?_; rintro e w' ⟨⟨z, rfl, hz⟩, rfl⟩))
  go_ret
  exact ⟨by rw [hz]; rfl, HK.out⟩

/-! ### allOf -/
def ocell (k x : Nat) (i : Nat) : Value := .int .u8 ((if i < k then x else 0 : Nat) : Int)
theorem ocell_set {k x : Nat} : (fun j => if j = k then Value.int .u8 (x : Int) else ocell k x j) = ocell (k + 1) x := by
  funext j
  unfold ocell
  by_cases h : j = k
  · subst h; simp
  · rw [if_neg h]
    by_cases h2 : j < k
    · rw [if_pos h2, if_pos (by omega)]
    · rw [if_neg h2, if_neg (by omega)]
set_option maxRecDepth 100000 in
set_option maxHeartbeats 1000000 in
theorem gallOf_any {w : World} (x n : Nat) (hn : n ≤ 100) : Calls Tryz.prog 43 #[.int .u8 (x : Int), .int .i64 (n : Int)] w fun e w' => e = .returned (.slice (some ⟨w.heap.size, 0, none⟩) n n) ∧ w'.rowIs w.heap.size 5 n (fun _ => .int .u8 (x : Int)) ∧ Kept w w' none := by
  have hmk := run_make_row' (P := Tryz.prog) 36 5 (.int .u8 0) 1 Tryz.uB Tryz.infoByte rfl .i64 .i64 n (by omega) (by omega)
  go_enter Tryz.func43, Tryz.ntmps43
  go_wp2
  have hrw := World.rowIs_made w (.int .u8 0) n 5
  have kM : Kept w (w.alloc (.cells (madeCells #[.int .u8 0] n) 5)) none := Kept.alloc _ _ _ _ _
  obtain ⟨W3, hW3⟩ : ∃ W3, w.alloc (.cells (madeCells #[.int .u8 0] n) 5) = W3 := ⟨_, rfl⟩
  rw [hW3] at hrw kM ⊢
  have HRW := Hid.mk' hrw
  have KM := Hid.mk' kM
  clear hW3 hrw kM hmk
  go_loopw [6, 11] (fun _ i wr => ∃ k : Nat, k ≤ n ∧ i = .int .i64 k ∧ Kept w wr none ∧ wr.rowIs w.heap.size 5 n (ocell k x)) (fun _ i _ => n - (intOf i).toNat)
  case atStart => exact ⟨0, by omega, rfl, KM.out, HRW.out.congr (fun i hi => by unfold ocell; simp)⟩
  case round =>
    obtain ⟨k, hk, rfl, hkw, hrow⟩ := hrel
    have HKW := Hid.mk' hkw
    have HRO := Hid.mk' hrow
    have hlr := hrow.lt
    clear hkw hrow
    by_cases hlt : k < n
    · have y0 := HRO.out.cell hlt
      have z0 := HRO.out.frozen k
      go_wp2
      go_roundw
      case rel =>
        refine ⟨k + 1, by omega, by go_num, HKW.out.setNew (p := ⟨w.heap.size, k, none⟩) (Nat.le_refl _) _, ?_⟩
        rw [← ocell_set]
        exact HRO.out.set k _
      case measure => simp [intOf]; omega
    · have e : k = n := by omega
      subst e
      go_wp2
      go_ret
      exact ⟨rfl, HRO.out.congr (fun i hi => by unfold ocell; rw [if_pos hi]), HKW.out⟩

/-! ### aspectGoesOn -/
set_option maxRecDepth 100000 in
set_option maxHeartbeats 1000000 in
theorem gasp_any {w : World} {a : Option Addr} {c : Nat} {F : Sf} (x : Nat) : Calls Tryz.prog 71 #[safeV a c F, .int .u8 (x : Int)] w fun e w' => e = .returned (.bool (aspG F x)) ∧ Kept w w' none := by
  obtain ⟨G, st, fl⟩ := F
  have hk : Kept w (w.alloc (.cells #[.slice a G.length c, .int .i64 st, .bool fl] 32)) none := Kept.alloc _ _ _ _ _
  have HK := Hid.mk' hk
  clear hk
  unfold aspG
  dsimp only
  cases fl with
  | true =>
    rw [if_pos rfl]
    have hb : ((x : Int) == 4) = (x == 4) := by rw [Bool.eq_iff_iff]; simp; omega
    have HB := Hid.mk' hb
    clear hb
    go_enter Tryz.func71, Tryz.ntmps71
    go_wp2
    go_ret
    exact ⟨by rw [← HB.out]; rfl, HK.out⟩
  | false =>
    rw [if_neg (by decide)]
    by_cases hs : 0 < st
    · rw [if_pos hs]
      have hb : ((x : Int) == 1) = (x == 1) := by rw [Bool.eq_iff_iff]; simp; omega
      have HB := Hid.mk' hb
      clear hb
      go_enter Tryz.func71, Tryz.ntmps71
      go_wp2
      go_ret
      exact ⟨by rw [← HB.out]; rfl, HK.out⟩
    · rw [if_neg hs]
      have hsb : decide (0 < st) = false := by simp; omega
      by_cases h1 : x = 1
      · subst h1
        go_enter Tryz.func71, Tryz.ntmps71
        go_wp2
        go_ret
        exact ⟨rfl, HK.out⟩
      · have b1 : ((x : Int) == 1) = false := by simp; omega
        by_cases h2 : x = 2
        · subst h2
          go_enter Tryz.func71, Tryz.ntmps71
          go_wp2
          go_ret
          exact ⟨rfl, HK.out⟩
        · have b2 : ((x : Int) == 2) = false := by simp; omega
          have hb : ((x : Int) == 3) = (x == 1 || (x == 2 || x == 3)) := by rw [Bool.eq_iff_iff]; simp; omega
          have HB := Hid.mk' hb
          clear hb
          go_enter Tryz.func71, Tryz.ntmps71
          go_wp2
          go_ret
          exact ⟨by rw [← HB.out]; rfl, HK.out⟩

/-! ### The closures -/
/-- What they ask: the site's pointer, the lights' slice, the standing, each in a box. -/
structure Gt (w : World) (B : Nat) (X : Sa) (S : St) (bs bl bn bf off c g : Nat) (F : Sf) (f : Nat → Nat) : Prop where
  ps : w.cell? ⟨bs, 0, none⟩ = some (.pointer (some ⟨B, 0, none⟩))
  pl : w.cell? ⟨bl, 0, none⟩ = some (.slice (some ⟨g, 0, none⟩) S.groups.length S.groups.length)
  bx : Box w bn (.slice (some ⟨bf, off, none⟩) S.groups.length c) (.int .i64 F.start) (.bool F.flashed)
  sb : Sbox w B X S
  cf : ∀ i, i < S.groups.length → ∀ j, j < 3 → w.cell? ⟨bf, off + i * 3 + j, none⟩ = some (snV (F.g i) j)
  rw_ : w.rowIs g 5 S.groups.length (fun i => .int .u8 ((f i : Nat) : Int))
  room : S.groups.length ≤ c
  max : c ≤ 9223372036854775807
theorem Gt.kept {w w' : World} {B : Nat} {X : Sa} {S : St} {bs bl bn bf off c g : Nat} {F : Sf} {f : Nat → Nat} (h : Gt w B X S bs bl bn bf off c g F f) (k : Kept w w' none) : Gt w' B X S bs bl bn bf off c g F f :=
  ⟨cell_kept0 h.ps k, cell_kept0 h.pl k, h.bx.kept k, h.sb.kept k, fun i hi j hj => cell_kept0 (h.cf i hi j hj) k, row_kept h.rw_ k (by simp), h.room, h.max⟩
theorem Gt.congr {w : World} {B : Nat} {X : Sa} {S : St} {bs bl bn bf off c g : Nat} {F : Sf} {f f' : Nat → Nat} (h : Gt w B X S bs bl bn bf off c g F f) (e : ∀ i, i < S.groups.length → f i = f' i) : Gt w B X S bs bl bn bf off c g F f' :=
  ⟨h.ps, h.pl, h.bx, h.sb, h.cf, h.rw_.congr (fun i hi => by rw [e i hi]), h.room, h.max⟩
set_option maxRecDepth 100000 in
set_option maxHeartbeats 2000000 in
theorem gbars_any {w : World} {B : Nat} {X : Sa} {S : St} {bs bl bn bf off c g : Nat} {F : Sf} {f : Nat → Nat} (h : Gt w B X S bs bl bn bf off c g F f) (hSh : Shape S) {that it : Nat} (ht : that < S.groups.length) (hi : it < S.groups.length) : Calls Tryz.prog 73 #[.int .i64 (that : Int), .int .i64 (it : Int), .pointer (some ⟨bs, 0, none⟩), .pointer (some ⟨bl, 0, none⟩), .pointer (some ⟨bn, 0, none⟩)] w fun e w' => e = .returned (.bool (barB S F f it that)) ∧ Kept w w' none := by
  have hng := hSh.ok.ng
  have hna := hSh.ok.na
  have hnb := hSh.ok.nb
  have ps := h.ps
  have pl := h.pl
  have f0 := h.bx.c0
  have c2 := h.sb.c2
  have c3 := h.sb.c3
  have hap : S.ap it < 4294967296 := h.sb.sat.apr it
  obtain ⟨ba, oa, ea, hca⟩ := h.sb.sat.apAt (n := S.groups.length) (by omega) (by omega)
  obtain ⟨bb, ob, br, or, cr, eb, kb, hcr, kr⟩ := h.sb.sat.btAt hSh ht hi
  have a0 := hca it hi
  have s2 := h.cf that ht 2 (by omega)
  have l0 := h.rw_.cell (i := that) ht
  simp only [snV] at s2
  have hac := h.sb.sat.ak.room
  have hbc := h.sb.sat.b.cap.room
  have hro := h.room
  have hmx := h.max
  rw [hna] at hac
  rw [hnb] at hbc
  rw [ea, hna] at c2
  rw [eb, hnb] at c3
  have HHAS := Hid.mk' (fun w' => ghas_any (S.ap it) that w' hap (by omega))
  have HV : Hid (barB S F f it that = ((S.ap it).testBit that && (!(f that == 1) || decide ((F.g that).ended < S.bt that it)))) := rfl
  clear h hSh ea eb hca hna hnb
  generalize barB S F f it that = z at *
  generalize F.g that = N at *
  generalize S.bt that it = v at *
  generalize S.ap it = P at *
  generalize P.testBit that = t at *
  generalize f that = y at *
  cases t with
  | false =>
    go_enter Tryz.func73, Tryz.ntmps73
    go_wp2
    go_quiet ((go_at_call 74; exact Calls.quiet_of_same (HHAS.out _)))
    go_wp2
    go_ret
    exact ⟨by rw [HV.out]; rfl, Kept.drewN _ _ _⟩
  | true =>
    by_cases hy : y = 1
    · subst hy
      by_cases hv : N.ended < v
      · go_enter Tryz.func73, Tryz.ntmps73
        go_wp2
        go_quiet ((go_at_call 74; exact Calls.quiet_of_same (HHAS.out _)))
        go_wp2
        go_ret
        exact ⟨by rw [HV.out]; simp [hv], Kept.drewN _ _ _⟩
      · have hvb : decide (N.ended < v) = false := by simp [hv]
        go_enter Tryz.func73, Tryz.ntmps73
        go_wp2
        go_quiet ((go_at_call 74; exact Calls.quiet_of_same (HHAS.out _)))
        go_wp2
        go_ret
        exact ⟨by rw [HV.out]; simp [hv], Kept.drewN _ _ _⟩
    · have hyb : ((y : Int) != 1) = true := by simp; omega
      have HY : Hid ((y == 1) = false) := by show _ = _; simp [hy]
      clear hy
      go_enter Tryz.func73, Tryz.ntmps73
      go_wp2
      go_quiet ((go_at_call 74; exact Calls.quiet_of_same (HHAS.out _)))
      go_wp2
      go_ret
      exact ⟨by rw [HV.out, HY.out]; rfl, Kept.drewN _ _ _⟩
set_option maxRecDepth 100000 in
set_option maxHeartbeats 1000000 in
theorem gopen_any {w : World} {B : Nat} {X : Sa} {S : St} {bs bl bn bf off c g bb : Nat} {F : Sf} {f : Nat → Nat} (h : Gt w B X S bs bl bn bf off c g F f) (hSh : Shape S) (hb : w.cell? ⟨bb, 0, none⟩ = some (.func (.func 73) #[] #[.pointer (some ⟨bs, 0, none⟩), .pointer (some ⟨bl, 0, none⟩), .pointer (some ⟨bn, 0, none⟩)])) {it : Nat} (hi : it < S.groups.length) : Calls Tryz.prog 75 #[.int .i64 (it : Int), .pointer (some ⟨bl, 0, none⟩), .pointer (some ⟨bb, 0, none⟩)] w fun e w' => e = .returned (.bool (openB S F S.groups.length f it)) ∧ Kept w w' none := by
  have hng := hSh.ok.ng
  have pl := h.pl
  have HG := Hid.mk' h
  have HSH := Hid.mk' hSh
  have HB := Hid.mk' hb
  clear h hSh hb
  go_enter Tryz.func75, Tryz.ntmps75
  go_wp2
  go_loopw [5, 8] (fun _ i wr => ∃ k : Nat, k ≤ S.groups.length ∧ i = .int .i64 k ∧ Kept w wr none ∧ ∀ j, j < k → barB S F f it j = false) (fun _ i _ => S.groups.length - (intOf i).toNat)
  case atStart => exact ⟨0, by omega, rfl, Kept.refl _ _, fun j hj => by omega⟩
  case round =>
    obtain ⟨k, hk, rfl, hkw, hno⟩ := hrel
    have HKW := Hid.mk' hkw
    have HN := Hid.mk' hno
    clear hkw hno
    by_cases hlt : k < S.groups.length
    · have pb := cell_kept0 HB.out HKW.out
      have HBA := Hid.mk' (gbars_any (HG.out.kept HKW.out) HSH.out hlt hi)
      have HY : Hid (barB S F f it k = true → openB S F S.groups.length f it = false) := fun e => allB_no hlt (by rw [e]; rfl)
      have HNO : Hid (barB S F f it k = false → ∀ j, j < k + 1 → barB S F f it j = false) := fun e => ext_no HN.out e
      generalize barB S F f it k = z at *
      cases z with
      | true =>
        have HF := Hid.mk' (HY.out rfl)
        clear HNO HY
        go_wp2_with (go_at_call 73; refine HBA.out.mono ?_; rintro e w2 ⟨rfl, hk2⟩)
        go_ret
        exact ⟨by rw [HF.out]; rfl, HKW.out.tr hk2⟩
      | false =>
        have HN2 := Hid.mk' (HNO.out rfl)
        clear HNO HY
        go_wp2_with (go_at_call 73; refine HBA.out.mono ?_; rintro e w2 ⟨rfl, hk2⟩)
        go_roundw
        case rel => exact ⟨k + 1, by omega, by go_num, HKW.out.tr hk2, HN2.out⟩
        case measure => simp [intOf]; omega
    · have e : k = S.groups.length := by omega
      subst e
      have HF : Hid (openB S F S.groups.length f it = true) := allB_iff.2 (fun j hj => by rw [HN.out j hj]; rfl)
      go_wp2
      go_ret
      exact ⟨by rw [HF.out]; rfl, HKW.out⟩

end Go.Proofs.YtchjbagipbmcoaaGreatDoor

/-
  THE CONTRACTS of turn's small calls: isPhase, hasGroup, asked, isFull (made by a program).
-/
namespace Go.Proofs.YtchjbagipbmcoaaGreatDoor
open Go.RowKit Go.Lib Go.Deep
set_option linter.unusedVariables false
set_option linter.unusedSimpArgs false

/-- Is there such a phase? -/
def phB (S : St) (p : Int) : Bool := decide (0 ≤ p) && decide (p < (S.phases.length : Int))
theorem phB_yes {S : St} {p : Int} (h : phB S p = true) : ∃ q : Nat, p = (q : Int) ∧ q < S.phases.length := by
  unfold phB at h
  simp only [Bool.and_eq_true, decide_eq_true_eq] at h
  exact ⟨p.toNat, by omega, by omega⟩
theorem tisp_any {w : World} {B : Nat} {X : Sa} {S : St} (h : Sbox w B X S) (p : Int) : Calls Tryz.prog 19 #[.pointer (some ⟨B, 0, none⟩), .int .i64 p] w fun e w' => e = .returned (.bool (phB S p)) ∧ w' = w := by
  have c4 := h.c4
  clear h
  by_cases h0 : 0 ≤ p
  · have hb : decide (0 ≤ p) = true := by simpa using h0
    have HV : Hid (phB S p = decide (p < (S.phases.length : Int))) := by show _ = _; unfold phB; rw [hb]; rfl
    clear h0
    go_enter Tryz.func19, Tryz.ntmps19
    go_wp2
    go_ret
    exact ⟨by rw [HV.out]; rfl, rfl⟩
  · have hb : decide (0 ≤ p) = false := by simpa using h0
    have HV : Hid (phB S p = false) := by show _ = _; unfold phB; rw [hb]; rfl
    clear h0
    go_enter Tryz.func19, Tryz.ntmps19
    go_wp2
    go_ret
    exact ⟨by rw [HV.out]; rfl, rfl⟩
theorem thas_any {w : World} {B : Nat} {X : Sa} {S : St} (h : Sbox w B X S) {p g : Nat} (hp : p < S.phases.length) (hg : g < 32) : Calls Tryz.prog 39 #[.pointer (some ⟨B, 0, none⟩), .int .i64 (p : Int), .int .i64 (g : Int)] w fun e w' => e = .returned (.bool (inP S p g)) ∧ w' = w := by
  obtain ⟨pb, po, ep, k0, _⟩ := h.sat.phAt hp
  have c4 := h.c4
  rw [ep] at c4
  have hb := has_bit (S.ph p).groups g (h.sat.phr p)
  have hpr := h.sat.pk.room
  have HV : Hid (inP S p g = (S.ph p).groups.testBit g) := rfl
  clear h ep
  generalize inP S p g = z at *
  generalize (S.ph p).groups = G at *
  go_enter Tryz.func39, Tryz.ntmps39
  go_wp2
  go_ret
  exact ⟨by rw [HV.out, ← hb]; rfl, rfl⟩

/-! ### asked -/
def acell (S : St) (p k i : Nat) : Value := .int .u8 ((if i < k then (if inP S p i = true then 2 else 1) else 0 : Nat) : Int)
theorem acell_set {S : St} {p k x : Nat} (hx : x = if inP S p k = true then 2 else 1) : (fun j => if j = k then Value.int .u8 (x : Int) else acell S p k j) = acell S p (k + 1) := by
  funext j
  unfold acell
  by_cases h : j = k
  · subst h; rw [if_pos rfl, if_pos (show j < j + 1 by omega), hx]
  · rw [if_neg h]
    by_cases h2 : j < k
    · rw [if_pos h2, if_pos (show j < k + 1 by omega)]
    · rw [if_neg h2, if_neg (show ¬ j < k + 1 by omega)]
theorem row_twice {w : World} {b n k : Nat} {t : TypeId} {f : Nat → Value} {x y : Value} (h : w.rowIs b t n f) : ((w.setCell ⟨b, k, none⟩ x).setCell ⟨b, k, none⟩ y).rowIs b t n (fun j => if j = k then y else f j) :=
  ((h.set k x).set k y).congr (fun j hj => by
    show (if j = k then y else if j = k then x else f j) = if j = k then y else f j
    by_cases e : j = k
    · rw [if_pos e, if_pos e]
    · rw [if_neg e, if_neg e, if_neg e])
theorem Sbox.setNew {w wr : World} {B : Nat} {X : Sa} {S : St} (h : Sbox w B X S) (k : Kept w wr none) {p : Addr} (hp : w.heap.size ≤ p.block) (v : Value) : Sbox (wr.setCell p v) B X S := h.kept (k.setNew hp v)
set_option maxRecDepth 100000 in
set_option maxHeartbeats 1000000 in
theorem task_any {w : World} {B : Nat} {X : Sa} {S : St} (h : Sbox w B X S) (hng : S.groups.length ≤ 32) {p : Nat} (hp : p < S.phases.length) : Calls Tryz.prog 20 #[.pointer (some ⟨B, 0, none⟩), .int .i64 (p : Int)] w fun e w' => e = .returned (.slice (some ⟨w.heap.size, 0, none⟩) S.groups.length S.groups.length) ∧ w'.rowIs w.heap.size 5 S.groups.length (fun i => .int .u8 ((lg (askV S p) i : Nat) : Int)) ∧ Kept w w' none := by
  have hmk := run_make_row' (P := Tryz.prog) 36 5 (.int .u8 0) 1 Tryz.uB Tryz.infoByte rfl .i64 .i64 S.groups.length (by omega) (by omega)
  have c1 := h.c1
  have HB := Hid.mk' h
  clear h
  go_enter Tryz.func20, Tryz.ntmps20
  go_wp2
  have hrw := World.rowIs_made w (.int .u8 0) S.groups.length 5
  have kM : Kept w (w.alloc (.cells (madeCells #[.int .u8 0] S.groups.length) 5)) none := Kept.alloc _ _ _ _ _
  obtain ⟨W3, hW3⟩ : ∃ W3, w.alloc (.cells (madeCells #[.int .u8 0] S.groups.length) 5) = W3 := ⟨_, rfl⟩
  rw [hW3] at hrw kM ⊢
  have HRW := Hid.mk' hrw
  have KM := Hid.mk' kM
  clear hW3 hrw kM hmk c1
  go_loopw [6, 15] (fun _ i wr => ∃ k : Nat, k ≤ S.groups.length ∧ i = .int .i64 k ∧ Kept w wr none ∧ wr.rowIs w.heap.size 5 S.groups.length (acell S p k)) (fun _ i _ => S.groups.length - (intOf i).toNat)
  case atStart => exact ⟨0, by omega, rfl, KM.out, HRW.out.congr (fun i hi => by unfold acell; simp)⟩
  case round =>
    obtain ⟨k, hk, rfl, hkw, hrow⟩ := hrel
    have HKW := Hid.mk' hkw
    have HRO := Hid.mk' hrow
    have hlr := hrow.lt
    clear hkw hrow
    by_cases hlt : k < S.groups.length
    · have y0 := HRO.out.cell hlt
      have z0 := HRO.out.frozen k
      have HHAS := Hid.mk' (thas_any (HB.out.setNew HKW.out (p := ⟨w.heap.size, k, none⟩) (Nat.le_refl _) (.int .u8 1)) hp (g := k) (by omega))
      have HX1 : Hid (inP S p k = true → 2 = if inP S p k = true then 2 else 1) := fun e => by rw [if_pos e]
      have HX0 : Hid (inP S p k = false → 1 = if inP S p k = true then 2 else 1) := fun e => by rw [if_neg (by rw [e]; decide)]
      cases hz : inP S p k with
      | true =>
        rw [hz] at HHAS
        have HX := Hid.mk' (HX1.out hz)
        clear hz HX1 HX0
        go_wp2_with (go_at_call 39; refine HHAS.out.mono ?_; rintro e w2 ⟨rfl, hw2⟩; have hw2 := hw2.symm; subst hw2)
        go_roundw
        case rel =>
          refine ⟨k + 1, by omega, by go_num, (HKW.out.setNew (p := ⟨w.heap.size, k, none⟩) (Nat.le_refl _) _).setNew (p := ⟨w.heap.size, k, none⟩) (Nat.le_refl _) _, ?_⟩
          rw [← acell_set HX.out]
          exact row_twice HRO.out
        case measure => simp [intOf]; omega
      | false =>
        rw [hz] at HHAS
        have HX := Hid.mk' (HX0.out hz)
        clear hz HX1 HX0
        go_wp2_with (go_at_call 39; refine HHAS.out.mono ?_; rintro e w2 ⟨rfl, hw2⟩; have hw2 := hw2.symm; subst hw2)
        go_roundw
        case rel =>
          refine ⟨k + 1, by omega, by go_num, HKW.out.setNew (p := ⟨w.heap.size, k, none⟩) (Nat.le_refl _) _, ?_⟩
          rw [← acell_set HX.out]
          exact HRO.out.set k _
        case measure => simp [intOf]; omega
    · have e : k = S.groups.length := by omega
      subst e
      go_wp2
      go_ret
      exact ⟨rfl, HRO.out.congr (fun i hi => by unfold acell; rw [if_pos hi, askV_lg hi]), HKW.out⟩

/-! ### isFull -/
theorem full_no {S : St} {F : Sf} {p i : Nat} (hi : i < S.groups.length) (hp : inP S p i = true) (ha : (F.g i).asp ≠ 2) : fullB S F p = false := by
  cases h : fullB S F p with
  | false => rfl
  | true => exact absurd (fullB_iff.1 h i hi hp) ha
theorem ext_ful {S : St} {F : Sf} {p k : Nat} (h : ∀ j, j < k → inP S p j = true → (F.g j).asp = 2) (hk : inP S p k = true → (F.g k).asp = 2) : ∀ j, j < k + 1 → inP S p j = true → (F.g j).asp = 2 := fun j hj => by
  by_cases e : j = k
  · subst e; exact hk
  · exact h j (by omega)
set_option maxRecDepth 100000 in
set_option maxHeartbeats 1000000 in
theorem tful_any {w : World} {B : Nat} {X : Sa} {S : St} (h : Sbox w B X S) (hng : S.groups.length ≤ 32) {p : Nat} (hp : p < S.phases.length) {a : Option Addr} {c : Nat} {F : Sf} (hF : SafeAt w a c F) (hf : F.groups.length = S.groups.length) : Calls Tryz.prog 22 #[.pointer (some ⟨B, 0, none⟩), .agg #[.slice a S.groups.length c, .int .i64 F.start, .bool F.flashed], .int .i64 (p : Int)] w fun e w' => e = .returned (.bool (fullB S F p)) ∧ Kept w w' none := by
  have k1 : Kept w (w.alloc (.cells #[.slice a S.groups.length c, .int .i64 F.start, .bool F.flashed] 32)) none := Kept.alloc _ _ _ _ _
  have bn := box_alloc w (.slice a S.groups.length c) (.int .i64 F.start) (.bool F.flashed) 32
  have HS := Hid.mk' (h.kept k1)
  have HF := Hid.mk' (hF.kept k1)
  have hcr : S.groups.length ≤ c := by have := hF.cap.room; omega
  have hcm := hF.cap.max
  have HFL := Hid.mk' hf
  obtain ⟨WA, hWA⟩ : ∃ WA, (w.alloc (.cells #[.slice a S.groups.length c, .int .i64 F.start, .bool F.flashed] 32)) = WA := ⟨_, rfl⟩
  rw [hWA] at k1 bn HS HF
  have HK := Hid.mk' k1
  have n0 := bn.c0
  have HYES : Hid ((∀ j, j < S.groups.length → inP S p j = true → (F.g j).asp = 2) → fullB S F p = true) := fullB_iff.2
  clear h hF hf k1 bn
  go_enter Tryz.func22, Tryz.ntmps22
  go_wp2_with (rw [hWA])
  go_loopw [7, 8, 12] (fun _ _ i wr => ∃ k : Nat, k ≤ S.groups.length ∧ i = .int .i64 k ∧ Kept WA wr none ∧ ∀ j, j < k → inP S p j = true → (F.g j).asp = 2) (fun _ _ i _ => S.groups.length - (intOf i).toNat)
  case atStart => exact ⟨0, by omega, rfl, Kept.refl _ _, fun j hj => by omega⟩
  case round =>
    obtain ⟨k, hk, rfl, hkw, hno⟩ := hrel
    have HKW := Hid.mk' hkw
    have HNO := Hid.mk' hno
    clear hno
    by_cases hlt : k < S.groups.length
    · obtain ⟨bf, off, ea, hbf, q0, q1, q2⟩ := (HF.out.kept hkw).at_ (i := k) (by have := HFL.out; omega)
      subst ea
      have HEX : Hid ((inP S p k = true → (F.g k).asp = 2) → ∀ j, j < k + 1 → inP S p j = true → (F.g j).asp = 2) := ext_ful HNO.out
      have HNF : Hid (inP S p k = true → (F.g k).asp ≠ 2 → fullB S F p = false) := full_no hlt
      have kS : Kept wr (wr.alloc (.cells #[.int .u8 ((F.g k).asp : Int), .int .i64 (F.g k).since, .int .i64 (F.g k).ended] 72)) none := Kept.alloc _ _ _ _ _
      have bS := box_alloc wr (.int .u8 ((F.g k).asp : Int)) (.int .i64 (F.g k).since) (.int .i64 (F.g k).ended) 72
      have HHAS := Hid.mk' (thas_any ((HS.out.kept hkw).kept kS) hp (g := k) (by omega))
      have HKS := Hid.mk' (hkw.tr kS)
      clear hkw
      generalize F.g k = N at *
      obtain ⟨WS, hWS⟩ : ∃ WS, wr.alloc (.cells #[.int .u8 (N.asp : Int), .int .i64 N.since, .int .i64 N.ended] 72) = WS := ⟨_, rfl⟩
      rw [hWS] at kS bS HHAS HKS
      have x0 := bS.c0
      clear kS bS
      cases hz : inP S p k with
      | true =>
        rw [hz] at HHAS HNF HEX
        by_cases h2 : N.asp = 2
        · have h2b : (((N.asp : Nat) : Int) != 2) = false := by rw [h2]; rfl
          have HE := Hid.mk' (HEX.out (fun _ => h2))
          clear hz h2 HEX HNF
          go_wp2_with (first | rw [hWS] | (go_at_call 39; refine HHAS.out.mono ?_; rintro e w2 ⟨rfl, hw2⟩; have hw2 := hw2.symm; subst hw2))
          go_roundw
          case rel => exact ⟨k + 1, by omega, by go_num, HKS.out, HE.out⟩
          case measure => simp [intOf]; omega
        · have h2b : (((N.asp : Nat) : Int) != 2) = true := by simp; omega
          have HE := Hid.mk' (HNF.out rfl h2)
          clear hz h2 HEX HNF
          go_wp2_with (first | rw [hWS] | (go_at_call 39; refine HHAS.out.mono ?_; rintro e w2 ⟨rfl, hw2⟩; have hw2 := hw2.symm; subst hw2))
          go_ret
          exact ⟨by rw [HE.out]; rfl, HK.out.tr HKS.out⟩
      | false =>
        rw [hz] at HHAS HEX
        have HE := Hid.mk' (HEX.out (fun e => by cases e))
        clear hz HEX HNF
        go_wp2_with (first | rw [hWS] | (go_at_call 39; refine HHAS.out.mono ?_; rintro e w2 ⟨rfl, hw2⟩; have hw2 := hw2.symm; subst hw2))
        go_roundw
        case rel => exact ⟨k + 1, by omega, by go_num, HKS.out, HE.out⟩
        case measure => simp [intOf]; omega
    · have e : k = S.groups.length := by omega
      have HE := Hid.mk' (HYES.out (fun j hj => HNO.out j (by omega)))
      clear hkw
      go_wp2
      go_ret
      exact ⟨by rw [HE.out]; rfl, HK.out.tr HKW.out⟩

end Go.Proofs.YtchjbagipbmcoaaGreatDoor

/-
  THE CONTRACTS of turn's Asks and Full (made by a program).
-/
namespace Go.Proofs.YtchjbagipbmcoaaGreatDoor
open Go.RowKit Go.Lib Go.Deep
set_option linter.unusedVariables false
set_option linter.unusedSimpArgs false


/-- What Asks tells. -/
def askE (S : St) (p : Int) : Int := if siteB S = false then 50 else if phB S p = true then 0 else 2
def askL (S : St) (p : Int) : List Nat := if askE S p = 0 then askV S p.toNat else []
theorem askE_ok {S : St} {p : Int} (h : askE S p = 0) : siteB S = true ∧ phB S p = true := by
  unfold askE at h
  cases hs : siteB S with
  | false => rw [hs, if_pos rfl] at h; cases h
  | true =>
    rw [hs, if_neg (by decide)] at h
    cases hp : phB S p with
    | false => rw [hp, if_neg (by decide)] at h; cases h
    | true => exact ⟨rfl, rfl⟩
theorem askV_lt (S : St) (p : Nat) : ∀ x ∈ askV S p, x < 256 := by
  intro x hx
  simp only [askV, List.mem_map] at hx
  obtain ⟨i, _, rfl⟩ := hx
  split <;> omega
set_option maxRecDepth 100000 in
set_option maxHeartbeats 2000000 in
theorem tasks_no {X : Sa} {S : St} {w : World} (h : Sat w X S) (hT : Tabb w) (p : Int) (hs : siteB S = false) : Calls Tryz.prog 7 #[siteV X S, .int .i64 p] w fun e w' => e = .returned (.tuple #[.slice none 0 0, .int .i64 50]) ∧ Kept w w' none := by
  have hce : checkE S = 50 := by unfold checkE; rw [hs]; rfl
  obtain ⟨WA, hWA⟩ : ∃ WA, (w.alloc (.cells #[.int .i64 S.id, .slice X.g S.groups.length X.gc, .slice X.a S.apart.length X.ac, .slice X.b S.between.length X.bc, .slice X.p S.phases.length X.pc, .slice X.e S.eyes.length X.ec, .int .i64 S.watch, .int .i64 S.feed, .int .i64 S.heal, .int .i64 S.low, .int .i64 S.high, .slice X.l S.plans.length X.lc] 29)) = WA := ⟨_, rfl⟩
  obtain ⟨HSB, HK, HS, s0_, s1_, s2_, s3_, s4_, s5_, s6_, s7_, s8_, s9_, s10_, s11_⟩ := hd1 h hWA
  have HT := Hid.mk' (hT.kept HK.out)
  have hK0 := Kept.refl WA none
  clear h hT
  go_enter Tryz.func7, Tryz.ntmps7
  go_wp2_with (first | rw [hWA] | (go_at_call 18; have hx := check_any HS.out HT.out; rw [hce] at hx; refine hx.mono ?_; rintro e wC ⟨rfl, hkC⟩; have hKC : Kept WA wC none := hkC; clear hx))
  go_ret2
  exact ⟨rfl, HK.out.tr hkC⟩
set_option maxRecDepth 100000 in
set_option maxHeartbeats 2000000 in
theorem tasks_arg {X : Sa} {S : St} {w : World} (h : Sat w X S) (hT : Tabb w) (p : Int) (hs : siteB S = true) (hph : phB S p = false) : Calls Tryz.prog 7 #[siteV X S, .int .i64 p] w fun e w' => e = .returned (.tuple #[.slice none 0 0, .int .i64 2]) ∧ Kept w w' none := by
  have hce : checkE S = 0 := by unfold checkE; rw [hs]; rfl
  obtain ⟨WA, hWA⟩ : ∃ WA, (w.alloc (.cells #[.int .i64 S.id, .slice X.g S.groups.length X.gc, .slice X.a S.apart.length X.ac, .slice X.b S.between.length X.bc, .slice X.p S.phases.length X.pc, .slice X.e S.eyes.length X.ec, .int .i64 S.watch, .int .i64 S.feed, .int .i64 S.heal, .int .i64 S.low, .int .i64 S.high, .slice X.l S.plans.length X.lc] 29)) = WA := ⟨_, rfl⟩
  obtain ⟨HSB, HK, HS, s0_, s1_, s2_, s3_, s4_, s5_, s6_, s7_, s8_, s9_, s10_, s11_⟩ := hd1 h hWA
  have HT := Hid.mk' (hT.kept HK.out)
  have hK0 := Kept.refl WA none
  clear h hT
  go_enter Tryz.func7, Tryz.ntmps7
  go_wp2_with (first | rw [hWA] | (have hgo := hKC; clear hgo; go_at_call 19; have hx := tisp_any (HSB.out.kept hKC) p; rw [hph] at hx; refine hx.mono ?_; rintro e wI ⟨rfl, hwI⟩; have hwI := hwI.symm; subst hwI; clear hx) | (go_at_call 18; have hx := check_any HS.out HT.out; rw [hce] at hx; refine hx.mono ?_; rintro e wC ⟨rfl, hkC⟩; have hKC : Kept WA wC none := hkC; clear hx))
  go_ret2
  exact ⟨rfl, HK.out.tr hkC⟩
set_option maxRecDepth 100000 in
set_option maxHeartbeats 2000000 in
theorem tasks_go {X : Sa} {S : St} {w : World} (h : Sat w X S) (hT : Tabb w) (p : Nat) (hs : siteB S = true) (hp : p < S.phases.length) : Calls Tryz.prog 7 #[siteV X S, .int .i64 (p : Int)] w fun e w' => ∃ b, e = .returned (.tuple #[.slice (some ⟨b, 0, none⟩) S.groups.length S.groups.length, .int .i64 0]) ∧ w.heap.size ≤ b ∧ w'.rowIs b 5 S.groups.length (fun i => .int .u8 ((lg (askV S p) i : Nat) : Int)) ∧ Kept w w' none := by
  have hce : checkE S = 0 := by unfold checkE; rw [hs]; rfl
  have hng := (span_may hs).base.sh.ok.ng
  have hph : phB S (p : Int) = true := by unfold phB; simp; omega
  obtain ⟨WA, hWA⟩ : ∃ WA, (w.alloc (.cells #[.int .i64 S.id, .slice X.g S.groups.length X.gc, .slice X.a S.apart.length X.ac, .slice X.b S.between.length X.bc, .slice X.p S.phases.length X.pc, .slice X.e S.eyes.length X.ec, .int .i64 S.watch, .int .i64 S.feed, .int .i64 S.heal, .int .i64 S.low, .int .i64 S.high, .slice X.l S.plans.length X.lc] 29)) = WA := ⟨_, rfl⟩
  obtain ⟨HSB, HK, HS, s0_, s1_, s2_, s3_, s4_, s5_, s6_, s7_, s8_, s9_, s10_, s11_⟩ := hd1 h hWA
  have HT := Hid.mk' (hT.kept HK.out)
  have hK0 := Kept.refl WA none
  clear h hT
  go_enter Tryz.func7, Tryz.ntmps7
  go_wp2_with (first | rw [hWA] | (have hgo := hKI; clear hgo; go_at_call 20; refine (task_any (HSB.out.kept hKI) (by omega) hp).mono ?_; rintro e wT ⟨rfl, hrT, hkT⟩) | (have hgo := hKC; clear hgo; go_at_call 19; have hx := tisp_any (HSB.out.kept hKC) (p : Int); rw [hph] at hx; refine hx.mono ?_; rintro e wI ⟨rfl, hwI⟩; have hwI := hwI.symm; subst hwI; have hKI := hKC; clear hx) | (go_at_call 18; have hx := check_any HS.out HT.out; rw [hce] at hx; refine hx.mono ?_; rintro e wC ⟨rfl, hkC⟩; have hKC : Kept WA wC none := hkC; clear hx))
  go_ret2
  exact ⟨_, rfl, (HK.out.tr hKC).size, hrT, (HK.out.tr hKC).tr hkT⟩
theorem tasks_any {X : Sa} {S : St} {w : World} (h : Sat w X S) (hT : Tabb w) (p : Int) : Calls Tryz.prog 7 #[siteV X S, .int .i64 p] w fun e w' => ∃ a c, e = .returned (.tuple #[.slice a (askL S p).length c, .int .i64 (askE S p)]) ∧ By w' a (askL S p).length (askL S p) ∧ Kept w w' none := by
  cases hs : siteB S with
  | false =>
    have e1 : askE S p = 50 := by unfold askE; rw [hs]; rfl
    have e2 : askL S p = [] := by unfold askL; rw [e1]; rfl
    rw [e1, e2]
    refine (tasks_no h hT p hs).mono ?_
    rintro e w' ⟨rfl, hk⟩
    exact ⟨none, 0, rfl, By.nil _ _, hk⟩
  | true =>
    cases hph : phB S p with
    | false =>
      have e1 : askE S p = 2 := by unfold askE; rw [hs, hph]; rfl
      have e2 : askL S p = [] := by unfold askL; rw [e1]; rfl
      rw [e1, e2]
      refine (tasks_arg h hT p hs hph).mono ?_
      rintro e w' ⟨rfl, hk⟩
      exact ⟨none, 0, rfl, By.nil _ _, hk⟩
    | true =>
      have e1 : askE S p = 0 := by unfold askE; rw [hs, hph]; rfl
      obtain ⟨q, rfl, hq⟩ := phB_yes hph
      have e2 : askL S (q : Int) = askV S q := by unfold askL; rw [e1]; rfl
      have hng := (span_may hs).base.sh.ok.ng
      rw [e1, e2, askV_len]
      refine (tasks_go h hT q hs hq).mono ?_
      rintro e w' ⟨b, rfl, hb, hr, hk⟩
      exact ⟨some ⟨b, 0, none⟩, _, rfl, By.row hr (askV S q) S.groups.length (Nat.le_refl _) (askV_len S q) (by omega) (askV_lt S q) (fun i hi => rfl), hk⟩

/-! ### Full -/
/-- What Full tells. -/
def fulE (S : St) (F : Sf) (p : Int) : Int := if siteB S = false then 50 else if F.groups.length = S.groups.length then (if phB S p = true then 0 else 2) else 8
def fulV (S : St) (F : Sf) (p : Int) : Bool := if fulE S F p = 0 then fullB S F p.toNat else false
set_option maxRecDepth 100000 in
set_option maxHeartbeats 2000000 in
theorem tfull_no {X : Sa} {S : St} {w : World} (h : Sat w X S) (hT : Tabb w) {a : Option Addr} {c : Nat} {F : Sf} (hF : SafeAt w a c F) (p : Int) (hs : siteB S = false) : Calls Tryz.prog 9 #[siteV X S, safeV a c F, .int .i64 p] w fun e w' => e = .returned (.tuple #[.bool false, .int .i64 50]) ∧ Kept w w' none := by
  have hce : checkE S = 50 := by unfold checkE; rw [hs]; rfl
  obtain ⟨WA, hWA⟩ : ∃ WA, ((w.alloc (.cells #[.int .i64 S.id, .slice X.g S.groups.length X.gc, .slice X.a S.apart.length X.ac, .slice X.b S.between.length X.bc, .slice X.p S.phases.length X.pc, .slice X.e S.eyes.length X.ec, .int .i64 S.watch, .int .i64 S.feed, .int .i64 S.heal, .int .i64 S.low, .int .i64 S.high, .slice X.l S.plans.length X.lc] 29)).alloc (.cells #[.slice a F.groups.length c, .int .i64 F.start, .bool F.flashed] 32)) = WA := ⟨_, rfl⟩
  obtain ⟨HSB, HBN, HSZ, HK, HS, HF, n0_, n1_, n2_, s0_, s1_, s2_, s3_, s4_, s5_, s6_, s7_, s8_, s9_, s10_, s11_⟩ := hd2 h hF hWA
  have HT := Hid.mk' (hT.kept HK.out)
  have hK0 := Kept.refl WA none
  clear h hT hF
  go_enter Tryz.func9, Tryz.ntmps9
  go_wp2_with (first | rw [hWA] | (go_at_call 18; have hx := check_any HS.out HT.out; rw [hce] at hx; refine hx.mono ?_; rintro e wC ⟨rfl, hkC⟩; have hKC : Kept WA wC none := hkC; clear hx))
  go_ret2
  exact ⟨rfl, HK.out.tr hkC⟩
set_option maxRecDepth 100000 in
set_option maxHeartbeats 2000000 in
theorem tfull_bad {X : Sa} {S : St} {w : World} (h : Sat w X S) (hT : Tabb w) {a : Option Addr} {c : Nat} {F : Sf} (hF : SafeAt w a c F) (p : Int) (hs : siteB S = true) (hl : F.groups.length ≠ S.groups.length) : Calls Tryz.prog 9 #[siteV X S, safeV a c F, .int .i64 p] w fun e w' => e = .returned (.tuple #[.bool false, .int .i64 8]) ∧ Kept w w' none := by
  have hce : checkE S = 0 := by unfold checkE; rw [hs]; rfl
  have hlb : ((F.groups.length : Int) != (S.groups.length : Int)) = true := by simp; omega
  clear hl
  obtain ⟨WA, hWA⟩ : ∃ WA, ((w.alloc (.cells #[.int .i64 S.id, .slice X.g S.groups.length X.gc, .slice X.a S.apart.length X.ac, .slice X.b S.between.length X.bc, .slice X.p S.phases.length X.pc, .slice X.e S.eyes.length X.ec, .int .i64 S.watch, .int .i64 S.feed, .int .i64 S.heal, .int .i64 S.low, .int .i64 S.high, .slice X.l S.plans.length X.lc] 29)).alloc (.cells #[.slice a F.groups.length c, .int .i64 F.start, .bool F.flashed] 32)) = WA := ⟨_, rfl⟩
  obtain ⟨HSB, HBN, HSZ, HK, HS, HF, n0_, n1_, n2_, s0_, s1_, s2_, s3_, s4_, s5_, s6_, s7_, s8_, s9_, s10_, s11_⟩ := hd2 h hF hWA
  have HT := Hid.mk' (hT.kept HK.out)
  have hK0 := Kept.refl WA none
  clear h hT hF
  go_enter Tryz.func9, Tryz.ntmps9
  go_wp2_with (first | rw [hWA] | (go_at_call 18; have hx := check_any HS.out HT.out; rw [hce] at hx; refine hx.mono ?_; rintro e wC ⟨rfl, hkC⟩; have hKC : Kept WA wC none := hkC; clear hx))
  go_ret2
  exact ⟨rfl, HK.out.tr hkC⟩
set_option maxRecDepth 100000 in
set_option maxHeartbeats 2000000 in
theorem tfull_arg {X : Sa} {S : St} {w : World} (h : Sat w X S) (hT : Tabb w) {a : Option Addr} {c : Nat} {F : Sf} (hF : SafeAt w a c F) (p : Int) (hs : siteB S = true) (hl : F.groups.length = S.groups.length) (hph : phB S p = false) : Calls Tryz.prog 9 #[siteV X S, safeV a c F, .int .i64 p] w fun e w' => e = .returned (.tuple #[.bool false, .int .i64 2]) ∧ Kept w w' none := by
  have hce : checkE S = 0 := by unfold checkE; rw [hs]; rfl
  have hlb : ((F.groups.length : Int) != (S.groups.length : Int)) = false := by simp; omega
  clear hl
  obtain ⟨WA, hWA⟩ : ∃ WA, ((w.alloc (.cells #[.int .i64 S.id, .slice X.g S.groups.length X.gc, .slice X.a S.apart.length X.ac, .slice X.b S.between.length X.bc, .slice X.p S.phases.length X.pc, .slice X.e S.eyes.length X.ec, .int .i64 S.watch, .int .i64 S.feed, .int .i64 S.heal, .int .i64 S.low, .int .i64 S.high, .slice X.l S.plans.length X.lc] 29)).alloc (.cells #[.slice a F.groups.length c, .int .i64 F.start, .bool F.flashed] 32)) = WA := ⟨_, rfl⟩
  obtain ⟨HSB, HBN, HSZ, HK, HS, HF, n0_, n1_, n2_, s0_, s1_, s2_, s3_, s4_, s5_, s6_, s7_, s8_, s9_, s10_, s11_⟩ := hd2 h hF hWA
  have HT := Hid.mk' (hT.kept HK.out)
  have hK0 := Kept.refl WA none
  clear h hT hF
  go_enter Tryz.func9, Tryz.ntmps9
  go_wp2_with (first | rw [hWA] | (have hgo := hKC; clear hgo; go_at_call 19; have hx := tisp_any (HSB.out.kept hKC) p; rw [hph] at hx; refine hx.mono ?_; rintro e wI ⟨rfl, hwI⟩; have hwI := hwI.symm; subst hwI; clear hx) | (go_at_call 18; have hx := check_any HS.out HT.out; rw [hce] at hx; refine hx.mono ?_; rintro e wC ⟨rfl, hkC⟩; have hKC : Kept WA wC none := hkC; clear hx))
  go_ret2
  exact ⟨rfl, HK.out.tr hkC⟩
set_option maxRecDepth 100000 in
set_option maxHeartbeats 2000000 in
theorem tfull_go {X : Sa} {S : St} {w : World} (h : Sat w X S) (hT : Tabb w) {a : Option Addr} {c : Nat} {F : Sf} (hF : SafeAt w a c F) (p : Nat) (hs : siteB S = true) (hl : F.groups.length = S.groups.length) (hp : p < S.phases.length) : Calls Tryz.prog 9 #[siteV X S, safeV a c F, .int .i64 (p : Int)] w fun e w' => e = .returned (.tuple #[.bool (fullB S F p), .int .i64 0]) ∧ Kept w w' none := by
  have hce : checkE S = 0 := by unfold checkE; rw [hs]; rfl
  have hng := (span_may hs).base.sh.ok.ng
  have hph : phB S (p : Int) = true := by unfold phB; simp; omega
  have hlb : ((F.groups.length : Int) != (S.groups.length : Int)) = false := by simp; omega
  have HFL := Hid.mk' hl
  clear hl
  obtain ⟨fv, hfv⟩ : ∃ fv, fullB S F p = fv := ⟨_, rfl⟩
  rw [hfv]
  have HFV := Hid.mk' hfv
  clear hfv
  obtain ⟨WA, hWA⟩ : ∃ WA, ((w.alloc (.cells #[.int .i64 S.id, .slice X.g S.groups.length X.gc, .slice X.a S.apart.length X.ac, .slice X.b S.between.length X.bc, .slice X.p S.phases.length X.pc, .slice X.e S.eyes.length X.ec, .int .i64 S.watch, .int .i64 S.feed, .int .i64 S.heal, .int .i64 S.low, .int .i64 S.high, .slice X.l S.plans.length X.lc] 29)).alloc (.cells #[.slice a F.groups.length c, .int .i64 F.start, .bool F.flashed] 32)) = WA := ⟨_, rfl⟩
  obtain ⟨HSB, HBN, HSZ, HK, HS, HF, n0_, n1_, n2_, s0_, s1_, s2_, s3_, s4_, s5_, s6_, s7_, s8_, s9_, s10_, s11_⟩ := hd2 h hF hWA
  have HT := Hid.mk' (hT.kept HK.out)
  have hK0 := Kept.refl WA none
  clear h hT hF
  go_enter Tryz.func9, Tryz.ntmps9
  go_wp2_with (first | rw [hWA] | (have hgo := hKI; clear hgo; go_at_call 22; have hx := tful_any (HSB.out.kept hKI) (by omega) hp (HF.out.kept hKI) HFL.out; rw [HFV.out, ← HFL.out] at hx; refine hx.mono ?_; rintro e wT ⟨rfl, hkT⟩; clear hx) | (have hgo := hKC; clear hgo; go_at_call 19; have hx := tisp_any (HSB.out.kept hKC) (p : Int); rw [hph] at hx; refine hx.mono ?_; rintro e wI ⟨rfl, hwI⟩; have hwI := hwI.symm; subst hwI; have hKI := hKC; clear hx) | (go_at_call 18; have hx := check_any HS.out HT.out; rw [hce] at hx; refine hx.mono ?_; rintro e wC ⟨rfl, hkC⟩; have hKC : Kept WA wC none := hkC; clear hx))
  go_ret2
  exact ⟨rfl, (HK.out.tr hKC).tr hkT⟩
theorem tfull_any {X : Sa} {S : St} {w : World} (h : Sat w X S) (hT : Tabb w) {a : Option Addr} {c : Nat} {F : Sf} (hF : SafeAt w a c F) (p : Int) : Calls Tryz.prog 9 #[siteV X S, safeV a c F, .int .i64 p] w fun e w' => e = .returned (.tuple #[.bool (fulV S F p), .int .i64 (fulE S F p)]) ∧ Kept w w' none := by
  cases hs : siteB S with
  | false =>
    have e1 : fulE S F p = 50 := by unfold fulE; rw [hs]; rfl
    have e2 : fulV S F p = false := by unfold fulV; rw [e1]; rfl
    rw [e1, e2]
    exact tfull_no h hT hF p hs
  | true =>
    by_cases hl : F.groups.length = S.groups.length
    · cases hph : phB S p with
      | false =>
        have e1 : fulE S F p = 2 := by unfold fulE; rw [hs, hph, if_neg (by decide), if_pos hl]; rfl
        have e2 : fulV S F p = false := by unfold fulV; rw [e1]; rfl
        rw [e1, e2]
        exact tfull_arg h hT hF p hs hl hph
      | true =>
        have e1 : fulE S F p = 0 := by unfold fulE; rw [hs, hph, if_neg (by decide), if_pos hl]; rfl
        obtain ⟨q, rfl, hq⟩ := phB_yes hph
        have e2 : fulV S F (q : Int) = fullB S F q := by unfold fulV; rw [e1]; rfl
        rw [e1, e2]
        exact tfull_go h hT hF q hs hl hq
    · have e1 : fulE S F p = 8 := by unfold fulE; rw [hs, if_neg (by decide), if_neg hl]
      have e2 : fulV S F p = false := by unfold fulV; rw [e1]; rfl
      rw [e1, e2]
      exact tfull_bad h hT hF p hs hl

end Go.Proofs.YtchjbagipbmcoaaGreatDoor

/-
  THE CONTRACT of turn's Worst (made by a program).
-/
namespace Go.Proofs.YtchjbagipbmcoaaGreatDoor
open Go.RowKit Go.Lib Go.Deep
set_option linter.unusedVariables false
set_option linter.unusedSimpArgs false


theorem mxB_max {b : Int} (hb : 0 ≤ b) (f : Nat → Int) : ∀ n, mxB b f n = max b (mxB 0 f n)
  | 0 => by show b = max b 0; omega
  | n + 1 => by rw [mxB_succ, mxB_succ, mxB_max hb f n]; omega
theorem mxB_le {b M : Int} {f : Nat → Int} (hb : b ≤ M) : ∀ {n : Nat}, (∀ i, i < n → f i ≤ M) → mxB b f n ≤ M
  | 0, _ => hb
  | n + 1, h => by
    rw [mxB_succ]
    have h1 := mxB_le (b := b) (f := f) hb (n := n) (fun i hi => h i (by omega))
    have h2 := h n (by omega)
    omega
theorem tmax_if (a b : Int) : max a b = if a < b then b else a := by split <;> omega
abbrev gm (S : St) (k : Nat) : Int := mxB 0 (fun i => (S.gr i).min) k
abbrev gy (S : St) (k : Nat) : Int := mxB 0 (fun i => (S.gr i).yellow) k
theorem wor_rng {S : St} (hs : siteB S = true) {k : Nat} (hk : k ≤ S.groups.length) : 0 ≤ gm S k ∧ gm S k ≤ 1048576 ∧ 0 ≤ gy S k ∧ gy S k ≤ 1048576 := by
  have ht := tur_facts hs
  exact ⟨mxB_base _ _ _, mxB_le (by omega) (fun i hi => (ht.min i (by omega)).2), mxB_base _ _ _, mxB_le (by omega) (fun i hi => (ht.yel i (by omega)).2)⟩
theorem wor_is {S : St} (hs : siteB S = true) : worT S = gm S S.groups.length + max (worstM S) (gy S S.groups.length) + 2 := by
  unfold worT minM lonM
  rw [mxB_max (tur_facts hs).w0]
theorem wor_bd {S : St} (hs : siteB S = true) : 2 ≤ worT S ∧ worT S ≤ 2097154 := by
  have h1 := wor_rng hs (Nat.le_refl S.groups.length)
  have ht := tur_facts hs
  have := ht.w0
  have := ht.w1
  rw [wor_is hs]
  omega
set_option maxRecDepth 100000 in
set_option maxHeartbeats 2000000 in
theorem twor_no {X : Sa} {S : St} {w : World} (h : Sat w X S) (hT : Tabb w) (hs : siteB S = false) : Calls Tryz.prog 11 #[siteV X S] w fun e w' => e = .returned (.tuple #[.int .i64 0, .int .i64 50]) ∧ Kept w w' none := by
  obtain ⟨WA, hWA⟩ : ∃ WA, (w.alloc (.cells #[.int .i64 S.id, .slice X.g S.groups.length X.gc, .slice X.a S.apart.length X.ac, .slice X.b S.between.length X.bc, .slice X.p S.phases.length X.pc, .slice X.e S.eyes.length X.ec, .int .i64 S.watch, .int .i64 S.feed, .int .i64 S.heal, .int .i64 S.low, .int .i64 S.high, .slice X.l S.plans.length X.lc] 29)) = WA := ⟨_, rfl⟩
  obtain ⟨HSB, HK, HS, s0_, s1_, s2_, s3_, s4_, s5_, s6_, s7_, s8_, s9_, s10_, s11_⟩ := hd1 h hWA
  have HT := Hid.mk' (hT.kept HK.out)
  have hK0 := Kept.refl WA none
  clear h hT
  go_enter Tryz.func11, Tryz.ntmps11
  go_wp2_with (first | rw [hWA] | (go_at_call 24; refine (great_no HS.out HT.out hs).mono ?_; rintro e wC ⟨rfl, hkC⟩))
  go_ret2
  exact ⟨rfl, HK.out.tr hkC⟩
set_option maxRecDepth 100000 in
set_option maxHeartbeats 2000000 in
theorem twor_yes {X : Sa} {S : St} {w : World} (h : Sat w X S) (hT : Tabb w) (hs : siteB S = true) : Calls Tryz.prog 11 #[siteV X S] w fun e w' => e = .returned (.tuple #[.int .i64 (worT S), .int .i64 0]) ∧ Kept w w' none := by
  have hng := (span_may hs).base.sh.ok.ng
  have hgr := h.gk.room
  have HR := Hid.mk' (fun k hk => wor_rng (S := S) hs (k := k) hk)
  have hw0 := (tur_facts hs).w0
  have hw1 := (tur_facts hs).w1
  have HWI := Hid.mk' (wor_is hs)
  obtain ⟨WA, hWA⟩ : ∃ WA, (w.alloc (.cells #[.int .i64 S.id, .slice X.g S.groups.length X.gc, .slice X.a S.apart.length X.ac, .slice X.b S.between.length X.bc, .slice X.p S.phases.length X.pc, .slice X.e S.eyes.length X.ec, .int .i64 S.watch, .int .i64 S.feed, .int .i64 S.heal, .int .i64 S.low, .int .i64 S.high, .slice X.l S.plans.length X.lc] 29)) = WA := ⟨_, rfl⟩
  obtain ⟨HSB, HK, HS, s0_, s1_, s2_, s3_, s4_, s5_, s6_, s7_, s8_, s9_, s10_, s11_⟩ := hd1 h hWA
  have HT := Hid.mk' (hT.kept HK.out)
  have hK0 := Kept.refl WA none
  clear h hT
  go_enter Tryz.func11, Tryz.ntmps11
  go_wp2_with (first | rw [hWA] | (go_at_call 24; refine (great_yes HS.out HT.out hs).mono ?_; rintro e wC ⟨rfl, hkC⟩; have hKC : Kept WA wC none := hkC))
  have HKC := Hid.mk' hKC
  clear hkC hKC
  go_loopw [6, 7, 9, 21] (fun g y _ i wr => ∃ k : Nat, k ≤ S.groups.length ∧ i = .int .i64 k ∧ g = .int .i64 (gm S k) ∧ y = .int .i64 (gy S k) ∧ Kept WA wr none) (fun _ _ _ i _ => S.groups.length - (intOf i).toNat)
  case atStart => exact ⟨0, by omega, rfl, rfl, rfl, HKC.out⟩
  case round =>
    obtain ⟨k, hk, rfl, rfl, rfl, hkw⟩ := hrel
    have HKW := Hid.mk' hkw
    by_cases hlt : k < S.groups.length
    · obtain ⟨bg, og, eg, q0, q1, q2⟩ := (HS.out.kept hkw).grAt hlt
      have c1 := (HSB.out.kept hkw).c1
      rw [eg] at *
      have hbl := block_lt q0
      have kS : Kept wr (wr.alloc (.cells #[.int .u8 ((S.gr k).kind : Int), .int .i64 (S.gr k).min, .int .i64 (S.gr k).yellow] 65)) none := Kept.alloc _ _ _ _ _
      have bS := box_alloc wr (.int .u8 ((S.gr k).kind : Int)) (.int .i64 (S.gr k).min) (.int .i64 (S.gr k).yellow) 65
      have HKS := Hid.mk' (hkw.tr kS)
      have HM : Hid (gm S (k + 1) = if gm S k < (S.gr k).min then (S.gr k).min else gm S k) := tmax_if _ _
      have HY : Hid (gy S (k + 1) = if gy S k < (S.gr k).yellow then (S.gr k).yellow else gy S k) := tmax_if _ _
      clear hkw c1
      clear s0_ s1_ s2_ s3_ s4_ s5_ s6_ s7_ s8_ s9_ s10_ s11_
      generalize S.gr k = N at *
      generalize gm S k = A at *
      generalize gy S k = Y at *
      obtain ⟨WS, hWS⟩ : ∃ WS, wr.alloc (.cells #[.int .u8 (N.kind : Int), .int .i64 N.min, .int .i64 N.yellow] 65) = WS := ⟨_, rfl⟩
      rw [hWS] at kS bS HKS
      have x1 : ∀ m, (WS.drewN m).cell? ⟨wr.heap.size, 1, none⟩ = some (.int .i64 N.min) := fun m => (bS.kept (Kept.drewN _ m _)).c1
      have x2 : ∀ m, (WS.drewN m).cell? ⟨wr.heap.size, 2, none⟩ = some (.int .i64 N.yellow) := fun m => (bS.kept (Kept.drewN _ m _)).c2
      have x1' := bS.c1
      have x2' := bS.c2
      clear kS bS
      by_cases ha : A < N.min
      · have HM1 : Hid (gm S (k + 1) = N.min) := by show _ = _; rw [HM.out, if_pos ha]
        by_cases hy : Y < N.yellow
        · have HY1 : Hid (gy S (k + 1) = N.yellow) := by show _ = _; rw [HY.out, if_pos hy]
          go_wp2_with (rw [hWS])
          go_quiet (fail)
          go_wp2
          go_roundw
          case rel => exact ⟨k + 1, by omega, by go_num, by rw [HM1.out], by rw [HY1.out], HKS.out.tr (Kept.drewN _ _ _)⟩
          case measure => simp [intOf]; omega
        · have HY1 : Hid (gy S (k + 1) = Y) := by show _ = _; rw [HY.out, if_neg hy]
          go_wp2_with (rw [hWS])
          go_quiet (fail)
          go_wp2
          go_roundw
          case rel => exact ⟨k + 1, by omega, by go_num, by rw [HM1.out], by rw [HY1.out], HKS.out.tr (Kept.drewN _ _ _)⟩
          case measure => simp [intOf]; omega
      · have HM1 : Hid (gm S (k + 1) = A) := by show _ = _; rw [HM.out, if_neg ha]
        by_cases hy : Y < N.yellow
        · have HY1 : Hid (gy S (k + 1) = N.yellow) := by show _ = _; rw [HY.out, if_pos hy]
          go_wp2_with (rw [hWS])
          go_quiet (fail)
          go_wp2
          go_roundw
          case rel => exact ⟨k + 1, by omega, by go_num, by rw [HM1.out], by rw [HY1.out], HKS.out.tr (Kept.drewN _ _ _)⟩
          case measure => simp [intOf]; omega
        · have HY1 : Hid (gy S (k + 1) = Y) := by show _ = _; rw [HY.out, if_neg hy]
          go_wp2_with (rw [hWS])
          go_quiet (fail)
          go_wp2
          go_roundw
          case rel => exact ⟨k + 1, by omega, by go_num, by rw [HM1.out], by rw [HY1.out], HKS.out.tr (Kept.drewN _ _ _)⟩
          case measure => simp [intOf]; omega
    · have e : k = S.groups.length := by omega
      subst e
      obtain ⟨r1, r2, r3, r4⟩ := HR.out _ (Nat.le_refl _)
      clear hkw
      generalize gm S S.groups.length = A at *
      generalize gy S S.groups.length = Y at *
      generalize worstM S = G at *
      by_cases hy : G < Y
      · have HW : Hid (worT S = A + Y + 2) := by show _ = _; rw [HWI.out, tmax_if, if_pos hy]
        go_wp2
        go_ret2
        exact ⟨by rw [HW.out]; rfl, HK.out.tr HKW.out⟩
      · have HW : Hid (worT S = A + G + 2) := by show _ = _; rw [HWI.out, tmax_if, if_neg hy]
        go_wp2
        go_ret2
        exact ⟨by rw [HW.out]; rfl, HK.out.tr HKW.out⟩

/-- What Worst tells. -/
def worE (S : St) : Int := if siteB S = false then 50 else 0
def worV (S : St) : Int := if siteB S = false then 0 else worT S
theorem twor_any {X : Sa} {S : St} {w : World} (h : Sat w X S) (hT : Tabb w) : Calls Tryz.prog 11 #[siteV X S] w fun e w' => e = .returned (.tuple #[.int .i64 (worV S), .int .i64 (worE S)]) ∧ Kept w w' none := by
  cases hs : siteB S with
  | false =>
    rw [show worV S = 0 by unfold worV; rw [hs]; rfl, show worE S = 50 by unfold worE; rw [hs]; rfl]
    exact twor_no h hT hs
  | true =>
    rw [show worV S = worT S by unfold worV; rw [hs]; rfl, show worE S = 0 by unfold worE; rw [hs]; rfl]
    exact twor_yes h hT hs

end Go.Proofs.YtchjbagipbmcoaaGreatDoor

/-
  THE DOCUMENT'S OWN small answers of layer 8: Apart, Between, Great, flashes, meet (made by a program).
-/
namespace Go.Proofs.YtchjbagipbmcoaaGreatDoor
open Go.RowKit Go.Lib Go.Deep
set_option linter.unusedVariables false
set_option linter.unusedSimpArgs false

set_option maxRecDepth 100000 in
set_option maxHeartbeats 2000000 in
theorem rap8_any {X : Sa} {S : St} {w : World} (h : Sat w X S) (a b : Nat) (ha : a < S.apart.length) (hb : b < 32) : Calls Tryz.prog 53 #[siteV X S, .int .i64 (a : Int), .int .i64 (b : Int)] w fun e w' => e = .returned (.bool ((S.ap a).testBit b)) ∧ Kept w w' none := by
  have hbit := has_bit (S.ap a) b (h.apr a)
  have hkA : Kept w (w.alloc (.cells #[.int .i64 S.id, .slice X.g S.groups.length X.gc, .slice X.a S.apart.length X.ac, .slice X.b S.between.length X.bc, .slice X.p S.phases.length X.pc, .slice X.e S.eyes.length X.ec, .int .i64 S.watch, .int .i64 S.feed, .int .i64 S.heal, .int .i64 S.low, .int .i64 S.high, .slice X.l S.plans.length X.lc] 29)) none := Kept.alloc _ _ _ _ _
  have HK := Hid.mk' hkA
  obtain ⟨xg, xgc, xa, xac, xb, xbc, xp, xpc, xe, xec, xl, xlc⟩ := X
  obtain ⟨ba, oa, ea, hca⟩ := h.apAt (n := S.apart.length) (by omega) (by omega)
  dsimp only at ea
  subst ea
  have ka := hca a ha
  have hba := block_lt ka
  have har := h.apr a
  have hak := h.ak.max
  have hal := h.ak.room
  have hbu : ((b : Int) % 18446744073709551616) = (b : Int) := by omega
  clear h hkA hca
  generalize S.ap a = P at *
  have HBIT := Hid.mk' hbit
  clear hbit
  go_enter Tryz.func53, Tryz.ntmps53
  go_wp2
  go_ret
  exact ⟨by rw [← HBIT.out]; rfl, HK.out⟩
set_option maxRecDepth 100000 in
set_option maxHeartbeats 2000000 in
theorem rbt8_any {X : Sa} {S : St} {w : World} (h : Sat w X S) (hSh : Shape S) {a b : Nat} (ha : a < S.groups.length) (hb : b < S.groups.length) : Calls Tryz.prog 54 #[siteV X S, .int .i64 (a : Int), .int .i64 (b : Int)] w fun e w' => e = .returned (.int .i64 (S.bt a b)) ∧ Kept w w' none := by
  have hkA : Kept w (w.alloc (.cells #[.int .i64 S.id, .slice X.g S.groups.length X.gc, .slice X.a S.apart.length X.ac, .slice X.b S.between.length X.bc, .slice X.p S.phases.length X.pc, .slice X.e S.eyes.length X.ec, .int .i64 S.watch, .int .i64 S.feed, .int .i64 S.heal, .int .i64 S.low, .int .i64 S.high, .slice X.l S.plans.length X.lc] 29)) none := Kept.alloc _ _ _ _ _
  have HK := Hid.mk' hkA
  obtain ⟨xg, xgc, xa, xac, xb, xbc, xp, xpc, xe, xec, xl, xlc⟩ := X
  obtain ⟨bb, ob, br, or, c, eb, kb, hcr, kr⟩ := h.btAt hSh ha hb
  dsimp only at eb
  subst eb
  have hab : (a : Int) < (S.between.length : Int) := by have := hSh.ok.nb; omega
  have hbb := block_lt kb
  have hbr := block_lt kr
  have hbc := h.b.cap.room
  clear h hkA hSh
  generalize S.bt a b = v at *
  go_enter Tryz.func54, Tryz.ntmps54
  go_wp2
  go_ret
  exact ⟨rfl, HK.out⟩

/-! ### flashes -/
def cntN (L : List Nat) (x : Nat) : Nat := (L.filter (fun y => y == x)).length
theorem cntN_le (L : List Nat) (x : Nat) : cntN L x ≤ L.length := List.length_filter_le ..
theorem cnt_all {L : List Nat} {x : Nat} : cntN L x = L.length ↔ allIs L x = true := by
  unfold cntN allIs
  rw [List.length_filter_eq_length_iff, List.all_eq_true]
theorem cnt_pos {L : List Nat} {x : Nat} : 0 < cntN L x ↔ hasIt L x = true := by
  unfold cntN hasIt
  rw [List.length_filter_pos_iff, List.any_eq_true]
theorem cnt_take {L : List Nat} {x k : Nat} (h : k < L.length) : cntN (L.take (k + 1)) x = cntN (L.take k) x + (if lg L k = x then 1 else 0) := by
  unfold cntN
  rw [List.take_succ_eq_append_getElem h, List.filter_append, List.length_append]
  have e : lg L k = L[k] := by simp [lg, h]
  rw [e]
  by_cases hh : L[k] = x <;> simp [hh]
set_option maxRecDepth 100000 in
set_option maxHeartbeats 2000000 in
theorem rflash_any {w : World} {a : Option Addr} {n c : Nat} {L : List Nat} (hB : By w a n L) : Calls Tryz.prog 50 #[.slice a n c] w fun e w' => e = .returned (.int .i64 ((cntN L 4 : Nat) : Int)) ∧ w' = w := by
  have hs := hB.size
  have hm := hB.max
  have HB := Hid.mk' hB
  have HS := Hid.mk' hs
  clear hB hs
  go_enter Tryz.func50, Tryz.ntmps50
  go_wp2
  go_loop [3, 4] (fun c i => ∃ k m : Nat, k ≤ n ∧ i = .int .i64 k ∧ c = .int .i64 (m : Int) ∧ m ≤ k ∧ m = cntN (L.take k) 4) (fun _ i => n - (intOf i).toNat)
  case atStart => exact ⟨0, 0, by omega, rfl, rfl, by omega, rfl⟩
  case round =>
    obtain ⟨k, m, hk, rfl, rfl, hmk, hm4⟩ := hrel
    have HM := Hid.mk' hm4
    clear hm4
    by_cases hlt : k < n
    · obtain ⟨b, off, rfl, hb, hc⟩ := HB.out.at_ (by omega)
      have kc := hc k hlt
      rw [show L.getD k 0 = lg L k from rfl] at kc
      have hst := cnt_take (L := L) (x := 4) (k := k) (by have := HS.out; omega)
      by_cases e : lg L k = 4
      · rw [if_pos e] at hst
        have HST := Hid.mk' hst
        rw [e] at kc
        clear hc e hst
        go_wp2
        exact ⟨⟨k + 1, m + 1, by omega, by go_num, by go_num, by omega, by rw [HST.out, HM.out]⟩, by simp [intOf]; omega⟩
      · rw [if_neg e] at hst
        have HST := Hid.mk' hst
        have e1 : ((lg L k : Int) == 4) = false := by simp; omega
        clear hc e hst
        generalize lg L k = y at *
        go_wp2
        exact ⟨⟨k + 1, m, by omega, by go_num, rfl, by omega, by rw [HST.out, HM.out]; rfl⟩, by simp [intOf]; omega⟩
    · have hkk : L.take k = L := List.take_of_length_le (by have := HS.out; omega)
      rw [hkk] at HM
      go_wp2
      go_ret
      exact ⟨by rw [HM.out]; rfl, rfl⟩

/-! ### meet -/
set_option maxRecDepth 100000 in
set_option maxHeartbeats 2000000 in
theorem rmeet8_any {w : World} {X : Sa} {S : St} {a : Option Addr} {n c : Nat} {L : List Nat} (h : Sat w X S) (hO : Okay S) (hB : By w a n L) (hn : n = S.groups.length) : Calls Tryz.prog 84 #[siteV X S, .slice a n c] w fun e w' => e = .returned (.bool (mtB S L)) ∧ Kept w w' none := by
  have hna := hO.na
  have hng := hO.ng
  have hs := hB.size
  obtain ⟨bl, ol, el, hbl, hcl⟩ := hB.at_ (by omega)
  subst el
  have HCL := Hid.mk' hcl
  have HS := Hid.mk' hs
  subst hn
  have k1 : Kept w (w.alloc (.cells #[.int .i64 S.id, .slice X.g S.groups.length X.gc, .slice X.a S.apart.length X.ac, .slice X.b S.between.length X.bc, .slice X.p S.phases.length X.pc, .slice X.e S.eyes.length X.ec, .int .i64 S.watch, .int .i64 S.feed, .int .i64 S.heal, .int .i64 S.low, .int .i64 S.high, .slice X.l S.plans.length X.lc] 29)) none := Kept.alloc _ _ _ _ _
  have hsb := sbox_alloc h 29
  obtain ⟨W1, hW1⟩ : ∃ W1, w.alloc (.cells #[.int .i64 S.id, .slice X.g S.groups.length X.gc, .slice X.a S.apart.length X.ac, .slice X.b S.between.length X.bc, .slice X.p S.phases.length X.pc, .slice X.e S.eyes.length X.ec, .int .i64 S.watch, .int .i64 S.feed, .int .i64 S.heal, .int .i64 S.low, .int .i64 S.high, .slice X.l S.plans.length X.lc] 29) = W1 := ⟨_, rfl⟩
  rw [hW1] at k1 hsb
  have HSB := Hid.mk' hsb
  have HK := Hid.mk' k1
  have hK0 := Kept.refl W1 none
  have s0_ : ∀ w', Kept W1 w' none → w'.cell? ⟨w.heap.size, 0, none⟩ = some (.int .i64 S.id) := fun w' q => (HSB.out.kept q).c0
  have s1_ : ∀ w', Kept W1 w' none → w'.cell? ⟨w.heap.size, 1, none⟩ = some (.slice X.g S.groups.length X.gc) := fun w' q => (HSB.out.kept q).c1
  have s2_ : ∀ w', Kept W1 w' none → w'.cell? ⟨w.heap.size, 2, none⟩ = some (.slice X.a S.apart.length X.ac) := fun w' q => (HSB.out.kept q).c2
  have s3_ : ∀ w', Kept W1 w' none → w'.cell? ⟨w.heap.size, 3, none⟩ = some (.slice X.b S.between.length X.bc) := fun w' q => (HSB.out.kept q).c3
  have s4_ : ∀ w', Kept W1 w' none → w'.cell? ⟨w.heap.size, 4, none⟩ = some (.slice X.p S.phases.length X.pc) := fun w' q => (HSB.out.kept q).c4
  have s5_ : ∀ w', Kept W1 w' none → w'.cell? ⟨w.heap.size, 5, none⟩ = some (.slice X.e S.eyes.length X.ec) := fun w' q => (HSB.out.kept q).c5
  have s6_ : ∀ w', Kept W1 w' none → w'.cell? ⟨w.heap.size, 6, none⟩ = some (.int .i64 S.watch) := fun w' q => (HSB.out.kept q).c6
  have s7_ : ∀ w', Kept W1 w' none → w'.cell? ⟨w.heap.size, 7, none⟩ = some (.int .i64 S.feed) := fun w' q => (HSB.out.kept q).c7
  have s8_ : ∀ w', Kept W1 w' none → w'.cell? ⟨w.heap.size, 8, none⟩ = some (.int .i64 S.heal) := fun w' q => (HSB.out.kept q).c8
  have s9_ : ∀ w', Kept W1 w' none → w'.cell? ⟨w.heap.size, 9, none⟩ = some (.int .i64 S.low) := fun w' q => (HSB.out.kept q).c9
  have s10_ : ∀ w', Kept W1 w' none → w'.cell? ⟨w.heap.size, 10, none⟩ = some (.int .i64 S.high) := fun w' q => (HSB.out.kept q).c10
  have s11_ : ∀ w', Kept W1 w' none → w'.cell? ⟨w.heap.size, 11, none⟩ = some (.slice X.l S.plans.length X.lc) := fun w' q => (HSB.out.kept q).c11
  have hall : ∀ i, i < S.groups.length → ∀ w', Kept W1 w' none → w'.cell? ⟨bl, ol + i, none⟩ = some (.int .u8 (lg L i : Int)) := fun i hi w' q => cell_kept0 (cell_kept0 (HCL.out i hi) HK.out) q
  have HALL := Hid.mk' hall
  have HNA := Hid.mk' hna
  clear h hB hcl hs k1 hsb hall hna hO
  go_enter Tryz.func84, Tryz.ntmps84
  go_wp2_with (rw [hW1])
  go_loopw [5, 6] (fun i _ wr => ∃ k : Nat, k ≤ S.groups.length ∧ i = .int .i64 k ∧ Kept W1 wr none ∧ ∀ j, j < k → ∀ b, b < j → pairM S L j b = false) (fun i _ _ => S.groups.length - (intOf i).toNat)
  case atStart => exact ⟨0, by omega, rfl, Kept.refl _ _, fun j hj => by omega⟩
  case round =>
    obtain ⟨k, hk, rfl, hkw, hno⟩ := hrel
    have HN := Hid.mk' hno
    clear hno
    by_cases hlt : k < S.groups.length
    · go_wp2
      obtain ⟨wo, hwo⟩ : ∃ wo, wo = wr := ⟨_, rfl⟩
      subst hwo
      go_loopw [6] (fun i wr => ∃ q : Nat, q ≤ k ∧ i = .int .i64 q ∧ Kept W1 wr none ∧ ∀ b, b < q → pairM S L k b = false) (fun i _ => k - (intOf i).toNat)
      case atStart => exact ⟨0, by omega, rfl, hkw, fun j hj => by omega⟩
      case round =>
        obtain ⟨q, hq, rfl, hkr, hno⟩ := hrel
        have HNB := Hid.mk' hno
        clear hno
        by_cases hql : q < k
        · have lk := HALL.out k hlt
          have lq := HALL.out q (by omega)
          by_cases e1 : lg L k = 1
          · have HN2 : Hid (∀ b, b < q + 1 → pairM S L k b = false) := ext_no HNB.out (by simp [pairM, e1])
            rw [e1] at lk
            generalize lg L q = z at *
            go_wp2
            go_roundw
            case rel => exact ⟨q + 1, by omega, by go_num, hkr, HN2.out⟩
            case measure => simp [intOf]; omega
          · have e1b : ((lg L k : Int) != 1) = true := by simp; omega
            by_cases e2 : lg L q = 1
            · have HN2 : Hid (∀ b, b < q + 1 → pairM S L k b = false) := ext_no HNB.out (by simp [pairM, e2])
              rw [e2] at lq
              generalize lg L k = y at *
              go_wp2
              go_roundw
              case rel => exact ⟨q + 1, by omega, by go_num, hkr, HN2.out⟩
              case measure => simp [intOf]; omega
            · have e2b : ((lg L q : Int) != 1) = true := by simp; omega
              have hpm : pairM S L k q = (S.ap k).testBit q := by
                unfold pairM
                rw [show (lg L k == 1) = false by simpa using e1, show (lg L q == 1) = false by simpa using e2]
                rfl
              have HPM := Hid.mk' hpm
              have hyes : (S.ap k).testBit q = true → mtB S L = true := fun h => mtB_yes (by have := HS.out; omega) hql (hpm.trans h)
              have HY := Hid.mk' hyes
              have HAP := Hid.mk' (fun w' (qq : Kept W1 w' none) => rap8_any (HSB.out.sat.kept qq) k q (by have := HNA.out; omega) (by omega))
              clear hpm hyes e1 e2
              generalize lg L k = y at *
              generalize lg L q = z at *
              generalize (S.ap k).testBit q = t at *
              cases t with
              | true =>
                go_wp2_with (go_at_call 53; refine (HAP.out _ hkr).mono ?_; rintro e wA ⟨rfl, hkA⟩)
                go_ret
                exact ⟨by rw [HY.out (by simp)]; rfl, HK.out.tr (hkr.tr hkA)⟩
              | false =>
                have HN2 : Hid (∀ b, b < q + 1 → pairM S L k b = false) := ext_no HNB.out HPM.out
                go_wp2_with (go_at_call 53; refine (HAP.out _ hkr).mono ?_; rintro e wA ⟨rfl, hkA⟩)
                go_roundw
                case rel => exact ⟨q + 1, by omega, by go_num, hkr.tr hkA, HN2.out⟩
                case measure => simp [intOf]; omega
        · have HN2 : Hid (∀ j, j < k + 1 → ∀ b, b < j → pairM S L j b = false) := ext_no HN.out (fun b hb => HNB.out b (by omega))
          go_wp2
          go_roundw
          case rel => exact ⟨k + 1, by omega, by go_num, hkr, HN2.out⟩
          case measure => simp [intOf]; omega
    · have HF := Hid.mk' (mtB_no (S := S) (L := L) (fun a ha b hb => HN.out a (by have := HS.out; omega) b hb))
      go_wp2
      go_ret
      exact ⟨by rw [HF.out]; rfl, HK.out.tr hkw⟩

/-! ### Great -/
/-- What is met of the pairs up to group k, and of group k's up to q. -/
def metP (S : St) (k q : Nat) (x : Int) : Prop := ∃ a b, b < S.groups.length ∧ (a < k ∨ a = k ∧ b < q) ∧ (S.ap a).testBit b = true ∧ x = S.bt a b
theorem met_worst {S : St} (hs : siteB S = true) {m : Int} (h : IsMost (metP S S.groups.length 0) m) : m = worstM S := by
  have hK := keeps_may hs
  have hSh := (span_may hs).base.sh
  have hnb := hSh.ok.nb
  refine IsMost.uniq (P := fun x => x ∈ S.between.flatten) ⟨h.1, ?_, fun x hx => ?_⟩ (mostL_is _)
  · rcases h.2.1 with e | ⟨a, b, hb, ha, hap, e⟩
    · exact .inl e
    · right
      have ha' : a < S.groups.length := by omega
      show m ∈ S.between.flatten
      rw [List.mem_flatten]
      have hr := hSh.row a ha'
      refine ⟨S.between.getD a [], getD_mem (by omega), ?_⟩
      rw [e]
      exact getD_mem (by omega)
  · obtain ⟨l, hl, hx⟩ := List.mem_flatten.1 hx
    obtain ⟨a, ha, rfl⟩ := List.getElem_of_mem hl
    obtain ⟨b, hb2, rfl⟩ := List.getElem_of_mem hx
    have hr := hSh.row a (by omega)
    have e : S.between.getD a [] = S.between[a] := by simp [ha]
    rw [e] at hr
    have hbt : S.bt a b = S.between[a][b] := by unfold St.bt; rw [e]; simp [hb2]
    rw [← hbt]
    cases hap : (S.ap a).testBit b with
    | true => exact h.2.2 _ ⟨a, b, by omega, .inl (by omega), hap, rfl⟩
    | false => rw [hK.nil a b (by omega) (by omega) hap]; exact h.1
theorem met_same {S : St} {k q : Nat} {m : Int} (h : IsMost (metP S k q) m) (hq : (S.ap k).testBit q = false) : IsMost (metP S k (q + 1)) m := h.congr (fun x => by
  constructor
  · rintro ⟨a, b, h1, h2, h3, h4⟩
    exact ⟨a, b, h1, by omega, h3, h4⟩
  · rintro ⟨a, b, h1, h2, h3, h4⟩
    refine ⟨a, b, h1, ?_, h3, h4⟩
    rcases h2 with h2 | ⟨rfl, h2⟩
    · exact .inl h2
    · rcases (show b < q ∨ b = q by omega) with h5 | rfl
      · exact .inr ⟨rfl, h5⟩
      · rw [hq] at h3; cases h3)
theorem met_more {S : St} {k q : Nat} {m : Int} (h : IsMost (metP S k q) m) (hl : q < S.groups.length) (hq : (S.ap k).testBit q = true) : IsMost (metP S k (q + 1)) (max m (S.bt k q)) := (h.more (S.bt k q)).congr (fun x => by
  constructor
  · rintro (⟨a, b, h1, h2, h3, h4⟩ | rfl)
    · exact ⟨a, b, h1, by omega, h3, h4⟩
    · exact ⟨k, q, hl, .inr ⟨rfl, by omega⟩, hq, rfl⟩
  · rintro ⟨a, b, h1, h2, h3, h4⟩
    rcases h2 with h2 | ⟨rfl, h2⟩
    · exact .inl ⟨a, b, h1, .inl h2, h3, h4⟩
    · rcases (show b < q ∨ b = q by omega) with h5 | rfl
      · exact .inl ⟨a, b, h1, .inr ⟨rfl, h5⟩, h3, h4⟩
      · exact .inr h4)
theorem met_next {S : St} {k : Nat} {m : Int} (h : IsMost (metP S k S.groups.length) m) : IsMost (metP S (k + 1) 0) m := h.congr (fun x => by
  constructor
  · rintro ⟨a, b, h1, h2, h3, h4⟩
    exact ⟨a, b, h1, by omega, h3, h4⟩
  · rintro ⟨a, b, h1, h2, h3, h4⟩
    exact ⟨a, b, h1, by omega, h3, h4⟩)
set_option maxRecDepth 100000 in
set_option maxHeartbeats 2000000 in
theorem rgr8_any {w : World} {X : Sa} {S : St} (h : Sat w X S) (hs : siteB S = true) : Calls Tryz.prog 37 #[siteV X S] w fun e w' => e = .returned (.int .i64 (worstM S)) ∧ Kept w w' none := by
  have hSh := (span_may hs).base.sh
  have hna := hSh.ok.na
  have hng := hSh.ok.ng
  have k1 : Kept w (w.alloc (.cells #[.int .i64 S.id, .slice X.g S.groups.length X.gc, .slice X.a S.apart.length X.ac, .slice X.b S.between.length X.bc, .slice X.p S.phases.length X.pc, .slice X.e S.eyes.length X.ec, .int .i64 S.watch, .int .i64 S.feed, .int .i64 S.heal, .int .i64 S.low, .int .i64 S.high, .slice X.l S.plans.length X.lc] 29)) none := Kept.alloc _ _ _ _ _
  have hsb := sbox_alloc h 29
  obtain ⟨W1, hW1⟩ : ∃ W1, w.alloc (.cells #[.int .i64 S.id, .slice X.g S.groups.length X.gc, .slice X.a S.apart.length X.ac, .slice X.b S.between.length X.bc, .slice X.p S.phases.length X.pc, .slice X.e S.eyes.length X.ec, .int .i64 S.watch, .int .i64 S.feed, .int .i64 S.heal, .int .i64 S.low, .int .i64 S.high, .slice X.l S.plans.length X.lc] 29) = W1 := ⟨_, rfl⟩
  rw [hW1] at k1 hsb
  have HSB := Hid.mk' hsb
  have HK := Hid.mk' k1
  have hK0 := Kept.refl W1 none
  have s0_ : ∀ w', Kept W1 w' none → w'.cell? ⟨w.heap.size, 0, none⟩ = some (.int .i64 S.id) := fun w' q => (HSB.out.kept q).c0
  have s1_ : ∀ w', Kept W1 w' none → w'.cell? ⟨w.heap.size, 1, none⟩ = some (.slice X.g S.groups.length X.gc) := fun w' q => (HSB.out.kept q).c1
  have s2_ : ∀ w', Kept W1 w' none → w'.cell? ⟨w.heap.size, 2, none⟩ = some (.slice X.a S.apart.length X.ac) := fun w' q => (HSB.out.kept q).c2
  have s3_ : ∀ w', Kept W1 w' none → w'.cell? ⟨w.heap.size, 3, none⟩ = some (.slice X.b S.between.length X.bc) := fun w' q => (HSB.out.kept q).c3
  have s4_ : ∀ w', Kept W1 w' none → w'.cell? ⟨w.heap.size, 4, none⟩ = some (.slice X.p S.phases.length X.pc) := fun w' q => (HSB.out.kept q).c4
  have s5_ : ∀ w', Kept W1 w' none → w'.cell? ⟨w.heap.size, 5, none⟩ = some (.slice X.e S.eyes.length X.ec) := fun w' q => (HSB.out.kept q).c5
  have s6_ : ∀ w', Kept W1 w' none → w'.cell? ⟨w.heap.size, 6, none⟩ = some (.int .i64 S.watch) := fun w' q => (HSB.out.kept q).c6
  have s7_ : ∀ w', Kept W1 w' none → w'.cell? ⟨w.heap.size, 7, none⟩ = some (.int .i64 S.feed) := fun w' q => (HSB.out.kept q).c7
  have s8_ : ∀ w', Kept W1 w' none → w'.cell? ⟨w.heap.size, 8, none⟩ = some (.int .i64 S.heal) := fun w' q => (HSB.out.kept q).c8
  have s9_ : ∀ w', Kept W1 w' none → w'.cell? ⟨w.heap.size, 9, none⟩ = some (.int .i64 S.low) := fun w' q => (HSB.out.kept q).c9
  have s10_ : ∀ w', Kept W1 w' none → w'.cell? ⟨w.heap.size, 10, none⟩ = some (.int .i64 S.high) := fun w' q => (HSB.out.kept q).c10
  have s11_ : ∀ w', Kept W1 w' none → w'.cell? ⟨w.heap.size, 11, none⟩ = some (.slice X.l S.plans.length X.lc) := fun w' q => (HSB.out.kept q).c11
  have HSH := Hid.mk' hSh
  have HNA := Hid.mk' hna
  have HEND := Hid.mk' (fun m (hm : IsMost (metP S S.groups.length 0) m) => met_worst hs hm)
  clear h k1 hsb hna hSh hs
  go_enter Tryz.func37, Tryz.ntmps37
  go_wp2_with (rw [hW1])
  go_loopw [3, 4, 5] (fun c i _ wr => ∃ k : Nat, k ≤ S.groups.length ∧ i = .int .i64 k ∧ Kept W1 wr none ∧ ∃ m : Int, c = .int .i64 m ∧ IsMost (metP S k 0) m) (fun _ i _ _ => S.groups.length - (intOf i).toNat)
  case atStart => exact ⟨0, by omega, rfl, Kept.refl _ _, 0, rfl, IsMost.none.congr (fun x => ⟨fun h => h.elim, fun ⟨a, b, _, h2, _⟩ => by omega⟩)⟩
  case round =>
    obtain ⟨k, hk, rfl, hkw, m, rfl, hm⟩ := hrel
    have HM := Hid.mk' hm
    clear hm
    by_cases hlt : k < S.groups.length
    · go_wp2
      obtain ⟨wo, hwo⟩ : ∃ wo, wo = wr := ⟨_, rfl⟩
      subst hwo
      go_loopw [3, 5] (fun c i wr => ∃ q : Nat, q ≤ S.groups.length ∧ i = .int .i64 q ∧ Kept W1 wr none ∧ ∃ m : Int, c = .int .i64 m ∧ IsMost (metP S k q) m) (fun _ i _ => S.groups.length - (intOf i).toNat)
      case atStart => exact ⟨0, by omega, rfl, hkw, m, rfl, HM.out⟩
      case round =>
        obtain ⟨q, hq, rfl, hkr, m2, rfl, hm2⟩ := hrel
        by_cases hql : q < S.groups.length
        · have HAP := Hid.mk' (fun w' (qq : Kept W1 w' none) => rap8_any (HSB.out.sat.kept qq) k q (by have := HNA.out; omega) (by omega))
          have HBT := Hid.mk' (fun w' (qq : Kept W1 w' none) => rbt8_any (HSB.out.sat.kept qq) HSH.out hlt hql)
          have HSAME : Hid ((S.ap k).testBit q = false → IsMost (metP S k (q + 1)) m2) := fun h => met_same hm2 h
          have HMORE : Hid ((S.ap k).testBit q = true → IsMost (metP S k (q + 1)) (max m2 (S.bt k q))) := fun h => met_more hm2 hql h
          clear hm2
          generalize S.bt k q = v at *
          generalize (S.ap k).testBit q = t at *
          cases t with
          | false =>
            go_wp2_with (go_at_call 53; refine (HAP.out _ hkr).mono ?_; rintro e wA ⟨rfl, hkA⟩)
            go_roundw
            case rel => exact ⟨q + 1, by omega, by go_num, hkr.tr hkA, m2, rfl, HSAME.out (by simp)⟩
            case measure => simp [intOf]; omega
          | true =>
            by_cases hv : m2 < v
            · have HMX : Hid (max m2 v = v) := by show _ = _; omega
              go_wp2_with (first
                | (have hgo := hkC; clear hgo; go_at_call 54; refine (HBT.out _ hkC).mono ?_; rintro e wD ⟨rfl, hqD⟩; have hkD : Kept W1 wD none := hkC.tr hqD)
                | (have hgo := hkA; clear hgo; go_at_call 54; refine (HBT.out _ hkA).mono ?_; rintro e wC ⟨rfl, hqC⟩; have hkC : Kept W1 wC none := hkA.tr hqC)
                | (go_at_call 53; refine (HAP.out _ hkr).mono ?_; rintro e wA ⟨rfl, hqA⟩; have hkA : Kept W1 wA none := hkr.tr hqA))
              go_roundw
              case rel => exact ⟨q + 1, by omega, by go_num, hkD, v, rfl, by have := HMORE.out (by simp); rwa [HMX.out] at this⟩
              case measure => simp [intOf]; omega
            · have HMX : Hid (max m2 v = m2) := by show _ = _; omega
              have hvb : decide (m2 < v) = false := by simp; omega
              go_wp2_with (first
                | (have hgo := hkA; clear hgo; go_at_call 54; refine (HBT.out _ hkA).mono ?_; rintro e wC ⟨rfl, hqC⟩; have hkC : Kept W1 wC none := hkA.tr hqC)
                | (go_at_call 53; refine (HAP.out _ hkr).mono ?_; rintro e wA ⟨rfl, hqA⟩; have hkA : Kept W1 wA none := hkr.tr hqA))
              go_roundw
              case rel => exact ⟨q + 1, by omega, by go_num, hkC, m2, rfl, by have := HMORE.out (by simp); rwa [HMX.out] at this⟩
              case measure => simp [intOf]; omega
        · have e : q = S.groups.length := by omega
          subst e
          have HM2 := Hid.mk' (met_next hm2)
          clear hm2
          go_wp2
          go_roundw
          case rel => exact ⟨k + 1, by omega, by go_num, hkr, m2, rfl, HM2.out⟩
          case measure => simp [intOf]; omega
    · have e : k = S.groups.length := by omega
      subst e
      have HE := Hid.mk' (HEND.out m HM.out)
      go_wp2
      go_ret
      exact ⟨by rw [← HE.out]; rfl, HK.out.tr hkw⟩

end Go.Proofs.YtchjbagipbmcoaaGreatDoor

/-
  THE CONTRACT of the document's Turn (made by a program).
-/
namespace Go.Proofs.YtchjbagipbmcoaaGreatDoor
open Go.RowKit Go.Lib Go.Deep
set_option linter.unusedVariables false
set_option linter.unusedSimpArgs false


abbrev gl (S : St) (k : Nat) : Int := mxB (worstM S) (fun i => (S.gr i).yellow) k
theorem gl_rng {S : St} (hs : siteB S = true) {k : Nat} (hk : k ≤ S.groups.length) : 0 ≤ gl S k ∧ gl S k ≤ 1048576 := by
  have ht := tur_facts hs
  exact ⟨Int.le_trans ht.w0 (mxB_base _ _ _), mxB_le ht.w1 (fun i hi => (ht.yel i (by omega)).2)⟩
set_option maxRecDepth 100000 in
set_option maxHeartbeats 2000000 in
theorem rturn_yes {X : Sa} {S : St} {w : World} (h : Sat w X S) (hs : siteB S = true) : Calls Tryz.prog 17 #[siteV X S] w fun e w' => e = .returned (.int .i64 (worT S)) ∧ Kept w w' none := by
  have hng := (span_may hs).base.sh.ok.ng
  have hgr := h.gk.room
  have HR := Hid.mk' (fun k hk => wor_rng (S := S) hs (k := k) hk)
  have HR2 := Hid.mk' (fun k hk => gl_rng (S := S) hs (k := k) hk)
  have HWI : Hid (worT S = gm S S.groups.length + gl S S.groups.length + 2) := rfl
  obtain ⟨WA, hWA⟩ : ∃ WA, (w.alloc (.cells #[.int .i64 S.id, .slice X.g S.groups.length X.gc, .slice X.a S.apart.length X.ac, .slice X.b S.between.length X.bc, .slice X.p S.phases.length X.pc, .slice X.e S.eyes.length X.ec, .int .i64 S.watch, .int .i64 S.feed, .int .i64 S.heal, .int .i64 S.low, .int .i64 S.high, .slice X.l S.plans.length X.lc] 29)) = WA := ⟨_, rfl⟩
  obtain ⟨HSB, HK, HS, s0_, s1_, s2_, s3_, s4_, s5_, s6_, s7_, s8_, s9_, s10_, s11_⟩ := hd1 h hWA
  have hK0 := Kept.refl WA none
  clear h
  go_enter Tryz.func17, Tryz.ntmps17
  go_wp2_with (first | rw [hWA] | (go_at_call 37; refine (rgr8_any HS.out hs).mono ?_; rintro e wC ⟨rfl, hkC⟩; have hKC : Kept WA wC none := hkC))
  have HKC := Hid.mk' hKC
  clear hkC hKC
  go_loopw [3, 4, 5] (fun g y i wr => ∃ k : Nat, k ≤ S.groups.length ∧ i = .int .i64 k ∧ g = .int .i64 (gm S k) ∧ y = .int .i64 (gl S k) ∧ Kept WA wr none) (fun _ _ i _ => S.groups.length - (intOf i).toNat)
  case atStart => exact ⟨0, by omega, rfl, rfl, rfl, HKC.out⟩
  case round =>
    obtain ⟨k, hk, rfl, rfl, rfl, hkw⟩ := hrel
    have HKW := Hid.mk' hkw
    by_cases hlt : k < S.groups.length
    · obtain ⟨bg, og, eg, q0, q1, q2⟩ := (HS.out.kept hkw).grAt hlt
      have c1 := (HSB.out.kept hkw).c1
      rw [eg] at c1
      have HM : Hid (gm S (k + 1) = if gm S k < (S.gr k).min then (S.gr k).min else gm S k) := tmax_if _ _
      have HY : Hid (gl S (k + 1) = if gl S k < (S.gr k).yellow then (S.gr k).yellow else gl S k) := tmax_if _ _
      clear hkw s0_ s1_ s2_ s3_ s4_ s5_ s6_ s7_ s8_ s9_ s10_ s11_ eg q0 hK0
      generalize S.gr k = N at *
      generalize gm S k = A at *
      generalize gl S k = Y at *
      by_cases ha : A < N.min
      · have HM1 : Hid (gm S (k + 1) = N.min) := by show _ = _; rw [HM.out, if_pos ha]
        by_cases hy : Y < N.yellow
        · have HY1 : Hid (gl S (k + 1) = N.yellow) := by show _ = _; rw [HY.out, if_pos hy]
          go_wp2
          go_roundw
          case rel => exact ⟨k + 1, by omega, by go_num, by rw [HM1.out], by rw [HY1.out], HKW.out⟩
          case measure => simp [intOf]; omega
        · have HY1 : Hid (gl S (k + 1) = Y) := by show _ = _; rw [HY.out, if_neg hy]
          go_wp2
          go_roundw
          case rel => exact ⟨k + 1, by omega, by go_num, by rw [HM1.out], by rw [HY1.out], HKW.out⟩
          case measure => simp [intOf]; omega
      · have HM1 : Hid (gm S (k + 1) = A) := by show _ = _; rw [HM.out, if_neg ha]
        by_cases hy : Y < N.yellow
        · have HY1 : Hid (gl S (k + 1) = N.yellow) := by show _ = _; rw [HY.out, if_pos hy]
          go_wp2
          go_roundw
          case rel => exact ⟨k + 1, by omega, by go_num, by rw [HM1.out], by rw [HY1.out], HKW.out⟩
          case measure => simp [intOf]; omega
        · have HY1 : Hid (gl S (k + 1) = Y) := by show _ = _; rw [HY.out, if_neg hy]
          go_wp2
          go_roundw
          case rel => exact ⟨k + 1, by omega, by go_num, by rw [HM1.out], by rw [HY1.out], HKW.out⟩
          case measure => simp [intOf]; omega
    · have e : k = S.groups.length := by omega
      subst e
      obtain ⟨r1, r2, r3, r4⟩ := HR.out _ (Nat.le_refl _)
      obtain ⟨r5, r6⟩ := HR2.out _ (Nat.le_refl _)
      have c1 := (HSB.out.kept hkw).c1
      clear hkw s0_ s1_ s2_ s3_ s4_ s5_ s6_ s7_ s8_ s9_ s10_ s11_ r3 r4 hK0
      generalize gm S S.groups.length = A at *
      generalize gl S S.groups.length = Y at *
      go_wp2
      go_ret
      exact ⟨by rw [HWI.out]; rfl, HK.out.tr HKW.out⟩

end Go.Proofs.YtchjbagipbmcoaaGreatDoor

