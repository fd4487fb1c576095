/-
  Texts joined: some of those that the proofs of this seat stand on.
-/
import Derived.Test.YtfhmfanmnhclfaaDoorGateMJ
/-
  THE CONTRACTS of gate's small calls: has, allAre, allOf, aspectGoesOn; of letThrough's closures bars and open.
-/
namespace Go.Proofs.YtfhmfanmnhclfaaDoor
open Go.RowKit Go.Lib Go.Deep
set_option linter.unusedVariables false
set_option linter.unusedSimpArgs false

theorem ghas_any (S i : Nat) (w : World) (hS : S < 4294967296) (hi : i < 32) : Calls Tryd.prog 84 #[.int .u32 (S : Int), .int .i64 (i : Int)] w fun e w' => e = .returned (.bool (S.testBit i)) ∧ w' = w := by
  have hb := has_bit S i hS
  go_enter Tryd.func84, Tryd.ntmps84
  go_wp2
  go_ret
  exact ⟨by rw [← hb]; rfl, rfl⟩
set_option maxRecDepth 100000 in
theorem gindexFn_any {w : World} {a : Option Addr} {n c : Nat} {L : List Nat} (hB : By w a n L) (x B : Nat) (hx : w.cell? ⟨B, 0, none⟩ = some (.int .u8 (x : Int))) : Calls Tryd.prog 119 #[.slice a n c, .func (.func 107) #[] #[.pointer (some ⟨B, 0, none⟩)]] w fun e w' => (∃ z : Int, e = .returned (.int .i64 z) ∧ allIs L x = !decide (0 ≤ z)) ∧ w' = w := by
  have hs := hB.size
  have hm := hB.max
  have HB := Hid.mk' hB
  have HS := Hid.mk' hs
  clear hB hs
  go_enter Tryd.func119, Tryd.ntmps119
  go_wp2
  go_loop [5, 8] (fun _ i => ∃ k : Nat, k ≤ n ∧ i = .int .i64 k ∧ ∀ j, j < k → lg L j = x) (fun _ i => n - (intOf i).toNat)
  case atStart => exact ⟨0, by omega, rfl, fun j hj => by omega⟩
  case round =>
    obtain ⟨k, hk, rfl, hno⟩ := hrel
    have HN := Hid.mk' hno
    clear hno
    by_cases hlt : k < n
    · obtain ⟨b, off, rfl, hb, hc⟩ := HB.out.at_ (by omega)
      have kc := hc k hlt
      rw [show L.getD k 0 = lg L k from rfl] at kc
      by_cases e : lg L k = x
      · have HN2 := Hid.mk' (ext_no HN.out e)
        rw [e] at kc
        clear hc e
        go_wp2
        exact ⟨⟨k + 1, by omega, by go_num, HN2.out⟩, by simp [intOf]; omega⟩
      · have HY := Hid.mk' (allIs_no (by have := HS.out; omega) e)
        have e1 : ((lg L k : Int) == (x : Int)) = false := by simp; omega
        clear hc e
        generalize lg L k = y at *
        go_wp2
        go_ret
        exact ⟨⟨_, rfl, by rw [HY.out]; simp⟩, rfl⟩
    · have HF := Hid.mk' (allIs_yes (L := L) (x := x) (fun i hi => HN.out i (by have := HS.out; omega)))
      go_wp2
      go_ret
      exact ⟨⟨_, rfl, by rw [HF.out]; simp⟩, rfl⟩
theorem gall_any {w : World} {a : Option Addr} {n c : Nat} {L : List Nat} (hB : By w a n L) (x : Nat) : Calls Tryd.prog 81 #[.slice a n c, .int .u8 (x : Int)] w fun e w' => e = .returned (.bool (allIs L x)) ∧ Kept w w' none := by
  have hk : Kept w (w.alloc (.cells #[.int .u8 (x : Int)] 5)) none := Kept.alloc _ _ _ _ _
  have HB := Hid.mk' (hB.kept hk)
  have HK := Hid.mk' hk
  clear hB hk
  have hc : (w.alloc (.cells #[.int .u8 (x : Int)] 5)).cell? ⟨w.heap.size, 0, none⟩ = some (.int .u8 (x : Int)) := by simp [World.cell?_alloc_mark]
  have HC := Hid.mk' hc
  clear hc
  go_enter Tryd.func81, Tryd.ntmps81
  go_wp2_with (first
    | (go_at_call 106; go_in)
    | (go_at_call 119; refine (gindexFn_any HB.out x _ HC.out).mono ?_; rintro e w' ⟨⟨z, rfl, hz⟩, rfl⟩))
  go_ret
  exact ⟨by rw [hz]; rfl, HK.out⟩

/-! ### allOf -/
def ocell (k x : Nat) (i : Nat) : Value := .int .u8 ((if i < k then x else 0 : Nat) : Int)
theorem ocell_set {k x : Nat} : (fun j => if j = k then Value.int .u8 (x : Int) else ocell k x j) = ocell (k + 1) x := by
  funext j
  unfold ocell
  by_cases h : j = k
  · subst h; simp
  · rw [if_neg h]
    by_cases h2 : j < k
    · rw [if_pos h2, if_pos (by omega)]
    · rw [if_neg h2, if_neg (by omega)]
set_option maxRecDepth 100000 in
set_option maxHeartbeats 1000000 in
theorem gallOf_any {w : World} (x n : Nat) (hn : n ≤ 100) : Calls Tryd.prog 82 #[.int .u8 (x : Int), .int .i64 (n : Int)] w fun e w' => e = .returned (.slice (some ⟨w.heap.size, 0, none⟩) n n) ∧ w'.rowIs w.heap.size 5 n (fun _ => .int .u8 (x : Int)) ∧ Kept w w' none := by
  have hmk := run_make_row' (P := Tryd.prog) 64 5 (.int .u8 0) 1 Tryd.uB Tryd.infoByte rfl .i64 .i64 n (by omega) (by omega)
  go_enter Tryd.func82, Tryd.ntmps82
  go_wp2
  have hrw := World.rowIs_made w (.int .u8 0) n 5
  have kM : Kept w (w.alloc (.cells (madeCells #[.int .u8 0] n) 5)) none := Kept.alloc _ _ _ _ _
  obtain ⟨W3, hW3⟩ : ∃ W3, w.alloc (.cells (madeCells #[.int .u8 0] n) 5) = W3 := ⟨_, rfl⟩
  rw [hW3] at hrw kM ⊢
  have HRW := Hid.mk' hrw
  have KM := Hid.mk' kM
  clear hW3 hrw kM hmk
  go_loopw [6, 11] (fun _ i wr => ∃ k : Nat, k ≤ n ∧ i = .int .i64 k ∧ Kept w wr none ∧ wr.rowIs w.heap.size 5 n (ocell k x)) (fun _ i _ => n - (intOf i).toNat)
  case atStart => exact ⟨0, by omega, rfl, KM.out, HRW.out.congr (fun i hi => by unfold ocell; simp)⟩
  case round =>
    obtain ⟨k, hk, rfl, hkw, hrow⟩ := hrel
    have HKW := Hid.mk' hkw
    have HRO := Hid.mk' hrow
    have hlr := hrow.lt
    clear hkw hrow
    by_cases hlt : k < n
    · have y0 := HRO.out.cell hlt
      have z0 := HRO.out.frozen k
      go_wp2
      go_roundw
      case rel =>
        refine ⟨k + 1, by omega, by go_num, HKW.out.setNew (p := ⟨w.heap.size, k, none⟩) (Nat.le_refl _) _, ?_⟩
        rw [← ocell_set]
        exact HRO.out.set k _
      case measure => simp [intOf]; omega
    · have e : k = n := by omega
      subst e
      go_wp2
      go_ret
      exact ⟨rfl, HRO.out.congr (fun i hi => by unfold ocell; rw [if_pos hi]), HKW.out⟩

/-! ### aspectGoesOn -/
set_option maxRecDepth 100000 in
set_option maxHeartbeats 1000000 in
theorem gasp_any {w : World} {a : Option Addr} {c : Nat} {F : Sf} (x : Nat) : Calls Tryd.prog 80 #[safeV a c F, .int .u8 (x : Int)] w fun e w' => e = .returned (.bool (aspG F x)) ∧ Kept w w' none := by
  obtain ⟨G, st, fl⟩ := F
  have hk : Kept w (w.alloc (.cells #[.slice a G.length c, .int .i64 st, .bool fl] 61)) none := Kept.alloc _ _ _ _ _
  have HK := Hid.mk' hk
  clear hk
  unfold aspG
  dsimp only
  cases fl with
  | true =>
    rw [if_pos rfl]
    have hb : ((x : Int) == 4) = (x == 4) := by rw [Bool.eq_iff_iff]; simp; omega
    have HB := Hid.mk' hb
    clear hb
    go_enter Tryd.func80, Tryd.ntmps80
    go_wp2
    go_ret
    exact ⟨by rw [← HB.out]; rfl, HK.out⟩
  | false =>
    rw [if_neg (by decide)]
    by_cases hs : 0 < st
    · rw [if_pos hs]
      have hb : ((x : Int) == 1) = (x == 1) := by rw [Bool.eq_iff_iff]; simp; omega
      have HB := Hid.mk' hb
      clear hb
      go_enter Tryd.func80, Tryd.ntmps80
      go_wp2
      go_ret
      exact ⟨by rw [← HB.out]; rfl, HK.out⟩
    · rw [if_neg hs]
      have hsb : decide (0 < st) = false := by simp; omega
      by_cases h1 : x = 1
      · subst h1
        go_enter Tryd.func80, Tryd.ntmps80
        go_wp2
        go_ret
        exact ⟨rfl, HK.out⟩
      · have b1 : ((x : Int) == 1) = false := by simp; omega
        by_cases h2 : x = 2
        · subst h2
          go_enter Tryd.func80, Tryd.ntmps80
          go_wp2
          go_ret
          exact ⟨rfl, HK.out⟩
        · have b2 : ((x : Int) == 2) = false := by simp; omega
          have hb : ((x : Int) == 3) = (x == 1 || (x == 2 || x == 3)) := by rw [Bool.eq_iff_iff]; simp; omega
          have HB := Hid.mk' hb
          clear hb
          go_enter Tryd.func80, Tryd.ntmps80
          go_wp2
          go_ret
          exact ⟨by rw [← HB.out]; rfl, HK.out⟩

/-! ### The closures -/
/-- What they ask: the site's pointer, the lights' slice, the standing, each in a box. -/
structure Gt (w : World) (B : Nat) (X : Sa) (S : St) (bs bl bn bf off c g : Nat) (F : Sf) (f : Nat → Nat) : Prop where
  ps : w.cell? ⟨bs, 0, none⟩ = some (.pointer (some ⟨B, 0, none⟩))
  pl : w.cell? ⟨bl, 0, none⟩ = some (.slice (some ⟨g, 0, none⟩) S.groups.length S.groups.length)
  bx : Box w bn (.slice (some ⟨bf, off, none⟩) S.groups.length c) (.int .i64 F.start) (.bool F.flashed)
  sb : Sbox w B X S
  cf : ∀ i, i < S.groups.length → ∀ j, j < 3 → w.cell? ⟨bf, off + i * 3 + j, none⟩ = some (snV (F.g i) j)
  rw_ : w.rowIs g 5 S.groups.length (fun i => .int .u8 ((f i : Nat) : Int))
  room : S.groups.length ≤ c
  max : c ≤ 9223372036854775807
theorem Gt.kept {w w' : World} {B : Nat} {X : Sa} {S : St} {bs bl bn bf off c g : Nat} {F : Sf} {f : Nat → Nat} (h : Gt w B X S bs bl bn bf off c g F f) (k : Kept w w' none) : Gt w' B X S bs bl bn bf off c g F f :=
  ⟨cell_kept0 h.ps k, cell_kept0 h.pl k, h.bx.kept k, h.sb.kept k, fun i hi j hj => cell_kept0 (h.cf i hi j hj) k, row_kept h.rw_ k (by simp), h.room, h.max⟩
theorem Gt.congr {w : World} {B : Nat} {X : Sa} {S : St} {bs bl bn bf off c g : Nat} {F : Sf} {f f' : Nat → Nat} (h : Gt w B X S bs bl bn bf off c g F f) (e : ∀ i, i < S.groups.length → f i = f' i) : Gt w B X S bs bl bn bf off c g F f' :=
  ⟨h.ps, h.pl, h.bx, h.sb, h.cf, h.rw_.congr (fun i hi => by rw [e i hi]), h.room, h.max⟩
set_option maxRecDepth 100000 in
set_option maxHeartbeats 2000000 in
theorem gbars_any {w : World} {B : Nat} {X : Sa} {S : St} {bs bl bn bf off c g : Nat} {F : Sf} {f : Nat → Nat} (h : Gt w B X S bs bl bn bf off c g F f) (hSh : Shape S) {that it : Nat} (ht : that < S.groups.length) (hi : it < S.groups.length) : Calls Tryd.prog 83 #[.int .i64 (that : Int), .int .i64 (it : Int), .pointer (some ⟨bs, 0, none⟩), .pointer (some ⟨bl, 0, none⟩), .pointer (some ⟨bn, 0, none⟩)] w fun e w' => e = .returned (.bool (barB S F f it that)) ∧ Kept w w' none := by
  have hng := hSh.ok.ng
  have hna := hSh.ok.na
  have hnb := hSh.ok.nb
  have ps := h.ps
  have pl := h.pl
  have f0 := h.bx.c0
  have c2 := h.sb.c2
  have c3 := h.sb.c3
  have hap : S.ap it < 4294967296 := h.sb.sat.apr it
  obtain ⟨ba, oa, ea, hca⟩ := h.sb.sat.apAt (n := S.groups.length) (by omega) (by omega)
  obtain ⟨bb, ob, br, or, cr, eb, kb, hcr, kr⟩ := h.sb.sat.btAt hSh ht hi
  have a0 := hca it hi
  have s2 := h.cf that ht 2 (by omega)
  have l0 := h.rw_.cell (i := that) ht
  simp only [snV] at s2
  have hac := h.sb.sat.ak.room
  have hbc := h.sb.sat.b.cap.room
  have hro := h.room
  have hmx := h.max
  rw [hna] at hac
  rw [hnb] at hbc
  rw [ea, hna] at c2
  rw [eb, hnb] at c3
  have HHAS := Hid.mk' (fun w' => ghas_any (S.ap it) that w' hap (by omega))
  have HV : Hid (barB S F f it that = ((S.ap it).testBit that && (!(f that == 1) || decide ((F.g that).ended < S.bt that it)))) := rfl
  clear h hSh ea eb hca hna hnb
  generalize barB S F f it that = z at *
  generalize F.g that = N at *
  generalize S.bt that it = v at *
  generalize S.ap it = P at *
  generalize P.testBit that = t at *
  generalize f that = y at *
  cases t with
  | false =>
    go_enter Tryd.func83, Tryd.ntmps83
    go_wp2
    go_quiet ((go_at_call 84; exact Calls.quiet_of_same (HHAS.out _)))
    go_wp2
    go_ret
    exact ⟨by rw [HV.out]; rfl, Kept.drewN _ _ _⟩
  | true =>
    by_cases hy : y = 1
    · subst hy
      by_cases hv : N.ended < v
      · go_enter Tryd.func83, Tryd.ntmps83
        go_wp2
        go_quiet ((go_at_call 84; exact Calls.quiet_of_same (HHAS.out _)))
        go_wp2
        go_ret
        exact ⟨by rw [HV.out]; simp [hv], Kept.drewN _ _ _⟩
      · have hvb : decide (N.ended < v) = false := by simp [hv]
        go_enter Tryd.func83, Tryd.ntmps83
        go_wp2
        go_quiet ((go_at_call 84; exact Calls.quiet_of_same (HHAS.out _)))
        go_wp2
        go_ret
        exact ⟨by rw [HV.out]; simp [hv], Kept.drewN _ _ _⟩
    · have hyb : ((y : Int) != 1) = true := by simp; omega
      have HY : Hid ((y == 1) = false) := by show _ = _; simp [hy]
      clear hy
      go_enter Tryd.func83, Tryd.ntmps83
      go_wp2
      go_quiet ((go_at_call 84; exact Calls.quiet_of_same (HHAS.out _)))
      go_wp2
      go_ret
      exact ⟨by rw [HV.out, HY.out]; rfl, Kept.drewN _ _ _⟩
set_option maxRecDepth 100000 in
set_option maxHeartbeats 1000000 in
theorem gopen_any {w : World} {B : Nat} {X : Sa} {S : St} {bs bl bn bf off c g bb : Nat} {F : Sf} {f : Nat → Nat} (h : Gt w B X S bs bl bn bf off c g F f) (hSh : Shape S) (hb : w.cell? ⟨bb, 0, none⟩ = some (.func (.func 83) #[] #[.pointer (some ⟨bs, 0, none⟩), .pointer (some ⟨bl, 0, none⟩), .pointer (some ⟨bn, 0, none⟩)])) {it : Nat} (hi : it < S.groups.length) : Calls Tryd.prog 85 #[.int .i64 (it : Int), .pointer (some ⟨bl, 0, none⟩), .pointer (some ⟨bb, 0, none⟩)] w fun e w' => e = .returned (.bool (openB S F S.groups.length f it)) ∧ Kept w w' none := by
  have hng := hSh.ok.ng
  have pl := h.pl
  have HG := Hid.mk' h
  have HSH := Hid.mk' hSh
  have HB := Hid.mk' hb
  clear h hSh hb
  go_enter Tryd.func85, Tryd.ntmps85
  go_wp2
  go_loopw [5, 8] (fun _ i wr => ∃ k : Nat, k ≤ S.groups.length ∧ i = .int .i64 k ∧ Kept w wr none ∧ ∀ j, j < k → barB S F f it j = false) (fun _ i _ => S.groups.length - (intOf i).toNat)
  case atStart => exact ⟨0, by omega, rfl, Kept.refl _ _, fun j hj => by omega⟩
  case round =>
    obtain ⟨k, hk, rfl, hkw, hno⟩ := hrel
    have HKW := Hid.mk' hkw
    have HN := Hid.mk' hno
    clear hkw hno
    by_cases hlt : k < S.groups.length
    · have pb := cell_kept0 HB.out HKW.out
      have HBA := Hid.mk' (gbars_any (HG.out.kept HKW.out) HSH.out hlt hi)
      have HY : Hid (barB S F f it k = true → openB S F S.groups.length f it = false) := fun e => allB_no hlt (by rw [e]; rfl)
      have HNO : Hid (barB S F f it k = false → ∀ j, j < k + 1 → barB S F f it j = false) := fun e => ext_no HN.out e
      generalize barB S F f it k = z at *
      cases z with
      | true =>
        have HF := Hid.mk' (HY.out rfl)
        clear HNO HY
        go_wp2_with (go_at_call 83; refine HBA.out.mono ?_; rintro e w2 ⟨rfl, hk2⟩)
        go_ret
        exact ⟨by rw [HF.out]; rfl, HKW.out.tr hk2⟩
      | false =>
        have HN2 := Hid.mk' (HNO.out rfl)
        clear HNO HY
        go_wp2_with (go_at_call 83; refine HBA.out.mono ?_; rintro e w2 ⟨rfl, hk2⟩)
        go_roundw
        case rel => exact ⟨k + 1, by omega, by go_num, HKW.out.tr hk2, HN2.out⟩
        case measure => simp [intOf]; omega
    · have e : k = S.groups.length := by omega
      subst e
      have HF : Hid (openB S F S.groups.length f it = true) := allB_iff.2 (fun j hj => by rw [HN.out j hj]; rfl)
      go_wp2
      go_ret
      exact ⟨by rw [HF.out]; rfl, HKW.out⟩

end Go.Proofs.YtfhmfanmnhclfaaDoor

