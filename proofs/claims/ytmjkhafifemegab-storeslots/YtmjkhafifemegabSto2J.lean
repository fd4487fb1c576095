/-
  Texts joined: some of those that the proofs of this seat stand on.
-/
import Derived.Test.YtmjkhafifemegabRefNumJ
import Derived.Lib.AppendZerosOnto
import Derived.Lib.AppendZeros
import Derived.RangeFuncNested
import Derived.RangeFuncBound
import Derived.RangeFuncCalls
import Derived.RangeFuncLeaves
import Derived.Shelf.Abstract
import Derived.Shelf.RegionOpen
import Derived.WalkKit
import Derived.OwnWalkIn
import Derived.TacticsInMore
import Derived.LoopNIn
import Derived.LoopIn
import Derived.Maps.AppendAt
import Derived.RegionIn
import Derived.Stop.RegionWithIn
import Derived.WalkMore
import Derived.Scope
/-
  THE CONTRACTS of slices.Grow (of nothing) and slices.Concat, over bytes; what stands between the numbers of all blocks, one behind the other (toldBy's loop).
-/
namespace Go.Proofs.Ytmjkhafifemegab
open Go.RowKit Go.Lib Go.Deep
set_option linter.unusedVariables false
set_option linter.unusedSimpArgs false

theorem grow_zeros (w : World) (n : Nat) (h0 : 0 < n) (hn : n ≤ 100000) : ∃ cap w', (Builtin.append_ #[22, 3] 22 #[.slice none 0 0, .int .i64 (n : Int)]).run Try.prog w = .ok (.slice (some ⟨w.heap.size, 0, none⟩) n cap) w' ∧ n ≤ cap ∧ cap ≤ 9223372036854775807 ∧ Mine w' w.heap.size (some ⟨w.heap.size, 0, none⟩) 0 cap [] ∧ Kept w w' none := by
  obtain ⟨i0, hi0, hz0, hz1, hz2⟩ := info_parts Try.info5
  have hr := run_append_nil_zeros (P := Try.prog) w 22 3 22 5 i0 _ .i64 .i64 Try.uB (by kernel_rfl) hi0 hz0 n h0 (by omega) (by omega) (by rw [hz2]; omega)
  have hge := grownCap_ge w n 0 5
  have hle := grownCap_le_maxLen w n 0 5 (by unfold maxLen; omega)
  refine ⟨_, _, hr, hge, by unfold maxLen at hle; omega, ⟨World.ownsRow_made w.drew _ _ (Nat.le_refl _) hle ?_, fun e => (nomatch e), Nat.zero_le _, by unfold maxLen at hle; omega⟩, (kept_drw w none).tr (Kept.alloc _ _ _ _ _)⟩
  simp [size_zeroCells, Value.cells]
  omega
set_option maxRecDepth 100000 in
set_option maxHeartbeats 1000000 in
theorem grow_any (n : Nat) (w : World) (h0 : 0 < n) (hn : n ≤ 100000) : Calls Try.prog 52 #[.slice none 0 0, .int .i64 (n : Int)] w fun e w' => ∃ cap, e = .returned (.slice (some ⟨w.heap.size, 0, none⟩) 0 cap) ∧ Mine w' w.heap.size (some ⟨w.heap.size, 0, none⟩) 0 cap [] ∧ Kept w w' none := by
  obtain ⟨cap, w', hr, hc1, hc2, hm, hk⟩ := grow_zeros w n h0 hn
  have HM := Hid.mk' hm
  have HR := Hid.mk' hr
  clear hm hr
  go_enter Try.func52, Try.ntmps52
  go_wp2_with (at_builtin; refine Lib.wpList_append_run _ rfl _ _ _ _ rfl _ _ rfl rfl _ _ HR.out ?_)
  go_ret
  exact ⟨cap, rfl, HM.out, hk⟩

theorem flat_succ {B : List (List Nat)} {k : Nat} (h : k < B.length) : (B.take (k + 1)).flatten = (B.take k).flatten ++ B.getD k [] := by
  rw [List.take_succ_eq_append_getElem h, List.flatten_append]
  simp [h]
theorem flat_le {B : List (List Nat)} (k : Nat) : (B.take k).flatten.length ≤ B.flatten.length := by
  conv => rhs; rw [← List.take_append_drop k B, List.flatten_append, List.length_append]
  omega
set_option maxRecDepth 100000 in
set_option maxHeartbeats 1000000 in
theorem conc_any {la : Option Addr} {m c : Nat} {B : List (List Nat)} {w : World} (h : Bl w 0 la m B) (h0 : 0 < B.flatten.length) (h1 : B.flatten.length ≤ 100000) :
    Calls Try.prog 36 #[.slice la m c] w fun e w' => ∃ a cap, e = .returned (.slice a B.flatten.length cap) ∧ Mine w' w.heap.size a B.flatten.length cap B.flatten ∧ Kept w w' none := by
  have HA := Hid.mk' h
  have hm := h.max
  have hsa := Hid.mk' h.size
  have HL := Hid.mk' h.lt
  clear h
  go_enter Try.func36, Try.ntmps36
  go_wp2
  go_loopw [3, 11] (fun s i wr => ∃ k : Nat, k ≤ m ∧ i = .int .i64 k ∧ s = .int .i64 (((B.take k).flatten.length : Nat) : Int) ∧ wr = w) (fun _ i _ => m - (intOf i).toNat)
  case atStart => exact ⟨0, Nat.zero_le _, rfl, rfl, by first | rfl | trivial⟩
  case round =>
    obtain ⟨k, hk, rfl, rfl, hw⟩ := hrel
    have hw2 := hw.symm
    clear hw
    subst hw2
    by_cases hlt : k < m
    · obtain ⟨b1, o1, a1, c1, rfl, hb1, p1, hC1⟩ := HA.out.get hlt
      have HF := Hid.mk' (flat_succ (B := B) (k := k) (by rw [hsa.out]; exact hlt))
      have hle := flat_le (B := B) (k + 1)
      rw [HF.out, List.length_append] at hle
      have hl1 := hC1.by_.max
      clear hC1
      generalize hx : B.getD k [] = x at *
      generalize hy : (B.take k).flatten = y at *
      clear hx hy
      go_wp2
      go_roundw
      case rel => exact ⟨k + 1, by omega, by go_num, by rw [HF.out, List.length_append]; go_num, by first | rfl | trivial⟩
      case measure => simp [intOf]; omega
    · have hkm : k = m := by omega
      subst hkm
      have e : B.take k = B := List.take_of_length_le (by rw [hsa.out]; exact Nat.le_refl _)
      rw [e]
      have HE := Hid.mk' e
      obtain ⟨N, hN⟩ : ∃ N, Hid (B.flatten.length = N) := ⟨_, Hid.mk' rfl⟩
      have HLE := Hid.mk' (fun q => flat_le (B := B) q)
      rw [hN.out] at h0 h1 HLE ⊢
      clear e
      go_wp2_with (go_at_call 52; refine (grow_any _ _ h0 h1).mono ?_; rintro e w2 ⟨cap2, rfl, hm2, hk2⟩; have HM2 := Hid.mk' hm2; clear hm2)
      go_loopw [6, 27] (fun s i wr => ∃ k' : Nat, k' ≤ k ∧ i = .int .i64 k' ∧ ∃ a' n' c', s = .slice a' n' c' ∧ n' = (B.take k').flatten.length ∧ Mine wr w.heap.size a' n' c' (B.take k').flatten ∧ Kept w wr none) (fun _ i _ => k - (intOf i).toNat)
      case atStart => exact ⟨0, Nat.zero_le _, rfl, _, _, _, rfl, by simp, HM2.out, hk2⟩
      case round =>
        obtain ⟨q, hq, rfl, a', n', c', rfl, hn', hMi, hkr⟩ := hrel
        have HN := Hid.mk' hn'
        have HMI := Hid.mk' hMi
        have HK := Hid.mk' hkr
        clear hMi
        by_cases hlt2 : q < k
        · obtain ⟨b1, o1, a1, c1, rfl, hb1, p1, hC1⟩ := (HA.out.kept hkr).get hlt2
          have HF := Hid.mk' (flat_succ (B := B) (k := q) (by rw [hsa.out]; exact hlt2))
          have hle := HLE.out (q + 1)
          rw [HF.out, List.length_append, ← hn'] at hle
          have hl1 := hC1.by_.max
          have HC := Hid.mk' hC1
          clear hC1 hn' hkr
          generalize hx : B.getD q [] = x at *
          generalize hy : (B.take q).flatten = y at *
          clear hx hy
          go_wp2_with (at_builtin; refine wpList_join (by rfl) _ _ (by rfl) w.heap.size (.slice a' n' c') n' y (by rfl) HMI.out.own a1 x.length c1 x (by rfl) HC.out.by_ HC.out.nil (by omega) HK.out.size ?_; intro a3 c3 w3 hm3 hg3)
          go_roundw
          case rel => exact ⟨q + 1, by omega, by go_num, a3, _, c3, rfl, by rw [HF.out, List.length_append, ← HN.out], by rw [HF.out]; exact hm3, HK.out.newRow hg3 (fun i h => HMI.out.new i h)⟩
          case measure => simp [intOf]; omega
        · have hqk : q = k := by omega
          subst hqk
          rw [HE.out] at HN HMI
          have hn2 := HN.out
          rw [hN.out] at hn2
          subst hn2
          clear hn'
          go_wp2
          go_ret
          rw [hN.out]
          exact ⟨a', c', rfl, HMI.out, HK.out⟩

end Go.Proofs.Ytmjkhafifemegab

/-
  THE CONTRACTS of slices.Chunk, by 48, and of slices.Collect of it.
-/
namespace Go.Proofs.Ytmjkhafifemegab
open Go.RowKit Go.Lib Go.Deep Go.Shelf
set_option linter.unusedVariables false
set_option linter.unusedSimpArgs false
attribute [local go_sem] Oper.semAt_some

/-- A number below another one. -/
abbrev IxS (m : Nat) := { i : Nat // i < m }
def ivS {m : Nat} (l : List (IxS m)) : List Nat := l.map (·.1)
theorem ivS_snoc {m : Nat} (l : List (IxS m)) (x : IxS m) : ivS (l ++ [x]) = ivS l ++ [x.1] := by simp [ivS]
/-- Piece i of the row G. -/
def pcV (G i : Nat) : Value := .slice (some ⟨G, 48 * i, none⟩) 48 48
def pcsV (G : Nat) {m : Nat} (x : IxS m) : Array Value := #[pcV G x.1]
set_option maxRecDepth 100000 in
set_option maxHeartbeats 4000000 in
theorem chunk1_in (q : Nat) (hq : 1 ≤ q) (l B0 B1 G m : Nat) (hm : m ≤ 1000) (W0 : World) (n0 : Nat) (h0 : B0 < n0) (h1 : B1 < n0)
    (k0 : W0.cell? ⟨B0, 0, none⟩ = some (.slice (some ⟨G, 0, none⟩) (48 * m) (48 * m))) (k1 : W0.cell? ⟨B1, 0, none⟩ = some (.int .i64 48))
    (J Jx : List (IxS m) → World → Prop) (W : World) (hJA : AbidesFrom W.heap.size J)
    (hY : ∀ pre (x : IxS m) W, J pre W → pre.length < m → YieldAt Fence.wide (q - 1) Try.prog l (pcsV G x) W fun e W' =>
      (e = .returned (.bool true) ∧ J (pre ++ [x]) W' ∧ Below n0 W W') ∨ (e = .returned (.bool false) ∧ Jx (pre ++ [x]) W'))
    (hW : Below n0 W0 W) (hJ : J [] W) :
    CallsIn Fence.wide q Try.prog 50 #[.func (.yield l) #[] #[], .pointer (some ⟨B0, 0, none⟩), .pointer (some ⟨B1, 0, none⟩)] W fun e W' => (∃ v, e = .returned v) ∧
      ((∃ ys, ivS ys = List.range m ∧ J ys W') ∨ (∃ pre : List (IxS m), (∃ k, k < m ∧ ivS pre = List.range (k + 1)) ∧ Jx pre W')) := by
  have HW := Hid.mk' hW
  have HY := Hid.mk' hY
  have H0 := Hid.mk' hJ
  have K0 := Hid.mk' k0
  have K1 := Hid.mk' k1
  clear hW hY hJ k0 k1
  refine callsIn_of_wp Try.func50 rfl trivial ?_ rfl
  simp only [Try.ntmps50, List.size_toArray, List.length_cons, List.length_nil, Nat.reduceAdd, Nat.reduceSub, Array.replicate_succ, Array.replicate_zero, List.push_toArray, List.append_toArray, List.nil_append, List.cons_append]
  gi_wp2
  gi_loopw [4] (fun i wr => ∃ (k : Nat) (pre : List (IxS m)), k ≤ m ∧ i = .int .i64 (48 * (k : Int)) ∧ ivS pre = List.range k ∧ J pre wr ∧ Below n0 W0 wr) (fun i _ => 48 * m - (intOf i).toNat)
  case atStart => exact ⟨0, [], by omega, rfl, rfl, H0.out, HW.out⟩
  case round =>
    obtain ⟨k, pre, hk, rfl, hpre, hJs, hnx⟩ := hrel
    have HP := Hid.mk' hpre
    have HN := Hid.mk' hnx
    have c0 := (hnx.cell (p := ⟨B0, 0, none⟩) h0).trans K0.out
    have c1 := (hnx.cell (p := ⟨B1, 0, none⟩) h1).trans K1.out
    clear hpre hnx
    by_cases hlt : k < m
    · obtain ⟨fn, tmps, assign, body, hy, hRR⟩ := HY.out pre ⟨k, hlt⟩ wr.drew (hJA pre wr wr.drew none hJs (kept_drw wr none) (fun r e => (nomatch e))) (by have := congrArg List.length HP.out; simp [ivS] at this; omega)
      have e48 : 48 * k + 48 - 48 * k = 48 := by omega
      unfold pcsV pcV at hy
      dsimp only at hy
      have HL : Hid (ivS (pre ++ [⟨k, hlt⟩]) = List.range (k + 1)) := by show _ = _; rw [ivS_snoc, HP.out, List.range_succ]
      generalize hz : (pre ++ [(⟨k, hlt⟩ : IxS m)]) = pre2 at *
      clear hz hJs
      gi_wp2
      gi_region
      all_goals gi_wp2
      all_goals (refine hRR.mono ?_)
      all_goals (
        rintro e W3 (⟨rfl, hJ3, hk3⟩ | ⟨rfl, hJx3⟩)
        · have d1 := (hk3.cell (p := ⟨B1, 0, none⟩) h1).trans (show wr.drew.cell? _ = _ from c1)
          gi_wp2
          go_roundw
          case rel => exact ⟨k + 1, pre2, by omega, by go_num, HL.out, hJ3, HN.out.drew.trans hk3⟩
          case measure => simp [intOf]; omega
        · gi_wp2
          refine bodyPost_ret (results_none rfl _ _ _) rfl ?_
          exact ⟨⟨_, rfl⟩, .inr ⟨_, ⟨k, hlt, HL.out⟩, hJx3⟩⟩)
    · obtain rfl : k = m := by omega
      gi_wp2
      go_end0
      exact ⟨⟨_, rfl⟩, .inl ⟨pre, HP.out, hJs⟩⟩
theorem chunk_stops (q : Nat) (hq : 1 ≤ q) (B0 B1 G m : Nat) (hm : m ≤ 1000) (W0 : World) (n0 : Nat) (hn0 : n0 ≤ W0.heap.size) (h0 : B0 < n0) (h1 : B1 < n0)
    (k0 : W0.cell? ⟨B0, 0, none⟩ = some (.slice (some ⟨G, 0, none⟩) (48 * m) (48 * m))) (k1 : W0.cell? ⟨B1, 0, none⟩ = some (.int .i64 48)) :
    SeqStopsK Fence.wide q Try.prog 50 #[.pointer (some ⟨B0, 0, none⟩), .pointer (some ⟨B1, 0, none⟩)] (fun x : IxS m => pcsV G x) (Below n0) (fun ys => ivS ys = List.range m) (fun pre => ∃ k, k < m ∧ ivS pre = List.range (k + 1)) m W0 := fun l J Jx W hW hJ _ hY h0' =>
  chunk1_in q hq l B0 B1 G m hm W0 n0 h0 h1 k0 k1 J Jx W hJ hY (hW.mono hn0) h0'
set_option maxHeartbeats 1000000 in
theorem chunk_in (q : Nat) (w : World) (a : Option Addr) (n c : Nat) :
    CallsIn Fence.wide q Try.prog 32 #[.slice a n c, .int .i64 48] w fun e w' => e = .returned (.func (.func 50) #[] #[.pointer (some ⟨w.heap.size, 0, none⟩), .pointer (some ⟨w.heap.size + 1, 0, none⟩)]) ∧ w' = (w.alloc (.cells #[.slice a n c] 22)).alloc (.cells #[.int .i64 48] 3) := by
  refine callsIn_of_wp Try.func32 rfl trivial ?_ rfl
  simp only [Try.ntmps32, List.size_toArray, List.length_cons, List.length_nil, Nat.reduceAdd, Nat.reduceSub, Array.replicate_succ, Array.replicate_zero, List.push_toArray, List.append_toArray, List.nil_append, List.cons_append]
  gi_wp2
  go_ret
  exact ⟨rfl, rfl⟩

theorem own_slice {w : World} {base : Nat} {e : TypeId} {size : Nat} {v : Value} {n : Nat} {xs : List Value} (h : w.ownsRow base e size v n xs) : ∃ a cap, v = .slice a n cap := by
  rcases id h.2 with ⟨rfl, h0⟩ | ⟨g, cap, cur, rfl, _⟩
  · subst h0; exact ⟨_, _, rfl⟩
  · exact ⟨_, _, rfl⟩
set_option maxRecDepth 100000 in
set_option maxHeartbeats 4000000 in
theorem appseq_in (q : Nat) (hq : 3 ≤ q) (B0 B1 G m : Nat) (hm : m ≤ 1000) (w : World) (h0 : B0 < w.heap.size) (h1 : B1 < w.heap.size)
    (k0 : w.cell? ⟨B0, 0, none⟩ = some (.slice (some ⟨G, 0, none⟩) (48 * m) (48 * m))) (k1 : w.cell? ⟨B1, 0, none⟩ = some (.int .i64 48)) :
    CallsIn Fence.wide q Try.prog 49 #[.slice none 0 0, .func (.func 50) #[] #[.pointer (some ⟨B0, 0, none⟩), .pointer (some ⟨B1, 0, none⟩)]] w fun e W' => ∃ a cap, e = .returned (.slice a m cap) ∧ W'.ownsRow w.heap.size 22 1 (.slice a m cap) m ((List.range m).map (pcV G)) ∧ Below w.heap.size w W' := by
  have hq1 : 1 ≤ q := by omega
  obtain ⟨i0, hi, hz0, hz1, hz2⟩ := info_parts Try.infoB2
  refine callsIn_of_wp_marks Try.func49 rfl trivial ?_ rfl
  simp only [Try.ntmps49, List.size_toArray, List.length_cons, List.length_nil, Nat.reduceAdd, Nat.reduceSub, Array.replicate_succ, Array.replicate_zero, List.push_toArray, List.append_toArray, List.nil_append, List.cons_append]
  gi_wp2
  have bO := Boxed.new w 46 (.slice none 0 0)
  have hB0 : Below w.heap.size w (w.alloc (.cells #[.slice none 0 0] 46)) := (Below.refl _ w).alloc (Nat.le_refl _) _
  refine wpIn_rangeFunc_ownG rfl hq1 (gf := 50) (lb := #[.pointer (some ⟨B0, 0, none⟩), .pointer (some ⟨B1, 0, none⟩)]) rfl trivial (enters_of Try.func50 (by kernel_rfl) rfl)
    (chunk_stops (q - 1) (by omega) B0 B1 G m hm _ w.heap.size (by simp) h0 h1 ((hB0.cell (p := ⟨B0, 0, none⟩) h0).trans k0) ((hB0.cell (p := ⟨B1, 0, none⟩) h1).trans k1)) belowK_t (belowK_b (by simp)) (Below.refl _ _) (fun _ => rfl)
    (fun pre W => (∃ v, Boxed W w.heap.size 46 v ∧ W.ownsRow w.heap.size 22 1 v pre.length ((ivS pre).map (pcV G)) ∧ True) ∧ Below w.heap.size w W)
    (fun _ _ _ => False)
    (OwnFrom.and (Own.from (holdsRow_own w.heap.size w.heap.size 46 22 1 (fun (pre : List (IxS m)) => pre.length) (fun pre => (ivS pre).map (pcV G)) (fun _ _ => True)) _) (ownFrom_below (Nat.le_refl _) (by simp)))
    (fun _ _ _ _ _ hs _ _ => hs)
    ⟨⟨_, bO, World.ownsRow_nil _ _ _ _, trivial⟩, hB0⟩
    (fun x => { tmps := #[.slice none 0 0, .func (.func 50) #[] #[.pointer (some ⟨B0, 0, none⟩), .pointer (some ⟨B1, 0, none⟩)], .pointer (some ⟨w.heap.size, 0, none⟩), undef, .slice none 0 0, .slice (some ⟨G, 48 * x.1, none⟩) 48 48, .func (.func 50) #[] #[.pointer (some ⟨B0, 0, none⟩), .pointer (some ⟨B1, 0, none⟩)], .slice (some ⟨G, 48 * x.1, none⟩) 48 48, undef, undef, undef, undef, undef], defers := [] }) ?assign ?body ?done ?stop
  case assign =>
    intro l x W K hK
    unfold pcsV pcV
    gi_wp2
    exact hK
  case body =>
    rintro l pre x W ⟨⟨v, hv, hrow, _⟩, hB⟩ hlt
    have hc := hv.cell
    gi_wp2_with (gi_at_builtin; refine wpListIn_append_own _ rfl _ _ 46 rfl w.heap.size 22 i0 (.slice none 0 0) 1 24 Try.uB2 hi hz0 hz1 hz2 rfl (by decide) _ _ _ rfl (hrow.alloc _) ⟨W.heap.size, 0, none⟩ 1 1 [.slice (some ⟨G, 48 * x.1, none⟩) 48 48] rfl rfl (cell_one_new _ _ _) (by simp [Value.oneCell']) (by unfold maxLen; omega) (by omega) (by have := hB.size; simp; omega) ?_; intro v' w1 hown' hgrow _; obtain ⟨g', cap', rfl⟩ := ownsRow_succ hown'; obtain ⟨hv1, hv2, hr2, hk2, hb2⟩ := hv.appended (by decide) hrow hB.size (Nat.le_refl _) hown' hgrow; have hc1 := hv1.cell; have hf1 := hv1.frozen)
    exact ⟨hk2.from _, hb2, ⟨_, hv2, by rw [ivS_snoc, List.map_append, List.length_append]; simpa [pcV] using hr2, trivial⟩, hB.trans hb2⟩
  case done =>
    rintro D ys W hD hys ⟨⟨v, hv, hrow, _⟩, hB⟩ hK
    have hc := hv.cell
    have hl : ys.length = m := by have := congrArg List.length hys; simpa [ivS] using this
    rw [hys, hl] at hrow
    gi_wp2
    refine ⟨by simp, .inl ⟨_, _, rfl, run_takeDeferred hK, ?_⟩⟩
    obtain ⟨a, cap, rfl⟩ := own_slice hrow
    exact ⟨_, results_tmp rfl _ _ _, a, cap, rfl, ownsRow_putObj hrow _ hK rfl, hB.trans (belowK_b (w := w) (Nat.le_refl _) W D _ _ (by simp at hD; omega) hK rfl rfl)⟩
  case stop =>
    rintro D c pre W _ _ h _
    exact h.elim
set_option maxHeartbeats 1000000 in
theorem collect_in (q : Nat) (hq : 4 ≤ q) (B0 B1 G m : Nat) (hm : m ≤ 1000) (w : World) (h0 : B0 < w.heap.size) (h1 : B1 < w.heap.size)
    (k0 : w.cell? ⟨B0, 0, none⟩ = some (.slice (some ⟨G, 0, none⟩) (48 * m) (48 * m))) (k1 : w.cell? ⟨B1, 0, none⟩ = some (.int .i64 48)) :
    CallsIn Fence.wide q Try.prog 31 #[.func (.func 50) #[] #[.pointer (some ⟨B0, 0, none⟩), .pointer (some ⟨B1, 0, none⟩)]] w fun e W' => ∃ a cap, e = .returned (.slice a m cap) ∧ W'.ownsRow w.heap.size 22 1 (.slice a m cap) m ((List.range m).map (pcV G)) ∧ Below w.heap.size w W' := by
  have HA := Hid.mk' (appseq_in (q - 1) (by omega) B0 B1 G m hm w h0 h1 k0 k1)
  refine callsIn_of_wp Try.func31 rfl trivial ?_ rfl
  simp only [Try.ntmps31, List.size_toArray, List.length_cons, List.length_nil, Nat.reduceAdd, Nat.reduceSub, Array.replicate_succ, Array.replicate_zero, List.push_toArray, List.append_toArray, List.nil_append, List.cons_append]
  gi_wp2_with (refine ⟨trivial, fun _ => by omega, ?_⟩; gi_at_call 49; refine HA.out.mono ?_; rintro e w' ⟨a, cap, rfl, hr, hb⟩)
  go_ret
  exact ⟨a, cap, rfl, hr, hb⟩

end Go.Proofs.Ytmjkhafifemegab

