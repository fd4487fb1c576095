/-
  Texts joined: some of those that the proofs of this seat stand on.
-/
import Derived.Test.YtabikoipjaggbaaSto1J
import Derived.RangeFuncNested
import Derived.RangeFuncBound
import Derived.RangeFuncCalls
import Derived.RangeFuncLeaves
import Derived.Shelf.Abstract
import Derived.Shelf.RegionOpen
import Derived.WalkKit
import Derived.OwnWalkIn
import Derived.TacticsInMore
import Derived.LoopNIn
import Derived.LoopIn
import Derived.Maps.AppendAt
import Derived.RegionIn
import Derived.Stop.RegionWithIn
import Derived.WalkMore
import Derived.Scope
import Derived.Test.YtabikoipjaggbaaWorld
import Derived.Test.YtabikoipjaggbaaSStMJ
import Derived.Laws.AppendOwnNone
import Derived.Test.YtabikoipjaggbaaCrcJ
import Derived.Test.YtabikoipjaggbaaSFitsJ
/-
  THE CONTRACTS of slices.Chunk, by 48, and of slices.Collect of it.
-/
namespace Go.Proofs.Ytabikoipjaggbaa
open Go.RowKit Go.Lib Go.Deep Go.Shelf
set_option linter.unusedVariables false
set_option linter.unusedSimpArgs false
attribute [local go_sem] Oper.semAt_some

/-- A number below another one. -/
abbrev IxS (m : Nat) := { i : Nat // i < m }
def ivS {m : Nat} (l : List (IxS m)) : List Nat := l.map (·.1)
theorem ivS_snoc {m : Nat} (l : List (IxS m)) (x : IxS m) : ivS (l ++ [x]) = ivS l ++ [x.1] := by simp [ivS]
/-- Piece i of the row G. -/
def pcV (G i : Nat) : Value := .slice (some ⟨G, 48 * i, none⟩) 48 48
def pcsV (G : Nat) {m : Nat} (x : IxS m) : Array Value := #[pcV G x.1]
set_option maxRecDepth 100000 in
set_option maxHeartbeats 4000000 in
theorem chunk1_in (q : Nat) (hq : 1 ≤ q) (l B0 B1 G m : Nat) (hm : m ≤ 1000) (W0 : World) (n0 : Nat) (h0 : B0 < n0) (h1 : B1 < n0)
    (k0 : W0.cell? ⟨B0, 0, none⟩ = some (.slice (some ⟨G, 0, none⟩) (48 * m) (48 * m))) (k1 : W0.cell? ⟨B1, 0, none⟩ = some (.int .i64 48))
    (J Jx : List (IxS m) → World → Prop) (W : World) (hJA : AbidesFrom W.heap.size J)
    (hY : ∀ pre (x : IxS m) W, J pre W → pre.length < m → YieldAt Fence.wide (q - 1) Try.prog l (pcsV G x) W fun e W' =>
      (e = .returned (.bool true) ∧ J (pre ++ [x]) W' ∧ Below n0 W W') ∨ (e = .returned (.bool false) ∧ Jx (pre ++ [x]) W'))
    (hW : Below n0 W0 W) (hJ : J [] W) :
    CallsIn Fence.wide q Try.prog 70 #[.func (.yield l) #[] #[], .pointer (some ⟨B0, 0, none⟩), .pointer (some ⟨B1, 0, none⟩)] W fun e W' => (∃ v, e = .returned v) ∧
      ((∃ ys, ivS ys = List.range m ∧ J ys W') ∨ (∃ pre : List (IxS m), (∃ k, k < m ∧ ivS pre = List.range (k + 1)) ∧ Jx pre W')) := by
  have HW := Hid.mk' hW
  have HY := Hid.mk' hY
  have H0 := Hid.mk' hJ
  have K0 := Hid.mk' k0
  have K1 := Hid.mk' k1
  clear hW hY hJ k0 k1
  refine callsIn_of_wp Try.func70 rfl trivial ?_ rfl
  simp only [Try.ntmps70, List.size_toArray, List.length_cons, List.length_nil, Nat.reduceAdd, Nat.reduceSub, Array.replicate_succ, Array.replicate_zero, List.push_toArray, List.append_toArray, List.nil_append, List.cons_append]
  gi_wp2
  gi_loopw [4] (fun i wr => ∃ (k : Nat) (pre : List (IxS m)), k ≤ m ∧ i = .int .i64 (48 * (k : Int)) ∧ ivS pre = List.range k ∧ J pre wr ∧ Below n0 W0 wr) (fun i _ => 48 * m - (intOf i).toNat)
  case atStart => exact ⟨0, [], by omega, rfl, rfl, H0.out, HW.out⟩
  case round =>
    obtain ⟨k, pre, hk, rfl, hpre, hJs, hnx⟩ := hrel
    have HP := Hid.mk' hpre
    have HN := Hid.mk' hnx
    have c0 := (hnx.cell (p := ⟨B0, 0, none⟩) h0).trans K0.out
    have c1 := (hnx.cell (p := ⟨B1, 0, none⟩) h1).trans K1.out
    clear hpre hnx
    by_cases hlt : k < m
    · obtain ⟨fn, tmps, assign, body, hy, hRR⟩ := HY.out pre ⟨k, hlt⟩ wr.drew (hJA pre wr wr.drew none hJs (kept_drw wr none) (fun r e => (nomatch e))) (by have := congrArg List.length HP.out; simp [ivS] at this; omega)
      have e48 : 48 * k + 48 - 48 * k = 48 := by omega
      unfold pcsV pcV at hy
      dsimp only at hy
      have HL : Hid (ivS (pre ++ [⟨k, hlt⟩]) = List.range (k + 1)) := by show _ = _; rw [ivS_snoc, HP.out, List.range_succ]
      generalize hz : (pre ++ [(⟨k, hlt⟩ : IxS m)]) = pre2 at *
      clear hz hJs
      gi_wp2
      gi_region
      all_goals gi_wp2
      all_goals (refine hRR.mono ?_)
      all_goals (
        rintro e W3 (⟨rfl, hJ3, hk3⟩ | ⟨rfl, hJx3⟩)
        · have d1 := (hk3.cell (p := ⟨B1, 0, none⟩) h1).trans (show wr.drew.cell? _ = _ from c1)
          gi_wp2
          go_roundw
          case rel => exact ⟨k + 1, pre2, by omega, by go_num, HL.out, hJ3, HN.out.drew.trans hk3⟩
          case measure => simp [intOf]; omega
        · gi_wp2
          refine bodyPost_ret (results_none rfl _ _ _) rfl ?_
          exact ⟨⟨_, rfl⟩, .inr ⟨_, ⟨k, hlt, HL.out⟩, hJx3⟩⟩)
    · obtain rfl : k = m := by omega
      gi_wp2
      go_end0
      exact ⟨⟨_, rfl⟩, .inl ⟨pre, HP.out, hJs⟩⟩
theorem chunk_stops (q : Nat) (hq : 1 ≤ q) (B0 B1 G m : Nat) (hm : m ≤ 1000) (W0 : World) (n0 : Nat) (hn0 : n0 ≤ W0.heap.size) (h0 : B0 < n0) (h1 : B1 < n0)
    (k0 : W0.cell? ⟨B0, 0, none⟩ = some (.slice (some ⟨G, 0, none⟩) (48 * m) (48 * m))) (k1 : W0.cell? ⟨B1, 0, none⟩ = some (.int .i64 48)) :
    SeqStopsK Fence.wide q Try.prog 70 #[.pointer (some ⟨B0, 0, none⟩), .pointer (some ⟨B1, 0, none⟩)] (fun x : IxS m => pcsV G x) (Below n0) (fun ys => ivS ys = List.range m) (fun pre => ∃ k, k < m ∧ ivS pre = List.range (k + 1)) m W0 := fun l J Jx W hW hJ _ hY h0' =>
  chunk1_in q hq l B0 B1 G m hm W0 n0 h0 h1 k0 k1 J Jx W hJ hY (hW.mono hn0) h0'
set_option maxHeartbeats 1000000 in
theorem chunk_in (q : Nat) (w : World) (a : Option Addr) (n c : Nat) :
    CallsIn Fence.wide q Try.prog 47 #[.slice a n c, .int .i64 48] w fun e w' => e = .returned (.func (.func 70) #[] #[.pointer (some ⟨w.heap.size, 0, none⟩), .pointer (some ⟨w.heap.size + 1, 0, none⟩)]) ∧ w' = (w.alloc (.cells #[.slice a n c] 22)).alloc (.cells #[.int .i64 48] 3) := by
  refine callsIn_of_wp Try.func47 rfl trivial ?_ rfl
  simp only [Try.ntmps47, List.size_toArray, List.length_cons, List.length_nil, Nat.reduceAdd, Nat.reduceSub, Array.replicate_succ, Array.replicate_zero, List.push_toArray, List.append_toArray, List.nil_append, List.cons_append]
  gi_wp2
  go_ret
  exact ⟨rfl, rfl⟩

theorem own_slice {w : World} {base : Nat} {e : TypeId} {size : Nat} {v : Value} {n : Nat} {xs : List Value} (h : w.ownsRow base e size v n xs) : ∃ a cap, v = .slice a n cap := by
  rcases id h.2 with ⟨rfl, h0⟩ | ⟨g, cap, cur, rfl, _⟩
  · subst h0; exact ⟨_, _, rfl⟩
  · exact ⟨_, _, rfl⟩
set_option maxRecDepth 100000 in
set_option maxHeartbeats 4000000 in
theorem appseq_in (q : Nat) (hq : 3 ≤ q) (B0 B1 G m : Nat) (hm : m ≤ 1000) (w : World) (h0 : B0 < w.heap.size) (h1 : B1 < w.heap.size)
    (k0 : w.cell? ⟨B0, 0, none⟩ = some (.slice (some ⟨G, 0, none⟩) (48 * m) (48 * m))) (k1 : w.cell? ⟨B1, 0, none⟩ = some (.int .i64 48)) :
    CallsIn Fence.wide q Try.prog 69 #[.slice none 0 0, .func (.func 70) #[] #[.pointer (some ⟨B0, 0, none⟩), .pointer (some ⟨B1, 0, none⟩)]] w fun e W' => ∃ a cap, e = .returned (.slice a m cap) ∧ W'.ownsRow w.heap.size 22 1 (.slice a m cap) m ((List.range m).map (pcV G)) ∧ Below w.heap.size w W' := by
  have hq1 : 1 ≤ q := by omega
  obtain ⟨i0, hi, hz0, hz1, hz2⟩ := info_parts Try.infoB2
  refine callsIn_of_wp_marks Try.func69 rfl trivial ?_ rfl
  simp only [Try.ntmps69, List.size_toArray, List.length_cons, List.length_nil, Nat.reduceAdd, Nat.reduceSub, Array.replicate_succ, Array.replicate_zero, List.push_toArray, List.append_toArray, List.nil_append, List.cons_append]
  gi_wp2
  have bO := Boxed.new w 60 (.slice none 0 0)
  have hB0 : Below w.heap.size w (w.alloc (.cells #[.slice none 0 0] 60)) := (Below.refl _ w).alloc (Nat.le_refl _) _
  refine wpIn_rangeFunc_ownG rfl hq1 (gf := 70) (lb := #[.pointer (some ⟨B0, 0, none⟩), .pointer (some ⟨B1, 0, none⟩)]) rfl trivial (enters_of Try.func70 (by kernel_rfl) rfl)
    (chunk_stops (q - 1) (by omega) B0 B1 G m hm _ w.heap.size (by simp) h0 h1 ((hB0.cell (p := ⟨B0, 0, none⟩) h0).trans k0) ((hB0.cell (p := ⟨B1, 0, none⟩) h1).trans k1)) belowK_t (belowK_b (by simp)) (Below.refl _ _) (fun _ => rfl)
    (fun pre W => (∃ v, Boxed W w.heap.size 60 v ∧ W.ownsRow w.heap.size 22 1 v pre.length ((ivS pre).map (pcV G)) ∧ True) ∧ Below w.heap.size w W)
    (fun _ _ _ => False)
    (OwnFrom.and (Own.from (holdsRow_own w.heap.size w.heap.size 60 22 1 (fun (pre : List (IxS m)) => pre.length) (fun pre => (ivS pre).map (pcV G)) (fun _ _ => True)) _) (ownFrom_below (Nat.le_refl _) (by simp)))
    (fun _ _ _ _ _ hs _ _ => hs)
    ⟨⟨_, bO, World.ownsRow_nil _ _ _ _, trivial⟩, hB0⟩
    (fun x => { tmps := #[.slice none 0 0, .func (.func 70) #[] #[.pointer (some ⟨B0, 0, none⟩), .pointer (some ⟨B1, 0, none⟩)], .pointer (some ⟨w.heap.size, 0, none⟩), undef, .slice none 0 0, .slice (some ⟨G, 48 * x.1, none⟩) 48 48, .func (.func 70) #[] #[.pointer (some ⟨B0, 0, none⟩), .pointer (some ⟨B1, 0, none⟩)], .slice (some ⟨G, 48 * x.1, none⟩) 48 48, undef, undef, undef, undef, undef], defers := [] }) ?assign ?body ?done ?stop
  case assign =>
    intro l x W K hK
    unfold pcsV pcV
    gi_wp2
    exact hK
  case body =>
    rintro l pre x W ⟨⟨v, hv, hrow, _⟩, hB⟩ hlt
    have hc := hv.cell
    gi_wp2_with (gi_at_builtin; refine wpListIn_append_own _ rfl _ _ 60 rfl w.heap.size 22 i0 (.slice none 0 0) 1 24 Try.uB2 hi hz0 hz1 hz2 rfl (by decide) _ _ _ rfl (hrow.alloc _) ⟨W.heap.size, 0, none⟩ 1 1 [.slice (some ⟨G, 48 * x.1, none⟩) 48 48] rfl rfl (cell_one_new _ _ _) (by simp [Value.oneCell']) (by unfold maxLen; omega) (by omega) (by have := hB.size; simp; omega) ?_; intro v' w1 hown' hgrow _; obtain ⟨g', cap', rfl⟩ := ownsRow_succ hown'; obtain ⟨hv1, hv2, hr2, hk2, hb2⟩ := hv.appended (by decide) hrow hB.size (Nat.le_refl _) hown' hgrow; have hc1 := hv1.cell; have hf1 := hv1.frozen)
    exact ⟨hk2.from _, hb2, ⟨_, hv2, by rw [ivS_snoc, List.map_append, List.length_append]; simpa [pcV] using hr2, trivial⟩, hB.trans hb2⟩
  case done =>
    rintro D ys W hD hys ⟨⟨v, hv, hrow, _⟩, hB⟩ hK
    have hc := hv.cell
    have hl : ys.length = m := by have := congrArg List.length hys; simpa [ivS] using this
    rw [hys, hl] at hrow
    gi_wp2
    refine ⟨by simp, .inl ⟨_, _, rfl, run_takeDeferred hK, ?_⟩⟩
    obtain ⟨a, cap, rfl⟩ := own_slice hrow
    exact ⟨_, results_tmp rfl _ _ _, a, cap, rfl, ownsRow_putObj hrow _ hK rfl, hB.trans (belowK_b (w := w) (Nat.le_refl _) W D _ _ (by simp at hD; omega) hK rfl rfl)⟩
  case stop =>
    rintro D c pre W _ _ h _
    exact h.elim
set_option maxHeartbeats 1000000 in
theorem collect_in (q : Nat) (hq : 4 ≤ q) (B0 B1 G m : Nat) (hm : m ≤ 1000) (w : World) (h0 : B0 < w.heap.size) (h1 : B1 < w.heap.size)
    (k0 : w.cell? ⟨B0, 0, none⟩ = some (.slice (some ⟨G, 0, none⟩) (48 * m) (48 * m))) (k1 : w.cell? ⟨B1, 0, none⟩ = some (.int .i64 48)) :
    CallsIn Fence.wide q Try.prog 46 #[.func (.func 70) #[] #[.pointer (some ⟨B0, 0, none⟩), .pointer (some ⟨B1, 0, none⟩)]] w fun e W' => ∃ a cap, e = .returned (.slice a m cap) ∧ W'.ownsRow w.heap.size 22 1 (.slice a m cap) m ((List.range m).map (pcV G)) ∧ Below w.heap.size w W' := by
  have HA := Hid.mk' (appseq_in (q - 1) (by omega) B0 B1 G m hm w h0 h1 k0 k1)
  refine callsIn_of_wp Try.func46 rfl trivial ?_ rfl
  simp only [Try.ntmps46, List.size_toArray, List.length_cons, List.length_nil, Nat.reduceAdd, Nat.reduceSub, Array.replicate_succ, Array.replicate_zero, List.push_toArray, List.append_toArray, List.nil_append, List.cons_append]
  gi_wp2_with (refine ⟨trivial, fun _ => by omega, ?_⟩; gi_at_call 69; refine HA.out.mono ?_; rintro e w' ⟨a, cap, rfl, hr, hb⟩)
  go_ret
  exact ⟨a, cap, rfl, hr, hb⟩

end Go.Proofs.Ytabikoipjaggbaa

/-
  Of the text TwinA: what this stage needs (culled by a program).
-/
namespace Go.Proofs.Ytabikoipjaggbaa
open Go.RowKit Go.Lib Go.Deep
set_option linter.unusedVariables false
set_option linter.unusedSimpArgs false

/-- A list's cells, one after the other. -/
def cellsL (n k : Nat) (f : Nat → Nat → Value) : List Value := (List.range (n * k)).map fun q => f (q / k) (q % k)
theorem cellsL_len (n k : Nat) (f : Nat → Nat → Value) : (cellsL n k f).length = n * k := by simp [cellsL]
theorem cellsL_at {n k q : Nat} {f : Nat → Nat → Value} (h : q < n * k) : (cellsL n k f)[q]? = some (f (q / k) (q % k)) := by
  unfold cellsL
  rw [List.getElem?_map, List.getElem?_range h]
  rfl
theorem cellsL_news {w : World} {b off n k : Nat} {f : Nat → Nat → Value} (hk : 0 < k) (hc : ∀ i, i < n → ∀ j, j < k → w.cell? ⟨b, off + i * k + j, none⟩ = some (f i j)) :
    ∀ j u, (cellsL n k f)[j]? = some u → w.cell? ((⟨b, off, none⟩ : Addr).add j) = some u := by
  intro j u hu
  have hj : j < n * k := by have := (List.getElem?_eq_some_iff.1 hu).1; rwa [cellsL_len] at this
  rw [cellsL_at hj] at hu
  have h1 : j / k < n := by rw [Nat.div_lt_iff_lt_mul hk]; exact hj
  have h2 : j % k < k := Nat.mod_lt _ hk
  have h3 := hc _ h1 _ h2
  have h4 : off + j / k * k + j % k = off + j := by
    have := Nat.div_add_mod j k
    rw [Nat.mul_comm] at this
    omega
  rw [h4] at h3
  rw [Addr.add_lit, h3]
  exact hu
theorem cellsL_one {n k : Nat} {f : Nat → Nat → Value} (h : ∀ i j, (f i j).oneCell' = true) : ∀ u ∈ cellsL n k f, u.oneCell' = true := by
  intro u hu
  unfold cellsL at hu
  simp only [List.mem_map] at hu
  obtain ⟨x, _, rfl⟩ := hu
  exact h _ _
/-- What an own row holds, element by element. -/
theorem lie_own {w : World} {base n k : Nat} {e : TypeId} {v : Value} {f : Nat → Nat → Value} (hk : 0 < k) (h : w.ownsRow base e k v n (cellsL n k f)) : ∃ a cap, v = .slice a n cap ∧ Lie w a n k f ∧ Cap a n cap ∧ (∀ b, a = some b → base ≤ b.block ∧ b.block < w.heap.size) := by
  rcases id h.2 with ⟨rfl, rfl⟩ | ⟨g, cap, cur, rfl, hb, hg, hle, hm, hcs, ht⟩
  · exact ⟨none, 0, rfl, ⟨fun hp => absurd hp (by omega)⟩, ⟨fun _ => ⟨rfl, rfl⟩, Nat.le_refl _, by omega⟩, fun b e => nomatch e⟩
  · unfold maxLen at hm
    refine ⟨some ⟨g, 0, none⟩, cap, rfl, ⟨fun hp => ⟨g, 0, rfl, (Array.getElem?_eq_some_iff.1 hg).1, fun i hi j hj => ?_⟩⟩, ⟨fun e => (nomatch e), hle, by omega⟩, fun b e => by cases e; exact ⟨hb, (Array.getElem?_eq_some_iff.1 hg).1⟩⟩
    have hq : i * k + j < n * k := by
      have h1 : (i + 1) * k ≤ n * k := Nat.mul_le_mul_right k (by omega)
      rw [Nat.add_mul] at h1
      omega
    have h2 : (cur.toList.take (n * k))[i * k + j]? = some (f i j) := by
      rw [ht, cellsL_at hq]
      have h3 : (i * k + j) / k = i := by rw [Nat.add_comm, Nat.add_mul_div_right _ _ hk, Nat.div_eq_of_lt hj, Nat.zero_add]
      have h4 : (i * k + j) % k = j := by rw [Nat.add_comm, Nat.add_mul_mod_self_right, Nat.mod_eq_of_lt hj]
      rw [h3, h4]
    rw [List.getElem?_take_of_lt hq, Array.getElem?_toList] at h2
    rw [Nat.zero_add]
    simp only [World.cell?, hg]
    exact h2
/-- append(nil, list...). -/
theorem twin_run {w : World} {t ty e : TypeId} {i : TypeInfo} {z : Value} {k bytes : Nat} (ht : Try.prog.underlying t = some (.slice e)) (hi : Try.prog.info? e = some i) (hz : i.zero = some z) (hsize : i.size = k) (hby : i.bytes = bytes) (hzs : z.cells.size = k) (hk : 0 < k) (hbb : bytes ≤ 1000)
    {a : Option Addr} {n c : Nat} {f : Nat → Nat → Value} (hL : Lie w a n k f) (hc : Cap a n c) (hn : n ≤ 1000) (h1 : ∀ i j, (f i j).oneCell' = true) :
    ∃ a' cap w', (Builtin.append_ #[t, t] ty #[.slice none 0 0, .slice a n c]).run Try.prog w = .ok (.slice a' n cap) w' ∧ Lie w' a' n k f ∧ Cap a' n cap ∧ (∀ b, a' = some b → w.heap.size ≤ b.block ∧ b.block < w'.heap.size) ∧ Kept w w' none := by
  cases a with
  | none =>
    obtain ⟨rfl, rfl⟩ := hc.nil rfl
    have hrun := run_append_owned_none (P := Try.prog) (w := w) w.heap.size t ty e i k ht hi (.slice none 0 0) 0 [] (World.ownsRow_nil _ _ _ _)
    exact ⟨none, 0, w, hrun, ⟨fun hp => absurd hp (by omega)⟩, ⟨fun _ => ⟨rfl, rfl⟩, Nat.le_refl _, by omega⟩, fun b e => (nomatch e), Kept.refl _ _⟩
  | some ad =>
    have hnews : ∀ j u, (cellsL n k f)[j]? = some u → w.cell? (ad.add j) = some u := by
      by_cases hp : 0 < n
      · obtain ⟨b, off, e, _, hcell⟩ := hL.at_ hp
        injection e with e
        subst e
        exact cellsL_news hk hcell
      · intro j u hu
        have hn0 : n = 0 := by omega
        subst hn0
        simp [cellsL] at hu
    have hbytes : (0 + n) * bytes ≤ 140737488355328 := by
      have h2 : n * bytes ≤ 1000 * 1000 := Nat.mul_le_mul hn hbb
      rw [Nat.zero_add]
      omega
    obtain ⟨v', w', hr, h2, h3, _⟩ := run_append_own (P := Try.prog) w w.heap.size t ty e i z k bytes ht hi hz hsize hby hzs hk (.slice none 0 0) 0 [] (World.ownsRow_nil _ _ _ _) ad n c (cellsL n k f) (cellsL_len _ _ _) hnews (cellsL_one h1) (by unfold maxLen; omega) hbytes (Nat.le_refl _)
    rw [Nat.zero_add, List.nil_append] at h2
    obtain ⟨a', cap, rfl, g1, g2, g3⟩ := lie_own hk h2
    exact ⟨a', cap, w', hr, g1, g2, g3, h3⟩

end Go.Proofs.Ytabikoipjaggbaa

/-
  Of the text TwinZ: what this stage needs (culled by a program).
-/
namespace Go.Proofs.Ytabikoipjaggbaa
open Go.RowKit Go.Lib Go.Deep
set_option linter.unusedVariables false
set_option linter.unusedSimpArgs false

theorem kept_setZ (w : World) (b j : Nat) (v : Value) : Kept w (w.setCell ⟨b, j, none⟩ v) (some b) :=
  ⟨rfl, rfl, rfl, by simp [World.setCell], fun k hk hr => by
    simp only [World.setCell]
    rw [Array.getElem?_modify, if_neg (fun e => hr (by rw [e]))]⟩
theorem kept_newZ {w w' : World} {r : Option Nat} (h : Kept w w' r) {g : Nat} (hg : w.heap.size ≤ g) (j : Nat) (v : Value) : Kept w (w'.setCell ⟨g, j, none⟩ v) r :=
  ⟨h.os, h.tape, h.output, by simpa [World.setCell] using h.size, fun k hk hr => (Below.heap_setCell _ _ _ _ (by show k ≠ g; omega)).trans (h.block k hk hr)⟩
abbrev zSZ : Array Value := #[.int .i64 0, .slice none 0 0, .slice none 0 0, .slice none 0 0, .slice none 0 0, .slice none 0 0, .int .i64 0, .int .i64 0, .int .i64 0, .int .i64 0, .int .i64 0, .slice none 0 0]
def fSZ (c : Array Value) (i : Nat) : Value := c[i]?.getD undef
theorem fSZ_set (c : Array Value) (j : Nat) (v : Value) (hj : j < c.size) (i : Nat) : (if i = j then v else fSZ c i) = fSZ (c.setIfInBounds j v) i := by
  unfold fSZ
  rw [Array.getElem?_setIfInBounds]
  by_cases h : i = j
  · subst h; simp [hj]
  · rw [if_neg h, if_neg (fun e => h e.symm)]
structure LtrZ (lo : Nat) (w w' : World) : Prop where
  size : w.heap.size ≤ w'.heap.size
  block : ∀ k, lo ≤ k → k < w.heap.size → w'.heap[k]? = w.heap[k]?
theorem LtrZ.tr {lo : Nat} {a b c : World} (h : LtrZ lo a b) (k : LtrZ lo b c) : LtrZ lo a c := ⟨Nat.le_trans h.size k.size, fun i hi hl => (k.block i hi (Nat.lt_of_lt_of_le hl h.size)).trans (h.block i hi hl)⟩
theorem LtrZ.up {lo lo' : Nat} {a b : World} (h : LtrZ lo a b) (q : lo ≤ lo') : LtrZ lo' a b := ⟨h.size, fun i hi hl => h.block i (Nat.le_trans q hi) hl⟩
theorem Kept.ltrZ {w w' : World} {x lo : Nat} (h : Kept w w' (some x)) (hx : x < lo) : LtrZ lo w w' := ⟨h.size, fun k hk hl => h.block k hl (fun e => by have := Option.some.inj e; omega)⟩
theorem LtrZ.set {lo : Nat} (w : World) {g : Nat} (hg : g < lo) (j : Nat) (v : Value) : LtrZ lo w (w.setCell ⟨g, j, none⟩ v) := (kept_setZ w g j v).ltrZ hg
theorem LtrZ.cell {lo : Nat} {w w' : World} {b j : Nat} {v : Value} (q : LtrZ lo w w') (h : w.cell? ⟨b, j, none⟩ = some v) (hb : lo ≤ b) : w'.cell? ⟨b, j, none⟩ = some v :=
  (World.cell?_of_block (w := w) (a := ⟨b, j, none⟩) (q.block b hb (block_lt h))).trans h
theorem frozen_blockZ {w w' : World} {b j : Nat} (h : w'.heap[b]? = w.heap[b]?) : w'.frozen? ⟨b, j, none⟩ = w.frozen? ⟨b, j, none⟩ := by
  unfold World.frozen?
  simp only [h]

end Go.Proofs.Ytabikoipjaggbaa

