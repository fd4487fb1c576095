/-
  Texts joined: some of those that the proofs of this seat stand on.
-/
import Derived.Test.YtlabjamkaebnjaaRefNumJ
import Derived.RangeFuncNested
import Derived.RangeFuncBound
import Derived.RangeFuncCalls
import Derived.RangeFuncLeaves
import Derived.Shelf.Abstract
import Derived.Shelf.RegionOpen
import Derived.WalkKit
import Derived.OwnWalkIn
import Derived.TacticsInMore
import Derived.LoopNIn
import Derived.LoopIn
import Derived.Maps.AppendAt
import Derived.RegionIn
import Derived.Stop.RegionWithIn
import Derived.WalkMore
import Derived.Scope
import Derived.Test.YtlabjamkaebnjaaMathsJ
import Derived.Test.YtlabjamkaebnjaaSStMJ
import Derived.Laws.AppendOwnNone
import Derived.Test.YtlabjamkaebnjaaCrcJ
import Derived.Test.YtlabjamkaebnjaaSFitsJ
/-
  THE CONTRACTS of slices.Chunk, by 48, and of slices.Collect of it.
-/
namespace Go.Proofs.Ytlabjamkaebnjaa
open Go.RowKit Go.Lib Go.Deep Go.Shelf
set_option linter.unusedVariables false
set_option linter.unusedSimpArgs false
attribute [local go_sem] Oper.semAt_some

/-- A number below another one. -/
abbrev IxS (m : Nat) := { i : Nat // i < m }
def ivS {m : Nat} (l : List (IxS m)) : List Nat := l.map (·.1)
theorem ivS_snoc {m : Nat} (l : List (IxS m)) (x : IxS m) : ivS (l ++ [x]) = ivS l ++ [x.1] := by simp [ivS]
/-- Piece i of the row G. -/
def pcV (G i : Nat) : Value := .slice (some ⟨G, 48 * i, none⟩) 48 48
def pcsV (G : Nat) {m : Nat} (x : IxS m) : Array Value := #[pcV G x.1]
set_option maxRecDepth 100000 in
set_option maxHeartbeats 4000000 in
theorem chunk1_in (q : Nat) (hq : 1 ≤ q) (l B0 B1 G m : Nat) (hm : m ≤ 1000) (W0 : World) (n0 : Nat) (h0 : B0 < n0) (h1 : B1 < n0)
    (k0 : W0.cell? ⟨B0, 0, none⟩ = some (.slice (some ⟨G, 0, none⟩) (48 * m) (48 * m))) (k1 : W0.cell? ⟨B1, 0, none⟩ = some (.int .i64 48))
    (J Jx : List (IxS m) → World → Prop) (W : World) (hJA : AbidesFrom W.heap.size J)
    (hY : ∀ pre (x : IxS m) W, J pre W → pre.length < m → YieldAt Fence.wide (q - 1) Try.prog l (pcsV G x) W fun e W' =>
      (e = .returned (.bool true) ∧ J (pre ++ [x]) W' ∧ Below n0 W W') ∨ (e = .returned (.bool false) ∧ Jx (pre ++ [x]) W'))
    (hW : Below n0 W0 W) (hJ : J [] W) :
    CallsIn Fence.wide q Try.prog 63 #[.func (.yield l) #[] #[], .pointer (some ⟨B0, 0, none⟩), .pointer (some ⟨B1, 0, none⟩)] W fun e W' => (∃ v, e = .returned v) ∧
      ((∃ ys, ivS ys = List.range m ∧ J ys W') ∨ (∃ pre : List (IxS m), (∃ k, k < m ∧ ivS pre = List.range (k + 1)) ∧ Jx pre W')) := by
  have HW := Hid.mk' hW
  have HY := Hid.mk' hY
  have H0 := Hid.mk' hJ
  have K0 := Hid.mk' k0
  have K1 := Hid.mk' k1
  clear hW hY hJ k0 k1
  refine callsIn_of_wp Try.func63 rfl trivial ?_ rfl
  simp only [Try.ntmps63, List.size_toArray, List.length_cons, List.length_nil, Nat.reduceAdd, Nat.reduceSub, Array.replicate_succ, Array.replicate_zero, List.push_toArray, List.append_toArray, List.nil_append, List.cons_append]
  gi_wp2
  gi_loopw [4] (fun i wr => ∃ (k : Nat) (pre : List (IxS m)), k ≤ m ∧ i = .int .i64 (48 * (k : Int)) ∧ ivS pre = List.range k ∧ J pre wr ∧ Below n0 W0 wr) (fun i _ => 48 * m - (intOf i).toNat)
  case atStart => exact ⟨0, [], by omega, rfl, rfl, H0.out, HW.out⟩
  case round =>
    obtain ⟨k, pre, hk, rfl, hpre, hJs, hnx⟩ := hrel
    have HP := Hid.mk' hpre
    have HN := Hid.mk' hnx
    have c0 := (hnx.cell (p := ⟨B0, 0, none⟩) h0).trans K0.out
    have c1 := (hnx.cell (p := ⟨B1, 0, none⟩) h1).trans K1.out
    clear hpre hnx
    by_cases hlt : k < m
    · obtain ⟨fn, tmps, assign, body, hy, hRR⟩ := HY.out pre ⟨k, hlt⟩ wr.drew (hJA pre wr wr.drew none hJs (kept_drw wr none) (fun r e => (nomatch e))) (by have := congrArg List.length HP.out; simp [ivS] at this; omega)
      have e48 : 48 * k + 48 - 48 * k = 48 := by omega
      unfold pcsV pcV at hy
      dsimp only at hy
      have HL : Hid (ivS (pre ++ [⟨k, hlt⟩]) = List.range (k + 1)) := by show _ = _; rw [ivS_snoc, HP.out, List.range_succ]
      generalize hz : (pre ++ [(⟨k, hlt⟩ : IxS m)]) = pre2 at *
      clear hz hJs
      gi_wp2
      gi_region
      all_goals gi_wp2
      all_goals (refine hRR.mono ?_)
      all_goals (
        rintro e W3 (⟨rfl, hJ3, hk3⟩ | ⟨rfl, hJx3⟩)
        · have d1 := (hk3.cell (p := ⟨B1, 0, none⟩) h1).trans (show wr.drew.cell? _ = _ from c1)
          gi_wp2
          go_roundw
          case rel => exact ⟨k + 1, pre2, by omega, by go_num, HL.out, hJ3, HN.out.drew.trans hk3⟩
          case measure => simp [intOf]; omega
        · gi_wp2
          refine bodyPost_ret (results_none rfl _ _ _) rfl ?_
          exact ⟨⟨_, rfl⟩, .inr ⟨_, ⟨k, hlt, HL.out⟩, hJx3⟩⟩)
    · obtain rfl : k = m := by omega
      gi_wp2
      go_end0
      exact ⟨⟨_, rfl⟩, .inl ⟨pre, HP.out, hJs⟩⟩
theorem chunk_stops (q : Nat) (hq : 1 ≤ q) (B0 B1 G m : Nat) (hm : m ≤ 1000) (W0 : World) (n0 : Nat) (hn0 : n0 ≤ W0.heap.size) (h0 : B0 < n0) (h1 : B1 < n0)
    (k0 : W0.cell? ⟨B0, 0, none⟩ = some (.slice (some ⟨G, 0, none⟩) (48 * m) (48 * m))) (k1 : W0.cell? ⟨B1, 0, none⟩ = some (.int .i64 48)) :
    SeqStopsK Fence.wide q Try.prog 63 #[.pointer (some ⟨B0, 0, none⟩), .pointer (some ⟨B1, 0, none⟩)] (fun x : IxS m => pcsV G x) (Below n0) (fun ys => ivS ys = List.range m) (fun pre => ∃ k, k < m ∧ ivS pre = List.range (k + 1)) m W0 := fun l J Jx W hW hJ _ hY h0' =>
  chunk1_in q hq l B0 B1 G m hm W0 n0 h0 h1 k0 k1 J Jx W hJ hY (hW.mono hn0) h0'
set_option maxHeartbeats 1000000 in
theorem chunk_in (q : Nat) (w : World) (a : Option Addr) (n c : Nat) :
    CallsIn Fence.wide q Try.prog 43 #[.slice a n c, .int .i64 48] w fun e w' => e = .returned (.func (.func 63) #[] #[.pointer (some ⟨w.heap.size, 0, none⟩), .pointer (some ⟨w.heap.size + 1, 0, none⟩)]) ∧ w' = (w.alloc (.cells #[.slice a n c] 22)).alloc (.cells #[.int .i64 48] 3) := by
  refine callsIn_of_wp Try.func43 rfl trivial ?_ rfl
  simp only [Try.ntmps43, List.size_toArray, List.length_cons, List.length_nil, Nat.reduceAdd, Nat.reduceSub, Array.replicate_succ, Array.replicate_zero, List.push_toArray, List.append_toArray, List.nil_append, List.cons_append]
  gi_wp2
  go_ret
  exact ⟨rfl, rfl⟩

theorem own_slice {w : World} {base : Nat} {e : TypeId} {size : Nat} {v : Value} {n : Nat} {xs : List Value} (h : w.ownsRow base e size v n xs) : ∃ a cap, v = .slice a n cap := by
  rcases id h.2 with ⟨rfl, h0⟩ | ⟨g, cap, cur, rfl, _⟩
  · subst h0; exact ⟨_, _, rfl⟩
  · exact ⟨_, _, rfl⟩
set_option maxRecDepth 100000 in
set_option maxHeartbeats 4000000 in
theorem appseq_in (q : Nat) (hq : 3 ≤ q) (B0 B1 G m : Nat) (hm : m ≤ 1000) (w : World) (h0 : B0 < w.heap.size) (h1 : B1 < w.heap.size)
    (k0 : w.cell? ⟨B0, 0, none⟩ = some (.slice (some ⟨G, 0, none⟩) (48 * m) (48 * m))) (k1 : w.cell? ⟨B1, 0, none⟩ = some (.int .i64 48)) :
    CallsIn Fence.wide q Try.prog 62 #[.slice none 0 0, .func (.func 63) #[] #[.pointer (some ⟨B0, 0, none⟩), .pointer (some ⟨B1, 0, none⟩)]] w fun e W' => ∃ a cap, e = .returned (.slice a m cap) ∧ W'.ownsRow w.heap.size 22 1 (.slice a m cap) m ((List.range m).map (pcV G)) ∧ Below w.heap.size w W' := by
  have hq1 : 1 ≤ q := by omega
  obtain ⟨i0, hi, hz0, hz1, hz2⟩ := info_parts Try.infoB2
  refine callsIn_of_wp_marks Try.func62 rfl trivial ?_ rfl
  simp only [Try.ntmps62, List.size_toArray, List.length_cons, List.length_nil, Nat.reduceAdd, Nat.reduceSub, Array.replicate_succ, Array.replicate_zero, List.push_toArray, List.append_toArray, List.nil_append, List.cons_append]
  gi_wp2
  have bO := Boxed.new w 64 (.slice none 0 0)
  have hB0 : Below w.heap.size w (w.alloc (.cells #[.slice none 0 0] 64)) := (Below.refl _ w).alloc (Nat.le_refl _) _
  refine wpIn_rangeFunc_ownG rfl hq1 (gf := 63) (lb := #[.pointer (some ⟨B0, 0, none⟩), .pointer (some ⟨B1, 0, none⟩)]) rfl trivial (enters_of Try.func63 (by kernel_rfl) rfl)
    (chunk_stops (q - 1) (by omega) B0 B1 G m hm _ w.heap.size (by simp) h0 h1 ((hB0.cell (p := ⟨B0, 0, none⟩) h0).trans k0) ((hB0.cell (p := ⟨B1, 0, none⟩) h1).trans k1)) belowK_t (belowK_b (by simp)) (Below.refl _ _) (fun _ => rfl)
    (fun pre W => (∃ v, Boxed W w.heap.size 64 v ∧ W.ownsRow w.heap.size 22 1 v pre.length ((ivS pre).map (pcV G)) ∧ True) ∧ Below w.heap.size w W)
    (fun _ _ _ => False)
    (OwnFrom.and (Own.from (holdsRow_own w.heap.size w.heap.size 64 22 1 (fun (pre : List (IxS m)) => pre.length) (fun pre => (ivS pre).map (pcV G)) (fun _ _ => True)) _) (ownFrom_below (Nat.le_refl _) (by simp)))
    (fun _ _ _ _ _ hs _ _ => hs)
    ⟨⟨_, bO, World.ownsRow_nil _ _ _ _, trivial⟩, hB0⟩
    (fun x => { tmps := #[.slice none 0 0, .func (.func 63) #[] #[.pointer (some ⟨B0, 0, none⟩), .pointer (some ⟨B1, 0, none⟩)], .pointer (some ⟨w.heap.size, 0, none⟩), undef, .slice none 0 0, .slice (some ⟨G, 48 * x.1, none⟩) 48 48, .func (.func 63) #[] #[.pointer (some ⟨B0, 0, none⟩), .pointer (some ⟨B1, 0, none⟩)], .slice (some ⟨G, 48 * x.1, none⟩) 48 48, undef, undef, undef, undef, undef], defers := [] }) ?assign ?body ?done ?stop
  case assign =>
    intro l x W K hK
    unfold pcsV pcV
    gi_wp2
    exact hK
  case body =>
    rintro l pre x W ⟨⟨v, hv, hrow, _⟩, hB⟩ hlt
    have hc := hv.cell
    gi_wp2_with (gi_at_builtin; refine wpListIn_append_own _ rfl _ _ 64 rfl w.heap.size 22 i0 (.slice none 0 0) 1 24 Try.uB2 hi hz0 hz1 hz2 rfl (by decide) _ _ _ rfl (hrow.alloc _) ⟨W.heap.size, 0, none⟩ 1 1 [.slice (some ⟨G, 48 * x.1, none⟩) 48 48] rfl rfl (cell_one_new _ _ _) (by simp [Value.oneCell']) (by unfold maxLen; omega) (by omega) (by have := hB.size; simp; omega) ?_; intro v' w1 hown' hgrow _; obtain ⟨g', cap', rfl⟩ := ownsRow_succ hown'; obtain ⟨hv1, hv2, hr2, hk2, hb2⟩ := hv.appended (by decide) hrow hB.size (Nat.le_refl _) hown' hgrow; have hc1 := hv1.cell; have hf1 := hv1.frozen)
    exact ⟨hk2.from _, hb2, ⟨_, hv2, by rw [ivS_snoc, List.map_append, List.length_append]; simpa [pcV] using hr2, trivial⟩, hB.trans hb2⟩
  case done =>
    rintro D ys W hD hys ⟨⟨v, hv, hrow, _⟩, hB⟩ hK
    have hc := hv.cell
    have hl : ys.length = m := by have := congrArg List.length hys; simpa [ivS] using this
    rw [hys, hl] at hrow
    gi_wp2
    refine ⟨by simp, .inl ⟨_, _, rfl, run_takeDeferred hK, ?_⟩⟩
    obtain ⟨a, cap, rfl⟩ := own_slice hrow
    exact ⟨_, results_tmp rfl _ _ _, a, cap, rfl, ownsRow_putObj hrow _ hK rfl, hB.trans (belowK_b (w := w) (Nat.le_refl _) W D _ _ (by simp at hD; omega) hK rfl rfl)⟩
  case stop =>
    rintro D c pre W _ _ h _
    exact h.elim
set_option maxHeartbeats 1000000 in
theorem collect_in (q : Nat) (hq : 4 ≤ q) (B0 B1 G m : Nat) (hm : m ≤ 1000) (w : World) (h0 : B0 < w.heap.size) (h1 : B1 < w.heap.size)
    (k0 : w.cell? ⟨B0, 0, none⟩ = some (.slice (some ⟨G, 0, none⟩) (48 * m) (48 * m))) (k1 : w.cell? ⟨B1, 0, none⟩ = some (.int .i64 48)) :
    CallsIn Fence.wide q Try.prog 42 #[.func (.func 63) #[] #[.pointer (some ⟨B0, 0, none⟩), .pointer (some ⟨B1, 0, none⟩)]] w fun e W' => ∃ a cap, e = .returned (.slice a m cap) ∧ W'.ownsRow w.heap.size 22 1 (.slice a m cap) m ((List.range m).map (pcV G)) ∧ Below w.heap.size w W' := by
  have HA := Hid.mk' (appseq_in (q - 1) (by omega) B0 B1 G m hm w h0 h1 k0 k1)
  refine callsIn_of_wp Try.func42 rfl trivial ?_ rfl
  simp only [Try.ntmps42, List.size_toArray, List.length_cons, List.length_nil, Nat.reduceAdd, Nat.reduceSub, Array.replicate_succ, Array.replicate_zero, List.push_toArray, List.append_toArray, List.nil_append, List.cons_append]
  gi_wp2_with (refine ⟨trivial, fun _ => by omega, ?_⟩; gi_at_call 62; refine HA.out.mono ?_; rintro e w' ⟨a, cap, rfl, hr, hb⟩)
  go_ret
  exact ⟨a, cap, rfl, hr, hb⟩

end Go.Proofs.Ytlabjamkaebnjaa

/-
  Of the text TwinA: what this stage needs (culled by a program).
-/
namespace Go.Proofs.Ytlabjamkaebnjaa
open Go.RowKit Go.Lib Go.Deep
set_option linter.unusedVariables false
set_option linter.unusedSimpArgs false

/-- A list's cells, one after the other. -/
def cellsL (n k : Nat) (f : Nat → Nat → Value) : List Value := (List.range (n * k)).map fun q => f (q / k) (q % k)
theorem cellsL_len (n k : Nat) (f : Nat → Nat → Value) : (cellsL n k f).length = n * k := by simp [cellsL]
theorem cellsL_at {n k q : Nat} {f : Nat → Nat → Value} (h : q < n * k) : (cellsL n k f)[q]? = some (f (q / k) (q % k)) := by
  unfold cellsL
  rw [List.getElem?_map, List.getElem?_range h]
  rfl
theorem cellsL_news {w : World} {b off n k : Nat} {f : Nat → Nat → Value} (hk : 0 < k) (hc : ∀ i, i < n → ∀ j, j < k → w.cell? ⟨b, off + i * k + j, none⟩ = some (f i j)) :
    ∀ j u, (cellsL n k f)[j]? = some u → w.cell? ((⟨b, off, none⟩ : Addr).add j) = some u := by
  intro j u hu
  have hj : j < n * k := by have := (List.getElem?_eq_some_iff.1 hu).1; rwa [cellsL_len] at this
  rw [cellsL_at hj] at hu
  have h1 : j / k < n := by rw [Nat.div_lt_iff_lt_mul hk]; exact hj
  have h2 : j % k < k := Nat.mod_lt _ hk
  have h3 := hc _ h1 _ h2
  have h4 : off + j / k * k + j % k = off + j := by
    have := Nat.div_add_mod j k
    rw [Nat.mul_comm] at this
    omega
  rw [h4] at h3
  rw [Addr.add_lit, h3]
  exact hu
theorem cellsL_one {n k : Nat} {f : Nat → Nat → Value} (h : ∀ i j, (f i j).oneCell' = true) : ∀ u ∈ cellsL n k f, u.oneCell' = true := by
  intro u hu
  unfold cellsL at hu
  simp only [List.mem_map] at hu
  obtain ⟨x, _, rfl⟩ := hu
  exact h _ _
/-- What an own row holds, element by element. -/
theorem lie_own {w : World} {base n k : Nat} {e : TypeId} {v : Value} {f : Nat → Nat → Value} (hk : 0 < k) (h : w.ownsRow base e k v n (cellsL n k f)) : ∃ a cap, v = .slice a n cap ∧ Lie w a n k f ∧ Cap a n cap ∧ (∀ b, a = some b → base ≤ b.block ∧ b.block < w.heap.size) := by
  rcases id h.2 with ⟨rfl, rfl⟩ | ⟨g, cap, cur, rfl, hb, hg, hle, hm, hcs, ht⟩
  · exact ⟨none, 0, rfl, ⟨fun hp => absurd hp (by omega)⟩, ⟨fun _ => ⟨rfl, rfl⟩, Nat.le_refl _, by omega⟩, fun b e => nomatch e⟩
  · unfold maxLen at hm
    refine ⟨some ⟨g, 0, none⟩, cap, rfl, ⟨fun hp => ⟨g, 0, rfl, (Array.getElem?_eq_some_iff.1 hg).1, fun i hi j hj => ?_⟩⟩, ⟨fun e => (nomatch e), hle, by omega⟩, fun b e => by cases e; exact ⟨hb, (Array.getElem?_eq_some_iff.1 hg).1⟩⟩
    have hq : i * k + j < n * k := by
      have h1 : (i + 1) * k ≤ n * k := Nat.mul_le_mul_right k (by omega)
      rw [Nat.add_mul] at h1
      omega
    have h2 : (cur.toList.take (n * k))[i * k + j]? = some (f i j) := by
      rw [ht, cellsL_at hq]
      have h3 : (i * k + j) / k = i := by rw [Nat.add_comm, Nat.add_mul_div_right _ _ hk, Nat.div_eq_of_lt hj, Nat.zero_add]
      have h4 : (i * k + j) % k = j := by rw [Nat.add_comm, Nat.add_mul_mod_self_right, Nat.mod_eq_of_lt hj]
      rw [h3, h4]
    rw [List.getElem?_take_of_lt hq, Array.getElem?_toList] at h2
    rw [Nat.zero_add]
    simp only [World.cell?, hg]
    exact h2
/-- append(nil, list...). -/
theorem twin_run {w : World} {t ty e : TypeId} {i : TypeInfo} {z : Value} {k bytes : Nat} (ht : Try.prog.underlying t = some (.slice e)) (hi : Try.prog.info? e = some i) (hz : i.zero = some z) (hsize : i.size = k) (hby : i.bytes = bytes) (hzs : z.cells.size = k) (hk : 0 < k) (hbb : bytes ≤ 1000)
    {a : Option Addr} {n c : Nat} {f : Nat → Nat → Value} (hL : Lie w a n k f) (hc : Cap a n c) (hn : n ≤ 1000) (h1 : ∀ i j, (f i j).oneCell' = true) :
    ∃ a' cap w', (Builtin.append_ #[t, t] ty #[.slice none 0 0, .slice a n c]).run Try.prog w = .ok (.slice a' n cap) w' ∧ Lie w' a' n k f ∧ Cap a' n cap ∧ (∀ b, a' = some b → w.heap.size ≤ b.block ∧ b.block < w'.heap.size) ∧ Kept w w' none := by
  cases a with
  | none =>
    obtain ⟨rfl, rfl⟩ := hc.nil rfl
    have hrun := run_append_owned_none (P := Try.prog) (w := w) w.heap.size t ty e i k ht hi (.slice none 0 0) 0 [] (World.ownsRow_nil _ _ _ _)
    exact ⟨none, 0, w, hrun, ⟨fun hp => absurd hp (by omega)⟩, ⟨fun _ => ⟨rfl, rfl⟩, Nat.le_refl _, by omega⟩, fun b e => (nomatch e), Kept.refl _ _⟩
  | some ad =>
    have hnews : ∀ j u, (cellsL n k f)[j]? = some u → w.cell? (ad.add j) = some u := by
      by_cases hp : 0 < n
      · obtain ⟨b, off, e, _, hcell⟩ := hL.at_ hp
        injection e with e
        subst e
        exact cellsL_news hk hcell
      · intro j u hu
        have hn0 : n = 0 := by omega
        subst hn0
        simp [cellsL] at hu
    have hbytes : (0 + n) * bytes ≤ 140737488355328 := by
      have h2 : n * bytes ≤ 1000 * 1000 := Nat.mul_le_mul hn hbb
      rw [Nat.zero_add]
      omega
    obtain ⟨v', w', hr, h2, h3, _⟩ := run_append_own (P := Try.prog) w w.heap.size t ty e i z k bytes ht hi hz hsize hby hzs hk (.slice none 0 0) 0 [] (World.ownsRow_nil _ _ _ _) ad n c (cellsL n k f) (cellsL_len _ _ _) hnews (cellsL_one h1) (by unfold maxLen; omega) hbytes (Nat.le_refl _)
    rw [Nat.zero_add, List.nil_append] at h2
    obtain ⟨a', cap, rfl, g1, g2, g3⟩ := lie_own hk h2
    exact ⟨a', cap, w', hr, g1, g2, g3, h3⟩

end Go.Proofs.Ytlabjamkaebnjaa

/-
  Of the text TwinZ: what this stage needs (culled by a program).
-/
namespace Go.Proofs.Ytlabjamkaebnjaa
open Go.RowKit Go.Lib Go.Deep
set_option linter.unusedVariables false
set_option linter.unusedSimpArgs false

theorem kept_setZ (w : World) (b j : Nat) (v : Value) : Kept w (w.setCell ⟨b, j, none⟩ v) (some b) :=
  ⟨rfl, rfl, rfl, by simp [World.setCell], fun k hk hr => by
    simp only [World.setCell]
    rw [Array.getElem?_modify, if_neg (fun e => hr (by rw [e]))]⟩
theorem kept_newZ {w w' : World} {r : Option Nat} (h : Kept w w' r) {g : Nat} (hg : w.heap.size ≤ g) (j : Nat) (v : Value) : Kept w (w'.setCell ⟨g, j, none⟩ v) r :=
  ⟨h.os, h.tape, h.output, by simpa [World.setCell] using h.size, fun k hk hr => (Below.heap_setCell _ _ _ _ (by show k ≠ g; omega)).trans (h.block k hk hr)⟩
abbrev zSZ : Array Value := #[.int .i64 0, .slice none 0 0, .slice none 0 0, .slice none 0 0, .slice none 0 0, .slice none 0 0, .int .i64 0, .int .i64 0, .int .i64 0, .int .i64 0, .int .i64 0, .slice none 0 0]
def fSZ (c : Array Value) (i : Nat) : Value := c[i]?.getD undef
theorem fSZ_set (c : Array Value) (j : Nat) (v : Value) (hj : j < c.size) (i : Nat) : (if i = j then v else fSZ c i) = fSZ (c.setIfInBounds j v) i := by
  unfold fSZ
  rw [Array.getElem?_setIfInBounds]
  by_cases h : i = j
  · subst h; simp [hj]
  · rw [if_neg h, if_neg (fun e => h e.symm)]
structure LtrZ (lo : Nat) (w w' : World) : Prop where
  size : w.heap.size ≤ w'.heap.size
  block : ∀ k, lo ≤ k → k < w.heap.size → w'.heap[k]? = w.heap[k]?
theorem LtrZ.tr {lo : Nat} {a b c : World} (h : LtrZ lo a b) (k : LtrZ lo b c) : LtrZ lo a c := ⟨Nat.le_trans h.size k.size, fun i hi hl => (k.block i hi (Nat.lt_of_lt_of_le hl h.size)).trans (h.block i hi hl)⟩
theorem LtrZ.up {lo lo' : Nat} {a b : World} (h : LtrZ lo a b) (q : lo ≤ lo') : LtrZ lo' a b := ⟨h.size, fun i hi hl => h.block i (Nat.le_trans q hi) hl⟩
theorem Kept.ltrZ {w w' : World} {x lo : Nat} (h : Kept w w' (some x)) (hx : x < lo) : LtrZ lo w w' := ⟨h.size, fun k hk hl => h.block k hl (fun e => by have := Option.some.inj e; omega)⟩
theorem LtrZ.set {lo : Nat} (w : World) {g : Nat} (hg : g < lo) (j : Nat) (v : Value) : LtrZ lo w (w.setCell ⟨g, j, none⟩ v) := (kept_setZ w g j v).ltrZ hg
theorem LtrZ.cell {lo : Nat} {w w' : World} {b j : Nat} {v : Value} (q : LtrZ lo w w') (h : w.cell? ⟨b, j, none⟩ = some v) (hb : lo ≤ b) : w'.cell? ⟨b, j, none⟩ = some v :=
  (World.cell?_of_block (w := w) (a := ⟨b, j, none⟩) (q.block b hb (block_lt h))).trans h
theorem frozen_blockZ {w w' : World} {b j : Nat} (h : w'.heap[b]? = w.heap[b]?) : w'.frozen? ⟨b, j, none⟩ = w.frozen? ⟨b, j, none⟩ := by
  unfold World.frozen?
  simp only [h]

end Go.Proofs.Ytlabjamkaebnjaa

/-
  Of the text TwinB: what this stage needs (culled by a program).
-/
namespace Go.Proofs.Ytlabjamkaebnjaa
open Go.RowKit Go.Lib Go.Deep
set_option linter.unusedVariables false
set_option linter.unusedSimpArgs false

theorem Try.infoPl : (Try.prog.info? 63).map (fun i => (i.zero, i.size, i.bytes)) = some (some (.agg #[.int .i64 0, .int .i64 0, .slice none 0 0]), 3, 40) := by kernel_rfl
theorem Try.infoIn : (Try.prog.info? 3).map (fun i => (i.zero, i.size, i.bytes)) = some (some (.int .i64 0), 1, 8) := by kernel_rfl
theorem Try.uPls : Try.prog.underlying 25 = some (.slice 63) := by kernel_rfl
theorem Try.uIns : Try.prog.underlying 61 = some (.slice 3) := by kernel_rfl
theorem cellsL_snoc {n k : Nat} {f : Nat → Nat → Value} {g : Nat → Value} (hk : 0 < k) : cellsL n k f ++ (List.range k).map g = cellsL (n + 1) k (fun i j => if i = n then g j else f i j) := by
  unfold cellsL
  rw [Nat.add_mul, Nat.one_mul, List.range_add, List.map_append]
  congr 1
  · refine List.map_congr_left fun q hq => ?_
    have h1 : q / k < n := by rw [Nat.div_lt_iff_lt_mul hk]; exact List.mem_range.1 hq
    show f (q / k) (q % k) = if q / k = n then g (q % k) else f (q / k) (q % k)
    rw [if_neg (by omega)]
  · rw [List.map_map]
    refine List.map_congr_left fun j hj => ?_
    have hj' := List.mem_range.1 hj
    have h3 : (n * k + j) / k = n := by rw [Nat.add_comm, Nat.add_mul_div_right _ _ hk, Nat.div_eq_of_lt hj', Nat.zero_add]
    have h4 : (n * k + j) % k = j := by rw [Nat.add_comm, Nat.add_mul_mod_self_right, Nat.mod_eq_of_lt hj']
    show g j = if (n * k + j) / k = n then g ((n * k + j) % k) else f ((n * k + j) / k) ((n * k + j) % k)
    rw [h3, h4, if_pos rfl]
/-- One more element. -/
theorem grow_run {w : World} {t ty e : TypeId} {i : TypeInfo} {z : Value} {k bytes : Nat} (ht : Try.prog.underlying t = some (.slice e)) (hi : Try.prog.info? e = some i) (hz : i.zero = some z) (hsize : i.size = k) (hby : i.bytes = bytes) (hzs : z.cells.size = k) (hk : 0 < k) (hbb : bytes ≤ 1000)
    {base n c : Nat} {v : Value} {f : Nat → Nat → Value} (hown : w.ownsRow base e k v n (cellsL n k f)) {b o : Nat} {g : Nat → Value} (hg : ∀ j, j < k → w.cell? ⟨b, o + j, none⟩ = some (g j)) (h1 : ∀ j, (g j).oneCell' = true) (hn : n ≤ 1000) (hbase : base ≤ w.heap.size) :
    ∃ v' w', (Builtin.append_ #[t, t] ty #[v, .slice (some ⟨b, o, none⟩) 1 c]).run Try.prog w = .ok v' w' ∧ w'.ownsRow base e k v' (n + 1) (cellsL (n + 1) k (fun i j => if i = n then g j else f i j)) ∧ w.grownBy w' v.ownBlock ∧ (v'.ownBlock = v.ownBlock ∨ v'.ownBlock = some w.heap.size) := by
  have hbytes : (n + 1) * bytes ≤ 140737488355328 := by
    have h2 : (n + 1) * bytes ≤ 1001 * 1000 := Nat.mul_le_mul (by omega) hbb
    omega
  obtain ⟨v', w', hr, h2, h3, _, h5⟩ := run_append_own_at (P := Try.prog) w base t ty e i z k bytes ht hi hz hsize hby hzs hk v n _ hown ⟨b, o, none⟩ 1 c ((List.range k).map g) (by simp) (fun j u hu => by
    rw [List.getElem?_map] at hu
    have hj : j < k := by
      by_cases h : j < k
      · exact h
      · rw [List.getElem?_eq_none (by simpa using h)] at hu; simp at hu
    rw [List.getElem?_range hj] at hu
    rw [Addr.add_lit, hg j hj]
    exact hu) (fun u hu => by
    simp only [List.mem_map] at hu
    obtain ⟨x, _, rfl⟩ := hu
    exact h1 x) (by unfold maxLen; omega) hbytes hbase
  rw [cellsL_snoc hk] at h2
  exact ⟨v', w', hr, h2, h3, h5⟩
theorem wpList_app {ops : Array Oper} {rest : List Oper} {o : Oper} {act : Act} {Q : Exit → Act → World → Prop} {w w' : World} {v u v' : Value} (hgd : o.guard = none) (s x : Operand) (t : TypeId) (ho : o.op = .call { callee := .builtin .append, args := #[s, x], argTypes := #[t, t] }) (hs : act.eval s = v) (hx : act.eval x = u)
    (hr : (Builtin.append_ #[t, t] o.type #[v, u]).run Try.prog w = .ok v' w') (h : wpList Try.prog ops Q rest (act.put o.dst v') w') : wpList Try.prog ops Q (o :: rest) act w :=
  wpList_plain hgd fun K hK => by
    unfold Oper.wp execOp
    simp only [ho, resolve, invoke, builtin, Sem.run_bind, Sem.run_pure, Result.andThen_ok, List.map_toArray, List.map_cons, List.map_nil, hs, hx, hr]
    exact hK _ _ h
theorem Ints.keptS {w w' : World} {r : Option Nat} {a : Option Addr} {n c : Nat} {l : List Int} (h : Ints w a n c l) (q : Kept w w' r) (hr : ∀ b, a = some b → some b.block ≠ r) : Ints w' a n c l :=
  ⟨⟨fun hp => by
    obtain ⟨b, off, rfl, hb, hc⟩ := h.lie.at_ hp
    exact ⟨b, off, rfl, Nat.lt_of_lt_of_le hb q.size, fun i hi j hj => cell_keptR (hc i hi j hj) q (hr _ rfl)⟩⟩, h.size, h.cap, h.rng⟩
/-- As many plans as were met lie in new memory. -/
structure Tp (w : World) (l : List Pl) (wr : World) (k : Nat) (v : Value) : Prop where
  ex : ∃ r : Nat → Option Addr × Nat, wr.ownsRow w.heap.size 63 3 v k (cellsL k 3 (fun i j => plV (l.getD i q0) (r i).1 (r i).2 j)) ∧ (∀ i, i < k → Ints wr (r i).1 (l.getD i q0).splits.length (r i).2 (l.getD i q0).splits) ∧ (∀ i, i < k → ∀ b, (r i).1 = some b → v.ownBlock ≠ some b.block ∧ b.block < wr.heap.size ∧ w.heap.size ≤ b.block)
  kept : Kept w wr none
theorem own_lt {w : World} {base n k : Nat} {e : TypeId} {v : Value} {xs : List Value} (h : w.ownsRow base e k v n xs) : ∀ g, v.ownBlock = some g → base ≤ g ∧ g < w.heap.size := fun g hg => by
  rcases id h.2 with ⟨rfl, _⟩ | ⟨b, cap, cur, rfl, hb, hh, _⟩
  · cases hg
  · injection hg with hg
    subst hg
    exact ⟨hb, (Array.getElem?_eq_some_iff.1 hh).1⟩
theorem own_keptR' {w w' : World} {r : Option Nat} {base n k : Nat} {e : TypeId} {v : Value} {xs : List Value} (h : w.ownsRow base e k v n xs) (q : Kept w w' r) (hr : ∀ g, v.ownBlock = some g → some g ≠ r) : w'.ownsRow base e k v n xs := by
  refine ⟨h.1, ?_⟩
  rcases id h.2 with ⟨rfl, h0⟩ | ⟨b, cap, cur, rfl, hb, hh, h4⟩
  · exact .inl ⟨rfl, h0⟩
  · exact .inr ⟨b, cap, cur, rfl, hb, (q.block b (Array.getElem?_eq_some_iff.1 hh).1 (hr _ rfl)).trans hh, h4⟩
theorem alloc_at2 (F : World) (cs : Array Value) (t : TypeId) {n j : Nat} {v : Value} (hz : F.heap.size = n) (hv : cs[j]? = some v) : (F.alloc (.cells cs t)).cell? ⟨n, j, none⟩ = some v := by
  subst hz
  simp only [World.cell?_alloc_mark]
  exact hv
abbrev plB (p : Pl) (a : Option Addr) (c : Nat) : Obj := .cells #[.int .i64 p.cycle, .int .i64 p.offset, .slice a p.splits.length c] 63
theorem Tp.step {w wr W2 : World} {l : List Pl} {k : Nat} {v : Value} {ar a' : Option Addr} {cr cap : Nat} (h : Tp w l wr k v) (hk : k ≤ 40)
    (h2 : Kept (wr.alloc (plB (l.getD k q0) ar cr)) W2 none) (hI : Ints W2 a' (l.getD k q0).splits.length cap (l.getD k q0).splits) (hf : ∀ b, a' = some b → (wr.alloc (plB (l.getD k q0) ar cr)).heap.size ≤ b.block) (hl : ∀ b, a' = some b → b.block < W2.heap.size) :
    ∃ v' W5, (Builtin.append_ #[25, 25] 25 #[v, .slice (some ⟨W2.heap.size, 0, none⟩) 1 1]).run Try.prog ((W2.setCell ⟨wr.heap.size, 2, none⟩ (.slice a' (l.getD k q0).splits.length cap)).alloc (plB (l.getD k q0) a' cap)) = .ok v' W5 ∧ Tp w l W5 (k + 1) v' := by
  obtain ⟨⟨r, ho, hi, hb⟩, hkw⟩ := h
  obtain ⟨i0, hi0, hz0, hz1, hz2⟩ := info_parts Try.infoPl
  generalize hp : l.getD k q0 = p at *
  have hz : (wr.alloc (plB p ar cr)).heap.size = wr.heap.size + 1 := by simp
  have k1 : Kept wr W2 none := (Kept.alloc wr _ _ _ _).tr h2
  have k3 : Kept W2 (W2.setCell ⟨wr.heap.size, 2, none⟩ (.slice a' p.splits.length cap)) (some wr.heap.size) := kept_setZ _ _ _ _
  have z3 : (W2.setCell ⟨wr.heap.size, 2, none⟩ (.slice a' p.splits.length cap)).heap.size = W2.heap.size := by simp [World.setCell]
  have k4 : Kept (W2.setCell ⟨wr.heap.size, 2, none⟩ (.slice a' p.splits.length cap)) ((W2.setCell ⟨wr.heap.size, 2, none⟩ (.slice a' p.splits.length cap)).alloc (plB p a' cap)) none := Kept.alloc _ _ _ _ _
  have s2 := h2.size
  rw [hz] at s2
  have sw := hkw.size
  have z4 : ((W2.setCell ⟨wr.heap.size, 2, none⟩ (.slice a' p.splits.length cap)).alloc (plB p a' cap)).heap.size = W2.heap.size + 1 := by simp [World.setCell]
  have q0' : ∀ j, j < 3 → ((W2.setCell ⟨wr.heap.size, 2, none⟩ (.slice a' p.splits.length cap)).alloc (plB p a' cap)).cell? ⟨W2.heap.size, 0 + j, none⟩ = some (plV p a' cap j) := fun j hj => by
    have : j = 0 ∨ j = 1 ∨ j = 2 := by omega
    rw [Nat.zero_add]
    refine alloc_at2 _ _ _ z3 ?_
    rcases this with rfl | rfl | rfl <;> rfl
  generalize (W2.setCell ⟨wr.heap.size, 2, none⟩ (.slice a' p.splits.length cap)) = W3 at *
  generalize (W3.alloc (plB p a' cap)) = W4 at *
  have hol := own_lt ho
  have own4 : W4.ownsRow w.heap.size 63 3 v k (cellsL k 3 (fun i j => plV (l.getD i q0) (r i).1 (r i).2 j)) :=
    own_keptR' (own_keptR' (own_keptR' ho k1 (fun g _ => by simp)) k3 (fun g hg e => by have := (hol g hg).2; cases e; omega)) k4 (fun g _ => by simp)
  obtain ⟨v', W5, hr, g1, g2, g3⟩ := grow_run (t := 25) (ty := 25) (c := 1) Try.uPls hi0 hz0 hz1 hz2 rfl (by omega) (by omega) own4 q0' (fun j => by unfold plV; split <;> rfl) (by omega) (by omega)
  have bl : ∀ b, (∃ i, i < k ∧ (r i).1 = some b) → v.ownBlock ≠ some b.block ∧ b.block < wr.heap.size ∧ w.heap.size ≤ b.block := fun b ⟨i, hik, e⟩ => hb i hik b e
  have vfr : ∀ g, v'.ownBlock = some g → v.ownBlock = some g ∨ g = W4.heap.size := fun g hg => by
    rcases g3 with e | e
    · exact .inl (e.symm.trans hg)
    · rw [e] at hg; injection hg with hg; exact .inr hg.symm
  refine ⟨v', W5, hr, ⟨fun i => if i = k then (a', cap) else r i, ?_, fun i hik => ?_, fun i hik b e => ?_⟩, ?_⟩
  · have he : cellsL (k + 1) 3 (fun i j => if i = k then plV p a' cap j else plV (l.getD i q0) (r i).1 (r i).2 j) = cellsL (k + 1) 3 (fun i j => plV (l.getD i q0) ((if i = k then (a', cap) else r i) : Option Addr × Nat).1 ((if i = k then (a', cap) else r i) : Option Addr × Nat).2 j) := by
      unfold cellsL
      refine List.map_congr_left fun q _ => ?_
      show (if q / 3 = k then plV p a' cap (q % 3) else plV (l.getD (q / 3) q0) (r (q / 3)).1 (r (q / 3)).2 (q % 3)) = plV (l.getD (q / 3) q0) ((if q / 3 = k then (a', cap) else r (q / 3)) : Option Addr × Nat).1 ((if q / 3 = k then (a', cap) else r (q / 3)) : Option Addr × Nat).2 (q % 3)
      by_cases e : q / 3 = k
      · rw [if_pos e, if_pos e, e, hp]
      · rw [if_neg e, if_neg e]
    rw [← he]
    exact g1
  · show Ints W5 ((if i = k then (a', cap) else r i) : Option Addr × Nat).1 (l.getD i q0).splits.length ((if i = k then (a', cap) else r i) : Option Addr × Nat).2 (l.getD i q0).splits
    by_cases e : i = k
    · rw [if_pos e, e, hp]
      refine ((hI.keptS k3 (fun b eb ec => ?_)).kept k4).keptS g2 (fun b eb ec => ?_)
      · have := hf b eb
        rw [hz] at this
        injection ec with ec
        omega
      · have := hf b eb
        rw [hz] at this
        have h7 := (hol _ ec.symm).2
        omega
    · rw [if_neg e]
      have h8 := hi i (by omega)
      refine (((h8.kept k1).keptS k3 (fun b eb ec => ?_)).kept k4).keptS g2 (fun b eb ec => ?_)
      · have := (hb i (by omega) b eb).2.1
        injection ec with ec
        omega
      · exact (hb i (by omega) b eb).1 ec.symm
  · have s5 := g2.size
    change ((if i = k then (a', cap) else r i) : Option Addr × Nat).1 = some b at e
    by_cases ek : i = k
    · rw [if_pos ek] at e
      have h6 := hf b e
      rw [hz] at h6
      have h9 := hl b e
      refine ⟨fun ec => ?_, by omega, by omega⟩
      rcases vfr _ ec with h7 | h7
      · have := (hol _ h7).2
        omega
      · omega
    · rw [if_neg ek] at e
      have h6 := hb i (by omega) b e
      refine ⟨fun ec => ?_, by omega, h6.2.2⟩
      rcases vfr _ ec with h7 | h7
      · exact h6.1 h7
      · omega
  · have h5 : Kept w W4 none := by
      refine ⟨k4.os.trans (k3.os.trans (k1.os.trans hkw.os)), k4.tape.trans (k3.tape.trans (k1.tape.trans hkw.tape)), k4.output.trans (k3.output.trans (k1.output.trans hkw.output)), by omega, fun b hbw _ => ?_⟩
      exact (k4.block b (by omega) (by simp)).trans ((k3.block b (by omega) (fun e => by injection e with e; omega)).trans ((hkw.tr k1).block b hbw (by simp)))
    refine ⟨g2.os.trans h5.os, g2.tape.trans h5.tape, g2.output.trans h5.output, Nat.le_trans h5.size g2.size, fun b hbw _ => ?_⟩
    exact (g2.block b (by omega) (fun e => by have := (hol _ e.symm).1; omega)).trans (h5.block b hbw (by simp))

end Go.Proofs.Ytlabjamkaebnjaa

