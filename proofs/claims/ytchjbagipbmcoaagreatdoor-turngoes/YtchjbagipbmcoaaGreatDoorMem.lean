/-
  THE CONTRACT of members: the numbers of a set, one after another, to whatever body.
-/
import Derived.Test.YtchjbagipbmcoaaGreatDoorMemM
import Derived.Test.YtchjbagipbmcoaaGreatDoorCond3
import Derived.RangeFuncNested
import Derived.RangeFuncBound
import Derived.RangeFuncCalls
import Derived.RangeFuncLeaves
import Derived.Shelf.Abstract
import Derived.Shelf.RegionOpen
import Derived.OwnWalkIn
import Derived.TacticsInMore
import Derived.LoopNIn
import Derived.LoopIn
namespace Go.Proofs.YtchjbagipbmcoaaGreatDoor
open Go.RowKit Go.Lib Go.Deep Go.Shelf
set_option linter.unusedVariables false
set_option linter.unusedSimpArgs false
attribute [local go_sem] Oper.semAt_some

/-- A number of a set. -/
abbrev Mb (S : Nat) := { x : Nat // x ∈ memb S }
def vals {S : Nat} (l : List (Mb S)) : List Nat := l.map (·.1)
theorem vals_snoc {S : Nat} (l : List (Mb S)) (x : Mb S) : vals (l ++ [x]) = vals l ++ [x.1] := by simp [vals]
theorem Tabb.below {n : Nat} {w w' : World} (h : Tabb w) (hn : 0 < n) (k : Below n w w') : Tabb w' := fun i hi => (k.cell (p := ⟨0, i, none⟩) hn).trans (h i hi)
set_option maxRecDepth 100000 in
set_option maxHeartbeats 1000000 in
theorem members1_in (n : Nat) (hn : 1 ≤ n) (l Bn n₀ S : Nat) (hS : S < 4294967296) (hn₀ : 0 < n₀) (J Jx : List (Mb S) → World → Prop)
    (hY : ∀ pre (x : Mb S) W, J pre W → pre.length < (memb S).length → YieldAt Fence.wide (n - 1) Tryz.prog l #[.int .i64 ((x.1 : Nat) : Int)] W fun e W' =>
      (e = .returned (.bool true) ∧ J (pre ++ [x]) W' ∧ Below n₀ W W') ∨ (e = .returned (.bool false) ∧ Jx (pre ++ [x]) W'))
    (W : World) (hBn : W.cell? ⟨Bn, 0, none⟩ = some (.int .u32 S)) (hT : Tabb W) (h0 : J [] W) :
    CallsIn Fence.wide n Tryz.prog 104 #[.func (.yield l) #[] #[], .pointer (some ⟨Bn, 0, none⟩)] W fun e W' => (∃ v, e = .returned v) ∧
      ((∃ ys, vals ys = memb S ∧ J ys W') ∨ (∃ pre, vals pre <+: memb S ∧ Jx pre W')) := by
  refine callsIn_of_wp Tryz.func104 rfl trivial ?_ rfl
  simp only [Tryz.ntmps104, List.size_toArray, List.length_cons, List.length_nil, Nat.reduceAdd, Nat.reduceSub, Array.replicate_succ, Array.replicate_zero, List.push_toArray, List.append_toArray, List.nil_append, List.cons_append]
  gi_wp2
  gi_loopw [3] (fun r wr => ∃ (pre : List (Mb S)) (R : Nat), r = .int .u32 (R : Int) ∧ R < 4294967296 ∧ memb S = vals pre ++ memb R ∧ Tabb wr ∧ J pre wr) (fun r _ => (intOf r).toNat)
  case atStart =>
    exact ⟨[], S, rfl, hS, rfl, hT, h0⟩
  case round =>
    obtain ⟨pre, R, rfl, hR, hx, hTr, hJs⟩ := hrel
    by_cases hz : R = 0
    · subst hz
      gi_wp2
      go_end0
      exact ⟨⟨_, rfl⟩, .inl ⟨pre, by rw [hx, memb_zero, List.append_nil], hJs⟩⟩
    · have hR0 : 0 < R := by omega
      have hm := memb_low hR0 hR
      have hlt := (lowN_spec 32 R hR0 (by simpa using hR)).1
      have hlv : leastV R = ((lowN 32 R : Nat) : Int) := by unfold leastV; rw [if_neg hz]
      have hw : withoutV R ((lowN 32 R : Nat) : Int) < R := by
        obtain ⟨h1, h2, h3⟩ := lowN_spec 32 R hR0 (by simpa using hR)
        rw [without_in h1, without_yes R _ hR h1 h2]
        have : 0 < 2 ^ lowN 32 R := Nat.two_pow_pos _
        omega
      have hnz : ((R : Int) != 0) = true := by rw [bne_iff_ne]; omega
      have HT := Hid.mk' hTr
      have HM := Hid.mk' hm
      have HX := Hid.mk' hx
      have HLV := Hid.mk' hlv
      clear hTr hm hx hlv
      generalize hq : lowN 32 R = q at *
      have HQ := Hid.mk' hq
      clear hq
      generalize hr : withoutV R (q : Int) = R' at *
      have HR' := Hid.mk' hr
      clear hr
      have hqm : q ∈ memb S := by rw [HX.out, HM.out]; simp
      obtain ⟨fn, tmps, assign, body, hy, hRR⟩ := hY pre ⟨q, hqm⟩ wr hJs (by rw [HX.out, HM.out]; simp [vals])
      gi_wp2_with (first
        | (refine ⟨trivial, ?_⟩; gi_at_call 105; refine (callsIn_wide.2 (least_any R _ hR HT.out)).mono ?_; rintro e w' ⟨rfl, rfl⟩; rw [HLV.out])
        | (refine ⟨trivial, ?_⟩; gi_at_call 106; refine (callsIn_wide.2 (without_any R _ _ hR)).mono ?_; rintro e w' ⟨rfl, rfl⟩; rw [HR'.out]))
      refine hRR.mono ?_
      rintro e W3 (⟨rfl, hJ3, hk3⟩ | ⟨rfl, hJx3⟩)
      · gi_wp2
        go_roundw
        case rel => exact ⟨_, R', rfl, by omega, HX.out.trans (by rw [HM.out, vals_snoc]; simp), HT.out.below hn₀ hk3, hJ3⟩
        case measure => simp [intOf]; omega
      · gi_wp2
        refine bodyPost_ret (results_none rfl _ _ _) rfl ?_
        exact ⟨⟨_, rfl⟩, .inr ⟨_, ⟨memb R', (HX.out.trans (by rw [HM.out, vals_snoc]; simp)).symm⟩, hJx3⟩⟩
set_option maxHeartbeats 1000000 in
theorem members_in (n S : Nat) (w : World) :
    CallsIn Fence.wide n Tryz.prog 92 #[.int .u32 S] w fun e w' => e = .returned (.func (.func 104) #[] #[.pointer (some ⟨w.heap.size, 0, none⟩)]) ∧ w' = w.alloc (.cells #[.int .u32 S] 96) := by
  refine callsIn_of_wp Tryz.func92 rfl trivial ?_ rfl
  simp only [Tryz.ntmps92, List.size_toArray, List.length_cons, List.length_nil, Nat.reduceAdd, Nat.reduceSub, Array.replicate_succ, Array.replicate_zero, List.push_toArray, List.append_toArray, List.nil_append, List.cons_append]
  gi_wp2
  go_ret
  exact ⟨rfl, rfl⟩
theorem members_stops (n : Nat) (hn : 1 ≤ n) (Bn n₀ S : Nat) (w : World) (hBn : Bn < w.heap.size) (hS : S < 4294967296) (hn₀ : 0 < n₀) (hw : n₀ ≤ w.heap.size)
    (hc : w.cell? ⟨Bn, 0, none⟩ = some (.int .u32 S)) (hT : Tabb w) :
    SeqStopsK Fence.wide n Tryz.prog 104 #[.pointer (some ⟨Bn, 0, none⟩)] (fun x : Mb S => #[Value.int .i64 (x.1 : Int)]) (Below n₀) (fun ys => vals ys = memb S) (fun pre => vals pre <+: memb S) (memb S).length w := fun l J Jx W hW _ _ hY h0 =>
  members1_in n hn l Bn n₀ S hS hn₀ J Jx hY W ((hW.cell (p := ⟨Bn, 0, none⟩) hBn).trans hc) (hT.below (by omega) hW) h0

end Go.Proofs.YtchjbagipbmcoaaGreatDoor
