/-
  Texts joined: some of those that the proofs of this seat stand on.
-/
import Derived.Test.YtfhmfanmnhclfaaDoorMemM
import Derived.Test.YtfhmfanmnhclfaaDoorCondJ
import Derived.RangeFuncNested
import Derived.RangeFuncBound
import Derived.RangeFuncCalls
import Derived.RangeFuncLeaves
import Derived.Shelf.Abstract
import Derived.Shelf.RegionOpen
import Derived.OwnWalkIn
import Derived.TacticsInMore
import Derived.LoopNIn
import Derived.LoopIn
import Derived.Deep.RegionHeld
/-
  THE CONTRACT of members: the numbers of a set, one after another, to whatever body.
-/
namespace Go.Proofs.YtfhmfanmnhclfaaDoor
open Go.RowKit Go.Lib Go.Deep Go.Shelf
set_option linter.unusedVariables false
set_option linter.unusedSimpArgs false
attribute [local go_sem] Oper.semAt_some

/-- A number of a set. -/
abbrev Mb (S : Nat) := { x : Nat // x ∈ memb S }
def vals {S : Nat} (l : List (Mb S)) : List Nat := l.map (·.1)
theorem vals_snoc {S : Nat} (l : List (Mb S)) (x : Mb S) : vals (l ++ [x]) = vals l ++ [x.1] := by simp [vals]
theorem Tabb.below {n : Nat} {w w' : World} (h : Tabb w) (hn : 0 < n) (k : Below n w w') : Tabb w' := fun i hi => (k.cell (p := ⟨0, i, none⟩) hn).trans (h i hi)
set_option maxRecDepth 100000 in
set_option maxHeartbeats 1000000 in
theorem members1_in (n : Nat) (hn : 1 ≤ n) (l Bn n₀ S : Nat) (hS : S < 4294967296) (hn₀ : 0 < n₀) (J Jx : List (Mb S) → World → Prop)
    (hY : ∀ pre (x : Mb S) W, J pre W → pre.length < (memb S).length → YieldAt Fence.wide (n - 1) Tryd.prog l #[.int .i64 ((x.1 : Nat) : Int)] W fun e W' =>
      (e = .returned (.bool true) ∧ J (pre ++ [x]) W' ∧ Below n₀ W W') ∨ (e = .returned (.bool false) ∧ Jx (pre ++ [x]) W'))
    (W : World) (hBn : W.cell? ⟨Bn, 0, none⟩ = some (.int .u32 S)) (hT : Tabb W) (h0 : J [] W) :
    CallsIn Fence.wide n Tryd.prog 116 #[.func (.yield l) #[] #[], .pointer (some ⟨Bn, 0, none⟩)] W fun e W' => (∃ v, e = .returned v) ∧
      ((∃ ys, vals ys = memb S ∧ J ys W') ∨ (∃ pre, vals pre <+: memb S ∧ Jx pre W')) := by
  refine callsIn_of_wp Tryd.func116 rfl trivial ?_ rfl
  simp only [Tryd.ntmps116, List.size_toArray, List.length_cons, List.length_nil, Nat.reduceAdd, Nat.reduceSub, Array.replicate_succ, Array.replicate_zero, List.push_toArray, List.append_toArray, List.nil_append, List.cons_append]
  gi_wp2
  gi_loopw [3] (fun r wr => ∃ (pre : List (Mb S)) (R : Nat), r = .int .u32 (R : Int) ∧ R < 4294967296 ∧ memb S = vals pre ++ memb R ∧ Tabb wr ∧ J pre wr) (fun r _ => (intOf r).toNat)
  case atStart =>
    exact ⟨[], S, rfl, hS, rfl, hT, h0⟩
  case round =>
    obtain ⟨pre, R, rfl, hR, hx, hTr, hJs⟩ := hrel
    by_cases hz : R = 0
    · subst hz
      gi_wp2
      go_end0
      exact ⟨⟨_, rfl⟩, .inl ⟨pre, by rw [hx, memb_zero, List.append_nil], hJs⟩⟩
    · have hR0 : 0 < R := by omega
      have hm := memb_low hR0 hR
      have hlt := (lowN_spec 32 R hR0 (by simpa using hR)).1
      have hlv : leastV R = ((lowN 32 R : Nat) : Int) := by unfold leastV; rw [if_neg hz]
      have hw : withoutV R ((lowN 32 R : Nat) : Int) < R := by
        obtain ⟨h1, h2, h3⟩ := lowN_spec 32 R hR0 (by simpa using hR)
        rw [without_in h1, without_yes R _ hR h1 h2]
        have : 0 < 2 ^ lowN 32 R := Nat.two_pow_pos _
        omega
      have hnz : ((R : Int) != 0) = true := by rw [bne_iff_ne]; omega
      have HT := Hid.mk' hTr
      have HM := Hid.mk' hm
      have HX := Hid.mk' hx
      have HLV := Hid.mk' hlv
      clear hTr hm hx hlv
      generalize hq : lowN 32 R = q at *
      have HQ := Hid.mk' hq
      clear hq
      generalize hr : withoutV R (q : Int) = R' at *
      have HR' := Hid.mk' hr
      clear hr
      have hqm : q ∈ memb S := by rw [HX.out, HM.out]; simp
      obtain ⟨fn, tmps, assign, body, hy, hRR⟩ := hY pre ⟨q, hqm⟩ wr hJs (by rw [HX.out, HM.out]; simp [vals])
      gi_wp2_with (first
        | (refine ⟨trivial, ?_⟩; gi_at_call 117; refine (callsIn_wide.2 (least_any R _ hR HT.out)).mono ?_; rintro e w' ⟨rfl, rfl⟩; rw [HLV.out])
        | (refine ⟨trivial, ?_⟩; gi_at_call 118; refine (callsIn_wide.2 (without_any R _ _ hR)).mono ?_; rintro e w' ⟨rfl, rfl⟩; rw [HR'.out]))
      refine hRR.mono ?_
      rintro e W3 (⟨rfl, hJ3, hk3⟩ | ⟨rfl, hJx3⟩)
      · gi_wp2
        go_roundw
        case rel => exact ⟨_, R', rfl, by omega, HX.out.trans (by rw [HM.out, vals_snoc]; simp), HT.out.below hn₀ hk3, hJ3⟩
        case measure => simp [intOf]; omega
      · gi_wp2
        refine bodyPost_ret (results_none rfl _ _ _) rfl ?_
        exact ⟨⟨_, rfl⟩, .inr ⟨_, ⟨memb R', (HX.out.trans (by rw [HM.out, vals_snoc]; simp)).symm⟩, hJx3⟩⟩
set_option maxHeartbeats 1000000 in
theorem members_in (n S : Nat) (w : World) :
    CallsIn Fence.wide n Tryd.prog 104 #[.int .u32 S] w fun e w' => e = .returned (.func (.func 116) #[] #[.pointer (some ⟨w.heap.size, 0, none⟩)]) ∧ w' = w.alloc (.cells #[.int .u32 S] 78) := by
  refine callsIn_of_wp Tryd.func104 rfl trivial ?_ rfl
  simp only [Tryd.ntmps104, List.size_toArray, List.length_cons, List.length_nil, Nat.reduceAdd, Nat.reduceSub, Array.replicate_succ, Array.replicate_zero, List.push_toArray, List.append_toArray, List.nil_append, List.cons_append]
  gi_wp2
  go_ret
  exact ⟨rfl, rfl⟩
theorem members_stops (n : Nat) (hn : 1 ≤ n) (Bn n₀ S : Nat) (w : World) (hBn : Bn < w.heap.size) (hS : S < 4294967296) (hn₀ : 0 < n₀) (hw : n₀ ≤ w.heap.size)
    (hc : w.cell? ⟨Bn, 0, none⟩ = some (.int .u32 S)) (hT : Tabb w) :
    SeqStopsK Fence.wide n Tryd.prog 116 #[.pointer (some ⟨Bn, 0, none⟩)] (fun x : Mb S => #[Value.int .i64 (x.1 : Int)]) (Below n₀) (fun ys => vals ys = memb S) (fun pre => vals pre <+: memb S) (memb S).length w := fun l J Jx W hW _ _ hY h0 =>
  members1_in n hn l Bn n₀ S hS hn₀ J Jx hY W ((hW.cell (p := ⟨Bn, 0, none⟩) hBn).trans hc) (hT.below (by omega) hW) h0

end Go.Proofs.YtfhmfanmnhclfaaDoor

/-
  A REGION THAT DRAWS ITS ORDER, IN A ROUND of a loop over a function, walked as everywhere: the laws of regions, at the fence that asks nothing.
-/
namespace Go.Proofs.YtfhmfanmnhclfaaDoor
open Go.RowKit Go.Lib Go.Deep Go.Shelf
set_option linter.unusedVariables false
set_option linter.unusedSimpArgs false

def plainB (o : Oper) : Bool := match o.op with
  | .defer _ => false
  | _ => true
theorem plainB_ne {o : Oper} (h : plainB o = true) : ∀ c, o.op ≠ .defer c := by
  intro c e
  unfold plainB at h
  rw [e] at h
  cases h
theorem upon_in {n l : Nat} {P : Program} {o : Oper} {a : Act} {next : Act → World → Prop} {Q0 : Act → World → Prop} {Q : Exit → Act → World → Prop} {r : Result Next}
    (h : o.upon P a next (fun e a w => e = .normal ∧ Q0 a w) r) : o.uponIn (Fence.wide.inRound l) n P a next Q r := by
  unfold Oper.upon at h
  unfold Oper.uponIn
  split at h
  · exact h
  · exact h
  · exact h
  · refine ⟨fun hd => by simp [Fence.wide, Fence.inRound] at hd, CallsIn.inRound l ((callsIn_wide.2 h).mono ?_)⟩
    intro e w' he
    cases e with
    | returned v => exact he
    | panicked c => exact absurd he.1 (by simp)
    | outgrown => obtain ⟨_, _, h1, _⟩ := he; exact absurd h1 (by simp)
  · refine ⟨fun hd => by simp [Fence.wide, Fence.inRound] at hd, ?_⟩
    intro c cs _
    obtain ⟨v, w', hr, hs⟩ := h c cs
    exact ⟨v, w', hr, stepsIn_wide.2 hs⟩
  · exact absurd h.1 (by simp)
  · exact h.elim
theorem any_round {n l : Nat} {P : Program} {md : Region.Mode} {ops : Array Oper} {Q0 : Act → World → Prop} {Q : Exit → Act → World → Prop} (hp : ops.all plainB = true) (hQ : ∀ a w, Q0 a w → Q .normal a w) : ∀ (fuel : Nat) (listed : Array Bool) (a : Act) (w : World),
    wpAny P md ops (fun e a w => e = .normal ∧ Q0 a w) fuel listed a w → wpAnyIn (Fence.wide.inRound l) n P md ops Q fuel listed a w
  | 0, _, _, _, h => ⟨h.1, hQ _ _ h.2.2⟩
  | fuel + 1, listed, a, w, h => by
    refine ⟨fun h0 => hQ _ _ (h.1 h0).2, fun i hi => ?_⟩
    have h1 := h.2 i hi
    unfold wpOp at h1
    unfold wpOpIn
    cases ho : ops[i]? with
    | none =>
      simp only [ho] at h1
      exact any_round hp hQ fuel _ _ _ h1
    | some o =>
      simp only [ho] at h1
      have hpo : plainB o = true := by
        rw [Array.all_eq_true] at hp
        obtain ⟨hlt, e⟩ := Array.getElem?_eq_some_iff.1 ho
        rw [← e]
        exact hp i hlt
      simp only
      split
      · rename_i hw
        rw [if_pos hw] at h1
        rcases h1 with h1 | ⟨_, _, _, h1, _⟩
        · refine ⟨fun f _ => trivial, ?_⟩
          rw [show (Fence.wide.inRound l).round = some l from rfl, Oper.semAt_eq _ _ _ (plainB_ne hpo)]
          refine upon_in (Q0 := Q0) ?_
          exact Oper.wp_mono (fun a' w' h' => any_round hp hQ fuel _ a' w' h') h1
        · exact absurd h1 (by simp)
      · rename_i hw
        rw [if_neg hw] at h1
        exact ⟨fun f _ => trivial, any_round hp hQ fuel _ _ _ h1⟩
/-- The beginning: S holds of the world behind the draw. -/
theorem held_round {S : World → Prop} {n l : Nat} {P : Program} {id : Nat} {ops : Array Oper} {Q : Exit → Act → World → Prop} {a : Act} {w : World} (hm : P.follows .mixedOrders = true) (hp : ops.all plainB = true) (hS : S w.drew)
    (h : S w.drew → wpAnyH P .any ops (fun e a w => e = .normal ∧ Q .normal a w) S ops.size (Array.replicate ops.size false) a w.drew) : (Code.region id ops true).wpIn (Fence.wide.inRound l) n P Q a w :=
  wpIn_region_any hm (any_round hp (fun _ _ h => h) _ _ _ _ (wpAny_of_held _ _ _ _ (h hS)))

theorem upon_wide {n : Nat} {P : Program} {o : Oper} {a : Act} {next : Act → World → Prop} {Q0 : Act → World → Prop} {Q : Exit → Act → World → Prop} {r : Result Next}
    (h : o.upon P a next (fun e a w => e = .normal ∧ Q0 a w) r) : o.uponIn Fence.wide n P a next Q r := by
  unfold Oper.upon at h
  unfold Oper.uponIn
  split at h
  · exact h
  · exact h
  · exact h
  · refine ⟨fun hd => by simp [Fence.wide, Fence.inRound] at hd, (callsIn_wide.2 h).mono ?_⟩
    intro e w' he
    cases e with
    | returned v => exact he
    | panicked c => exact absurd he.1 (by simp)
    | outgrown => obtain ⟨_, _, h1, _⟩ := he; exact absurd h1 (by simp)
  · refine ⟨fun hd => by simp [Fence.wide, Fence.inRound] at hd, ?_⟩
    intro c cs _
    obtain ⟨v, w', hr, hs⟩ := h c cs
    exact ⟨v, w', hr, stepsIn_wide.2 hs⟩
  · exact absurd h.1 (by simp)
  · exact h.elim
theorem any_wide {n : Nat} {P : Program} {md : Region.Mode} {ops : Array Oper} {Q0 : Act → World → Prop} {Q : Exit → Act → World → Prop} (hp : ops.all plainB = true) (hQ : ∀ a w, Q0 a w → Q .normal a w) : ∀ (fuel : Nat) (listed : Array Bool) (a : Act) (w : World),
    wpAny P md ops (fun e a w => e = .normal ∧ Q0 a w) fuel listed a w → wpAnyIn Fence.wide n P md ops Q fuel listed a w
  | 0, _, _, _, h => ⟨h.1, hQ _ _ h.2.2⟩
  | fuel + 1, listed, a, w, h => by
    refine ⟨fun h0 => hQ _ _ (h.1 h0).2, fun i hi => ?_⟩
    have h1 := h.2 i hi
    unfold wpOp at h1
    unfold wpOpIn
    cases ho : ops[i]? with
    | none =>
      simp only [ho] at h1
      exact any_wide hp hQ fuel _ _ _ h1
    | some o =>
      simp only [ho] at h1
      have hpo : plainB o = true := by
        rw [Array.all_eq_true] at hp
        obtain ⟨hlt, e⟩ := Array.getElem?_eq_some_iff.1 ho
        rw [← e]
        exact hp i hlt
      simp only
      split
      · rename_i hw
        rw [if_pos hw] at h1
        rcases h1 with h1 | ⟨_, _, _, h1, _⟩
        · refine ⟨fun f _ => trivial, ?_⟩
          rw [show Fence.wide.round = none from rfl, Oper.semAt_eq _ _ _ (plainB_ne hpo)]
          refine upon_wide (Q0 := Q0) ?_
          exact Oper.wp_mono (fun a' w' h' => any_wide hp hQ fuel _ a' w' h') h1
        · exact absurd h1 (by simp)
      · rename_i hw
        rw [if_neg hw] at h1
        exact ⟨fun f _ => trivial, any_wide hp hQ fuel _ _ _ h1⟩
/-- The beginning: S holds of the world behind the draw. -/
theorem held_wide {S : World → Prop} {n : Nat} {P : Program} {id : Nat} {ops : Array Oper} {Q : Exit → Act → World → Prop} {a : Act} {w : World} (hm : P.follows .mixedOrders = true) (hp : ops.all plainB = true) (hS : S w.drew)
    (h : S w.drew → wpAnyH P .any ops (fun e a w => e = .normal ∧ Q .normal a w) S ops.size (Array.replicate ops.size false) a w.drew) : (Code.region id ops true).wpIn Fence.wide n P Q a w :=
  wpIn_region_any hm (any_wide hp (fun _ _ h => h) _ _ _ _ (wpAny_of_held _ _ _ _ (h hS)))

theorem held_take {P : Program} {ops : Array Oper} {Q : Exit → Act → World → Prop} {md : Region.Mode} {S : World → Prop} {i d : Nat} {oi : Oper} {v : Value} {fuel : Nat} {listed : Array Bool} {a : Act} {w : World} (hi : ops[i]? = some oi) (hd : oi.dst = some d)
    (hs : Region.noSelect ops = true) (hf : Region.free md ops listed i = true) (hr : (Region.ready md ops listed).contains i = true)
    (hQ : ∀ c a w, Q (.panic c) (a.put oi.dst v) w → Q (.panic c) a w) (hy : YieldsIf P ops S oi v a) (hS : S w)
    (h : wpAnyH P md ops Q S fuel (listed.setIfInBounds i true) { tmps := a.tmps.setIfInBounds d v, defers := a.defers } w) : wpAnyH P md ops Q S (fuel + 1) listed a w :=
  wpAnyH_take hi hs hf hr hQ hy hS (by rw [hd]; exact h)

end Go.Proofs.YtfhmfanmnhclfaaDoor

