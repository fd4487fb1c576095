import Derived.Deep.RegionHeld
import Derived.Test.YtakilpnbjihibaaGreatDoorP2
import Derived.Deep.RegionHeld2
namespace Go.Proofs.YtakilpnbjihibaaGreatDoor
set_option linter.unusedVariables false
set_option linter.unusedSimpArgs false
set_option maxHeartbeats 4000000
set_option maxRecDepth 100000
section
open Go.RowKit Go.Lib Go.Deep Go.Shelf
def plainB (o : Oper) : Bool := match o.op with
 | .defer _ => false
 | _ => true
theorem plainB_ne {o : Oper} (h : plainB o = true) : ∀ c, o.op ≠ .defer c := by
 intro c e; unfold plainB at h; rw [e] at h
 cases h
theorem upon_in {n l : Nat} {P : Program} {o : Oper} {a : Act} {next : Act -> World -> Prop} {Q0 : Act -> World -> Prop} {Q : Exit -> Act -> World -> Prop} {r : Result Next}
 (h : o.upon P a next (fun e a w => e = .normal /\ Q0 a w) r) : o.uponIn (Fence.wide.inRound l) n P a next Q r := by
 unfold Oper.upon at h; unfold Oper.uponIn; split at h
 . exact h
 . exact h
 . exact h
 . refine ⟨fun hd => by simp [Fence.wide, Fence.inRound] at hd, CallsIn.inRound l ((callsIn_wide.2 h).mono ?_)⟩; intro e w' he
   cases e with
   | returned v => exact he
   | panicked c => exact absurd he.1 (by simp)
   | outgrown => obtain ⟨_, _, h1, _⟩ := he; exact absurd h1 (by simp)
 . refine ⟨fun hd => by simp [Fence.wide, Fence.inRound] at hd, ?_⟩; intro c cs _; obtain ⟨v, w', hr, hs⟩ := h c cs; exact ⟨v, w', hr, stepsIn_wide.2 hs⟩
 . exact absurd h.1 (by simp)
 . exact h.elim
theorem any_round {n l : Nat} {P : Program} {md : Region.Mode} {ops : Array Oper} {Q0 : Act -> World -> Prop} {Q : Exit -> Act -> World -> Prop} (hp : ops.all plainB = true) (hQ : ∀ a w, Q0 a w -> Q .normal a w) : ∀ (fuel : Nat) (listed : Array Bool) (a : Act) (w : World),
 wpAny P md ops (fun e a w => e = .normal /\ Q0 a w) fuel listed a w -> wpAnyIn (Fence.wide.inRound l) n P md ops Q fuel listed a w
 | 0, _, _, _, h => ⟨h.1, hQ _ _ h.2.2⟩
 | fuel + 1, listed, a, w, h => by
  refine ⟨fun h0 => hQ _ _ (h.1 h0).2, fun i hi => ?_⟩; have h1 := h.2 i hi; unfold wpOp at h1; unfold wpOpIn
  cases ho : ops[i]? with
  | none =>
   simp only [ho] at h1; exact any_round hp hQ fuel _ _ _ h1
  | some o =>
   simp only [ho] at h1
   have hpo : plainB o = true := by
    rw [Array.all_eq_true] at hp; obtain ⟨hlt, e⟩ := Array.getElem?_eq_some_iff.1 ho; rw [<- e]; exact hp i hlt
   simp only; split
   . rename_i hw; rw [if_pos hw] at h1; rcases h1 with h1 | ⟨_, _, _, h1, _⟩
     . refine ⟨fun f _ => trivial, ?_⟩; rw [show (Fence.wide.inRound l).round = some l from rfl, Oper.semAt_eq _ _ _ (plainB_ne hpo)]; refine upon_in (Q0 := Q0) ?_; exact Oper.wp_mono (fun a' w' h' => any_round hp hQ fuel _ a' w' h') h1
     . exact absurd h1 (by simp)
   . rename_i hw; rw [if_neg hw] at h1; exact ⟨fun f _ => trivial, any_round hp hQ fuel _ _ _ h1⟩
theorem held_round {S : World -> Prop} {n l : Nat} {P : Program} {id : Nat} {ops : Array Oper} {Q : Exit -> Act -> World -> Prop} {a : Act} {w : World} (hm : P.follows .mixedOrders = true) (hp : ops.all plainB = true) (hS : S w.drew)
 (h : S w.drew -> wpAnyH P .any ops (fun e a w => e = .normal /\ Q .normal a w) S ops.size (Array.replicate ops.size false) a w.drew) : (Code.region id ops true).wpIn (Fence.wide.inRound l) n P Q a w :=
 wpIn_region_any hm (any_round hp (fun _ _ h => h) _ _ _ _ (wpAny_of_held _ _ _ _ (h hS)))
theorem upon_wide {n : Nat} {P : Program} {o : Oper} {a : Act} {next : Act -> World -> Prop} {Q0 : Act -> World -> Prop} {Q : Exit -> Act -> World -> Prop} {r : Result Next}
 (h : o.upon P a next (fun e a w => e = .normal /\ Q0 a w) r) : o.uponIn Fence.wide n P a next Q r := by
 unfold Oper.upon at h; unfold Oper.uponIn; split at h
 . exact h
 . exact h
 . exact h
 . refine ⟨fun hd => by simp [Fence.wide, Fence.inRound] at hd, (callsIn_wide.2 h).mono ?_⟩; intro e w' he
   cases e with
   | returned v => exact he
   | panicked c => exact absurd he.1 (by simp)
   | outgrown => obtain ⟨_, _, h1, _⟩ := he; exact absurd h1 (by simp)
 . refine ⟨fun hd => by simp [Fence.wide, Fence.inRound] at hd, ?_⟩; intro c cs _; obtain ⟨v, w', hr, hs⟩ := h c cs; exact ⟨v, w', hr, stepsIn_wide.2 hs⟩
 . exact absurd h.1 (by simp)
 . exact h.elim
theorem any_wide {n : Nat} {P : Program} {md : Region.Mode} {ops : Array Oper} {Q0 : Act -> World -> Prop} {Q : Exit -> Act -> World -> Prop} (hp : ops.all plainB = true) (hQ : ∀ a w, Q0 a w -> Q .normal a w) : ∀ (fuel : Nat) (listed : Array Bool) (a : Act) (w : World),
 wpAny P md ops (fun e a w => e = .normal /\ Q0 a w) fuel listed a w -> wpAnyIn Fence.wide n P md ops Q fuel listed a w
 | 0, _, _, _, h => ⟨h.1, hQ _ _ h.2.2⟩
 | fuel + 1, listed, a, w, h => by
  refine ⟨fun h0 => hQ _ _ (h.1 h0).2, fun i hi => ?_⟩; have h1 := h.2 i hi; unfold wpOp at h1; unfold wpOpIn
  cases ho : ops[i]? with
  | none =>
   simp only [ho] at h1; exact any_wide hp hQ fuel _ _ _ h1
  | some o =>
   simp only [ho] at h1
   have hpo : plainB o = true := by
    rw [Array.all_eq_true] at hp; obtain ⟨hlt, e⟩ := Array.getElem?_eq_some_iff.1 ho; rw [<- e]; exact hp i hlt
   simp only; split
   . rename_i hw; rw [if_pos hw] at h1; rcases h1 with h1 | ⟨_, _, _, h1, _⟩
     . refine ⟨fun f _ => trivial, ?_⟩; rw [show Fence.wide.round = none from rfl, Oper.semAt_eq _ _ _ (plainB_ne hpo)]; refine upon_wide (Q0 := Q0) ?_; exact Oper.wp_mono (fun a' w' h' => any_wide hp hQ fuel _ a' w' h') h1
     . exact absurd h1 (by simp)
   . rename_i hw; rw [if_neg hw] at h1; exact ⟨fun f _ => trivial, any_wide hp hQ fuel _ _ _ h1⟩
theorem held_wide {S : World -> Prop} {n : Nat} {P : Program} {id : Nat} {ops : Array Oper} {Q : Exit -> Act -> World -> Prop} {a : Act} {w : World} (hm : P.follows .mixedOrders = true) (hp : ops.all plainB = true) (hS : S w.drew)
 (h : S w.drew -> wpAnyH P .any ops (fun e a w => e = .normal /\ Q .normal a w) S ops.size (Array.replicate ops.size false) a w.drew) : (Code.region id ops true).wpIn Fence.wide n P Q a w :=
 wpIn_region_any hm (any_wide hp (fun _ _ h => h) _ _ _ _ (wpAny_of_held _ _ _ _ (h hS)))
theorem held_take {P : Program} {ops : Array Oper} {Q : Exit -> Act -> World -> Prop} {md : Region.Mode} {S : World -> Prop} {i d : Nat} {oi : Oper} {v : Value} {fuel : Nat} {listed : Array Bool} {a : Act} {w : World} (hi : ops[i]? = some oi) (hd : oi.dst = some d)
 (hs : Region.noSelect ops = true) (hf : Region.free md ops listed i = true) (hr : (Region.ready md ops listed).contains i = true)
 (hQ : ∀ c a w, Q (.panic c) (a.put oi.dst v) w -> Q (.panic c) a w) (hy : YieldsIf P ops S oi v a) (hS : S w)
 (h : wpAnyH P md ops Q S fuel (listed.setIfInBounds i true) { tmps := a.tmps.setIfInBounds d v, defers := a.defers } w) : wpAnyH P md ops Q S (fuel + 1) listed a w :=
 wpAnyH_take hi hs hf hr hQ hy hS (by rw [hd]; exact h)
theorem htI {P : Program} {ops : Array Oper} {Q : Exit -> Act -> World -> Prop} {md : Region.Mode} {S : World -> Prop} {d : Nat} {oi : Oper} {fuel : Nat} {listed : Array Bool} {a : Act} {w : World} (i : Nat) (v : Value) (hi : (ops[i]?).map (fun o => (o, o.dst)) = some (oi, some d))
    (hb : (Region.noSelect ops && (Region.free md ops listed i && ((Region.ready md ops listed).contains i && Region.wanted oi (yielded ops a.tmps)))) = true)
    (hQ : ∀ {c a w}, Q (.panic c) (a.put oi.dst v) w -> Q (.panic c) a w) (hy : ∀ w, S w -> (execOp a.eval oi).run P w = .ok (.value v) w) (hS : S w)
    (h : wpAnyH P md ops Q S fuel (listed.setIfInBounds i true) { tmps := a.tmps.setIfInBounds d v, defers := a.defers } w) : wpAnyH P md ops Q S (fuel + 1) listed a w := by
  rw [Bool.and_eq_true, Bool.and_eq_true, Bool.and_eq_true] at hb
  obtain ⟨o, ho, e⟩ := Option.map_eq_some_iff.1 hi
  injection e with e1 hd
  subst e1
  exact held_take ho hd hb.1 hb.2.1 hb.2.2.1 (fun _ _ _ h => hQ h) (Or.inl ⟨hb.2.2.2, hy⟩) hS h
theorem htU {P : Program} {ops : Array Oper} {Q : Exit -> Act -> World -> Prop} {md : Region.Mode} {S : World -> Prop} {d : Nat} {oi : Oper} {fuel : Nat} {listed : Array Bool} {a : Act} {w : World} (i : Nat) (hi : (ops[i]?).map (fun o => (o, o.dst)) = some (oi, some d))
    (hb : (Region.noSelect ops && (Region.free md ops listed i && ((Region.ready md ops listed).contains i && !Region.wanted oi (yielded ops a.tmps)))) = true)
    (hQ : ∀ {c a w}, Q (.panic c) (a.put oi.dst undef) w -> Q (.panic c) a w) (hS : S w)
    (h : wpAnyH P md ops Q S fuel (listed.setIfInBounds i true) { tmps := a.tmps.setIfInBounds d undef, defers := a.defers } w) : wpAnyH P md ops Q S (fuel + 1) listed a w := by
  rw [Bool.and_eq_true, Bool.and_eq_true, Bool.and_eq_true, Bool.not_eq_true'] at hb
  obtain ⟨o, ho, e⟩ := Option.map_eq_some_iff.1 hi
  injection e with e1 hd
  subst e1
  exact held_take ho hd hb.1 hb.2.1 hb.2.2.1 (fun _ _ _ h => hQ h) (Or.inr ⟨hb.2.2.2, rfl⟩) hS h
theorem rdy {P : Program} {ops : Array Oper} {Q : Exit -> Act -> World -> Prop} {md : Region.Mode} {S : World -> Prop} {fuel : Nat} {listed : Array Bool} {a : Act} {w : World} {o : Oper} (i : Nat) (hr : Region.ready md ops listed = [i]) (ho : ops[i]? = some o)
    (h : ∀ K' : Act -> World -> Prop, Shut (∀ a w, S w -> (S w -> wpAnyH P md ops Q S fuel (listed.setIfInBounds i true) a w) -> K' a w) -> if Region.wanted o (yielded ops a.tmps) = true then Oper.wp P o a w K' Q else K' (a.put o.dst undef) w) : wpAnyH P md ops Q S (fuel + 1) listed a w := wpAnyH_ready hr (by simp) (AllReadyH.cons ho h AllReadyH.nil)
theorem st3 : ((∀ (l : List Bool) (i : Nat) (a : Bool), l.toArray.setIfInBounds i a = (l.set i a).toArray) /\ (∀ (x y : Bool) (l : List Bool), (x :: l).set 0 y = y :: l) /\ (∀ (x y : Bool) (l : List Bool) (i : Nat), (x :: l).set (i + 1) y = x :: l.set i y)) /\ (∀ (l : List Value) (i : Nat) (a : Value), l.toArray.setIfInBounds i a = (l.set i a).toArray) /\ (∀ (x y : Value) (l : List Value), (x :: l).set 0 y = y :: l) /\ (∀ (x y : Value) (l : List Value) (i : Nat), (x :: l).set (i + 1) y = x :: l.set i y) :=
  ⟨⟨fun _ _ _ => List.setIfInBounds_toArray .., fun _ _ _ => List.set_cons_zero .., fun _ _ _ _ => List.set_cons_succ ..⟩, fun _ _ _ => List.setIfInBounds_toArray .., fun _ _ _ => List.set_cons_zero .., fun _ _ _ _ => List.set_cons_succ ..⟩
attribute [local go_sem] Oper.semAt_some
structure Shape (S : St) : Prop where
 ok : Okay S
 row : ∀ a, a < S.groups.length -> (S.between.getD a []).length = S.groups.length
 ph : ∀ i, i < S.phases.length -> (S.ph i).groups < 2 ^ S.groups.length
theorem mostL_snoc : ∀ (l : List Int) (x : Int), mostL (l ++ [x]) = max (mostL l) x
 | [], x => by simp [mostL]; omega
 | y :: l, x => by rw [List.cons_append, mostL, mostL_snoc l x, mostL]; omega
theorem max_if (a b : Int) : max a b = if a < b then b else a := by
 split <;> omega
def outL (S : St) (T : Nat) (pre : List Nat) : List Int := pre.flatMap fun a => (memb (S.ap a &&& T)).map (S.bt a)
theorem outL_snoc (S : St) (T : Nat) (pre : List Nat) (a : Nat) : outL S T (pre ++ [a]) = outL S T pre ++ (memb (S.ap a &&& T)).map (S.bt a) := by simp [outL]
theorem lies_list {S : St} (h : Shape S) (ha : ∀ i, S.ap i < 4294967296) (hp : ∀ i, (S.ph i).groups < 4294967296) {f t : Nat} (hf : f < S.phases.length) (ht : t < S.phases.length) : mostL (outL S (S.ph t).groups (memb (S.ph f).groups)) = liesM S f t := by
 refine (liesM_eq ((mostL_is _).congr fun x => ?_)).symm; unfold outL LiesP
 have lim : ∀ i, i < S.phases.length -> ∀ j, (S.ph i).groups.testBit j = true -> j < S.groups.length := fun i hi j hj => by
  by_cases hh : j < S.groups.length
  . exact hh
  . have := Nat.testBit_lt_two_pow (Nat.lt_of_lt_of_le (h.ph i hi) (Nat.pow_le_pow_right (n := 2) (by omega) (show S.groups.length <= j by omega))); rw [this] at hj; cases hj
 simp only [List.mem_flatMap, List.mem_map, mem_memb, Nat.testBit_and, Bool.and_eq_true]; constructor
 . rintro ⟨a, ⟨h1, h2⟩, b, ⟨h3, h4, h5⟩, rfl⟩; exact ⟨a, b, lim f hf a h2, lim t ht b h5, h2, h5, h4, rfl⟩
 . rintro ⟨a, b, h1, h2, h3, h4, h5, rfl⟩; exact ⟨a, ⟨lt_bit (hp f) h3, h3⟩, b, ⟨lt_bit (hp t) h4, h5, h4⟩, rfl⟩
theorem lies_any {B : Nat} {X : Sa} {S : St} {w : World} (h : Sbox w B X S) (hT : Tabb w) (hSh : Shape S) (f t : Nat) (hf : f < S.phases.length) (ht : t < S.phases.length) :
 Calls Tryz.prog 134 #[.pointer (some ⟨B, 0, none⟩), .int .i64 f, .int .i64 t] w fun e w' => e = .returned (.int .i64 (liesM S f t)) /\ Kept w w' none := by
 refine (callsIn_wide (n := 8)).1 ?_; have HB := Hid.mk' h; have HS := Hid.mk' hSh; have HTb := Hid.mk' hT; have hBl := h.lt; have hp8 := hSh.ok.np; have hg16 := hSh.ok.ng; have c4 := h.c4; obtain ⟨bp, op, ep, kp, _, _, _, _⟩ := h.sat.phAt hf; rw [ep] at c4; have hbp : bp < w.heap.size := block_lt kp; have hT1 := hT.lt; have hB1 : B < w.heap.size + 1 := by omega
 have hB2 : B < w.heap.size + 1 + 1 := by omega
 have hp1 : bp < w.heap.size + 1 := by omega
 have hp2 : bp < w.heap.size + 1 + 1 := by omega
 clear h hSh hT; refine callsIn_of_wp_marks Tryz.func134 rfl trivial ?_ rfl; simp only [Tryz.ntmps134, List.size_toArray, List.length_cons, List.length_nil, Nat.reduceAdd, Nat.reduceSub, Array.replicate_succ, Array.replicate_zero, List.push_toArray, List.append_toArray, List.nil_append, List.cons_append]
 gi_wp2_with (refine ⟨trivial, ?_⟩; gi_at_call 125; refine (members_in _ _ _).mono ?_; rintro e w' ⟨rfl, rfl⟩)
 have hF := HB.out.sat.phr f; have hTg := HB.out.sat.phr t; have bP := (((Boxed.new w 144 (.pointer (some ⟨B, 0, none⟩))).alloc (.cells #[.int .i64 (t : Int)] 3)).alloc (.cells #[.int .i64 0] 3)).alloc (.cells #[.int .u32 ((S.ph f).groups : Int)] 91); have bT := ((Boxed.new (w.alloc (.cells #[.pointer (some ⟨B, 0, none⟩)] 144)) 3 (.int .i64 (t : Int))).alloc (.cells #[.int .i64 0] 3)).alloc (.cells #[.int .u32 ((S.ph f).groups : Int)] 91); have bG := (Boxed.new ((w.alloc (.cells #[.pointer (some ⟨B, 0, none⟩)] 144)).alloc (.cells #[.int .i64 (t : Int)] 3)) 3 (.int .i64 0)).alloc (.cells #[.int .u32 ((S.ph f).groups : Int)] 91); have bF := Boxed.new (((w.alloc (.cells #[.pointer (some ⟨B, 0, none⟩)] 144)).alloc (.cells #[.int .i64 (t : Int)] 3)).alloc (.cells #[.int .i64 0] 3)) 91 (.int .u32 ((S.ph f).groups : Int)); simp only [World.size_alloc] at bT bG bF; have hB0 : Below w.heap.size w ((((w.alloc (.cells #[.pointer (some ⟨B, 0, none⟩)] 144)).alloc (.cells #[.int .i64 (t : Int)] 3)).alloc (.cells #[.int .i64 0] 3)).alloc (.cells #[.int .u32 ((S.ph f).groups : Int)] 91)) := ((((Below.refl _ w).alloc (Nat.le_refl _) _).alloc (by simp) _).alloc (by simp; omega) _).alloc (by simp; omega) _; have hsz : ((((w.alloc (.cells #[.pointer (some ⟨B, 0, none⟩)] 144)).alloc (.cells #[.int .i64 (t : Int)] 3)).alloc (.cells #[.int .i64 0] 3)).alloc (.cells #[.int .u32 ((S.ph f).groups : Int)] 91)).heap.size = w.heap.size + 4 := by simp
 obtain ⟨W0, hW0⟩ : ∃ W0, (((w.alloc (.cells #[.pointer (some ⟨B, 0, none⟩)] 144)).alloc (.cells #[.int .i64 (t : Int)] 3)).alloc (.cells #[.int .i64 0] 3)).alloc (.cells #[.int .u32 ((S.ph f).groups : Int)] 91) = W0 := ⟨_, rfl⟩
 rw [hW0] at bP bT bG bF hB0 hsz ⊢; have hsz1 : W0.heap.size <= w.heap.size + 4 := by omega
 have hsz2 : w.heap.size + 4 <= W0.heap.size := by omega
 clear hW0 c4 hsz
 refine wpIn_rangeFunc_ownH rfl (by omega) (gf := 131) (lb := #[.pointer (some ⟨w.heap.size + 1 + 1 + 1, 0, none⟩)]) rfl trivial (enters_of Tryz.func131 (by kernel_rfl) rfl)
  (members_stops 7 (by omega) (w.heap.size + 1 + 1 + 1) w.heap.size (S.ph f).groups W0 (by omega) hF hT1 (by omega) bF.cell (HTb.out.below hT1 hB0)) belowK_t (belowK_b (by omega)) (Below.refl _ _) (fun _ => rfl)
  (fun pre W => ((Boxed W (w.heap.size + 1 + 1) 3 (.int .i64 (mostL (outL S (S.ph t).groups (vals pre)))) /\ Boxed W w.heap.size 144 (.pointer (some ⟨B, 0, none⟩))) /\ Boxed W (w.heap.size + 1) 3 (.int .i64 (t : Int))) /\ Below w.heap.size w W)
  (fun _ _ _ => False)
  (OwnFrom.and (OwnFrom.and (OwnFrom.and (Own.from (boxed_own _ _ _) _) (Own.from (boxed_own _ _ _) _)) (Own.from (boxed_own _ _ _) _)) (ownFrom_below (Nat.le_refl _) (by omega)))
  (fun _ _ _ _ _ hs _ _ => hs)
  ⟨⟨⟨bG, bP⟩, bT⟩, hB0⟩
  (fun x a' W => ∃ Bx, w.heap.size + 1 + 1 < Bx /\ Boxed W Bx 3 (.int .i64 (x.1 : Int)) /\ a' = { tmps := #[.pointer (some ⟨B, 0, none⟩), .int .i64 (f : Int), .int .i64 (t : Int), .pointer (some ⟨w.heap.size, 0, none⟩), undef, .pointer (some ⟨w.heap.size + 1, 0, none⟩), .int .i64 0, .pointer (some ⟨w.heap.size + 1 + 1, 0, none⟩), .pointer (some ⟨Bx, 0, none⟩), undef, .pointer (some ⟨B, 0, none⟩), .pointer (some ⟨B, 0, none⟩), .pointer (some ⟨B, 4, none⟩), .slice (some ⟨bp, op, none⟩) S.phases.length X.pc, .int .i64 (f : Int), .pointer (some ⟨bp, op + f * 5, none⟩), .pointer (some ⟨bp, op + f * 5, none⟩), .int .u32 ((S.ph f).groups : Int), .func (.func 131) #[] #[.pointer (some ⟨w.heap.size + 1 + 1 + 1, 0, none⟩)], .int .i64 (x.1 : Int), undef, undef, undef, undef, undef, undef, undef, undef, undef, undef, undef, undef, undef, undef, undef, undef, undef, undef, undef, undef, undef, undef, undef, undef, undef, undef, undef, undef, undef, undef, undef], defers := [] })
  (fun x a' _ X Y row hs hg hr => by obtain ⟨Bx, h1, h2, h3⟩ := hs; exact ⟨Bx, h1, boxed_own Bx 3 (fun (_ : Unit) => Value.int .i64 (x.1 : Int)) () X Y row h2 hg (fun r e => (hr r e).2), h3⟩)
  ?assign ?body ?done ?stop
 case assign =>
  rintro l pre x W K ⟨⟨⟨bG1, bP1⟩, bT1⟩, hB1⟩ hK
  gi_wp2
  exact hK _ _ ((KeepsOthers.alloc _ _).from _) ((Below.refl _ W).alloc hB1.size _) ⟨⟨⟨bG1.alloc _, bP1.alloc _⟩, bT1.alloc _⟩, hB1.alloc hB1.size _⟩ ⟨W.heap.size, bG1.lt, Boxed.new W 3 _, rfl⟩
 case body =>
  rintro l pre x a' W hl ⟨r, hr⟩ ⟨⟨⟨bG1, bP1⟩, bT1⟩, hB1⟩ ⟨Bx, hBx, bX, rfl⟩ hlt; have cG := bG1.cell; have cP := bP1.cell; have cT := bT1.cell; have cX := bX.cell; obtain ⟨x, hx⟩ := x; have hSb := HB.out.kept (Kept.of_below hB1)
  have hxg : x < S.groups.length := by
   have h1 := (mem_memb.1 hx).2; by_cases hh : x < S.groups.length
   . exact hh
   . have := Nat.testBit_lt_two_pow (Nat.lt_of_lt_of_le (HS.out.ph f hf) (Nat.pow_le_pow_right (n := 2) (by omega) (show S.groups.length <= x by omega))); rw [this] at h1; cases h1
  have c2 := hSb.c2; have c4 := hSb.c4; have hna := HS.out.ok.na; have hxa : x < S.apart.length := by omega
  obtain ⟨ba, oa, ea, hca⟩ := hSb.sat.apAt (n := S.apart.length) (by omega) (by omega); have ka := hca x hxa; obtain ⟨bq, oq, eq, kq, _, _, _, _⟩ := hSb.sat.phAt ht; rw [ea] at c2; rw [eq] at c4; have han := u32_and_nat (S.ap x) (S.ph t).groups (HB.out.sat.apr x) hTg; have HAN := Hid.mk' han; clear han hca hna; dsimp only at *
  gi_wp2
  refine held_round (S := fun w' => w'.cell? ⟨w.heap.size, 0, none⟩ = some (.pointer (some ⟨B, 0, none⟩)) /\ w'.cell? ⟨B, 2, none⟩ = some (.slice (some ⟨ba, oa, none⟩) S.apart.length X.ac) /\ w'.cell? ⟨Bx, 0, none⟩ = some (.int .i64 (x : Int)) /\ w'.cell? ⟨ba, oa + x, none⟩ = some (.int .u32 (S.ap x : Int)) /\ w'.cell? ⟨B, 4, none⟩ = some (.slice (some ⟨bq, oq, none⟩) S.phases.length X.pc) /\ w'.cell? ⟨w.heap.size + 1, 0, none⟩ = some (.int .i64 (t : Int)) /\ w'.cell? ⟨bq, oq + t * 5, none⟩ = some (.int .u32 ((S.ph t).groups : Int))) (by kernel_rfl) (by kernel_rfl) ⟨cP, c2, cX, ka, c4, cT, kq⟩ (fun kH => ?_); refine htI 0 ?_ rfl (by kernel_rfl) (fun h => by cases h.1) ?_ (by assumption) <| htI 1 ?_ rfl (by kernel_rfl) (fun h => by cases h.1) ?_ (by assumption) <| htI 2 ?_ rfl (by kernel_rfl) (fun h => by cases h.1) ?_ (by assumption) <| htI 3 ?_ rfl (by kernel_rfl) (fun h => by cases h.1) ?_ (by assumption) <| htI 4 ?_ rfl (by kernel_rfl) (fun h => by cases h.1) ?_ (by assumption) <| htI 5 ?_ rfl (by kernel_rfl) (fun h => by cases h.1) ?_ (by assumption) <| htI 6 ?_ rfl (by kernel_rfl) (fun h => by cases h.1) ?_ (by assumption) <| htI 7 ?_ rfl (by kernel_rfl) (fun h => by cases h.1) ?_ (by assumption) <| htI 8 ?_ rfl (by kernel_rfl) (fun h => by cases h.1) ?_ (by assumption) <| htI 9 ?_ rfl (by kernel_rfl) (fun h => by cases h.1) ?_ (by assumption) <| htI 10 ?_ rfl (by kernel_rfl) (fun h => by cases h.1) ?_ (by assumption) <| htI 11 ?_ rfl (by kernel_rfl) (fun h => by cases h.1) ?_ (by assumption) <| htI 12 ?_ rfl (by kernel_rfl) (fun h => by cases h.1) ?_ (by assumption) <| htI 13 ?_ rfl (by kernel_rfl) (fun h => by cases h.1) ?_ (by assumption) <| htI 14 ?_ rfl (by kernel_rfl) (fun h => by cases h.1) ?_ (by assumption) <| htI 15 ?_ rfl (by kernel_rfl) (fun h => by cases h.1) ?_ (by assumption) ?_
  all_goals try (intro w h; (try simp only [st3] at h ⊢); go_simp <;> with_reducible rfl)
  (try simp only [st3]); refine rdy 16 (by kernel_rfl) rfl (fun K hK => ?_); go_simp; rw [HAN.out]; go_wp2_with (go_at_call 125; refine ((callsIn_wide (n := 1)).1 (members_in 1 (S.ap x &&& (S.ph t).groups) _)).mono ?_; rintro e w' ⟨rfl, rfl⟩); refine hK.out _ _ (by go_keep) (fun hHeld2 => ?_); clear hK K; refine wpAnyH_done (by kernel_rfl) ⟨rfl, ?_⟩ _; clear kH hHeld2
  gi_wp2
  have hsW := hB1.size; obtain ⟨W1, hW1⟩ : ∃ W1, (W.alloc (.cells #[.int .u32 ((S.ap x &&& (S.ph t).groups : Nat) : Int)] 91)).drew = W1 := ⟨_, rfl⟩
  have bN : Boxed W1 W.heap.size 91 (.int .u32 ((S.ap x &&& (S.ph t).groups : Nat) : Int)) := by rw [<- hW1]; exact Boxed.new W 91 _
  have bG1' : Boxed W1 (w.heap.size + 1 + 1) 3 (.int .i64 (mostL (outL S (S.ph t).groups (vals pre)))) := by rw [<- hW1]; exact bG1.alloc _
  have bX' : Boxed W1 Bx 3 (.int .i64 (x : Int)) := by rw [<- hW1]; exact bX.alloc _
  have bP1' : Boxed W1 w.heap.size 144 (.pointer (some ⟨B, 0, none⟩)) := by rw [<- hW1]; exact bP1.alloc _
  have bT1' : Boxed W1 (w.heap.size + 1) 3 (.int .i64 (t : Int)) := by rw [<- hW1]; exact bT1.alloc _
  have hr' : W1.heap[l]? = some (.loop r) := by rw [<- hW1]; exact (Below.heap_alloc W _ l (Array.getElem?_eq_some_iff.1 hr).1).trans hr
  have hBW1 : Below w.heap.size W W1 := by rw [<- hW1]; exact ((Below.refl w.heap.size W).alloc hsW _).drew
  have hKF1 : KeepsFrom W0.heap.size W W1 := by rw [<- hW1]; exact ((KeepsOthers.alloc _ _).trans (KeepsOthers.drew _)).from _
  have hz1 : W1.heap.size = W.heap.size + 1 := by rw [<- hW1]; exact World.size_alloc _ _
  have hTW := (HTb.out.below hT1 hB1).below hT1 hBW1; rw [hW1]; have hz1a : W1.heap.size <= W.heap.size + 1 := by omega
  have hz1b : W.heap.size + 1 <= W1.heap.size := by omega
  clear hW1 hz1; have hlm : S.ap x &&& (S.ph t).groups < 4294967296 := Nat.lt_of_le_of_lt Nat.and_le_left (HB.out.sat.apr x)
  refine wpIn_rangeFunc_ownN (l₀ := l) (r₀ := r) rfl hr' (by omega) (gf := 131) (lb := #[.pointer (some ⟨W.heap.size, 0, none⟩)]) rfl trivial (enters_of Tryz.func131 (by kernel_rfl) rfl)
   ((members_stops 5 (by omega) W.heap.size w.heap.size (S.ap x &&& (S.ph t).groups) W1 (by omega) hlm hT1 (by omega) bN.cell hTW).inRound l) belowK_t (belowK_b (by omega)) (Below.refl _ _) (fun _ => rfl)
   (fun pre' W' => (((Boxed W' (w.heap.size + 1 + 1) 3 (.int .i64 (mostL (outL S (S.ph t).groups (vals pre) ++ (vals pre').map (S.bt x)))) /\ Boxed W' Bx 3 (.int .i64 (x : Int))) /\ Boxed W' w.heap.size 144 (.pointer (some ⟨B, 0, none⟩))) /\ Boxed W' (w.heap.size + 1) 3 (.int .i64 (t : Int))) /\ (Below w.heap.size W W' /\ KeepsFrom W0.heap.size W W'))
   (fun _ _ _ => False)
   (OwnFrom.and (OwnFrom.and (OwnFrom.and (OwnFrom.and (Own.from (boxed_own _ _ _) _) (Own.from (boxed_own _ _ _) _)) (Own.from (boxed_own _ _ _) _)) (Own.from (boxed_own _ _ _) _)) (OwnFrom.and (ownFrom_below hsW (by omega)) (ownFrom_keepsFrom (by have := hB1.size; omega))))
   (fun _ _ _ _ _ hs _ _ => hs)
   ⟨⟨⟨⟨by simpa [vals] using bG1', bX'⟩, bP1'⟩, bT1'⟩, hBW1, hKF1⟩
   (fun y a'' _ => a'' = { tmps := #[.pointer (some ⟨B, 0, none⟩), .int .i64 (f : Int), .int .i64 (t : Int), .pointer (some ⟨w.heap.size, 0, none⟩), undef, .pointer (some ⟨w.heap.size + 1, 0, none⟩), .int .i64 0, .pointer (some ⟨w.heap.size + 1 + 1, 0, none⟩), .pointer (some ⟨Bx, 0, none⟩), .int .i64 (y.1 : Int), .pointer (some ⟨B, 0, none⟩), .pointer (some ⟨B, 0, none⟩), .pointer (some ⟨B, 4, none⟩), .slice (some ⟨bp, op, none⟩) S.phases.length X.pc, .int .i64 (f : Int), .pointer (some ⟨bp, op + f * 5, none⟩), .pointer (some ⟨bp, op + f * 5, none⟩), .int .u32 ((S.ph f).groups : Int), .func (.func 131) #[] #[.pointer (some ⟨w.heap.size + 1 + 1 + 1, 0, none⟩)], .int .i64 (x : Int), .pointer (some ⟨B, 0, none⟩), .pointer (some ⟨B, 0, none⟩), .pointer (some ⟨B, 2, none⟩), .slice (some ⟨ba, oa, none⟩) S.apart.length X.ac, .int .i64 (x : Int), .pointer (some ⟨ba, oa + x, none⟩), .int .u32 (S.ap x : Int), .pointer (some ⟨B, 0, none⟩), .pointer (some ⟨B, 0, none⟩), .pointer (some ⟨B, 4, none⟩), .slice (some ⟨bq, oq, none⟩) S.phases.length X.pc, .int .i64 (t : Int), .pointer (some ⟨bq, oq + t * 5, none⟩), .pointer (some ⟨bq, oq + t * 5, none⟩), .int .u32 ((S.ph t).groups : Int), .int .u32 ((S.ap x &&& (S.ph t).groups : Nat) : Int), .func (.func 131) #[] #[.pointer (some ⟨W.heap.size, 0, none⟩)], .int .i64 (y.1 : Int), undef, undef, undef, undef, undef, undef, undef, undef, undef, undef, undef, undef, undef], defers := [] })
   (fun _ _ _ _ _ _ hs _ _ => hs)
   ?assign2 ?body2 ?done2 ?stop2
  case assign2 =>
   rintro l2 pre' y W' K hi hK
   gi_wp2
   exact hK _ _ (KeepsFrom.refl _ _) (Below.refl _ _) hi rfl
  case body2 =>
   rintro l2 pre' y a'' W' _ _ ⟨⟨⟨⟨bS2, bX2⟩, bP2⟩, bT2⟩, hBW, hKF⟩ rfl _; have cS := bS2.cell; have fS := bS2.frozen; have cX2 := bX2.cell; have cP2 := bP2.cell; obtain ⟨y, hy⟩ := y; have hSb2 := HB.out.kept (Kept.of_below (hB1.trans hBW))
   have hyg : y < S.groups.length := by
    have h1 := (mem_memb.1 hy).2; rw [Nat.testBit_and, Bool.and_eq_true] at h1; by_cases hh : y < S.groups.length
    . exact hh
    . have := Nat.testBit_lt_two_pow (Nat.lt_of_lt_of_le (HS.out.ph t ht) (Nat.pow_le_pow_right (n := 2) (by omega) (show S.groups.length <= y by omega))); rw [this] at h1; cases h1.2
   have c3 := hSb2.c3; have hnb := HS.out.ok.nb; have hxb : x < S.between.length := by omega
   clear hnb; have hkw2 := Kept.of_below (hB1.trans hBW); obtain ⟨bb, ob, ar, cr, eb, kb0, hI⟩ := HB.out.sat.b.at_ hxb; rw [eb] at c3; have hrl := HS.out.row x hxg; obtain ⟨bi, oi, ei, hbi, hci⟩ := hI.at_ (by omega); have ki0 := hci y (by omega); subst ei; have hbt : (S.between.getD x []).getD y 0 = S.bt x y := rfl; rw [hbt] at ki0; rw [hrl] at kb0; have hbb : bb < w.heap.size := block_lt kb0; have kb := cell_kept0 kb0 hkw2; have ki := cell_kept0 ki0 hkw2; clear hci hI hrl hbt kb0 ki0; dsimp only at *; generalize hM : mostL (outL S (S.ph t).groups (vals pre) ++ (vals pre').map (S.bt x)) = M at *; have HM := Hid.mk' hM; clear hM
   gi_wp2
   refine held_round (S := fun w' => w'.cell? ⟨w.heap.size, 0, none⟩ = some (.pointer (some ⟨B, 0, none⟩)) /\ w'.cell? ⟨B, 3, none⟩ = some (.slice (some ⟨bb, ob, none⟩) S.between.length X.bc) /\ w'.cell? ⟨Bx, 0, none⟩ = some (.int .i64 (x : Int)) /\ w'.cell? ⟨bb, ob + x, none⟩ = some (.slice (some ⟨bi, oi, none⟩) S.groups.length cr) /\ w'.cell? ⟨bi, oi + y, none⟩ = some (.int .i64 (S.bt x y))) (by kernel_rfl) (by kernel_rfl) ⟨cP2, c3, cX2, kb, ki⟩ (fun kH => ?_); refine htI 1 ?_ rfl (by kernel_rfl) (fun h => by cases h.1) ?_ (by assumption) <| htI 2 ?_ rfl (by kernel_rfl) (fun h => by cases h.1) ?_ (by assumption) <| htI 3 ?_ rfl (by kernel_rfl) (fun h => by cases h.1) ?_ (by assumption) <| htI 4 ?_ rfl (by kernel_rfl) (fun h => by cases h.1) ?_ (by assumption) <| htI 5 ?_ rfl (by kernel_rfl) (fun h => by cases h.1) ?_ (by assumption) <| htI 6 ?_ rfl (by kernel_rfl) (fun h => by cases h.1) ?_ (by assumption) <| htI 7 ?_ rfl (by kernel_rfl) (fun h => by cases h.1) ?_ (by assumption) <| htI 8 ?_ rfl (by kernel_rfl) (fun h => by cases h.1) ?_ (by assumption) <| htI 9 ?_ rfl (by kernel_rfl) (fun h => by cases h.1) ?_ (by assumption) <| htI 10 ?_ rfl (by kernel_rfl) (fun h => by cases h.1) ?_ (by assumption) ?_
   all_goals try (intro w h; (try simp only [st3] at h ⊢); go_simp <;> with_reducible rfl)
   (try simp only [st3]); refine rdy 0 (by kernel_rfl) rfl (fun K hK => ?_); go_simp; refine hK.out _ _ kH (fun hHeld2 => ?_); clear hK K hHeld2; refine htI 11 ?_ rfl (by kernel_rfl) (fun h => by cases h.1) ?_ (by assumption) ?_
   all_goals try (intro w h; (try simp only [st3] at h ⊢); go_simp <;> with_reducible rfl)
   (try simp only [st3]); refine rdy 12 (by kernel_rfl) rfl (fun K hK => ?_); go_simp; generalize hM2 : (if M < S.bt x y then S.bt x y else M) = M2; have HM2 := Hid.mk' hM2; clear hM2; refine hK.out _ _ ⟨?s1, ?s2, ?s3, ?s4, ?s5⟩ (fun hHeld3 => ?s6)
   case s1 => exact (World.cell?_setCell_far _ _ _ _ (by simp; omega)).trans cP2
   case s2 => exact (World.cell?_setCell_far _ _ _ _ (by simp; omega)).trans c3
   case s3 => exact (World.cell?_setCell_far _ _ _ _ (by simp; omega)).trans cX2
   case s4 => exact (World.cell?_setCell_far _ _ _ _ (by simp; omega)).trans kb
   case s5 => exact (World.cell?_setCell_far _ _ _ _ (by simp; omega)).trans ki
   clear hK K hHeld3; refine wpAnyH_done (by kernel_rfl) ⟨rfl, ?_⟩ _
   gi_wp2
   refine ⟨((KeepsOthers.setCell _ _ _).trans (KeepsOthers.drew _)).from _, ((Below.refl _ W').setCell (p := ⟨w.heap.size + 1 + 1, 0, none⟩) (by simp; omega) _).drew, ⟨⟨⟨⟨?b1, ?b2⟩, ?b3⟩, ?b4⟩, (hBW.setCell (p := ⟨w.heap.size + 1 + 1, 0, none⟩) (by simp; omega) _).drew, hKF.trans (((KeepsOthers.setCell _ _ _).trans (KeepsOthers.drew _)).from _)⟩⟩
   case b1 =>
    have e : mostL (outL S (S.ph t).groups (vals pre) ++ (vals (pre' ++ [⟨y, hy⟩])).map (S.bt x)) = M2 := by
     rw [vals_snoc, List.map_append, <- List.append_assoc, List.map_singleton, mostL_snoc, HM.out, <- HM2.out]; exact max_if M (S.bt x y)
    rw [e]; exact bS2.set _
   case b2 => exact bX2.other (by omega) _
   case b3 => exact bP2.other (by omega) _
   case b4 => exact bT2.other (by omega) _
  case done2 =>
   rintro ys' W' hys ⟨⟨⟨⟨bS2, bX2⟩, bP2⟩, bT2⟩, hBW, hKF⟩
   gi_wp2
   exact ⟨hKF, hBW, ⟨⟨by rw [vals_snoc, outL_snoc, <- hys]; exact bS2, bP2⟩, bT2⟩, hB1.trans hBW⟩
  case stop2 =>
   rintro c pre' W' _ h; exact h.elim
 case done =>
  rintro D zs W hD hzs ⟨⟨⟨bG1, bP1⟩, bT1⟩, hB1⟩ hK; have cG := bG1.cell
  gi_wp2
  refine ⟨by simp, .inl ⟨_, _, rfl, run_takeDeferred hK, ?_⟩⟩; refine ⟨_, results_tmp rfl _ _ _, ?_, Kept.of_below (hB1.trans (belowK_b (w := w) (Nat.le_refl _) W D _ _ (by omega) hK rfl rfl))⟩; rw [<- lies_list HS.out HB.out.sat.apr HB.out.sat.phr hf ht, <- hzs]; rfl
 case stop =>
  rintro D c pre W _ _ h _; exact h.elim
attribute [local go_sem] Oper.semAt_some
def minsL (S : St) (pre : List Nat) : List Int := pre.map fun a => (S.gr a).min
theorem minsL_snoc (S : St) (pre : List Nat) (a : Nat) : minsL S (pre ++ [a]) = minsL S pre ++ [(S.gr a).min] := by simp [minsL]
theorem mostL_le : ∀ (l : List Int) (m : Int), mostL l <= m ↔ 0 <= m /\ ∀ x ∈ l, x <= m
 | [], m => by simp [mostL]
 | y :: l, m => by
  have := mostL_le l m; rw [mostL]; constructor
  . intro h; have h2 := this.1 (by omega)
    exact ⟨h2.1, fun x hx => by
     rcases List.mem_cons.1 hx with rfl | hx
     . omega
     . exact h2.2 x hx⟩
  . rintro ⟨h1, h2⟩; have h3 := this.2 ⟨h1, fun x hx => h2 x (List.mem_cons_of_mem _ hx)⟩; have h4 := h2 y (List.mem_cons_self ..); omega
theorem bit_lim {G n j : Nat} (h : G < 2 ^ n) (hj : G.testBit j = true) : j < n := by
 by_cases hh : j < n
 . exact hh
 . have := Nat.testBit_lt_two_pow (Nat.lt_of_lt_of_le h (Nat.pow_le_pow_right (n := 2) (by omega) (show n <= j by omega))); rw [this] at hj; cases hj
theorem least_iff {S : St} {G : Nat} {m : Int} (hG : G < 2 ^ S.groups.length) (hl : S.groups.length <= 16) : (decide (0 <= m) && leastB S G m) = decide (mostL (minsL S (memb G)) <= m) := by
 rw [Bool.eq_iff_iff]; simp only [Bool.and_eq_true, decide_eq_true_eq, mostL_le, leastB, allB_iff, Bool.or_eq_true, Bool.not_eq_true']; refine and_congr_right fun h0 => ?_
 constructor
 . intro h x hx; simp only [minsL, List.mem_map] at hx; obtain ⟨a, ha, rfl⟩ := hx; have h2 := mem_memb.1 ha; rcases h a (bit_lim hG h2.2) with h3 | h3
   . rw [h2.2] at h3; cases h3
   . exact h3
 . intro h a ha
   cases hb : G.testBit a with
   | false => exact .inl rfl
   | true => exact .inr (h _ (by simp only [minsL, List.mem_map]; exact ⟨a, mem_memb.2 ⟨by omega, hb⟩, rfl⟩))
theorem mate_iff {S : St} {G : Nat} (hG : G < 2 ^ S.groups.length) (hl : S.groups.length <= 16) : mateB S G = true ↔ ∀ a ∈ memb G, S.ap a &&& G = 0 := by
 simp only [mateB, allB_iff, Bool.or_eq_true, Bool.not_eq_true', decide_eq_true_eq]; constructor
 . intro h a ha; have h2 := mem_memb.1 ha; rcases h a (bit_lim hG h2.2) with h3 | h3
   . rw [h2.2] at h3; cases h3
   . exact h3
 . intro h a ha
   cases hb : G.testBit a with
   | false => exact .inl rfl
   | true => exact .inr (h a (mem_memb.2 ⟨by omega, hb⟩))
theorem zero_and {x y : Nat} (hx : x < 4294967296) (hy : y < 4294967296) : (bits .and .u32 (x : Int) (y : Int) != 0) = !decide (x &&& y = 0) := by
 rw [u32_and_nat x y hx hy]; by_cases h : x &&& y = 0
 . rw [h]; rfl
 . rw [decide_eq_false h]; rw [Bool.not_false, bne_iff_ne]; omega
abbrev Pbox (W : World) (b : Nat) (p : Ph) : Prop := W.cell? ⟨b, 0, none⟩ = some (.int .u32 (p.groups : Int)) /\ W.cell? ⟨b, 1, none⟩ = some (.int .i64 p.min) /\ W.cell? ⟨b, 2, none⟩ = some (.int .i64 p.max) /\ W.cell? ⟨b, 3, none⟩ = some (.int .i64 p.gap)
theorem pbox_own {α : Type} (b : Nat) (p : Ph) : Go.Own (fun (_ : α) W => Pbox W b p) := fun s A B row hs hg hr =>
 ⟨cell_kept hs.1 hg hr, cell_kept hs.2.1 hg hr, cell_kept hs.2.2.1 hg hr, cell_kept hs.2.2.2 hg hr⟩
theorem Pbox.alloc {W : World} {b : Nat} {p : Ph} (h : Pbox W b p) (o : Obj) : Pbox (W.alloc o) b p := by
 have hb := block_lt h.1; exact ⟨(World.cell?_alloc_lt _ _ ⟨b, 0, none⟩ hb).trans h.1, (World.cell?_alloc_lt _ _ ⟨b, 1, none⟩ hb).trans h.2.1, (World.cell?_alloc_lt _ _ ⟨b, 2, none⟩ hb).trans h.2.2.1, (World.cell?_alloc_lt _ _ ⟨b, 3, none⟩ hb).trans h.2.2.2⟩
theorem Pbox.other {W : World} {b c : Nat} {p : Ph} (h : Pbox W b p) (hne : c ≠ b) (v : Value) : Pbox (W.setCell ⟨c, 0, none⟩ v) b p :=
 ⟨(World.cell?_setCell_far _ _ _ _ hne).trans h.1, (World.cell?_setCell_far _ _ _ _ hne).trans h.2.1, (World.cell?_setCell_far _ _ _ _ hne).trans h.2.2.1, (World.cell?_setCell_far _ _ _ _ hne).trans h.2.2.2⟩
theorem phase_none {B : Nat} {X : Sa} {S : St} {w : World} (h : Sbox w B X S) (hO : Okay S) (i : Nat) (hi : i < S.phases.length) (hz : (S.ph i).groups = 0 \/ ((S.ph i).groups ≠ 0 /\ ¬ (S.ph i).groups < 2 ^ S.groups.length)) :
 Calls Tryz.prog 103 #[.pointer (some ⟨B, 0, none⟩), .int .i64 i] w fun e w' => e = .returned (.bool (phaseB S i)) /\ Kept w w' none := by
 have HB := Hid.mk' h; have hBl := h.lt; have hp8 := hO.np; have hg16 := hO.ng.2; have c4 := h.c4; have hG := h.sat.phr i; obtain ⟨bp, op, ep, kp, kp1, kp2, kp3, kp4⟩ := h.sat.phAt hi; rw [ep] at c4; have hbp : bp < w.heap.size := block_lt kp; have hB1 : B < w.heap.size + 1 := by omega
 have hp1 : bp < w.heap.size + 1 := by omega
 have hB2 : B < w.heap.size + 1 + 1 := by omega
 have hpl : 2 ^ S.groups.length - 1 < 4294967296 := by have := pow_lt32 (i := S.groups.length) (by omega); omega
 have hans : phaseB S i = false := by
  rcases hz with hz | ⟨_, hz⟩ <;> simp [phaseB, hz]
 have HA := Hid.mk' hans; have hkA : Kept w (((w.alloc (.cells #[.pointer (some ⟨B, 0, none⟩)] 144)).alloc (.cells #[.bool false] 4)).alloc (.cells #[.int .u32 ((S.ph i).groups : Int), .int .i64 (S.ph i).min, .int .i64 (S.ph i).max, .int .i64 (S.ph i).gap, .bool (S.ph i).always] 110)) none := (((Kept.alloc _ _ _ _ _ : Kept w _ none).tr (Kept.alloc _ _ _ _ _)).tr (Kept.alloc _ _ _ _ _)); have HK := Hid.mk' hkA; clear h hans hkA; rcases hz with hz | ⟨hz0, hz⟩
 . have hz1 : (((S.ph i).groups : Int) == 0) = true := by rw [hz]; rfl
   clear hz; go_enter Tryz.func103, Tryz.ntmps103; go_wp2; go_quiet (fail); go_wp2; exact bodyPost_ret (v := .bool false) (by simp [results, Tryz.results103, go_sem]) rfl ⟨by rw [HA.out], (HK.out.tr (Kept.drewN _ _ _)).setNew (by simp) _⟩
 . have hz1 : (((S.ph i).groups : Int) == 0) = false := by rw [beq_eq_false_iff_ne]; omega
   have han : (bits .andNot .u32 ((S.ph i).groups : Int) ((2 ^ S.groups.length - 1 : Nat) : Int) != 0) = true := by
    rw [u32_andNot_nat _ _ hG hpl, bne_iff_ne]; intro e; exact hz ((low_andn _ _ hG (by omega)).1 (by omega))
   have hkB : ∀ m, Kept w ((((w.alloc (.cells #[.pointer (some ⟨B, 0, none⟩)] 144)).alloc (.cells #[.bool false] 4)).alloc (.cells #[.int .u32 ((S.ph i).groups : Int), .int .i64 (S.ph i).min, .int .i64 (S.ph i).max, .int .i64 (S.ph i).gap, .bool (S.ph i).always] 110)).drewN m) none := fun m => HK.out.tr (Kept.drewN _ _ _)
   have HKB := Hid.mk' hkB; clear hz hz0 hkB; go_enter Tryz.func103, Tryz.ntmps103; go_wp2; go_quiet ((go_at_call 123; exact Calls.quiet_of_same (allGroups_any (HB.out.kept (HKB.out _)) hg16))); go_wp2; exact bodyPost_ret (v := .bool false) (by simp [results, Tryz.results103, go_sem]) rfl ⟨by rw [HA.out], (HK.out.tr (Kept.drewN _ _ _)).setNew (by simp) _⟩
theorem phase_some {B : Nat} {X : Sa} {S : St} {w : World} (h : Sbox w B X S) (hT : Tabb w) (hO : Okay S) (i : Nat) (hi : i < S.phases.length) (hz : (S.ph i).groups ≠ 0) (hlow : (S.ph i).groups < 2 ^ S.groups.length) :
 Calls Tryz.prog 103 #[.pointer (some ⟨B, 0, none⟩), .int .i64 i] w fun e w' => e = .returned (.bool (phaseB S i)) /\ Kept w w' none := by
 refine (callsIn_wide (n := 8)).1 ?_; have HB := Hid.mk' h; have HTb := Hid.mk' hT; have hBl := h.lt; have hp8 := hO.np; have hg16 := hO.ng; have hna := hO.na; have HNA := Hid.mk' hna; have c4 := h.c4; have hG := h.sat.phr i; obtain ⟨bp, op, ep, kp, kp1, kp2, kp3, kp4⟩ := h.sat.phAt hi; rw [ep] at c4; have hbp : bp < w.heap.size := block_lt kp; have hB1 : B < w.heap.size + 1 := by omega
 have hp1 : bp < w.heap.size + 1 := by omega
 have hT1 := hT.lt; have hz1 : (((S.ph i).groups : Int) == 0) = false := by rw [beq_eq_false_iff_ne]; omega
 have hpl : 2 ^ S.groups.length - 1 < 4294967296 := by have := pow_lt32 (i := S.groups.length) (by omega); omega
 have han : bits .andNot .u32 ((S.ph i).groups : Int) ((2 ^ S.groups.length - 1 : Nat) : Int) = 0 := by
  rw [u32_andNot_nat _ _ hG hpl, (low_andn _ _ hG (by omega)).2 hlow]; rfl
 have HLOW := Hid.mk' hlow; have HZ := Hid.mk' hz; clear h hT hO hna hlow hz; refine callsIn_of_wp_marks Tryz.func103 rfl trivial ?_ rfl; simp only [Tryz.ntmps103, List.size_toArray, List.length_cons, List.length_nil, Nat.reduceAdd, Nat.reduceSub, Array.replicate_succ, Array.replicate_zero, List.push_toArray, List.append_toArray, List.nil_append, List.cons_append]
 gi_wp2
 have hSb := HB.out.kept (((((Kept.alloc w #[.pointer (some ⟨B, 0, none⟩)] 144 (0, 0) none).tr (Kept.alloc _ #[.bool false] 4 (0, 0) none)).tr (Kept.alloc _ #[.int .u32 ((S.ph i).groups : Int), .int .i64 (S.ph i).min, .int .i64 (S.ph i).max, .int .i64 (S.ph i).gap, .bool (S.ph i).always] 110 (0, 0) none)).tr (Kept.drewN _ 1 none))); have s1 : (((w.alloc (.cells #[.pointer (some ⟨B, 0, none⟩)] 144)).alloc (.cells #[.bool false] 4)).alloc (.cells #[.int .u32 ((S.ph i).groups : Int), .int .i64 (S.ph i).min, .int .i64 (S.ph i).max, .int .i64 (S.ph i).gap, .bool (S.ph i).always] 110)).cell? ⟨w.heap.size, 0, none⟩ = some (.pointer (some ⟨B, 0, none⟩)) := by go_simp
 have s2 : (((w.alloc (.cells #[.pointer (some ⟨B, 0, none⟩)] 144)).alloc (.cells #[.bool false] 4)).alloc (.cells #[.int .u32 ((S.ph i).groups : Int), .int .i64 (S.ph i).min, .int .i64 (S.ph i).max, .int .i64 (S.ph i).gap, .bool (S.ph i).always] 110)).cell? ⟨w.heap.size + 1 + 1, 0, none⟩ = some (.int .u32 ((S.ph i).groups : Int)) := by go_simp
 refine held_wide (S := fun w' => w'.cell? ⟨w.heap.size, 0, none⟩ = some (.pointer (some ⟨B, 0, none⟩)) /\ w'.cell? ⟨w.heap.size + 1 + 1, 0, none⟩ = some (.int .u32 ((S.ph i).groups : Int))) (by kernel_rfl) (by kernel_rfl) ⟨s1, s2⟩ (fun kH => ?_); refine htI 0 ?_ rfl (by kernel_rfl) (fun h => by cases h.1) ?_ (by assumption) <| htI 1 ?_ rfl (by kernel_rfl) (fun h => by cases h.1) ?_ (by assumption) <| htI 2 ?_ rfl (by kernel_rfl) (fun h => by cases h.1) ?_ (by assumption) <| htI 3 ?_ rfl (by kernel_rfl) (fun h => by cases h.1) ?_ (by assumption) <| htI 4 ?_ rfl (by kernel_rfl) (fun h => by cases h.1) ?_ (by assumption) <| htI 5 ?_ rfl (by kernel_rfl) (fun h => by cases h.1) ?_ (by assumption) <| htI 6 ?_ rfl (by kernel_rfl) (fun h => by cases h.1) ?_ (by assumption) ?_
 all_goals try (intro w h; (try simp only [st3] at h ⊢); go_simp <;> with_reducible rfl)
 (try simp only [st3]); refine rdy 7 (by kernel_rfl) rfl (fun K hK => ?_); go_simp; go_wp2_with (go_at_call 123; refine (allGroups_any hSb (by omega)).mono ?_; rintro e w' ⟨rfl, rfl⟩); refine hK.out _ _ kH (fun hHeld2 => ?_); clear hK K hHeld2; refine htI 8 ?_ rfl (by kernel_rfl) (fun h => by cases h.1) ?_ (by assumption) <| htI 9 ?_ rfl (by kernel_rfl) (fun h => by cases h.1) ?_ (by assumption) <| htI 10 ?_ rfl (by kernel_rfl) (fun h => by cases h.1) ?_ (by assumption) ?_
 all_goals try (intro w h; (try simp only [st3] at h ⊢); go_simp <;> with_reducible rfl)
 (try simp only [st3]); refine wpAnyH_done (by kernel_rfl) ⟨rfl, ?_⟩ _; clear kH
 gi_wp2_with (refine ⟨trivial, ?_⟩; gi_at_call 125; refine (members_in _ _ _).mono ?_; rintro e w' ⟨rfl, rfl⟩)
 obtain ⟨W0, hW0⟩ : ∃ W0, ((((((w.alloc (.cells #[.pointer (some ⟨B, 0, none⟩)] 144)).alloc (.cells #[.bool false] 4)).alloc (.cells #[.int .u32 ((S.ph i).groups : Int), .int .i64 (S.ph i).min, .int .i64 (S.ph i).max, .int .i64 (S.ph i).gap, .bool (S.ph i).always] 110)).drewN 1).alloc (.cells #[.int .i64 0] 3)).alloc (.cells #[.int .u32 ((S.ph i).groups : Int)] 91)) = W0 := ⟨_, rfl⟩
 have bP : Boxed W0 w.heap.size 144 (.pointer (some ⟨B, 0, none⟩)) := by rw [<- hW0]; exact ((((Boxed.new w 144 (.pointer (some ⟨B, 0, none⟩))).alloc (.cells #[.bool false] 4)).alloc (.cells #[.int .u32 ((S.ph i).groups : Int), .int .i64 (S.ph i).min, .int .i64 (S.ph i).max, .int .i64 (S.ph i).gap, .bool (S.ph i).always] 110)).alloc (.cells #[.int .i64 0] 3)).alloc (.cells #[.int .u32 ((S.ph i).groups : Int)] 91)
 have bR : Boxed W0 (w.heap.size + 1) 4 (.bool false) := by
  have := (((Boxed.new (w.alloc (.cells #[.pointer (some ⟨B, 0, none⟩)] 144)) 4 (.bool false)).alloc (.cells #[.int .u32 ((S.ph i).groups : Int), .int .i64 (S.ph i).min, .int .i64 (S.ph i).max, .int .i64 (S.ph i).gap, .bool (S.ph i).always] 110)).alloc (.cells #[.int .i64 0] 3)).alloc (.cells #[.int .u32 ((S.ph i).groups : Int)] 91); simp only [World.size_alloc] at this; rw [<- hW0]; exact this
 have bL : Boxed W0 (w.heap.size + 1 + 1 + 1) 3 (.int .i64 0) := by
  have := (Boxed.new (((w.alloc (.cells #[.pointer (some ⟨B, 0, none⟩)] 144)).alloc (.cells #[.bool false] 4)).alloc (.cells #[.int .u32 ((S.ph i).groups : Int), .int .i64 (S.ph i).min, .int .i64 (S.ph i).max, .int .i64 (S.ph i).gap, .bool (S.ph i).always] 110)) 3 (.int .i64 0)).alloc (.cells #[.int .u32 ((S.ph i).groups : Int)] 91); simp only [World.size_alloc] at this; rw [<- hW0]; exact this
 have bF : Boxed W0 (w.heap.size + 1 + 1 + 1 + 1) 91 (.int .u32 ((S.ph i).groups : Int)) := by
  have := Boxed.new ((((w.alloc (.cells #[.pointer (some ⟨B, 0, none⟩)] 144)).alloc (.cells #[.bool false] 4)).alloc (.cells #[.int .u32 ((S.ph i).groups : Int), .int .i64 (S.ph i).min, .int .i64 (S.ph i).max, .int .i64 (S.ph i).gap, .bool (S.ph i).always] 110)).alloc (.cells #[.int .i64 0] 3)) 91 (.int .u32 ((S.ph i).groups : Int)); simp only [World.size_alloc] at this; rw [<- hW0]; exact this
 have pB : Pbox W0 (w.heap.size + 1 + 1) (S.ph i) := by
  have : Pbox (((w.alloc (.cells #[.pointer (some ⟨B, 0, none⟩)] 144)).alloc (.cells #[.bool false] 4)).alloc (.cells #[.int .u32 ((S.ph i).groups : Int), .int .i64 (S.ph i).min, .int .i64 (S.ph i).max, .int .i64 (S.ph i).gap, .bool (S.ph i).always] 110)) (w.heap.size + 1 + 1) (S.ph i) := ⟨by go_simp, by go_simp, by go_simp, by go_simp⟩; have := (this.alloc (.cells #[.int .i64 0] 3)).alloc (.cells #[.int .u32 ((S.ph i).groups : Int)] 91); rw [<- hW0]; exact this
 have hB0 : Below w.heap.size w W0 := by
  have : Below w.heap.size w ((((w.alloc (.cells #[.pointer (some ⟨B, 0, none⟩)] 144)).alloc (.cells #[.bool false] 4)).alloc (.cells #[.int .u32 ((S.ph i).groups : Int), .int .i64 (S.ph i).min, .int .i64 (S.ph i).max, .int .i64 (S.ph i).gap, .bool (S.ph i).always] 110)).drewN 1) := ((((Below.refl _ w).alloc (Nat.le_refl _) _).alloc (by simp) _).alloc (by simp; omega) _).drew; rw [<- hW0]; exact (this.alloc this.size _).alloc (by have := this.size; simp at this ⊢; omega) _
 have hsz : W0.heap.size = w.heap.size + 5 := by rw [<- hW0]; simp
 rw [hW0]; have hsz1 : W0.heap.size <= w.heap.size + 5 := by omega
 have hsz2 : w.heap.size + 5 <= W0.heap.size := by omega
 clear hW0 hsz hSb c4
 refine wpIn_rangeFunc_ownH rfl (by omega) (gf := 131) (lb := #[.pointer (some ⟨w.heap.size + 1 + 1 + 1 + 1, 0, none⟩)]) rfl trivial (enters_of Tryz.func131 (by kernel_rfl) rfl)
  (members_stops 7 (by omega) (w.heap.size + 1 + 1 + 1 + 1) w.heap.size (S.ph i).groups W0 (by omega) hG hT1 (by omega) bF.cell (HTb.out.below hT1 hB0)) belowK_t (belowK_b (by omega)) (Below.refl _ _) (fun _ => rfl)
  (fun pre W => (((((∀ a ∈ vals pre, S.ap a &&& (S.ph i).groups = 0) /\ Boxed W (w.heap.size + 1 + 1 + 1) 3 (.int .i64 (mostL (minsL S (vals pre))))) /\ Boxed W w.heap.size 144 (.pointer (some ⟨B, 0, none⟩))) /\ Boxed W (w.heap.size + 1) 4 (.bool false)) /\ Pbox W (w.heap.size + 1 + 1) (S.ph i)) /\ Below w.heap.size w W)
  (fun c pre W => ((c = .ret /\ ∃ a ∈ vals pre, S.ap a &&& (S.ph i).groups ≠ 0) /\ Boxed W (w.heap.size + 1) 4 (.bool false)) /\ Below w.heap.size w W)
  (OwnFrom.and (OwnFrom.and (OwnFrom.and (OwnFrom.and (OwnFrom.and (ownFrom_pure _ _) (Own.from (boxed_own _ _ _) _)) (Own.from (boxed_own _ _ _) _)) (Own.from (boxed_own _ _ _) _)) (Own.from (pbox_own _ _) _)) (ownFrom_below (Nat.le_refl _) (by omega)))
  (fun c => OwnFrom.and (OwnFrom.and (ownFrom_pure _ _) (Own.from (boxed_own _ _ _) _)) (ownFrom_below (Nat.le_refl _) (by omega)))
  ⟨⟨⟨⟨⟨by simp [vals], by simpa [vals, minsL, mostL] using bL⟩, bP⟩, bR⟩, pB⟩, hB0⟩
  (fun x a' _ => a' = { tmps := #[.pointer (some ⟨B, 0, none⟩), .int .i64 (i : Int), .pointer (some ⟨w.heap.size, 0, none⟩), undef, .pointer (some ⟨w.heap.size + 1, 0, none⟩), .pointer (some ⟨w.heap.size + 1 + 1, 0, none⟩), .pointer (some ⟨w.heap.size + 1 + 1 + 1, 0, none⟩), .int .i64 (x.1 : Int), .pointer (some ⟨B, 0, none⟩), .pointer (some ⟨B, 0, none⟩), .pointer (some ⟨B, 4, none⟩), .slice (some ⟨bp, op, none⟩) S.phases.length X.pc, .int .i64 (i : Int), .pointer (some ⟨bp, op + i * 5, none⟩), .agg #[.int .u32 ((S.ph i).groups : Int), .int .i64 (S.ph i).min, .int .i64 (S.ph i).max, .int .i64 (S.ph i).gap, .bool (S.ph i).always], .pointer (some ⟨w.heap.size + 1 + 1, 0, none⟩), .int .u32 ((S.ph i).groups : Int), .bool false, .bool false, .pointer (some ⟨w.heap.size + 1 + 1, 0, none⟩), .int .u32 ((S.ph i).groups : Int), .pointer (some ⟨B, 0, none⟩), .int .u32 ((2 ^ S.groups.length - 1 : Nat) : Int), .int .u32 0, .bool false, .bool false, .pointer (some ⟨w.heap.size + 1 + 1, 0, none⟩), .int .u32 ((S.ph i).groups : Int), .func (.func 131) #[] #[.pointer (some ⟨w.heap.size + 1 + 1 + 1 + 1, 0, none⟩)], .int .i64 (x.1 : Int), undef, undef, undef, undef, undef, undef, undef, undef, undef, undef, undef, undef, undef, undef, undef, undef, undef, undef, undef, undef, undef, undef, undef, undef, undef, undef, undef, undef, undef, undef, undef, undef, undef, undef, undef, undef, undef], defers := [] })
  (fun _ _ _ _ _ _ hs _ _ => hs)
  ?assign ?body ?done ?stop
 case assign =>
  rintro l pre x W K hi hK
  gi_wp2
  exact hK _ _ (KeepsFrom.refl _ _) (Below.refl _ _) hi rfl
 case body =>
  rintro l pre x a' W hl ⟨r, hr⟩ ⟨⟨⟨⟨⟨hall, bL1⟩, bP1⟩, bR1⟩, pB1⟩, hBW⟩ rfl hlt; have cL := bL1.cell; have fL := bL1.frozen; have cP := bP1.cell; have cR := bR1.cell; have fR := bR1.frozen; have cG := pB1.1; obtain ⟨x, hx⟩ := x; have hSb := HB.out.kept (Kept.of_below hBW); have hxg : x < S.groups.length := bit_lim HLOW.out (mem_memb.1 hx).2; have c1 := hSb.c1; have c2 := hSb.c2; have hna := HNA.out; have hxa : x < S.apart.length := by omega
  clear hna; obtain ⟨ba, oa, ea, hca⟩ := HB.out.sat.apAt (n := S.apart.length) (by omega) (by omega); have ka0 := hca x hxa; obtain ⟨bg, og, eg, _, g1, _⟩ := HB.out.sat.grAt hxg; rw [ea] at c2; rw [eg] at c1; have hba : ba < w.heap.size := block_lt ka0; have hbg : bg < w.heap.size := block_lt g1; have ka := cell_kept0 ka0 (Kept.of_below hBW); have kg := cell_kept0 g1 (Kept.of_below hBW); have hza := zero_and (HB.out.sat.apr x) hG; clear hca ka0 g1; dsimp only at *; generalize hM : mostL (minsL S (vals pre)) = M at *; have HM := Hid.mk' hM; have HALL := Hid.mk' hall; clear hM hall; by_cases hq : S.ap x &&& (S.ph i).groups = 0
  . rw [decide_eq_true hq, Bool.not_true] at hza; have HQ := Hid.mk' hq; clear hq
    gi_wp2
    refine held_round (S := fun w' => w'.cell? ⟨w.heap.size, 0, none⟩ = some (.pointer (some ⟨B, 0, none⟩)) /\ w'.cell? ⟨B, 2, none⟩ = some (.slice (some ⟨ba, oa, none⟩) S.apart.length X.ac) /\ w'.cell? ⟨ba, oa + x, none⟩ = some (.int .u32 (S.ap x : Int)) /\ w'.cell? ⟨w.heap.size + 1 + 1, 0, none⟩ = some (.int .u32 ((S.ph i).groups : Int))) (by kernel_rfl) (by kernel_rfl) ⟨cP, c2, ka, cG⟩ (fun kH => ?_); refine htI 0 ?_ rfl (by kernel_rfl) (fun h => by cases h.1) ?_ (by assumption) <| htI 1 ?_ rfl (by kernel_rfl) (fun h => by cases h.1) ?_ (by assumption) <| htI 2 ?_ rfl (by kernel_rfl) (fun h => by cases h.1) ?_ (by assumption) <| htI 3 ?_ rfl (by kernel_rfl) (fun h => by cases h.1) ?_ (by assumption) <| htI 4 ?_ rfl (by kernel_rfl) (fun h => by cases h.1) ?_ (by assumption) <| htI 5 ?_ rfl (by kernel_rfl) (fun h => by cases h.1) ?_ (by assumption) <| htI 6 ?_ rfl (by kernel_rfl) (fun h => by cases h.1) ?_ (by assumption) <| htI 7 ?_ rfl (by kernel_rfl) (fun h => by cases h.1) ?_ (by assumption) <| htI 8 ?_ rfl (by kernel_rfl) (fun h => by cases h.1) ?_ (by assumption) <| htI 9 ?_ rfl (by kernel_rfl) (fun h => by cases h.1) ?_ (by assumption) <| htI 10 ?_ rfl (by kernel_rfl) (fun h => by cases h.1) ?_ (by assumption) ?_
    all_goals try (intro w h; (try simp only [st3] at h ⊢); go_simp <;> with_reducible rfl)
    (try simp only [st3]); refine wpAnyH_done (by kernel_rfl) ⟨rfl, ?_⟩ _; clear kH
    gi_wp2
    refine held_round (S := fun w' => w'.cell? ⟨w.heap.size, 0, none⟩ = some (.pointer (some ⟨B, 0, none⟩)) /\ w'.cell? ⟨B, 1, none⟩ = some (.slice (some ⟨bg, og, none⟩) S.groups.length X.gc) /\ w'.cell? ⟨bg, og + x * 3 + 1, none⟩ = some (.int .i64 (S.gr x).min)) (by kernel_rfl) (by kernel_rfl) ⟨cP, c1, kg⟩ (fun kH => ?_); refine htI 1 ?_ rfl (by kernel_rfl) (fun h => by cases h.1) ?_ (by assumption) <| htI 2 ?_ rfl (by kernel_rfl) (fun h => by cases h.1) ?_ (by assumption) <| htI 3 ?_ rfl (by kernel_rfl) (fun h => by cases h.1) ?_ (by assumption) <| htI 4 ?_ rfl (by kernel_rfl) (fun h => by cases h.1) ?_ (by assumption) <| htI 5 ?_ rfl (by kernel_rfl) (fun h => by cases h.1) ?_ (by assumption) <| htI 6 ?_ rfl (by kernel_rfl) (fun h => by cases h.1) ?_ (by assumption) <| htI 7 ?_ rfl (by kernel_rfl) (fun h => by cases h.1) ?_ (by assumption) <| htI 8 ?_ rfl (by kernel_rfl) (fun h => by cases h.1) ?_ (by assumption) ?_
    all_goals try (intro w h; (try simp only [st3] at h ⊢); go_simp <;> with_reducible rfl)
    (try simp only [st3]); refine rdy 0 (by kernel_rfl) rfl (fun K hK => ?_); go_simp; refine hK.out _ _ kH (fun hHeld2 => ?_); clear hK K hHeld2; refine htI 9 ?_ rfl (by kernel_rfl) (fun h => by cases h.1) ?_ (by assumption) ?_
    all_goals try (intro w h; (try simp only [st3] at h ⊢); go_simp <;> with_reducible rfl)
    (try simp only [st3]); refine rdy 10 (by kernel_rfl) rfl (fun K hK => ?_); go_simp; generalize hM2 : (if M < (S.gr x).min then (S.gr x).min else M) = M2; have HM2 := Hid.mk' hM2; clear hM2; refine hK.out _ _ ⟨?s1, ?s2, ?s3⟩ (fun hHeld3 => ?s6)
    case s1 => exact (World.cell?_setCell_far _ _ _ _ (by simp; omega)).trans cP
    case s2 => exact (World.cell?_setCell_far _ _ _ _ (by simp; omega)).trans c1
    case s3 => exact (World.cell?_setCell_far _ _ _ _ (by simp; omega)).trans kg
    clear hK K hHeld3; refine wpAnyH_done (by kernel_rfl) ⟨rfl, ?_⟩ _
    gi_wp2
    refine ⟨(((KeepsOthers.drew _).trans (KeepsOthers.setCell _ _ _)).trans (KeepsOthers.drew _)).from _, (((Below.refl _ W).drew).setCell (p := ⟨w.heap.size + 1 + 1 + 1, 0, none⟩) (by simp; omega) _).drew, ⟨⟨⟨⟨⟨?b0, ?b1⟩, ?b2⟩, ?b3⟩, ?b4⟩, ((hBW.drew).setCell (p := ⟨w.heap.size + 1 + 1 + 1, 0, none⟩) (by simp; omega) _).drew⟩⟩
    case b0 =>
     rw [vals_snoc]; intro a ha; rcases List.mem_append.1 ha with ha | ha
     . exact HALL.out a ha
     . have e : a = x := by simpa using ha
       rw [e]; exact HQ.out
    case b1 =>
     have e : mostL (minsL S (vals (pre ++ [⟨x, hx⟩]))) = M2 := by
      rw [vals_snoc, minsL_snoc, mostL_snoc, HM.out, <- HM2.out]; exact max_if _ _
     rw [e]; exact bL1.set _
    case b2 => exact bP1.other (by omega) _
    case b3 => exact bR1.other (by omega) _
    case b4 => exact pB1.other (by omega) _
  . rw [decide_eq_false hq, Bool.not_false] at hza; have HQ := Hid.mk' hq; clear hq
    gi_wp2
    refine held_round (S := fun w' => w'.cell? ⟨w.heap.size, 0, none⟩ = some (.pointer (some ⟨B, 0, none⟩)) /\ w'.cell? ⟨B, 2, none⟩ = some (.slice (some ⟨ba, oa, none⟩) S.apart.length X.ac) /\ w'.cell? ⟨ba, oa + x, none⟩ = some (.int .u32 (S.ap x : Int)) /\ w'.cell? ⟨w.heap.size + 1 + 1, 0, none⟩ = some (.int .u32 ((S.ph i).groups : Int))) (by kernel_rfl) (by kernel_rfl) ⟨cP, c2, ka, cG⟩ (fun kH => ?_); refine htI 0 ?_ rfl (by kernel_rfl) (fun h => by cases h.1) ?_ (by assumption) <| htI 1 ?_ rfl (by kernel_rfl) (fun h => by cases h.1) ?_ (by assumption) <| htI 2 ?_ rfl (by kernel_rfl) (fun h => by cases h.1) ?_ (by assumption) <| htI 3 ?_ rfl (by kernel_rfl) (fun h => by cases h.1) ?_ (by assumption) <| htI 4 ?_ rfl (by kernel_rfl) (fun h => by cases h.1) ?_ (by assumption) <| htI 5 ?_ rfl (by kernel_rfl) (fun h => by cases h.1) ?_ (by assumption) <| htI 6 ?_ rfl (by kernel_rfl) (fun h => by cases h.1) ?_ (by assumption) <| htI 7 ?_ rfl (by kernel_rfl) (fun h => by cases h.1) ?_ (by assumption) <| htI 8 ?_ rfl (by kernel_rfl) (fun h => by cases h.1) ?_ (by assumption) <| htI 9 ?_ rfl (by kernel_rfl) (fun h => by cases h.1) ?_ (by assumption) <| htI 10 ?_ rfl (by kernel_rfl) (fun h => by cases h.1) ?_ (by assumption) ?_
    all_goals try (intro w h; (try simp only [st3] at h ⊢); go_simp <;> with_reducible rfl)
    (try simp only [st3]); refine wpAnyH_done (by kernel_rfl) ⟨rfl, ?_⟩ _; clear kH
    gi_wp2
    exact ⟨((KeepsOthers.drew _).trans (KeepsOthers.setCell _ _ _)).from _, ⟨⟨rfl, x, by rw [vals_snoc]; simp, HQ.out⟩, bR1.set _⟩, (hBW.drew).setCell (p := ⟨w.heap.size + 1, 0, none⟩) (by simp) _⟩
 case done =>
  rintro D zs W hD hzs ⟨⟨⟨⟨⟨hall, bL1⟩, bP1⟩, bR1⟩, pB1⟩, hBW⟩ hK; have cL := bL1.cell; have cR := bR1.cell; have fR := bR1.frozen; have p1 := pB1.2.1; have p2 := pB1.2.2.1; have p3 := pB1.2.2.2; have hmate := (mate_iff HLOW.out (by omega)).2 (by rw [<- hzs]; exact hall); have hleast := least_iff (S := S) (m := (S.ph i).min) HLOW.out (by omega); rw [hzs] at cL
  have hph : phaseB S i = (inB (S.ph i).min (mostL (minsL S (memb (S.ph i).groups))) 1048576 && inB (S.ph i).max (S.ph i).min 1048576 && timeB (S.ph i).gap) := by
   unfold phaseB; rw [decide_eq_true HZ.out, decide_eq_true HLOW.out, hmate, Bool.true_and, Bool.true_and, Bool.true_and, hleast]; rfl
  have HPH := Hid.mk' hph; clear hmate hleast hph hall
  cases h1 : inB (S.ph i).min (mostL (minsL S (memb (S.ph i).groups))) 1048576 with
  | false =>
   have HE : Hid (phaseB S i = false) := by show phaseB S i = false; rw [HPH.out, h1]; rfl
   gi_wp2_with (first | (refine ⟨trivial, ?_⟩; gi_at_call 121; refine (callsIn_wide.2 (within_is _ _ _ _ _ h1)).mono ?_; rintro e W ⟨rfl, rfl⟩) | refine ⟨trivial, ?_⟩)
   have hK' := (KeepsOthers.setCell W ⟨w.heap.size + 1, 0, none⟩ (.bool false)).same D _ hK rfl; refine ⟨by simp, .inl ⟨_, _, rfl, run_takeDeferred hK', ?_⟩⟩; have hc5 := cell_kept (bR1.set (.bool false)).cell (grownBy_putObj' _ D (.deferred none)) (fun r e => by cases e; exact ⟨_, hK', rfl⟩); refine ⟨.bool false, ?_, by rw [HE.out], Kept.of_below ((hBW.setCell (p := ⟨w.heap.size + 1, 0, none⟩) (by simp) _).trans (belowK_b (w := w) (Nat.le_refl _) _ D _ _ (by omega) hK' rfl rfl))⟩; simp [results, Tryz.f103, go_sem, hc5]
  | true =>
   cases h2 : inB (S.ph i).max (S.ph i).min 1048576 with
   | false =>
    have HE : Hid (phaseB S i = false) := by show phaseB S i = false; rw [HPH.out, h1, h2]; rfl
    gi_wp2_with (first | (have hgo := hdone; clear hgo; refine ⟨trivial, ?_⟩; gi_at_call 121; refine (callsIn_wide.2 (within_is _ _ _ _ _ h2)).mono ?_; rintro e W ⟨rfl, rfl⟩) | (refine ⟨trivial, ?_⟩; gi_at_call 121; refine (callsIn_wide.2 (within_is _ _ _ _ _ h1)).mono ?_; rintro e W ⟨rfl, rfl⟩; have hdone := trivial) | refine ⟨trivial, ?_⟩)
    have hK' := (KeepsOthers.setCell W ⟨w.heap.size + 1, 0, none⟩ (.bool false)).same D _ hK rfl; refine ⟨by simp, .inl ⟨_, _, rfl, run_takeDeferred hK', ?_⟩⟩; have hc5 := cell_kept (bR1.set (.bool false)).cell (grownBy_putObj' _ D (.deferred none)) (fun r e => by cases e; exact ⟨_, hK', rfl⟩); refine ⟨.bool false, ?_, by rw [HE.out], Kept.of_below ((hBW.setCell (p := ⟨w.heap.size + 1, 0, none⟩) (by simp) _).trans (belowK_b (w := w) (Nat.le_refl _) _ D _ _ (by omega) hK' rfl rfl))⟩; simp [results, Tryz.f103, go_sem, hc5]
   | true =>
    have HE : Hid (phaseB S i = timeB (S.ph i).gap) := by show phaseB S i = _; rw [HPH.out, h1, h2]; rfl
    gi_wp2_with (first | (have hgo := hdone; clear hgo; refine ⟨trivial, ?_⟩; gi_at_call 121; refine (callsIn_wide.2 (within_is _ _ _ _ _ h2)).mono ?_; rintro e W ⟨rfl, rfl⟩) | (refine ⟨trivial, ?_⟩; gi_at_call 121; refine (callsIn_wide.2 (within_is _ _ _ _ _ h1)).mono ?_; rintro e W ⟨rfl, rfl⟩; have hdone := trivial) | (refine ⟨trivial, ?_⟩; gi_at_call 122; refine (callsIn_wide.2 (time_any _ _)).mono ?_; rintro e W ⟨rfl, rfl⟩) | refine ⟨trivial, ?_⟩)
    have hK' := (KeepsOthers.setCell W ⟨w.heap.size + 1, 0, none⟩ (.bool (timeB (S.ph i).gap))).same D _ hK rfl; refine ⟨by simp, .inl ⟨_, _, rfl, run_takeDeferred hK', ?_⟩⟩; have hc5 := cell_kept (bR1.set (.bool (timeB (S.ph i).gap))).cell (grownBy_putObj' _ D (.deferred none)) (fun r e => by cases e; exact ⟨_, hK', rfl⟩); refine ⟨.bool (timeB (S.ph i).gap), ?_, by rw [HE.out], Kept.of_below ((hBW.setCell (p := ⟨w.heap.size + 1, 0, none⟩) (by simp) _).trans (belowK_b (w := w) (Nat.le_refl _) _ D _ _ (by omega) hK' rfl rfl))⟩; simp [results, Tryz.f103, go_sem, hc5]
 case stop =>
  rintro D c pre W hD hpre ⟨⟨⟨rfl, a, ha, hq⟩, bR1⟩, hBW⟩ hK
  have hE : phaseB S i = false := by
   have hn : mateB S (S.ph i).groups = false := by
    cases e : mateB S (S.ph i).groups with
    | false => rfl
    | true => exact absurd ((mate_iff HLOW.out (by omega)).1 e a (hpre.subset ha)) hq
   simp [phaseB, hn]
  have HE := Hid.mk' hE; clear hE
  gi_wp2
  refine ⟨by simp, .inl ⟨_, _, rfl, run_takeDeferred hK, ?_⟩⟩; have hc5 := cell_kept bR1.cell (grownBy_putObj' _ D (.deferred none)) (fun r e => by cases e; exact ⟨_, hK, rfl⟩); refine ⟨.bool false, ?_, by rw [HE.out], Kept.of_below (hBW.trans (belowK_b (w := w) (Nat.le_refl _) W D _ _ (by omega) hK rfl rfl))⟩; simp [results, Tryz.f103, go_sem, hc5]
theorem phase_any {B : Nat} {X : Sa} {S : St} {w : World} (h : Sbox w B X S) (hT : Tabb w) (hO : Okay S) (i : Nat) (hi : i < S.phases.length) :
 Calls Tryz.prog 103 #[.pointer (some ⟨B, 0, none⟩), .int .i64 i] w fun e w' => e = .returned (.bool (phaseB S i)) /\ Kept w w' none := by
 by_cases hz : (S.ph i).groups = 0
 . exact phase_none h hO i hi (.inl hz)
 . by_cases hl : (S.ph i).groups < 2 ^ S.groups.length
   . exact phase_some h hT hO i hi hz hl
   . exact phase_none h hO i hi (.inr ⟨hz, hl⟩)
end
section
open Go.RowKit Go.Lib Go.Deep
structure Base (S : St) : Prop where
 sh : Shape S
 mn : ∀ i, i < S.phases.length -> 0 <= (S.ph i).min /\ (S.ph i).min <= 1048576
 bt : ∀ a b, a < S.groups.length -> b < S.groups.length -> S.bt a b <= 1048576
theorem Base.lies {S : St} (h : Base S) (f t : Nat) : 0 <= liesM S f t /\ liesM S f t <= 1048576 :=
 ⟨liesM_ge S f t, (liesM_is S f t).le (by omega) (fun x hx => by
  obtain ⟨a, b, ha, hb, _, _, _, rfl⟩ := hx; exact h.bt a b ha hb)⟩
theorem Base.part {S : St} (h : Base S) {i : Nat} (hi : i < S.phases.length) : 0 <= partM S i /\ partM S i <= 2097152 := by
 have h1 := h.mn i hi; have h2 := h.lies i ((i + 1) % S.phases.length); unfold partM; omega
theorem Base.round {S : St} (h : Base S) : ∀ k, k <= S.phases.length -> 0 <= roundN S k /\ roundN S k <= 2097152 * k
 | 0, _ => by simp [roundN]
 | k + 1, hk => by
  have h1 := h.round k (by omega); have h2 := h.part (i := k) (by omega); rw [roundN]; omega
theorem wrap_in {x : Int} (h1 : -9223372036854775808 <= x) (h2 : x <= 9223372036854775807) : IntKind.i64.wrap x = x := by
 simp [IntKind.wrap, IntKind.bits, IntKind.signed]; omega
theorem Kept.drew (w : World) (r : Option Nat) : Kept w w.drew r := Kept.drewN w 1 r
theorem part_any {B : Nat} {X : Sa} {S : St} {w : World} (h : Sbox w B X S) (hT : Tabb w) (hBs : Base S) (i : Nat) (hi : i < S.phases.length) :
 Calls Tryz.prog 126 #[.pointer (some ⟨B, 0, none⟩), .int .i64 i] w fun e w' => e = .returned (.int .i64 (partM S i)) /\ Kept w w' none := by
 have HB := Hid.mk' h; have HT := Hid.mk' hT; have HS := Hid.mk' hBs; have hp8 := hBs.sh.ok.np; have hmn := hBs.mn i hi; have hli := hBs.lies i ((i + 1) % S.phases.length); have c4 := h.c4; obtain ⟨bp, op, ep, kp, kp1, _, _, _⟩ := h.sat.phAt hi; rw [ep] at c4; have f4 : ∀ w', Kept w w' none -> w'.cell? ⟨B, 4, none⟩ = some (.slice (some ⟨bp, op, none⟩) S.phases.length X.pc) := fun w' k => cell_kept0 c4 k
 have f1 : ∀ w', Kept w w' none -> w'.cell? ⟨bp, op + i * 5 + 1, none⟩ = some (.int .i64 (S.ph i).min) := fun w' k => cell_kept0 kp1 k
 have hmod : ((i : Int) + 1) % (S.phases.length : Int) = (((i + 1) % S.phases.length : Nat) : Int) := by simp
 have hml : (i + 1) % S.phases.length < S.phases.length := Nat.mod_lt _ (by omega)
 have hwr : (IntKind.i64.wrap ((i : Int) + 1)).tmod (S.phases.length : Int) = (((i + 1) % S.phases.length : Nat) : Int) := by
  rw [wrap_in (by omega) (by omega), Int.tmod_eq_emod_of_nonneg (by omega)]; exact hmod
 have hsum : IntKind.i64.wrap ((S.ph i).min + liesM S i ((i + 1) % S.phases.length)) = partM S i := by
  rw [wrap_in (by omega) (by omega)]; rfl
 have HE : Hid (partM S i = (S.ph i).min + liesM S i ((i + 1) % S.phases.length)) := rfl; generalize hj : (i + 1) % S.phases.length = j at *; have HJ := Hid.mk' hj; have hnz : ((S.phases.length : Int) == 0) = false := by rw [beq_eq_false_iff_ne]; omega
 have hnz1 : ¬ (S.phases.length : Int) = 0 := by omega
 have hnz2 : ¬ S.phases = [] := by intro e; rw [e] at hp8; simp at hp8
 have HW := Hid.mk' hsum; clear h hT hBs hj ep kp hsum; go_enter Tryz.func126, Tryz.ntmps126; go_wp2
 go_region_held (fun w' => Kept w w' none)
  ((first | exact Kept.refl _ _ | exact Kept.drew _ _ | assumption | exact Kept.tr (by assumption) (Kept.drew _ _)))
  ((go_at_call 134; refine (lies_any (HB.out.kept (by assumption)) (HT.out.kept (by assumption)) HS.out.sh i j hi hml).mono ?_; rintro e wS ⟨rfl, hkS⟩; have hKS : Kept w wS none := Kept.tr (by assumption) hkS))
 all_goals
  go_wp2; go_ret; exact ⟨ret_int HW.out, by assumption⟩
end
end Go.Proofs.YtakilpnbjihibaaGreatDoor
