import Derived.Deep.RegionHeld
import Derived.Test.YtfhmfanmnhclfaaDoorP5
namespace Go.Proofs.YtfhmfanmnhclfaaDoor
set_option linter.unusedVariables false
set_option linter.unusedSimpArgs false
open Go.RowKit Go.Lib Go.Deep Go.Shelf

def plainB (o : Oper) : Bool := match o.op with
  | .defer _ => false
  | _ => true
theorem plainB_ne {o : Oper} (h : plainB o = true) : ∀ c, o.op ≠ .defer c := by
  intro c e
  unfold plainB at h
  rw [e] at h
  cases h
theorem upon_in {n l : Nat} {P : Program} {o : Oper} {a : Act} {next : Act → World → Prop} {Q0 : Act → World → Prop} {Q : Exit → Act → World → Prop} {r : Result Next}
    (h : o.upon P a next (fun e a w => e = .normal ∧ Q0 a w) r) : o.uponIn (Fence.wide.inRound l) n P a next Q r := by
  unfold Oper.upon at h
  unfold Oper.uponIn
  split at h
  · exact h
  · exact h
  · exact h
  · refine ⟨fun hd => by simp [Fence.wide, Fence.inRound] at hd, CallsIn.inRound l ((callsIn_wide.2 h).mono ?_)⟩
    intro e w' he
    cases e with
    | returned v => exact he
    | panicked c => exact absurd he.1 (by simp)
    | outgrown => obtain ⟨_, _, h1, _⟩ := he; exact absurd h1 (by simp)
  · refine ⟨fun hd => by simp [Fence.wide, Fence.inRound] at hd, ?_⟩
    intro c cs _
    obtain ⟨v, w', hr, hs⟩ := h c cs
    exact ⟨v, w', hr, stepsIn_wide.2 hs⟩
  · exact absurd h.1 (by simp)
  · exact h.elim
theorem any_round {n l : Nat} {P : Program} {md : Region.Mode} {ops : Array Oper} {Q0 : Act → World → Prop} {Q : Exit → Act → World → Prop} (hp : ops.all plainB = true) (hQ : ∀ a w, Q0 a w → Q .normal a w) : ∀ (fuel : Nat) (listed : Array Bool) (a : Act) (w : World),
    wpAny P md ops (fun e a w => e = .normal ∧ Q0 a w) fuel listed a w → wpAnyIn (Fence.wide.inRound l) n P md ops Q fuel listed a w
  | 0, _, _, _, h => ⟨h.1, hQ _ _ h.2.2⟩
  | fuel + 1, listed, a, w, h => by
    refine ⟨fun h0 => hQ _ _ (h.1 h0).2, fun i hi => ?_⟩
    have h1 := h.2 i hi
    unfold wpOp at h1
    unfold wpOpIn
    cases ho : ops[i]? with
    | none =>
      simp only [ho] at h1
      exact any_round hp hQ fuel _ _ _ h1
    | some o =>
      simp only [ho] at h1
      have hpo : plainB o = true := by
        rw [Array.all_eq_true] at hp
        obtain ⟨hlt, e⟩ := Array.getElem?_eq_some_iff.1 ho
        rw [← e]
        exact hp i hlt
      simp only
      split
      · rename_i hw
        rw [if_pos hw] at h1
        rcases h1 with h1 | ⟨_, _, _, h1, _⟩
        · refine ⟨fun f _ => trivial, ?_⟩
          rw [show (Fence.wide.inRound l).round = some l from rfl, Oper.semAt_eq _ _ _ (plainB_ne hpo)]
          refine upon_in (Q0 := Q0) ?_
          exact Oper.wp_mono (fun a' w' h' => any_round hp hQ fuel _ a' w' h') h1
        · exact absurd h1 (by simp)
      · rename_i hw
        rw [if_neg hw] at h1
        exact ⟨fun f _ => trivial, any_round hp hQ fuel _ _ _ h1⟩
/-- The beginning: S holds of the world behind the draw. -/
theorem held_round {S : World → Prop} {n l : Nat} {P : Program} {id : Nat} {ops : Array Oper} {Q : Exit → Act → World → Prop} {a : Act} {w : World} (hm : P.follows .mixedOrders = true) (hp : ops.all plainB = true) (hS : S w.drew)
    (h : S w.drew → wpAnyH P .any ops (fun e a w => e = .normal ∧ Q .normal a w) S ops.size (Array.replicate ops.size false) a w.drew) : (Code.region id ops true).wpIn (Fence.wide.inRound l) n P Q a w :=
  wpIn_region_any hm (any_round hp (fun _ _ h => h) _ _ _ _ (wpAny_of_held _ _ _ _ (h hS)))

theorem upon_wide {n : Nat} {P : Program} {o : Oper} {a : Act} {next : Act → World → Prop} {Q0 : Act → World → Prop} {Q : Exit → Act → World → Prop} {r : Result Next}
    (h : o.upon P a next (fun e a w => e = .normal ∧ Q0 a w) r) : o.uponIn Fence.wide n P a next Q r := by
  unfold Oper.upon at h
  unfold Oper.uponIn
  split at h
  · exact h
  · exact h
  · exact h
  · refine ⟨fun hd => by simp [Fence.wide, Fence.inRound] at hd, (callsIn_wide.2 h).mono ?_⟩
    intro e w' he
    cases e with
    | returned v => exact he
    | panicked c => exact absurd he.1 (by simp)
    | outgrown => obtain ⟨_, _, h1, _⟩ := he; exact absurd h1 (by simp)
  · refine ⟨fun hd => by simp [Fence.wide, Fence.inRound] at hd, ?_⟩
    intro c cs _
    obtain ⟨v, w', hr, hs⟩ := h c cs
    exact ⟨v, w', hr, stepsIn_wide.2 hs⟩
  · exact absurd h.1 (by simp)
  · exact h.elim
theorem any_wide {n : Nat} {P : Program} {md : Region.Mode} {ops : Array Oper} {Q0 : Act → World → Prop} {Q : Exit → Act → World → Prop} (hp : ops.all plainB = true) (hQ : ∀ a w, Q0 a w → Q .normal a w) : ∀ (fuel : Nat) (listed : Array Bool) (a : Act) (w : World),
    wpAny P md ops (fun e a w => e = .normal ∧ Q0 a w) fuel listed a w → wpAnyIn Fence.wide n P md ops Q fuel listed a w
  | 0, _, _, _, h => ⟨h.1, hQ _ _ h.2.2⟩
  | fuel + 1, listed, a, w, h => by
    refine ⟨fun h0 => hQ _ _ (h.1 h0).2, fun i hi => ?_⟩
    have h1 := h.2 i hi
    unfold wpOp at h1
    unfold wpOpIn
    cases ho : ops[i]? with
    | none =>
      simp only [ho] at h1
      exact any_wide hp hQ fuel _ _ _ h1
    | some o =>
      simp only [ho] at h1
      have hpo : plainB o = true := by
        rw [Array.all_eq_true] at hp
        obtain ⟨hlt, e⟩ := Array.getElem?_eq_some_iff.1 ho
        rw [← e]
        exact hp i hlt
      simp only
      split
      · rename_i hw
        rw [if_pos hw] at h1
        rcases h1 with h1 | ⟨_, _, _, h1, _⟩
        · refine ⟨fun f _ => trivial, ?_⟩
          rw [show Fence.wide.round = none from rfl, Oper.semAt_eq _ _ _ (plainB_ne hpo)]
          refine upon_wide (Q0 := Q0) ?_
          exact Oper.wp_mono (fun a' w' h' => any_wide hp hQ fuel _ a' w' h') h1
        · exact absurd h1 (by simp)
      · rename_i hw
        rw [if_neg hw] at h1
        exact ⟨fun f _ => trivial, any_wide hp hQ fuel _ _ _ h1⟩
/-- The beginning: S holds of the world behind the draw. -/
theorem held_wide {S : World → Prop} {n : Nat} {P : Program} {id : Nat} {ops : Array Oper} {Q : Exit → Act → World → Prop} {a : Act} {w : World} (hm : P.follows .mixedOrders = true) (hp : ops.all plainB = true) (hS : S w.drew)
    (h : S w.drew → wpAnyH P .any ops (fun e a w => e = .normal ∧ Q .normal a w) S ops.size (Array.replicate ops.size false) a w.drew) : (Code.region id ops true).wpIn Fence.wide n P Q a w :=
  wpIn_region_any hm (any_wide hp (fun _ _ h => h) _ _ _ _ (wpAny_of_held _ _ _ _ (h hS)))

theorem held_take {P : Program} {ops : Array Oper} {Q : Exit → Act → World → Prop} {md : Region.Mode} {S : World → Prop} {i d : Nat} {oi : Oper} {v : Value} {fuel : Nat} {listed : Array Bool} {a : Act} {w : World} (hi : ops[i]? = some oi) (hd : oi.dst = some d)
    (hs : Region.noSelect ops = true) (hf : Region.free md ops listed i = true) (hr : (Region.ready md ops listed).contains i = true)
    (hQ : ∀ c a w, Q (.panic c) (a.put oi.dst v) w → Q (.panic c) a w) (hy : YieldsIf P ops S oi v a) (hS : S w)
    (h : wpAnyH P md ops Q S fuel (listed.setIfInBounds i true) { tmps := a.tmps.setIfInBounds d v, defers := a.defers } w) : wpAnyH P md ops Q S (fuel + 1) listed a w :=
  wpAnyH_take hi hs hf hr hQ hy hS (by rw [hd]; exact h)

attribute [local go_sem] Oper.semAt_some

/-- What is asked of a site's lists ahead of what lies between phases. -/
structure Shape (S : St) : Prop where
  ok : Okay S
  row : ∀ a, a < S.groups.length → (S.between.getD a []).length = S.groups.length
  ph : ∀ i, i < S.phases.length → (S.ph i).groups < 2 ^ S.groups.length
theorem mostL_snoc : ∀ (l : List Int) (x : Int), mostL (l ++ [x]) = max (mostL l) x
  | [], x => by simp [mostL]; omega
  | y :: l, x => by rw [List.cons_append, mostL, mostL_snoc l x, mostL]; omega
theorem max_if (a b : Int) : max a b = if a < b then b else a := by
  split <;> omega
def outL (S : St) (T : Nat) (pre : List Nat) : List Int := pre.flatMap fun a => (memb (S.ap a &&& T)).map (S.bt a)
theorem outL_snoc (S : St) (T : Nat) (pre : List Nat) (a : Nat) : outL S T (pre ++ [a]) = outL S T pre ++ (memb (S.ap a &&& T)).map (S.bt a) := by simp [outL]
theorem lies_list {S : St} (h : Shape S) (ha : ∀ i, S.ap i < 4294967296) (hp : ∀ i, (S.ph i).groups < 4294967296) {f t : Nat} (hf : f < S.phases.length) (ht : t < S.phases.length) : mostL (outL S (S.ph t).groups (memb (S.ph f).groups)) = liesM S f t := by
  refine (liesM_eq ((mostL_is _).congr fun x => ?_)).symm
  unfold outL LiesP
  have lim : ∀ i, i < S.phases.length → ∀ j, (S.ph i).groups.testBit j = true → j < S.groups.length := fun i hi j hj => by
    by_cases hh : j < S.groups.length
    · exact hh
    · have := Nat.testBit_lt_two_pow (Nat.lt_of_lt_of_le (h.ph i hi) (Nat.pow_le_pow_right (n := 2) (by omega) (show S.groups.length ≤ j by omega)))
      rw [this] at hj; cases hj
  simp only [List.mem_flatMap, List.mem_map, mem_memb, Nat.testBit_and, Bool.and_eq_true]
  constructor
  · rintro ⟨a, ⟨h1, h2⟩, b, ⟨h3, h4, h5⟩, rfl⟩
    exact ⟨a, b, lim f hf a h2, lim t ht b h5, h2, h5, h4, rfl⟩
  · rintro ⟨a, b, h1, h2, h3, h4, h5, rfl⟩
    exact ⟨a, ⟨lt_bit (hp f) h3, h3⟩, b, ⟨lt_bit (hp t) h4, h5, h4⟩, rfl⟩

set_option maxRecDepth 100000 in
set_option maxHeartbeats 4000000 in
theorem lies_any {B : Nat} {X : Sa} {S : St} {w : World} (h : Sbox w B X S) (hT : Tabb w) (hSh : Shape S) (f t : Nat) (hf : f < S.phases.length) (ht : t < S.phases.length) :
    Calls Tryd.prog 95 #[.pointer (some ⟨B, 0, none⟩), .int .i64 f, .int .i64 t] w fun e w' => e = .returned (.int .i64 (liesM S f t)) ∧ Kept w w' none := by
  refine (callsIn_wide (n := 8)).1 ?_
  have HB := Hid.mk' h
  have HS := Hid.mk' hSh
  have HTb := Hid.mk' hT
  have hBl := h.lt
  have hp8 := hSh.ok.np
  have hg16 := hSh.ok.ng
  have c4 := h.c4
  obtain ⟨bp, op, ep, kp, _, _, _, _⟩ := h.sat.phAt hf
  rw [ep] at c4
  have hbp : bp < w.heap.size := block_lt kp
  have hT1 := hT.lt
  have hB1 : B < w.heap.size + 1 := by omega
  have hB2 : B < w.heap.size + 1 + 1 := by omega
  have hp1 : bp < w.heap.size + 1 := by omega
  have hp2 : bp < w.heap.size + 1 + 1 := by omega
  clear h hSh hT
  refine callsIn_of_wp_marks Tryd.func95 rfl trivial ?_ rfl
  simp only [Tryd.ntmps95, List.size_toArray, List.length_cons, List.length_nil, Nat.reduceAdd, Nat.reduceSub, Array.replicate_succ, Array.replicate_zero, List.push_toArray, List.append_toArray, List.nil_append, List.cons_append]
  gi_wp2_with (refine ⟨trivial, ?_⟩; gi_at_call 104; refine (members_in _ _ _).mono ?_; rintro e w' ⟨rfl, rfl⟩)
  have hF := HB.out.sat.phr f
  have hTg := HB.out.sat.phr t
  have bP := (((Boxed.new w 72 (.pointer (some ⟨B, 0, none⟩))).alloc (.cells #[.int .i64 (t : Int)] 3)).alloc (.cells #[.int .i64 0] 3)).alloc (.cells #[.int .u32 ((S.ph f).groups : Int)] 78)
  have bT := ((Boxed.new (w.alloc (.cells #[.pointer (some ⟨B, 0, none⟩)] 72)) 3 (.int .i64 (t : Int))).alloc (.cells #[.int .i64 0] 3)).alloc (.cells #[.int .u32 ((S.ph f).groups : Int)] 78)
  have bG := (Boxed.new ((w.alloc (.cells #[.pointer (some ⟨B, 0, none⟩)] 72)).alloc (.cells #[.int .i64 (t : Int)] 3)) 3 (.int .i64 0)).alloc (.cells #[.int .u32 ((S.ph f).groups : Int)] 78)
  have bF := Boxed.new (((w.alloc (.cells #[.pointer (some ⟨B, 0, none⟩)] 72)).alloc (.cells #[.int .i64 (t : Int)] 3)).alloc (.cells #[.int .i64 0] 3)) 78 (.int .u32 ((S.ph f).groups : Int))
  simp only [World.size_alloc] at bT bG bF
  have hB0 : Below w.heap.size w ((((w.alloc (.cells #[.pointer (some ⟨B, 0, none⟩)] 72)).alloc (.cells #[.int .i64 (t : Int)] 3)).alloc (.cells #[.int .i64 0] 3)).alloc (.cells #[.int .u32 ((S.ph f).groups : Int)] 78)) := ((((Below.refl _ w).alloc (Nat.le_refl _) _).alloc (by simp) _).alloc (by simp; omega) _).alloc (by simp; omega) _
  have hsz : ((((w.alloc (.cells #[.pointer (some ⟨B, 0, none⟩)] 72)).alloc (.cells #[.int .i64 (t : Int)] 3)).alloc (.cells #[.int .i64 0] 3)).alloc (.cells #[.int .u32 ((S.ph f).groups : Int)] 78)).heap.size = w.heap.size + 4 := by simp
  obtain ⟨W0, hW0⟩ : ∃ W0, (((w.alloc (.cells #[.pointer (some ⟨B, 0, none⟩)] 72)).alloc (.cells #[.int .i64 (t : Int)] 3)).alloc (.cells #[.int .i64 0] 3)).alloc (.cells #[.int .u32 ((S.ph f).groups : Int)] 78) = W0 := ⟨_, rfl⟩
  rw [hW0] at bP bT bG bF hB0 hsz ⊢
  have hsz1 : W0.heap.size ≤ w.heap.size + 4 := by omega
  have hsz2 : w.heap.size + 4 ≤ W0.heap.size := by omega
  clear hW0 c4 hsz
  refine wpIn_rangeFunc_ownH rfl (by omega) (gf := 116) (lb := #[.pointer (some ⟨w.heap.size + 1 + 1 + 1, 0, none⟩)]) rfl trivial (enters_of Tryd.func116 (by kernel_rfl) rfl)
    (members_stops 7 (by omega) (w.heap.size + 1 + 1 + 1) w.heap.size (S.ph f).groups W0 (by omega) hF hT1 (by omega) bF.cell (HTb.out.below hT1 hB0)) belowK_t (belowK_b (by omega)) (Below.refl _ _) (fun _ => rfl)
    (fun pre W => ((Boxed W (w.heap.size + 1 + 1) 3 (.int .i64 (mostL (outL S (S.ph t).groups (vals pre)))) ∧ Boxed W w.heap.size 72 (.pointer (some ⟨B, 0, none⟩))) ∧ Boxed W (w.heap.size + 1) 3 (.int .i64 (t : Int))) ∧ Below w.heap.size w W)
    (fun _ _ _ => False)
    (OwnFrom.and (OwnFrom.and (OwnFrom.and (Own.from (boxed_own _ _ _) _) (Own.from (boxed_own _ _ _) _)) (Own.from (boxed_own _ _ _) _)) (ownFrom_below (Nat.le_refl _) (by omega)))
    (fun _ _ _ _ _ hs _ _ => hs)
    ⟨⟨⟨bG, bP⟩, bT⟩, hB0⟩
    (fun x a' W => ∃ Bx, w.heap.size + 1 + 1 < Bx ∧ Boxed W Bx 3 (.int .i64 (x.1 : Int)) ∧ a' = { tmps := #[.pointer (some ⟨B, 0, none⟩), .int .i64 (f : Int), .int .i64 (t : Int), .pointer (some ⟨w.heap.size, 0, none⟩), undef, .pointer (some ⟨w.heap.size + 1, 0, none⟩), .int .i64 0, .pointer (some ⟨w.heap.size + 1 + 1, 0, none⟩), .pointer (some ⟨Bx, 0, none⟩), undef, .pointer (some ⟨B, 0, none⟩), .pointer (some ⟨B, 0, none⟩), .pointer (some ⟨B, 4, none⟩), .slice (some ⟨bp, op, none⟩) S.phases.length X.pc, .int .i64 (f : Int), .pointer (some ⟨bp, op + f * 5, none⟩), .pointer (some ⟨bp, op + f * 5, none⟩), .int .u32 ((S.ph f).groups : Int), .func (.func 116) #[] #[.pointer (some ⟨w.heap.size + 1 + 1 + 1, 0, none⟩)], .int .i64 (x.1 : Int), undef, undef, undef, undef, undef, undef, undef, undef, undef, undef, undef, undef, undef, undef, undef, undef, undef, undef, undef, undef, undef, undef, undef, undef, undef, undef, undef, undef, undef, undef, undef], defers := [] })
    (fun x a' _ X Y row hs hg hr => by obtain ⟨Bx, h1, h2, h3⟩ := hs; exact ⟨Bx, h1, boxed_own Bx 3 (fun (_ : Unit) => Value.int .i64 (x.1 : Int)) () X Y row h2 hg (fun r e => (hr r e).2), h3⟩)
    ?assign ?body ?done ?stop
  case assign =>
    rintro l pre x W K ⟨⟨⟨bG1, bP1⟩, bT1⟩, hB1⟩ hK
    gi_wp2
    exact hK _ _ ((KeepsOthers.alloc _ _).from _) ((Below.refl _ W).alloc hB1.size _) ⟨⟨⟨bG1.alloc _, bP1.alloc _⟩, bT1.alloc _⟩, hB1.alloc hB1.size _⟩ ⟨W.heap.size, bG1.lt, Boxed.new W 3 _, rfl⟩
  case body =>
    rintro l pre x a' W hl ⟨r, hr⟩ ⟨⟨⟨bG1, bP1⟩, bT1⟩, hB1⟩ ⟨Bx, hBx, bX, rfl⟩ hlt
    have cG := bG1.cell
    have cP := bP1.cell
    have cT := bT1.cell
    have cX := bX.cell
    obtain ⟨x, hx⟩ := x
    have hSb := HB.out.kept (Kept.of_below hB1)
    have hxg : x < S.groups.length := by
      have h1 := (mem_memb.1 hx).2
      by_cases hh : x < S.groups.length
      · exact hh
      · have := Nat.testBit_lt_two_pow (Nat.lt_of_lt_of_le (HS.out.ph f hf) (Nat.pow_le_pow_right (n := 2) (by omega) (show S.groups.length ≤ x by omega)))
        rw [this] at h1; cases h1
    have c2 := hSb.c2
    have c4 := hSb.c4
    have hna := HS.out.ok.na
    have hxa : x < S.apart.length := by omega
    obtain ⟨ba, oa, ea, hca⟩ := hSb.sat.apAt (n := S.apart.length) (by omega) (by omega)
    have ka := hca x hxa
    obtain ⟨bq, oq, eq, kq, _, _, _, _⟩ := hSb.sat.phAt ht
    rw [ea] at c2
    rw [eq] at c4
    have han := u32_and_nat (S.ap x) (S.ph t).groups (HB.out.sat.apr x) hTg
    have HAN := Hid.mk' han
    clear han hca hna
    dsimp only at *
    gi_wp2
    refine held_round (S := fun w' => w'.cell? ⟨w.heap.size, 0, none⟩ = some (.pointer (some ⟨B, 0, none⟩)) ∧ w'.cell? ⟨B, 2, none⟩ = some (.slice (some ⟨ba, oa, none⟩) S.apart.length X.ac) ∧ w'.cell? ⟨Bx, 0, none⟩ = some (.int .i64 (x : Int)) ∧ w'.cell? ⟨ba, oa + x, none⟩ = some (.int .u32 (S.ap x : Int)) ∧ w'.cell? ⟨B, 4, none⟩ = some (.slice (some ⟨bq, oq, none⟩) S.phases.length X.pc) ∧ w'.cell? ⟨w.heap.size + 1, 0, none⟩ = some (.int .i64 (t : Int)) ∧ w'.cell? ⟨bq, oq + t * 5, none⟩ = some (.int .u32 ((S.ph t).groups : Int))) (by kernel_rfl) (by kernel_rfl) ⟨cP, c2, cX, ka, c4, cT, kq⟩ (fun hHeld => ?_)
    refine held_take (i := 0) (v := ?vb0) rfl rfl (by kernel_rfl) (by kernel_rfl) (by kernel_rfl) (fun _ _ _ h => (by cases h.1)) (Or.inl ⟨by rfl, ?hyb0⟩) (by assumption) ?restb0
    case hyb0 => first | (intro w hSw; go_simp; done) | (intro w hSw; go_simp; with_reducible rfl)
    try simp only [List.setIfInBounds_toArray, List.set_cons_zero, List.set_cons_succ]
    refine held_take (i := 1) (v := ?vb1) rfl rfl (by kernel_rfl) (by kernel_rfl) (by kernel_rfl) (fun _ _ _ h => (by cases h.1)) (Or.inl ⟨by rfl, ?hyb1⟩) (by assumption) ?restb1
    case hyb1 => first | (intro w hSw; go_simp; done) | (intro w hSw; go_simp; with_reducible rfl)
    try simp only [List.setIfInBounds_toArray, List.set_cons_zero, List.set_cons_succ]
    refine held_take (i := 2) (v := ?vb2) rfl rfl (by kernel_rfl) (by kernel_rfl) (by kernel_rfl) (fun _ _ _ h => (by cases h.1)) (Or.inl ⟨by rfl, ?hyb2⟩) (by assumption) ?restb2
    case hyb2 => first | (intro w hSw; go_simp; done) | (intro w hSw; go_simp; with_reducible rfl)
    try simp only [List.setIfInBounds_toArray, List.set_cons_zero, List.set_cons_succ]
    refine held_take (i := 3) (v := ?vb3) rfl rfl (by kernel_rfl) (by kernel_rfl) (by kernel_rfl) (fun _ _ _ h => (by cases h.1)) (Or.inl ⟨by rfl, ?hyb3⟩) (by assumption) ?restb3
    case hyb3 => first | (intro w hSw; go_simp; done) | (intro w hSw; go_simp; with_reducible rfl)
    try simp only [List.setIfInBounds_toArray, List.set_cons_zero, List.set_cons_succ]
    refine held_take (i := 4) (v := ?vb4) rfl rfl (by kernel_rfl) (by kernel_rfl) (by kernel_rfl) (fun _ _ _ h => (by cases h.1)) (Or.inl ⟨by rfl, ?hyb4⟩) (by assumption) ?restb4
    case hyb4 => first | (intro w hSw; go_simp; done) | (intro w hSw; go_simp; with_reducible rfl)
    try simp only [List.setIfInBounds_toArray, List.set_cons_zero, List.set_cons_succ]
    refine held_take (i := 5) (v := ?vb5) rfl rfl (by kernel_rfl) (by kernel_rfl) (by kernel_rfl) (fun _ _ _ h => (by cases h.1)) (Or.inl ⟨by rfl, ?hyb5⟩) (by assumption) ?restb5
    case hyb5 => first | (intro w hSw; go_simp; done) | (intro w hSw; go_simp; with_reducible rfl)
    try simp only [List.setIfInBounds_toArray, List.set_cons_zero, List.set_cons_succ]
    refine held_take (i := 6) (v := ?vb6) rfl rfl (by kernel_rfl) (by kernel_rfl) (by kernel_rfl) (fun _ _ _ h => (by cases h.1)) (Or.inl ⟨by rfl, ?hyb6⟩) (by assumption) ?restb6
    case hyb6 => first | (intro w hSw; go_simp; done) | (intro w hSw; go_simp; with_reducible rfl)
    try simp only [List.setIfInBounds_toArray, List.set_cons_zero, List.set_cons_succ]
    refine held_take (i := 7) (v := ?vb7) rfl rfl (by kernel_rfl) (by kernel_rfl) (by kernel_rfl) (fun _ _ _ h => (by cases h.1)) (Or.inl ⟨by rfl, ?hyb7⟩) (by assumption) ?restb7
    case hyb7 => first | (intro w hSw; go_simp; done) | (intro w hSw; go_simp; with_reducible rfl)
    try simp only [List.setIfInBounds_toArray, List.set_cons_zero, List.set_cons_succ]
    refine held_take (i := 8) (v := ?vb8) rfl rfl (by kernel_rfl) (by kernel_rfl) (by kernel_rfl) (fun _ _ _ h => (by cases h.1)) (Or.inl ⟨by rfl, ?hyb8⟩) (by assumption) ?restb8
    case hyb8 => first | (intro w hSw; go_simp; done) | (intro w hSw; go_simp; with_reducible rfl)
    try simp only [List.setIfInBounds_toArray, List.set_cons_zero, List.set_cons_succ]
    refine held_take (i := 9) (v := ?vb9) rfl rfl (by kernel_rfl) (by kernel_rfl) (by kernel_rfl) (fun _ _ _ h => (by cases h.1)) (Or.inl ⟨by rfl, ?hyb9⟩) (by assumption) ?restb9
    case hyb9 => first | (intro w hSw; go_simp; done) | (intro w hSw; go_simp; with_reducible rfl)
    try simp only [List.setIfInBounds_toArray, List.set_cons_zero, List.set_cons_succ]
    refine held_take (i := 10) (v := ?vb10) rfl rfl (by kernel_rfl) (by kernel_rfl) (by kernel_rfl) (fun _ _ _ h => (by cases h.1)) (Or.inl ⟨by rfl, ?hyb10⟩) (by assumption) ?restb10
    case hyb10 => first | (intro w hSw; go_simp; done) | (intro w hSw; go_simp; with_reducible rfl)
    try simp only [List.setIfInBounds_toArray, List.set_cons_zero, List.set_cons_succ]
    refine held_take (i := 11) (v := ?vb11) rfl rfl (by kernel_rfl) (by kernel_rfl) (by kernel_rfl) (fun _ _ _ h => (by cases h.1)) (Or.inl ⟨by rfl, ?hyb11⟩) (by assumption) ?restb11
    case hyb11 => first | (intro w hSw; go_simp; done) | (intro w hSw; go_simp; with_reducible rfl)
    try simp only [List.setIfInBounds_toArray, List.set_cons_zero, List.set_cons_succ]
    refine held_take (i := 12) (v := ?vb12) rfl rfl (by kernel_rfl) (by kernel_rfl) (by kernel_rfl) (fun _ _ _ h => (by cases h.1)) (Or.inl ⟨by rfl, ?hyb12⟩) (by assumption) ?restb12
    case hyb12 => first | (intro w hSw; go_simp; done) | (intro w hSw; go_simp; with_reducible rfl)
    try simp only [List.setIfInBounds_toArray, List.set_cons_zero, List.set_cons_succ]
    refine held_take (i := 13) (v := ?vb13) rfl rfl (by kernel_rfl) (by kernel_rfl) (by kernel_rfl) (fun _ _ _ h => (by cases h.1)) (Or.inl ⟨by rfl, ?hyb13⟩) (by assumption) ?restb13
    case hyb13 => first | (intro w hSw; go_simp; done) | (intro w hSw; go_simp; with_reducible rfl)
    try simp only [List.setIfInBounds_toArray, List.set_cons_zero, List.set_cons_succ]
    refine held_take (i := 14) (v := ?vb14) rfl rfl (by kernel_rfl) (by kernel_rfl) (by kernel_rfl) (fun _ _ _ h => (by cases h.1)) (Or.inl ⟨by rfl, ?hyb14⟩) (by assumption) ?restb14
    case hyb14 => first | (intro w hSw; go_simp; done) | (intro w hSw; go_simp; with_reducible rfl)
    try simp only [List.setIfInBounds_toArray, List.set_cons_zero, List.set_cons_succ]
    refine held_take (i := 15) (v := ?vb15) rfl rfl (by kernel_rfl) (by kernel_rfl) (by kernel_rfl) (fun _ _ _ h => (by cases h.1)) (Or.inl ⟨by rfl, ?hyb15⟩) (by assumption) ?restb15
    case hyb15 => first | (intro w hSw; go_simp; done) | (intro w hSw; go_simp; with_reducible rfl)
    try simp only [List.setIfInBounds_toArray, List.set_cons_zero, List.set_cons_succ]
    refine wpAnyH_ready (rs := [16]) (by kernel_rfl) (by simp) ?_
    refine AllReadyH.cons rfl (fun K hK => ?_) AllReadyH.nil
    go_simp
    rw [HAN.out]
    go_wp2_with (go_at_call 104; refine ((callsIn_wide (n := 1)).1 (members_in 1 (S.ap x &&& (S.ph t).groups) _)).mono ?_; rintro e w' ⟨rfl, rfl⟩)
    refine hK.out _ _ (by go_keep) (fun hHeld2 => ?_)
    clear hK K
    refine wpAnyH_done (by kernel_rfl) ⟨rfl, ?_⟩ _
    clear hHeld hHeld2
    gi_wp2
    have hsW := hB1.size
    obtain ⟨W1, hW1⟩ : ∃ W1, (W.alloc (.cells #[.int .u32 ((S.ap x &&& (S.ph t).groups : Nat) : Int)] 78)).drew = W1 := ⟨_, rfl⟩
    have bN : Boxed W1 W.heap.size 78 (.int .u32 ((S.ap x &&& (S.ph t).groups : Nat) : Int)) := by rw [← hW1]; exact Boxed.new W 78 _
    have bG1' : Boxed W1 (w.heap.size + 1 + 1) 3 (.int .i64 (mostL (outL S (S.ph t).groups (vals pre)))) := by rw [← hW1]; exact bG1.alloc _
    have bX' : Boxed W1 Bx 3 (.int .i64 (x : Int)) := by rw [← hW1]; exact bX.alloc _
    have bP1' : Boxed W1 w.heap.size 72 (.pointer (some ⟨B, 0, none⟩)) := by rw [← hW1]; exact bP1.alloc _
    have bT1' : Boxed W1 (w.heap.size + 1) 3 (.int .i64 (t : Int)) := by rw [← hW1]; exact bT1.alloc _
    have hr' : W1.heap[l]? = some (.loop r) := by rw [← hW1]; exact (Below.heap_alloc W _ l (Array.getElem?_eq_some_iff.1 hr).1).trans hr
    have hBW1 : Below w.heap.size W W1 := by rw [← hW1]; exact ((Below.refl w.heap.size W).alloc hsW _).drew
    have hKF1 : KeepsFrom W0.heap.size W W1 := by rw [← hW1]; exact ((KeepsOthers.alloc _ _).trans (KeepsOthers.drew _)).from _
    have hz1 : W1.heap.size = W.heap.size + 1 := by rw [← hW1]; exact World.size_alloc _ _
    have hTW := (HTb.out.below hT1 hB1).below hT1 hBW1
    rw [hW1]
    have hz1a : W1.heap.size ≤ W.heap.size + 1 := by omega
    have hz1b : W.heap.size + 1 ≤ W1.heap.size := by omega
    clear hW1 hz1
    have hlm : S.ap x &&& (S.ph t).groups < 4294967296 := Nat.lt_of_le_of_lt Nat.and_le_left (HB.out.sat.apr x)
    refine wpIn_rangeFunc_ownN (l₀ := l) (r₀ := r) rfl hr' (by omega) (gf := 116) (lb := #[.pointer (some ⟨W.heap.size, 0, none⟩)]) rfl trivial (enters_of Tryd.func116 (by kernel_rfl) rfl)
      ((members_stops 5 (by omega) W.heap.size w.heap.size (S.ap x &&& (S.ph t).groups) W1 (by omega) hlm hT1 (by omega) bN.cell hTW).inRound l) belowK_t (belowK_b (by omega)) (Below.refl _ _) (fun _ => rfl)
      (fun pre' W' => (((Boxed W' (w.heap.size + 1 + 1) 3 (.int .i64 (mostL (outL S (S.ph t).groups (vals pre) ++ (vals pre').map (S.bt x)))) ∧ Boxed W' Bx 3 (.int .i64 (x : Int))) ∧ Boxed W' w.heap.size 72 (.pointer (some ⟨B, 0, none⟩))) ∧ Boxed W' (w.heap.size + 1) 3 (.int .i64 (t : Int))) ∧ (Below w.heap.size W W' ∧ KeepsFrom W0.heap.size W W'))
      (fun _ _ _ => False)
      (OwnFrom.and (OwnFrom.and (OwnFrom.and (OwnFrom.and (Own.from (boxed_own _ _ _) _) (Own.from (boxed_own _ _ _) _)) (Own.from (boxed_own _ _ _) _)) (Own.from (boxed_own _ _ _) _)) (OwnFrom.and (ownFrom_below hsW (by omega)) (ownFrom_keepsFrom (by have := hB1.size; omega))))
      (fun _ _ _ _ _ hs _ _ => hs)
      ⟨⟨⟨⟨by simpa [vals] using bG1', bX'⟩, bP1'⟩, bT1'⟩, hBW1, hKF1⟩
      (fun y a'' _ => a'' = { tmps := #[.pointer (some ⟨B, 0, none⟩), .int .i64 (f : Int), .int .i64 (t : Int), .pointer (some ⟨w.heap.size, 0, none⟩), undef, .pointer (some ⟨w.heap.size + 1, 0, none⟩), .int .i64 0, .pointer (some ⟨w.heap.size + 1 + 1, 0, none⟩), .pointer (some ⟨Bx, 0, none⟩), .int .i64 (y.1 : Int), .pointer (some ⟨B, 0, none⟩), .pointer (some ⟨B, 0, none⟩), .pointer (some ⟨B, 4, none⟩), .slice (some ⟨bp, op, none⟩) S.phases.length X.pc, .int .i64 (f : Int), .pointer (some ⟨bp, op + f * 5, none⟩), .pointer (some ⟨bp, op + f * 5, none⟩), .int .u32 ((S.ph f).groups : Int), .func (.func 116) #[] #[.pointer (some ⟨w.heap.size + 1 + 1 + 1, 0, none⟩)], .int .i64 (x : Int), .pointer (some ⟨B, 0, none⟩), .pointer (some ⟨B, 0, none⟩), .pointer (some ⟨B, 2, none⟩), .slice (some ⟨ba, oa, none⟩) S.apart.length X.ac, .int .i64 (x : Int), .pointer (some ⟨ba, oa + x, none⟩), .int .u32 (S.ap x : Int), .pointer (some ⟨B, 0, none⟩), .pointer (some ⟨B, 0, none⟩), .pointer (some ⟨B, 4, none⟩), .slice (some ⟨bq, oq, none⟩) S.phases.length X.pc, .int .i64 (t : Int), .pointer (some ⟨bq, oq + t * 5, none⟩), .pointer (some ⟨bq, oq + t * 5, none⟩), .int .u32 ((S.ph t).groups : Int), .int .u32 ((S.ap x &&& (S.ph t).groups : Nat) : Int), .func (.func 116) #[] #[.pointer (some ⟨W.heap.size, 0, none⟩)], .int .i64 (y.1 : Int), undef, undef, undef, undef, undef, undef, undef, undef, undef, undef, undef, undef, undef], defers := [] })
      (fun _ _ _ _ _ _ hs _ _ => hs)
      ?assign2 ?body2 ?done2 ?stop2
    case assign2 =>
      rintro l2 pre' y W' K hi hK
      gi_wp2
      exact hK _ _ (KeepsFrom.refl _ _) (Below.refl _ _) hi rfl
    case body2 =>
      rintro l2 pre' y a'' W' _ _ ⟨⟨⟨⟨bS2, bX2⟩, bP2⟩, bT2⟩, hBW, hKF⟩ rfl _
      have cS := bS2.cell
      have fS := bS2.frozen
      have cX2 := bX2.cell
      have cP2 := bP2.cell
      obtain ⟨y, hy⟩ := y
      have hSb2 := HB.out.kept (Kept.of_below (hB1.trans hBW))
      have hyg : y < S.groups.length := by
        have h1 := (mem_memb.1 hy).2
        rw [Nat.testBit_and, Bool.and_eq_true] at h1
        by_cases hh : y < S.groups.length
        · exact hh
        · have := Nat.testBit_lt_two_pow (Nat.lt_of_lt_of_le (HS.out.ph t ht) (Nat.pow_le_pow_right (n := 2) (by omega) (show S.groups.length ≤ y by omega)))
          rw [this] at h1; cases h1.2
      have c3 := hSb2.c3
      have hnb := HS.out.ok.nb
      have hxb : x < S.between.length := by omega
      clear hnb
      have hkw2 := Kept.of_below (hB1.trans hBW)
      obtain ⟨bb, ob, ar, cr, eb, kb0, hI⟩ := HB.out.sat.b.at_ hxb
      rw [eb] at c3
      have hrl := HS.out.row x hxg
      obtain ⟨bi, oi, ei, hbi, hci⟩ := hI.at_ (by omega)
      have ki0 := hci y (by omega)
      subst ei
      have hbt : (S.between.getD x []).getD y 0 = S.bt x y := rfl
      rw [hbt] at ki0
      rw [hrl] at kb0
      have hbb : bb < w.heap.size := block_lt kb0
      have kb := cell_kept0 kb0 hkw2
      have ki := cell_kept0 ki0 hkw2
      clear hci hI hrl hbt kb0 ki0
      dsimp only at *
      generalize hM : mostL (outL S (S.ph t).groups (vals pre) ++ (vals pre').map (S.bt x)) = M at *
      have HM := Hid.mk' hM
      clear hM
      gi_wp2
      refine held_round (S := fun w' => w'.cell? ⟨w.heap.size, 0, none⟩ = some (.pointer (some ⟨B, 0, none⟩)) ∧ w'.cell? ⟨B, 3, none⟩ = some (.slice (some ⟨bb, ob, none⟩) S.between.length X.bc) ∧ w'.cell? ⟨Bx, 0, none⟩ = some (.int .i64 (x : Int)) ∧ w'.cell? ⟨bb, ob + x, none⟩ = some (.slice (some ⟨bi, oi, none⟩) S.groups.length cr) ∧ w'.cell? ⟨bi, oi + y, none⟩ = some (.int .i64 (S.bt x y))) (by kernel_rfl) (by kernel_rfl) ⟨cP2, c3, cX2, kb, ki⟩ (fun hHeld => ?_)
      refine held_take (i := 1) (v := ?vc1) rfl rfl (by kernel_rfl) (by kernel_rfl) (by kernel_rfl) (fun _ _ _ h => (by cases h.1)) (Or.inl ⟨by rfl, ?hyc1⟩) (by assumption) ?restc1
      case hyc1 => first | (intro w hSw; go_simp; done) | (intro w hSw; go_simp; with_reducible rfl)
      try simp only [List.setIfInBounds_toArray, List.set_cons_zero, List.set_cons_succ]
      refine held_take (i := 2) (v := ?vc2) rfl rfl (by kernel_rfl) (by kernel_rfl) (by kernel_rfl) (fun _ _ _ h => (by cases h.1)) (Or.inl ⟨by rfl, ?hyc2⟩) (by assumption) ?restc2
      case hyc2 => first | (intro w hSw; go_simp; done) | (intro w hSw; go_simp; with_reducible rfl)
      try simp only [List.setIfInBounds_toArray, List.set_cons_zero, List.set_cons_succ]
      refine held_take (i := 3) (v := ?vc3) rfl rfl (by kernel_rfl) (by kernel_rfl) (by kernel_rfl) (fun _ _ _ h => (by cases h.1)) (Or.inl ⟨by rfl, ?hyc3⟩) (by assumption) ?restc3
      case hyc3 => first | (intro w hSw; go_simp; done) | (intro w hSw; go_simp; with_reducible rfl)
      try simp only [List.setIfInBounds_toArray, List.set_cons_zero, List.set_cons_succ]
      refine held_take (i := 4) (v := ?vc4) rfl rfl (by kernel_rfl) (by kernel_rfl) (by kernel_rfl) (fun _ _ _ h => (by cases h.1)) (Or.inl ⟨by rfl, ?hyc4⟩) (by assumption) ?restc4
      case hyc4 => first | (intro w hSw; go_simp; done) | (intro w hSw; go_simp; with_reducible rfl)
      try simp only [List.setIfInBounds_toArray, List.set_cons_zero, List.set_cons_succ]
      refine held_take (i := 5) (v := ?vc5) rfl rfl (by kernel_rfl) (by kernel_rfl) (by kernel_rfl) (fun _ _ _ h => (by cases h.1)) (Or.inl ⟨by rfl, ?hyc5⟩) (by assumption) ?restc5
      case hyc5 => first | (intro w hSw; go_simp; done) | (intro w hSw; go_simp; with_reducible rfl)
      try simp only [List.setIfInBounds_toArray, List.set_cons_zero, List.set_cons_succ]
      refine held_take (i := 6) (v := ?vc6) rfl rfl (by kernel_rfl) (by kernel_rfl) (by kernel_rfl) (fun _ _ _ h => (by cases h.1)) (Or.inl ⟨by rfl, ?hyc6⟩) (by assumption) ?restc6
      case hyc6 => first | (intro w hSw; go_simp; done) | (intro w hSw; go_simp; with_reducible rfl)
      try simp only [List.setIfInBounds_toArray, List.set_cons_zero, List.set_cons_succ]
      refine held_take (i := 7) (v := ?vc7) rfl rfl (by kernel_rfl) (by kernel_rfl) (by kernel_rfl) (fun _ _ _ h => (by cases h.1)) (Or.inl ⟨by rfl, ?hyc7⟩) (by assumption) ?restc7
      case hyc7 => first | (intro w hSw; go_simp; done) | (intro w hSw; go_simp; with_reducible rfl)
      try simp only [List.setIfInBounds_toArray, List.set_cons_zero, List.set_cons_succ]
      refine held_take (i := 8) (v := ?vc8) rfl rfl (by kernel_rfl) (by kernel_rfl) (by kernel_rfl) (fun _ _ _ h => (by cases h.1)) (Or.inl ⟨by rfl, ?hyc8⟩) (by assumption) ?restc8
      case hyc8 => first | (intro w hSw; go_simp; done) | (intro w hSw; go_simp; with_reducible rfl)
      try simp only [List.setIfInBounds_toArray, List.set_cons_zero, List.set_cons_succ]
      refine held_take (i := 9) (v := ?vc9) rfl rfl (by kernel_rfl) (by kernel_rfl) (by kernel_rfl) (fun _ _ _ h => (by cases h.1)) (Or.inl ⟨by rfl, ?hyc9⟩) (by assumption) ?restc9
      case hyc9 => first | (intro w hSw; go_simp; done) | (intro w hSw; go_simp; with_reducible rfl)
      try simp only [List.setIfInBounds_toArray, List.set_cons_zero, List.set_cons_succ]
      refine held_take (i := 10) (v := ?vc10) rfl rfl (by kernel_rfl) (by kernel_rfl) (by kernel_rfl) (fun _ _ _ h => (by cases h.1)) (Or.inl ⟨by rfl, ?hyc10⟩) (by assumption) ?restc10
      case hyc10 => first | (intro w hSw; go_simp; done) | (intro w hSw; go_simp; with_reducible rfl)
      try simp only [List.setIfInBounds_toArray, List.set_cons_zero, List.set_cons_succ]
      refine wpAnyH_ready (rs := [0]) (by kernel_rfl) (by simp) ?_
      refine AllReadyH.cons rfl (fun K hK => ?_) AllReadyH.nil
      go_simp
      refine hK.out _ _ hHeld (fun hHeld2 => ?_)
      clear hK K hHeld2
      refine held_take (i := 11) (v := ?vd11) rfl rfl (by kernel_rfl) (by kernel_rfl) (by kernel_rfl) (fun _ _ _ h => (by cases h.1)) (Or.inl ⟨by rfl, ?hyd11⟩) (by assumption) ?restd11
      case hyd11 => first | (intro w hSw; go_simp; done) | (intro w hSw; go_simp; with_reducible rfl)
      try simp only [List.setIfInBounds_toArray, List.set_cons_zero, List.set_cons_succ]
      refine wpAnyH_ready (rs := [12]) (by kernel_rfl) (by simp) ?_
      refine AllReadyH.cons rfl (fun K hK => ?_) AllReadyH.nil
      go_simp
      generalize hM2 : (if M < S.bt x y then S.bt x y else M) = M2
      have HM2 := Hid.mk' hM2
      clear hM2
      refine hK.out _ _ ⟨?s1, ?s2, ?s3, ?s4, ?s5⟩ (fun hHeld3 => ?s6)
      case s1 => exact (World.cell?_setCell_far _ _ _ _ (by simp; omega)).trans cP2
      case s2 => exact (World.cell?_setCell_far _ _ _ _ (by simp; omega)).trans c3
      case s3 => exact (World.cell?_setCell_far _ _ _ _ (by simp; omega)).trans cX2
      case s4 => exact (World.cell?_setCell_far _ _ _ _ (by simp; omega)).trans kb
      case s5 => exact (World.cell?_setCell_far _ _ _ _ (by simp; omega)).trans ki
      clear hK K hHeld3
      refine wpAnyH_done (by kernel_rfl) ⟨rfl, ?_⟩ _
      gi_wp2
      refine ⟨((KeepsOthers.setCell _ _ _).trans (KeepsOthers.drew _)).from _, ((Below.refl _ W').setCell (p := ⟨w.heap.size + 1 + 1, 0, none⟩) (by simp; omega) _).drew, ⟨⟨⟨⟨?b1, ?b2⟩, ?b3⟩, ?b4⟩, (hBW.setCell (p := ⟨w.heap.size + 1 + 1, 0, none⟩) (by simp; omega) _).drew, hKF.trans (((KeepsOthers.setCell _ _ _).trans (KeepsOthers.drew _)).from _)⟩⟩
      case b1 =>
        have e : mostL (outL S (S.ph t).groups (vals pre) ++ (vals (pre' ++ [⟨y, hy⟩])).map (S.bt x)) = M2 := by
          rw [vals_snoc, List.map_append, ← List.append_assoc, List.map_singleton, mostL_snoc, HM.out, ← HM2.out]
          exact max_if M (S.bt x y)
        rw [e]
        exact bS2.set _
      case b2 => exact bX2.other (by omega) _
      case b3 => exact bP2.other (by omega) _
      case b4 => exact bT2.other (by omega) _
    case done2 =>
      rintro ys' W' hys ⟨⟨⟨⟨bS2, bX2⟩, bP2⟩, bT2⟩, hBW, hKF⟩
      gi_wp2
      exact ⟨hKF, hBW, ⟨⟨by rw [vals_snoc, outL_snoc, ← hys]; exact bS2, bP2⟩, bT2⟩, hB1.trans hBW⟩
    case stop2 =>
      rintro c pre' W' _ h
      exact h.elim
  case done =>
    rintro D zs W hD hzs ⟨⟨⟨bG1, bP1⟩, bT1⟩, hB1⟩ hK
    have cG := bG1.cell
    gi_wp2
    refine ⟨by simp, .inl ⟨_, _, rfl, run_takeDeferred hK, ?_⟩⟩
    refine ⟨_, results_tmp rfl _ _ _, ?_, Kept.of_below (hB1.trans (belowK_b (w := w) (Nat.le_refl _) W D _ _ (by omega) hK rfl rfl))⟩
    rw [← lies_list HS.out HB.out.sat.apr HB.out.sat.phr hf ht, ← hzs]
    rfl
  case stop =>
    rintro D c pre W _ _ h _
    exact h.elim

end Go.Proofs.YtfhmfanmnhclfaaDoor
