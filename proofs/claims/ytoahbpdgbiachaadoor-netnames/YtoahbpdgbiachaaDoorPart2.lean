/-
  Part 2 of the texts that the proofs of this seat stand on.
-/
import Derived.Test.YtoahbpdgbiachaaDoorPart1
import Derived.Deep.RegionHeld2
import Derived.WalkMore
import Derived.Laws.EntriesVeiled
import Derived.Deep.LoopGhost
/-
  THE CONTRACT of lies: what lies from one phase to another one.
-/
namespace Go.Proofs.YtoahbpdgbiachaaDoor
open Go.RowKit Go.Lib Go.Deep Go.Shelf
set_option linter.unusedVariables false
set_option linter.unusedSimpArgs false
attribute [local go_sem] Oper.semAt_some

/-- What is asked of a site's lists ahead of what lies between phases. -/
structure Shape (S : St) : Prop where
  ok : Okay S
  row : ∀ a, a < S.groups.length → (S.between.getD a []).length = S.groups.length
  ph : ∀ i, i < S.phases.length → (S.ph i).groups < 2 ^ S.groups.length
theorem mostL_ge : ∀ l, 0 ≤ mostL l
  | [] => Int.le_refl _
  | x :: l => by have := mostL_ge l; rw [mostL]; omega
theorem mostL_snoc : ∀ (l : List Int) (x : Int), mostL (l ++ [x]) = max (mostL l) x
  | [], x => by simp [mostL]; omega
  | y :: l, x => by rw [List.cons_append, mostL, mostL_snoc l x, mostL]; omega
theorem max_if (a b : Int) : max a b = if a < b then b else a := by
  split <;> omega
def outL (S : St) (T : Nat) (pre : List Nat) : List Int := pre.flatMap fun a => (memb (S.ap a &&& T)).map (S.bt a)
theorem outL_snoc (S : St) (T : Nat) (pre : List Nat) (a : Nat) : outL S T (pre ++ [a]) = outL S T pre ++ (memb (S.ap a &&& T)).map (S.bt a) := by simp [outL]
theorem lies_list {S : St} (h : Shape S) (ha : ∀ i, S.ap i < 4294967296) (hp : ∀ i, (S.ph i).groups < 4294967296) {f t : Nat} (hf : f < S.phases.length) (ht : t < S.phases.length) : mostL (outL S (S.ph t).groups (memb (S.ph f).groups)) = liesM S f t := by
  refine (liesM_eq ((mostL_is _).congr fun x => ?_)).symm
  unfold outL LiesP
  have lim : ∀ i, i < S.phases.length → ∀ j, (S.ph i).groups.testBit j = true → j < S.groups.length := fun i hi j hj => by
    by_cases hh : j < S.groups.length
    · exact hh
    · have := Nat.testBit_lt_two_pow (Nat.lt_of_lt_of_le (h.ph i hi) (Nat.pow_le_pow_right (n := 2) (by omega) (show S.groups.length ≤ j by omega)))
      rw [this] at hj; cases hj
  simp only [List.mem_flatMap, List.mem_map, mem_memb, Nat.testBit_and, Bool.and_eq_true]
  constructor
  · rintro ⟨a, ⟨h1, h2⟩, b, ⟨h3, h4, h5⟩, rfl⟩
    exact ⟨a, b, lim f hf a h2, lim t ht b h5, h2, h5, h4, rfl⟩
  · rintro ⟨a, b, h1, h2, h3, h4, h5, rfl⟩
    exact ⟨a, ⟨lt_bit (hp f) h3, h3⟩, b, ⟨lt_bit (hp t) h4, h5, h4⟩, rfl⟩

set_option maxRecDepth 100000 in
set_option maxHeartbeats 4000000 in
theorem lies_any {B : Nat} {X : Sa} {S : St} {w : World} (h : Sbox w B X S) (hT : Tabb w) (hSh : Shape S) (f t : Nat) (hf : f < S.phases.length) (ht : t < S.phases.length) :
    Calls Tryd.prog 115 #[.pointer (some ⟨B, 0, none⟩), .int .i64 f, .int .i64 t] w fun e w' => e = .returned (.int .i64 (liesM S f t)) ∧ Kept w w' none := by
  refine (callsIn_wide (n := 8)).1 ?_
  have HB := Hid.mk' h
  have HS := Hid.mk' hSh
  have HTb := Hid.mk' hT
  have hBl := h.lt
  have hp8 := hSh.ok.np
  have hg16 := hSh.ok.ng
  have c4 := h.c4
  obtain ⟨bp, op, ep, kp, _, _, _, _⟩ := h.sat.phAt hf
  rw [ep] at c4
  have hbp : bp < w.heap.size := block_lt kp
  have hT1 := hT.lt
  have hB1 : B < w.heap.size + 1 := by omega
  have hB2 : B < w.heap.size + 1 + 1 := by omega
  have hp1 : bp < w.heap.size + 1 := by omega
  have hp2 : bp < w.heap.size + 1 + 1 := by omega
  clear h hSh hT
  refine callsIn_of_wp_marks Tryd.func115 rfl trivial ?_ rfl
  simp only [Tryd.ntmps115, List.size_toArray, List.length_cons, List.length_nil, Nat.reduceAdd, Nat.reduceSub, Array.replicate_succ, Array.replicate_zero, List.push_toArray, List.append_toArray, List.nil_append, List.cons_append]
  gi_wp2_with (refine ⟨trivial, ?_⟩; gi_at_call 104; refine (members_in _ _ _).mono ?_; rintro e w' ⟨rfl, rfl⟩)
  have hF := HB.out.sat.phr f
  have hTg := HB.out.sat.phr t
  have bP := (((Boxed.new w 98 (.pointer (some ⟨B, 0, none⟩))).alloc (.cells #[.int .i64 (t : Int)] 3)).alloc (.cells #[.int .i64 0] 3)).alloc (.cells #[.int .u32 ((S.ph f).groups : Int)] 65)
  have bT := ((Boxed.new (w.alloc (.cells #[.pointer (some ⟨B, 0, none⟩)] 98)) 3 (.int .i64 (t : Int))).alloc (.cells #[.int .i64 0] 3)).alloc (.cells #[.int .u32 ((S.ph f).groups : Int)] 65)
  have bG := (Boxed.new ((w.alloc (.cells #[.pointer (some ⟨B, 0, none⟩)] 98)).alloc (.cells #[.int .i64 (t : Int)] 3)) 3 (.int .i64 0)).alloc (.cells #[.int .u32 ((S.ph f).groups : Int)] 65)
  have bF := Boxed.new (((w.alloc (.cells #[.pointer (some ⟨B, 0, none⟩)] 98)).alloc (.cells #[.int .i64 (t : Int)] 3)).alloc (.cells #[.int .i64 0] 3)) 65 (.int .u32 ((S.ph f).groups : Int))
  simp only [World.size_alloc] at bT bG bF
  have hB0 : Below w.heap.size w ((((w.alloc (.cells #[.pointer (some ⟨B, 0, none⟩)] 98)).alloc (.cells #[.int .i64 (t : Int)] 3)).alloc (.cells #[.int .i64 0] 3)).alloc (.cells #[.int .u32 ((S.ph f).groups : Int)] 65)) := ((((Below.refl _ w).alloc (Nat.le_refl _) _).alloc (by simp) _).alloc (by simp; omega) _).alloc (by simp; omega) _
  have hsz : ((((w.alloc (.cells #[.pointer (some ⟨B, 0, none⟩)] 98)).alloc (.cells #[.int .i64 (t : Int)] 3)).alloc (.cells #[.int .i64 0] 3)).alloc (.cells #[.int .u32 ((S.ph f).groups : Int)] 65)).heap.size = w.heap.size + 4 := by simp
  obtain ⟨W0, hW0⟩ : ∃ W0, (((w.alloc (.cells #[.pointer (some ⟨B, 0, none⟩)] 98)).alloc (.cells #[.int .i64 (t : Int)] 3)).alloc (.cells #[.int .i64 0] 3)).alloc (.cells #[.int .u32 ((S.ph f).groups : Int)] 65) = W0 := ⟨_, rfl⟩
  rw [hW0] at bP bT bG bF hB0 hsz ⊢
  have hsz1 : W0.heap.size ≤ w.heap.size + 4 := by omega
  have hsz2 : w.heap.size + 4 ≤ W0.heap.size := by omega
  clear hW0 c4 hsz
  refine wpIn_rangeFunc_ownH rfl (by omega) (gf := 112) (lb := #[.pointer (some ⟨w.heap.size + 1 + 1 + 1, 0, none⟩)]) rfl trivial (enters_of Tryd.func112 (by kernel_rfl) rfl)
    (members_stops 7 (by omega) (w.heap.size + 1 + 1 + 1) w.heap.size (S.ph f).groups W0 (by omega) hF hT1 (by omega) bF.cell (HTb.out.below hT1 hB0)) belowK_t (belowK_b (by omega)) (Below.refl _ _) (fun _ => rfl)
    (fun pre W => ((Boxed W (w.heap.size + 1 + 1) 3 (.int .i64 (mostL (outL S (S.ph t).groups (vals pre)))) ∧ Boxed W w.heap.size 98 (.pointer (some ⟨B, 0, none⟩))) ∧ Boxed W (w.heap.size + 1) 3 (.int .i64 (t : Int))) ∧ Below w.heap.size w W)
    (fun _ _ _ => False)
    (OwnFrom.and (OwnFrom.and (OwnFrom.and (Own.from (boxed_own _ _ _) _) (Own.from (boxed_own _ _ _) _)) (Own.from (boxed_own _ _ _) _)) (ownFrom_below (Nat.le_refl _) (by omega)))
    (fun _ _ _ _ _ hs _ _ => hs)
    ⟨⟨⟨bG, bP⟩, bT⟩, hB0⟩
    (fun x a' W => ∃ Bx, w.heap.size + 1 + 1 < Bx ∧ Boxed W Bx 3 (.int .i64 (x.1 : Int)) ∧ a' = { tmps := #[.pointer (some ⟨B, 0, none⟩), .int .i64 (f : Int), .int .i64 (t : Int), .pointer (some ⟨w.heap.size, 0, none⟩), undef, .pointer (some ⟨w.heap.size + 1, 0, none⟩), .int .i64 0, .pointer (some ⟨w.heap.size + 1 + 1, 0, none⟩), .pointer (some ⟨Bx, 0, none⟩), undef, .pointer (some ⟨B, 0, none⟩), .pointer (some ⟨B, 0, none⟩), .pointer (some ⟨B, 4, none⟩), .slice (some ⟨bp, op, none⟩) S.phases.length X.pc, .int .i64 (f : Int), .pointer (some ⟨bp, op + f * 5, none⟩), .pointer (some ⟨bp, op + f * 5, none⟩), .int .u32 ((S.ph f).groups : Int), .func (.func 112) #[] #[.pointer (some ⟨w.heap.size + 1 + 1 + 1, 0, none⟩)], .int .i64 (x.1 : Int), undef, undef, undef, undef, undef, undef, undef, undef, undef, undef, undef, undef, undef, undef, undef, undef, undef, undef, undef, undef, undef, undef, undef, undef, undef, undef, undef, undef, undef, undef, undef], defers := [] })
    (fun x a' _ X Y row hs hg hr => by obtain ⟨Bx, h1, h2, h3⟩ := hs; exact ⟨Bx, h1, boxed_own Bx 3 (fun (_ : Unit) => Value.int .i64 (x.1 : Int)) () X Y row h2 hg (fun r e => (hr r e).2), h3⟩)
    ?assign ?body ?done ?stop
  case assign =>
    rintro l pre x W K ⟨⟨⟨bG1, bP1⟩, bT1⟩, hB1⟩ hK
    gi_wp2
    exact hK _ _ ((KeepsOthers.alloc _ _).from _) ((Below.refl _ W).alloc hB1.size _) ⟨⟨⟨bG1.alloc _, bP1.alloc _⟩, bT1.alloc _⟩, hB1.alloc hB1.size _⟩ ⟨W.heap.size, bG1.lt, Boxed.new W 3 _, rfl⟩
  case body =>
    rintro l pre x a' W hl ⟨r, hr⟩ ⟨⟨⟨bG1, bP1⟩, bT1⟩, hB1⟩ ⟨Bx, hBx, bX, rfl⟩ hlt
    have cG := bG1.cell
    have cP := bP1.cell
    have cT := bT1.cell
    have cX := bX.cell
    obtain ⟨x, hx⟩ := x
    have hSb := HB.out.kept (Kept.of_below hB1)
    have hxg : x < S.groups.length := by
      have h1 := (mem_memb.1 hx).2
      by_cases hh : x < S.groups.length
      · exact hh
      · have := Nat.testBit_lt_two_pow (Nat.lt_of_lt_of_le (HS.out.ph f hf) (Nat.pow_le_pow_right (n := 2) (by omega) (show S.groups.length ≤ x by omega)))
        rw [this] at h1; cases h1
    have c2 := hSb.c2
    have c4 := hSb.c4
    have hna := HS.out.ok.na
    have hxa : x < S.apart.length := by omega
    obtain ⟨ba, oa, ea, hca⟩ := hSb.sat.apAt (n := S.apart.length) (by omega) (by omega)
    have ka := hca x hxa
    obtain ⟨bq, oq, eq, kq, _, _, _, _⟩ := hSb.sat.phAt ht
    rw [ea] at c2
    rw [eq] at c4
    have han := u32_and_nat (S.ap x) (S.ph t).groups (HB.out.sat.apr x) hTg
    have HAN := Hid.mk' han
    clear han hca hna
    dsimp only at *
    gi_wp2
    refine held_round (S := fun w' => w'.cell? ⟨w.heap.size, 0, none⟩ = some (.pointer (some ⟨B, 0, none⟩)) ∧ w'.cell? ⟨B, 2, none⟩ = some (.slice (some ⟨ba, oa, none⟩) S.apart.length X.ac) ∧ w'.cell? ⟨Bx, 0, none⟩ = some (.int .i64 (x : Int)) ∧ w'.cell? ⟨ba, oa + x, none⟩ = some (.int .u32 (S.ap x : Int)) ∧ w'.cell? ⟨B, 4, none⟩ = some (.slice (some ⟨bq, oq, none⟩) S.phases.length X.pc) ∧ w'.cell? ⟨w.heap.size + 1, 0, none⟩ = some (.int .i64 (t : Int)) ∧ w'.cell? ⟨bq, oq + t * 5, none⟩ = some (.int .u32 ((S.ph t).groups : Int))) (by kernel_rfl) (by kernel_rfl) ⟨cP, c2, cX, ka, c4, cT, kq⟩ (fun hHeld => ?_)
    refine held_take (i := 0) (v := ?vb0) rfl rfl (by kernel_rfl) (by kernel_rfl) (by kernel_rfl) (fun _ _ _ h => (by cases h.1)) (Or.inl ⟨by rfl, ?hyb0⟩) (by assumption) ?restb0
    case hyb0 => first | (intro w hSw; go_simp; done) | (intro w hSw; go_simp; with_reducible rfl)
    try simp only [List.setIfInBounds_toArray, List.set_cons_zero, List.set_cons_succ]
    refine held_take (i := 1) (v := ?vb1) rfl rfl (by kernel_rfl) (by kernel_rfl) (by kernel_rfl) (fun _ _ _ h => (by cases h.1)) (Or.inl ⟨by rfl, ?hyb1⟩) (by assumption) ?restb1
    case hyb1 => first | (intro w hSw; go_simp; done) | (intro w hSw; go_simp; with_reducible rfl)
    try simp only [List.setIfInBounds_toArray, List.set_cons_zero, List.set_cons_succ]
    refine held_take (i := 2) (v := ?vb2) rfl rfl (by kernel_rfl) (by kernel_rfl) (by kernel_rfl) (fun _ _ _ h => (by cases h.1)) (Or.inl ⟨by rfl, ?hyb2⟩) (by assumption) ?restb2
    case hyb2 => first | (intro w hSw; go_simp; done) | (intro w hSw; go_simp; with_reducible rfl)
    try simp only [List.setIfInBounds_toArray, List.set_cons_zero, List.set_cons_succ]
    refine held_take (i := 3) (v := ?vb3) rfl rfl (by kernel_rfl) (by kernel_rfl) (by kernel_rfl) (fun _ _ _ h => (by cases h.1)) (Or.inl ⟨by rfl, ?hyb3⟩) (by assumption) ?restb3
    case hyb3 => first | (intro w hSw; go_simp; done) | (intro w hSw; go_simp; with_reducible rfl)
    try simp only [List.setIfInBounds_toArray, List.set_cons_zero, List.set_cons_succ]
    refine held_take (i := 4) (v := ?vb4) rfl rfl (by kernel_rfl) (by kernel_rfl) (by kernel_rfl) (fun _ _ _ h => (by cases h.1)) (Or.inl ⟨by rfl, ?hyb4⟩) (by assumption) ?restb4
    case hyb4 => first | (intro w hSw; go_simp; done) | (intro w hSw; go_simp; with_reducible rfl)
    try simp only [List.setIfInBounds_toArray, List.set_cons_zero, List.set_cons_succ]
    refine held_take (i := 5) (v := ?vb5) rfl rfl (by kernel_rfl) (by kernel_rfl) (by kernel_rfl) (fun _ _ _ h => (by cases h.1)) (Or.inl ⟨by rfl, ?hyb5⟩) (by assumption) ?restb5
    case hyb5 => first | (intro w hSw; go_simp; done) | (intro w hSw; go_simp; with_reducible rfl)
    try simp only [List.setIfInBounds_toArray, List.set_cons_zero, List.set_cons_succ]
    refine held_take (i := 6) (v := ?vb6) rfl rfl (by kernel_rfl) (by kernel_rfl) (by kernel_rfl) (fun _ _ _ h => (by cases h.1)) (Or.inl ⟨by rfl, ?hyb6⟩) (by assumption) ?restb6
    case hyb6 => first | (intro w hSw; go_simp; done) | (intro w hSw; go_simp; with_reducible rfl)
    try simp only [List.setIfInBounds_toArray, List.set_cons_zero, List.set_cons_succ]
    refine held_take (i := 7) (v := ?vb7) rfl rfl (by kernel_rfl) (by kernel_rfl) (by kernel_rfl) (fun _ _ _ h => (by cases h.1)) (Or.inl ⟨by rfl, ?hyb7⟩) (by assumption) ?restb7
    case hyb7 => first | (intro w hSw; go_simp; done) | (intro w hSw; go_simp; with_reducible rfl)
    try simp only [List.setIfInBounds_toArray, List.set_cons_zero, List.set_cons_succ]
    refine held_take (i := 8) (v := ?vb8) rfl rfl (by kernel_rfl) (by kernel_rfl) (by kernel_rfl) (fun _ _ _ h => (by cases h.1)) (Or.inl ⟨by rfl, ?hyb8⟩) (by assumption) ?restb8
    case hyb8 => first | (intro w hSw; go_simp; done) | (intro w hSw; go_simp; with_reducible rfl)
    try simp only [List.setIfInBounds_toArray, List.set_cons_zero, List.set_cons_succ]
    refine held_take (i := 9) (v := ?vb9) rfl rfl (by kernel_rfl) (by kernel_rfl) (by kernel_rfl) (fun _ _ _ h => (by cases h.1)) (Or.inl ⟨by rfl, ?hyb9⟩) (by assumption) ?restb9
    case hyb9 => first | (intro w hSw; go_simp; done) | (intro w hSw; go_simp; with_reducible rfl)
    try simp only [List.setIfInBounds_toArray, List.set_cons_zero, List.set_cons_succ]
    refine held_take (i := 10) (v := ?vb10) rfl rfl (by kernel_rfl) (by kernel_rfl) (by kernel_rfl) (fun _ _ _ h => (by cases h.1)) (Or.inl ⟨by rfl, ?hyb10⟩) (by assumption) ?restb10
    case hyb10 => first | (intro w hSw; go_simp; done) | (intro w hSw; go_simp; with_reducible rfl)
    try simp only [List.setIfInBounds_toArray, List.set_cons_zero, List.set_cons_succ]
    refine held_take (i := 11) (v := ?vb11) rfl rfl (by kernel_rfl) (by kernel_rfl) (by kernel_rfl) (fun _ _ _ h => (by cases h.1)) (Or.inl ⟨by rfl, ?hyb11⟩) (by assumption) ?restb11
    case hyb11 => first | (intro w hSw; go_simp; done) | (intro w hSw; go_simp; with_reducible rfl)
    try simp only [List.setIfInBounds_toArray, List.set_cons_zero, List.set_cons_succ]
    refine held_take (i := 12) (v := ?vb12) rfl rfl (by kernel_rfl) (by kernel_rfl) (by kernel_rfl) (fun _ _ _ h => (by cases h.1)) (Or.inl ⟨by rfl, ?hyb12⟩) (by assumption) ?restb12
    case hyb12 => first | (intro w hSw; go_simp; done) | (intro w hSw; go_simp; with_reducible rfl)
    try simp only [List.setIfInBounds_toArray, List.set_cons_zero, List.set_cons_succ]
    refine held_take (i := 13) (v := ?vb13) rfl rfl (by kernel_rfl) (by kernel_rfl) (by kernel_rfl) (fun _ _ _ h => (by cases h.1)) (Or.inl ⟨by rfl, ?hyb13⟩) (by assumption) ?restb13
    case hyb13 => first | (intro w hSw; go_simp; done) | (intro w hSw; go_simp; with_reducible rfl)
    try simp only [List.setIfInBounds_toArray, List.set_cons_zero, List.set_cons_succ]
    refine held_take (i := 14) (v := ?vb14) rfl rfl (by kernel_rfl) (by kernel_rfl) (by kernel_rfl) (fun _ _ _ h => (by cases h.1)) (Or.inl ⟨by rfl, ?hyb14⟩) (by assumption) ?restb14
    case hyb14 => first | (intro w hSw; go_simp; done) | (intro w hSw; go_simp; with_reducible rfl)
    try simp only [List.setIfInBounds_toArray, List.set_cons_zero, List.set_cons_succ]
    refine held_take (i := 15) (v := ?vb15) rfl rfl (by kernel_rfl) (by kernel_rfl) (by kernel_rfl) (fun _ _ _ h => (by cases h.1)) (Or.inl ⟨by rfl, ?hyb15⟩) (by assumption) ?restb15
    case hyb15 => first | (intro w hSw; go_simp; done) | (intro w hSw; go_simp; with_reducible rfl)
    try simp only [List.setIfInBounds_toArray, List.set_cons_zero, List.set_cons_succ]
    refine wpAnyH_ready (rs := [16]) (by kernel_rfl) (by simp) ?_
    refine AllReadyH.cons rfl (fun K hK => ?_) AllReadyH.nil
    go_simp
    rw [HAN.out]
    go_wp2_with (go_at_call 104; refine ((callsIn_wide (n := 1)).1 (members_in 1 (S.ap x &&& (S.ph t).groups) _)).mono ?_; rintro e w' ⟨rfl, rfl⟩)
    refine hK.out _ _ (by go_keep) (fun hHeld2 => ?_)
    clear hK K
    refine wpAnyH_done (by kernel_rfl) ⟨rfl, ?_⟩ _
    clear hHeld hHeld2
    gi_wp2
    have hsW := hB1.size
    obtain ⟨W1, hW1⟩ : ∃ W1, (W.alloc (.cells #[.int .u32 ((S.ap x &&& (S.ph t).groups : Nat) : Int)] 65)).drew = W1 := ⟨_, rfl⟩
    have bN : Boxed W1 W.heap.size 65 (.int .u32 ((S.ap x &&& (S.ph t).groups : Nat) : Int)) := by rw [← hW1]; exact Boxed.new W 65 _
    have bG1' : Boxed W1 (w.heap.size + 1 + 1) 3 (.int .i64 (mostL (outL S (S.ph t).groups (vals pre)))) := by rw [← hW1]; exact bG1.alloc _
    have bX' : Boxed W1 Bx 3 (.int .i64 (x : Int)) := by rw [← hW1]; exact bX.alloc _
    have bP1' : Boxed W1 w.heap.size 98 (.pointer (some ⟨B, 0, none⟩)) := by rw [← hW1]; exact bP1.alloc _
    have bT1' : Boxed W1 (w.heap.size + 1) 3 (.int .i64 (t : Int)) := by rw [← hW1]; exact bT1.alloc _
    have hr' : W1.heap[l]? = some (.loop r) := by rw [← hW1]; exact (Below.heap_alloc W _ l (Array.getElem?_eq_some_iff.1 hr).1).trans hr
    have hBW1 : Below w.heap.size W W1 := by rw [← hW1]; exact ((Below.refl w.heap.size W).alloc hsW _).drew
    have hKF1 : KeepsFrom W0.heap.size W W1 := by rw [← hW1]; exact ((KeepsOthers.alloc _ _).trans (KeepsOthers.drew _)).from _
    have hz1 : W1.heap.size = W.heap.size + 1 := by rw [← hW1]; exact World.size_alloc _ _
    have hTW := (HTb.out.below hT1 hB1).below hT1 hBW1
    rw [hW1]
    have hz1a : W1.heap.size ≤ W.heap.size + 1 := by omega
    have hz1b : W.heap.size + 1 ≤ W1.heap.size := by omega
    clear hW1 hz1
    have hlm : S.ap x &&& (S.ph t).groups < 4294967296 := Nat.lt_of_le_of_lt Nat.and_le_left (HB.out.sat.apr x)
    refine wpIn_rangeFunc_ownN (l₀ := l) (r₀ := r) rfl hr' (by omega) (gf := 112) (lb := #[.pointer (some ⟨W.heap.size, 0, none⟩)]) rfl trivial (enters_of Tryd.func112 (by kernel_rfl) rfl)
      ((members_stops 5 (by omega) W.heap.size w.heap.size (S.ap x &&& (S.ph t).groups) W1 (by omega) hlm hT1 (by omega) bN.cell hTW).inRound l) belowK_t (belowK_b (by omega)) (Below.refl _ _) (fun _ => rfl)
      (fun pre' W' => (((Boxed W' (w.heap.size + 1 + 1) 3 (.int .i64 (mostL (outL S (S.ph t).groups (vals pre) ++ (vals pre').map (S.bt x)))) ∧ Boxed W' Bx 3 (.int .i64 (x : Int))) ∧ Boxed W' w.heap.size 98 (.pointer (some ⟨B, 0, none⟩))) ∧ Boxed W' (w.heap.size + 1) 3 (.int .i64 (t : Int))) ∧ (Below w.heap.size W W' ∧ KeepsFrom W0.heap.size W W'))
      (fun _ _ _ => False)
      (OwnFrom.and (OwnFrom.and (OwnFrom.and (OwnFrom.and (Own.from (boxed_own _ _ _) _) (Own.from (boxed_own _ _ _) _)) (Own.from (boxed_own _ _ _) _)) (Own.from (boxed_own _ _ _) _)) (OwnFrom.and (ownFrom_below hsW (by omega)) (ownFrom_keepsFrom (by have := hB1.size; omega))))
      (fun _ _ _ _ _ hs _ _ => hs)
      ⟨⟨⟨⟨by simpa [vals] using bG1', bX'⟩, bP1'⟩, bT1'⟩, hBW1, hKF1⟩
      (fun y a'' _ => a'' = { tmps := #[.pointer (some ⟨B, 0, none⟩), .int .i64 (f : Int), .int .i64 (t : Int), .pointer (some ⟨w.heap.size, 0, none⟩), undef, .pointer (some ⟨w.heap.size + 1, 0, none⟩), .int .i64 0, .pointer (some ⟨w.heap.size + 1 + 1, 0, none⟩), .pointer (some ⟨Bx, 0, none⟩), .int .i64 (y.1 : Int), .pointer (some ⟨B, 0, none⟩), .pointer (some ⟨B, 0, none⟩), .pointer (some ⟨B, 4, none⟩), .slice (some ⟨bp, op, none⟩) S.phases.length X.pc, .int .i64 (f : Int), .pointer (some ⟨bp, op + f * 5, none⟩), .pointer (some ⟨bp, op + f * 5, none⟩), .int .u32 ((S.ph f).groups : Int), .func (.func 112) #[] #[.pointer (some ⟨w.heap.size + 1 + 1 + 1, 0, none⟩)], .int .i64 (x : Int), .pointer (some ⟨B, 0, none⟩), .pointer (some ⟨B, 0, none⟩), .pointer (some ⟨B, 2, none⟩), .slice (some ⟨ba, oa, none⟩) S.apart.length X.ac, .int .i64 (x : Int), .pointer (some ⟨ba, oa + x, none⟩), .int .u32 (S.ap x : Int), .pointer (some ⟨B, 0, none⟩), .pointer (some ⟨B, 0, none⟩), .pointer (some ⟨B, 4, none⟩), .slice (some ⟨bq, oq, none⟩) S.phases.length X.pc, .int .i64 (t : Int), .pointer (some ⟨bq, oq + t * 5, none⟩), .pointer (some ⟨bq, oq + t * 5, none⟩), .int .u32 ((S.ph t).groups : Int), .int .u32 ((S.ap x &&& (S.ph t).groups : Nat) : Int), .func (.func 112) #[] #[.pointer (some ⟨W.heap.size, 0, none⟩)], .int .i64 (y.1 : Int), undef, undef, undef, undef, undef, undef, undef, undef, undef, undef, undef, undef, undef], defers := [] })
      (fun _ _ _ _ _ _ hs _ _ => hs)
      ?assign2 ?body2 ?done2 ?stop2
    case assign2 =>
      rintro l2 pre' y W' K hi hK
      gi_wp2
      exact hK _ _ (KeepsFrom.refl _ _) (Below.refl _ _) hi rfl
    case body2 =>
      rintro l2 pre' y a'' W' _ _ ⟨⟨⟨⟨bS2, bX2⟩, bP2⟩, bT2⟩, hBW, hKF⟩ rfl _
      have cS := bS2.cell
      have fS := bS2.frozen
      have cX2 := bX2.cell
      have cP2 := bP2.cell
      obtain ⟨y, hy⟩ := y
      have hSb2 := HB.out.kept (Kept.of_below (hB1.trans hBW))
      have hyg : y < S.groups.length := by
        have h1 := (mem_memb.1 hy).2
        rw [Nat.testBit_and, Bool.and_eq_true] at h1
        by_cases hh : y < S.groups.length
        · exact hh
        · have := Nat.testBit_lt_two_pow (Nat.lt_of_lt_of_le (HS.out.ph t ht) (Nat.pow_le_pow_right (n := 2) (by omega) (show S.groups.length ≤ y by omega)))
          rw [this] at h1; cases h1.2
      have c3 := hSb2.c3
      have hnb := HS.out.ok.nb
      have hxb : x < S.between.length := by omega
      clear hnb
      have hkw2 := Kept.of_below (hB1.trans hBW)
      obtain ⟨bb, ob, ar, cr, eb, kb0, hI⟩ := HB.out.sat.b.at_ hxb
      rw [eb] at c3
      have hrl := HS.out.row x hxg
      obtain ⟨bi, oi, ei, hbi, hci⟩ := hI.at_ (by omega)
      have ki0 := hci y (by omega)
      subst ei
      have hbt : (S.between.getD x []).getD y 0 = S.bt x y := rfl
      rw [hbt] at ki0
      rw [hrl] at kb0
      have hbb : bb < w.heap.size := block_lt kb0
      have kb := cell_kept0 kb0 hkw2
      have ki := cell_kept0 ki0 hkw2
      clear hci hI hrl hbt kb0 ki0
      dsimp only at *
      generalize hM : mostL (outL S (S.ph t).groups (vals pre) ++ (vals pre').map (S.bt x)) = M at *
      have HM := Hid.mk' hM
      clear hM
      gi_wp2
      refine held_round (S := fun w' => w'.cell? ⟨w.heap.size, 0, none⟩ = some (.pointer (some ⟨B, 0, none⟩)) ∧ w'.cell? ⟨B, 3, none⟩ = some (.slice (some ⟨bb, ob, none⟩) S.between.length X.bc) ∧ w'.cell? ⟨Bx, 0, none⟩ = some (.int .i64 (x : Int)) ∧ w'.cell? ⟨bb, ob + x, none⟩ = some (.slice (some ⟨bi, oi, none⟩) S.groups.length cr) ∧ w'.cell? ⟨bi, oi + y, none⟩ = some (.int .i64 (S.bt x y))) (by kernel_rfl) (by kernel_rfl) ⟨cP2, c3, cX2, kb, ki⟩ (fun hHeld => ?_)
      refine held_take (i := 1) (v := ?vc1) rfl rfl (by kernel_rfl) (by kernel_rfl) (by kernel_rfl) (fun _ _ _ h => (by cases h.1)) (Or.inl ⟨by rfl, ?hyc1⟩) (by assumption) ?restc1
      case hyc1 => first | (intro w hSw; go_simp; done) | (intro w hSw; go_simp; with_reducible rfl)
      try simp only [List.setIfInBounds_toArray, List.set_cons_zero, List.set_cons_succ]
      refine held_take (i := 2) (v := ?vc2) rfl rfl (by kernel_rfl) (by kernel_rfl) (by kernel_rfl) (fun _ _ _ h => (by cases h.1)) (Or.inl ⟨by rfl, ?hyc2⟩) (by assumption) ?restc2
      case hyc2 => first | (intro w hSw; go_simp; done) | (intro w hSw; go_simp; with_reducible rfl)
      try simp only [List.setIfInBounds_toArray, List.set_cons_zero, List.set_cons_succ]
      refine held_take (i := 3) (v := ?vc3) rfl rfl (by kernel_rfl) (by kernel_rfl) (by kernel_rfl) (fun _ _ _ h => (by cases h.1)) (Or.inl ⟨by rfl, ?hyc3⟩) (by assumption) ?restc3
      case hyc3 => first | (intro w hSw; go_simp; done) | (intro w hSw; go_simp; with_reducible rfl)
      try simp only [List.setIfInBounds_toArray, List.set_cons_zero, List.set_cons_succ]
      refine held_take (i := 4) (v := ?vc4) rfl rfl (by kernel_rfl) (by kernel_rfl) (by kernel_rfl) (fun _ _ _ h => (by cases h.1)) (Or.inl ⟨by rfl, ?hyc4⟩) (by assumption) ?restc4
      case hyc4 => first | (intro w hSw; go_simp; done) | (intro w hSw; go_simp; with_reducible rfl)
      try simp only [List.setIfInBounds_toArray, List.set_cons_zero, List.set_cons_succ]
      refine held_take (i := 5) (v := ?vc5) rfl rfl (by kernel_rfl) (by kernel_rfl) (by kernel_rfl) (fun _ _ _ h => (by cases h.1)) (Or.inl ⟨by rfl, ?hyc5⟩) (by assumption) ?restc5
      case hyc5 => first | (intro w hSw; go_simp; done) | (intro w hSw; go_simp; with_reducible rfl)
      try simp only [List.setIfInBounds_toArray, List.set_cons_zero, List.set_cons_succ]
      refine held_take (i := 6) (v := ?vc6) rfl rfl (by kernel_rfl) (by kernel_rfl) (by kernel_rfl) (fun _ _ _ h => (by cases h.1)) (Or.inl ⟨by rfl, ?hyc6⟩) (by assumption) ?restc6
      case hyc6 => first | (intro w hSw; go_simp; done) | (intro w hSw; go_simp; with_reducible rfl)
      try simp only [List.setIfInBounds_toArray, List.set_cons_zero, List.set_cons_succ]
      refine held_take (i := 7) (v := ?vc7) rfl rfl (by kernel_rfl) (by kernel_rfl) (by kernel_rfl) (fun _ _ _ h => (by cases h.1)) (Or.inl ⟨by rfl, ?hyc7⟩) (by assumption) ?restc7
      case hyc7 => first | (intro w hSw; go_simp; done) | (intro w hSw; go_simp; with_reducible rfl)
      try simp only [List.setIfInBounds_toArray, List.set_cons_zero, List.set_cons_succ]
      refine held_take (i := 8) (v := ?vc8) rfl rfl (by kernel_rfl) (by kernel_rfl) (by kernel_rfl) (fun _ _ _ h => (by cases h.1)) (Or.inl ⟨by rfl, ?hyc8⟩) (by assumption) ?restc8
      case hyc8 => first | (intro w hSw; go_simp; done) | (intro w hSw; go_simp; with_reducible rfl)
      try simp only [List.setIfInBounds_toArray, List.set_cons_zero, List.set_cons_succ]
      refine held_take (i := 9) (v := ?vc9) rfl rfl (by kernel_rfl) (by kernel_rfl) (by kernel_rfl) (fun _ _ _ h => (by cases h.1)) (Or.inl ⟨by rfl, ?hyc9⟩) (by assumption) ?restc9
      case hyc9 => first | (intro w hSw; go_simp; done) | (intro w hSw; go_simp; with_reducible rfl)
      try simp only [List.setIfInBounds_toArray, List.set_cons_zero, List.set_cons_succ]
      refine held_take (i := 10) (v := ?vc10) rfl rfl (by kernel_rfl) (by kernel_rfl) (by kernel_rfl) (fun _ _ _ h => (by cases h.1)) (Or.inl ⟨by rfl, ?hyc10⟩) (by assumption) ?restc10
      case hyc10 => first | (intro w hSw; go_simp; done) | (intro w hSw; go_simp; with_reducible rfl)
      try simp only [List.setIfInBounds_toArray, List.set_cons_zero, List.set_cons_succ]
      refine wpAnyH_ready (rs := [0]) (by kernel_rfl) (by simp) ?_
      refine AllReadyH.cons rfl (fun K hK => ?_) AllReadyH.nil
      go_simp
      refine hK.out _ _ hHeld (fun hHeld2 => ?_)
      clear hK K hHeld2
      refine held_take (i := 11) (v := ?vd11) rfl rfl (by kernel_rfl) (by kernel_rfl) (by kernel_rfl) (fun _ _ _ h => (by cases h.1)) (Or.inl ⟨by rfl, ?hyd11⟩) (by assumption) ?restd11
      case hyd11 => first | (intro w hSw; go_simp; done) | (intro w hSw; go_simp; with_reducible rfl)
      try simp only [List.setIfInBounds_toArray, List.set_cons_zero, List.set_cons_succ]
      refine wpAnyH_ready (rs := [12]) (by kernel_rfl) (by simp) ?_
      refine AllReadyH.cons rfl (fun K hK => ?_) AllReadyH.nil
      go_simp
      generalize hM2 : (if M < S.bt x y then S.bt x y else M) = M2
      have HM2 := Hid.mk' hM2
      clear hM2
      refine hK.out _ _ ⟨?s1, ?s2, ?s3, ?s4, ?s5⟩ (fun hHeld3 => ?s6)
      case s1 => exact (World.cell?_setCell_far _ _ _ _ (by simp; omega)).trans cP2
      case s2 => exact (World.cell?_setCell_far _ _ _ _ (by simp; omega)).trans c3
      case s3 => exact (World.cell?_setCell_far _ _ _ _ (by simp; omega)).trans cX2
      case s4 => exact (World.cell?_setCell_far _ _ _ _ (by simp; omega)).trans kb
      case s5 => exact (World.cell?_setCell_far _ _ _ _ (by simp; omega)).trans ki
      clear hK K hHeld3
      refine wpAnyH_done (by kernel_rfl) ⟨rfl, ?_⟩ _
      gi_wp2
      refine ⟨((KeepsOthers.setCell _ _ _).trans (KeepsOthers.drew _)).from _, ((Below.refl _ W').setCell (p := ⟨w.heap.size + 1 + 1, 0, none⟩) (by simp; omega) _).drew, ⟨⟨⟨⟨?b1, ?b2⟩, ?b3⟩, ?b4⟩, (hBW.setCell (p := ⟨w.heap.size + 1 + 1, 0, none⟩) (by simp; omega) _).drew, hKF.trans (((KeepsOthers.setCell _ _ _).trans (KeepsOthers.drew _)).from _)⟩⟩
      case b1 =>
        have e : mostL (outL S (S.ph t).groups (vals pre) ++ (vals (pre' ++ [⟨y, hy⟩])).map (S.bt x)) = M2 := by
          rw [vals_snoc, List.map_append, ← List.append_assoc, List.map_singleton, mostL_snoc, HM.out, ← HM2.out]
          exact max_if M (S.bt x y)
        rw [e]
        exact bS2.set _
      case b2 => exact bX2.other (by omega) _
      case b3 => exact bP2.other (by omega) _
      case b4 => exact bT2.other (by omega) _
    case done2 =>
      rintro ys' W' hys ⟨⟨⟨⟨bS2, bX2⟩, bP2⟩, bT2⟩, hBW, hKF⟩
      gi_wp2
      exact ⟨hKF, hBW, ⟨⟨by rw [vals_snoc, outL_snoc, ← hys]; exact bS2, bP2⟩, bT2⟩, hB1.trans hBW⟩
    case stop2 =>
      rintro c pre' W' _ h
      exact h.elim
  case done =>
    rintro D zs W hD hzs ⟨⟨⟨bG1, bP1⟩, bT1⟩, hB1⟩ hK
    have cG := bG1.cell
    gi_wp2
    refine ⟨by simp, .inl ⟨_, _, rfl, run_takeDeferred hK, ?_⟩⟩
    refine ⟨_, results_tmp rfl _ _ _, ?_, Kept.of_below (hB1.trans (belowK_b (w := w) (Nat.le_refl _) W D _ _ (by omega) hK rfl rfl))⟩
    rw [← lies_list HS.out HB.out.sat.apr HB.out.sat.phr hf ht, ← hzs]
    rfl
  case stop =>
    rintro D c pre W _ _ h _
    exact h.elim

end Go.Proofs.YtoahbpdgbiachaaDoor

/-
  THE CONTRACT of phaseHolds.
-/
namespace Go.Proofs.YtoahbpdgbiachaaDoor
open Go.RowKit Go.Lib Go.Deep Go.Shelf
set_option linter.unusedVariables false
set_option linter.unusedSimpArgs false
attribute [local go_sem] Oper.semAt_some

/-- Minima of some groups. -/
def minsL (S : St) (pre : List Nat) : List Int := pre.map fun a => (S.gr a).min
theorem minsL_snoc (S : St) (pre : List Nat) (a : Nat) : minsL S (pre ++ [a]) = minsL S pre ++ [(S.gr a).min] := by simp [minsL]
theorem mostL_le : ∀ (l : List Int) (m : Int), mostL l ≤ m ↔ 0 ≤ m ∧ ∀ x ∈ l, x ≤ m
  | [], m => by simp [mostL]
  | y :: l, m => by
    have := mostL_le l m
    rw [mostL]
    constructor
    · intro h
      have h2 := this.1 (by omega)
      exact ⟨h2.1, fun x hx => by
        rcases List.mem_cons.1 hx with rfl | hx
        · omega
        · exact h2.2 x hx⟩
    · rintro ⟨h1, h2⟩
      have h3 := this.2 ⟨h1, fun x hx => h2 x (List.mem_cons_of_mem _ hx)⟩
      have h4 := h2 y (List.mem_cons_self ..)
      omega
theorem bit_lim {G n j : Nat} (h : G < 2 ^ n) (hj : G.testBit j = true) : j < n := by
  by_cases hh : j < n
  · exact hh
  · have := Nat.testBit_lt_two_pow (Nat.lt_of_lt_of_le h (Nat.pow_le_pow_right (n := 2) (by omega) (show n ≤ j by omega)))
    rw [this] at hj; cases hj
theorem least_iff {S : St} {G : Nat} {m : Int} (hG : G < 2 ^ S.groups.length) (hl : S.groups.length ≤ 16) : (decide (0 ≤ m) && leastB S G m) = decide (mostL (minsL S (memb G)) ≤ m) := by
  rw [Bool.eq_iff_iff]
  simp only [Bool.and_eq_true, decide_eq_true_eq, mostL_le, leastB, allB_iff, Bool.or_eq_true, Bool.not_eq_true']
  refine and_congr_right fun h0 => ?_
  constructor
  · intro h x hx
    simp only [minsL, List.mem_map] at hx
    obtain ⟨a, ha, rfl⟩ := hx
    have h2 := mem_memb.1 ha
    rcases h a (bit_lim hG h2.2) with h3 | h3
    · rw [h2.2] at h3; cases h3
    · exact h3
  · intro h a ha
    cases hb : G.testBit a with
    | false => exact .inl rfl
    | true => exact .inr (h _ (by simp only [minsL, List.mem_map]; exact ⟨a, mem_memb.2 ⟨by omega, hb⟩, rfl⟩))
theorem mate_iff {S : St} {G : Nat} (hG : G < 2 ^ S.groups.length) (hl : S.groups.length ≤ 16) : mateB S G = true ↔ ∀ a ∈ memb G, S.ap a &&& G = 0 := by
  simp only [mateB, allB_iff, Bool.or_eq_true, Bool.not_eq_true', decide_eq_true_eq]
  constructor
  · intro h a ha
    have h2 := mem_memb.1 ha
    rcases h a (bit_lim hG h2.2) with h3 | h3
    · rw [h2.2] at h3; cases h3
    · exact h3
  · intro h a ha
    cases hb : G.testBit a with
    | false => exact .inl rfl
    | true => exact .inr (h a (mem_memb.2 ⟨by omega, hb⟩))
theorem zero_and {x y : Nat} (hx : x < 4294967296) (hy : y < 4294967296) : (bits .and .u32 (x : Int) (y : Int) != 0) = !decide (x &&& y = 0) := by
  rw [u32_and_nat x y hx hy]
  by_cases h : x &&& y = 0
  · rw [h]; rfl
  · rw [decide_eq_false h]
    rw [Bool.not_false, bne_iff_ne]
    omega
/-- The cells of a phase in a block of the call's own. -/
abbrev Pbox (W : World) (b : Nat) (p : Ph) : Prop := W.cell? ⟨b, 0, none⟩ = some (.int .u32 (p.groups : Int)) ∧ W.cell? ⟨b, 1, none⟩ = some (.int .i64 p.min) ∧ W.cell? ⟨b, 2, none⟩ = some (.int .i64 p.max) ∧ W.cell? ⟨b, 3, none⟩ = some (.int .i64 p.gap)
theorem pbox_own {α : Type} (b : Nat) (p : Ph) : Own (fun (_ : α) W => Pbox W b p) := fun s A B row hs hg hr =>
  ⟨cell_kept hs.1 hg hr, cell_kept hs.2.1 hg hr, cell_kept hs.2.2.1 hg hr, cell_kept hs.2.2.2 hg hr⟩
theorem Pbox.alloc {W : World} {b : Nat} {p : Ph} (h : Pbox W b p) (o : Obj) : Pbox (W.alloc o) b p := by
  have hb := block_lt h.1
  exact ⟨(World.cell?_alloc_lt _ _ ⟨b, 0, none⟩ hb).trans h.1, (World.cell?_alloc_lt _ _ ⟨b, 1, none⟩ hb).trans h.2.1, (World.cell?_alloc_lt _ _ ⟨b, 2, none⟩ hb).trans h.2.2.1, (World.cell?_alloc_lt _ _ ⟨b, 3, none⟩ hb).trans h.2.2.2⟩
theorem Pbox.other {W : World} {b c : Nat} {p : Ph} (h : Pbox W b p) (hne : c ≠ b) (v : Value) : Pbox (W.setCell ⟨c, 0, none⟩ v) b p :=
  ⟨(World.cell?_setCell_far _ _ _ _ hne).trans h.1, (World.cell?_setCell_far _ _ _ _ hne).trans h.2.1, (World.cell?_setCell_far _ _ _ _ hne).trans h.2.2.1, (World.cell?_setCell_far _ _ _ _ hne).trans h.2.2.2⟩

set_option maxRecDepth 100000 in
set_option maxHeartbeats 2000000 in
theorem phase_none {B : Nat} {X : Sa} {S : St} {w : World} (h : Sbox w B X S) (hO : Okay S) (i : Nat) (hi : i < S.phases.length) (hz : (S.ph i).groups = 0 ∨ ((S.ph i).groups ≠ 0 ∧ ¬ (S.ph i).groups < 2 ^ S.groups.length)) :
    Calls Tryd.prog 75 #[.pointer (some ⟨B, 0, none⟩), .int .i64 i] w fun e w' => e = .returned (.bool (phaseB S i)) ∧ Kept w w' none := by
  have HB := Hid.mk' h
  have hBl := h.lt
  have hp8 := hO.np
  have hg16 := hO.ng.2
  have c4 := h.c4
  have hG := h.sat.phr i
  obtain ⟨bp, op, ep, kp, kp1, kp2, kp3, kp4⟩ := h.sat.phAt hi
  rw [ep] at c4
  have hbp : bp < w.heap.size := block_lt kp
  have hB1 : B < w.heap.size + 1 := by omega
  have hp1 : bp < w.heap.size + 1 := by omega
  have hB2 : B < w.heap.size + 1 + 1 := by omega
  have hpl : 2 ^ S.groups.length - 1 < 4294967296 := by have := pow_lt32 (i := S.groups.length) (by omega); omega
  have hans : phaseB S i = false := by
    rcases hz with hz | ⟨_, hz⟩ <;> simp [phaseB, hz]
  have HA := Hid.mk' hans
  have hkA : Kept w (((w.alloc (.cells #[.pointer (some ⟨B, 0, none⟩)] 98)).alloc (.cells #[.bool false] 4)).alloc (.cells #[.int .u32 ((S.ph i).groups : Int), .int .i64 (S.ph i).min, .int .i64 (S.ph i).max, .int .i64 (S.ph i).gap, .bool (S.ph i).always] 67)) none := (((Kept.alloc _ _ _ _ _ : Kept w _ none).tr (Kept.alloc _ _ _ _ _)).tr (Kept.alloc _ _ _ _ _))
  have HK := Hid.mk' hkA
  clear h hans hkA
  rcases hz with hz | ⟨hz0, hz⟩
  · have hz1 : (((S.ph i).groups : Int) == 0) = true := by rw [hz]; rfl
    clear hz
    go_enter Tryd.func75, Tryd.ntmps75
    go_wp2
    go_quiet (fail)
    go_wp2
    exact bodyPost_ret (v := .bool false) (by simp [results, Tryd.results75, go_sem]) rfl ⟨by rw [HA.out], (HK.out.tr (Kept.drewN _ _ _)).setNew (by simp) _⟩
  · have hz1 : (((S.ph i).groups : Int) == 0) = false := by rw [beq_eq_false_iff_ne]; omega
    have han : (bits .andNot .u32 ((S.ph i).groups : Int) ((2 ^ S.groups.length - 1 : Nat) : Int) != 0) = true := by
      rw [u32_andNot_nat _ _ hG hpl, bne_iff_ne]
      intro e
      exact hz ((low_andn _ _ hG (by omega)).1 (by omega))
    have hkB : ∀ m, Kept w ((((w.alloc (.cells #[.pointer (some ⟨B, 0, none⟩)] 98)).alloc (.cells #[.bool false] 4)).alloc (.cells #[.int .u32 ((S.ph i).groups : Int), .int .i64 (S.ph i).min, .int .i64 (S.ph i).max, .int .i64 (S.ph i).gap, .bool (S.ph i).always] 67)).drewN m) none := fun m => HK.out.tr (Kept.drewN _ _ _)
    have HKB := Hid.mk' hkB
    clear hz hz0 hkB
    go_enter Tryd.func75, Tryd.ntmps75
    go_wp2
    go_quiet ((go_at_call 102; exact Calls.quiet_of_same (allGroups_any (HB.out.kept (HKB.out _)) hg16)))
    go_wp2
    exact bodyPost_ret (v := .bool false) (by simp [results, Tryd.results75, go_sem]) rfl ⟨by rw [HA.out], (HK.out.tr (Kept.drewN _ _ _)).setNew (by simp) _⟩

set_option maxRecDepth 100000 in
set_option maxHeartbeats 4000000 in
theorem phase_some {B : Nat} {X : Sa} {S : St} {w : World} (h : Sbox w B X S) (hT : Tabb w) (hO : Okay S) (i : Nat) (hi : i < S.phases.length) (hz : (S.ph i).groups ≠ 0) (hlow : (S.ph i).groups < 2 ^ S.groups.length) :
    Calls Tryd.prog 75 #[.pointer (some ⟨B, 0, none⟩), .int .i64 i] w fun e w' => e = .returned (.bool (phaseB S i)) ∧ Kept w w' none := by
  refine (callsIn_wide (n := 8)).1 ?_
  have HB := Hid.mk' h
  have HTb := Hid.mk' hT
  have hBl := h.lt
  have hp8 := hO.np
  have hg16 := hO.ng
  have hna := hO.na
  have HNA := Hid.mk' hna
  have c4 := h.c4
  have hG := h.sat.phr i
  obtain ⟨bp, op, ep, kp, kp1, kp2, kp3, kp4⟩ := h.sat.phAt hi
  rw [ep] at c4
  have hbp : bp < w.heap.size := block_lt kp
  have hB1 : B < w.heap.size + 1 := by omega
  have hp1 : bp < w.heap.size + 1 := by omega
  have hT1 := hT.lt
  have hz1 : (((S.ph i).groups : Int) == 0) = false := by rw [beq_eq_false_iff_ne]; omega
  have hpl : 2 ^ S.groups.length - 1 < 4294967296 := by have := pow_lt32 (i := S.groups.length) (by omega); omega
  have han : bits .andNot .u32 ((S.ph i).groups : Int) ((2 ^ S.groups.length - 1 : Nat) : Int) = 0 := by
    rw [u32_andNot_nat _ _ hG hpl, (low_andn _ _ hG (by omega)).2 hlow]; rfl
  have HLOW := Hid.mk' hlow
  have HZ := Hid.mk' hz
  clear h hT hO hna hlow hz
  refine callsIn_of_wp_marks Tryd.func75 rfl trivial ?_ rfl
  simp only [Tryd.ntmps75, List.size_toArray, List.length_cons, List.length_nil, Nat.reduceAdd, Nat.reduceSub, Array.replicate_succ, Array.replicate_zero, List.push_toArray, List.append_toArray, List.nil_append, List.cons_append]
  gi_wp2
  have hSb := HB.out.kept (((((Kept.alloc w #[.pointer (some ⟨B, 0, none⟩)] 98 (0, 0) none).tr (Kept.alloc _ #[.bool false] 4 (0, 0) none)).tr (Kept.alloc _ #[.int .u32 ((S.ph i).groups : Int), .int .i64 (S.ph i).min, .int .i64 (S.ph i).max, .int .i64 (S.ph i).gap, .bool (S.ph i).always] 67 (0, 0) none)).tr (Kept.drewN _ 1 none)))
  have s1 : (((w.alloc (.cells #[.pointer (some ⟨B, 0, none⟩)] 98)).alloc (.cells #[.bool false] 4)).alloc (.cells #[.int .u32 ((S.ph i).groups : Int), .int .i64 (S.ph i).min, .int .i64 (S.ph i).max, .int .i64 (S.ph i).gap, .bool (S.ph i).always] 67)).cell? ⟨w.heap.size, 0, none⟩ = some (.pointer (some ⟨B, 0, none⟩)) := by go_simp
  have s2 : (((w.alloc (.cells #[.pointer (some ⟨B, 0, none⟩)] 98)).alloc (.cells #[.bool false] 4)).alloc (.cells #[.int .u32 ((S.ph i).groups : Int), .int .i64 (S.ph i).min, .int .i64 (S.ph i).max, .int .i64 (S.ph i).gap, .bool (S.ph i).always] 67)).cell? ⟨w.heap.size + 1 + 1, 0, none⟩ = some (.int .u32 ((S.ph i).groups : Int)) := by go_simp
  refine held_wide (S := fun w' => w'.cell? ⟨w.heap.size, 0, none⟩ = some (.pointer (some ⟨B, 0, none⟩)) ∧ w'.cell? ⟨w.heap.size + 1 + 1, 0, none⟩ = some (.int .u32 ((S.ph i).groups : Int))) (by kernel_rfl) (by kernel_rfl) ⟨s1, s2⟩ (fun hHeld => ?_)
  refine held_take (i := 0) (v := ?vb0) rfl rfl (by kernel_rfl) (by kernel_rfl) (by kernel_rfl) (fun _ _ _ h => (by cases h.1)) (Or.inl ⟨by rfl, ?hyb0⟩) (by assumption) ?restb0
  case hyb0 => first | (intro w hSw; go_simp; done) | (intro w hSw; go_simp; with_reducible rfl)
  try simp only [List.setIfInBounds_toArray, List.set_cons_zero, List.set_cons_succ]
  refine held_take (i := 1) (v := ?vb1) rfl rfl (by kernel_rfl) (by kernel_rfl) (by kernel_rfl) (fun _ _ _ h => (by cases h.1)) (Or.inl ⟨by rfl, ?hyb1⟩) (by assumption) ?restb1
  case hyb1 => first | (intro w hSw; go_simp; done) | (intro w hSw; go_simp; with_reducible rfl)
  try simp only [List.setIfInBounds_toArray, List.set_cons_zero, List.set_cons_succ]
  refine held_take (i := 2) (v := ?vb2) rfl rfl (by kernel_rfl) (by kernel_rfl) (by kernel_rfl) (fun _ _ _ h => (by cases h.1)) (Or.inl ⟨by rfl, ?hyb2⟩) (by assumption) ?restb2
  case hyb2 => first | (intro w hSw; go_simp; done) | (intro w hSw; go_simp; with_reducible rfl)
  try simp only [List.setIfInBounds_toArray, List.set_cons_zero, List.set_cons_succ]
  refine held_take (i := 3) (v := ?vb3) rfl rfl (by kernel_rfl) (by kernel_rfl) (by kernel_rfl) (fun _ _ _ h => (by cases h.1)) (Or.inl ⟨by rfl, ?hyb3⟩) (by assumption) ?restb3
  case hyb3 => first | (intro w hSw; go_simp; done) | (intro w hSw; go_simp; with_reducible rfl)
  try simp only [List.setIfInBounds_toArray, List.set_cons_zero, List.set_cons_succ]
  refine held_take (i := 4) (v := ?vb4) rfl rfl (by kernel_rfl) (by kernel_rfl) (by kernel_rfl) (fun _ _ _ h => (by cases h.1)) (Or.inl ⟨by rfl, ?hyb4⟩) (by assumption) ?restb4
  case hyb4 => first | (intro w hSw; go_simp; done) | (intro w hSw; go_simp; with_reducible rfl)
  try simp only [List.setIfInBounds_toArray, List.set_cons_zero, List.set_cons_succ]
  refine held_take (i := 5) (v := ?vb5) rfl rfl (by kernel_rfl) (by kernel_rfl) (by kernel_rfl) (fun _ _ _ h => (by cases h.1)) (Or.inl ⟨by rfl, ?hyb5⟩) (by assumption) ?restb5
  case hyb5 => first | (intro w hSw; go_simp; done) | (intro w hSw; go_simp; with_reducible rfl)
  try simp only [List.setIfInBounds_toArray, List.set_cons_zero, List.set_cons_succ]
  refine held_take (i := 6) (v := ?vb6) rfl rfl (by kernel_rfl) (by kernel_rfl) (by kernel_rfl) (fun _ _ _ h => (by cases h.1)) (Or.inl ⟨by rfl, ?hyb6⟩) (by assumption) ?restb6
  case hyb6 => first | (intro w hSw; go_simp; done) | (intro w hSw; go_simp; with_reducible rfl)
  try simp only [List.setIfInBounds_toArray, List.set_cons_zero, List.set_cons_succ]
  refine wpAnyH_ready (rs := [7]) (by kernel_rfl) (by simp) ?_
  refine AllReadyH.cons rfl (fun K hK => ?_) AllReadyH.nil
  go_simp
  go_wp2_with (go_at_call 102; refine (allGroups_any hSb (by omega)).mono ?_; rintro e w' ⟨rfl, rfl⟩)
  refine hK.out _ _ hHeld (fun hHeld2 => ?_)
  clear hK K hHeld2
  refine held_take (i := 8) (v := ?vc8) rfl rfl (by kernel_rfl) (by kernel_rfl) (by kernel_rfl) (fun _ _ _ h => (by cases h.1)) (Or.inl ⟨by rfl, ?hyc8⟩) (by assumption) ?restc8
  case hyc8 => first | (intro w hSw; go_simp; done) | (intro w hSw; go_simp; with_reducible rfl)
  try simp only [List.setIfInBounds_toArray, List.set_cons_zero, List.set_cons_succ]
  refine held_take (i := 9) (v := ?vc9) rfl rfl (by kernel_rfl) (by kernel_rfl) (by kernel_rfl) (fun _ _ _ h => (by cases h.1)) (Or.inl ⟨by rfl, ?hyc9⟩) (by assumption) ?restc9
  case hyc9 => first | (intro w hSw; go_simp; done) | (intro w hSw; go_simp; with_reducible rfl)
  try simp only [List.setIfInBounds_toArray, List.set_cons_zero, List.set_cons_succ]
  refine held_take (i := 10) (v := ?vc10) rfl rfl (by kernel_rfl) (by kernel_rfl) (by kernel_rfl) (fun _ _ _ h => (by cases h.1)) (Or.inl ⟨by rfl, ?hyc10⟩) (by assumption) ?restc10
  case hyc10 => first | (intro w hSw; go_simp; done) | (intro w hSw; go_simp; with_reducible rfl)
  try simp only [List.setIfInBounds_toArray, List.set_cons_zero, List.set_cons_succ]
  refine wpAnyH_done (by kernel_rfl) ⟨rfl, ?_⟩ _
  clear hHeld
  gi_wp2_with (refine ⟨trivial, ?_⟩; gi_at_call 104; refine (members_in _ _ _).mono ?_; rintro e w' ⟨rfl, rfl⟩)
  obtain ⟨W0, hW0⟩ : ∃ W0, ((((((w.alloc (.cells #[.pointer (some ⟨B, 0, none⟩)] 98)).alloc (.cells #[.bool false] 4)).alloc (.cells #[.int .u32 ((S.ph i).groups : Int), .int .i64 (S.ph i).min, .int .i64 (S.ph i).max, .int .i64 (S.ph i).gap, .bool (S.ph i).always] 67)).drewN 1).alloc (.cells #[.int .i64 0] 3)).alloc (.cells #[.int .u32 ((S.ph i).groups : Int)] 65)) = W0 := ⟨_, rfl⟩
  have bP : Boxed W0 w.heap.size 98 (.pointer (some ⟨B, 0, none⟩)) := by rw [← hW0]; exact ((((Boxed.new w 98 (.pointer (some ⟨B, 0, none⟩))).alloc (.cells #[.bool false] 4)).alloc (.cells #[.int .u32 ((S.ph i).groups : Int), .int .i64 (S.ph i).min, .int .i64 (S.ph i).max, .int .i64 (S.ph i).gap, .bool (S.ph i).always] 67)).alloc (.cells #[.int .i64 0] 3)).alloc (.cells #[.int .u32 ((S.ph i).groups : Int)] 65)
  have bR : Boxed W0 (w.heap.size + 1) 4 (.bool false) := by
    have := (((Boxed.new (w.alloc (.cells #[.pointer (some ⟨B, 0, none⟩)] 98)) 4 (.bool false)).alloc (.cells #[.int .u32 ((S.ph i).groups : Int), .int .i64 (S.ph i).min, .int .i64 (S.ph i).max, .int .i64 (S.ph i).gap, .bool (S.ph i).always] 67)).alloc (.cells #[.int .i64 0] 3)).alloc (.cells #[.int .u32 ((S.ph i).groups : Int)] 65)
    simp only [World.size_alloc] at this
    rw [← hW0]; exact this
  have bL : Boxed W0 (w.heap.size + 1 + 1 + 1) 3 (.int .i64 0) := by
    have := (Boxed.new (((w.alloc (.cells #[.pointer (some ⟨B, 0, none⟩)] 98)).alloc (.cells #[.bool false] 4)).alloc (.cells #[.int .u32 ((S.ph i).groups : Int), .int .i64 (S.ph i).min, .int .i64 (S.ph i).max, .int .i64 (S.ph i).gap, .bool (S.ph i).always] 67)) 3 (.int .i64 0)).alloc (.cells #[.int .u32 ((S.ph i).groups : Int)] 65)
    simp only [World.size_alloc] at this
    rw [← hW0]; exact this
  have bF : Boxed W0 (w.heap.size + 1 + 1 + 1 + 1) 65 (.int .u32 ((S.ph i).groups : Int)) := by
    have := Boxed.new ((((w.alloc (.cells #[.pointer (some ⟨B, 0, none⟩)] 98)).alloc (.cells #[.bool false] 4)).alloc (.cells #[.int .u32 ((S.ph i).groups : Int), .int .i64 (S.ph i).min, .int .i64 (S.ph i).max, .int .i64 (S.ph i).gap, .bool (S.ph i).always] 67)).alloc (.cells #[.int .i64 0] 3)) 65 (.int .u32 ((S.ph i).groups : Int))
    simp only [World.size_alloc] at this
    rw [← hW0]; exact this
  have pB : Pbox W0 (w.heap.size + 1 + 1) (S.ph i) := by
    have : Pbox (((w.alloc (.cells #[.pointer (some ⟨B, 0, none⟩)] 98)).alloc (.cells #[.bool false] 4)).alloc (.cells #[.int .u32 ((S.ph i).groups : Int), .int .i64 (S.ph i).min, .int .i64 (S.ph i).max, .int .i64 (S.ph i).gap, .bool (S.ph i).always] 67)) (w.heap.size + 1 + 1) (S.ph i) := ⟨by go_simp, by go_simp, by go_simp, by go_simp⟩
    have := (this.alloc (.cells #[.int .i64 0] 3)).alloc (.cells #[.int .u32 ((S.ph i).groups : Int)] 65)
    rw [← hW0]; exact this
  have hB0 : Below w.heap.size w W0 := by
    have : Below w.heap.size w ((((w.alloc (.cells #[.pointer (some ⟨B, 0, none⟩)] 98)).alloc (.cells #[.bool false] 4)).alloc (.cells #[.int .u32 ((S.ph i).groups : Int), .int .i64 (S.ph i).min, .int .i64 (S.ph i).max, .int .i64 (S.ph i).gap, .bool (S.ph i).always] 67)).drewN 1) := ((((Below.refl _ w).alloc (Nat.le_refl _) _).alloc (by simp) _).alloc (by simp; omega) _).drew
    rw [← hW0]; exact (this.alloc this.size _).alloc (by have := this.size; simp at this ⊢; omega) _
  have hsz : W0.heap.size = w.heap.size + 5 := by rw [← hW0]; simp
  rw [hW0]
  have hsz1 : W0.heap.size ≤ w.heap.size + 5 := by omega
  have hsz2 : w.heap.size + 5 ≤ W0.heap.size := by omega
  clear hW0 hsz hSb c4
  refine wpIn_rangeFunc_ownH rfl (by omega) (gf := 112) (lb := #[.pointer (some ⟨w.heap.size + 1 + 1 + 1 + 1, 0, none⟩)]) rfl trivial (enters_of Tryd.func112 (by kernel_rfl) rfl)
    (members_stops 7 (by omega) (w.heap.size + 1 + 1 + 1 + 1) w.heap.size (S.ph i).groups W0 (by omega) hG hT1 (by omega) bF.cell (HTb.out.below hT1 hB0)) belowK_t (belowK_b (by omega)) (Below.refl _ _) (fun _ => rfl)
    (fun pre W => (((((∀ a ∈ vals pre, S.ap a &&& (S.ph i).groups = 0) ∧ Boxed W (w.heap.size + 1 + 1 + 1) 3 (.int .i64 (mostL (minsL S (vals pre))))) ∧ Boxed W w.heap.size 98 (.pointer (some ⟨B, 0, none⟩))) ∧ Boxed W (w.heap.size + 1) 4 (.bool false)) ∧ Pbox W (w.heap.size + 1 + 1) (S.ph i)) ∧ Below w.heap.size w W)
    (fun c pre W => ((c = .ret ∧ ∃ a ∈ vals pre, S.ap a &&& (S.ph i).groups ≠ 0) ∧ Boxed W (w.heap.size + 1) 4 (.bool false)) ∧ Below w.heap.size w W)
    (OwnFrom.and (OwnFrom.and (OwnFrom.and (OwnFrom.and (OwnFrom.and (ownFrom_pure _ _) (Own.from (boxed_own _ _ _) _)) (Own.from (boxed_own _ _ _) _)) (Own.from (boxed_own _ _ _) _)) (Own.from (pbox_own _ _) _)) (ownFrom_below (Nat.le_refl _) (by omega)))
    (fun c => OwnFrom.and (OwnFrom.and (ownFrom_pure _ _) (Own.from (boxed_own _ _ _) _)) (ownFrom_below (Nat.le_refl _) (by omega)))
    ⟨⟨⟨⟨⟨by simp [vals], by simpa [vals, minsL, mostL] using bL⟩, bP⟩, bR⟩, pB⟩, hB0⟩
    (fun x a' _ => a' = { tmps := #[.pointer (some ⟨B, 0, none⟩), .int .i64 (i : Int), .pointer (some ⟨w.heap.size, 0, none⟩), undef, .pointer (some ⟨w.heap.size + 1, 0, none⟩), .pointer (some ⟨w.heap.size + 1 + 1, 0, none⟩), .pointer (some ⟨w.heap.size + 1 + 1 + 1, 0, none⟩), .int .i64 (x.1 : Int), .pointer (some ⟨B, 0, none⟩), .pointer (some ⟨B, 0, none⟩), .pointer (some ⟨B, 4, none⟩), .slice (some ⟨bp, op, none⟩) S.phases.length X.pc, .int .i64 (i : Int), .pointer (some ⟨bp, op + i * 5, none⟩), .agg #[.int .u32 ((S.ph i).groups : Int), .int .i64 (S.ph i).min, .int .i64 (S.ph i).max, .int .i64 (S.ph i).gap, .bool (S.ph i).always], .pointer (some ⟨w.heap.size + 1 + 1, 0, none⟩), .int .u32 ((S.ph i).groups : Int), .bool false, .bool false, .pointer (some ⟨w.heap.size + 1 + 1, 0, none⟩), .int .u32 ((S.ph i).groups : Int), .pointer (some ⟨B, 0, none⟩), .int .u32 ((2 ^ S.groups.length - 1 : Nat) : Int), .int .u32 0, .bool false, .bool false, .pointer (some ⟨w.heap.size + 1 + 1, 0, none⟩), .int .u32 ((S.ph i).groups : Int), .func (.func 112) #[] #[.pointer (some ⟨w.heap.size + 1 + 1 + 1 + 1, 0, none⟩)], .int .i64 (x.1 : Int), undef, undef, undef, undef, undef, undef, undef, undef, undef, undef, undef, undef, undef, undef, undef, undef, undef, undef, undef, undef, undef, undef, undef, undef, undef, undef, undef, undef, undef, undef, undef, undef, undef, undef, undef, undef, undef], defers := [] })
    (fun _ _ _ _ _ _ hs _ _ => hs)
    ?assign ?body ?done ?stop
  case assign =>
    rintro l pre x W K hi hK
    gi_wp2
    exact hK _ _ (KeepsFrom.refl _ _) (Below.refl _ _) hi rfl
  case body =>
    rintro l pre x a' W hl ⟨r, hr⟩ ⟨⟨⟨⟨⟨hall, bL1⟩, bP1⟩, bR1⟩, pB1⟩, hBW⟩ rfl hlt
    have cL := bL1.cell
    have fL := bL1.frozen
    have cP := bP1.cell
    have cR := bR1.cell
    have fR := bR1.frozen
    have cG := pB1.1
    obtain ⟨x, hx⟩ := x
    have hSb := HB.out.kept (Kept.of_below hBW)
    have hxg : x < S.groups.length := bit_lim HLOW.out (mem_memb.1 hx).2
    have c1 := hSb.c1
    have c2 := hSb.c2
    have hna := HNA.out
    have hxa : x < S.apart.length := by omega
    clear hna
    obtain ⟨ba, oa, ea, hca⟩ := HB.out.sat.apAt (n := S.apart.length) (by omega) (by omega)
    have ka0 := hca x hxa
    obtain ⟨bg, og, eg, _, g1, _⟩ := HB.out.sat.grAt hxg
    rw [ea] at c2
    rw [eg] at c1
    have hba : ba < w.heap.size := block_lt ka0
    have hbg : bg < w.heap.size := block_lt g1
    have ka := cell_kept0 ka0 (Kept.of_below hBW)
    have kg := cell_kept0 g1 (Kept.of_below hBW)
    have hza := zero_and (HB.out.sat.apr x) hG
    clear hca ka0 g1
    dsimp only at *
    generalize hM : mostL (minsL S (vals pre)) = M at *
    have HM := Hid.mk' hM
    have HALL := Hid.mk' hall
    clear hM hall
    by_cases hq : S.ap x &&& (S.ph i).groups = 0
    · rw [decide_eq_true hq, Bool.not_true] at hza
      have HQ := Hid.mk' hq
      clear hq
      gi_wp2
      refine held_round (S := fun w' => w'.cell? ⟨w.heap.size, 0, none⟩ = some (.pointer (some ⟨B, 0, none⟩)) ∧ w'.cell? ⟨B, 2, none⟩ = some (.slice (some ⟨ba, oa, none⟩) S.apart.length X.ac) ∧ w'.cell? ⟨ba, oa + x, none⟩ = some (.int .u32 (S.ap x : Int)) ∧ w'.cell? ⟨w.heap.size + 1 + 1, 0, none⟩ = some (.int .u32 ((S.ph i).groups : Int))) (by kernel_rfl) (by kernel_rfl) ⟨cP, c2, ka, cG⟩ (fun hHeld => ?_)
      refine held_take (i := 0) (v := ?vd0) rfl rfl (by kernel_rfl) (by kernel_rfl) (by kernel_rfl) (fun _ _ _ h => (by cases h.1)) (Or.inl ⟨by rfl, ?hyd0⟩) (by assumption) ?restd0
      case hyd0 => first | (intro w hSw; go_simp; done) | (intro w hSw; go_simp; with_reducible rfl)
      try simp only [List.setIfInBounds_toArray, List.set_cons_zero, List.set_cons_succ]
      refine held_take (i := 1) (v := ?vd1) rfl rfl (by kernel_rfl) (by kernel_rfl) (by kernel_rfl) (fun _ _ _ h => (by cases h.1)) (Or.inl ⟨by rfl, ?hyd1⟩) (by assumption) ?restd1
      case hyd1 => first | (intro w hSw; go_simp; done) | (intro w hSw; go_simp; with_reducible rfl)
      try simp only [List.setIfInBounds_toArray, List.set_cons_zero, List.set_cons_succ]
      refine held_take (i := 2) (v := ?vd2) rfl rfl (by kernel_rfl) (by kernel_rfl) (by kernel_rfl) (fun _ _ _ h => (by cases h.1)) (Or.inl ⟨by rfl, ?hyd2⟩) (by assumption) ?restd2
      case hyd2 => first | (intro w hSw; go_simp; done) | (intro w hSw; go_simp; with_reducible rfl)
      try simp only [List.setIfInBounds_toArray, List.set_cons_zero, List.set_cons_succ]
      refine held_take (i := 3) (v := ?vd3) rfl rfl (by kernel_rfl) (by kernel_rfl) (by kernel_rfl) (fun _ _ _ h => (by cases h.1)) (Or.inl ⟨by rfl, ?hyd3⟩) (by assumption) ?restd3
      case hyd3 => first | (intro w hSw; go_simp; done) | (intro w hSw; go_simp; with_reducible rfl)
      try simp only [List.setIfInBounds_toArray, List.set_cons_zero, List.set_cons_succ]
      refine held_take (i := 4) (v := ?vd4) rfl rfl (by kernel_rfl) (by kernel_rfl) (by kernel_rfl) (fun _ _ _ h => (by cases h.1)) (Or.inl ⟨by rfl, ?hyd4⟩) (by assumption) ?restd4
      case hyd4 => first | (intro w hSw; go_simp; done) | (intro w hSw; go_simp; with_reducible rfl)
      try simp only [List.setIfInBounds_toArray, List.set_cons_zero, List.set_cons_succ]
      refine held_take (i := 5) (v := ?vd5) rfl rfl (by kernel_rfl) (by kernel_rfl) (by kernel_rfl) (fun _ _ _ h => (by cases h.1)) (Or.inl ⟨by rfl, ?hyd5⟩) (by assumption) ?restd5
      case hyd5 => first | (intro w hSw; go_simp; done) | (intro w hSw; go_simp; with_reducible rfl)
      try simp only [List.setIfInBounds_toArray, List.set_cons_zero, List.set_cons_succ]
      refine held_take (i := 6) (v := ?vd6) rfl rfl (by kernel_rfl) (by kernel_rfl) (by kernel_rfl) (fun _ _ _ h => (by cases h.1)) (Or.inl ⟨by rfl, ?hyd6⟩) (by assumption) ?restd6
      case hyd6 => first | (intro w hSw; go_simp; done) | (intro w hSw; go_simp; with_reducible rfl)
      try simp only [List.setIfInBounds_toArray, List.set_cons_zero, List.set_cons_succ]
      refine held_take (i := 7) (v := ?vd7) rfl rfl (by kernel_rfl) (by kernel_rfl) (by kernel_rfl) (fun _ _ _ h => (by cases h.1)) (Or.inl ⟨by rfl, ?hyd7⟩) (by assumption) ?restd7
      case hyd7 => first | (intro w hSw; go_simp; done) | (intro w hSw; go_simp; with_reducible rfl)
      try simp only [List.setIfInBounds_toArray, List.set_cons_zero, List.set_cons_succ]
      refine held_take (i := 8) (v := ?vd8) rfl rfl (by kernel_rfl) (by kernel_rfl) (by kernel_rfl) (fun _ _ _ h => (by cases h.1)) (Or.inl ⟨by rfl, ?hyd8⟩) (by assumption) ?restd8
      case hyd8 => first | (intro w hSw; go_simp; done) | (intro w hSw; go_simp; with_reducible rfl)
      try simp only [List.setIfInBounds_toArray, List.set_cons_zero, List.set_cons_succ]
      refine held_take (i := 9) (v := ?vd9) rfl rfl (by kernel_rfl) (by kernel_rfl) (by kernel_rfl) (fun _ _ _ h => (by cases h.1)) (Or.inl ⟨by rfl, ?hyd9⟩) (by assumption) ?restd9
      case hyd9 => first | (intro w hSw; go_simp; done) | (intro w hSw; go_simp; with_reducible rfl)
      try simp only [List.setIfInBounds_toArray, List.set_cons_zero, List.set_cons_succ]
      refine held_take (i := 10) (v := ?vd10) rfl rfl (by kernel_rfl) (by kernel_rfl) (by kernel_rfl) (fun _ _ _ h => (by cases h.1)) (Or.inl ⟨by rfl, ?hyd10⟩) (by assumption) ?restd10
      case hyd10 => first | (intro w hSw; go_simp; done) | (intro w hSw; go_simp; with_reducible rfl)
      try simp only [List.setIfInBounds_toArray, List.set_cons_zero, List.set_cons_succ]
      refine wpAnyH_done (by kernel_rfl) ⟨rfl, ?_⟩ _
      clear hHeld
      gi_wp2
      refine held_round (S := fun w' => w'.cell? ⟨w.heap.size, 0, none⟩ = some (.pointer (some ⟨B, 0, none⟩)) ∧ w'.cell? ⟨B, 1, none⟩ = some (.slice (some ⟨bg, og, none⟩) S.groups.length X.gc) ∧ w'.cell? ⟨bg, og + x * 3 + 1, none⟩ = some (.int .i64 (S.gr x).min)) (by kernel_rfl) (by kernel_rfl) ⟨cP, c1, kg⟩ (fun hHeld => ?_)
      refine held_take (i := 1) (v := ?ve1) rfl rfl (by kernel_rfl) (by kernel_rfl) (by kernel_rfl) (fun _ _ _ h => (by cases h.1)) (Or.inl ⟨by rfl, ?hye1⟩) (by assumption) ?reste1
      case hye1 => first | (intro w hSw; go_simp; done) | (intro w hSw; go_simp; with_reducible rfl)
      try simp only [List.setIfInBounds_toArray, List.set_cons_zero, List.set_cons_succ]
      refine held_take (i := 2) (v := ?ve2) rfl rfl (by kernel_rfl) (by kernel_rfl) (by kernel_rfl) (fun _ _ _ h => (by cases h.1)) (Or.inl ⟨by rfl, ?hye2⟩) (by assumption) ?reste2
      case hye2 => first | (intro w hSw; go_simp; done) | (intro w hSw; go_simp; with_reducible rfl)
      try simp only [List.setIfInBounds_toArray, List.set_cons_zero, List.set_cons_succ]
      refine held_take (i := 3) (v := ?ve3) rfl rfl (by kernel_rfl) (by kernel_rfl) (by kernel_rfl) (fun _ _ _ h => (by cases h.1)) (Or.inl ⟨by rfl, ?hye3⟩) (by assumption) ?reste3
      case hye3 => first | (intro w hSw; go_simp; done) | (intro w hSw; go_simp; with_reducible rfl)
      try simp only [List.setIfInBounds_toArray, List.set_cons_zero, List.set_cons_succ]
      refine held_take (i := 4) (v := ?ve4) rfl rfl (by kernel_rfl) (by kernel_rfl) (by kernel_rfl) (fun _ _ _ h => (by cases h.1)) (Or.inl ⟨by rfl, ?hye4⟩) (by assumption) ?reste4
      case hye4 => first | (intro w hSw; go_simp; done) | (intro w hSw; go_simp; with_reducible rfl)
      try simp only [List.setIfInBounds_toArray, List.set_cons_zero, List.set_cons_succ]
      refine held_take (i := 5) (v := ?ve5) rfl rfl (by kernel_rfl) (by kernel_rfl) (by kernel_rfl) (fun _ _ _ h => (by cases h.1)) (Or.inl ⟨by rfl, ?hye5⟩) (by assumption) ?reste5
      case hye5 => first | (intro w hSw; go_simp; done) | (intro w hSw; go_simp; with_reducible rfl)
      try simp only [List.setIfInBounds_toArray, List.set_cons_zero, List.set_cons_succ]
      refine held_take (i := 6) (v := ?ve6) rfl rfl (by kernel_rfl) (by kernel_rfl) (by kernel_rfl) (fun _ _ _ h => (by cases h.1)) (Or.inl ⟨by rfl, ?hye6⟩) (by assumption) ?reste6
      case hye6 => first | (intro w hSw; go_simp; done) | (intro w hSw; go_simp; with_reducible rfl)
      try simp only [List.setIfInBounds_toArray, List.set_cons_zero, List.set_cons_succ]
      refine held_take (i := 7) (v := ?ve7) rfl rfl (by kernel_rfl) (by kernel_rfl) (by kernel_rfl) (fun _ _ _ h => (by cases h.1)) (Or.inl ⟨by rfl, ?hye7⟩) (by assumption) ?reste7
      case hye7 => first | (intro w hSw; go_simp; done) | (intro w hSw; go_simp; with_reducible rfl)
      try simp only [List.setIfInBounds_toArray, List.set_cons_zero, List.set_cons_succ]
      refine held_take (i := 8) (v := ?ve8) rfl rfl (by kernel_rfl) (by kernel_rfl) (by kernel_rfl) (fun _ _ _ h => (by cases h.1)) (Or.inl ⟨by rfl, ?hye8⟩) (by assumption) ?reste8
      case hye8 => first | (intro w hSw; go_simp; done) | (intro w hSw; go_simp; with_reducible rfl)
      try simp only [List.setIfInBounds_toArray, List.set_cons_zero, List.set_cons_succ]
      refine wpAnyH_ready (rs := [0]) (by kernel_rfl) (by simp) ?_
      refine AllReadyH.cons rfl (fun K hK => ?_) AllReadyH.nil
      go_simp
      refine hK.out _ _ hHeld (fun hHeld2 => ?_)
      clear hK K hHeld2
      refine held_take (i := 9) (v := ?vf9) rfl rfl (by kernel_rfl) (by kernel_rfl) (by kernel_rfl) (fun _ _ _ h => (by cases h.1)) (Or.inl ⟨by rfl, ?hyf9⟩) (by assumption) ?restf9
      case hyf9 => first | (intro w hSw; go_simp; done) | (intro w hSw; go_simp; with_reducible rfl)
      try simp only [List.setIfInBounds_toArray, List.set_cons_zero, List.set_cons_succ]
      refine wpAnyH_ready (rs := [10]) (by kernel_rfl) (by simp) ?_
      refine AllReadyH.cons rfl (fun K hK => ?_) AllReadyH.nil
      go_simp
      generalize hM2 : (if M < (S.gr x).min then (S.gr x).min else M) = M2
      have HM2 := Hid.mk' hM2
      clear hM2
      refine hK.out _ _ ⟨?s1, ?s2, ?s3⟩ (fun hHeld3 => ?s6)
      case s1 => exact (World.cell?_setCell_far _ _ _ _ (by simp; omega)).trans cP
      case s2 => exact (World.cell?_setCell_far _ _ _ _ (by simp; omega)).trans c1
      case s3 => exact (World.cell?_setCell_far _ _ _ _ (by simp; omega)).trans kg
      clear hK K hHeld3
      refine wpAnyH_done (by kernel_rfl) ⟨rfl, ?_⟩ _
      gi_wp2
      refine ⟨(((KeepsOthers.drew _).trans (KeepsOthers.setCell _ _ _)).trans (KeepsOthers.drew _)).from _, (((Below.refl _ W).drew).setCell (p := ⟨w.heap.size + 1 + 1 + 1, 0, none⟩) (by simp; omega) _).drew, ⟨⟨⟨⟨⟨?b0, ?b1⟩, ?b2⟩, ?b3⟩, ?b4⟩, ((hBW.drew).setCell (p := ⟨w.heap.size + 1 + 1 + 1, 0, none⟩) (by simp; omega) _).drew⟩⟩
      case b0 =>
        rw [vals_snoc]
        intro a ha
        rcases List.mem_append.1 ha with ha | ha
        · exact HALL.out a ha
        · have e : a = x := by simpa using ha
          rw [e]; exact HQ.out
      case b1 =>
        have e : mostL (minsL S (vals (pre ++ [⟨x, hx⟩]))) = M2 := by
          rw [vals_snoc, minsL_snoc, mostL_snoc, HM.out, ← HM2.out]
          exact max_if _ _
        rw [e]
        exact bL1.set _
      case b2 => exact bP1.other (by omega) _
      case b3 => exact bR1.other (by omega) _
      case b4 => exact pB1.other (by omega) _
    · rw [decide_eq_false hq, Bool.not_false] at hza
      have HQ := Hid.mk' hq
      clear hq
      gi_wp2
      refine held_round (S := fun w' => w'.cell? ⟨w.heap.size, 0, none⟩ = some (.pointer (some ⟨B, 0, none⟩)) ∧ w'.cell? ⟨B, 2, none⟩ = some (.slice (some ⟨ba, oa, none⟩) S.apart.length X.ac) ∧ w'.cell? ⟨ba, oa + x, none⟩ = some (.int .u32 (S.ap x : Int)) ∧ w'.cell? ⟨w.heap.size + 1 + 1, 0, none⟩ = some (.int .u32 ((S.ph i).groups : Int))) (by kernel_rfl) (by kernel_rfl) ⟨cP, c2, ka, cG⟩ (fun hHeld => ?_)
      refine held_take (i := 0) (v := ?vg0) rfl rfl (by kernel_rfl) (by kernel_rfl) (by kernel_rfl) (fun _ _ _ h => (by cases h.1)) (Or.inl ⟨by rfl, ?hyg0⟩) (by assumption) ?restg0
      case hyg0 => first | (intro w hSw; go_simp; done) | (intro w hSw; go_simp; with_reducible rfl)
      try simp only [List.setIfInBounds_toArray, List.set_cons_zero, List.set_cons_succ]
      refine held_take (i := 1) (v := ?vg1) rfl rfl (by kernel_rfl) (by kernel_rfl) (by kernel_rfl) (fun _ _ _ h => (by cases h.1)) (Or.inl ⟨by rfl, ?hyg1⟩) (by assumption) ?restg1
      case hyg1 => first | (intro w hSw; go_simp; done) | (intro w hSw; go_simp; with_reducible rfl)
      try simp only [List.setIfInBounds_toArray, List.set_cons_zero, List.set_cons_succ]
      refine held_take (i := 2) (v := ?vg2) rfl rfl (by kernel_rfl) (by kernel_rfl) (by kernel_rfl) (fun _ _ _ h => (by cases h.1)) (Or.inl ⟨by rfl, ?hyg2⟩) (by assumption) ?restg2
      case hyg2 => first | (intro w hSw; go_simp; done) | (intro w hSw; go_simp; with_reducible rfl)
      try simp only [List.setIfInBounds_toArray, List.set_cons_zero, List.set_cons_succ]
      refine held_take (i := 3) (v := ?vg3) rfl rfl (by kernel_rfl) (by kernel_rfl) (by kernel_rfl) (fun _ _ _ h => (by cases h.1)) (Or.inl ⟨by rfl, ?hyg3⟩) (by assumption) ?restg3
      case hyg3 => first | (intro w hSw; go_simp; done) | (intro w hSw; go_simp; with_reducible rfl)
      try simp only [List.setIfInBounds_toArray, List.set_cons_zero, List.set_cons_succ]
      refine held_take (i := 4) (v := ?vg4) rfl rfl (by kernel_rfl) (by kernel_rfl) (by kernel_rfl) (fun _ _ _ h => (by cases h.1)) (Or.inl ⟨by rfl, ?hyg4⟩) (by assumption) ?restg4
      case hyg4 => first | (intro w hSw; go_simp; done) | (intro w hSw; go_simp; with_reducible rfl)
      try simp only [List.setIfInBounds_toArray, List.set_cons_zero, List.set_cons_succ]
      refine held_take (i := 5) (v := ?vg5) rfl rfl (by kernel_rfl) (by kernel_rfl) (by kernel_rfl) (fun _ _ _ h => (by cases h.1)) (Or.inl ⟨by rfl, ?hyg5⟩) (by assumption) ?restg5
      case hyg5 => first | (intro w hSw; go_simp; done) | (intro w hSw; go_simp; with_reducible rfl)
      try simp only [List.setIfInBounds_toArray, List.set_cons_zero, List.set_cons_succ]
      refine held_take (i := 6) (v := ?vg6) rfl rfl (by kernel_rfl) (by kernel_rfl) (by kernel_rfl) (fun _ _ _ h => (by cases h.1)) (Or.inl ⟨by rfl, ?hyg6⟩) (by assumption) ?restg6
      case hyg6 => first | (intro w hSw; go_simp; done) | (intro w hSw; go_simp; with_reducible rfl)
      try simp only [List.setIfInBounds_toArray, List.set_cons_zero, List.set_cons_succ]
      refine held_take (i := 7) (v := ?vg7) rfl rfl (by kernel_rfl) (by kernel_rfl) (by kernel_rfl) (fun _ _ _ h => (by cases h.1)) (Or.inl ⟨by rfl, ?hyg7⟩) (by assumption) ?restg7
      case hyg7 => first | (intro w hSw; go_simp; done) | (intro w hSw; go_simp; with_reducible rfl)
      try simp only [List.setIfInBounds_toArray, List.set_cons_zero, List.set_cons_succ]
      refine held_take (i := 8) (v := ?vg8) rfl rfl (by kernel_rfl) (by kernel_rfl) (by kernel_rfl) (fun _ _ _ h => (by cases h.1)) (Or.inl ⟨by rfl, ?hyg8⟩) (by assumption) ?restg8
      case hyg8 => first | (intro w hSw; go_simp; done) | (intro w hSw; go_simp; with_reducible rfl)
      try simp only [List.setIfInBounds_toArray, List.set_cons_zero, List.set_cons_succ]
      refine held_take (i := 9) (v := ?vg9) rfl rfl (by kernel_rfl) (by kernel_rfl) (by kernel_rfl) (fun _ _ _ h => (by cases h.1)) (Or.inl ⟨by rfl, ?hyg9⟩) (by assumption) ?restg9
      case hyg9 => first | (intro w hSw; go_simp; done) | (intro w hSw; go_simp; with_reducible rfl)
      try simp only [List.setIfInBounds_toArray, List.set_cons_zero, List.set_cons_succ]
      refine held_take (i := 10) (v := ?vg10) rfl rfl (by kernel_rfl) (by kernel_rfl) (by kernel_rfl) (fun _ _ _ h => (by cases h.1)) (Or.inl ⟨by rfl, ?hyg10⟩) (by assumption) ?restg10
      case hyg10 => first | (intro w hSw; go_simp; done) | (intro w hSw; go_simp; with_reducible rfl)
      try simp only [List.setIfInBounds_toArray, List.set_cons_zero, List.set_cons_succ]
      refine wpAnyH_done (by kernel_rfl) ⟨rfl, ?_⟩ _
      clear hHeld
      gi_wp2
      exact ⟨((KeepsOthers.drew _).trans (KeepsOthers.setCell _ _ _)).from _, ⟨⟨rfl, x, by rw [vals_snoc]; simp, HQ.out⟩, bR1.set _⟩, (hBW.drew).setCell (p := ⟨w.heap.size + 1, 0, none⟩) (by simp) _⟩
  case done =>
    rintro D zs W hD hzs ⟨⟨⟨⟨⟨hall, bL1⟩, bP1⟩, bR1⟩, pB1⟩, hBW⟩ hK
    have cL := bL1.cell
    have cR := bR1.cell
    have fR := bR1.frozen
    have p1 := pB1.2.1
    have p2 := pB1.2.2.1
    have p3 := pB1.2.2.2
    have hmate := (mate_iff HLOW.out (by omega)).2 (by rw [← hzs]; exact hall)
    have hleast := least_iff (S := S) (m := (S.ph i).min) HLOW.out (by omega)
    rw [hzs] at cL
    have hph : phaseB S i = (inB (S.ph i).min (mostL (minsL S (memb (S.ph i).groups))) 1048576 && inB (S.ph i).max (S.ph i).min 1048576 && timeB (S.ph i).gap) := by
      unfold phaseB
      rw [decide_eq_true HZ.out, decide_eq_true HLOW.out, hmate, Bool.true_and, Bool.true_and, Bool.true_and, hleast]
      rfl
    have HPH := Hid.mk' hph
    clear hmate hleast hph hall
    cases h1 : inB (S.ph i).min (mostL (minsL S (memb (S.ph i).groups))) 1048576 with
    | false =>
      have HE : Hid (phaseB S i = false) := by show phaseB S i = false; rw [HPH.out, h1]; rfl
      gi_wp2_with (first | (refine ⟨trivial, ?_⟩; gi_at_call 100; refine (callsIn_wide.2 (within_is _ _ _ _ _ h1)).mono ?_; rintro e W ⟨rfl, rfl⟩) | refine ⟨trivial, ?_⟩)
      have hK' := (KeepsOthers.setCell W ⟨w.heap.size + 1, 0, none⟩ (.bool false)).same D _ hK rfl
      refine ⟨by simp, .inl ⟨_, _, rfl, run_takeDeferred hK', ?_⟩⟩
      have hc5 := cell_kept (bR1.set (.bool false)).cell (grownBy_putObj' _ D (.deferred none)) (fun r e => by cases e; exact ⟨_, hK', rfl⟩)
      refine ⟨.bool false, ?_, by rw [HE.out], Kept.of_below ((hBW.setCell (p := ⟨w.heap.size + 1, 0, none⟩) (by simp) _).trans (belowK_b (w := w) (Nat.le_refl _) _ D _ _ (by omega) hK' rfl rfl))⟩
      simp [results, Tryd.f75, go_sem, hc5]
    | true =>
      cases h2 : inB (S.ph i).max (S.ph i).min 1048576 with
      | false =>
        have HE : Hid (phaseB S i = false) := by show phaseB S i = false; rw [HPH.out, h1, h2]; rfl
        gi_wp2_with (first | (have hgo := hdone; clear hgo; refine ⟨trivial, ?_⟩; gi_at_call 100; refine (callsIn_wide.2 (within_is _ _ _ _ _ h2)).mono ?_; rintro e W ⟨rfl, rfl⟩) | (refine ⟨trivial, ?_⟩; gi_at_call 100; refine (callsIn_wide.2 (within_is _ _ _ _ _ h1)).mono ?_; rintro e W ⟨rfl, rfl⟩; have hdone := trivial) | refine ⟨trivial, ?_⟩)
        have hK' := (KeepsOthers.setCell W ⟨w.heap.size + 1, 0, none⟩ (.bool false)).same D _ hK rfl
        refine ⟨by simp, .inl ⟨_, _, rfl, run_takeDeferred hK', ?_⟩⟩
        have hc5 := cell_kept (bR1.set (.bool false)).cell (grownBy_putObj' _ D (.deferred none)) (fun r e => by cases e; exact ⟨_, hK', rfl⟩)
        refine ⟨.bool false, ?_, by rw [HE.out], Kept.of_below ((hBW.setCell (p := ⟨w.heap.size + 1, 0, none⟩) (by simp) _).trans (belowK_b (w := w) (Nat.le_refl _) _ D _ _ (by omega) hK' rfl rfl))⟩
        simp [results, Tryd.f75, go_sem, hc5]
      | true =>
        have HE : Hid (phaseB S i = timeB (S.ph i).gap) := by show phaseB S i = _; rw [HPH.out, h1, h2]; rfl
        gi_wp2_with (first | (have hgo := hdone; clear hgo; refine ⟨trivial, ?_⟩; gi_at_call 100; refine (callsIn_wide.2 (within_is _ _ _ _ _ h2)).mono ?_; rintro e W ⟨rfl, rfl⟩) | (refine ⟨trivial, ?_⟩; gi_at_call 100; refine (callsIn_wide.2 (within_is _ _ _ _ _ h1)).mono ?_; rintro e W ⟨rfl, rfl⟩; have hdone := trivial) | (refine ⟨trivial, ?_⟩; gi_at_call 101; refine (callsIn_wide.2 (time_any _ _)).mono ?_; rintro e W ⟨rfl, rfl⟩) | refine ⟨trivial, ?_⟩)
        have hK' := (KeepsOthers.setCell W ⟨w.heap.size + 1, 0, none⟩ (.bool (timeB (S.ph i).gap))).same D _ hK rfl
        refine ⟨by simp, .inl ⟨_, _, rfl, run_takeDeferred hK', ?_⟩⟩
        have hc5 := cell_kept (bR1.set (.bool (timeB (S.ph i).gap))).cell (grownBy_putObj' _ D (.deferred none)) (fun r e => by cases e; exact ⟨_, hK', rfl⟩)
        refine ⟨.bool (timeB (S.ph i).gap), ?_, by rw [HE.out], Kept.of_below ((hBW.setCell (p := ⟨w.heap.size + 1, 0, none⟩) (by simp) _).trans (belowK_b (w := w) (Nat.le_refl _) _ D _ _ (by omega) hK' rfl rfl))⟩
        simp [results, Tryd.f75, go_sem, hc5]
  case stop =>
    rintro D c pre W hD hpre ⟨⟨⟨rfl, a, ha, hq⟩, bR1⟩, hBW⟩ hK
    have hE : phaseB S i = false := by
      have hn : mateB S (S.ph i).groups = false := by
        cases e : mateB S (S.ph i).groups with
        | false => rfl
        | true => exact absurd ((mate_iff HLOW.out (by omega)).1 e a (hpre.subset ha)) hq
      simp [phaseB, hn]
    have HE := Hid.mk' hE
    clear hE
    gi_wp2
    refine ⟨by simp, .inl ⟨_, _, rfl, run_takeDeferred hK, ?_⟩⟩
    have hc5 := cell_kept bR1.cell (grownBy_putObj' _ D (.deferred none)) (fun r e => by cases e; exact ⟨_, hK, rfl⟩)
    refine ⟨.bool false, ?_, by rw [HE.out], Kept.of_below (hBW.trans (belowK_b (w := w) (Nat.le_refl _) W D _ _ (by omega) hK rfl rfl))⟩
    simp [results, Tryd.f75, go_sem, hc5]

theorem phase_any {B : Nat} {X : Sa} {S : St} {w : World} (h : Sbox w B X S) (hT : Tabb w) (hO : Okay S) (i : Nat) (hi : i < S.phases.length) :
    Calls Tryd.prog 75 #[.pointer (some ⟨B, 0, none⟩), .int .i64 i] w fun e w' => e = .returned (.bool (phaseB S i)) ∧ Kept w w' none := by
  by_cases hz : (S.ph i).groups = 0
  · exact phase_none h hO i hi (.inl hz)
  · by_cases hl : (S.ph i).groups < 2 ^ S.groups.length
    · exact phase_some h hT hO i hi hz hl
    · exact phase_none h hO i hi (.inr ⟨hz, hl⟩)

end Go.Proofs.YtoahbpdgbiachaaDoor

/-
  THE CONTRACTS of leastPart, cyclesHold, fits, planFits.
-/
namespace Go.Proofs.YtoahbpdgbiachaaDoor
open Go.RowKit Go.Lib Go.Deep
set_option linter.unusedVariables false
set_option linter.unusedSimpArgs false

/-- What is asked of a site ahead of sums of times. -/
structure Base (S : St) : Prop where
  sh : Shape S
  mn : ∀ i, i < S.phases.length → 0 ≤ (S.ph i).min ∧ (S.ph i).min ≤ 1048576
  bt : ∀ a b, a < S.groups.length → b < S.groups.length → S.bt a b ≤ 1048576
theorem Base.lies {S : St} (h : Base S) (f t : Nat) : 0 ≤ liesM S f t ∧ liesM S f t ≤ 1048576 :=
  ⟨liesM_ge S f t, (liesM_is S f t).le (by omega) (fun x hx => by
    obtain ⟨a, b, ha, hb, _, _, _, rfl⟩ := hx
    exact h.bt a b ha hb)⟩
theorem Base.part {S : St} (h : Base S) {i : Nat} (hi : i < S.phases.length) : 0 ≤ partM S i ∧ partM S i ≤ 2097152 := by
  have h1 := h.mn i hi
  have h2 := h.lies i ((i + 1) % S.phases.length)
  unfold partM
  omega
theorem Base.round {S : St} (h : Base S) : ∀ k, k ≤ S.phases.length → 0 ≤ roundN S k ∧ roundN S k ≤ 2097152 * k
  | 0, _ => by simp [roundN]
  | k + 1, hk => by
    have h1 := h.round k (by omega)
    have h2 := h.part (i := k) (by omega)
    rw [roundN]
    omega
theorem wrap_in {x : Int} (h1 : -9223372036854775808 ≤ x) (h2 : x ≤ 9223372036854775807) : IntKind.i64.wrap x = x := by
  simp [IntKind.wrap, IntKind.bits, IntKind.signed]; omega
theorem Kept.drew (w : World) (r : Option Nat) : Kept w w.drew r := Kept.drewN w 1 r
set_option maxRecDepth 100000 in
set_option maxHeartbeats 1000000 in
theorem part_any {B : Nat} {X : Sa} {S : St} {w : World} (h : Sbox w B X S) (hT : Tabb w) (hBs : Base S) (i : Nat) (hi : i < S.phases.length) :
    Calls Tryd.prog 105 #[.pointer (some ⟨B, 0, none⟩), .int .i64 i] w fun e w' => e = .returned (.int .i64 (partM S i)) ∧ Kept w w' none := by
  have HB := Hid.mk' h
  have HT := Hid.mk' hT
  have HS := Hid.mk' hBs
  have hp8 := hBs.sh.ok.np
  have hmn := hBs.mn i hi
  have hli := hBs.lies i ((i + 1) % S.phases.length)
  have c4 := h.c4
  obtain ⟨bp, op, ep, kp, kp1, _, _, _⟩ := h.sat.phAt hi
  rw [ep] at c4
  have f4 : ∀ w', Kept w w' none → w'.cell? ⟨B, 4, none⟩ = some (.slice (some ⟨bp, op, none⟩) S.phases.length X.pc) := fun w' k => cell_kept0 c4 k
  have f1 : ∀ w', Kept w w' none → w'.cell? ⟨bp, op + i * 5 + 1, none⟩ = some (.int .i64 (S.ph i).min) := fun w' k => cell_kept0 kp1 k
  have hmod : ((i : Int) + 1) % (S.phases.length : Int) = (((i + 1) % S.phases.length : Nat) : Int) := by simp
  have hml : (i + 1) % S.phases.length < S.phases.length := Nat.mod_lt _ (by omega)
  have hwr : (IntKind.i64.wrap ((i : Int) + 1)).tmod (S.phases.length : Int) = (((i + 1) % S.phases.length : Nat) : Int) := by
    rw [wrap_in (by omega) (by omega), Int.tmod_eq_emod_of_nonneg (by omega)]
    exact hmod
  have hsum : IntKind.i64.wrap ((S.ph i).min + liesM S i ((i + 1) % S.phases.length)) = partM S i := by
    rw [wrap_in (by omega) (by omega)]; rfl
  have HE : Hid (partM S i = (S.ph i).min + liesM S i ((i + 1) % S.phases.length)) := rfl
  generalize hj : (i + 1) % S.phases.length = j at *
  have HJ := Hid.mk' hj
  have hnz : ((S.phases.length : Int) == 0) = false := by rw [beq_eq_false_iff_ne]; omega
  have hnz1 : ¬ (S.phases.length : Int) = 0 := by omega
  have hnz2 : ¬ S.phases = [] := by intro e; rw [e] at hp8; simp at hp8
  have HW := Hid.mk' hsum
  clear h hT hBs hj ep kp hsum
  go_enter Tryd.func105, Tryd.ntmps105
  go_wp2
  go_region_held (fun w' => Kept w w' none)
    ((first | exact Kept.refl _ _ | exact Kept.drew _ _ | assumption | exact Kept.tr (by assumption) (Kept.drew _ _)))
    ((go_at_call 115; refine (lies_any (HB.out.kept (by assumption)) (HT.out.kept (by assumption)) HS.out.sh i j hi hml).mono ?_; rintro e wS ⟨rfl, hkS⟩; have hKS : Kept w wS none := Kept.tr (by assumption) hkS))
  all_goals
    go_wp2
    go_ret
    exact ⟨ret_int HW.out, by assumption⟩

end Go.Proofs.YtoahbpdgbiachaaDoor

/-
  THE CONTRACTS of cyclesHold, fits, planFits.
-/
namespace Go.Proofs.YtoahbpdgbiachaaDoor
open Go.RowKit Go.Lib Go.Deep
set_option linter.unusedVariables false
set_option linter.unusedSimpArgs false

set_option maxRecDepth 100000 in
set_option maxHeartbeats 1000000 in
theorem cycles_any {B : Nat} {X : Sa} {S : St} {w : World} (h : Sbox w B X S) (hT : Tabb w) (hBs : Base S) (z : Int) :
    Calls Tryd.prog 78 #[.pointer (some ⟨B, 0, none⟩), .int .i64 z] w fun e w' => e = .returned (.bool (cyclesB S)) ∧ Kept w w' none := by
  have HB := Hid.mk' h
  have HT := Hid.mk' hT
  have HS := Hid.mk' hBs
  have hp8 := hBs.sh.ok.np
  have c4 := h.c4
  clear h hT hBs
  go_enter Tryd.func78, Tryd.ntmps78
  go_wp2
  go_loopw [5, 12] (fun s i wr => ∃ k : Nat, k ≤ S.phases.length ∧ i = .int .i64 k ∧ s = .int .i64 (roundN S k) ∧ Kept w wr none) (fun _ i _ => S.phases.length - (intOf i).toNat)
  case atStart => exact ⟨0, Nat.zero_le _, rfl, rfl, Kept.refl _ _⟩
  case round =>
    obtain ⟨k, hk, rfl, rfl, hkw⟩ := hrel
    have hr := HS.out.round k hk
    by_cases hlt : k < S.phases.length
    · have hp := HS.out.part hlt
      have HR : Hid (roundN S (k + 1) = roundN S k + partM S k) := rfl
      generalize roundN S k = R at *
      go_wp2_with (go_at_call 105; refine (part_any (HB.out.kept hkw) (HT.out.kept hkw) HS.out k hlt).mono ?_; rintro e w2 ⟨rfl, hk2⟩)
      go_roundw
      case rel => exact ⟨k + 1, by omega, by go_num, by rw [HR.out], hkw.tr hk2⟩
      case measure => simp [intOf]; omega
    · have hkk : k = S.phases.length := by omega
      subst hkk
      have c9 := (HB.out.kept hkw).c9
      have c10 := (HB.out.kept hkw).c10
      have hb0 := block_lt c9
      have HR : Hid (roundM S = roundN S S.phases.length) := rfl
      generalize roundN S S.phases.length = R at *
      cases h1 : inB S.low R 1048576 with
      | false =>
        have HE : Hid (cyclesB S = false) := by show cyclesB S = false; unfold cyclesB; rw [HR.out, h1]; rfl
        go_wp2
        go_quiet ((go_at_call 100; exact Calls.quiet_of_same (within_is _ _ _ _ _ h1)))
        go_wp2
        go_ret
        exact ⟨by rw [HE.out]; rfl, hkw.tr (Kept.drewN _ _ _)⟩
      | true =>
        have HE : Hid (cyclesB S = inB S.high S.low 1048576) := by show cyclesB S = _; unfold cyclesB; rw [HR.out, h1]; rfl
        go_wp2
        go_quiet ((first | (go_at_call_of 100 S.high; exact Calls.quiet_of_same (within_any _ _ _ _)) | (go_at_call 100; exact Calls.quiet_of_same (within_is _ _ _ _ _ h1))))
        go_wp2
        go_ret
        exact ⟨by rw [HE.out]; rfl, hkw.tr (Kept.drewN _ _ _)⟩

theorem drop_getD {l : List Int} {k : Nat} (h : k < l.length) : l.drop k = l.getD k 0 :: l.drop (k + 1) := by
  rw [List.drop_eq_getElem_cons h]; simp [h]
theorem box3 (w : World) (a b c : Value) (t : TypeId) : (w.alloc (.cells #[a, b, c] t)).cell? ⟨w.heap.size, 0, none⟩ = some a ∧ (w.alloc (.cells #[a, b, c] t)).cell? ⟨w.heap.size, 1, none⟩ = some b ∧ (w.alloc (.cells #[a, b, c] t)).cell? ⟨w.heap.size, 2, none⟩ = some c :=
  ⟨by simp [World.cell?_alloc_mark], by simp [World.cell?_alloc_mark], by simp [World.cell?_alloc_mark]⟩
/-- What is asked of Low and High. -/
structure Span (S : St) : Prop where
  base : Base S
  low : 0 ≤ S.low
  high : S.high ≤ 1048576
set_option maxRecDepth 100000 in
set_option maxHeartbeats 2000000 in
theorem fits_any {B : Nat} {X : Sa} {S : St} {w : World} (h : Sbox w B X S) (hT : Tabb w) (hSp : Span S) (p : Pl) (a : Option Addr) (c : Nat) (hI : Ints w a p.splits.length c p.splits) :
    Calls Tryd.prog 106 #[.pointer (some ⟨B, 0, none⟩), planV p a c] w fun e w' => e = .returned (.bool (planB S p)) ∧ Kept w w' none := by
  have HB := Hid.mk' h
  have HT := Hid.mk' hT
  have HS := Hid.mk' hSp
  have HI := Hid.mk' hI
  have hp8 := hSp.base.sh.ok.np
  have hlow := hSp.low
  have hhigh := hSp.high
  have hBl := h.lt
  have c9 := h.c9
  have c10 := h.c10
  have c4 := h.c4
  have hlm : p.splits.length ≤ 9223372036854775807 := by have := hI.cap.room; have := hI.cap.max; omega
  have hkA : Kept w (w.alloc (.cells #[.int .i64 p.cycle, .int .i64 p.offset, .slice a p.splits.length c] 113)) none := Kept.alloc _ _ _ _ _
  have HK := Hid.mk' hkA
  clear h hT hSp hI hkA
  cases h1 : inB p.cycle S.low S.high with
  | false =>
    have HE : Hid (planB S p = false) := by show planB S p = false; unfold planB; rw [h1]; rfl
    go_enter Tryd.func106, Tryd.ntmps106
    go_wp2
    go_quiet ((go_at_call 100; exact Calls.quiet_of_same (within_is _ _ _ _ _ h1)))
    go_wp2
    go_ret
    exact ⟨by rw [HE.out]; rfl, HK.out.tr (Kept.drewN _ _ _)⟩
  | true =>
    have hcy := inB_iff.1 h1
    have hwr : IntKind.i64.wrap (p.cycle - 1) = p.cycle - 1 := wrap_in (by omega) (by omega)
    cases h2 : inB p.offset 0 (p.cycle - 1) with
    | false =>
      have HE : Hid (planB S p = false) := by show planB S p = false; unfold planB; rw [h1, h2]; rfl
      go_enter Tryd.func106, Tryd.ntmps106
      go_wp2
      go_quiet ((first | (go_at_call_of 100 S.low; exact Calls.quiet_of_same (within_is _ _ _ _ _ h1)) | (go_at_call 100; exact Calls.quiet_of_same (within_is _ _ _ _ _ h2))))
      go_wp2
      go_ret
      exact ⟨by rw [HE.out]; rfl, HK.out.tr (Kept.drewN _ _ _)⟩
    | true =>
      by_cases hl : p.splits.length = S.phases.length
      · have h3 : (((p.splits.length : Nat) : Int) != ((S.phases.length : Nat) : Int)) = false := by rw [hl]; simp
        have HE : Hid (planB S p = splitsB S 0 p.splits p.cycle) := by show planB S p = _; unfold planB; rw [h1, h2, decide_eq_true hl]; rfl
        have HL := Hid.mk' hl
        have hl1 : p.splits.length ≤ S.phases.length := by omega
        have hl2 : S.phases.length ≤ p.splits.length := by omega
        clear hl
        obtain ⟨bi, oi, ei, hbi, hci⟩ := HI.out.at_ (by omega)
        subst ei
        have HC := Hid.mk' hci
        clear hci
        go_enter Tryd.func106, Tryd.ntmps106
        go_wp2
        go_quiet ((first | (go_at_call_of 100 S.low; exact Calls.quiet_of_same (within_is _ _ _ _ _ h1)) | (go_at_call 100; exact Calls.quiet_of_same (within_is _ _ _ _ _ h2))))
        go_wp2
        go_loopw [5, 45] (fun s i wr => ∃ (k : Nat) (left : Int), k ≤ p.splits.length ∧ i = .int .i64 k ∧ s = .int .i64 left ∧ 0 ≤ left ∧ left ≤ 1048576 ∧ splitsB S k (p.splits.drop k) left = splitsB S 0 p.splits p.cycle ∧ Kept w wr none) (fun _ i _ => p.splits.length - (intOf i).toNat)
        case atStart => exact ⟨0, p.cycle, Nat.zero_le _, rfl, rfl, by omega, by omega, rfl, HK.out.tr (Kept.drewN _ _ _)⟩
        case round =>
          obtain ⟨k, left, hk, rfl, rfl, hl0, hl1', hsp, hkw⟩ := hrel
          have HSP := Hid.mk' hsp
          clear hsp
          by_cases hlt : k < p.splits.length
          · have hki := cell_kept0 (HC.out k hlt) hkw
            have hp := HS.out.base.part (i := k) (by omega)
            have hst : splitsB S k (p.splits.drop k) left = (inB (p.splits.getD k 0) (partM S k) left && splitsB S (k + 1) (p.splits.drop (k + 1)) (left - p.splits.getD k 0)) := by rw [drop_getD hlt]; rfl
            have HST := Hid.mk' hst
            clear hst
            generalize hv : p.splits.getD k 0 = v at *
            clear hv
            cases h4 : inB v (partM S k) left with
            | true =>
              have hb := inB_iff.1 h4
              go_wp2_with (first | (go_at_call 105; refine (part_any (HB.out.kept hkw) (HT.out.kept hkw) HS.out.base k (by omega)).mono ?_; rintro e w2 ⟨rfl, hk2⟩) | (go_at_call 100; refine (within_is _ _ _ _ _ h4).mono ?_; rintro e w3 ⟨rfl, rfl⟩))
              go_roundw
              case rel => exact ⟨k + 1, left - v, by omega, by go_num, rfl, by omega, by omega, by rw [← HSP.out, HST.out, h4]; rfl, hkw.tr hk2⟩
              case measure => simp [intOf]; omega
            | false =>
              have HF : Hid (planB S p = false) := by show planB S p = false; rw [HE.out, ← HSP.out, HST.out, h4]; rfl
              go_wp2_with (first | (go_at_call 105; refine (part_any (HB.out.kept hkw) (HT.out.kept hkw) HS.out.base k (by omega)).mono ?_; rintro e w2 ⟨rfl, hk2⟩) | (go_at_call 100; refine (within_is _ _ _ _ _ h4).mono ?_; rintro e w3 ⟨rfl, rfl⟩))
              go_ret
              exact ⟨by rw [HF.out]; rfl, hkw.tr hk2⟩
          · have hkk : k = p.splits.length := by omega
            have HF : Hid (planB S p = (left == 0)) := by
              show planB S p = _
              rw [HE.out, ← HSP.out, hkk, List.drop_length]
              show decide (left = 0) = (left == 0)
              rw [Bool.eq_iff_iff]; simp
            go_wp2
            go_ret
            exact ⟨by rw [HF.out]; rfl, hkw⟩
      · have h3 : (((p.splits.length : Nat) : Int) != ((S.phases.length : Nat) : Int)) = true := by rw [bne_iff_ne]; omega
        have HE : Hid (planB S p = false) := by show planB S p = false; unfold planB; rw [h1, h2, decide_eq_false hl]; rfl
        go_enter Tryd.func106, Tryd.ntmps106
        go_wp2
        go_quiet ((first | (go_at_call_of 100 S.low; exact Calls.quiet_of_same (within_is _ _ _ _ _ h1)) | (go_at_call 100; exact Calls.quiet_of_same (within_is _ _ _ _ _ h2))))
        go_wp2
        go_ret
        exact ⟨by rw [HE.out]; rfl, HK.out.tr (Kept.drewN _ _ _)⟩
set_option maxHeartbeats 1000000 in
theorem planFits_any {B : Nat} {X : Sa} {S : St} {w : World} (h : Sbox w B X S) (hT : Tabb w) (hSp : Span S) (i : Nat) (hi : i < S.plans.length) (hl : S.plans.length ≤ 8) :
    Calls Tryd.prog 79 #[.pointer (some ⟨B, 0, none⟩), .int .i64 i] w fun e w' => e = .returned (.bool (planB S (S.pl i))) ∧ Kept w w' none := by
  have HB := Hid.mk' h
  have HT := Hid.mk' hT
  have HS := Hid.mk' hSp
  have c11 := h.c11
  obtain ⟨b, off, a', c', e, k0, k1, k2, hI⟩ := h.sat.l.at_ hi
  rw [e] at c11
  have HP : Hid (S.pl i = S.plans.getD i q0) := rfl
  generalize S.plans.getD i q0 = P at *
  have HI := Hid.mk' hI
  clear h hT hSp hI e
  go_enter Tryd.func79, Tryd.ntmps79
  go_wp2_with (go_at_call 106; refine (fits_any HB.out HT.out HS.out P a' c' HI.out).mono ?_; rintro e w2 ⟨rfl, hk2⟩)
  go_ret
  exact ⟨by rw [HP.out]; rfl, hk2⟩

end Go.Proofs.YtoahbpdgbiachaaDoor

/-
  THE CONTRACT of site.Check: a list of conditions, asked by a labelled loop.
-/
namespace Go.Proofs.YtoahbpdgbiachaaDoor
open Go.RowKit Go.Lib Go.Deep
set_option linter.unusedVariables false
set_option linter.unusedSimpArgs false

/-- Of which part condition k is asked, and which function asks it. -/
def ofN (k : Nat) : Nat := [0, 0, 1, 1, 1, 2, 0, 3, 0, 4].getD k 0
def fnN (k : Nat) : Nat := [70, 71, 72, 73, 74, 75, 76, 77, 78, 79].getD k 0
def manyN (S : St) (o : Nat) : Nat := [1, S.groups.length, S.phases.length, S.eyes.length, S.plans.length].getD o 0
def condB (S : St) (k i : Nat) : Bool := match k with
  | 0 => countsB S
  | 1 => ownB S
  | 2 => groupB S i
  | 3 => apartB S i
  | 4 => betweenB S i
  | 5 => phaseB S i
  | 6 => servedB S
  | 7 => eyeB S i
  | 8 => cyclesB S
  | _ => planB S (S.pl i)
theorem allB_one (b : Bool) : allB 1 (fun _ => b) = b := by simp [allB]
theorem siteB_eq (S : St) : siteB S = allB 10 (fun k => allB (manyN S (ofN k)) (condB S k)) := by
  have : ∀ f : Nat → Bool, allB 10 f = (f 0 && f 1 && f 2 && f 3 && f 4 && f 5 && f 6 && f 7 && f 8 && f 9) := fun f => by
    simp [allB, List.range, List.range.loop, Bool.and_assoc]
  rw [this]
  show siteB S = (allB 1 (fun _ => countsB S) && allB 1 (fun _ => ownB S) && allB S.groups.length (groupB S) && allB S.groups.length (apartB S) && allB S.groups.length (betweenB S) && allB S.phases.length (phaseB S) && allB 1 (fun _ => servedB S) && allB S.eyes.length (eyeB S) && allB 1 (fun _ => cyclesB S) && allB S.plans.length (fun i => planB S (S.pl i)))
  rw [allB_one, allB_one, allB_one, allB_one]
  rfl
/-- What the first conditions tell. -/
theorem okay_of {S : St} (h : ∀ i, i < manyN S (ofN 0) → condB S 0 i = true) : Okay S := counts_iff.1 (h 0 Nat.zero_lt_one)
theorem shape_of {S : St} (h : ∀ j, j < 6 → ∀ i, i < manyN S (ofN j) → condB S j i = true) : Shape S := by
  have hO := okay_of (h 0 (by omega))
  refine ⟨hO, fun a ha => ?_, fun i hi => ?_⟩
  · have h4 : betweenB S a = true := h 4 (by omega) a ha
    unfold betweenB at h4
    simp only [Bool.and_eq_true, decide_eq_true_eq] at h4
    exact h4.1
  · have h5 : phaseB S i = true := h 5 (by omega) i hi
    unfold phaseB at h5
    simp only [Bool.and_eq_true, decide_eq_true_eq] at h5
    exact h5.1.1.1.1.1.1.2
theorem base_of {S : St} (h : ∀ j, j < 6 → ∀ i, i < manyN S (ofN j) → condB S j i = true) : Base S := by
  have hS := shape_of h
  refine ⟨hS, fun i hi => ?_, fun a b ha hb => ?_⟩
  · have h5 : phaseB S i = true := h 5 (by omega) i hi
    unfold phaseB at h5
    simp only [Bool.and_eq_true, decide_eq_true_eq] at h5
    exact ⟨h5.1.1.1.1.2, h5.1.1.2⟩
  · have h4 : betweenB S a = true := h 4 (by omega) a ha
    unfold betweenB at h4
    simp only [Bool.and_eq_true, decide_eq_true_eq] at h4
    have h6 := allB_iff.1 h4.2 b hb
    unfold betB at h6
    split at h6
    · exact (inB_iff.1 h6).2
    · have := of_decide_eq_true h6
      omega
theorem span_of {S : St} (h : ∀ j, j < 9 → ∀ i, i < manyN S (ofN j) → condB S j i = true) : Span S := by
  have hB := base_of (fun j hj => h j (by omega))
  have h8 : cyclesB S = true := h 8 (by omega) 0 Nat.zero_lt_one
  unfold cyclesB at h8
  simp only [Bool.and_eq_true, inB_iff] at h8
  have := hB.round S.phases.length (Nat.le_refl _)
  unfold roundM at h8
  exact ⟨hB, by omega, by omega⟩
theorem kept_drewn {w w' : World} (h : ∃ m, w' = w.drewN m) : Kept w w' none := by
  obtain ⟨m, rfl⟩ := h
  exact Kept.drewN _ _ _
theorem cond_any {B : Nat} {X : Sa} {S : St} {w : World} (h : Sbox w B X S) (hT : Tabb w) : ∀ (k : Nat) (hk : k < 10) (hpre : ∀ j, j < k → ∀ i, i < manyN S (ofN j) → condB S j i = true) (i : Nat) (hi : i < manyN S (ofN k)),
    Calls Tryd.prog (fnN k) #[.pointer (some ⟨B, 0, none⟩), .int .i64 i] w fun e w' => e = .returned (.bool (condB S k i)) ∧ Kept w w' none
  | 0, _, _, i, _ => (counts_any h i).mono fun e w' ⟨h1, h2⟩ => ⟨h1, by rw [h2]; exact Kept.refl _ _⟩
  | 1, _, _, i, _ => (own_any h i).mono fun e w' ⟨h1, h2⟩ => ⟨h1, by rw [h2]; exact Kept.refl _ _⟩
  | 2, _, hp, i, hi => group_any h i hi (okay_of (hp 0 (by omega))).ng.2
  | 3, _, hp, i, hi => (apart_any h i hi (okay_of (hp 0 (by omega)))).mono fun e w' ⟨h1, h2⟩ => ⟨h1, kept_drewn h2⟩
  | 4, _, hp, i, hi => (between_any h i hi (okay_of (hp 0 (by omega)))).mono fun e w' ⟨h1, h2⟩ => ⟨h1, kept_drewn h2⟩
  | 5, _, hp, i, hi => phase_any h hT (okay_of (hp 0 (by omega))) i hi
  | 6, _, hp, i, hi => served_any h i (okay_of (hp 0 (by omega)))
  | 7, _, hp, i, hi => eye_any h i hi (okay_of (hp 0 (by omega)))
  | 8, _, hp, i, hi => cycles_any h hT (base_of (fun j hj => hp j (by omega))) i
  | 9, _, hp, i, hi => planFits_any h hT (span_of (fun j hj => hp j (by omega))) i hi (okay_of (hp 0 (by omega))).nl
  | k + 10, hk, _, _, _ => absurd hk (by omega)
/-- The list of conditions. -/
structure Conds (w : World) (g : Nat) : Prop where
  lt : g < w.heap.size
  of : ∀ k, k < 10 → w.cell? ⟨g, k * 2, none⟩ = some (.int .u8 (ofN k : Int))
  fn : ∀ k, k < 10 → w.cell? ⟨g, k * 2 + 1, none⟩ = some (.func (.func (fnN k)) #[] #[])
theorem Conds.kept {w w' : World} {g : Nat} (h : Conds w g) (q : Kept w w' none) : Conds w' g :=
  ⟨Nat.lt_of_lt_of_le h.lt q.size, fun k hk => cell_kept0 (h.of k hk) q, fun k hk => cell_kept0 (h.fn k hk) q⟩
set_option maxRecDepth 100000 in
set_option maxHeartbeats 1000000 in
theorem conditions_any (w : World) : Calls Tryd.prog 45 #[] w fun e w' => ∃ g, e = .returned (.slice (some ⟨g, 0, none⟩) 10 10) ∧ Conds w' g ∧ Kept w w' none := by
  go_enter Tryd.func45, Tryd.ntmps45
  go_wp2
  go_ret
  refine ⟨w.heap.size, rfl, ⟨by simp, fun k hk => ?_, fun k hk => ?_⟩, Kept.alloc _ _ _ _ _⟩
  · have : k = 0 ∨ k = 1 ∨ k = 2 ∨ k = 3 ∨ k = 4 ∨ k = 5 ∨ k = 6 ∨ k = 7 ∨ k = 8 ∨ k = 9 := by omega
    rcases this with rfl | rfl | rfl | rfl | rfl | rfl | rfl | rfl | rfl | rfl <;> simp [World.cell?_alloc_mark, ofN]
  · have : k = 0 ∨ k = 1 ∨ k = 2 ∨ k = 3 ∨ k = 4 ∨ k = 5 ∨ k = 6 ∨ k = 7 ∨ k = 8 ∨ k = 9 := by omega
    rcases this with rfl | rfl | rfl | rfl | rfl | rfl | rfl | rfl | rfl | rfl <;> simp [World.cell?_alloc_mark, fnN]
/-- How many parts there are. -/
structure Manys (w : World) (g : Nat) (S : St) : Prop where
  at_ : ∀ o, o < 5 → w.cell? ⟨g, o, none⟩ = some (.int .i64 (manyN S o : Int))
theorem Manys.kept {w w' : World} {g : Nat} {S : St} (h : Manys w g S) (q : Kept w w' none) : Manys w' g S := ⟨fun o ho => cell_kept0 (h.at_ o ho) q⟩
theorem ofN_lt (k : Nat) (h : k < 10) : ofN k < 5 := by
  have : k = 0 ∨ k = 1 ∨ k = 2 ∨ k = 3 ∨ k = 4 ∨ k = 5 ∨ k = 6 ∨ k = 7 ∨ k = 8 ∨ k = 9 := by omega
  rcases this with rfl | rfl | rfl | rfl | rfl | rfl | rfl | rfl | rfl | rfl <;> simp [ofN]
theorem manyN_le {X : Sa} {S : St} {w : World} (h : Sat w X S) (o : Nat) : manyN S o ≤ 9223372036854775807 := by
  have h1 := h.gk
  have h2 := h.pk
  have h3 := h.ek
  have h4 := h.l.cap
  have a1 := h1.room
  have b1 := h1.max
  have a2 := h2.room
  have b2 := h2.max
  have a3 := h3.room
  have b3 := h3.max
  have a4 := h4.room
  have b4 := h4.max
  match o with
  | 0 => show 1 ≤ _; omega
  | 1 => show S.groups.length ≤ _; omega
  | 2 => show S.phases.length ≤ _; omega
  | 3 => show S.eyes.length ≤ _; omega
  | 4 => show S.plans.length ≤ _; omega
  | o + 5 => show 0 ≤ _; omega
theorem call_in {P : Program} {f : FuncId} {fn : Func} {c : Code} (hf : P.funcs[f]? = some fn) (hn : (fn.name == "runtime.NumGoroutine") = false) (hb : fn.body = some c) (args : Array Value) (w : World) : (callFunc f args).run P w = .ok (.enter f args) w := by
  have h1 : fn.name ≠ "runtime.NumGoroutine" := by simpa using hn
  simp [callFunc, hf, h1, hb]
theorem enter_n (k : Nat) (hk : k < 10) (args : Array Value) (w : World) : (callFunc (fnN k) args).run Tryd.prog w = .ok (.enter (fnN k) args) w := by
  have : k = 0 ∨ k = 1 ∨ k = 2 ∨ k = 3 ∨ k = 4 ∨ k = 5 ∨ k = 6 ∨ k = 7 ∨ k = 8 ∨ k = 9 := by omega
  rcases this with rfl | rfl | rfl | rfl | rfl | rfl | rfl | rfl | rfl | rfl
  · exact call_in Tryd.func70 (by kernel_rfl) rfl args w
  · exact call_in Tryd.func71 (by kernel_rfl) rfl args w
  · exact call_in Tryd.func72 (by kernel_rfl) rfl args w
  · exact call_in Tryd.func73 (by kernel_rfl) rfl args w
  · exact call_in Tryd.func74 (by kernel_rfl) rfl args w
  · exact call_in Tryd.func75 (by kernel_rfl) rfl args w
  · exact call_in Tryd.func76 (by kernel_rfl) rfl args w
  · exact call_in Tryd.func77 (by kernel_rfl) rfl args w
  · exact call_in Tryd.func78 (by kernel_rfl) rfl args w
  · exact call_in Tryd.func79 (by kernel_rfl) rfl args w
/-- Check's answer. -/
def checkE (S : St) : Int := if siteB S = true then 0 else 50
set_option maxRecDepth 100000 in
set_option maxHeartbeats 2000000 in
theorem check_any {X : Sa} {S : St} {w : World} (h : Sat w X S) (hT : Tabb w) : Calls Tryd.prog 24 #[siteV X S] w fun e w' => e = .returned (.int .i64 (checkE S)) ∧ Kept w w' none := by
  have hsb := sbox_alloc h 48
  have HML := Hid.mk' (manyN_le h)
  have hl0 := HML.out 1
  have hl1 := HML.out 2
  have hl2 := HML.out 3
  have hl3 := HML.out 4
  have hl0' : S.groups.length ≤ 9223372036854775807 := hl0
  have hl1' : S.phases.length ≤ 9223372036854775807 := hl1
  have hl2' : S.eyes.length ≤ 9223372036854775807 := hl2
  have hl3' : S.plans.length ≤ 9223372036854775807 := hl3
  clear hl0 hl1 hl2 hl3
  have HSB := Hid.mk' hsb
  have HT := Hid.mk' hT
  clear h hT hsb
  go_enter Tryd.func24, Tryd.ntmps24
  go_wp2
  go_step3
  go_wp2
  go_step3
  go_wp2_with (go_at_call 45; refine (conditions_any _).mono ?_; rintro e W0 ⟨g, rfl, hC, hk0⟩)
  have hM0 : Manys (((w.alloc (.cells #[.int .i64 S.id, .slice X.g S.groups.length X.gc, .slice X.a S.apart.length X.ac, .slice X.b S.between.length X.bc, .slice X.p S.phases.length X.pc, .slice X.e S.eyes.length X.ec, .int .i64 S.watch, .int .i64 S.feed, .int .i64 S.heal, .int .i64 S.low, .int .i64 S.high, .slice X.l S.plans.length X.lc] 48)).alloc (.cells #[.int .i64 1, .int .i64 (S.groups.length : Int), .int .i64 (S.phases.length : Int), .int .i64 (S.eyes.length : Int), .int .i64 (S.plans.length : Int)] 91))) (w.heap.size + 1) S := by
    refine ⟨fun o ho => ?_⟩
    have : o = 0 ∨ o = 1 ∨ o = 2 ∨ o = 3 ∨ o = 4 := by omega
    rcases this with rfl | rfl | rfl | rfl | rfl <;> go_simp <;> rfl
  have hM := hM0.kept hk0
  have hS := (HSB.out.kept (Kept.alloc _ #[.int .i64 1, .int .i64 (S.groups.length : Int), .int .i64 (S.phases.length : Int), .int .i64 (S.eyes.length : Int), .int .i64 (S.plans.length : Int)] 91 (0, 0) none)).kept hk0
  have hkw : Kept w W0 none := ((Kept.alloc w _ _ _ _).tr (Kept.alloc _ #[.int .i64 1, .int .i64 (S.groups.length : Int), .int .i64 (S.phases.length : Int), .int .i64 (S.eyes.length : Int), .int .i64 (S.plans.length : Int)] 91 (0, 0) none)).tr hk0
  have HM := Hid.mk' hM
  have HS := Hid.mk' hS
  have HC := Hid.mk' hC
  have HKW := Hid.mk' hkw
  clear hM0 hM hS hC hkw hk0
  go_loopw [4, 23] (fun ev i wr => ∃ k : Nat, k ≤ 10 ∧ i = .int .i64 k ∧ ev = .int .i64 0 ∧ (∀ j, j < k → ∀ i, i < manyN S (ofN j) → condB S j i = true) ∧ Kept W0 wr none) (fun _ i _ => 10 - (intOf i).toNat)
  case atStart => exact ⟨0, by omega, rfl, rfl, fun j hj => by omega, Kept.refl _ _⟩
  case round =>
    obtain ⟨k, hk, rfl, rfl, hpre, hkr⟩ := hrel
    have HPRE := Hid.mk' hpre
    clear hpre
    by_cases hlt : k < 10
    · have ko := (HC.out.kept hkr).of k hlt
      have kf := (HC.out.kept hkr).fn k hlt
      have hog := ofN_lt k hlt
      have km := (HM.out.kept hkr).at_ (ofN k) hog
      have hmm := HML.out (ofN k)
      have hbl := block_lt km
      generalize hq : ofN k = q at *
      have HQ := Hid.mk' hq
      clear hq
      generalize hn : manyN S q = n at *
      have HN := Hid.mk' hn
      clear hn
      have hen := enter_n k hlt
      go_wp2
      have hkA : Kept W0 (wr.alloc (.cells #[.int .u8 (q : Int), .func (.func (fnN k)) #[] #[]] 97)) none := hkr.tr (Kept.alloc _ _ _ _ _)
      have cA := World.cell?_alloc_mark wr #[.int .u8 (q : Int), .func (.func (fnN k)) #[] #[]] 97 (0, 0) 1
      generalize hW1 : wr.alloc (.cells #[.int .u8 (q : Int), .func (.func (fnN k)) #[] #[]] 97) = W1 at *
      have hca : W1.cell? ⟨wr.heap.size, 1, none⟩ = some (.func (.func (fnN k)) #[] #[]) := by rw [cA]; rfl
      clear hW1 cA
      go_loopw [4, 31] (fun ev i w2 => ∃ j : Nat, j ≤ n ∧ i = .int .i64 j ∧ ev = .int .i64 0 ∧ (∀ i, i < j → condB S k i = true) ∧ Kept W1 w2 none) (fun _ i _ => n - (intOf i).toNat)
      case atStart => exact ⟨0, Nat.zero_le _, rfl, rfl, fun i hi => by omega, Kept.refl _ _⟩
      case round =>
        obtain ⟨j, hj, rfl, rfl, hin, hk2⟩ := hrel
        have HIN := Hid.mk' hin
        clear hin
        by_cases hjn : j < n
        · have hcb := cell_kept0 hca hk2
          have hkk := hkA.tr hk2
          have hjm : j < manyN S (ofN k) := by rw [HQ.out, HN.out]; exact hjn
          cases hb : condB S k j with
          | true =>
            go_wp2_with (refine (cond_any (HS.out.kept hkk) (HT.out.kept (HKW.out.tr hkk)) k hlt HPRE.out j hjm).mono ?_; rintro e w3 ⟨rfl, hk3⟩; rw [hb])
            go_roundw
            case rel => exact ⟨j + 1, by omega, by go_num, rfl, fun i hi => (by
              by_cases e : i = j
              · subst e; exact hb
              · exact HIN.out i (by omega)), hk2.tr hk3⟩
            case measure => simp [intOf]; omega
          | false =>
            have HE : Hid (checkE S = 50) := by
              show checkE S = 50
              have : siteB S = false := by rw [siteB_eq]; exact allB_no hlt (allB_no hjm hb)
              unfold checkE; rw [this]; rfl
            go_wp2_with (refine (cond_any (HS.out.kept hkk) (HT.out.kept (HKW.out.tr hkk)) k hlt HPRE.out j hjm).mono ?_; rintro e w3 ⟨rfl, hk3⟩; rw [hb])
            try rw [Exit.noGoto_ret]
            go_ret
            exact ⟨by rw [HE.out]; rfl, (HKW.out.tr hkk).tr hk3⟩
        · have hjj : j = n := by omega
          go_wp2
          go_roundw
          case rel => exact ⟨k + 1, by omega, by go_num, rfl, fun j' hj' => (by
            by_cases e : j' = k
            · subst e
              intro i hi
              rw [HQ.out, HN.out] at hi
              exact HIN.out i (by omega)
            · exact HPRE.out j' (by omega)), hkA.tr hk2⟩
          case measure => simp [intOf]; omega
    · have hkk : k = 10 := by omega
      have HE : Hid (checkE S = 0) := by
        show checkE S = 0
        have : siteB S = true := by rw [siteB_eq]; exact allB_iff.2 (fun j hj => allB_iff.2 (HPRE.out j (by omega)))
        unfold checkE; rw [this]; rfl
      go_wp2
      try rw [Exit.noGoto_ret]
      go_ret
      exact ⟨by rw [HE.out]; rfl, HKW.out.tr hkr⟩

end Go.Proofs.YtoahbpdgbiachaaDoor

/-
  THE CONTRACTS of what a site is asked: Apart, Between, Worst, Clear, Plan.
-/
namespace Go.Proofs.YtoahbpdgbiachaaDoor
open Go.RowKit Go.Lib Go.Deep
set_option linter.unusedVariables false
set_option linter.unusedSimpArgs false

theorem all_of {S : St} (h : siteB S = true) : ∀ j, j < 10 → ∀ i, i < manyN S (ofN j) → condB S j i = true := fun j hj => by
  rw [siteB_eq] at h
  exact allB_iff.1 (allB_iff.1 h j hj)
theorem span_may {S : St} (h : siteB S = true) : Span S := span_of (fun j hj => all_of h j (by omega))
theorem checkE_yes {S : St} (h : siteB S = true) : checkE S = 0 := by unfold checkE; rw [if_pos h]
theorem checkE_no {S : St} (h : siteB S = false) : checkE S = 50 := by unfold checkE; rw [if_neg (by rw [h]; decide)]
def pairE (S : St) (a b : Int) (n : Nat) : Int := if siteB S = true then (if (inB a 0 ((n : Int) - 1) && inB b 0 ((n : Int) - 1)) = true then 0 else 2) else 50
theorem pairE_yes {S : St} (hs : siteB S = true) {a b n : Nat} (ha : a < n) (hb : b < n) : pairE S a b n = 0 := by
  unfold pairE
  rw [if_pos hs, if_pos]
  rw [Bool.and_eq_true, inB_iff, inB_iff]
  omega
theorem pairE_no {S : St} {a b : Int} {n : Nat} (hE : pairE S a b n = 0) : siteB S = true ∧ (∃ a' : Nat, a = a' ∧ a' < n) ∧ (∃ b' : Nat, b = b' ∧ b' < n) := by
  unfold pairE at hE
  split at hE
  · rename_i hs
    split at hE
    · rename_i hp
      rw [Bool.and_eq_true, inB_iff, inB_iff] at hp
      exact ⟨hs, ⟨a.toNat, by omega, by omega⟩, ⟨b.toNat, by omega, by omega⟩⟩
    · cases hE
  · cases hE
end Go.Proofs.YtoahbpdgbiachaaDoor

/-
  THE CONTRACTS of Worst and Plan.
-/
namespace Go.Proofs.YtoahbpdgbiachaaDoor
open Go.RowKit Go.Lib Go.Deep
set_option linter.unusedVariables false
set_option linter.unusedSimpArgs false

/-- The greatest of a list that has some. -/
def topL : List Int → Int
  | [] => 0
  | x :: l => l.foldl max x
theorem fold_max (l : List Int) : ∀ x, l.foldl max x = max x (l.foldl max x) ∧ (l.foldl max x = x ∨ l.foldl max x ∈ l) ∧ ∀ y ∈ l, y ≤ l.foldl max x := by
  induction l with
  | nil => intro x; simp
  | cons y l ih =>
    intro x
    obtain ⟨h1, h2, h3⟩ := ih (max x y)
    rw [List.foldl_cons]
    refine ⟨by omega, ?_, fun z hz => ?_⟩
    · rcases h2 with h2 | h2
      · rw [h2]
        rcases (show max x y = x ∨ max x y = y by omega) with e | e
        · exact .inl e
        · rw [e]; exact .inr (List.mem_cons_self ..)
      · exact .inr (List.mem_cons_of_mem _ h2)
    · rcases List.mem_cons.1 hz with rfl | hz
      · omega
      · exact h3 z hz
theorem topL_mem {l : List Int} (h : l ≠ []) : topL l ∈ l ∧ ∀ y ∈ l, y ≤ topL l := by
  cases l with
  | nil => exact absurd rfl h
  | cons x l =>
    obtain ⟨h1, h2, h3⟩ := fold_max l x
    show l.foldl max x ∈ x :: l ∧ _
    refine ⟨?_, fun y hy => ?_⟩
    · rcases h2 with h2 | h2
      · rw [h2]; exact List.mem_cons_self ..
      · exact List.mem_cons_of_mem _ h2
    · show y ≤ l.foldl max x
      rcases List.mem_cons.1 hy with rfl | hy
      · omega
      · exact h3 y hy
theorem fold_take {l : List Int} {x : Int} {k : Nat} (h : k < l.length) : (l.take (k + 1)).foldl max x = max ((l.take k).foldl max x) (l.getD k 0) := by
  rw [List.take_succ_eq_append_getElem h, List.foldl_append]
  simp [h]

def worstM (S : St) : Int := mostL S.between.flatten
theorem worst_fold {S : St} (h : ∀ l ∈ S.between, l ≠ []) : mostL (S.between.map topL) = worstM S := by
  have h1 := mostL_is (S.between.map topL)
  have h2 := mostL_is S.between.flatten
  have a1 : mostL (S.between.map topL) ≤ worstM S := h1.le h2.1 (fun x hx => by
    simp only [List.mem_map] at hx
    obtain ⟨l, hl, rfl⟩ := hx
    exact h2.2.2 _ (List.mem_flatten.2 ⟨l, hl, (topL_mem (h l hl)).1⟩))
  have a2 : worstM S ≤ mostL (S.between.map topL) := h2.le h1.1 (fun x hx => by
    obtain ⟨l, hl, hx⟩ := List.mem_flatten.1 hx
    have h3 := (topL_mem (h l hl)).2 x hx
    have h4 := h1.2.2 (topL l) (List.mem_map.2 ⟨l, hl, rfl⟩)
    omega)
  omega
end Go.Proofs.YtoahbpdgbiachaaDoor

