import Derived.Test.YtfhmfanmnhclfaaDoorP6
import Derived.Deep.RegionHeld2
namespace Go.Proofs.YtfhmfanmnhclfaaDoor
set_option linter.unusedVariables false
set_option linter.unusedSimpArgs false
section
open Go.RowKit Go.Lib Go.Deep Go.Shelf
attribute [local go_sem] Oper.semAt_some

/-- Minima of some groups. -/
def minsL (S : St) (pre : List Nat) : List Int := pre.map fun a => (S.gr a).min
theorem minsL_snoc (S : St) (pre : List Nat) (a : Nat) : minsL S (pre ++ [a]) = minsL S pre ++ [(S.gr a).min] := by simp [minsL]
theorem mostL_le : ∀ (l : List Int) (m : Int), mostL l ≤ m ↔ 0 ≤ m ∧ ∀ x ∈ l, x ≤ m
  | [], m => by simp [mostL]
  | y :: l, m => by
    have := mostL_le l m
    rw [mostL]
    constructor
    · intro h
      have h2 := this.1 (by omega)
      exact ⟨h2.1, fun x hx => by
        rcases List.mem_cons.1 hx with rfl | hx
        · omega
        · exact h2.2 x hx⟩
    · rintro ⟨h1, h2⟩
      have h3 := this.2 ⟨h1, fun x hx => h2 x (List.mem_cons_of_mem _ hx)⟩
      have h4 := h2 y (List.mem_cons_self ..)
      omega
theorem bit_lim {G n j : Nat} (h : G < 2 ^ n) (hj : G.testBit j = true) : j < n := by
  by_cases hh : j < n
  · exact hh
  · have := Nat.testBit_lt_two_pow (Nat.lt_of_lt_of_le h (Nat.pow_le_pow_right (n := 2) (by omega) (show n ≤ j by omega)))
    rw [this] at hj; cases hj
theorem least_iff {S : St} {G : Nat} {m : Int} (hG : G < 2 ^ S.groups.length) (hl : S.groups.length ≤ 16) : (decide (0 ≤ m) && leastB S G m) = decide (mostL (minsL S (memb G)) ≤ m) := by
  rw [Bool.eq_iff_iff]
  simp only [Bool.and_eq_true, decide_eq_true_eq, mostL_le, leastB, allB_iff, Bool.or_eq_true, Bool.not_eq_true']
  refine and_congr_right fun h0 => ?_
  constructor
  · intro h x hx
    simp only [minsL, List.mem_map] at hx
    obtain ⟨a, ha, rfl⟩ := hx
    have h2 := mem_memb.1 ha
    rcases h a (bit_lim hG h2.2) with h3 | h3
    · rw [h2.2] at h3; cases h3
    · exact h3
  · intro h a ha
    cases hb : G.testBit a with
    | false => exact .inl rfl
    | true => exact .inr (h _ (by simp only [minsL, List.mem_map]; exact ⟨a, mem_memb.2 ⟨by omega, hb⟩, rfl⟩))
theorem mate_iff {S : St} {G : Nat} (hG : G < 2 ^ S.groups.length) (hl : S.groups.length ≤ 16) : mateB S G = true ↔ ∀ a ∈ memb G, S.ap a &&& G = 0 := by
  simp only [mateB, allB_iff, Bool.or_eq_true, Bool.not_eq_true', decide_eq_true_eq]
  constructor
  · intro h a ha
    have h2 := mem_memb.1 ha
    rcases h a (bit_lim hG h2.2) with h3 | h3
    · rw [h2.2] at h3; cases h3
    · exact h3
  · intro h a ha
    cases hb : G.testBit a with
    | false => exact .inl rfl
    | true => exact .inr (h a (mem_memb.2 ⟨by omega, hb⟩))
theorem zero_and {x y : Nat} (hx : x < 4294967296) (hy : y < 4294967296) : (bits .and .u32 (x : Int) (y : Int) != 0) = !decide (x &&& y = 0) := by
  rw [u32_and_nat x y hx hy]
  by_cases h : x &&& y = 0
  · rw [h]; rfl
  · rw [decide_eq_false h]
    rw [Bool.not_false, bne_iff_ne]
    omega
/-- The cells of a phase in a block of the call's own. -/
abbrev Pbox (W : World) (b : Nat) (p : Ph) : Prop := W.cell? ⟨b, 0, none⟩ = some (.int .u32 (p.groups : Int)) ∧ W.cell? ⟨b, 1, none⟩ = some (.int .i64 p.min) ∧ W.cell? ⟨b, 2, none⟩ = some (.int .i64 p.max) ∧ W.cell? ⟨b, 3, none⟩ = some (.int .i64 p.gap)
theorem pbox_own {α : Type} (b : Nat) (p : Ph) : Own (fun (_ : α) W => Pbox W b p) := fun s A B row hs hg hr =>
  ⟨cell_kept hs.1 hg hr, cell_kept hs.2.1 hg hr, cell_kept hs.2.2.1 hg hr, cell_kept hs.2.2.2 hg hr⟩
theorem Pbox.alloc {W : World} {b : Nat} {p : Ph} (h : Pbox W b p) (o : Obj) : Pbox (W.alloc o) b p := by
  have hb := block_lt h.1
  exact ⟨(World.cell?_alloc_lt _ _ ⟨b, 0, none⟩ hb).trans h.1, (World.cell?_alloc_lt _ _ ⟨b, 1, none⟩ hb).trans h.2.1, (World.cell?_alloc_lt _ _ ⟨b, 2, none⟩ hb).trans h.2.2.1, (World.cell?_alloc_lt _ _ ⟨b, 3, none⟩ hb).trans h.2.2.2⟩
theorem Pbox.other {W : World} {b c : Nat} {p : Ph} (h : Pbox W b p) (hne : c ≠ b) (v : Value) : Pbox (W.setCell ⟨c, 0, none⟩ v) b p :=
  ⟨(World.cell?_setCell_far _ _ _ _ hne).trans h.1, (World.cell?_setCell_far _ _ _ _ hne).trans h.2.1, (World.cell?_setCell_far _ _ _ _ hne).trans h.2.2.1, (World.cell?_setCell_far _ _ _ _ hne).trans h.2.2.2⟩

set_option maxRecDepth 100000 in
set_option maxHeartbeats 2000000 in
theorem phase_none {B : Nat} {X : Sa} {S : St} {w : World} (h : Sbox w B X S) (hO : Okay S) (i : Nat) (hi : i < S.phases.length) (hz : (S.ph i).groups = 0 ∨ ((S.ph i).groups ≠ 0 ∧ ¬ (S.ph i).groups < 2 ^ S.groups.length)) :
    Calls Tryd.prog 71 #[.pointer (some ⟨B, 0, none⟩), .int .i64 i] w fun e w' => e = .returned (.bool (phaseB S i)) ∧ Kept w w' none := by
  have HB := Hid.mk' h
  have hBl := h.lt
  have hp8 := hO.np
  have hg16 := hO.ng.2
  have c4 := h.c4
  have hG := h.sat.phr i
  obtain ⟨bp, op, ep, kp, kp1, kp2, kp3, kp4⟩ := h.sat.phAt hi
  rw [ep] at c4
  have hbp : bp < w.heap.size := block_lt kp
  have hB1 : B < w.heap.size + 1 := by omega
  have hp1 : bp < w.heap.size + 1 := by omega
  have hB2 : B < w.heap.size + 1 + 1 := by omega
  have hpl : 2 ^ S.groups.length - 1 < 4294967296 := by have := pow_lt32 (i := S.groups.length) (by omega); omega
  have hans : phaseB S i = false := by
    rcases hz with hz | ⟨_, hz⟩ <;> simp [phaseB, hz]
  have HA := Hid.mk' hans
  have hkA : Kept w (((w.alloc (.cells #[.pointer (some ⟨B, 0, none⟩)] 72)).alloc (.cells #[.bool false] 4)).alloc (.cells #[.int .u32 ((S.ph i).groups : Int), .int .i64 (S.ph i).min, .int .i64 (S.ph i).max, .int .i64 (S.ph i).gap, .bool (S.ph i).always] 80)) none := (((Kept.alloc _ _ _ _ _ : Kept w _ none).tr (Kept.alloc _ _ _ _ _)).tr (Kept.alloc _ _ _ _ _))
  have HK := Hid.mk' hkA
  clear h hans hkA
  rcases hz with hz | ⟨hz0, hz⟩
  · have hz1 : (((S.ph i).groups : Int) == 0) = true := by rw [hz]; rfl
    clear hz
    go_enter Tryd.func71, Tryd.ntmps71
    go_wp2
    go_quiet (fail)
    go_wp2
    exact bodyPost_ret (v := .bool false) (by simp [results, Tryd.results71, go_sem]) rfl ⟨by rw [HA.out], (HK.out.tr (Kept.drewN _ _ _)).setNew (by simp) _⟩
  · have hz1 : (((S.ph i).groups : Int) == 0) = false := by rw [beq_eq_false_iff_ne]; omega
    have han : (bits .andNot .u32 ((S.ph i).groups : Int) ((2 ^ S.groups.length - 1 : Nat) : Int) != 0) = true := by
      rw [u32_andNot_nat _ _ hG hpl, bne_iff_ne]
      intro e
      exact hz ((low_andn _ _ hG (by omega)).1 (by omega))
    have hkB : ∀ m, Kept w ((((w.alloc (.cells #[.pointer (some ⟨B, 0, none⟩)] 72)).alloc (.cells #[.bool false] 4)).alloc (.cells #[.int .u32 ((S.ph i).groups : Int), .int .i64 (S.ph i).min, .int .i64 (S.ph i).max, .int .i64 (S.ph i).gap, .bool (S.ph i).always] 80)).drewN m) none := fun m => HK.out.tr (Kept.drewN _ _ _)
    have HKB := Hid.mk' hkB
    clear hz hz0 hkB
    go_enter Tryd.func71, Tryd.ntmps71
    go_wp2
    go_quiet ((go_at_call 102; exact Calls.quiet_of_same (allGroups_any (HB.out.kept (HKB.out _)) hg16)))
    go_wp2
    exact bodyPost_ret (v := .bool false) (by simp [results, Tryd.results71, go_sem]) rfl ⟨by rw [HA.out], (HK.out.tr (Kept.drewN _ _ _)).setNew (by simp) _⟩

set_option maxRecDepth 100000 in
set_option maxHeartbeats 4000000 in
theorem phase_some {B : Nat} {X : Sa} {S : St} {w : World} (h : Sbox w B X S) (hT : Tabb w) (hO : Okay S) (i : Nat) (hi : i < S.phases.length) (hz : (S.ph i).groups ≠ 0) (hlow : (S.ph i).groups < 2 ^ S.groups.length) :
    Calls Tryd.prog 71 #[.pointer (some ⟨B, 0, none⟩), .int .i64 i] w fun e w' => e = .returned (.bool (phaseB S i)) ∧ Kept w w' none := by
  refine (callsIn_wide (n := 8)).1 ?_
  have HB := Hid.mk' h
  have HTb := Hid.mk' hT
  have hBl := h.lt
  have hp8 := hO.np
  have hg16 := hO.ng
  have hna := hO.na
  have HNA := Hid.mk' hna
  have c4 := h.c4
  have hG := h.sat.phr i
  obtain ⟨bp, op, ep, kp, kp1, kp2, kp3, kp4⟩ := h.sat.phAt hi
  rw [ep] at c4
  have hbp : bp < w.heap.size := block_lt kp
  have hB1 : B < w.heap.size + 1 := by omega
  have hp1 : bp < w.heap.size + 1 := by omega
  have hT1 := hT.lt
  have hz1 : (((S.ph i).groups : Int) == 0) = false := by rw [beq_eq_false_iff_ne]; omega
  have hpl : 2 ^ S.groups.length - 1 < 4294967296 := by have := pow_lt32 (i := S.groups.length) (by omega); omega
  have han : bits .andNot .u32 ((S.ph i).groups : Int) ((2 ^ S.groups.length - 1 : Nat) : Int) = 0 := by
    rw [u32_andNot_nat _ _ hG hpl, (low_andn _ _ hG (by omega)).2 hlow]; rfl
  have HLOW := Hid.mk' hlow
  have HZ := Hid.mk' hz
  clear h hT hO hna hlow hz
  refine callsIn_of_wp_marks Tryd.func71 rfl trivial ?_ rfl
  simp only [Tryd.ntmps71, List.size_toArray, List.length_cons, List.length_nil, Nat.reduceAdd, Nat.reduceSub, Array.replicate_succ, Array.replicate_zero, List.push_toArray, List.append_toArray, List.nil_append, List.cons_append]
  gi_wp2
  have hSb := HB.out.kept (((((Kept.alloc w #[.pointer (some ⟨B, 0, none⟩)] 72 (0, 0) none).tr (Kept.alloc _ #[.bool false] 4 (0, 0) none)).tr (Kept.alloc _ #[.int .u32 ((S.ph i).groups : Int), .int .i64 (S.ph i).min, .int .i64 (S.ph i).max, .int .i64 (S.ph i).gap, .bool (S.ph i).always] 80 (0, 0) none)).tr (Kept.drewN _ 1 none)))
  have s1 : (((w.alloc (.cells #[.pointer (some ⟨B, 0, none⟩)] 72)).alloc (.cells #[.bool false] 4)).alloc (.cells #[.int .u32 ((S.ph i).groups : Int), .int .i64 (S.ph i).min, .int .i64 (S.ph i).max, .int .i64 (S.ph i).gap, .bool (S.ph i).always] 80)).cell? ⟨w.heap.size, 0, none⟩ = some (.pointer (some ⟨B, 0, none⟩)) := by go_simp
  have s2 : (((w.alloc (.cells #[.pointer (some ⟨B, 0, none⟩)] 72)).alloc (.cells #[.bool false] 4)).alloc (.cells #[.int .u32 ((S.ph i).groups : Int), .int .i64 (S.ph i).min, .int .i64 (S.ph i).max, .int .i64 (S.ph i).gap, .bool (S.ph i).always] 80)).cell? ⟨w.heap.size + 1 + 1, 0, none⟩ = some (.int .u32 ((S.ph i).groups : Int)) := by go_simp
  refine held_wide (S := fun w' => w'.cell? ⟨w.heap.size, 0, none⟩ = some (.pointer (some ⟨B, 0, none⟩)) ∧ w'.cell? ⟨w.heap.size + 1 + 1, 0, none⟩ = some (.int .u32 ((S.ph i).groups : Int))) (by kernel_rfl) (by kernel_rfl) ⟨s1, s2⟩ (fun hHeld => ?_)
  refine held_take (i := 0) (v := ?vb0) rfl rfl (by kernel_rfl) (by kernel_rfl) (by kernel_rfl) (fun _ _ _ h => (by cases h.1)) (Or.inl ⟨by rfl, ?hyb0⟩) (by assumption) ?restb0
  case hyb0 => first | (intro w hSw; go_simp; done) | (intro w hSw; go_simp; with_reducible rfl)
  try simp only [List.setIfInBounds_toArray, List.set_cons_zero, List.set_cons_succ]
  refine held_take (i := 1) (v := ?vb1) rfl rfl (by kernel_rfl) (by kernel_rfl) (by kernel_rfl) (fun _ _ _ h => (by cases h.1)) (Or.inl ⟨by rfl, ?hyb1⟩) (by assumption) ?restb1
  case hyb1 => first | (intro w hSw; go_simp; done) | (intro w hSw; go_simp; with_reducible rfl)
  try simp only [List.setIfInBounds_toArray, List.set_cons_zero, List.set_cons_succ]
  refine held_take (i := 2) (v := ?vb2) rfl rfl (by kernel_rfl) (by kernel_rfl) (by kernel_rfl) (fun _ _ _ h => (by cases h.1)) (Or.inl ⟨by rfl, ?hyb2⟩) (by assumption) ?restb2
  case hyb2 => first | (intro w hSw; go_simp; done) | (intro w hSw; go_simp; with_reducible rfl)
  try simp only [List.setIfInBounds_toArray, List.set_cons_zero, List.set_cons_succ]
  refine held_take (i := 3) (v := ?vb3) rfl rfl (by kernel_rfl) (by kernel_rfl) (by kernel_rfl) (fun _ _ _ h => (by cases h.1)) (Or.inl ⟨by rfl, ?hyb3⟩) (by assumption) ?restb3
  case hyb3 => first | (intro w hSw; go_simp; done) | (intro w hSw; go_simp; with_reducible rfl)
  try simp only [List.setIfInBounds_toArray, List.set_cons_zero, List.set_cons_succ]
  refine held_take (i := 4) (v := ?vb4) rfl rfl (by kernel_rfl) (by kernel_rfl) (by kernel_rfl) (fun _ _ _ h => (by cases h.1)) (Or.inl ⟨by rfl, ?hyb4⟩) (by assumption) ?restb4
  case hyb4 => first | (intro w hSw; go_simp; done) | (intro w hSw; go_simp; with_reducible rfl)
  try simp only [List.setIfInBounds_toArray, List.set_cons_zero, List.set_cons_succ]
  refine held_take (i := 5) (v := ?vb5) rfl rfl (by kernel_rfl) (by kernel_rfl) (by kernel_rfl) (fun _ _ _ h => (by cases h.1)) (Or.inl ⟨by rfl, ?hyb5⟩) (by assumption) ?restb5
  case hyb5 => first | (intro w hSw; go_simp; done) | (intro w hSw; go_simp; with_reducible rfl)
  try simp only [List.setIfInBounds_toArray, List.set_cons_zero, List.set_cons_succ]
  refine held_take (i := 6) (v := ?vb6) rfl rfl (by kernel_rfl) (by kernel_rfl) (by kernel_rfl) (fun _ _ _ h => (by cases h.1)) (Or.inl ⟨by rfl, ?hyb6⟩) (by assumption) ?restb6
  case hyb6 => first | (intro w hSw; go_simp; done) | (intro w hSw; go_simp; with_reducible rfl)
  try simp only [List.setIfInBounds_toArray, List.set_cons_zero, List.set_cons_succ]
  refine wpAnyH_ready (rs := [7]) (by kernel_rfl) (by simp) ?_
  refine AllReadyH.cons rfl (fun K hK => ?_) AllReadyH.nil
  go_simp
  go_wp2_with (go_at_call 102; refine (allGroups_any hSb (by omega)).mono ?_; rintro e w' ⟨rfl, rfl⟩)
  refine hK.out _ _ hHeld (fun hHeld2 => ?_)
  clear hK K hHeld2
  refine held_take (i := 8) (v := ?vc8) rfl rfl (by kernel_rfl) (by kernel_rfl) (by kernel_rfl) (fun _ _ _ h => (by cases h.1)) (Or.inl ⟨by rfl, ?hyc8⟩) (by assumption) ?restc8
  case hyc8 => first | (intro w hSw; go_simp; done) | (intro w hSw; go_simp; with_reducible rfl)
  try simp only [List.setIfInBounds_toArray, List.set_cons_zero, List.set_cons_succ]
  refine held_take (i := 9) (v := ?vc9) rfl rfl (by kernel_rfl) (by kernel_rfl) (by kernel_rfl) (fun _ _ _ h => (by cases h.1)) (Or.inl ⟨by rfl, ?hyc9⟩) (by assumption) ?restc9
  case hyc9 => first | (intro w hSw; go_simp; done) | (intro w hSw; go_simp; with_reducible rfl)
  try simp only [List.setIfInBounds_toArray, List.set_cons_zero, List.set_cons_succ]
  refine held_take (i := 10) (v := ?vc10) rfl rfl (by kernel_rfl) (by kernel_rfl) (by kernel_rfl) (fun _ _ _ h => (by cases h.1)) (Or.inl ⟨by rfl, ?hyc10⟩) (by assumption) ?restc10
  case hyc10 => first | (intro w hSw; go_simp; done) | (intro w hSw; go_simp; with_reducible rfl)
  try simp only [List.setIfInBounds_toArray, List.set_cons_zero, List.set_cons_succ]
  refine wpAnyH_done (by kernel_rfl) ⟨rfl, ?_⟩ _
  clear hHeld
  gi_wp2_with (refine ⟨trivial, ?_⟩; gi_at_call 104; refine (members_in _ _ _).mono ?_; rintro e w' ⟨rfl, rfl⟩)
  obtain ⟨W0, hW0⟩ : ∃ W0, ((((((w.alloc (.cells #[.pointer (some ⟨B, 0, none⟩)] 72)).alloc (.cells #[.bool false] 4)).alloc (.cells #[.int .u32 ((S.ph i).groups : Int), .int .i64 (S.ph i).min, .int .i64 (S.ph i).max, .int .i64 (S.ph i).gap, .bool (S.ph i).always] 80)).drewN 1).alloc (.cells #[.int .i64 0] 3)).alloc (.cells #[.int .u32 ((S.ph i).groups : Int)] 78)) = W0 := ⟨_, rfl⟩
  have bP : Boxed W0 w.heap.size 72 (.pointer (some ⟨B, 0, none⟩)) := by rw [← hW0]; exact ((((Boxed.new w 72 (.pointer (some ⟨B, 0, none⟩))).alloc (.cells #[.bool false] 4)).alloc (.cells #[.int .u32 ((S.ph i).groups : Int), .int .i64 (S.ph i).min, .int .i64 (S.ph i).max, .int .i64 (S.ph i).gap, .bool (S.ph i).always] 80)).alloc (.cells #[.int .i64 0] 3)).alloc (.cells #[.int .u32 ((S.ph i).groups : Int)] 78)
  have bR : Boxed W0 (w.heap.size + 1) 4 (.bool false) := by
    have := (((Boxed.new (w.alloc (.cells #[.pointer (some ⟨B, 0, none⟩)] 72)) 4 (.bool false)).alloc (.cells #[.int .u32 ((S.ph i).groups : Int), .int .i64 (S.ph i).min, .int .i64 (S.ph i).max, .int .i64 (S.ph i).gap, .bool (S.ph i).always] 80)).alloc (.cells #[.int .i64 0] 3)).alloc (.cells #[.int .u32 ((S.ph i).groups : Int)] 78)
    simp only [World.size_alloc] at this
    rw [← hW0]; exact this
  have bL : Boxed W0 (w.heap.size + 1 + 1 + 1) 3 (.int .i64 0) := by
    have := (Boxed.new (((w.alloc (.cells #[.pointer (some ⟨B, 0, none⟩)] 72)).alloc (.cells #[.bool false] 4)).alloc (.cells #[.int .u32 ((S.ph i).groups : Int), .int .i64 (S.ph i).min, .int .i64 (S.ph i).max, .int .i64 (S.ph i).gap, .bool (S.ph i).always] 80)) 3 (.int .i64 0)).alloc (.cells #[.int .u32 ((S.ph i).groups : Int)] 78)
    simp only [World.size_alloc] at this
    rw [← hW0]; exact this
  have bF : Boxed W0 (w.heap.size + 1 + 1 + 1 + 1) 78 (.int .u32 ((S.ph i).groups : Int)) := by
    have := Boxed.new ((((w.alloc (.cells #[.pointer (some ⟨B, 0, none⟩)] 72)).alloc (.cells #[.bool false] 4)).alloc (.cells #[.int .u32 ((S.ph i).groups : Int), .int .i64 (S.ph i).min, .int .i64 (S.ph i).max, .int .i64 (S.ph i).gap, .bool (S.ph i).always] 80)).alloc (.cells #[.int .i64 0] 3)) 78 (.int .u32 ((S.ph i).groups : Int))
    simp only [World.size_alloc] at this
    rw [← hW0]; exact this
  have pB : Pbox W0 (w.heap.size + 1 + 1) (S.ph i) := by
    have : Pbox (((w.alloc (.cells #[.pointer (some ⟨B, 0, none⟩)] 72)).alloc (.cells #[.bool false] 4)).alloc (.cells #[.int .u32 ((S.ph i).groups : Int), .int .i64 (S.ph i).min, .int .i64 (S.ph i).max, .int .i64 (S.ph i).gap, .bool (S.ph i).always] 80)) (w.heap.size + 1 + 1) (S.ph i) := ⟨by go_simp, by go_simp, by go_simp, by go_simp⟩
    have := (this.alloc (.cells #[.int .i64 0] 3)).alloc (.cells #[.int .u32 ((S.ph i).groups : Int)] 78)
    rw [← hW0]; exact this
  have hB0 : Below w.heap.size w W0 := by
    have : Below w.heap.size w ((((w.alloc (.cells #[.pointer (some ⟨B, 0, none⟩)] 72)).alloc (.cells #[.bool false] 4)).alloc (.cells #[.int .u32 ((S.ph i).groups : Int), .int .i64 (S.ph i).min, .int .i64 (S.ph i).max, .int .i64 (S.ph i).gap, .bool (S.ph i).always] 80)).drewN 1) := ((((Below.refl _ w).alloc (Nat.le_refl _) _).alloc (by simp) _).alloc (by simp; omega) _).drew
    rw [← hW0]; exact (this.alloc this.size _).alloc (by have := this.size; simp at this ⊢; omega) _
  have hsz : W0.heap.size = w.heap.size + 5 := by rw [← hW0]; simp
  rw [hW0]
  have hsz1 : W0.heap.size ≤ w.heap.size + 5 := by omega
  have hsz2 : w.heap.size + 5 ≤ W0.heap.size := by omega
  clear hW0 hsz hSb c4
  refine wpIn_rangeFunc_ownH rfl (by omega) (gf := 116) (lb := #[.pointer (some ⟨w.heap.size + 1 + 1 + 1 + 1, 0, none⟩)]) rfl trivial (enters_of Tryd.func116 (by kernel_rfl) rfl)
    (members_stops 7 (by omega) (w.heap.size + 1 + 1 + 1 + 1) w.heap.size (S.ph i).groups W0 (by omega) hG hT1 (by omega) bF.cell (HTb.out.below hT1 hB0)) belowK_t (belowK_b (by omega)) (Below.refl _ _) (fun _ => rfl)
    (fun pre W => (((((∀ a ∈ vals pre, S.ap a &&& (S.ph i).groups = 0) ∧ Boxed W (w.heap.size + 1 + 1 + 1) 3 (.int .i64 (mostL (minsL S (vals pre))))) ∧ Boxed W w.heap.size 72 (.pointer (some ⟨B, 0, none⟩))) ∧ Boxed W (w.heap.size + 1) 4 (.bool false)) ∧ Pbox W (w.heap.size + 1 + 1) (S.ph i)) ∧ Below w.heap.size w W)
    (fun c pre W => ((c = .ret ∧ ∃ a ∈ vals pre, S.ap a &&& (S.ph i).groups ≠ 0) ∧ Boxed W (w.heap.size + 1) 4 (.bool false)) ∧ Below w.heap.size w W)
    (OwnFrom.and (OwnFrom.and (OwnFrom.and (OwnFrom.and (OwnFrom.and (ownFrom_pure _ _) (Own.from (boxed_own _ _ _) _)) (Own.from (boxed_own _ _ _) _)) (Own.from (boxed_own _ _ _) _)) (Own.from (pbox_own _ _) _)) (ownFrom_below (Nat.le_refl _) (by omega)))
    (fun c => OwnFrom.and (OwnFrom.and (ownFrom_pure _ _) (Own.from (boxed_own _ _ _) _)) (ownFrom_below (Nat.le_refl _) (by omega)))
    ⟨⟨⟨⟨⟨by simp [vals], by simpa [vals, minsL, mostL] using bL⟩, bP⟩, bR⟩, pB⟩, hB0⟩
    (fun x a' _ => a' = { tmps := #[.pointer (some ⟨B, 0, none⟩), .int .i64 (i : Int), .pointer (some ⟨w.heap.size, 0, none⟩), undef, .pointer (some ⟨w.heap.size + 1, 0, none⟩), .pointer (some ⟨w.heap.size + 1 + 1, 0, none⟩), .pointer (some ⟨w.heap.size + 1 + 1 + 1, 0, none⟩), .int .i64 (x.1 : Int), .pointer (some ⟨B, 0, none⟩), .pointer (some ⟨B, 0, none⟩), .pointer (some ⟨B, 4, none⟩), .slice (some ⟨bp, op, none⟩) S.phases.length X.pc, .int .i64 (i : Int), .pointer (some ⟨bp, op + i * 5, none⟩), .agg #[.int .u32 ((S.ph i).groups : Int), .int .i64 (S.ph i).min, .int .i64 (S.ph i).max, .int .i64 (S.ph i).gap, .bool (S.ph i).always], .pointer (some ⟨w.heap.size + 1 + 1, 0, none⟩), .int .u32 ((S.ph i).groups : Int), .bool false, .bool false, .pointer (some ⟨w.heap.size + 1 + 1, 0, none⟩), .int .u32 ((S.ph i).groups : Int), .pointer (some ⟨B, 0, none⟩), .int .u32 ((2 ^ S.groups.length - 1 : Nat) : Int), .int .u32 0, .bool false, .bool false, .pointer (some ⟨w.heap.size + 1 + 1, 0, none⟩), .int .u32 ((S.ph i).groups : Int), .func (.func 116) #[] #[.pointer (some ⟨w.heap.size + 1 + 1 + 1 + 1, 0, none⟩)], .int .i64 (x.1 : Int), undef, undef, undef, undef, undef, undef, undef, undef, undef, undef, undef, undef, undef, undef, undef, undef, undef, undef, undef, undef, undef, undef, undef, undef, undef, undef, undef, undef, undef, undef, undef, undef, undef, undef, undef, undef, undef], defers := [] })
    (fun _ _ _ _ _ _ hs _ _ => hs)
    ?assign ?body ?done ?stop
  case assign =>
    rintro l pre x W K hi hK
    gi_wp2
    exact hK _ _ (KeepsFrom.refl _ _) (Below.refl _ _) hi rfl
  case body =>
    rintro l pre x a' W hl ⟨r, hr⟩ ⟨⟨⟨⟨⟨hall, bL1⟩, bP1⟩, bR1⟩, pB1⟩, hBW⟩ rfl hlt
    have cL := bL1.cell
    have fL := bL1.frozen
    have cP := bP1.cell
    have cR := bR1.cell
    have fR := bR1.frozen
    have cG := pB1.1
    obtain ⟨x, hx⟩ := x
    have hSb := HB.out.kept (Kept.of_below hBW)
    have hxg : x < S.groups.length := bit_lim HLOW.out (mem_memb.1 hx).2
    have c1 := hSb.c1
    have c2 := hSb.c2
    have hna := HNA.out
    have hxa : x < S.apart.length := by omega
    clear hna
    obtain ⟨ba, oa, ea, hca⟩ := HB.out.sat.apAt (n := S.apart.length) (by omega) (by omega)
    have ka0 := hca x hxa
    obtain ⟨bg, og, eg, _, g1, _⟩ := HB.out.sat.grAt hxg
    rw [ea] at c2
    rw [eg] at c1
    have hba : ba < w.heap.size := block_lt ka0
    have hbg : bg < w.heap.size := block_lt g1
    have ka := cell_kept0 ka0 (Kept.of_below hBW)
    have kg := cell_kept0 g1 (Kept.of_below hBW)
    have hza := zero_and (HB.out.sat.apr x) hG
    clear hca ka0 g1
    dsimp only at *
    generalize hM : mostL (minsL S (vals pre)) = M at *
    have HM := Hid.mk' hM
    have HALL := Hid.mk' hall
    clear hM hall
    by_cases hq : S.ap x &&& (S.ph i).groups = 0
    · rw [decide_eq_true hq, Bool.not_true] at hza
      have HQ := Hid.mk' hq
      clear hq
      gi_wp2
      refine held_round (S := fun w' => w'.cell? ⟨w.heap.size, 0, none⟩ = some (.pointer (some ⟨B, 0, none⟩)) ∧ w'.cell? ⟨B, 2, none⟩ = some (.slice (some ⟨ba, oa, none⟩) S.apart.length X.ac) ∧ w'.cell? ⟨ba, oa + x, none⟩ = some (.int .u32 (S.ap x : Int)) ∧ w'.cell? ⟨w.heap.size + 1 + 1, 0, none⟩ = some (.int .u32 ((S.ph i).groups : Int))) (by kernel_rfl) (by kernel_rfl) ⟨cP, c2, ka, cG⟩ (fun hHeld => ?_)
      refine held_take (i := 0) (v := ?vd0) rfl rfl (by kernel_rfl) (by kernel_rfl) (by kernel_rfl) (fun _ _ _ h => (by cases h.1)) (Or.inl ⟨by rfl, ?hyd0⟩) (by assumption) ?restd0
      case hyd0 => first | (intro w hSw; go_simp; done) | (intro w hSw; go_simp; with_reducible rfl)
      try simp only [List.setIfInBounds_toArray, List.set_cons_zero, List.set_cons_succ]
      refine held_take (i := 1) (v := ?vd1) rfl rfl (by kernel_rfl) (by kernel_rfl) (by kernel_rfl) (fun _ _ _ h => (by cases h.1)) (Or.inl ⟨by rfl, ?hyd1⟩) (by assumption) ?restd1
      case hyd1 => first | (intro w hSw; go_simp; done) | (intro w hSw; go_simp; with_reducible rfl)
      try simp only [List.setIfInBounds_toArray, List.set_cons_zero, List.set_cons_succ]
      refine held_take (i := 2) (v := ?vd2) rfl rfl (by kernel_rfl) (by kernel_rfl) (by kernel_rfl) (fun _ _ _ h => (by cases h.1)) (Or.inl ⟨by rfl, ?hyd2⟩) (by assumption) ?restd2
      case hyd2 => first | (intro w hSw; go_simp; done) | (intro w hSw; go_simp; with_reducible rfl)
      try simp only [List.setIfInBounds_toArray, List.set_cons_zero, List.set_cons_succ]
      refine held_take (i := 3) (v := ?vd3) rfl rfl (by kernel_rfl) (by kernel_rfl) (by kernel_rfl) (fun _ _ _ h => (by cases h.1)) (Or.inl ⟨by rfl, ?hyd3⟩) (by assumption) ?restd3
      case hyd3 => first | (intro w hSw; go_simp; done) | (intro w hSw; go_simp; with_reducible rfl)
      try simp only [List.setIfInBounds_toArray, List.set_cons_zero, List.set_cons_succ]
      refine held_take (i := 4) (v := ?vd4) rfl rfl (by kernel_rfl) (by kernel_rfl) (by kernel_rfl) (fun _ _ _ h => (by cases h.1)) (Or.inl ⟨by rfl, ?hyd4⟩) (by assumption) ?restd4
      case hyd4 => first | (intro w hSw; go_simp; done) | (intro w hSw; go_simp; with_reducible rfl)
      try simp only [List.setIfInBounds_toArray, List.set_cons_zero, List.set_cons_succ]
      refine held_take (i := 5) (v := ?vd5) rfl rfl (by kernel_rfl) (by kernel_rfl) (by kernel_rfl) (fun _ _ _ h => (by cases h.1)) (Or.inl ⟨by rfl, ?hyd5⟩) (by assumption) ?restd5
      case hyd5 => first | (intro w hSw; go_simp; done) | (intro w hSw; go_simp; with_reducible rfl)
      try simp only [List.setIfInBounds_toArray, List.set_cons_zero, List.set_cons_succ]
      refine held_take (i := 6) (v := ?vd6) rfl rfl (by kernel_rfl) (by kernel_rfl) (by kernel_rfl) (fun _ _ _ h => (by cases h.1)) (Or.inl ⟨by rfl, ?hyd6⟩) (by assumption) ?restd6
      case hyd6 => first | (intro w hSw; go_simp; done) | (intro w hSw; go_simp; with_reducible rfl)
      try simp only [List.setIfInBounds_toArray, List.set_cons_zero, List.set_cons_succ]
      refine held_take (i := 7) (v := ?vd7) rfl rfl (by kernel_rfl) (by kernel_rfl) (by kernel_rfl) (fun _ _ _ h => (by cases h.1)) (Or.inl ⟨by rfl, ?hyd7⟩) (by assumption) ?restd7
      case hyd7 => first | (intro w hSw; go_simp; done) | (intro w hSw; go_simp; with_reducible rfl)
      try simp only [List.setIfInBounds_toArray, List.set_cons_zero, List.set_cons_succ]
      refine held_take (i := 8) (v := ?vd8) rfl rfl (by kernel_rfl) (by kernel_rfl) (by kernel_rfl) (fun _ _ _ h => (by cases h.1)) (Or.inl ⟨by rfl, ?hyd8⟩) (by assumption) ?restd8
      case hyd8 => first | (intro w hSw; go_simp; done) | (intro w hSw; go_simp; with_reducible rfl)
      try simp only [List.setIfInBounds_toArray, List.set_cons_zero, List.set_cons_succ]
      refine held_take (i := 9) (v := ?vd9) rfl rfl (by kernel_rfl) (by kernel_rfl) (by kernel_rfl) (fun _ _ _ h => (by cases h.1)) (Or.inl ⟨by rfl, ?hyd9⟩) (by assumption) ?restd9
      case hyd9 => first | (intro w hSw; go_simp; done) | (intro w hSw; go_simp; with_reducible rfl)
      try simp only [List.setIfInBounds_toArray, List.set_cons_zero, List.set_cons_succ]
      refine held_take (i := 10) (v := ?vd10) rfl rfl (by kernel_rfl) (by kernel_rfl) (by kernel_rfl) (fun _ _ _ h => (by cases h.1)) (Or.inl ⟨by rfl, ?hyd10⟩) (by assumption) ?restd10
      case hyd10 => first | (intro w hSw; go_simp; done) | (intro w hSw; go_simp; with_reducible rfl)
      try simp only [List.setIfInBounds_toArray, List.set_cons_zero, List.set_cons_succ]
      refine wpAnyH_done (by kernel_rfl) ⟨rfl, ?_⟩ _
      clear hHeld
      gi_wp2
      refine held_round (S := fun w' => w'.cell? ⟨w.heap.size, 0, none⟩ = some (.pointer (some ⟨B, 0, none⟩)) ∧ w'.cell? ⟨B, 1, none⟩ = some (.slice (some ⟨bg, og, none⟩) S.groups.length X.gc) ∧ w'.cell? ⟨bg, og + x * 3 + 1, none⟩ = some (.int .i64 (S.gr x).min)) (by kernel_rfl) (by kernel_rfl) ⟨cP, c1, kg⟩ (fun hHeld => ?_)
      refine held_take (i := 1) (v := ?ve1) rfl rfl (by kernel_rfl) (by kernel_rfl) (by kernel_rfl) (fun _ _ _ h => (by cases h.1)) (Or.inl ⟨by rfl, ?hye1⟩) (by assumption) ?reste1
      case hye1 => first | (intro w hSw; go_simp; done) | (intro w hSw; go_simp; with_reducible rfl)
      try simp only [List.setIfInBounds_toArray, List.set_cons_zero, List.set_cons_succ]
      refine held_take (i := 2) (v := ?ve2) rfl rfl (by kernel_rfl) (by kernel_rfl) (by kernel_rfl) (fun _ _ _ h => (by cases h.1)) (Or.inl ⟨by rfl, ?hye2⟩) (by assumption) ?reste2
      case hye2 => first | (intro w hSw; go_simp; done) | (intro w hSw; go_simp; with_reducible rfl)
      try simp only [List.setIfInBounds_toArray, List.set_cons_zero, List.set_cons_succ]
      refine held_take (i := 3) (v := ?ve3) rfl rfl (by kernel_rfl) (by kernel_rfl) (by kernel_rfl) (fun _ _ _ h => (by cases h.1)) (Or.inl ⟨by rfl, ?hye3⟩) (by assumption) ?reste3
      case hye3 => first | (intro w hSw; go_simp; done) | (intro w hSw; go_simp; with_reducible rfl)
      try simp only [List.setIfInBounds_toArray, List.set_cons_zero, List.set_cons_succ]
      refine held_take (i := 4) (v := ?ve4) rfl rfl (by kernel_rfl) (by kernel_rfl) (by kernel_rfl) (fun _ _ _ h => (by cases h.1)) (Or.inl ⟨by rfl, ?hye4⟩) (by assumption) ?reste4
      case hye4 => first | (intro w hSw; go_simp; done) | (intro w hSw; go_simp; with_reducible rfl)
      try simp only [List.setIfInBounds_toArray, List.set_cons_zero, List.set_cons_succ]
      refine held_take (i := 5) (v := ?ve5) rfl rfl (by kernel_rfl) (by kernel_rfl) (by kernel_rfl) (fun _ _ _ h => (by cases h.1)) (Or.inl ⟨by rfl, ?hye5⟩) (by assumption) ?reste5
      case hye5 => first | (intro w hSw; go_simp; done) | (intro w hSw; go_simp; with_reducible rfl)
      try simp only [List.setIfInBounds_toArray, List.set_cons_zero, List.set_cons_succ]
      refine held_take (i := 6) (v := ?ve6) rfl rfl (by kernel_rfl) (by kernel_rfl) (by kernel_rfl) (fun _ _ _ h => (by cases h.1)) (Or.inl ⟨by rfl, ?hye6⟩) (by assumption) ?reste6
      case hye6 => first | (intro w hSw; go_simp; done) | (intro w hSw; go_simp; with_reducible rfl)
      try simp only [List.setIfInBounds_toArray, List.set_cons_zero, List.set_cons_succ]
      refine held_take (i := 7) (v := ?ve7) rfl rfl (by kernel_rfl) (by kernel_rfl) (by kernel_rfl) (fun _ _ _ h => (by cases h.1)) (Or.inl ⟨by rfl, ?hye7⟩) (by assumption) ?reste7
      case hye7 => first | (intro w hSw; go_simp; done) | (intro w hSw; go_simp; with_reducible rfl)
      try simp only [List.setIfInBounds_toArray, List.set_cons_zero, List.set_cons_succ]
      refine held_take (i := 8) (v := ?ve8) rfl rfl (by kernel_rfl) (by kernel_rfl) (by kernel_rfl) (fun _ _ _ h => (by cases h.1)) (Or.inl ⟨by rfl, ?hye8⟩) (by assumption) ?reste8
      case hye8 => first | (intro w hSw; go_simp; done) | (intro w hSw; go_simp; with_reducible rfl)
      try simp only [List.setIfInBounds_toArray, List.set_cons_zero, List.set_cons_succ]
      refine wpAnyH_ready (rs := [0]) (by kernel_rfl) (by simp) ?_
      refine AllReadyH.cons rfl (fun K hK => ?_) AllReadyH.nil
      go_simp
      refine hK.out _ _ hHeld (fun hHeld2 => ?_)
      clear hK K hHeld2
      refine held_take (i := 9) (v := ?vf9) rfl rfl (by kernel_rfl) (by kernel_rfl) (by kernel_rfl) (fun _ _ _ h => (by cases h.1)) (Or.inl ⟨by rfl, ?hyf9⟩) (by assumption) ?restf9
      case hyf9 => first | (intro w hSw; go_simp; done) | (intro w hSw; go_simp; with_reducible rfl)
      try simp only [List.setIfInBounds_toArray, List.set_cons_zero, List.set_cons_succ]
      refine wpAnyH_ready (rs := [10]) (by kernel_rfl) (by simp) ?_
      refine AllReadyH.cons rfl (fun K hK => ?_) AllReadyH.nil
      go_simp
      generalize hM2 : (if M < (S.gr x).min then (S.gr x).min else M) = M2
      have HM2 := Hid.mk' hM2
      clear hM2
      refine hK.out _ _ ⟨?s1, ?s2, ?s3⟩ (fun hHeld3 => ?s6)
      case s1 => exact (World.cell?_setCell_far _ _ _ _ (by simp; omega)).trans cP
      case s2 => exact (World.cell?_setCell_far _ _ _ _ (by simp; omega)).trans c1
      case s3 => exact (World.cell?_setCell_far _ _ _ _ (by simp; omega)).trans kg
      clear hK K hHeld3
      refine wpAnyH_done (by kernel_rfl) ⟨rfl, ?_⟩ _
      gi_wp2
      refine ⟨(((KeepsOthers.drew _).trans (KeepsOthers.setCell _ _ _)).trans (KeepsOthers.drew _)).from _, (((Below.refl _ W).drew).setCell (p := ⟨w.heap.size + 1 + 1 + 1, 0, none⟩) (by simp; omega) _).drew, ⟨⟨⟨⟨⟨?b0, ?b1⟩, ?b2⟩, ?b3⟩, ?b4⟩, ((hBW.drew).setCell (p := ⟨w.heap.size + 1 + 1 + 1, 0, none⟩) (by simp; omega) _).drew⟩⟩
      case b0 =>
        rw [vals_snoc]
        intro a ha
        rcases List.mem_append.1 ha with ha | ha
        · exact HALL.out a ha
        · have e : a = x := by simpa using ha
          rw [e]; exact HQ.out
      case b1 =>
        have e : mostL (minsL S (vals (pre ++ [⟨x, hx⟩]))) = M2 := by
          rw [vals_snoc, minsL_snoc, mostL_snoc, HM.out, ← HM2.out]
          exact max_if _ _
        rw [e]
        exact bL1.set _
      case b2 => exact bP1.other (by omega) _
      case b3 => exact bR1.other (by omega) _
      case b4 => exact pB1.other (by omega) _
    · rw [decide_eq_false hq, Bool.not_false] at hza
      have HQ := Hid.mk' hq
      clear hq
      gi_wp2
      refine held_round (S := fun w' => w'.cell? ⟨w.heap.size, 0, none⟩ = some (.pointer (some ⟨B, 0, none⟩)) ∧ w'.cell? ⟨B, 2, none⟩ = some (.slice (some ⟨ba, oa, none⟩) S.apart.length X.ac) ∧ w'.cell? ⟨ba, oa + x, none⟩ = some (.int .u32 (S.ap x : Int)) ∧ w'.cell? ⟨w.heap.size + 1 + 1, 0, none⟩ = some (.int .u32 ((S.ph i).groups : Int))) (by kernel_rfl) (by kernel_rfl) ⟨cP, c2, ka, cG⟩ (fun hHeld => ?_)
      refine held_take (i := 0) (v := ?vg0) rfl rfl (by kernel_rfl) (by kernel_rfl) (by kernel_rfl) (fun _ _ _ h => (by cases h.1)) (Or.inl ⟨by rfl, ?hyg0⟩) (by assumption) ?restg0
      case hyg0 => first | (intro w hSw; go_simp; done) | (intro w hSw; go_simp; with_reducible rfl)
      try simp only [List.setIfInBounds_toArray, List.set_cons_zero, List.set_cons_succ]
      refine held_take (i := 1) (v := ?vg1) rfl rfl (by kernel_rfl) (by kernel_rfl) (by kernel_rfl) (fun _ _ _ h => (by cases h.1)) (Or.inl ⟨by rfl, ?hyg1⟩) (by assumption) ?restg1
      case hyg1 => first | (intro w hSw; go_simp; done) | (intro w hSw; go_simp; with_reducible rfl)
      try simp only [List.setIfInBounds_toArray, List.set_cons_zero, List.set_cons_succ]
      refine held_take (i := 2) (v := ?vg2) rfl rfl (by kernel_rfl) (by kernel_rfl) (by kernel_rfl) (fun _ _ _ h => (by cases h.1)) (Or.inl ⟨by rfl, ?hyg2⟩) (by assumption) ?restg2
      case hyg2 => first | (intro w hSw; go_simp; done) | (intro w hSw; go_simp; with_reducible rfl)
      try simp only [List.setIfInBounds_toArray, List.set_cons_zero, List.set_cons_succ]
      refine held_take (i := 3) (v := ?vg3) rfl rfl (by kernel_rfl) (by kernel_rfl) (by kernel_rfl) (fun _ _ _ h => (by cases h.1)) (Or.inl ⟨by rfl, ?hyg3⟩) (by assumption) ?restg3
      case hyg3 => first | (intro w hSw; go_simp; done) | (intro w hSw; go_simp; with_reducible rfl)
      try simp only [List.setIfInBounds_toArray, List.set_cons_zero, List.set_cons_succ]
      refine held_take (i := 4) (v := ?vg4) rfl rfl (by kernel_rfl) (by kernel_rfl) (by kernel_rfl) (fun _ _ _ h => (by cases h.1)) (Or.inl ⟨by rfl, ?hyg4⟩) (by assumption) ?restg4
      case hyg4 => first | (intro w hSw; go_simp; done) | (intro w hSw; go_simp; with_reducible rfl)
      try simp only [List.setIfInBounds_toArray, List.set_cons_zero, List.set_cons_succ]
      refine held_take (i := 5) (v := ?vg5) rfl rfl (by kernel_rfl) (by kernel_rfl) (by kernel_rfl) (fun _ _ _ h => (by cases h.1)) (Or.inl ⟨by rfl, ?hyg5⟩) (by assumption) ?restg5
      case hyg5 => first | (intro w hSw; go_simp; done) | (intro w hSw; go_simp; with_reducible rfl)
      try simp only [List.setIfInBounds_toArray, List.set_cons_zero, List.set_cons_succ]
      refine held_take (i := 6) (v := ?vg6) rfl rfl (by kernel_rfl) (by kernel_rfl) (by kernel_rfl) (fun _ _ _ h => (by cases h.1)) (Or.inl ⟨by rfl, ?hyg6⟩) (by assumption) ?restg6
      case hyg6 => first | (intro w hSw; go_simp; done) | (intro w hSw; go_simp; with_reducible rfl)
      try simp only [List.setIfInBounds_toArray, List.set_cons_zero, List.set_cons_succ]
      refine held_take (i := 7) (v := ?vg7) rfl rfl (by kernel_rfl) (by kernel_rfl) (by kernel_rfl) (fun _ _ _ h => (by cases h.1)) (Or.inl ⟨by rfl, ?hyg7⟩) (by assumption) ?restg7
      case hyg7 => first | (intro w hSw; go_simp; done) | (intro w hSw; go_simp; with_reducible rfl)
      try simp only [List.setIfInBounds_toArray, List.set_cons_zero, List.set_cons_succ]
      refine held_take (i := 8) (v := ?vg8) rfl rfl (by kernel_rfl) (by kernel_rfl) (by kernel_rfl) (fun _ _ _ h => (by cases h.1)) (Or.inl ⟨by rfl, ?hyg8⟩) (by assumption) ?restg8
      case hyg8 => first | (intro w hSw; go_simp; done) | (intro w hSw; go_simp; with_reducible rfl)
      try simp only [List.setIfInBounds_toArray, List.set_cons_zero, List.set_cons_succ]
      refine held_take (i := 9) (v := ?vg9) rfl rfl (by kernel_rfl) (by kernel_rfl) (by kernel_rfl) (fun _ _ _ h => (by cases h.1)) (Or.inl ⟨by rfl, ?hyg9⟩) (by assumption) ?restg9
      case hyg9 => first | (intro w hSw; go_simp; done) | (intro w hSw; go_simp; with_reducible rfl)
      try simp only [List.setIfInBounds_toArray, List.set_cons_zero, List.set_cons_succ]
      refine held_take (i := 10) (v := ?vg10) rfl rfl (by kernel_rfl) (by kernel_rfl) (by kernel_rfl) (fun _ _ _ h => (by cases h.1)) (Or.inl ⟨by rfl, ?hyg10⟩) (by assumption) ?restg10
      case hyg10 => first | (intro w hSw; go_simp; done) | (intro w hSw; go_simp; with_reducible rfl)
      try simp only [List.setIfInBounds_toArray, List.set_cons_zero, List.set_cons_succ]
      refine wpAnyH_done (by kernel_rfl) ⟨rfl, ?_⟩ _
      clear hHeld
      gi_wp2
      exact ⟨((KeepsOthers.drew _).trans (KeepsOthers.setCell _ _ _)).from _, ⟨⟨rfl, x, by rw [vals_snoc]; simp, HQ.out⟩, bR1.set _⟩, (hBW.drew).setCell (p := ⟨w.heap.size + 1, 0, none⟩) (by simp) _⟩
  case done =>
    rintro D zs W hD hzs ⟨⟨⟨⟨⟨hall, bL1⟩, bP1⟩, bR1⟩, pB1⟩, hBW⟩ hK
    have cL := bL1.cell
    have cR := bR1.cell
    have fR := bR1.frozen
    have p1 := pB1.2.1
    have p2 := pB1.2.2.1
    have p3 := pB1.2.2.2
    have hmate := (mate_iff HLOW.out (by omega)).2 (by rw [← hzs]; exact hall)
    have hleast := least_iff (S := S) (m := (S.ph i).min) HLOW.out (by omega)
    rw [hzs] at cL
    have hph : phaseB S i = (inB (S.ph i).min (mostL (minsL S (memb (S.ph i).groups))) 1048576 && inB (S.ph i).max (S.ph i).min 1048576 && timeB (S.ph i).gap) := by
      unfold phaseB
      rw [decide_eq_true HZ.out, decide_eq_true HLOW.out, hmate, Bool.true_and, Bool.true_and, Bool.true_and, hleast]
      rfl
    have HPH := Hid.mk' hph
    clear hmate hleast hph hall
    cases h1 : inB (S.ph i).min (mostL (minsL S (memb (S.ph i).groups))) 1048576 with
    | false =>
      have HE : Hid (phaseB S i = false) := by show phaseB S i = false; rw [HPH.out, h1]; rfl
      gi_wp2_with (first | (refine ⟨trivial, ?_⟩; gi_at_call 76; refine (callsIn_wide.2 (within_is _ _ _ _ _ h1)).mono ?_; rintro e W ⟨rfl, rfl⟩) | refine ⟨trivial, ?_⟩)
      have hK' := (KeepsOthers.setCell W ⟨w.heap.size + 1, 0, none⟩ (.bool false)).same D _ hK rfl
      refine ⟨by simp, .inl ⟨_, _, rfl, run_takeDeferred hK', ?_⟩⟩
      have hc5 := cell_kept (bR1.set (.bool false)).cell (grownBy_putObj' _ D (.deferred none)) (fun r e => by cases e; exact ⟨_, hK', rfl⟩)
      refine ⟨.bool false, ?_, by rw [HE.out], Kept.of_below ((hBW.setCell (p := ⟨w.heap.size + 1, 0, none⟩) (by simp) _).trans (belowK_b (w := w) (Nat.le_refl _) _ D _ _ (by omega) hK' rfl rfl))⟩
      simp [results, Tryd.f71, go_sem, hc5]
    | true =>
      cases h2 : inB (S.ph i).max (S.ph i).min 1048576 with
      | false =>
        have HE : Hid (phaseB S i = false) := by show phaseB S i = false; rw [HPH.out, h1, h2]; rfl
        gi_wp2_with (first | (have hgo := hdone; clear hgo; refine ⟨trivial, ?_⟩; gi_at_call 76; refine (callsIn_wide.2 (within_is _ _ _ _ _ h2)).mono ?_; rintro e W ⟨rfl, rfl⟩) | (refine ⟨trivial, ?_⟩; gi_at_call 76; refine (callsIn_wide.2 (within_is _ _ _ _ _ h1)).mono ?_; rintro e W ⟨rfl, rfl⟩; have hdone := trivial) | refine ⟨trivial, ?_⟩)
        have hK' := (KeepsOthers.setCell W ⟨w.heap.size + 1, 0, none⟩ (.bool false)).same D _ hK rfl
        refine ⟨by simp, .inl ⟨_, _, rfl, run_takeDeferred hK', ?_⟩⟩
        have hc5 := cell_kept (bR1.set (.bool false)).cell (grownBy_putObj' _ D (.deferred none)) (fun r e => by cases e; exact ⟨_, hK', rfl⟩)
        refine ⟨.bool false, ?_, by rw [HE.out], Kept.of_below ((hBW.setCell (p := ⟨w.heap.size + 1, 0, none⟩) (by simp) _).trans (belowK_b (w := w) (Nat.le_refl _) _ D _ _ (by omega) hK' rfl rfl))⟩
        simp [results, Tryd.f71, go_sem, hc5]
      | true =>
        have HE : Hid (phaseB S i = timeB (S.ph i).gap) := by show phaseB S i = _; rw [HPH.out, h1, h2]; rfl
        gi_wp2_with (first | (have hgo := hdone; clear hgo; refine ⟨trivial, ?_⟩; gi_at_call 76; refine (callsIn_wide.2 (within_is _ _ _ _ _ h2)).mono ?_; rintro e W ⟨rfl, rfl⟩) | (refine ⟨trivial, ?_⟩; gi_at_call 76; refine (callsIn_wide.2 (within_is _ _ _ _ _ h1)).mono ?_; rintro e W ⟨rfl, rfl⟩; have hdone := trivial) | (refine ⟨trivial, ?_⟩; gi_at_call 101; refine (callsIn_wide.2 (time_any _ _)).mono ?_; rintro e W ⟨rfl, rfl⟩) | refine ⟨trivial, ?_⟩)
        have hK' := (KeepsOthers.setCell W ⟨w.heap.size + 1, 0, none⟩ (.bool (timeB (S.ph i).gap))).same D _ hK rfl
        refine ⟨by simp, .inl ⟨_, _, rfl, run_takeDeferred hK', ?_⟩⟩
        have hc5 := cell_kept (bR1.set (.bool (timeB (S.ph i).gap))).cell (grownBy_putObj' _ D (.deferred none)) (fun r e => by cases e; exact ⟨_, hK', rfl⟩)
        refine ⟨.bool (timeB (S.ph i).gap), ?_, by rw [HE.out], Kept.of_below ((hBW.setCell (p := ⟨w.heap.size + 1, 0, none⟩) (by simp) _).trans (belowK_b (w := w) (Nat.le_refl _) _ D _ _ (by omega) hK' rfl rfl))⟩
        simp [results, Tryd.f71, go_sem, hc5]
  case stop =>
    rintro D c pre W hD hpre ⟨⟨⟨rfl, a, ha, hq⟩, bR1⟩, hBW⟩ hK
    have hE : phaseB S i = false := by
      have hn : mateB S (S.ph i).groups = false := by
        cases e : mateB S (S.ph i).groups with
        | false => rfl
        | true => exact absurd ((mate_iff HLOW.out (by omega)).1 e a (hpre.subset ha)) hq
      simp [phaseB, hn]
    have HE := Hid.mk' hE
    clear hE
    gi_wp2
    refine ⟨by simp, .inl ⟨_, _, rfl, run_takeDeferred hK, ?_⟩⟩
    have hc5 := cell_kept bR1.cell (grownBy_putObj' _ D (.deferred none)) (fun r e => by cases e; exact ⟨_, hK, rfl⟩)
    refine ⟨.bool false, ?_, by rw [HE.out], Kept.of_below (hBW.trans (belowK_b (w := w) (Nat.le_refl _) W D _ _ (by omega) hK rfl rfl))⟩
    simp [results, Tryd.f71, go_sem, hc5]

theorem phase_any {B : Nat} {X : Sa} {S : St} {w : World} (h : Sbox w B X S) (hT : Tabb w) (hO : Okay S) (i : Nat) (hi : i < S.phases.length) :
    Calls Tryd.prog 71 #[.pointer (some ⟨B, 0, none⟩), .int .i64 i] w fun e w' => e = .returned (.bool (phaseB S i)) ∧ Kept w w' none := by
  by_cases hz : (S.ph i).groups = 0
  · exact phase_none h hO i hi (.inl hz)
  · by_cases hl : (S.ph i).groups < 2 ^ S.groups.length
    · exact phase_some h hT hO i hi hz hl
    · exact phase_none h hO i hi (.inr ⟨hz, hl⟩)

end
section
open Go.RowKit Go.Lib Go.Deep

/-- What is asked of a site ahead of sums of times. -/
structure Base (S : St) : Prop where
  sh : Shape S
  mn : ∀ i, i < S.phases.length → 0 ≤ (S.ph i).min ∧ (S.ph i).min ≤ 1048576
  bt : ∀ a b, a < S.groups.length → b < S.groups.length → S.bt a b ≤ 1048576
theorem Base.lies {S : St} (h : Base S) (f t : Nat) : 0 ≤ liesM S f t ∧ liesM S f t ≤ 1048576 :=
  ⟨liesM_ge S f t, (liesM_is S f t).le (by omega) (fun x hx => by
    obtain ⟨a, b, ha, hb, _, _, _, rfl⟩ := hx
    exact h.bt a b ha hb)⟩
theorem Base.part {S : St} (h : Base S) {i : Nat} (hi : i < S.phases.length) : 0 ≤ partM S i ∧ partM S i ≤ 2097152 := by
  have h1 := h.mn i hi
  have h2 := h.lies i ((i + 1) % S.phases.length)
  unfold partM
  omega
theorem Base.round {S : St} (h : Base S) : ∀ k, k ≤ S.phases.length → 0 ≤ roundN S k ∧ roundN S k ≤ 2097152 * k
  | 0, _ => by simp [roundN]
  | k + 1, hk => by
    have h1 := h.round k (by omega)
    have h2 := h.part (i := k) (by omega)
    rw [roundN]
    omega
theorem wrap_in {x : Int} (h1 : -9223372036854775808 ≤ x) (h2 : x ≤ 9223372036854775807) : IntKind.i64.wrap x = x := by
  simp [IntKind.wrap, IntKind.bits, IntKind.signed]; omega
theorem Kept.drew (w : World) (r : Option Nat) : Kept w w.drew r := Kept.drewN w 1 r
set_option maxRecDepth 100000 in
set_option maxHeartbeats 1000000 in
theorem part_any {B : Nat} {X : Sa} {S : St} {w : World} (h : Sbox w B X S) (hT : Tabb w) (hBs : Base S) (i : Nat) (hi : i < S.phases.length) :
    Calls Tryd.prog 77 #[.pointer (some ⟨B, 0, none⟩), .int .i64 i] w fun e w' => e = .returned (.int .i64 (partM S i)) ∧ Kept w w' none := by
  have HB := Hid.mk' h
  have HT := Hid.mk' hT
  have HS := Hid.mk' hBs
  have hp8 := hBs.sh.ok.np
  have hmn := hBs.mn i hi
  have hli := hBs.lies i ((i + 1) % S.phases.length)
  have c4 := h.c4
  obtain ⟨bp, op, ep, kp, kp1, _, _, _⟩ := h.sat.phAt hi
  rw [ep] at c4
  have f4 : ∀ w', Kept w w' none → w'.cell? ⟨B, 4, none⟩ = some (.slice (some ⟨bp, op, none⟩) S.phases.length X.pc) := fun w' k => cell_kept0 c4 k
  have f1 : ∀ w', Kept w w' none → w'.cell? ⟨bp, op + i * 5 + 1, none⟩ = some (.int .i64 (S.ph i).min) := fun w' k => cell_kept0 kp1 k
  have hmod : ((i : Int) + 1) % (S.phases.length : Int) = (((i + 1) % S.phases.length : Nat) : Int) := by simp
  have hml : (i + 1) % S.phases.length < S.phases.length := Nat.mod_lt _ (by omega)
  have hwr : (IntKind.i64.wrap ((i : Int) + 1)).tmod (S.phases.length : Int) = (((i + 1) % S.phases.length : Nat) : Int) := by
    rw [wrap_in (by omega) (by omega), Int.tmod_eq_emod_of_nonneg (by omega)]
    exact hmod
  have hsum : IntKind.i64.wrap ((S.ph i).min + liesM S i ((i + 1) % S.phases.length)) = partM S i := by
    rw [wrap_in (by omega) (by omega)]; rfl
  have HE : Hid (partM S i = (S.ph i).min + liesM S i ((i + 1) % S.phases.length)) := rfl
  generalize hj : (i + 1) % S.phases.length = j at *
  have HJ := Hid.mk' hj
  have hnz : ((S.phases.length : Int) == 0) = false := by rw [beq_eq_false_iff_ne]; omega
  have hnz1 : ¬ (S.phases.length : Int) = 0 := by omega
  have hnz2 : ¬ S.phases = [] := by intro e; rw [e] at hp8; simp at hp8
  have HW := Hid.mk' hsum
  clear h hT hBs hj ep kp hsum
  go_enter Tryd.func77, Tryd.ntmps77
  go_wp2
  go_region_held (fun w' => Kept w w' none)
    ((first | exact Kept.refl _ _ | exact Kept.drew _ _ | assumption | exact Kept.tr (by assumption) (Kept.drew _ _)))
    ((go_at_call 95; refine (lies_any (HB.out.kept (by assumption)) (HT.out.kept (by assumption)) HS.out.sh i j hi hml).mono ?_; rintro e wS ⟨rfl, hkS⟩; have hKS : Kept w wS none := Kept.tr (by assumption) hkS))
  all_goals
    go_wp2
    go_ret
    exact ⟨ret_int HW.out, by assumption⟩

end
end Go.Proofs.YtfhmfanmnhclfaaDoor
