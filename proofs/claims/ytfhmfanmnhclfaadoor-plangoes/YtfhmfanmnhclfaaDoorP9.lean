import Derived.Test.YtfhmfanmnhclfaaDoorP8
namespace Go.Proofs.YtfhmfanmnhclfaaDoor
set_option linter.unusedVariables false
set_option linter.unusedSimpArgs false
open Go.RowKit Go.Lib Go.Deep

/-- A count, as it counts. -/
def stp (n : Int) : Int := if n < 0 then 0 else if 1048576 < n then 1048576 else n
/-- One more. -/
def more (n : Int) : Int := if stp n < 1048576 then stp n + 1 else 1048576
/-! ### A struct of three cells in a block of its own -/
theorem cell_kept' {w w' : World} (k : Kept w w' none) {b i : Nat} (hb : b < w.heap.size) : w'.cell? ⟨b, i, none⟩ = w.cell? ⟨b, i, none⟩ := World.cell?_of_block (w := w) (a := ⟨b, i, none⟩) (k.block b hb (by simp))
theorem frozen_kept' {w w' : World} (k : Kept w w' none) {b i : Nat} (hb : b < w.heap.size) : w'.frozen? ⟨b, i, none⟩ = w.frozen? ⟨b, i, none⟩ := World.frozen?_of_block (w := w) (a := ⟨b, i, none⟩) (k.block b hb (by simp))
structure Box (w : World) (b : Nat) (v0 v1 v2 : Value) : Prop where
  c0 : w.cell? ⟨b, 0, none⟩ = some v0
  c1 : w.cell? ⟨b, 1, none⟩ = some v1
  c2 : w.cell? ⟨b, 2, none⟩ = some v2
  f0 : w.frozen? ⟨b, 0, none⟩ = false
  f1 : w.frozen? ⟨b, 1, none⟩ = false
  f2 : w.frozen? ⟨b, 2, none⟩ = false
  lt : b < w.heap.size
theorem box_alloc (w : World) (v0 v1 v2 : Value) (t : TypeId) : Box (w.alloc (.cells #[v0, v1, v2] t)) w.heap.size v0 v1 v2 := by
  have h := heap_alloc_new w (.cells #[v0, v1, v2] t)
  exact ⟨World.cell?_alloc_mark .., World.cell?_alloc_mark .., World.cell?_alloc_mark .., by simp only [World.frozen?, h]; rfl, by simp only [World.frozen?, h]; rfl, by simp only [World.frozen?, h]; rfl, by simp⟩
theorem Box.kept {w w' : World} {b : Nat} {v0 v1 v2 : Value} (h : Box w b v0 v1 v2) (k : Kept w w' none) : Box w' b v0 v1 v2 :=
  ⟨(cell_kept' k h.lt).trans h.c0, (cell_kept' k h.lt).trans h.c1, (cell_kept' k h.lt).trans h.c2, (frozen_kept' k h.lt).trans h.f0, (frozen_kept' k h.lt).trans h.f1, (frozen_kept' k h.lt).trans h.f2, Nat.lt_of_lt_of_le h.lt k.size⟩


theorem all_of {S : St} (h : siteB S = true) : ∀ j, j < 10 → ∀ i, i < manyN S (ofN j) → condB S j i = true := fun j hj => by
  rw [siteB_eq] at h
  exact allB_iff.1 (allB_iff.1 h j hj)
theorem span_may {S : St} (h : siteB S = true) : Span S := span_of (fun j hj => all_of h j (by omega))
theorem checkE_yes {S : St} (h : siteB S = true) : checkE S = 0 := by unfold checkE; rw [if_pos h]
theorem checkE_no {S : St} (h : siteB S = false) : checkE S = 50 := by unfold checkE; rw [if_neg (by rw [h]; decide)]
def pairE (S : St) (a b : Int) (n : Nat) : Int := if siteB S = true then (if (inB a 0 ((n : Int) - 1) && inB b 0 ((n : Int) - 1)) = true then 0 else 2) else 50
set_option maxRecDepth 100000 in
set_option maxHeartbeats 1000000 in
theorem pair_any {X : Sa} {S : St} {w : World} (h : Sat w X S) (hT : Tabb w) (a b : Int) (n : Nat) (hn : n ≤ 9223372036854775807) : Calls Tryd.prog 94 #[siteV X S, .int .i64 a, .int .i64 b, .int .i64 n] w fun e w' => e = .returned (.int .i64 (pairE S a b n)) ∧ Kept w w' none := by
  have hkA : Kept w (w.alloc (.cells #[.int .i64 S.id, .slice X.g S.groups.length X.gc, .slice X.a S.apart.length X.ac, .slice X.b S.between.length X.bc, .slice X.p S.phases.length X.pc, .slice X.e S.eyes.length X.ec, .int .i64 S.watch, .int .i64 S.feed, .int .i64 S.heal, .int .i64 S.low, .int .i64 S.high, .slice X.l S.plans.length X.lc] 35)) none := Kept.alloc _ _ _ _ _
  have HK := Hid.mk' hkA
  have HS := Hid.mk' (h.kept hkA)
  have HT := Hid.mk' (hT.kept hkA)
  clear h hT hkA
  cases hs : siteB S with
  | false =>
    have hce := checkE_no hs
    have HE : Hid (pairE S a b n = 50) := by show pairE S a b n = 50; unfold pairE; rw [hs]; rfl
    go_enter Tryd.func94, Tryd.ntmps94
    go_wp2_with (go_at_call 20; refine (check_any HS.out HT.out).mono ?_; rintro e w2 ⟨rfl, hk2⟩; rw [hce])
    go_ret
    exact ⟨by rw [HE.out]; rfl, HK.out.tr hk2⟩
  | true =>
    have hce := checkE_yes hs
    have HE : Hid (pairE S a b n = if (inB a 0 ((n : Int) - 1) && inB b 0 ((n : Int) - 1)) = true then 0 else 2) := by show pairE S a b n = _; unfold pairE; rw [if_pos hs]
    cases h1 : inB a 0 ((n : Int) - 1) with
    | false =>
      go_enter Tryd.func94, Tryd.ntmps94
      go_wp2_with (first | (go_at_call 20; refine (check_any HS.out HT.out).mono ?_; rintro e w2 ⟨rfl, hk2⟩; rw [hce]) | (go_at_call 76; refine (within_is _ _ _ _ _ h1).mono ?_; rintro e w2 ⟨rfl, rfl⟩))
      go_ret
      exact ⟨by rw [HE.out, h1]; rfl, HK.out.tr hk2⟩
    | true =>
      cases h2 : inB b 0 ((n : Int) - 1) with
      | false =>
        go_enter Tryd.func94, Tryd.ntmps94
        go_wp2_with (first | (have hgo := hdone; clear hgo; go_at_call 76; refine (within_is _ _ _ _ _ h2).mono ?_; rintro e w2 ⟨rfl, rfl⟩) | (go_at_call 20; refine (check_any HS.out HT.out).mono ?_; rintro e w2 ⟨rfl, hk2⟩; rw [hce]) | (go_at_call 76; refine (within_is _ _ _ _ _ h1).mono ?_; rintro e w2 ⟨rfl, rfl⟩; have hdone := trivial))
        go_ret
        exact ⟨by rw [HE.out, h1, h2]; rfl, HK.out.tr hk2⟩
      | true =>
        go_enter Tryd.func94, Tryd.ntmps94
        go_wp2_with (first | (have hgo := hdone; clear hgo; go_at_call 76; refine (within_is _ _ _ _ _ h2).mono ?_; rintro e w2 ⟨rfl, rfl⟩) | (go_at_call 20; refine (check_any HS.out HT.out).mono ?_; rintro e w2 ⟨rfl, hk2⟩; rw [hce]) | (go_at_call 76; refine (within_is _ _ _ _ _ h1).mono ?_; rintro e w2 ⟨rfl, rfl⟩; have hdone := trivial))
        go_ret
        exact ⟨by rw [HE.out, h1, h2]; rfl, HK.out.tr hk2⟩

theorem pairE_yes {S : St} (hs : siteB S = true) {a b n : Nat} (ha : a < n) (hb : b < n) : pairE S a b n = 0 := by
  unfold pairE
  rw [if_pos hs, if_pos]
  rw [Bool.and_eq_true, inB_iff, inB_iff]
  omega
set_option maxRecDepth 100000 in
set_option maxHeartbeats 1000000 in
theorem clearq_yes {X : Sa} {S : St} {w : World} (h : Sat w X S) (hT : Tabb w) (a b : Nat) (hs : siteB S = true) (ha : a < S.phases.length) (hb : b < S.phases.length) : Calls Tryd.prog 57 #[siteV X S, .int .i64 a, .int .i64 b] w fun e w' => e = .returned (.tuple #[.int .i64 (liesM S a b), .int .i64 0]) ∧ Kept w w' none := by
  have hkA : Kept w (w.alloc (.cells #[.int .i64 S.id, .slice X.g S.groups.length X.gc, .slice X.a S.apart.length X.ac, .slice X.b S.between.length X.bc, .slice X.p S.phases.length X.pc, .slice X.e S.eyes.length X.ec, .int .i64 S.watch, .int .i64 S.feed, .int .i64 S.heal, .int .i64 S.low, .int .i64 S.high, .slice X.l S.plans.length X.lc] 35)) none := Kept.alloc _ _ _ _ _
  have hsb := sbox_alloc h 35
  have HSB := Hid.mk' hsb
  have HK := Hid.mk' hkA
  have HS := Hid.mk' (h.kept hkA)
  have HT := Hid.mk' (hT.kept hkA)
  have hgm : S.groups.length ≤ 9223372036854775807 := manyN_le h 1
  have hpm : S.phases.length ≤ 9223372036854775807 := manyN_le h 2
  have hne := pairE_yes hs ha hb
  have HSp := Hid.mk' (span_may hs)
  clear h hT hkA hsb
  go_enter Tryd.func57, Tryd.ntmps57
  go_wp2_with (first | (go_at_call 95; refine (lies_any (HSB.out.kept hk2) (HT.out.kept hk2) HSp.out.base.sh a b ha hb).mono ?_; rintro e w3 ⟨rfl, hk3⟩) | (go_at_call 94; refine (pair_any HS.out HT.out a b S.phases.length (by omega)).mono ?_; rintro e w2 ⟨rfl, hk2⟩; rw [hne]))
  go_ret2
  exact ⟨rfl, (HK.out.tr hk2).tr hk3⟩


def worstM (S : St) : Int := mostL S.between.flatten
set_option maxRecDepth 100000 in
set_option maxHeartbeats 1000000 in
theorem planq_no {X : Sa} {S : St} {w : World} (h : Sat w X S) (hT : Tabb w) (hs : siteB S = false) (p : Pl) (a : Option Addr) (c : Nat) : Calls Tryd.prog 21 #[siteV X S, planV p a c] w fun e w' => e = .returned (.tuple #[.bool false, .int .i64 50]) ∧ Kept w w' none := by
  have hkA : Kept w (w.alloc (.cells #[.int .i64 S.id, .slice X.g S.groups.length X.gc, .slice X.a S.apart.length X.ac, .slice X.b S.between.length X.bc, .slice X.p S.phases.length X.pc, .slice X.e S.eyes.length X.ec, .int .i64 S.watch, .int .i64 S.feed, .int .i64 S.heal, .int .i64 S.low, .int .i64 S.high, .slice X.l S.plans.length X.lc] 35)) none := Kept.alloc _ _ _ _ _
  have hsb := sbox_alloc h 35
  have HSB := Hid.mk' hsb
  have HK := Hid.mk' hkA
  have HS := Hid.mk' (h.kept hkA)
  have HT := Hid.mk' (hT.kept hkA)
  have hkB : Kept w ((w.alloc (.cells #[.int .i64 S.id, .slice X.g S.groups.length X.gc, .slice X.a S.apart.length X.ac, .slice X.b S.between.length X.bc, .slice X.p S.phases.length X.pc, .slice X.e S.eyes.length X.ec, .int .i64 S.watch, .int .i64 S.feed, .int .i64 S.heal, .int .i64 S.low, .int .i64 S.high, .slice X.l S.plans.length X.lc] 35)).alloc (.cells #[.int .i64 p.cycle, .int .i64 p.offset, .slice a p.splits.length c] 24)) none := hkA.tr (Kept.alloc _ _ _ _ _)
  have HKB := Hid.mk' hkB
  have HS2 := Hid.mk' (h.kept hkB)
  have HT2 := Hid.mk' (hT.kept hkB)
  have hce := checkE_no hs
  clear h hT hkA hsb hkB
  go_enter Tryd.func21, Tryd.ntmps21
  go_wp2_with (go_at_call 20; refine (check_any HS2.out HT2.out).mono ?_; rintro e w2 ⟨rfl, hk2⟩; rw [hce])
  go_ret2
  exact ⟨rfl, HKB.out.tr hk2⟩
set_option maxRecDepth 100000 in
set_option maxHeartbeats 1000000 in
theorem planq_yes {X : Sa} {S : St} {w : World} (h : Sat w X S) (hT : Tabb w) (hs : siteB S = true) (p : Pl) (a : Option Addr) (c : Nat) (hI : Ints w a p.splits.length c p.splits) : Calls Tryd.prog 21 #[siteV X S, planV p a c] w fun e w' => e = .returned (.tuple #[.bool (planB S p), .int .i64 0]) ∧ Kept w w' none := by
  have hkA : Kept w (w.alloc (.cells #[.int .i64 S.id, .slice X.g S.groups.length X.gc, .slice X.a S.apart.length X.ac, .slice X.b S.between.length X.bc, .slice X.p S.phases.length X.pc, .slice X.e S.eyes.length X.ec, .int .i64 S.watch, .int .i64 S.feed, .int .i64 S.heal, .int .i64 S.low, .int .i64 S.high, .slice X.l S.plans.length X.lc] 35)) none := Kept.alloc _ _ _ _ _
  have hsb := sbox_alloc h 35
  have HSB := Hid.mk' hsb
  have HK := Hid.mk' hkA
  have HS := Hid.mk' (h.kept hkA)
  have HT := Hid.mk' (hT.kept hkA)
  have hkB : Kept w ((w.alloc (.cells #[.int .i64 S.id, .slice X.g S.groups.length X.gc, .slice X.a S.apart.length X.ac, .slice X.b S.between.length X.bc, .slice X.p S.phases.length X.pc, .slice X.e S.eyes.length X.ec, .int .i64 S.watch, .int .i64 S.feed, .int .i64 S.heal, .int .i64 S.low, .int .i64 S.high, .slice X.l S.plans.length X.lc] 35)).alloc (.cells #[.int .i64 p.cycle, .int .i64 p.offset, .slice a p.splits.length c] 24)) none := hkA.tr (Kept.alloc _ _ _ _ _)
  have HKB := Hid.mk' hkB
  have HS2 := Hid.mk' (h.kept hkB)
  have HT2 := Hid.mk' (hT.kept hkB)
  have HSB2 := Hid.mk' (hsb.kept (Kept.alloc _ #[.int .i64 p.cycle, .int .i64 p.offset, .slice a p.splits.length c] 24 (0, 0) none))
  have HI := Hid.mk' (hI.kept hkB)
  have hce := checkE_yes hs
  have HSp := Hid.mk' (span_may hs)
  have b3 := box3 (w.alloc (.cells #[.int .i64 S.id, .slice X.g S.groups.length X.gc, .slice X.a S.apart.length X.ac, .slice X.b S.between.length X.bc, .slice X.p S.phases.length X.pc, .slice X.e S.eyes.length X.ec, .int .i64 S.watch, .int .i64 S.feed, .int .i64 S.heal, .int .i64 S.low, .int .i64 S.high, .slice X.l S.plans.length X.lc] 35)) (.int .i64 p.cycle) (.int .i64 p.offset) (.slice a p.splits.length c) 24
  have HB3 := Hid.mk' b3
  clear h hT hkA hsb hkB hI b3
  go_enter Tryd.func21, Tryd.ntmps21
  go_wp2_with (first | (go_at_call 42; refine (fits_any (HSB2.out.kept hk2) (HT2.out.kept hk2) HSp.out p a c (HI.out.kept hk2)).mono ?_; rintro e w3 ⟨rfl, hk3⟩) | (go_at_call 20; refine (check_any HS2.out HT2.out).mono ?_; rintro e w2 ⟨rfl, hk2⟩; rw [hce]; have k0 := cell_kept0 HB3.out.1 hk2; have k1 := cell_kept0 HB3.out.2.1 hk2; have k2 := cell_kept0 HB3.out.2.2 hk2; rw [World.size_alloc] at k0 k1 k2))
  go_ret2
  exact ⟨rfl, (HKB.out.tr hk2).tr hk3⟩


/-- How a group stands. -/
structure Sn where
  asp : Nat
  since : Int
  ended : Int
/-- How a site stands. -/
structure Sf where
  groups : List Sn
  start : Int
  flashed : Bool
def n0 : Sn := ⟨0, 0, 0⟩
def Sf.g (F : Sf) (i : Nat) : Sn := F.groups.getD i n0
/-- The first of numbers that is not 0. -/
def firstN (f : Nat → Int) : Nat → Option Nat
  | 0 => none
  | n + 1 => match firstN f n with
    | some k => some k
    | none => if f n = 0 then none else some n
theorem firstN_cases (f : Nat → Int) (n : Nat) : (firstN f n = none ∧ ∀ j, j < n → f j = 0) ∨ ∃ k, firstN f n = some k ∧ k < n ∧ (∀ j, j < k → f j = 0) ∧ f k ≠ 0 := by
  induction n with
  | zero => exact .inl ⟨rfl, fun j hj => by omega⟩
  | succ n ih =>
    rcases ih with ⟨h1, h2⟩ | ⟨k, h1, h2, h3, h4⟩
    · by_cases e : f n = 0
      · refine .inl ⟨?_, fun j hj => ?_⟩
        · rw [firstN, h1]; simp [e]
        · by_cases hj' : j < n
          · exact h2 j hj'
          · rw [show j = n by omega]; exact e
      · exact .inr ⟨n, by rw [firstN, h1]; simp [e], by omega, h2, e⟩
    · exact .inr ⟨k, by rw [firstN, h1], by omega, h3, h4⟩
/-- A trace. -/
def tk (T : List (List Nat)) (k : Nat) : List Nat := T.getD k []
/-! ### In memory -/
def snV (s : Sn) (j : Nat) : Value := match j with
  | 0 => .int .u8 (s.asp : Int)
  | 1 => .int .i64 s.since
  | _ => .int .i64 s.ended
/-- A standing's groups lie where its slice leads. -/
structure SafeAt (w : World) (a : Option Addr) (c : Nat) (F : Sf) : Prop where
  lie : Lie w a F.groups.length 3 (fun i j => snV (F.g i) j)
  cap : Cap a F.groups.length c
  rng : ∀ s ∈ F.groups, s.asp < 256 ∧ i64B s.since ∧ i64B s.ended
theorem SafeAt.kept {w w' : World} {a : Option Addr} {c : Nat} {F : Sf} (h : SafeAt w a c F) (k : Kept w w' none) : SafeAt w' a c F := ⟨h.lie.kept k, h.cap, h.rng⟩
theorem SafeAt.at_ {w : World} {a : Option Addr} {c : Nat} {F : Sf} (h : SafeAt w a c F) {i : Nat} (hi : i < F.groups.length) : ∃ b off, a = some ⟨b, off, none⟩ ∧ b < w.heap.size ∧ w.cell? ⟨b, off + i * 3, none⟩ = some (.int .u8 ((F.g i).asp : Int)) ∧ w.cell? ⟨b, off + i * 3 + 1, none⟩ = some (.int .i64 (F.g i).since) ∧ w.cell? ⟨b, off + i * 3 + 2, none⟩ = some (.int .i64 (F.g i).ended) := by
  obtain ⟨b, off, e, hb, hc⟩ := h.lie.at_ (by omega)
  exact ⟨b, off, e, hb, hc i hi 0 (by omega), hc i hi 1 (by omega), hc i hi 2 (by omega)⟩
/-- A standing's groups in a block of one's own. -/
def gcell (g : Nat → Sn) (q : Nat) : Value := snV (g (q / 3)) (q % 3)
abbrev OwnG (w : World) (b n : Nat) (g : Nat → Sn) : Prop := w.rowIs b 95 (n * 3) (gcell g)
theorem OwnG.cells {w : World} {b n : Nat} {g : Nat → Sn} (h : OwnG w b n g) {i : Nat} (hi : i < n) : w.cell? ⟨b, i * 3, none⟩ = some (.int .u8 ((g i).asp : Int)) ∧ w.cell? ⟨b, i * 3 + 1, none⟩ = some (.int .i64 (g i).since) ∧ w.cell? ⟨b, i * 3 + 2, none⟩ = some (.int .i64 (g i).ended) := by
  have h0 := h.cell (i := i * 3) (by omega)
  have h1 := h.cell (i := i * 3 + 1) (by omega)
  have h2 := h.cell (i := i * 3 + 2) (by omega)
  unfold gcell at h0 h1 h2
  rw [show i * 3 / 3 = i by omega, show i * 3 % 3 = 0 by omega] at h0
  rw [show (i * 3 + 1) / 3 = i by omega, show (i * 3 + 1) % 3 = 1 by omega] at h1
  rw [show (i * 3 + 2) / 3 = i by omega, show (i * 3 + 2) % 3 = 2 by omega] at h2
  exact ⟨h0, h1, h2⟩
/-- One element stored. -/
theorem OwnG.set {w : World} {b n : Nat} {g : Nat → Sn} (h : OwnG w b n g) {i : Nat} (s : Sn) : OwnG (((w.setCell ⟨b, i * 3, none⟩ (.int .u8 (s.asp : Int))).setCell ⟨b, i * 3 + 1, none⟩ (.int .i64 s.since)).setCell ⟨b, i * 3 + 2, none⟩ (.int .i64 s.ended)) b n (fun k => if k = i then s else g k) := by
  refine (((World.rowIs.set h (i * 3) _).set (i * 3 + 1) _).set (i * 3 + 2) _).congr (fun q hq => ?_)
  show (if q = i * 3 + 2 then _ else if q = i * 3 + 1 then _ else if q = i * 3 then _ else gcell g q) = gcell _ q
  unfold gcell
  show _ = snV (if q / 3 = i then s else g (q / 3)) (q % 3)
  by_cases e : q / 3 = i
  · rcases (show q = i * 3 ∨ q = i * 3 + 1 ∨ q = i * 3 + 2 by omega) with e1 | e1 | e1
    · rw [if_neg (by omega), if_neg (by omega), if_pos e1, if_pos e, show q % 3 = 0 by omega]; rfl
    · rw [if_neg (by omega), if_pos e1, if_pos e, show q % 3 = 1 by omega]; rfl
    · rw [if_pos e1, if_pos e, show q % 3 = 2 by omega]; rfl
  · rw [if_neg (by omega), if_neg (by omega), if_neg (by omega), if_neg e]

end Go.Proofs.YtfhmfanmnhclfaaDoor
