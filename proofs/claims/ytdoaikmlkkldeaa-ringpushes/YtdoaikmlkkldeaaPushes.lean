/-
  THE WALK of RingPushes.
-/
import Derived.Test.YtdoaikmlkkldeaaRefSum
import Derived.Test.YtdoaikmlkkldeaaRefPush
namespace Go.Proofs.Ytdoaikmlkkldeaa
open Go.RowKit Go.Lib Go.Deep
set_option linter.unusedVariables false
set_option linter.unusedSimpArgs false

theorem pushes_long (n : Int) (a : Option Addr) (len cap : Nat) (i : Int) (w : World) (h : 200 < len) (h2 : len ≤ 9223372036854775807) :
    Calls Try.prog 3 #[.int .i64 n, .slice a len cap, .int .i64 i] w fun e w' => e = .returned (.bool true) ∧ Below w.heap.size w w' := by
  go_enter Try.func3, Try.ntmps3
  go_wp2_with fail
  go_ret
  exact ⟨rfl, Below.refl _ _⟩

theorem Kept.below {w w' : World} (h : Kept w w' none) : Below w.heap.size w w' := ⟨h.os, h.tape, h.output, h.size, fun k hk => h.block k hk (by simp)⟩

theorem pushes_bad (n : Int) (a : Option Addr) (len cap : Nat) (i : Int) (w : World) (h : len ≤ 200) (hn : n < 1 ∨ 1024 < n) :
    Calls Try.prog 3 #[.int .i64 n, .slice a len cap, .int .i64 i] w fun e w' => e = .returned (.bool true) ∧ Below w.heap.size w w' := by
  go_enter Try.func3, Try.ntmps3
  go_wp2_with (first
    | (go_at_call 6; refine (new_no _ _ hn).mono ?_; rintro e w1 ⟨rfl, rfl⟩)
    | (go_at_call 7; refine (rnew_no _ _ hn).mono ?_; rintro e w2 ⟨rfl, hs, hk⟩))
  go_ret
  exact ⟨rfl, hk.below.alloc (by omega) _⟩

/-- What At answers. -/
def aV (N : Nat) (L : List Int) (i : Int) : Int := if 0 ≤ i ∧ i < ((min L.length N : Nat) : Int) then L.getD (L.length - 1 - i.toNat) 0 else 0
def aE (N : Nat) (L : List Int) (i : Int) : Int := if 0 ≤ i ∧ i < ((min L.length N : Nat) : Int) then 0 else 2
theorem at_any {b N : Nat} {L : List Int} {w : World} (h : IsRing w b N L) (i : Int) :
    Calls Try.prog 8 #[.pointer (some ⟨b, 0, none⟩), .int .i64 i] w fun e w' => e = .returned (.tuple #[.int .i64 (aV N L i), .int .i64 (aE N L i)]) ∧ ∃ m, w' = w.drewN m := by
  unfold aV aE
  by_cases hi : 0 ≤ i ∧ i < ((min L.length N : Nat) : Int)
  · rw [if_pos hi, if_pos hi]
    exact at_yes h i.toNat i (by omega) (by omega)
  · rw [if_neg hi, if_neg hi]
    refine (at_no h i (by omega)).mono ?_
    rintro e w' ⟨rfl, rfl⟩
    exact ⟨rfl, 0, rfl⟩
theorem rat_any {a : Option Addr} {c N : Nat} {L : List Int} {w : World} (h : Src w a c L) (h1 : 1 ≤ N) (h2 : N ≤ 1024) (h4 : L.length ≤ 200) (k : Nat) (hk : k = L.length) (i : Int) :
    Calls Try.prog 9 #[.agg #[.int .i64 N, .slice a k c], .int .i64 i] w fun e w' => e = .returned (.tuple #[.int .i64 (aV N L i), .int .i64 (aE N L i)]) ∧ w'.heap.size = w.heap.size + 2 ∧ Kept w w' none := by
  unfold aV aE
  by_cases hi : 0 ≤ i ∧ i < ((min L.length N : Nat) : Int)
  · rw [if_pos hi, if_pos hi]
    exact rat_yes h h1 h2 h4 k hk i.toNat i (by omega) (by omega)
  · rw [if_neg hi, if_neg hi]
    exact rat_no h h1 h2 h4 k hk i (by omega)

/-- What stands at the head of a round: the ring (M pushed), the document's ring in block sb (M' pushed), the numbers that came in. -/
structure Stand (w W : World) (r sb N : Nat) (M M' : List Int) (a : Option Addr) (c : Nat) : Prop where
  ring : IsRing W r N M
  src : Src W a c M'
  s0 : W.cell? ⟨sb, 0, none⟩ = some (.int .i64 N)
  s1 : W.cell? ⟨sb, 1, none⟩ = some (.slice a M'.length c)
  f0 : W.frozen? ⟨sb, 0, none⟩ = false
  f1 : W.frozen? ⟨sb, 1, none⟩ = false
  old : Below w.heap.size w W
  hr : w.heap.size ≤ r
  hs : w.heap.size ≤ sb
  ne : r ≠ sb
  lt : sb < W.heap.size
  na : ∀ g, a = some ⟨g, 0, none⟩ → g ≠ r ∧ g ≠ sb
theorem Stand.kept {w W W' : World} {r sb N : Nat} {M M' : List Int} {a : Option Addr} {c : Nat} {x : Option Nat} (h : Stand w W r sb N M M' a c) (k : Kept W W' x) (h1 : some r ≠ x) (h2 : some sb ≠ x) (h3 : ∀ g, a = some ⟨g, 0, none⟩ → some g ≠ x) (h4 : ∀ y, x = some y → w.heap.size ≤ y) : Stand w W' r sb N M M' a c :=
  ⟨h.ring.kept k h1, h.src.kept k h3, (World.cell?_of_block (w := W) (k.block sb h.lt h2)).trans h.s0, (World.cell?_of_block (w := W) (k.block sb h.lt h2)).trans h.s1, (k.frozen _).trans h.f0, (k.frozen _).trans h.f1,
    h.old.trans ⟨k.os, k.tape, k.output, k.size, fun i hi => k.block i (Nat.lt_of_lt_of_le hi h.old.size) (fun e => by have := h4 i e.symm; omega)⟩, h.hr, h.hs, h.ne, Nat.lt_of_lt_of_le h.lt k.size, h.na⟩
theorem Stand.keptN {w W W' : World} {r sb N : Nat} {M M' : List Int} {a : Option Addr} {c : Nat} (h : Stand w W r sb N M M' a c) (k : Kept W W' none) : Stand w W' r sb N M M' a c :=
  h.kept k (by simp) (by simp) (fun _ _ => by simp) (fun _ h => by cases h)
theorem Kept.drew1 (w : World) (r : Option Nat) : Kept w w.drew r := Kept.drewN w 1 r
theorem Stand.push {w W W' : World} {r sb N : Nat} {M M' : List Int} {a : Option Addr} {c : Nat} {x : Int} (h : Stand w W r sb N M M' a c) (hr : IsRing W' r N (M ++ [x])) (k : Kept W W' (some r)) : Stand w W' r sb N (M ++ [x]) M' a c :=
  have h2 : some sb ≠ some r := fun e => h.ne (by injection e with e; exact e.symm)
  ⟨hr, h.src.kept k (fun g hg e => (h.na g hg).1 (by injection e)), (World.cell?_of_block (w := W) (k.block sb h.lt h2)).trans h.s0, (World.cell?_of_block (w := W) (k.block sb h.lt h2)).trans h.s1, (k.frozen _).trans h.f0, (k.frozen _).trans h.f1,
    h.old.trans ⟨k.os, k.tape, k.output, k.size, fun i hi => k.block i (Nat.lt_of_lt_of_le hi h.old.size) (fun e => by injection e with e; have := h.hr; omega)⟩, h.hr, h.hs, h.ne, Nat.lt_of_lt_of_le h.lt k.size, h.na⟩
/-- Behind the document's push: what it answered is stored. -/
theorem Stand.store {w W W1 : World} {r sb N g c' m : Nat} {M M' M'' : List Int} {a : Option Addr} {c : Nat} (h : Stand w W r sb N M M' a c) (hb : Below W.heap.size W W1) (hg : W.heap.size ≤ g) (hs : Src W1 (some ⟨g, 0, none⟩) c' M'') (e : m = M''.length) :
    Stand w ((W1.setCell ⟨sb, 0, none⟩ (.int .i64 N)).setCell ⟨sb, 1, none⟩ (.slice (some ⟨g, 0, none⟩) m c')) r sb N M M'' (some ⟨g, 0, none⟩) c' := by
  subst e
  have hlt := h.lt
  have hrl := h.ring.lt
  have hws := h.old.size
  have hc1 : W1.cell? ⟨sb, 1, none⟩ = some (.slice a M'.length c) := (hb.cell (by exact hlt)).trans h.s1
  have hc0 : W1.cell? ⟨sb, 0, none⟩ = some (.int .i64 N) := (hb.cell (by exact hlt)).trans h.s0
  have kk : ((W1.setCell ⟨sb, 0, none⟩ (.int .i64 N)).setCell ⟨sb, 1, none⟩ (.slice (some ⟨g, 0, none⟩) M''.length c')).heap[r]? = W.heap[r]? :=
    (Below.heap_setCell _ _ _ _ h.ne).trans ((Below.heap_setCell _ _ _ _ h.ne).trans (hb.block r hrl))
  refine ⟨?_, (hs.set _ _ (by simp; omega)).set _ _ (by simp; omega), ?_, ?_, ?_, ?_, ?_, h.hr, h.hs, h.ne, ?_, ?_⟩
  · obtain ⟨z, z1, z2⟩ := h.ring
    exact ⟨z, z1.of_block kk, z2⟩
  · have e0 : ((⟨sb, 0, none⟩ : Addr) = ⟨sb, 1, none⟩) = False := by simp
    go_simp
  · have e0 : ((⟨sb, 0, none⟩ : Addr) = ⟨sb, 1, none⟩) = False := by simp
    go_simp
  · exact (frozen_setCell _ _ _ _).trans ((frozen_setCell _ _ _ _).trans ((hb.frozen (by exact hlt)).trans h.f0))
  · exact (frozen_setCell _ _ _ _).trans ((frozen_setCell _ _ _ _).trans ((hb.frozen (by exact hlt)).trans h.f1))
  · exact ((h.old.trans (hb.mono hws)).setCell h.hs _).setCell h.hs _
  · have := hb.size
    simp [World.setCell]; omega
  · intro g' e
    injection e with e
    injection e with e _
    omega

/-- What the loads of the great test read. -/
theorem keep3 {w W W' : World} {r sb N k : Nat} {M M' : List Int} {a : Option Addr} {c : Nat} (h : Stand w W r sb N M M' a c) (e : M'.length = k) (h2 : Kept W W' none) :
    W'.cell? ⟨sb, 0, none⟩ = some (.int .i64 N) ∧ W'.cell? ⟨sb, 1, none⟩ = some (.slice a k c) ∧ Kept W W' none := by
  subst e
  exact ⟨(h.keptN h2).s0, (h.keptN h2).s1, h2⟩
theorem sum_at {b N : Nat} {M : List Int} {w : World} (s : Int) (hs : stopS (lsum (lastN N M)) = s) (h : IsRing w b N M) (hL : ∀ j, -9223372036854775808 ≤ M.getD j 0 ∧ M.getD j 0 ≤ 9223372036854775807) :
    Calls Try.prog 11 #[.pointer (some ⟨b, 0, none⟩)] w fun e w' => e = .returned (.tuple #[.int .i64 s, .int .i64 0]) ∧ ∃ m, w' = w.drewN m := by
  subst hs; exact sum_ring h hL
theorem rsum_at {a : Option Addr} {c N : Nat} {M : List Int} {w : World} (s : Int) (hs : stopS (lsum (lastN N M)) = s) (h : Src w a c M) (h1 : 1 ≤ N) (h2 : N ≤ 1024) (h4 : M.length ≤ 200) (k : Nat) (hk : k = M.length) (hL : ∀ j, -9223372036854775808 ≤ M.getD j 0 ∧ M.getD j 0 ≤ 9223372036854775807) :
    Calls Try.prog 14 #[.agg #[.int .i64 N, .slice a k c]] w fun e w' => e = .returned (.int .i64 s) ∧ w'.heap.size = w.heap.size + 2 ∧ Kept w w' none := by
  subst hs
  refine rsum_src h h1 h2 h4 k hk (fun j => ?_)
  by_cases hj : j < min M.length N
  · rw [lastN_getD N M j hj]; exact hL _
  · have : (lastN N M).getD j 0 = 0 := by simp [List.getElem?_eq_none (show (lastN N M).length ≤ j by rw [lastN_length]; omega)]
    rw [this]; omega
theorem full_at {b N k : Nat} {M : List Int} {w : World} (h : IsRing w b N M) (hk : M.length = k) :
    Calls Try.prog 15 #[.pointer (some ⟨b, 0, none⟩)] w fun e w' => e = .returned (.bool (decide ((N : Int) ≤ (k : Int)))) ∧ ∃ m, w' = w.drewN m := by
  refine (full_ring h).mono ?_
  rintro e w' ⟨rfl, m⟩
  refine ⟨ret_bool ?_, m⟩
  rw [Bool.eq_iff_iff]; simp; omega

set_option maxRecDepth 100000 in
set_option maxHeartbeats 4000000 in
theorem pushes_main (N : Nat) (a : Option Addr) (len cap : Nat) (i : Int) (L : List Int) (w : World) (h : len ≤ 200) (h1 : 1 ≤ N) (h2 : N ≤ 1024) (hg : Given w a len L) :
    Calls Try.prog 3 #[.int .i64 N, .slice a len cap, .int .i64 i] w fun e w' => e = .returned (.bool true) ∧ Below w.heap.size w w' := by
  obtain ⟨hlen, _, hbd, hrow⟩ := hg
  have HLen : Hid (L.length = len) := hlen
  have HBd : Hid (∀ j, -9223372036854775808 ≤ L.getD j 0 ∧ L.getD j 0 ≤ 9223372036854775807) := hbd
  have HRow : Hid (0 < len → ∃ b off, a = some ⟨b, off, none⟩ ∧ b < w.heap.size ∧ ∀ i, i < len → w.cell? ⟨b, off + i, none⟩ = some (.int .i64 (L.getD i 0))) := hrow
  clear hlen hrow hbd
  go_enter Try.func3, Try.ntmps3
  go_wp2_with (first
    | (go_at_call 6; refine (new_yes N _ rfl _ h1 h2).mono ?_; rintro e w1 ⟨rfl, hr, hs1, hk1⟩)
    | (go_at_call 7; refine (rnew_yes _ _ (by omega) (by omega)).mono ?_; rintro e w2 ⟨rfl, hs2, hk2⟩; rw [hs1] at hs2))
  have hst0 : Stand w (w2.alloc (.cells #[.int .i64 N, .slice none 0 0] 28)) w.heap.size (w.heap.size + 1 + 1) N (L.take 0) (L.take 0) none 0 := by
    have hk : Kept w1 (w2.alloc (.cells #[.int .i64 N, .slice none 0 0] 28)) none := hk2.trans (Kept.alloc _ _ _ _)
    have hrow := World.rowIs_alloc w2 #[.int .i64 N, .slice none 0 0] 28 (fun i => (#[.int .i64 N, .slice none 0 0] : Array Value).getD i undef) (fun i hi => by simp at hi; rcases (show i = 0 ∨ i = 1 by omega) with rfl | rfl <;> rfl)
    rw [hs2] at hrow
    refine ⟨hr.kept hk (by simp), ⟨by omega, .inl ⟨rfl, rfl, rfl⟩⟩, hrow.cell (i := 0) (by simp), hrow.cell (i := 1) (by simp), hrow.frozen 0, hrow.frozen 1, ?_, Nat.le_refl _, by omega, by omega, hrow.lt, fun g h => by cases h⟩
    exact hk1.below.trans (hk.below.mono (by omega))
  generalize w2.alloc (.cells #[.int .i64 N, .slice none 0 0] 28) = W0 at *
  clear hr hk1 hk2 hs2 hs1
  generalize w.heap.size + 1 + 1 = sb at *
  go_loopw [11] (fun j wr => ∃ (k : Nat) (b : Option Addr) (c : Nat), k ≤ len + 1 ∧ j = .int .i64 k ∧ Stand w wr w.heap.size sb N (L.take k) (L.take k) b c) (fun j _ => len + 1 - (intOf j).toNat)
  case atStart => exact ⟨0, none, 0, Nat.zero_le _, rfl, hst0⟩
  case round =>
    clear hst0
    obtain ⟨k, b, c, hk, rfl, hst⟩ := hrel
    by_cases hlt : k ≤ len
    · obtain ⟨M, hM⟩ : ∃ M, M = L.take k := ⟨_, rfl⟩
      rw [← hM] at hst
      have HM : Hid (M = L.take k) := hM
      have HK : Hid (M.length = k) := by show _ = _; rw [hM, List.length_take, HLen.out]; omega
      have HBM : Hid (∀ j, -9223372036854775808 ≤ M.getD j 0 ∧ M.getD j 0 ≤ 9223372036854775807) := fun j => by
        rw [hM]; simp only [List.getD_eq_getElem?_getD, List.getElem?_take]
        split
        · have := HBd.out j; simpa using this
        · simp
      clear hM
      obtain ⟨q, hq⟩ : ∃ q, q = min k N := ⟨_, rfl⟩
      have hq2 : q ≤ 200 := by omega
      have HQ : Hid (min M.length N = q) := by show _ = _; rw [HK.out]; omega
      clear hq
      obtain ⟨sv, hsv⟩ : ∃ sv, stopS (lsum (lastN N M)) = sv := ⟨_, rfl⟩
      have HSV : Hid (stopS (lsum (lastN N M)) = sv) := hsv
      clear hsv
      obtain ⟨av, hav⟩ : ∃ av, aV N M i = av := ⟨_, rfl⟩
      obtain ⟨ae, hae⟩ : ∃ ae, aE N M i = ae := ⟨_, rfl⟩
      have HAT := fun (wx : World) (hx : IsRing wx w.heap.size N M) => at_any hx i
      have HRAT := fun (wx : World) (hx : Src wx b c M) => rat_any hx h1 h2 (by have := HK.out; omega) k HK.out.symm i
      rw [hav, hae] at HAT HRAT
      have HAT' : Hid _ := HAT
      have HRAT' : Hid _ := HRAT
      clear HAT HRAT hav hae
      have hs0 := hst.s0
      have hs1 := hst.s1
      rw [HK.out] at hs1
      go_wp2_with (first
        | (go_at_call 8; refine (HAT'.out _ hst.ring).mono ?_; rintro e w3 ⟨rfl, m3, rfl⟩; have hst3 := hst.keptN (Kept.drewN _ m3 none))
        | (go_at_call 9; refine (HRAT'.out _ hst3.src).mono ?_; rintro e w4 ⟨rfl, hz4, hk4⟩; have hst4 := hst3.keptN hk4)
        | (go_at_call 10; refine (all_ring' hst4.ring q HQ.out).mono ?_; rintro e w5 ⟨rfl, hrow, hz5, hk5⟩; have hst5 := hst4.keptN hk5)
        | (go_at_call 11; refine (sum_at sv HSV.out hst5.ring HBM.out).mono ?_; rintro e w6 ⟨rfl, m6, rfl⟩))
      rw [hz4] at hrow hz5
      simp only [World.heap_drewN] at hrow hz5
      have hgb : ∀ g, b = some ⟨g, 0, none⟩ → g < wr.heap.size := by
        intro g hg
        obtain ⟨_, ⟨_, h, _⟩ | ⟨g', h, _, _, hlt, _⟩⟩ := hst.src
        · rw [h] at hg; cases hg
        · rw [h] at hg; injection hg with hg; injection hg with hg _; omega
      have hsbl := hst.lt
      have hwl := hst.old.size
      have hrl := hst.ring.lt
      clear hst hst3 hst4 hk4 hk5 hz4 hs0 hs1 HAT' HRAT'
      generalize hgA : wr.heap.size + 2 = gA at *
      have hnav : (av != av) = false := by simp
      have hnae : (ae != ae) = false := by simp
      have hnsv : (sv != sv) = false := by simp
      have hnfb : (decide ((N : Int) ≤ (k : Int)) != decide ((N : Int) ≤ (k : Int))) = false := by simp
      go_region_held3 (fun w' => w'.cell? ⟨sb, 0, none⟩ = some (.int .i64 N) ∧ w'.cell? ⟨sb, 1, none⟩ = some (.slice b k c) ∧ Kept w5 w' none)
        ((refine keep3 hst5 HK.out ?_; first | assumption | exact Kept.drewN _ _ _ | exact Kept.drew1 _ _ | exact (Kept.drewN _ _ _).trans (Kept.drew1 _ _) | exact Kept.trans (by assumption) (Kept.drew1 _ _) | exact Kept.trans (by assumption) (Kept.drewN _ _ _)))
        (first
          | (go_at_call 13; go_split_ands; refine (rlast_src (hst5.keptN (by assumption)).src h1 h2 (by have := HK.out; omega) k q HK.out.symm HQ.out.symm).mono ?_; rintro e w7 ⟨a7, c7, rfl, hrd7, hz7, hk7⟩; have hk7' : Kept w5 w7 none := Kept.trans (by assumption) hk7)
          | (go_at_call 12; go_split_ands; refine (same_yes (f := fun j => (lastN N M).getD j 0) (fun _ => ⟨gA, 0, rfl, (row_kept hrow hk7' (by simp)).lt, fun j hj => by rw [Nat.zero_add]; exact (row_kept hrow hk7' (by simp)).cell hj⟩) hrd7 (by omega)).mono ?_; rintro e w8 ⟨rfl, m8, rfl⟩)
          | (go_at_call 14; go_split_ands; refine (rsum_at sv HSV.out (hst5.keptN (by assumption)).src h1 h2 (by have := HK.out; omega) k HK.out.symm HBM.out).mono ?_; rintro e w9 ⟨rfl, hz9, hk9⟩; have hk9' : Kept w5 w9 none := Kept.trans (by assumption) hk9)
          | (go_at_call 15; go_split_ands; refine (full_at (hst5.keptN (by assumption)).ring HK.out).mono ?_; rintro e w10 ⟨rfl, m10, rfl⟩))
      go_wp2_with fail
      have hst9 := hst5.keptN hk9'
      have hrow9 := row_kept hrow hk9' (by simp)
      clear hst5 hrow hk7 hk7' hrd7 hz7 hz9 hk9 hk9' hz5
      have hB : w.heap.size ≤ gA := by omega
      have hrA : w.heap.size ≠ gA := by omega
      have hsA : sb ≠ gA := by omega
      have HgA : Hid (∀ g, b = some ⟨g, 0, none⟩ → g ≠ gA) := fun g hg => by have := hgb g hg; omega
      clear hgA
      go_loopw [20] (fun u wx => ∃ z : Nat, z ≤ q ∧ u = .int .i64 z ∧ Stand w wx w.heap.size sb N M M b c ∧ ∃ f, wx.rowIs gA 3 q f) (fun u _ => q - (intOf u).toNat)
      case atStart => exact ⟨0, Nat.zero_le _, rfl, hst9.keptN (Kept.drewN _ _ _), _, hrow9⟩
      case round =>
        clear hst9 hrow9
        obtain ⟨z, hz, rfl, hstx, f, hrowx⟩ := hrel
        by_cases hzq : z < q
        · have hcx := hrowx.cell hzq
          have hfx := hrowx.frozen z
          go_wp2_with fail
          go_roundw
          case rel => exact ⟨z + 1, by omega, by go_num, hstx.kept (Kept.setCell _ gA z _) (by simpa using hrA) (by simpa using hsA) (fun g hg => by simpa using HgA.out g hg) (fun y h => by cases h; exact hB), _, hrowx.set _ _⟩
          case measure => simp [intOf]; omega
        · by_cases hkl : k < len
          · obtain ⟨bb, off, rfl, hbb, hcc⟩ := HRow.out (by omega)
            have hcl : wr.cell? ⟨bb, off + k, none⟩ = some (.int .i64 (L.getD k 0)) := (hstx.old.cell (by exact hbb)).trans (hcc k hkl)
            obtain ⟨x, hx⟩ : ∃ x, x = L.getD k 0 := ⟨_, rfl⟩
            have HT : Hid (L.take (k + 1) = M ++ [x]) := by rw [HM.out, hx]; exact take_snoc L k (by rw [HLen.out]; exact hkl)
            rw [← hx] at hcl
            clear hx hcc
            go_wp2_with (go_at_call 16; refine (push_ring hstx.ring _).mono ?_; rintro e w11 ⟨rfl, hr11, hz11, hk11⟩; have hst11 := hstx.push hr11 hk11)
            have hs0 := hst11.s0
            have hs1 := hst11.s1
            rw [HK.out] at hs1
            have hf0 := hst11.f0
            have hf1 := hst11.f1
            have hcl2 : w11.cell? ⟨bb, off + k, none⟩ = some (.int .i64 x) := by rw [← hcl]; exact World.cell?_of_block (w := wr) (hk11.block bb (by have := hstx.old.size; omega) (by simp; omega))
            have HKK : Hid (k + 1 = (M ++ [x]).length) := by show _ = _; rw [List.length_append, HK.out]; rfl
            clear hstx hrowx hr11 hk11 hz11 hcl
            have hst12 := hst11.keptN (Kept.drew1 w11 none)
            clear hst11
            go_region_with (go_at_call 17; refine (rpush_src hst12.src (by have := HK.out; omega) k HK.out.symm _ _).mono ?_; rintro e w12 ⟨g, c2, rfl, hg, hsrc, hbel⟩; have hd0 : w12.cell? ⟨sb, 0, none⟩ = some (.int .i64 N) := (hbel.cell (by exact hst12.lt)).trans hst12.s0; have hd1 : w12.cell? ⟨sb, 1, none⟩ = some (.slice b M.length c) := (hbel.cell (by exact hst12.lt)).trans hst12.s1; have he0 : w12.frozen? ⟨sb, 0, none⟩ = false := (hbel.frozen (by exact hst12.lt)).trans hst12.f0; have he1 : w12.frozen? ⟨sb, 1, none⟩ = false := (hbel.frozen (by exact hst12.lt)).trans hst12.f1)
            all_goals
              go_wp2_with fail
              go_roundw
              case rel => exact ⟨k + 1, _, _, by omega, by go_num, by rw [HT.out]; exact hst12.store hbel hg hsrc HKK.out⟩
              case measure => simp [intOf]; omega
          · have hkl' : len ≤ k := by omega
            go_wp2_with fail
            go_roundw
            case rel => exact ⟨k + 1, b, c, by omega, by go_num, by rw [List.take_of_length_le (by rw [HLen.out]; omega), ← List.take_of_length_le (i := k) (l := L) (by rw [HLen.out]; omega), ← HM.out]; exact hstx⟩
            case measure => simp [intOf]; omega
    · go_wp2_with fail
      go_ret
      exact ⟨rfl, hst.old⟩

end Go.Proofs.Ytdoaikmlkkldeaa
