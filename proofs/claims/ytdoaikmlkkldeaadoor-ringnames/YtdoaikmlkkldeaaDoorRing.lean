/-
  THE CONTRACTS of package ring's calls over a ring: what each answers, what becomes of memory.
-/
import Derived.Test.YtdoaikmlkkldeaaDoorRows
import Derived.Test.YtdoaikmlkkldeaaDoorMaths
import Derived.WalkKit
import Derived.WalkSpells
import Derived.WalkSmall
import Derived.Deep.QuietTactic
import Derived.BigQuiet
import Derived.Deep.OwnRows
import Derived.Laws.Tables
namespace Go.Proofs.YtdoaikmlkkldeaaDoor
open Go.RowKit Go.Lib Go.Deep
set_option linter.unusedVariables false
set_option linter.unusedSimpArgs false

theorem ret_int {k : IntKind} {a b : Int} (h : a = b) : Ending.returned (.int k a) = .returned (.int k b) := by rw [h]
theorem ret_bool {a b : Bool} (h : a = b) : Ending.returned (.bool a) = .returned (.bool b) := by rw [h]
theorem ret_int2 {k l : IntKind} {a b c d : Int} (h : a = b) (h' : c = d) : Ending.returned (.tuple #[.int k a, .int l c]) = .returned (.tuple #[.int k b, .int l d]) := by rw [h, h']

/-! ### Worlds -/

/-- Nothing that was there has turned, but for block 'row'. -/
structure Kept (w w' : World) (row : Option Nat) : Prop where
  os : w'.os = w.os
  tape : w'.tape = w.tape
  output : w'.output = w.output
  size : w.heap.size ≤ w'.heap.size
  block : ∀ k, k < w.heap.size → some k ≠ row → w'.heap[k]? = w.heap[k]?
  frozen : ∀ a, w'.frozen? a = w.frozen? a

theorem Kept.drewN (w : World) (m : Nat) (r : Option Nat) : Kept w (w.drewN m) r := ⟨rfl, rfl, rfl, Nat.le_refl _, fun _ _ _ => rfl, fun _ => rfl⟩
theorem Kept.refl (w : World) (r : Option Nat) : Kept w w r := ⟨rfl, rfl, rfl, Nat.le_refl _, fun _ _ _ => rfl, fun _ => rfl⟩
theorem Kept.trans {a b c : World} {r : Option Nat} (h : Kept a b r) (k : Kept b c r) : Kept a c r :=
  ⟨k.os.trans h.os, k.tape.trans h.tape, k.output.trans h.output, Nat.le_trans h.size k.size, fun i hi hr => (k.block i (Nat.lt_of_lt_of_le hi h.size) hr).trans (h.block i hi hr), fun a => (k.frozen a).trans (h.frozen a)⟩
theorem frozen_alloc_cells (w : World) (c : Array Value) (t : TypeId) (a : Addr) : (w.alloc (.cells c t)).frozen? a = w.frozen? a := ((Grown.refl w).alloc c t).2.1 a
theorem Kept.alloc (w : World) (c : Array Value) (t : TypeId) (r : Option Nat) : Kept w (w.alloc (.cells c t)) r :=
  ⟨rfl, rfl, rfl, by simp, fun k hk _ => Below.heap_alloc _ _ _ hk, frozen_alloc_cells w c t⟩
theorem frozen_setCell (w : World) (p : Addr) (v : Value) (a : Addr) : (w.setCell p v).frozen? a = w.frozen? a := World.frozen?_setCell ..
theorem Kept.setCell (w : World) (b o : Nat) (v : Value) : Kept w (w.setCell ⟨b, o, none⟩ v) (some b) :=
  ⟨rfl, rfl, rfl, by simp [World.setCell], fun k hk hr => Below.heap_setCell _ _ _ _ (fun e => hr (by rw [e])), fun a => frozen_setCell w _ v a⟩
/-- A store into a block that is new. -/
theorem Kept.setNew {a b : World} {r : Option Nat} (h : Kept a b r) {p : Addr} (hp : a.heap.size ≤ p.block) (v : Value) : Kept a (b.setCell p v) r :=
  ⟨h.os, h.tape, h.output, by simpa [World.setCell] using h.size, fun k hk hr => (Below.heap_setCell _ _ _ _ (by omega)).trans (h.block k hk hr), fun x => (frozen_setCell b p v x).trans (h.frozen x)⟩

/-- Below block B nothing has turned; no mark has. -/
structure Old (B : Nat) (w w' : World) : Prop where
  below : Below B w w'
  frozen : ∀ a, w'.frozen? a = w.frozen? a
theorem Old.refl (B : Nat) (w : World) : Old B w w := ⟨Below.refl _ _, fun _ => rfl⟩
theorem Old.kept {B : Nat} {w a b : World} {r : Option Nat} (h : Old B w a) (k : Kept a b r) (hB : B ≤ a.heap.size) (hr : ∀ i, r = some i → B ≤ i) : Old B w b :=
  ⟨h.below.trans ⟨k.os, k.tape, k.output, k.size, fun i hi => k.block i (by omega) (fun e => by have := hr i e.symm; omega)⟩, fun x => (k.frozen x).trans (h.frozen x)⟩
theorem Old.grown {w w' : World} (h : Old w.heap.size w w') : Grown w w' := ⟨h.below.frame _, h.frozen, h.below.size⟩

theorem row_kept {w w' : World} {b : Nat} {t : TypeId} {n : Nat} {f : Nat → Value} {r : Option Nat} (h : w.rowIs b t n f) (k : Kept w w' r) (hr : some b ≠ r) : w'.rowIs b t n f := h.of_block (k.block b h.lt hr)

/-! ### A ring in memory -/

/-- Block b is a ring for N numbers, into which L was pushed. -/
def IsRing (w : World) (b N : Nat) (L : List Int) : Prop := ∃ z : Nat → Int, w.rowIs b 34 1027 (fun i => .int .i64 (z i)) ∧ RInv N z L

theorem IsRing.kept {w w' : World} {b N : Nat} {L : List Int} {r : Option Nat} (h : IsRing w b N L) (k : Kept w w' r) (hr : some b ≠ r) : IsRing w' b N L := by
  obtain ⟨z, h1, h2⟩ := h
  exact ⟨z, row_kept h1 k hr, h2⟩
theorem IsRing.lt {w : World} {b N : Nat} {L : List Int} (h : IsRing w b N L) : b < w.heap.size := by obtain ⟨z, h1, h2⟩ := h; exact h1.lt
theorem IsRing.n1 {w : World} {b N : Nat} {L : List Int} (h : IsRing w b N L) : 1 ≤ N := by obtain ⟨z, h1, h2⟩ := h; exact h2.n1
theorem IsRing.n2 {w : World} {b N : Nat} {L : List Int} (h : IsRing w b N L) : N ≤ 1024 := by obtain ⟨z, h1, h2⟩ := h; exact h2.n2
theorem IsRing.cn {w : World} {b N : Nat} {L : List Int} (h : IsRing w b N L) : w.cell? ⟨b, 1024, none⟩ = some (.int .i64 (N : Int)) := by
  obtain ⟨z, h1, h2⟩ := h; rw [h1.cell (by omega), h2.sz]
theorem IsRing.cx {w : World} {b N : Nat} {L : List Int} (h : IsRing w b N L) : w.cell? ⟨b, 1025, none⟩ = some (.int .i64 ((L.length % N : Nat) : Int)) := by
  obtain ⟨z, h1, h2⟩ := h; rw [h1.cell (by omega), h2.nx]
theorem IsRing.cm {w : World} {b N : Nat} {L : List Int} (h : IsRing w b N L) : w.cell? ⟨b, 1026, none⟩ = some (.int .i64 ((min L.length N : Nat) : Int)) := by
  obtain ⟨z, h1, h2⟩ := h; rw [h1.cell (by omega), h2.mn]
theorem IsRing.cp {w : World} {b N : Nat} {L : List Int} (h : IsRing w b N L) (k : Nat) (hk : k < min L.length N) : w.cell? ⟨b, (L.length - 1 - k) % N, none⟩ = some (.int .i64 (L.getD (L.length - 1 - k) 0)) := by
  obtain ⟨z, h1, h2⟩ := h
  have := Nat.mod_lt (L.length - 1 - k) h2.n1
  have := h2.n2
  rw [h1.cell (by omega), h2.has _ (by omega) (by omega)]

/-! ### The calls -/

theorem made_any (b : Nat) (n : Int) (w : World) (hc : w.cell? ⟨b, 1024, none⟩ = some (.int .i64 n)) :
    Calls Tryd.prog 23 #[.pointer (some ⟨b, 0, none⟩)] w fun e w' => e = .returned (.bool (decide (0 < n))) ∧ w' = w := by
  go_enter Tryd.func23, Tryd.ntmps23
  go_wp2
  go_ret
  exact ⟨rfl, rfl⟩
theorem made_yes (b : Nat) (n : Int) (w : World) (h : 1 ≤ n) (hc : w.cell? ⟨b, 1024, none⟩ = some (.int .i64 n)) :
    Calls Tryd.prog 23 #[.pointer (some ⟨b, 0, none⟩)] w fun e w' => e = .returned (.bool true) ∧ w' = w := by
  refine (made_any b n w hc).mono ?_
  rintro e w' ⟨rfl, rfl⟩
  exact ⟨by rw [decide_eq_true (by omega)], rfl⟩
theorem made_ring {b N : Nat} {L : List Int} {w : World} (h : IsRing w b N L) :
    Calls Tryd.prog 23 #[.pointer (some ⟨b, 0, none⟩)] w fun e w' => e = .returned (.bool true) ∧ w' = w :=
  made_yes b N w (by have := h.n1; omega) h.cn

/-- The cells of a ring of nothing. -/
def zcells : Array Value := Array.replicate 1027 (.int .i64 0)
theorem info_ring : (Tryd.prog.info? 34).map (fun i => i.zero) = some (some (.agg zcells)) := by kernel_rfl
theorem zero_ring (w : World) : (zeroValue 34).run Tryd.prog w = .ok (.agg zcells) w := by
  obtain ⟨i, hi, hz⟩ := Option.map_eq_some_iff.1 info_ring
  simp [zeroValue, typeInfo, hi, hz]
theorem zcells_size : zcells.size = 1027 := by simp [zcells]
/-- A new ring's numbers. -/
def ringCells (n : Int) : Array Value := zcells.setIfInBounds 1024 (.int .i64 n)
theorem ringCells_size (n : Int) : (ringCells n).size = 1027 := by simp [ringCells, zcells]
theorem ringCells_get (n : Int) (i : Nat) (h : i < 1027) : (ringCells n)[i]? = some (.int .i64 (if i = 1024 then n else 0)) := by
  unfold ringCells
  rw [Array.getElem?_setIfInBounds]
  by_cases h1 : 1024 = i
  · subst h1; simp [zcells]
  · rw [if_neg h1]; simp [zcells, h, show i ≠ 1024 by omega]
theorem isRing_new (w : World) (n : Nat) (h1 : 1 ≤ n) (h2 : n ≤ 1024) : IsRing (w.alloc (.cells (ringCells n) 34)) w.heap.size n [] := by
  refine ⟨fun i => if i = 1024 then (n : Int) else 0, ?_, RInv.start h1 h2 (by simp) (by simp) (by simp)⟩
  have := World.rowIs_alloc w (ringCells n) 34 (fun i => .int .i64 (if i = 1024 then (n : Int) else 0)) (fun i hi => ringCells_get n i (by rwa [ringCells_size] at hi))
  rwa [ringCells_size] at this
set_option maxRecDepth 100000 in
theorem new_core (n : Int) (w : World) (h1 : 1 ≤ n) (h2 : n ≤ 1024) :
    Calls Tryd.prog 7 #[.int .i64 n] w fun e w' => e = .returned (.tuple #[.pointer (some ⟨w.heap.size, 0, none⟩), .int .i64 0]) ∧ w' = w.alloc (.cells (ringCells n) 34) := by
  unfold ringCells
  have hz := zero_ring
  have hs := zcells_size
  generalize zcells = Z at *
  go_enter Tryd.func7, Tryd.ntmps7
  go_wp2
  go_ret2
  exact ⟨rfl, rfl⟩
theorem new_yes (n : Nat) (m : Int) (e : m = (n : Int)) (w : World) (h1 : 1 ≤ n) (h2 : n ≤ 1024) :
    Calls Tryd.prog 7 #[.int .i64 m] w fun e w' => e = .returned (.tuple #[.pointer (some ⟨w.heap.size, 0, none⟩), .int .i64 0]) ∧ IsRing w' w.heap.size n [] ∧ w'.heap.size = w.heap.size + 1 ∧ Kept w w' none := by
  subst e
  refine (new_core n w (by omega) (by omega)).mono ?_
  rintro e w' ⟨rfl, rfl⟩
  exact ⟨rfl, isRing_new w n h1 h2, by simp, Kept.alloc _ _ _ _⟩
theorem new_no (n : Int) (w : World) (h : n < 1 ∨ 1024 < n) :
    Calls Tryd.prog 7 #[.int .i64 n] w fun e w' => e = .returned (.tuple #[.pointer none, .int .i64 2]) ∧ w' = w := by
  rcases h with h | h
  · go_enter Tryd.func7, Tryd.ntmps7
    go_wp2
    go_ret2
    exact ⟨rfl, rfl⟩
  · go_enter Tryd.func7, Tryd.ntmps7
    go_wp2
    go_ret2
    exact ⟨rfl, rfl⟩

theorem push_core (b p m n : Nat) (x y : Int) (w : World) (h1 : p < n) (h2 : m ≤ n) (h3 : n ≤ 1024)
    (cn : w.cell? ⟨b, 1024, none⟩ = some (.int .i64 n)) (cx : w.cell? ⟨b, 1025, none⟩ = some (.int .i64 p)) (cm : w.cell? ⟨b, 1026, none⟩ = some (.int .i64 m)) (cp : w.cell? ⟨b, p, none⟩ = some (.int .i64 y))
    (f1 : w.frozen? ⟨b, p, none⟩ = false) (f2 : w.frozen? ⟨b, 1025, none⟩ = false) (f3 : w.frozen? ⟨b, 1026, none⟩ = false) :
    Calls Tryd.prog 9 #[.pointer (some ⟨b, 0, none⟩), .int .i64 x] w fun e w' => e = .returned (.int .i64 0) ∧ ∃ k, w' = (((w.setCell ⟨b, p, none⟩ (.int .i64 x)).setCell ⟨b, 1025, none⟩ (.int .i64 (((p + 1) % n : Nat) : Int))).setCell ⟨b, 1026, none⟩ (.int .i64 ((min (m + 1) n : Nat) : Int))).drewN k := by
  have hq : p / 64 * 64 + p % 64 = p := by omega
  go_enter Tryd.func9, Tryd.ntmps9
  go_wp2_with (go_at_call 23; refine (made_yes _ _ _ (by omega) cn).mono ?_; rintro e w' ⟨rfl, rfl⟩)
  go_region
  all_goals go_wp2
  all_goals go_region
  all_goals go_wp2
  all_goals go_region
  all_goals go_wp2
  all_goals go_ret
  · refine ⟨rfl, 3, ?_⟩
    have e : ((min (m + 1) n : Nat) : Int) = (n : Int) := by omega
    rw [e]; rfl
  · refine ⟨rfl, 3, ?_⟩
    have e : ((min (m + 1) n : Nat) : Int) = (m : Int) + 1 := by omega
    rw [e]; rfl

theorem push_ring {b N : Nat} {L : List Int} {w : World} (h : IsRing w b N L) (x : Int) :
    Calls Tryd.prog 9 #[.pointer (some ⟨b, 0, none⟩), .int .i64 x] w fun e w' => e = .returned (.int .i64 0) ∧ IsRing w' b N (L ++ [x]) ∧ w'.heap.size = w.heap.size ∧ Kept w w' (some b) := by
  have hn1 := h.n1
  have hn2 := h.n2
  have hp := Nat.mod_lt L.length hn1
  obtain ⟨z, h1, h2⟩ := id h
  refine (push_core b (L.length % N) (min L.length N) N x _ w hp (by omega) hn2 h.cn h.cx h.cm (h1.cell (by omega)) (h1.frozen _) (h1.frozen _) (h1.frozen _)).mono ?_
  rintro e w' ⟨rfl, k, rfl⟩
  refine ⟨rfl, ⟨fun j => if j = 1026 then ((min (min L.length N + 1) N : Nat) : Int) else if j = 1025 then (((L.length % N + 1) % N : Nat) : Int) else if j = L.length % N then x else z j, ?_, ?_⟩, ?_, ?_⟩
  · refine World.rowIs.congr (((h1.set _ _).set _ _).set _ _) (fun i hi => ?_)
    by_cases a1 : i = 1026
    · simp only [if_pos a1]
    · by_cases a2 : i = 1025
      · simp only [if_neg a1, if_pos a2]
      · by_cases a3 : i = L.length % N
        · simp only [if_neg a1, if_neg a2, if_pos a3]
        · simp only [if_neg a1, if_neg a2, if_neg a3]
  · refine h2.push (x := x) ?_ ?_ ?_ ?_ ?_
    · simp; intro e; omega
    · simp
    · simp
    · show (if L.length % N = 1026 then _ else if L.length % N = 1025 then _ else if L.length % N = L.length % N then x else _) = x
      rw [if_neg (by omega), if_neg (by omega), if_pos rfl]
    · intro j hj hne
      simp [hne, show j ≠ 1026 by omega, show j ≠ 1025 by omega]
  · simp [World.setCell]
  · exact ((((Kept.setCell w b _ _).trans (Kept.setCell _ b _ _)).trans (Kept.setCell _ b _ _)).trans (Kept.drewN _ k _))

theorem back_core (b nx i n p : Nat) (x : Int) (w : World) (h1 : nx < n) (h2 : i < n) (h3 : n ≤ 1024) (hp : ((nx : Int) - 1 - i + n) % n = p) (hp2 : p < 1024)
    (cn : w.cell? ⟨b, 1024, none⟩ = some (.int .i64 n)) (cx : w.cell? ⟨b, 1025, none⟩ = some (.int .i64 nx)) (cp : w.cell? ⟨b, p, none⟩ = some (.int .i64 x)) :
    Calls Tryd.prog 24 #[.pointer (some ⟨b, 0, none⟩), .int .i64 i] w fun e w' => e = .returned (.int .i64 x) ∧ ∃ m, w' = w.drewN m := by
  have hq : p / 64 * 64 + p % 64 = p := by omega
  go_enter Tryd.func24, Tryd.ntmps24
  go_wp2
  go_quiet (fail)
  go_wp2
  go_ret
  exact ⟨rfl, _, rfl⟩
theorem back_ring {b N : Nat} {L : List Int} {w : World} (h : IsRing w b N L) (k : Nat) (i : Int) (e : i = (k : Int)) (hk : k < min L.length N) :
    Calls Tryd.prog 24 #[.pointer (some ⟨b, 0, none⟩), .int .i64 i] w fun e w' => e = .returned (.int .i64 (L.getD (L.length - 1 - k) 0)) ∧ ∃ m, w' = w.drewN m := by
  subst e
  have hn1 := h.n1
  have hn2 := h.n2
  have := Nat.mod_lt (L.length - 1 - k) hn1
  exact back_core b (L.length % N) k N _ _ w (Nat.mod_lt _ hn1) (by omega) hn2 (back_place hn1 hk) (by omega) h.cn h.cx (h.cp k hk)

theorem at_yes {b N : Nat} {L : List Int} {w : World} (h : IsRing w b N L) (k : Nat) (i : Int) (e : i = (k : Int)) (hk : k < min L.length N) :
    Calls Tryd.prog 8 #[.pointer (some ⟨b, 0, none⟩), .int .i64 i] w fun e w' => e = .returned (.tuple #[.int .i64 (L.getD (L.length - 1 - k) 0), .int .i64 0]) ∧ ∃ m, w' = w.drewN m := by
  subst e
  have cm := h.cm
  have hlt : (k : Int) < ((min L.length N : Nat) : Int) := by omega
  obtain ⟨q, hq⟩ : ∃ q, q = min L.length N := ⟨_, rfl⟩
  rw [← hq] at cm hlt hk
  have HQ : Hid (q = min L.length N) := hq
  clear hq
  go_enter Tryd.func8, Tryd.ntmps8
  go_wp2_with (first
    | (go_at_call 23; refine (made_ring h).mono ?_; rintro e w' ⟨rfl, rfl⟩)
    | (go_at_call 24; refine (back_ring h k _ rfl (by rw [← HQ.out]; omega)).mono ?_; rintro e w' ⟨rfl, m, rfl⟩))
  go_ret2
  exact ⟨rfl, _, rfl⟩
theorem at_no {b N : Nat} {L : List Int} {w : World} (h : IsRing w b N L) (i : Int) (hi : i < 0 ∨ ((min L.length N : Nat) : Int) ≤ i) :
    Calls Tryd.prog 8 #[.pointer (some ⟨b, 0, none⟩), .int .i64 i] w fun e w' => e = .returned (.tuple #[.int .i64 0, .int .i64 2]) ∧ w' = w := by
  have cm := h.cm
  obtain ⟨q, hq⟩ : ∃ q, q = min L.length N := ⟨_, rfl⟩
  rw [← hq] at cm hi
  clear hq
  rcases hi with hi | hi
  all_goals
    go_enter Tryd.func8, Tryd.ntmps8
    go_wp2_with (go_at_call 23; refine (made_ring h).mono ?_; rintro e w' ⟨rfl, rfl⟩)
    go_ret2
    exact ⟨rfl, rfl⟩

end Go.Proofs.YtdoaikmlkkldeaaDoor
