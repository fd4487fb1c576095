/-
  Part 11 of the texts that the proofs of this seat stand on.
-/
import Derived.Test.YtoahbpdgbiachaaDoorPart1
import Derived.Laws.AppendOwnNone
import Derived.Test.YtoahbpdgbiachaaDoorPart3
import Derived.Laws.MakeOwn
import Derived.Test.YtoahbpdgbiachaaDoorPart10
import Derived.Test.YtoahbpdgbiachaaDoorPart9
import Derived.Deep.RegionHeld
/-
  A LIST IN NEW MEMORY: append(nil, list...), whatever its elements are.
-/
namespace Go.Proofs.YtoahbpdgbiachaaDoor
open Go.RowKit Go.Lib Go.Deep
set_option linter.unusedVariables false
set_option linter.unusedSimpArgs false

/-- A list's cells, one after the other. -/
def cellsL (n k : Nat) (f : Nat → Nat → Value) : List Value := (List.range (n * k)).map fun q => f (q / k) (q % k)
theorem cellsL_len (n k : Nat) (f : Nat → Nat → Value) : (cellsL n k f).length = n * k := by simp [cellsL]
theorem cellsL_at {n k q : Nat} {f : Nat → Nat → Value} (h : q < n * k) : (cellsL n k f)[q]? = some (f (q / k) (q % k)) := by
  unfold cellsL
  rw [List.getElem?_map, List.getElem?_range h]
  rfl
theorem cellsL_news {w : World} {b off n k : Nat} {f : Nat → Nat → Value} (hk : 0 < k) (hc : ∀ i, i < n → ∀ j, j < k → w.cell? ⟨b, off + i * k + j, none⟩ = some (f i j)) :
    ∀ j u, (cellsL n k f)[j]? = some u → w.cell? ((⟨b, off, none⟩ : Addr).add j) = some u := by
  intro j u hu
  have hj : j < n * k := by have := (List.getElem?_eq_some_iff.1 hu).1; rwa [cellsL_len] at this
  rw [cellsL_at hj] at hu
  have h1 : j / k < n := by rw [Nat.div_lt_iff_lt_mul hk]; exact hj
  have h2 : j % k < k := Nat.mod_lt _ hk
  have h3 := hc _ h1 _ h2
  have h4 : off + j / k * k + j % k = off + j := by
    have := Nat.div_add_mod j k
    rw [Nat.mul_comm] at this
    omega
  rw [h4] at h3
  rw [Addr.add_lit, h3]
  exact hu
theorem cellsL_one {n k : Nat} {f : Nat → Nat → Value} (h : ∀ i j, (f i j).oneCell' = true) : ∀ u ∈ cellsL n k f, u.oneCell' = true := by
  intro u hu
  unfold cellsL at hu
  simp only [List.mem_map] at hu
  obtain ⟨x, _, rfl⟩ := hu
  exact h _ _
/-- What an own row holds, element by element. -/
theorem lie_own {w : World} {base n k : Nat} {e : TypeId} {v : Value} {f : Nat → Nat → Value} (hk : 0 < k) (h : w.ownsRow base e k v n (cellsL n k f)) : ∃ a cap, v = .slice a n cap ∧ Lie w a n k f ∧ Cap a n cap ∧ (∀ b, a = some b → base ≤ b.block ∧ b.block < w.heap.size) := by
  rcases id h.2 with ⟨rfl, rfl⟩ | ⟨g, cap, cur, rfl, hb, hg, hle, hm, hcs, ht⟩
  · exact ⟨none, 0, rfl, ⟨fun hp => absurd hp (by omega)⟩, ⟨fun _ => ⟨rfl, rfl⟩, Nat.le_refl _, by omega⟩, fun b e => nomatch e⟩
  · unfold maxLen at hm
    refine ⟨some ⟨g, 0, none⟩, cap, rfl, ⟨fun hp => ⟨g, 0, rfl, (Array.getElem?_eq_some_iff.1 hg).1, fun i hi j hj => ?_⟩⟩, ⟨fun e => (nomatch e), hle, by omega⟩, fun b e => by cases e; exact ⟨hb, (Array.getElem?_eq_some_iff.1 hg).1⟩⟩
    have hq : i * k + j < n * k := by
      have h1 : (i + 1) * k ≤ n * k := Nat.mul_le_mul_right k (by omega)
      rw [Nat.add_mul] at h1
      omega
    have h2 : (cur.toList.take (n * k))[i * k + j]? = some (f i j) := by
      rw [ht, cellsL_at hq]
      have h3 : (i * k + j) / k = i := by rw [Nat.add_comm, Nat.add_mul_div_right _ _ hk, Nat.div_eq_of_lt hj, Nat.zero_add]
      have h4 : (i * k + j) % k = j := by rw [Nat.add_comm, Nat.add_mul_mod_self_right, Nat.mod_eq_of_lt hj]
      rw [h3, h4]
    rw [List.getElem?_take_of_lt hq, Array.getElem?_toList] at h2
    rw [Nat.zero_add]
    simp only [World.cell?, hg]
    exact h2
/-- append(nil, list...). -/
theorem twin_run {w : World} {t ty e : TypeId} {i : TypeInfo} {z : Value} {k bytes : Nat} (ht : Tryd.prog.underlying t = some (.slice e)) (hi : Tryd.prog.info? e = some i) (hz : i.zero = some z) (hsize : i.size = k) (hby : i.bytes = bytes) (hzs : z.cells.size = k) (hk : 0 < k) (hbb : bytes ≤ 1000)
    {a : Option Addr} {n c : Nat} {f : Nat → Nat → Value} (hL : Lie w a n k f) (hc : Cap a n c) (hn : n ≤ 1000) (h1 : ∀ i j, (f i j).oneCell' = true) :
    ∃ a' cap w', (Builtin.append_ #[t, t] ty #[.slice none 0 0, .slice a n c]).run Tryd.prog w = .ok (.slice a' n cap) w' ∧ Lie w' a' n k f ∧ Cap a' n cap ∧ (∀ b, a' = some b → w.heap.size ≤ b.block ∧ b.block < w'.heap.size) ∧ Kept w w' none := by
  cases a with
  | none =>
    obtain ⟨rfl, rfl⟩ := hc.nil rfl
    have hrun := run_append_owned_none (P := Tryd.prog) (w := w) w.heap.size t ty e i k ht hi (.slice none 0 0) 0 [] (World.ownsRow_nil _ _ _ _)
    exact ⟨none, 0, w, hrun, ⟨fun hp => absurd hp (by omega)⟩, ⟨fun _ => ⟨rfl, rfl⟩, Nat.le_refl _, by omega⟩, fun b e => (nomatch e), Kept.refl _ _⟩
  | some ad =>
    have hnews : ∀ j u, (cellsL n k f)[j]? = some u → w.cell? (ad.add j) = some u := by
      by_cases hp : 0 < n
      · obtain ⟨b, off, e, _, hcell⟩ := hL.at_ hp
        injection e with e
        subst e
        exact cellsL_news hk hcell
      · intro j u hu
        have hn0 : n = 0 := by omega
        subst hn0
        simp [cellsL] at hu
    have hbytes : (0 + n) * bytes ≤ 140737488355328 := by
      have h2 : n * bytes ≤ 1000 * 1000 := Nat.mul_le_mul hn hbb
      rw [Nat.zero_add]
      omega
    obtain ⟨v', w', hr, h2, h3, _⟩ := run_append_own (P := Tryd.prog) w w.heap.size t ty e i z k bytes ht hi hz hsize hby hzs hk (.slice none 0 0) 0 [] (World.ownsRow_nil _ _ _ _) ad n c (cellsL n k f) (cellsL_len _ _ _) hnews (cellsL_one h1) (by unfold maxLen; omega) hbytes (Nat.le_refl _)
    rw [Nat.zero_add, List.nil_append] at h2
    obtain ⟨a', cap, rfl, g1, g2, g3⟩ := lie_own hk h2
    exact ⟨a', cap, w', hr, g1, g2, g3, h3⟩

end Go.Proofs.YtoahbpdgbiachaaDoor

/-
  WORLDS THAT DIFFER IN OLD BLOCKS ALONE; a site's box, cell by cell.
-/
namespace Go.Proofs.YtoahbpdgbiachaaDoor
open Go.RowKit Go.Lib Go.Deep
set_option linter.unusedVariables false
set_option linter.unusedSimpArgs false

theorem kept_setZ (w : World) (b j : Nat) (v : Value) : Kept w (w.setCell ⟨b, j, none⟩ v) (some b) :=
  ⟨rfl, rfl, rfl, by simp [World.setCell], fun k hk hr => by
    simp only [World.setCell]
    rw [Array.getElem?_modify, if_neg (fun e => hr (by rw [e]))]⟩
theorem kept_newZ {w w' : World} {r : Option Nat} (h : Kept w w' r) {g : Nat} (hg : w.heap.size ≤ g) (j : Nat) (v : Value) : Kept w (w'.setCell ⟨g, j, none⟩ v) r :=
  ⟨h.os, h.tape, h.output, by simpa [World.setCell] using h.size, fun k hk hr => (Below.heap_setCell _ _ _ _ (by show k ≠ g; omega)).trans (h.block k hk hr)⟩
abbrev zSZ : Array Value := #[.int .i64 0, .slice none 0 0, .slice none 0 0, .slice none 0 0, .slice none 0 0, .slice none 0 0, .int .i64 0, .int .i64 0, .int .i64 0, .int .i64 0, .int .i64 0, .slice none 0 0]
def fSZ (c : Array Value) (i : Nat) : Value := c[i]?.getD undef
theorem fSZ_set (c : Array Value) (j : Nat) (v : Value) (hj : j < c.size) (i : Nat) : (if i = j then v else fSZ c i) = fSZ (c.setIfInBounds j v) i := by
  unfold fSZ
  rw [Array.getElem?_setIfInBounds]
  by_cases h : i = j
  · subst h; simp [hj]
  · rw [if_neg h, if_neg (fun e => h e.symm)]
structure LtrZ (lo : Nat) (w w' : World) : Prop where
  size : w.heap.size ≤ w'.heap.size
  block : ∀ k, lo ≤ k → k < w.heap.size → w'.heap[k]? = w.heap[k]?
theorem LtrZ.tr {lo : Nat} {a b c : World} (h : LtrZ lo a b) (k : LtrZ lo b c) : LtrZ lo a c := ⟨Nat.le_trans h.size k.size, fun i hi hl => (k.block i hi (Nat.lt_of_lt_of_le hl h.size)).trans (h.block i hi hl)⟩
theorem LtrZ.up {lo lo' : Nat} {a b : World} (h : LtrZ lo a b) (q : lo ≤ lo') : LtrZ lo' a b := ⟨h.size, fun i hi hl => h.block i (Nat.le_trans q hi) hl⟩
theorem LtrZ.rfl' {lo : Nat} {a : World} : LtrZ lo a a := ⟨Nat.le_refl _, fun _ _ _ => rfl⟩
theorem Kept.ltrZ {w w' : World} {x lo : Nat} (h : Kept w w' (some x)) (hx : x < lo) : LtrZ lo w w' := ⟨h.size, fun k hk hl => h.block k hl (fun e => by have := Option.some.inj e; omega)⟩
theorem LtrZ.set {lo : Nat} (w : World) {g : Nat} (hg : g < lo) (j : Nat) (v : Value) : LtrZ lo w (w.setCell ⟨g, j, none⟩ v) := (kept_setZ w g j v).ltrZ hg
theorem LtrZ.cell {lo : Nat} {w w' : World} {b j : Nat} {v : Value} (q : LtrZ lo w w') (h : w.cell? ⟨b, j, none⟩ = some v) (hb : lo ≤ b) : w'.cell? ⟨b, j, none⟩ = some v :=
  (World.cell?_of_block (w := w) (a := ⟨b, j, none⟩) (q.block b hb (block_lt h))).trans h
theorem set12Z (v0 v1 v2 v3 v4 v5 v6 v7 v8 v9 v10 v11 : Value) : ((((((((((((zSZ.setIfInBounds 0 v0).setIfInBounds 1 v1).setIfInBounds 2 v2).setIfInBounds 3 v3).setIfInBounds 4 v4).setIfInBounds 5 v5).setIfInBounds 6 v6).setIfInBounds 7 v7).setIfInBounds 8 v8).setIfInBounds 9 v9).setIfInBounds 10 v10).setIfInBounds 11 v11) = #[v0, v1, v2, v3, v4, v5, v6, v7, v8, v9, v10, v11] := by simp only [zSZ, List.setIfInBounds_toArray, List.set_cons_zero, List.set_cons_succ]
theorem row12Z {w0 wx : World} {B lo : Nat} (h : wx.rowIs B 48 12 (fSZ zSZ)) (hk : Kept w0 wx none) (hB : w0.heap.size ≤ B) (hl : B < lo) (v0 v1 v2 v3 v4 v5 v6 v7 v8 v9 v10 v11 : Value) : Kept w0 ((((((((((((wx.setCell ⟨B, 0, none⟩ v0).setCell ⟨B, 1, none⟩ v1).setCell ⟨B, 2, none⟩ v2).setCell ⟨B, 3, none⟩ v3).setCell ⟨B, 4, none⟩ v4).setCell ⟨B, 5, none⟩ v5).setCell ⟨B, 6, none⟩ v6).setCell ⟨B, 7, none⟩ v7).setCell ⟨B, 8, none⟩ v8).setCell ⟨B, 9, none⟩ v9).setCell ⟨B, 10, none⟩ v10).setCell ⟨B, 11, none⟩ v11) none ∧ LtrZ lo wx ((((((((((((wx.setCell ⟨B, 0, none⟩ v0).setCell ⟨B, 1, none⟩ v1).setCell ⟨B, 2, none⟩ v2).setCell ⟨B, 3, none⟩ v3).setCell ⟨B, 4, none⟩ v4).setCell ⟨B, 5, none⟩ v5).setCell ⟨B, 6, none⟩ v6).setCell ⟨B, 7, none⟩ v7).setCell ⟨B, 8, none⟩ v8).setCell ⟨B, 9, none⟩ v9).setCell ⟨B, 10, none⟩ v10).setCell ⟨B, 11, none⟩ v11) ∧ ((((((((((((wx.setCell ⟨B, 0, none⟩ v0).setCell ⟨B, 1, none⟩ v1).setCell ⟨B, 2, none⟩ v2).setCell ⟨B, 3, none⟩ v3).setCell ⟨B, 4, none⟩ v4).setCell ⟨B, 5, none⟩ v5).setCell ⟨B, 6, none⟩ v6).setCell ⟨B, 7, none⟩ v7).setCell ⟨B, 8, none⟩ v8).setCell ⟨B, 9, none⟩ v9).setCell ⟨B, 10, none⟩ v10).setCell ⟨B, 11, none⟩ v11).cell? ⟨B, 0, none⟩ = some v0 ∧ ((((((((((((wx.setCell ⟨B, 0, none⟩ v0).setCell ⟨B, 1, none⟩ v1).setCell ⟨B, 2, none⟩ v2).setCell ⟨B, 3, none⟩ v3).setCell ⟨B, 4, none⟩ v4).setCell ⟨B, 5, none⟩ v5).setCell ⟨B, 6, none⟩ v6).setCell ⟨B, 7, none⟩ v7).setCell ⟨B, 8, none⟩ v8).setCell ⟨B, 9, none⟩ v9).setCell ⟨B, 10, none⟩ v10).setCell ⟨B, 11, none⟩ v11).cell? ⟨B, 1, none⟩ = some v1 ∧ ((((((((((((wx.setCell ⟨B, 0, none⟩ v0).setCell ⟨B, 1, none⟩ v1).setCell ⟨B, 2, none⟩ v2).setCell ⟨B, 3, none⟩ v3).setCell ⟨B, 4, none⟩ v4).setCell ⟨B, 5, none⟩ v5).setCell ⟨B, 6, none⟩ v6).setCell ⟨B, 7, none⟩ v7).setCell ⟨B, 8, none⟩ v8).setCell ⟨B, 9, none⟩ v9).setCell ⟨B, 10, none⟩ v10).setCell ⟨B, 11, none⟩ v11).cell? ⟨B, 2, none⟩ = some v2 ∧ ((((((((((((wx.setCell ⟨B, 0, none⟩ v0).setCell ⟨B, 1, none⟩ v1).setCell ⟨B, 2, none⟩ v2).setCell ⟨B, 3, none⟩ v3).setCell ⟨B, 4, none⟩ v4).setCell ⟨B, 5, none⟩ v5).setCell ⟨B, 6, none⟩ v6).setCell ⟨B, 7, none⟩ v7).setCell ⟨B, 8, none⟩ v8).setCell ⟨B, 9, none⟩ v9).setCell ⟨B, 10, none⟩ v10).setCell ⟨B, 11, none⟩ v11).cell? ⟨B, 3, none⟩ = some v3 ∧ ((((((((((((wx.setCell ⟨B, 0, none⟩ v0).setCell ⟨B, 1, none⟩ v1).setCell ⟨B, 2, none⟩ v2).setCell ⟨B, 3, none⟩ v3).setCell ⟨B, 4, none⟩ v4).setCell ⟨B, 5, none⟩ v5).setCell ⟨B, 6, none⟩ v6).setCell ⟨B, 7, none⟩ v7).setCell ⟨B, 8, none⟩ v8).setCell ⟨B, 9, none⟩ v9).setCell ⟨B, 10, none⟩ v10).setCell ⟨B, 11, none⟩ v11).cell? ⟨B, 4, none⟩ = some v4 ∧ ((((((((((((wx.setCell ⟨B, 0, none⟩ v0).setCell ⟨B, 1, none⟩ v1).setCell ⟨B, 2, none⟩ v2).setCell ⟨B, 3, none⟩ v3).setCell ⟨B, 4, none⟩ v4).setCell ⟨B, 5, none⟩ v5).setCell ⟨B, 6, none⟩ v6).setCell ⟨B, 7, none⟩ v7).setCell ⟨B, 8, none⟩ v8).setCell ⟨B, 9, none⟩ v9).setCell ⟨B, 10, none⟩ v10).setCell ⟨B, 11, none⟩ v11).cell? ⟨B, 5, none⟩ = some v5 ∧ ((((((((((((wx.setCell ⟨B, 0, none⟩ v0).setCell ⟨B, 1, none⟩ v1).setCell ⟨B, 2, none⟩ v2).setCell ⟨B, 3, none⟩ v3).setCell ⟨B, 4, none⟩ v4).setCell ⟨B, 5, none⟩ v5).setCell ⟨B, 6, none⟩ v6).setCell ⟨B, 7, none⟩ v7).setCell ⟨B, 8, none⟩ v8).setCell ⟨B, 9, none⟩ v9).setCell ⟨B, 10, none⟩ v10).setCell ⟨B, 11, none⟩ v11).cell? ⟨B, 6, none⟩ = some v6 ∧ ((((((((((((wx.setCell ⟨B, 0, none⟩ v0).setCell ⟨B, 1, none⟩ v1).setCell ⟨B, 2, none⟩ v2).setCell ⟨B, 3, none⟩ v3).setCell ⟨B, 4, none⟩ v4).setCell ⟨B, 5, none⟩ v5).setCell ⟨B, 6, none⟩ v6).setCell ⟨B, 7, none⟩ v7).setCell ⟨B, 8, none⟩ v8).setCell ⟨B, 9, none⟩ v9).setCell ⟨B, 10, none⟩ v10).setCell ⟨B, 11, none⟩ v11).cell? ⟨B, 7, none⟩ = some v7 ∧ ((((((((((((wx.setCell ⟨B, 0, none⟩ v0).setCell ⟨B, 1, none⟩ v1).setCell ⟨B, 2, none⟩ v2).setCell ⟨B, 3, none⟩ v3).setCell ⟨B, 4, none⟩ v4).setCell ⟨B, 5, none⟩ v5).setCell ⟨B, 6, none⟩ v6).setCell ⟨B, 7, none⟩ v7).setCell ⟨B, 8, none⟩ v8).setCell ⟨B, 9, none⟩ v9).setCell ⟨B, 10, none⟩ v10).setCell ⟨B, 11, none⟩ v11).cell? ⟨B, 8, none⟩ = some v8 ∧ ((((((((((((wx.setCell ⟨B, 0, none⟩ v0).setCell ⟨B, 1, none⟩ v1).setCell ⟨B, 2, none⟩ v2).setCell ⟨B, 3, none⟩ v3).setCell ⟨B, 4, none⟩ v4).setCell ⟨B, 5, none⟩ v5).setCell ⟨B, 6, none⟩ v6).setCell ⟨B, 7, none⟩ v7).setCell ⟨B, 8, none⟩ v8).setCell ⟨B, 9, none⟩ v9).setCell ⟨B, 10, none⟩ v10).setCell ⟨B, 11, none⟩ v11).cell? ⟨B, 9, none⟩ = some v9 ∧ ((((((((((((wx.setCell ⟨B, 0, none⟩ v0).setCell ⟨B, 1, none⟩ v1).setCell ⟨B, 2, none⟩ v2).setCell ⟨B, 3, none⟩ v3).setCell ⟨B, 4, none⟩ v4).setCell ⟨B, 5, none⟩ v5).setCell ⟨B, 6, none⟩ v6).setCell ⟨B, 7, none⟩ v7).setCell ⟨B, 8, none⟩ v8).setCell ⟨B, 9, none⟩ v9).setCell ⟨B, 10, none⟩ v10).setCell ⟨B, 11, none⟩ v11).cell? ⟨B, 10, none⟩ = some v10 ∧ ((((((((((((wx.setCell ⟨B, 0, none⟩ v0).setCell ⟨B, 1, none⟩ v1).setCell ⟨B, 2, none⟩ v2).setCell ⟨B, 3, none⟩ v3).setCell ⟨B, 4, none⟩ v4).setCell ⟨B, 5, none⟩ v5).setCell ⟨B, 6, none⟩ v6).setCell ⟨B, 7, none⟩ v7).setCell ⟨B, 8, none⟩ v8).setCell ⟨B, 9, none⟩ v9).setCell ⟨B, 10, none⟩ v10).setCell ⟨B, 11, none⟩ v11).cell? ⟨B, 11, none⟩ = some v11 := by
  have e := ((((((((((((((((((((((((h.set 0 v0).congr (fun i _ => fSZ_set _ 0 v0 (by simp [zSZ]) i)).set 1 v1).congr (fun i _ => fSZ_set _ 1 v1 (by simp [zSZ]) i)).set 2 v2).congr (fun i _ => fSZ_set _ 2 v2 (by simp [zSZ]) i)).set 3 v3).congr (fun i _ => fSZ_set _ 3 v3 (by simp [zSZ]) i)).set 4 v4).congr (fun i _ => fSZ_set _ 4 v4 (by simp [zSZ]) i)).set 5 v5).congr (fun i _ => fSZ_set _ 5 v5 (by simp [zSZ]) i)).set 6 v6).congr (fun i _ => fSZ_set _ 6 v6 (by simp [zSZ]) i)).set 7 v7).congr (fun i _ => fSZ_set _ 7 v7 (by simp [zSZ]) i)).set 8 v8).congr (fun i _ => fSZ_set _ 8 v8 (by simp [zSZ]) i)).set 9 v9).congr (fun i _ => fSZ_set _ 9 v9 (by simp [zSZ]) i)).set 10 v10).congr (fun i _ => fSZ_set _ 10 v10 (by simp [zSZ]) i)).set 11 v11).congr (fun i _ => fSZ_set _ 11 v11 (by simp [zSZ]) i))
  rw [set12Z] at e
  exact ⟨(kept_newZ (kept_newZ (kept_newZ (kept_newZ (kept_newZ (kept_newZ (kept_newZ (kept_newZ (kept_newZ (kept_newZ (kept_newZ (kept_newZ hk hB 0 v0) hB 1 v1) hB 2 v2) hB 3 v3) hB 4 v4) hB 5 v5) hB 6 v6) hB 7 v7) hB 8 v8) hB 9 v9) hB 10 v10) hB 11 v11), ((((((((((((LtrZ.rfl'.tr (LtrZ.set _ hl 0 v0)).tr (LtrZ.set _ hl 1 v1)).tr (LtrZ.set _ hl 2 v2)).tr (LtrZ.set _ hl 3 v3)).tr (LtrZ.set _ hl 4 v4)).tr (LtrZ.set _ hl 5 v5)).tr (LtrZ.set _ hl 6 v6)).tr (LtrZ.set _ hl 7 v7)).tr (LtrZ.set _ hl 8 v8)).tr (LtrZ.set _ hl 9 v9)).tr (LtrZ.set _ hl 10 v10)).tr (LtrZ.set _ hl 11 v11)), e.cell (i := 0) (by omega), e.cell (i := 1) (by omega), e.cell (i := 2) (by omega), e.cell (i := 3) (by omega), e.cell (i := 4) (by omega), e.cell (i := 5) (by omega), e.cell (i := 6) (by omega), e.cell (i := 7) (by omega), e.cell (i := 8) (by omega), e.cell (i := 9) (by omega), e.cell (i := 10) (by omega), e.cell (i := 11) (by omega)⟩
theorem frozen_blockZ {w w' : World} {b j : Nat} (h : w'.heap[b]? = w.heap[b]?) : w'.frozen? ⟨b, j, none⟩ = w.frozen? ⟨b, j, none⟩ := by
  unfold World.frozen?
  simp only [h]

end Go.Proofs.YtoahbpdgbiachaaDoor

/-
  PLANS IN NEW MEMORY.
-/
namespace Go.Proofs.YtoahbpdgbiachaaDoor
open Go.RowKit Go.Lib Go.Deep
set_option linter.unusedVariables false
set_option linter.unusedSimpArgs false

theorem Tryd.infoPl : (Tryd.prog.info? 113).map (fun i => (i.zero, i.size, i.bytes)) = some (some (.agg #[.int .i64 0, .int .i64 0, .slice none 0 0]), 3, 40) := by kernel_rfl
theorem Tryd.infoIn : (Tryd.prog.info? 3).map (fun i => (i.zero, i.size, i.bytes)) = some (some (.int .i64 0), 1, 8) := by kernel_rfl
theorem Tryd.uPls : Tryd.prog.underlying 46 = some (.slice 113) := by kernel_rfl
theorem Tryd.uIns : Tryd.prog.underlying 31 = some (.slice 3) := by kernel_rfl
theorem cellsL_snoc {n k : Nat} {f : Nat → Nat → Value} {g : Nat → Value} (hk : 0 < k) : cellsL n k f ++ (List.range k).map g = cellsL (n + 1) k (fun i j => if i = n then g j else f i j) := by
  unfold cellsL
  rw [Nat.add_mul, Nat.one_mul, List.range_add, List.map_append]
  congr 1
  · refine List.map_congr_left fun q hq => ?_
    have h1 : q / k < n := by rw [Nat.div_lt_iff_lt_mul hk]; exact List.mem_range.1 hq
    show f (q / k) (q % k) = if q / k = n then g (q % k) else f (q / k) (q % k)
    rw [if_neg (by omega)]
  · rw [List.map_map]
    refine List.map_congr_left fun j hj => ?_
    have hj' := List.mem_range.1 hj
    have h3 : (n * k + j) / k = n := by rw [Nat.add_comm, Nat.add_mul_div_right _ _ hk, Nat.div_eq_of_lt hj', Nat.zero_add]
    have h4 : (n * k + j) % k = j := by rw [Nat.add_comm, Nat.add_mul_mod_self_right, Nat.mod_eq_of_lt hj']
    show g j = if (n * k + j) / k = n then g ((n * k + j) % k) else f ((n * k + j) / k) ((n * k + j) % k)
    rw [h3, h4, if_pos rfl]
/-- One more element. -/
theorem grow_run {w : World} {t ty e : TypeId} {i : TypeInfo} {z : Value} {k bytes : Nat} (ht : Tryd.prog.underlying t = some (.slice e)) (hi : Tryd.prog.info? e = some i) (hz : i.zero = some z) (hsize : i.size = k) (hby : i.bytes = bytes) (hzs : z.cells.size = k) (hk : 0 < k) (hbb : bytes ≤ 1000)
    {base n c : Nat} {v : Value} {f : Nat → Nat → Value} (hown : w.ownsRow base e k v n (cellsL n k f)) {b o : Nat} {g : Nat → Value} (hg : ∀ j, j < k → w.cell? ⟨b, o + j, none⟩ = some (g j)) (h1 : ∀ j, (g j).oneCell' = true) (hn : n ≤ 1000) (hbase : base ≤ w.heap.size) :
    ∃ v' w', (Builtin.append_ #[t, t] ty #[v, .slice (some ⟨b, o, none⟩) 1 c]).run Tryd.prog w = .ok v' w' ∧ w'.ownsRow base e k v' (n + 1) (cellsL (n + 1) k (fun i j => if i = n then g j else f i j)) ∧ w.grownBy w' v.ownBlock ∧ (v'.ownBlock = v.ownBlock ∨ v'.ownBlock = some w.heap.size) := by
  have hbytes : (n + 1) * bytes ≤ 140737488355328 := by
    have h2 : (n + 1) * bytes ≤ 1001 * 1000 := Nat.mul_le_mul (by omega) hbb
    omega
  obtain ⟨v', w', hr, h2, h3, _, h5⟩ := run_append_own_at (P := Tryd.prog) w base t ty e i z k bytes ht hi hz hsize hby hzs hk v n _ hown ⟨b, o, none⟩ 1 c ((List.range k).map g) (by simp) (fun j u hu => by
    rw [List.getElem?_map] at hu
    have hj : j < k := by
      by_cases h : j < k
      · exact h
      · rw [List.getElem?_eq_none (by simpa using h)] at hu; simp at hu
    rw [List.getElem?_range hj] at hu
    rw [Addr.add_lit, hg j hj]
    exact hu) (fun u hu => by
    simp only [List.mem_map] at hu
    obtain ⟨x, _, rfl⟩ := hu
    exact h1 x) (by unfold maxLen; omega) hbytes hbase
  rw [cellsL_snoc hk] at h2
  exact ⟨v', w', hr, h2, h3, h5⟩
theorem wpList_app {ops : Array Oper} {rest : List Oper} {o : Oper} {act : Act} {Q : Exit → Act → World → Prop} {w w' : World} {v u v' : Value} (hgd : o.guard = none) (s x : Operand) (t : TypeId) (ho : o.op = .call { callee := .builtin .append, args := #[s, x], argTypes := #[t, t] }) (hs : act.eval s = v) (hx : act.eval x = u)
    (hr : (Builtin.append_ #[t, t] o.type #[v, u]).run Tryd.prog w = .ok v' w') (h : wpList Tryd.prog ops Q rest (act.put o.dst v') w') : wpList Tryd.prog ops Q (o :: rest) act w :=
  wpList_plain hgd fun K hK => by
    unfold Oper.wp execOp
    simp only [ho, resolve, invoke, builtin, Sem.run_bind, Sem.run_pure, Result.andThen_ok, List.map_toArray, List.map_cons, List.map_nil, hs, hx, hr]
    exact hK _ _ h
theorem Ints.keptS {w w' : World} {r : Option Nat} {a : Option Addr} {n c : Nat} {l : List Int} (h : Ints w a n c l) (q : Kept w w' r) (hr : ∀ b, a = some b → some b.block ≠ r) : Ints w' a n c l :=
  ⟨⟨fun hp => by
    obtain ⟨b, off, rfl, hb, hc⟩ := h.lie.at_ hp
    exact ⟨b, off, rfl, Nat.lt_of_lt_of_le hb q.size, fun i hi j hj => cell_keptR (hc i hi j hj) q (hr _ rfl)⟩⟩, h.size, h.cap, h.rng⟩
theorem ints_lt {w : World} {a : Option Addr} {n c : Nat} {l : List Int} (h : Ints w a n c l) (hp : 0 < n) : ∀ b, a = some b → b.block < w.heap.size := fun b e => by
  obtain ⟨b', off, e', hb, _⟩ := h.lie.at_ hp
  rw [e] at e'
  injection e' with e'
  subst e'
  exact hb
/-- As many plans as were met lie in new memory. -/
structure Tp (w : World) (l : List Pl) (wr : World) (k : Nat) (v : Value) : Prop where
  ex : ∃ r : Nat → Option Addr × Nat, wr.ownsRow w.heap.size 113 3 v k (cellsL k 3 (fun i j => plV (l.getD i q0) (r i).1 (r i).2 j)) ∧ (∀ i, i < k → Ints wr (r i).1 (l.getD i q0).splits.length (r i).2 (l.getD i q0).splits) ∧ (∀ i, i < k → ∀ b, (r i).1 = some b → v.ownBlock ≠ some b.block ∧ b.block < wr.heap.size ∧ w.heap.size ≤ b.block)
  kept : Kept w wr none
theorem own_lt {w : World} {base n k : Nat} {e : TypeId} {v : Value} {xs : List Value} (h : w.ownsRow base e k v n xs) : ∀ g, v.ownBlock = some g → base ≤ g ∧ g < w.heap.size := fun g hg => by
  rcases id h.2 with ⟨rfl, _⟩ | ⟨b, cap, cur, rfl, hb, hh, _⟩
  · cases hg
  · injection hg with hg
    subst hg
    exact ⟨hb, (Array.getElem?_eq_some_iff.1 hh).1⟩
theorem own_keptR' {w w' : World} {r : Option Nat} {base n k : Nat} {e : TypeId} {v : Value} {xs : List Value} (h : w.ownsRow base e k v n xs) (q : Kept w w' r) (hr : ∀ g, v.ownBlock = some g → some g ≠ r) : w'.ownsRow base e k v n xs := by
  refine ⟨h.1, ?_⟩
  rcases id h.2 with ⟨rfl, h0⟩ | ⟨b, cap, cur, rfl, hb, hh, h4⟩
  · exact .inl ⟨rfl, h0⟩
  · exact .inr ⟨b, cap, cur, rfl, hb, (q.block b (Array.getElem?_eq_some_iff.1 hh).1 (hr _ rfl)).trans hh, h4⟩
theorem alloc_at2 (F : World) (cs : Array Value) (t : TypeId) {n j : Nat} {v : Value} (hz : F.heap.size = n) (hv : cs[j]? = some v) : (F.alloc (.cells cs t)).cell? ⟨n, j, none⟩ = some v := by
  subst hz
  simp only [World.cell?_alloc_mark]
  exact hv
abbrev plB (p : Pl) (a : Option Addr) (c : Nat) : Obj := .cells #[.int .i64 p.cycle, .int .i64 p.offset, .slice a p.splits.length c] 113
theorem Tp.step {w wr W2 : World} {l : List Pl} {k : Nat} {v : Value} {ar a' : Option Addr} {cr cap : Nat} (h : Tp w l wr k v) (hk : k ≤ 40)
    (h2 : Kept (wr.alloc (plB (l.getD k q0) ar cr)) W2 none) (hI : Ints W2 a' (l.getD k q0).splits.length cap (l.getD k q0).splits) (hf : ∀ b, a' = some b → (wr.alloc (plB (l.getD k q0) ar cr)).heap.size ≤ b.block) (hl : ∀ b, a' = some b → b.block < W2.heap.size) :
    ∃ v' W5, (Builtin.append_ #[46, 46] 46 #[v, .slice (some ⟨W2.heap.size, 0, none⟩) 1 1]).run Tryd.prog ((W2.setCell ⟨wr.heap.size, 2, none⟩ (.slice a' (l.getD k q0).splits.length cap)).alloc (plB (l.getD k q0) a' cap)) = .ok v' W5 ∧ Tp w l W5 (k + 1) v' := by
  obtain ⟨⟨r, ho, hi, hb⟩, hkw⟩ := h
  obtain ⟨i0, hi0, hz0, hz1, hz2⟩ := info_parts Tryd.infoPl
  generalize hp : l.getD k q0 = p at *
  have hz : (wr.alloc (plB p ar cr)).heap.size = wr.heap.size + 1 := by simp
  have k1 : Kept wr W2 none := (Kept.alloc wr _ _ _ _).tr h2
  have k3 : Kept W2 (W2.setCell ⟨wr.heap.size, 2, none⟩ (.slice a' p.splits.length cap)) (some wr.heap.size) := kept_setZ _ _ _ _
  have z3 : (W2.setCell ⟨wr.heap.size, 2, none⟩ (.slice a' p.splits.length cap)).heap.size = W2.heap.size := by simp [World.setCell]
  have k4 : Kept (W2.setCell ⟨wr.heap.size, 2, none⟩ (.slice a' p.splits.length cap)) ((W2.setCell ⟨wr.heap.size, 2, none⟩ (.slice a' p.splits.length cap)).alloc (plB p a' cap)) none := Kept.alloc _ _ _ _ _
  have s2 := h2.size
  rw [hz] at s2
  have sw := hkw.size
  have z4 : ((W2.setCell ⟨wr.heap.size, 2, none⟩ (.slice a' p.splits.length cap)).alloc (plB p a' cap)).heap.size = W2.heap.size + 1 := by simp [World.setCell]
  have q0' : ∀ j, j < 3 → ((W2.setCell ⟨wr.heap.size, 2, none⟩ (.slice a' p.splits.length cap)).alloc (plB p a' cap)).cell? ⟨W2.heap.size, 0 + j, none⟩ = some (plV p a' cap j) := fun j hj => by
    have : j = 0 ∨ j = 1 ∨ j = 2 := by omega
    rw [Nat.zero_add]
    refine alloc_at2 _ _ _ z3 ?_
    rcases this with rfl | rfl | rfl <;> rfl
  generalize (W2.setCell ⟨wr.heap.size, 2, none⟩ (.slice a' p.splits.length cap)) = W3 at *
  generalize (W3.alloc (plB p a' cap)) = W4 at *
  have hol := own_lt ho
  have own4 : W4.ownsRow w.heap.size 113 3 v k (cellsL k 3 (fun i j => plV (l.getD i q0) (r i).1 (r i).2 j)) :=
    own_keptR' (own_keptR' (own_keptR' ho k1 (fun g _ => by simp)) k3 (fun g hg e => by have := (hol g hg).2; cases e; omega)) k4 (fun g _ => by simp)
  obtain ⟨v', W5, hr, g1, g2, g3⟩ := grow_run (t := 46) (ty := 46) (c := 1) Tryd.uPls hi0 hz0 hz1 hz2 rfl (by omega) (by omega) own4 q0' (fun j => by unfold plV; split <;> rfl) (by omega) (by omega)
  have bl : ∀ b, (∃ i, i < k ∧ (r i).1 = some b) → v.ownBlock ≠ some b.block ∧ b.block < wr.heap.size ∧ w.heap.size ≤ b.block := fun b ⟨i, hik, e⟩ => hb i hik b e
  have vfr : ∀ g, v'.ownBlock = some g → v.ownBlock = some g ∨ g = W4.heap.size := fun g hg => by
    rcases g3 with e | e
    · exact .inl (e.symm.trans hg)
    · rw [e] at hg; injection hg with hg; exact .inr hg.symm
  refine ⟨v', W5, hr, ⟨fun i => if i = k then (a', cap) else r i, ?_, fun i hik => ?_, fun i hik b e => ?_⟩, ?_⟩
  · have he : cellsL (k + 1) 3 (fun i j => if i = k then plV p a' cap j else plV (l.getD i q0) (r i).1 (r i).2 j) = cellsL (k + 1) 3 (fun i j => plV (l.getD i q0) ((if i = k then (a', cap) else r i) : Option Addr × Nat).1 ((if i = k then (a', cap) else r i) : Option Addr × Nat).2 j) := by
      unfold cellsL
      refine List.map_congr_left fun q _ => ?_
      show (if q / 3 = k then plV p a' cap (q % 3) else plV (l.getD (q / 3) q0) (r (q / 3)).1 (r (q / 3)).2 (q % 3)) = plV (l.getD (q / 3) q0) ((if q / 3 = k then (a', cap) else r (q / 3)) : Option Addr × Nat).1 ((if q / 3 = k then (a', cap) else r (q / 3)) : Option Addr × Nat).2 (q % 3)
      by_cases e : q / 3 = k
      · rw [if_pos e, if_pos e, e, hp]
      · rw [if_neg e, if_neg e]
    rw [← he]
    exact g1
  · show Ints W5 ((if i = k then (a', cap) else r i) : Option Addr × Nat).1 (l.getD i q0).splits.length ((if i = k then (a', cap) else r i) : Option Addr × Nat).2 (l.getD i q0).splits
    by_cases e : i = k
    · rw [if_pos e, e, hp]
      refine ((hI.keptS k3 (fun b eb ec => ?_)).kept k4).keptS g2 (fun b eb ec => ?_)
      · have := hf b eb
        rw [hz] at this
        injection ec with ec
        omega
      · have := hf b eb
        rw [hz] at this
        have h7 := (hol _ ec.symm).2
        omega
    · rw [if_neg e]
      have h8 := hi i (by omega)
      refine (((h8.kept k1).keptS k3 (fun b eb ec => ?_)).kept k4).keptS g2 (fun b eb ec => ?_)
      · have := (hb i (by omega) b eb).2.1
        injection ec with ec
        omega
      · exact (hb i (by omega) b eb).1 ec.symm
  · have s5 := g2.size
    change ((if i = k then (a', cap) else r i) : Option Addr × Nat).1 = some b at e
    by_cases ek : i = k
    · rw [if_pos ek] at e
      have h6 := hf b e
      rw [hz] at h6
      have h9 := hl b e
      refine ⟨fun ec => ?_, by omega, by omega⟩
      rcases vfr _ ec with h7 | h7
      · have := (hol _ h7).2
        omega
      · omega
    · rw [if_neg ek] at e
      have h6 := hb i (by omega) b e
      refine ⟨fun ec => ?_, by omega, h6.2.2⟩
      rcases vfr _ ec with h7 | h7
      · exact h6.1 h7
      · omega
  · have h5 : Kept w W4 none := by
      refine ⟨k4.os.trans (k3.os.trans (k1.os.trans hkw.os)), k4.tape.trans (k3.tape.trans (k1.tape.trans hkw.tape)), k4.output.trans (k3.output.trans (k1.output.trans hkw.output)), by omega, fun b hbw _ => ?_⟩
      exact (k4.block b (by omega) (by simp)).trans ((k3.block b (by omega) (fun e => by injection e with e; omega)).trans ((hkw.tr k1).block b hbw (by simp)))
    refine ⟨g2.os.trans h5.os, g2.tape.trans h5.tape, g2.output.trans h5.output, Nat.le_trans h5.size g2.size, fun b hbw _ => ?_⟩
    exact (g2.block b (by omega) (fun e => by have := (hol _ e.symm).1; omega)).trans (h5.block b hbw (by simp))

end Go.Proofs.YtoahbpdgbiachaaDoor

/-
  LISTS OF ONE'S OWN: numbers, one more behind.
-/
namespace Go.Proofs.YtoahbpdgbiachaaDoor
open Go.RowKit Go.Lib Go.Deep
set_option linter.unusedVariables false
set_option linter.unusedSimpArgs false

/-- A list of numbers in memory that lies behind a base. -/
def OwI (w : World) (base : Nat) (v : Value) (l : List Int) : Prop := w.ownsRow base 3 1 v l.length (cellsL l.length 1 (fun i _ => .int .i64 (l.getD i 0)))
theorem OwI.nil (w : World) (base : Nat) : OwI w base (.slice none 0 0) [] := World.ownsRow_nil _ _ _ _
theorem OwI.keptR {w w' : World} {r : Option Nat} {base : Nat} {v : Value} {l : List Int} (h : OwI w base v l) (q : Kept w w' r) (hr : ∀ g, v.ownBlock = some g → some g ≠ r) : OwI w' base v l := own_keptR' h q hr
theorem OwI.kept {w w' : World} {base : Nat} {v : Value} {l : List Int} (h : OwI w base v l) (q : Kept w w' none) : OwI w' base v l := h.keptR q (fun g _ => by simp)
theorem OwI.ints {w : World} {base : Nat} {v : Value} {l : List Int} (h : OwI w base v l) (hr : ∀ x ∈ l, -9223372036854775808 ≤ x ∧ x ≤ 9223372036854775807) : ∃ a c, v = .slice a l.length c ∧ Ints w a l.length c l ∧ ∀ b, a = some b → base ≤ b.block ∧ b.block < w.heap.size := by
  obtain ⟨a, cap, e, h1, h2, h3⟩ := lie_own (by omega) h
  exact ⟨a, cap, e, ⟨h1, rfl, h2, hr⟩, h3⟩
theorem getD_snoc (l : List Int) (x : Int) (i : Nat) : (l ++ [x]).getD i 0 = if i = l.length then x else l.getD i 0 := by
  by_cases h : i = l.length
  · subst h; simp
  · rw [if_neg h]
    by_cases h2 : i < l.length
    · simp [h2, List.getElem?_append_left]
    · rw [List.getD_eq_getElem?_getD, List.getD_eq_getElem?_getD, List.getElem?_eq_none (by simp; omega), List.getElem?_eq_none (by omega)]
theorem OwI.grow {w : World} {base : Nat} {v : Value} {l : List Int} (h : OwI w base v l) (x : Int) (hn : l.length ≤ 1000) (hb : base ≤ w.heap.size) :
    ∃ v' w', (Builtin.append_ #[31, 31] 31 #[v, .slice (some ⟨w.heap.size, 0, none⟩) 1 1]).run Tryd.prog (w.alloc (.cells #[.int .i64 x] 3)) = .ok v' w' ∧ OwI w' base v' (l ++ [x]) ∧ Kept w w' v.ownBlock ∧ (v'.ownBlock = v.ownBlock ∨ v'.ownBlock = some (w.heap.size + 1)) := by
  obtain ⟨i0, hi0, hz0, hz1, hz2⟩ := info_parts Tryd.infoIn
  have hk : Kept w (w.alloc (.cells #[.int .i64 x] 3)) none := Kept.alloc _ _ _ _ _
  have hz : (w.alloc (.cells #[.int .i64 x] 3)).heap.size = w.heap.size + 1 := by simp
  have hc : ∀ j, j < 1 → (w.alloc (.cells #[.int .i64 x] 3)).cell? ⟨w.heap.size, 0 + j, none⟩ = some (.int .i64 x) := fun j hj => by
    have : j = 0 := by omega
    subst this
    simp [World.cell?_alloc_mark]
  obtain ⟨v', w', hr, g1, g2, g3⟩ := grow_run (t := 31) (ty := 31) (c := 1) (g := fun _ => .int .i64 x) Tryd.uIns hi0 hz0 hz1 hz2 rfl (by omega) (by omega) (h.kept hk) hc (fun j => rfl) hn (by omega)
  rw [hz] at g3
  refine ⟨v', w', hr, ?_, ?_, g3⟩
  · unfold OwI
    rw [List.length_append]
    have e : (fun (i _ : Nat) => if i = l.length then Value.int .i64 x else .int .i64 (l.getD i 0)) = (fun (i _ : Nat) => Value.int .i64 ((l ++ [x]).getD i 0)) := by
      funext i _
      rw [getD_snoc]
      split <;> rfl
    rw [e] at g1
    exact g1
  · have h2 : Kept (w.alloc (.cells #[.int .i64 x] 3)) w' v.ownBlock := g2
    refine ⟨h2.os.trans hk.os, h2.tape.trans hk.tape, h2.output.trans hk.output, Nat.le_trans hk.size h2.size, fun i hi hne => (h2.block i (Nat.lt_of_lt_of_le hi hk.size) hne).trans (hk.block i hi (by simp))⟩
theorem OwI.lt {w : World} {base : Nat} {v : Value} {l : List Int} (h : OwI w base v l) : ∀ g, v.ownBlock = some g → base ≤ g ∧ g < w.heap.size := own_lt h
theorem OwI.far {w w' : World} {base : Nat} {v : Value} {l : List Int} (h : OwI w base v l) (k : Kept w w' v.ownBlock) {w0 : World} (h0 : Kept w0 w none) (hb : w0.heap.size ≤ base) : Kept w0 w' none :=
  ⟨k.os.trans h0.os, k.tape.trans h0.tape, k.output.trans h0.output, Nat.le_trans h0.size k.size, fun i hi _ => (k.block i (Nat.lt_of_lt_of_le hi h0.size) (fun e => by have := (h.lt i e.symm).1; omega)).trans (h0.block i hi (by simp))⟩
theorem mk_ints (c : Nat) (hc : c ≤ 1000000) (w : World) (base : Nat) (hb : base ≤ w.heap.size) : ∃ w', (Instr.makeSlice 31 (.int .i64 0) (.int .i64 (c : Int))).run Tryd.prog w = .ok (.slice (some ⟨w.heap.size, 0, none⟩) 0 c) w' ∧ OwI w' base (.slice (some ⟨w.heap.size, 0, none⟩) 0 c) [] ∧ Kept w w' none := by
  obtain ⟨i0, hi0, hz0, hz1, hz2⟩ := info_parts Tryd.infoIn
  obtain ⟨w1, hmk, hown, hg⟩ := run_make_own (P := Tryd.prog) w base 31 3 i0 _ 1 Tryd.uIns hi0 hz0 hz1 .i64 .i64 c (by rw [hz2]; omega) (by unfold maxLen; omega) hb
  exact ⟨w1, hmk, hown, hg⟩

end Go.Proofs.YtoahbpdgbiachaaDoor

/-
  THE CONTRACT of net.Cycles.
-/
namespace Go.Proofs.YtoahbpdgbiachaaDoor
open Go.RowKit Go.Lib Go.Deep
set_option linter.unusedVariables false
set_option linter.unusedSimpArgs false

/-- The first k cycles of a region. -/
def cycK (N : Nt) (k : Nat) : List Int := (List.range k).map (fun i : Nat => N.low + i * N.step)
def cycA (N : Nt) : List Int := if netB N = true then cycK N (((N.high - N.low) / N.step).toNat + 1) else []
theorem cycK_len (N : Nt) (k : Nat) : (cycK N k).length = k := by simp [cycK]
theorem cycK_succ (N : Nt) (k : Nat) : cycK N (k + 1) = cycK N k ++ [N.low + k * N.step] := by
  unfold cycK
  rw [List.range_succ, List.map_append]
  rfl
theorem cycK_at {N : Nt} {k i : Nat} (h : i < k) : (cycK N k).getD i 0 = N.low + i * N.step := by simp [cycK, h]
/-- What a region that may be tells of its cycles. -/
structure Cyc (N : Nt) (qt : Nat) : Prop where
  low : 1 ≤ N.low ∧ N.low ≤ 1048576
  high : N.low ≤ N.high ∧ N.high ≤ 1048576
  step : 1 ≤ N.step ∧ N.step ≤ 1048576
  all : N.high - N.low = qt * N.step
  few : qt ≤ 64
  quot : (N.high - N.low) / N.step = qt
  st : ∀ i, i < N.sites.length → (N.sites.getD i s0).low ≤ N.low ∧ N.high ≤ (N.sites.getD i s0).high
theorem cyc_may {N : Nt} (h : netB N = true) : ∃ qt : Nat, Cyc N qt ∧ cycA N = cycK N (qt + 1) := by
  have h0 := h
  unfold netB at h
  cases hl : lookF N with
  | none => rw [hl] at h; cases h
  | some M =>
    obtain ⟨hc, M1, M2, h1, h2, h3, h4, h5⟩ := lookF_parts hl
    unfold ncyclesB timeB at h4
    simp only [Bool.and_eq_true, inB_iff, decide_eq_true_eq, allB_iff] at h4
    obtain ⟨⟨⟨⟨⟨a1, a2⟩, a3⟩, a4⟩, a5⟩, a6⟩ := h4
    have hq0 : 0 ≤ (N.high - N.low) / N.step := Int.ediv_nonneg (by omega) (by omega)
    refine ⟨((N.high - N.low) / N.step).toNat, ⟨by omega, by omega, by omega, ?_, by omega, by omega, a6⟩, by unfold cycA; rw [if_pos h0]⟩
    rw [Int.toNat_of_nonneg hq0]
    have := Int.mul_ediv_add_emod (N.high - N.low) N.step
    rw [a4, Int.add_zero, Int.mul_comm] at this
    exact this.symm
theorem Cyc.le {N : Nt} {qt k : Nat} (h : Cyc N qt) (hk : k ≤ qt) : N.low + k * N.step ≤ N.high := by
  have h1 := h.all
  have h2 : (k : Int) * N.step ≤ qt * N.step := Int.mul_le_mul_of_nonneg_right (by omega) (by have := h.step; omega)
  omega
theorem Cyc.ge {N : Nt} {k : Nat} {qt : Nat} (h : Cyc N qt) : N.low ≤ N.low + k * N.step := by
  have h2 : 0 ≤ (k : Int) * N.step := Int.mul_nonneg (by omega) (by have := h.step; omega)
  omega
theorem Cyc.lt {N : Nt} {qt : Nat} (h : Cyc N qt) : N.low + ((qt + 1 : Nat) : Int) * N.step = N.high + N.step := by
  have h1 := h.all
  have h2 : ((qt + 1 : Nat) : Int) * N.step = qt * N.step + N.step := by rw [Int.natCast_add, Int.add_mul]; simp
  omega
theorem cycK_rng {N : Nt} {qt : Nat} (h : Cyc N qt) {k : Nat} (hk : k ≤ qt + 1) : ∀ x ∈ cycK N k, -9223372036854775808 ≤ x ∧ x ≤ 9223372036854775807 := fun x hx => by
  simp only [cycK, List.mem_map, List.mem_range] at hx
  obtain ⟨i, hi, rfl⟩ := hx
  have h1 := h.le (k := i) (by omega)
  have h2 := h.ge (k := i)
  have := h.low
  have := h.high
  omega
set_option maxRecDepth 100000 in
set_option maxHeartbeats 2000000 in
theorem ncycles_no {w : World} {Y : Na} {N : Nt} (h : NetAt w Y N) (hT : Tabb w) (hb : netB N = false) : Calls Tryd.prog 11 #[netV Y N] w fun e w' => e = .returned (.tuple #[.slice none 0 0, .int .i64 60]) ∧ Kept w w' none := by
  have hkA : Kept w (w.alloc (.cells #[.slice Y.s N.sites.length Y.sc, .slice Y.u N.subs.length Y.uc, .slice Y.d N.weds.length Y.dc, .int .i64 N.low, .int .i64 N.high, .int .i64 N.step] 26)) none := Kept.alloc _ _ _ _ _
  have HN := Hid.mk' (h.kept hkA)
  have HK := Hid.mk' hkA
  have HT := Hid.mk' (hT.kept hkA)
  have HE := Hid.mk' (netE_no1 hb)
  clear h hkA hT hb
  go_enter Tryd.func11, Tryd.ntmps11
  go_wp2_with (go_at_call 13; have hn := ncheck_any HN.out HT.out; rw [HE.out] at hn; refine hn.mono ?_; rintro e w3 ⟨rfl, hk3⟩)
  go_ret2
  exact ⟨rfl, HK.out.tr hk3⟩
theorem cyc_grow {w : World} {base k c qt : Nat} {a : Option Addr} {N : Nt} (h : OwI w base (.slice a k c) (cycK N k)) (hC : Cyc N qt) (hk : k ≤ qt) (hb : base ≤ w.heap.size) :
    ∃ a' c' w', (Builtin.append_ #[31, 31] 31 #[.slice a k c, .slice (some ⟨w.heap.size, 0, none⟩) 1 1]).run Tryd.prog (w.alloc (.cells #[.int .i64 (N.low + k * N.step)] 3)) = .ok (.slice a' (k + 1 : Nat) c') w' ∧ OwI w' base (.slice a' (k + 1 : Nat) c') (cycK N (k + 1)) ∧ Kept w w' (Value.slice a k c).ownBlock := by
  have hf := hC.few
  obtain ⟨v', w', h1, h2, h3, h4⟩ := h.grow (N.low + k * N.step) (by rw [cycK_len]; omega) hb
  rw [← cycK_succ] at h2
  obtain ⟨a', c', e, _, _⟩ := h2.ints (cycK_rng hC (by omega))
  rw [cycK_len] at e
  subst e
  exact ⟨a', c', w', h1, h2, h3⟩
set_option maxRecDepth 100000 in
set_option maxHeartbeats 4000000 in
theorem ncycles_yes {w : World} {Y : Na} {N : Nt} {qt : Nat} (h : NetAt w Y N) (hT : Tabb w) (hb : netB N = true) (hC : Cyc N qt) : Calls Tryd.prog 11 #[netV Y N] w fun e w' => ∃ a c, e = .returned (.tuple #[.slice a (qt + 1 : Nat) c, .int .i64 0]) ∧ Ints w' a (qt + 1) c (cycK N (qt + 1)) ∧ (∀ b, a = some b → w.heap.size ≤ b.block) ∧ Kept w w' none := by
  have hkA : Kept w (w.alloc (.cells #[.slice Y.s N.sites.length Y.sc, .slice Y.u N.subs.length Y.uc, .slice Y.d N.weds.length Y.dc, .int .i64 N.low, .int .i64 N.high, .int .i64 N.step] 26)) none := Kept.alloc _ _ _ _ _
  have HNB := Hid.mk' (nbx_alloc h 26)
  have HK := Hid.mk' hkA
  have HT := Hid.mk' (hT.kept hkA)
  have HE := Hid.mk' (netE_yes1 hb)
  have HC := Hid.mk' hC
  have HS : Hid (∀ w', Calls Tryd.prog 26 #[netV Y N] w' fun e w'' => e = .returned (.int .i64 ((qt : Nat) : Int)) ∧ Kept w' w'' none) := fun w' => by
    have hq := hC.quot
    have := hC.high
    have := hC.low
    have := hC.step
    have := steps_net (w := w') (Y := Y) (N := N) (by omega) (by omega) (by omega)
    rw [hq] at this
    exact this
  have hl := hC.low
  have hh := hC.high
  have hst := hC.step
  have hf := hC.few
  clear h hkA hT hb hC
  go_enter Tryd.func11, Tryd.ntmps11
  have hWz : ∃ n, n = (w.alloc (.cells #[.slice Y.s N.sites.length Y.sc, .slice Y.u N.subs.length Y.uc, .slice Y.d N.weds.length Y.dc, .int .i64 N.low, .int .i64 N.high, .int .i64 N.step] 26)).heap.size := ⟨_, rfl⟩
  obtain ⟨n0, hn0⟩ := hWz
  go_wp2_with (first
    | (go_at_call 26; refine (HS.out _).mono ?_; rintro e w4 ⟨rfl, hk4⟩; have K4 := Hid.mk' (K3.out.tr hk4); clear c0 c1 c2 c3 c4 c5 hk4; obtain ⟨w5, hmk, hown, hk5⟩ := mk_ints (qt + 1) (by omega) w4 n0 (hn0 ▸ K4.out.size); have K5 := Hid.mk' (K4.out.tr hk5); have OW := Hid.mk' hown; obtain ⟨c0, c1, c2, c3, c4, c5, _⟩ := HNB.out.kept K5.out; rw [show ((qt + 1 : Nat) : Int) = (qt : Int) + 1 from by omega] at hmk; clear hk5 hown)
    | (go_at_call 13; have hn := ncheck_any HNB.out.net HT.out; rw [HE.out] at hn; refine hn.mono ?_; rintro e w3 ⟨rfl, hk3⟩; have K3 := Hid.mk' hk3; clear hk3; obtain ⟨c0, c1, c2, c3, c4, c5, _⟩ := HNB.out.kept K3.out))
  clear hmk c0 c1 c2 c3 c4 c5
  generalize hW : (w.alloc (.cells #[.slice Y.s N.sites.length Y.sc, .slice Y.u N.subs.length Y.uc, .slice Y.d N.weds.length Y.dc, .int .i64 N.low, .int .i64 N.high, .int .i64 N.step] 26)) = W at *
  clear hW
  subst hn0
  go_loopw [5, 6] (fun v cy wr => ∃ (k : Nat) (a : Option Addr) (c : Nat), k ≤ qt + 1 ∧ cy = .int .i64 (N.low + k * N.step) ∧ v = .slice a k c ∧ Hid (OwI wr W.heap.size (.slice a k c) (cycK N k)) ∧ Kept W wr none) (fun _ cy _ => (N.high + N.step - intOf cy).toNat)
  case atStart => exact ⟨0, _, _, Nat.zero_le _, by simp, rfl, OW, K5.out⟩
  case round =>
    clear OW K5 K4 K3
    obtain ⟨k, a, c, hk, rfl, rfl, HO, hkr⟩ := hrel
    obtain ⟨c0, c1, c2, c3, c4, c5, _⟩ := HNB.out.kept hkr
    have hge := HC.out.ge (k := k)
    by_cases hle : k ≤ qt
    · have hle2 := HC.out.le hle
      have hnx : N.low + ((k + 1 : Nat) : Int) * N.step = N.low + k * N.step + N.step := by rw [Int.natCast_add, Int.add_mul]; simp; omega
      obtain ⟨a', c', w6, hrun, hO6, hk6⟩ := cyc_grow HO.out HC.out hle hkr.size
      have HR := Hid.mk' hrun
      have HKF : Hid (Kept W w6 none) := HO.out.far hk6 hkr (Nat.le_refl _)
      have HO6 := Hid.mk' hO6
      have HNX := Hid.mk' hnx
      clear hrun hO6 hk6 hnx
      obtain ⟨d0, d1, d2, d3, d4, d5, _⟩ := HNB.out.kept HKF.out
      generalize N.low + (k : Int) * N.step = cy at *
      go_wp2_with (at_builtin; refine wpList_app (by rfl) _ _ _ (by rfl) (by rfl) (by rfl) HR.out ?_)
      go_roundw
      case rel => exact ⟨k + 1, a', c', by omega, by rw [HNX.out], rfl, HO6, HKF.out⟩
      case measure => simp [intOf]; omega
    · have e : k = qt + 1 := by omega
      subst e
      have hlast := HC.out.lt
      have hgt : ¬ N.low + ((qt + 1 : Nat) : Int) * N.step ≤ N.high := by omega
      generalize N.low + ((qt + 1 : Nat) : Int) * N.step = cy at *
      go_wp2
      go_ret2
      obtain ⟨a2, c2', e, hI, hb⟩ := HO.out.ints (cycK_rng HC.out (Nat.le_refl _))
      rw [cycK_len] at e hI
      injection e with e1 e2 e3
      subst e1 e3
      exact ⟨a, c, rfl, hI, fun b hb' => Nat.le_trans HK.out.size (hb b hb').1, HK.out.tr hkr⟩

end Go.Proofs.YtoahbpdgbiachaaDoor

/-
  THE WALK of NetCycles.
-/
namespace Go.Proofs.YtoahbpdgbiachaaDoor
open Go.RowKit Go.Lib Go.Deep
set_option linter.unusedVariables false
set_option linter.unusedSimpArgs false

/-- A drawn region's one way. -/
def RgC (A : Act) (W : World) (e : Exit) (a : Act) (w : World) : Prop := match e with
  | .normal => a = A ∧ Kept W w none
  | _ => False
theorem RgC.out {A : Act} {W w : World} {e : Exit} {a : Act} (h : RgC A W e a w) : e = .normal ∧ a = A ∧ Kept W w none := by
  cases e with
  | normal => exact ⟨rfl, h.1, h.2⟩
  | _ => exact h.elim
set_option maxRecDepth 100000 in
set_option maxHeartbeats 8000000 in
theorem ncyc_no {Y : Na} {N : Nt} {w : World} (h : NetAt w Y N) (hT : Tabb w ∧ Table w) (hb : netB N = false) : Calls Tryd.prog 7 #[netV Y N] w fun e w' => e = .returned (.bool true) ∧ Below w.heap.size w w' := by
  have hkA : Kept w (w.alloc (.cells #[.slice Y.s N.sites.length Y.sc, .slice Y.u N.subs.length Y.uc, .slice Y.d N.weds.length Y.dc, .int .i64 N.low, .int .i64 N.high, .int .i64 N.step] 26)) none := Kept.alloc _ _ _ _ _
  have HNB := Hid.mk' (nbx_alloc h 26)
  have HK := Hid.mk' hkA
  have HT := Hid.mk' (hT.1.kept hkA)
  have HTb := Hid.mk' (hT.2.kept hkA)
  have HE := Hid.mk' (netE_no hb)
  clear h hT hkA hb
  go_enter Tryd.func7, Tryd.ntmps7
  go_wp2_with (go_at_call 14; refine (nalive_any HT.out HTb.out).mono ?_; rintro e w1 ⟨rfl, hk1⟩; obtain ⟨c0, c1, c2, c3, c4, c5, _⟩ := HNB.out.kept hk1)
  go_at_call 15
  refine (ngreat_any (HNB.out.net.kept hk1)).mono ?_
  rintro e w2 ⟨g, rfl, hg, hk2⟩
  have HG := Hid.mk' hg
  clear c0 c1 c2 c3 c4 c5 hg
  have K2 := Hid.mk' (hk1.tr hk2)
  clear hk1 hk2
  cases g
  case true =>
    go_wp2
    go_ret
    exact ⟨rfl, (HK.out.tr K2.out).below⟩
  obtain ⟨c0, c1, c2, c3, c4, c5, _⟩ := HNB.out.kept K2.out
  go_wp2_with (go_at_call 13; have hn := ncheck_any (HNB.out.net.kept K2.out) (HT.out.kept K2.out); rw [HE.out] at hn; refine hn.mono ?_; rintro e w3 ⟨rfl, hk3⟩; have K3 := Hid.mk' (K2.out.tr hk3); clear hk3 c0 c1 c2 c3 c4 c5; obtain ⟨c0, c1, c2, c3, c4, c5, _⟩ := HNB.out.kept K3.out)
  go_ret
  exact ⟨rfl, (HK.out.tr K3.out).below⟩
set_option maxRecDepth 100000 in
set_option maxHeartbeats 8000000 in
theorem ncyc_yes {Y : Na} {N : Nt} {w : World} (h : NetAt w Y N) (hT : Tabb w ∧ Table w) (hb : netB N = true) : Calls Tryd.prog 7 #[netV Y N] w fun e w' => e = .returned (.bool true) ∧ Below w.heap.size w w' := by
  obtain ⟨qt, hC, _⟩ := cyc_may hb
  have hP := npos_may hb
  have hs1 := hP.ns
  have hu1 := hP.nu
  obtain ⟨ys, ysc, yu, yuc, yd, ydc, YX, yr, yt⟩ := Y
  obtain ⟨sb, so, es, _, _⟩ := h.s1.at_ (by omega)
  obtain ⟨ub, uo, eu, _, _⟩ := h.u1.at_ (by omega)
  dsimp only at es eu
  subst es eu
  have hkA : Kept w (w.alloc (.cells #[.slice (some ⟨sb, so, none⟩) N.sites.length ysc, .slice (some ⟨ub, uo, none⟩) N.subs.length yuc, .slice yd N.weds.length ydc, .int .i64 N.low, .int .i64 N.high, .int .i64 N.step] 26)) none := Kept.alloc _ _ _ _ _
  have HNB : Hid (Nbx (w.alloc (.cells #[.slice (some ⟨sb, so, none⟩) N.sites.length ysc, .slice (some ⟨ub, uo, none⟩) N.subs.length yuc, .slice yd N.weds.length ydc, .int .i64 N.low, .int .i64 N.high, .int .i64 N.step] 26)) w.heap.size ⟨some ⟨sb, so, none⟩, ysc, some ⟨ub, uo, none⟩, yuc, yd, ydc, YX, yr, yt⟩ N) := nbx_alloc h 26
  have HK := Hid.mk' hkA
  have HT := Hid.mk' (hT.1.kept hkA)
  have HTb := Hid.mk' (hT.2.kept hkA)
  have HE := Hid.mk' (netE_yes hb)
  have HCY : Hid (∀ w1, Kept (w.alloc (.cells #[.slice (some ⟨sb, so, none⟩) N.sites.length ysc, .slice (some ⟨ub, uo, none⟩) N.subs.length yuc, .slice yd N.weds.length ydc, .int .i64 N.low, .int .i64 N.high, .int .i64 N.step] 26)) w1 none → Calls Tryd.prog 11 #[netV ⟨some ⟨sb, so, none⟩, ysc, some ⟨ub, uo, none⟩, yuc, yd, ydc, YX, yr, yt⟩ N] w1 fun e w' => ∃ a c, e = .returned (.tuple #[.slice a (qt + 1 : Nat) c, .int .i64 0]) ∧ Ints w' a (qt + 1) c (cycK N (qt + 1)) ∧ (∀ b, a = some b → w1.heap.size ≤ b.block) ∧ Kept w1 w' none) := fun w1 q => ncycles_yes (HNB.out.net.kept q) (HT.out.kept q) hb hC
  have HSB := Hid.mk' hP.st
  have HC := Hid.mk' hC
  have hl := hC.low
  have hh := hC.high
  have hst := hC.step
  have hf := hC.few
  clear h hT hkA hb hP hC
  go_enter Tryd.func7, Tryd.ntmps7
  go_wp2_with (go_at_call 14; refine (nalive_any HT.out HTb.out).mono ?_; rintro e w1 ⟨rfl, hk1⟩; obtain ⟨c0, c1, c2, c3, c4, c5, _⟩ := HNB.out.kept hk1; dsimp only at c0 c1 c2)
  go_at_call 15
  refine (ngreat_any (HNB.out.net.kept hk1)).mono ?_
  rintro e w2 ⟨g, rfl, hg, hk2⟩
  have HG := Hid.mk' hg
  clear c0 c1 c2 c3 c4 c5 hg
  have K2 := Hid.mk' (hk1.tr hk2)
  clear hk1 hk2
  cases g
  case true =>
    go_wp2
    go_ret
    exact ⟨rfl, (HK.out.tr K2.out).below⟩
  obtain ⟨c0, c1, c2, c3, c4, c5, _⟩ := HNB.out.kept K2.out
  dsimp only at c0 c1 c2
  go_wp2_with (first
    | (have hgo := K3; clear hgo; go_at_call 11; refine (HCY.out _ K3.out).mono ?_; rintro e w4 ⟨la, lc, rfl, hI, hnew, hk4⟩; have K4 := Hid.mk' (K3.out.tr hk4); have HI := Hid.mk' hI; clear hk4 hI hnew c0 c1 c2 c3 c4 c5)
    | (go_at_call 13; have hn := ncheck_any (HNB.out.net.kept K2.out) (HT.out.kept K2.out); rw [HE.out] at hn; refine hn.mono ?_; rintro e w3 ⟨rfl, hk3⟩; have K3 := Hid.mk' (K2.out.tr hk3); clear hk3 c0 c1 c2 c3 c4 c5; obtain ⟨c0, c1, c2, c3, c4, c5, _⟩ := HNB.out.kept K3.out; dsimp only at c0 c1 c2))
  obtain ⟨lb, lo, el, _, hlc⟩ := HI.out.at_ (by omega)
  subst el
  have HL : Hid (∀ w', Kept w4 w' none → ∀ t, t < qt + 1 → w'.cell? ⟨lb, lo + t, none⟩ = some (.int .i64 (N.low + t * N.step))) := fun w' q t ht => by
    have := hlc t ht
    rw [cycK_at ht] at this
    exact cell_kept0 this q
  have f0 : ∀ w', Kept w4 w' none → w'.cell? ⟨w.heap.size, 0, none⟩ = some (.slice (some ⟨sb, so, none⟩) N.sites.length ysc) := fun w' q => (HNB.out.kept (K4.out.tr q)).c0
  have f3 : ∀ w', Kept w4 w' none → w'.cell? ⟨w.heap.size, 3, none⟩ = some (.int .i64 N.low) := fun w' q => (HNB.out.kept (K4.out.tr q)).c3
  have f4 : ∀ w', Kept w4 w' none → w'.cell? ⟨w.heap.size, 4, none⟩ = some (.int .i64 N.high) := fun w' q => (HNB.out.kept (K4.out.tr q)).c4
  have f5 : ∀ w', Kept w4 w' none → w'.cell? ⟨w.heap.size, 5, none⟩ = some (.int .i64 N.step) := fun w' q => (HNB.out.kept (K4.out.tr q)).c5
  have g0 : ∀ w', Kept w4 w' none → w'.cell? ⟨lb, lo, none⟩ = some (.int .i64 N.low) := fun w' q => by have := HL.out w' q 0 (by omega); simpa using this
  have g1 : ∀ w', Kept w4 w' none → w'.cell? ⟨lb, lo + qt, none⟩ = some (.int .i64 N.high) := fun w' q => by
    have := HL.out w' q qt (by omega)
    have e : N.low + (qt : Int) * N.step = N.high := by have := HC.out.all; omega
    rw [e] at this
    exact this
  have hwq : IntKind.i64.wrap (qt : Int) = qt := wrap_in (by omega) (by omega)
  have hq7 : (qt : Int) < (qt : Int) + 1 := by omega
  have hq1 : ¬ (qt : Int) + 1 < 1 := by omega
  have hq2 : ¬ 65 < (qt : Int) + 1 := by omega
  clear hlc
  go_region_held (fun w' => Kept w4 w' none)
    ((first | exact Kept.refl _ _ | exact Kept.drew _ _ | assumption | exact Kept.tr (by assumption) (Kept.drew _ _)))
    ((fail))
  go_wp2
  clear g0 g1 hq1 hq2 hq7 hwq
  go_loopw [6] (fun i wr => ∃ k : Nat, k ≤ qt + 1 ∧ i = .int .i64 k ∧ Kept w4 wr none) (fun i _ => qt + 1 - (intOf i).toNat)
  case atStart => exact ⟨0, Nat.zero_le _, rfl, (by first | assumption | exact Kept.refl _ _ | exact Kept.drew _ _ | exact Kept.tr (by assumption) (Kept.drew _ _))⟩
  case round =>
    obtain ⟨k, hk, rfl, hkr⟩ := hrel
    by_cases hlt : k < qt + 1
    · have hv1 := HC.out.ge (k := k)
      have hv2 := HC.out.le (k := k) (by omega)
      have g1 : ∀ w', Kept w4 w' none → w'.cell? ⟨lb, lo + k, none⟩ = some (.int .i64 (N.low + k * N.step)) := fun w' q => HL.out w' q k hlt
      by_cases hk0 : 0 < k
      case neg =>
        have hk0i : ¬ (0 : Int) < (k : Int) := by omega
        obtain ⟨v, hv⟩ : ∃ v, v = N.low + (k : Int) * N.step := ⟨_, rfl⟩
        rw [← hv] at g1 hv1 hv2
        clear hv
        go_wp2
        refine Code.wp_mono (Q := RgC ?A1 w4) ?cont1 ?reg1
        case reg1 =>
          repeat (rename_i hh; clear hh)
          refine wp_region_held_drew (S := fun w' => Kept w4 w' none) (by kernel_rfl) (Kept.tr hkr (Kept.drew _ _)) (fun hHeld => ?_)
          refine held_take (i := 0) (v := ?v2) rfl rfl (by kernel_rfl) (by kernel_rfl) (by kernel_rfl) (fun _ _ _ h => h) (Or.inl ⟨by rfl, ?hy2⟩) hHeld ?rest2
          case hy2 => first | (intro w hSw; (try dsimp only at hSw); go_simp; done) | (intro w hSw; (try dsimp only at hSw); go_simp; with_reducible rfl)
          try simp only [List.setIfInBounds_toArray, List.set_cons_zero, List.set_cons_succ]
          refine held_take (i := 1) (v := ?v3) rfl rfl (by kernel_rfl) (by kernel_rfl) (by kernel_rfl) (fun _ _ _ h => h) (Or.inl ⟨by rfl, ?hy3⟩) hHeld ?rest3
          case hy3 => first | (intro w hSw; (try dsimp only at hSw); go_simp; done) | (intro w hSw; (try dsimp only at hSw); go_simp; with_reducible rfl)
          try simp only [List.setIfInBounds_toArray, List.set_cons_zero, List.set_cons_succ]
          refine held_take (i := 2) (v := ?v4) rfl rfl (by kernel_rfl) (by kernel_rfl) (by kernel_rfl) (fun _ _ _ h => h) (Or.inl ⟨by rfl, ?hy4⟩) hHeld ?rest4
          case hy4 => first | (intro w hSw; (try dsimp only at hSw); go_simp; done) | (intro w hSw; (try dsimp only at hSw); go_simp; with_reducible rfl)
          try simp only [List.setIfInBounds_toArray, List.set_cons_zero, List.set_cons_succ]
          refine held_take (i := 3) (v := undef) rfl rfl (by kernel_rfl) (by kernel_rfl) (by kernel_rfl) (fun _ _ _ h => h) (Or.inr ⟨by rfl, rfl⟩) hHeld ?_
          try simp only [List.setIfInBounds_toArray, List.set_cons_zero, List.set_cons_succ]
          refine held_take (i := 4) (v := undef) rfl rfl (by kernel_rfl) (by kernel_rfl) (by kernel_rfl) (fun _ _ _ h => h) (Or.inr ⟨by rfl, rfl⟩) hHeld ?_
          try simp only [List.setIfInBounds_toArray, List.set_cons_zero, List.set_cons_succ]
          refine held_take (i := 5) (v := undef) rfl rfl (by kernel_rfl) (by kernel_rfl) (by kernel_rfl) (fun _ _ _ h => h) (Or.inr ⟨by rfl, rfl⟩) hHeld ?_
          try simp only [List.setIfInBounds_toArray, List.set_cons_zero, List.set_cons_succ]
          refine held_take (i := 6) (v := undef) rfl rfl (by kernel_rfl) (by kernel_rfl) (by kernel_rfl) (fun _ _ _ h => h) (Or.inr ⟨by rfl, rfl⟩) hHeld ?_
          try simp only [List.setIfInBounds_toArray, List.set_cons_zero, List.set_cons_succ]
          refine held_take (i := 7) (v := undef) rfl rfl (by kernel_rfl) (by kernel_rfl) (by kernel_rfl) (fun _ _ _ h => h) (Or.inr ⟨by rfl, rfl⟩) hHeld ?_
          try simp only [List.setIfInBounds_toArray, List.set_cons_zero, List.set_cons_succ]
          refine held_take (i := 8) (v := undef) rfl rfl (by kernel_rfl) (by kernel_rfl) (by kernel_rfl) (fun _ _ _ h => h) (Or.inr ⟨by rfl, rfl⟩) hHeld ?_
          try simp only [List.setIfInBounds_toArray, List.set_cons_zero, List.set_cons_succ]
          refine held_take (i := 9) (v := undef) rfl rfl (by kernel_rfl) (by kernel_rfl) (by kernel_rfl) (fun _ _ _ h => h) (Or.inr ⟨by rfl, rfl⟩) hHeld ?_
          try simp only [List.setIfInBounds_toArray, List.set_cons_zero, List.set_cons_succ]
          refine held_take (i := 10) (v := undef) rfl rfl (by kernel_rfl) (by kernel_rfl) (by kernel_rfl) (fun _ _ _ h => h) (Or.inr ⟨by rfl, rfl⟩) hHeld ?_
          try simp only [List.setIfInBounds_toArray, List.set_cons_zero, List.set_cons_succ]
          refine held_take (i := 11) (v := undef) rfl rfl (by kernel_rfl) (by kernel_rfl) (by kernel_rfl) (fun _ _ _ h => h) (Or.inr ⟨by rfl, rfl⟩) hHeld ?_
          try simp only [List.setIfInBounds_toArray, List.set_cons_zero, List.set_cons_succ]
          refine held_take (i := 12) (v := undef) rfl rfl (by kernel_rfl) (by kernel_rfl) (by kernel_rfl) (fun _ _ _ h => h) (Or.inr ⟨by rfl, rfl⟩) hHeld ?_
          try simp only [List.setIfInBounds_toArray, List.set_cons_zero, List.set_cons_succ]
          refine held_take (i := 13) (v := undef) rfl rfl (by kernel_rfl) (by kernel_rfl) (by kernel_rfl) (fun _ _ _ h => h) (Or.inr ⟨by rfl, rfl⟩) hHeld ?_
          try simp only [List.setIfInBounds_toArray, List.set_cons_zero, List.set_cons_succ]
          refine held_take (i := 14) (v := undef) rfl rfl (by kernel_rfl) (by kernel_rfl) (by kernel_rfl) (fun _ _ _ h => h) (Or.inr ⟨by rfl, rfl⟩) hHeld ?_
          try simp only [List.setIfInBounds_toArray, List.set_cons_zero, List.set_cons_succ]
          refine held_take (i := 15) (v := undef) rfl rfl (by kernel_rfl) (by kernel_rfl) (by kernel_rfl) (fun _ _ _ h => h) (Or.inr ⟨by rfl, rfl⟩) hHeld ?_
          try simp only [List.setIfInBounds_toArray, List.set_cons_zero, List.set_cons_succ]
          refine held_take (i := 16) (v := ?v5) rfl rfl (by kernel_rfl) (by kernel_rfl) (by kernel_rfl) (fun _ _ _ h => h) (Or.inl ⟨by rfl, ?hy5⟩) hHeld ?rest5
          case hy5 => first | (intro w hSw; (try dsimp only at hSw); go_simp; done) | (intro w hSw; (try dsimp only at hSw); go_simp; with_reducible rfl)
          try simp only [List.setIfInBounds_toArray, List.set_cons_zero, List.set_cons_succ]
          refine wpAnyH_done (by kernel_rfl) ?_ _
          refine And.intro ?_ hHeld
          with_reducible rfl
        case cont1 =>
        intro e a' w' hq
        obtain ⟨rfl, rfl, hkq⟩ := hq.out
        go_wp2
        clear f0 f3 f4 f5
        go_loopw [7] (fun q wr => ∃ j : Nat, j ≤ N.sites.length ∧ q = .int .i64 j ∧ Kept w4 wr none) (fun q _ => N.sites.length - (intOf q).toNat)
        case atStart => exact ⟨0, Nat.zero_le _, rfl, hkq⟩
        case round =>
          obtain ⟨j, hj, rfl, hkj⟩ := hrel
          obtain ⟨c0, c1, c2, c3, c4, c5, _⟩ := HNB.out.kept (K4.out.tr hkj)
          dsimp only at c0 c1 c2
          by_cases hjl : j < N.sites.length
          · have HCL : Hid (∀ w', Kept w4 w' none → ∀ t, t < 12 → w'.cell? ⟨sb, so + j * 12 + t, none⟩ = some (stV (YX j) (N.sites.getD j s0) t)) := fun w' q t ht => by
              obtain ⟨sb', so', es', _, hc⟩ := (HNB.out.kept (K4.out.tr q)).net.s1.at_ (by omega)
              injection es' with es'
              injection es' with es1 es2
              subst es1 es2
              exact hc j hjl t ht
            have HST := Hid.mk' ((HNB.out.kept K4.out).net.s2 j hjl)
            have HCE := Hid.mk' (checkE_yes (HSB.out j hjl))
            have hbl := HC.out.st j hjl
            dsimp only at HST
            generalize N.sites.getD j s0 = S at *
            generalize YX j = Xk at *
            obtain ⟨xg, xgc, xa, xac, xb, xbc, xp, xpc, xe, xec, xl, xlc⟩ := Xk
            have f0 : ∀ w', Kept w4 w' none → w'.cell? ⟨w.heap.size, 0, none⟩ = some (.slice (some ⟨sb, so, none⟩) N.sites.length ysc) := fun w' q => (HNB.out.kept (K4.out.tr q)).c0
            have e0 : ∀ w', Kept w4 w' none → w'.cell? ⟨sb, so + j * 12, none⟩ = some (.int .i64 S.id) := fun w' q => HCL.out w' q 0 (by omega)
            have e1 : ∀ w', Kept w4 w' none → w'.cell? ⟨sb, so + j * 12 + 1, none⟩ = some (.slice xg S.groups.length xgc) := fun w' q => HCL.out w' q 1 (by omega)
            have e2 : ∀ w', Kept w4 w' none → w'.cell? ⟨sb, so + j * 12 + 2, none⟩ = some (.slice xa S.apart.length xac) := fun w' q => HCL.out w' q 2 (by omega)
            have e3 : ∀ w', Kept w4 w' none → w'.cell? ⟨sb, so + j * 12 + 3, none⟩ = some (.slice xb S.between.length xbc) := fun w' q => HCL.out w' q 3 (by omega)
            have e4 : ∀ w', Kept w4 w' none → w'.cell? ⟨sb, so + j * 12 + 4, none⟩ = some (.slice xp S.phases.length xpc) := fun w' q => HCL.out w' q 4 (by omega)
            have e5 : ∀ w', Kept w4 w' none → w'.cell? ⟨sb, so + j * 12 + 5, none⟩ = some (.slice xe S.eyes.length xec) := fun w' q => HCL.out w' q 5 (by omega)
            have e6 : ∀ w', Kept w4 w' none → w'.cell? ⟨sb, so + j * 12 + 6, none⟩ = some (.int .i64 S.watch) := fun w' q => HCL.out w' q 6 (by omega)
            have e7 : ∀ w', Kept w4 w' none → w'.cell? ⟨sb, so + j * 12 + 7, none⟩ = some (.int .i64 S.feed) := fun w' q => HCL.out w' q 7 (by omega)
            have e8 : ∀ w', Kept w4 w' none → w'.cell? ⟨sb, so + j * 12 + 8, none⟩ = some (.int .i64 S.heal) := fun w' q => HCL.out w' q 8 (by omega)
            have e9 : ∀ w', Kept w4 w' none → w'.cell? ⟨sb, so + j * 12 + 9, none⟩ = some (.int .i64 S.low) := fun w' q => HCL.out w' q 9 (by omega)
            have e10 : ∀ w', Kept w4 w' none → w'.cell? ⟨sb, so + j * 12 + 10, none⟩ = some (.int .i64 S.high) := fun w' q => HCL.out w' q 10 (by omega)
            have e11 : ∀ w', Kept w4 w' none → w'.cell? ⟨sb, so + j * 12 + 11, none⟩ = some (.slice xl S.plans.length xlc) := fun w' q => HCL.out w' q 11 (by omega)
            go_wp2
            clear c0 c1 c2 c3 c4 c5
            have hlo : ¬ v < S.low := by omega
            have hhi : ¬ S.high < v := by omega
            go_region_held (fun w' => Kept w4 w' none)
              ((first | exact hkj | exact Kept.tr hkj (Kept.drew _ _) | exact Kept.refl _ _ | exact Kept.drew _ _ | assumption | exact Kept.tr (by assumption) (Kept.drew _ _)))
              ((go_at_call 24; have hn := check_any (HST.out.kept (by assumption)) ((HT.out.kept K4.out).kept (by assumption)); rw [HCE.out] at hn; refine hn.mono ?_; rintro e wS ⟨rfl, hkS⟩; have hKS : Kept w4 wS none := Kept.tr (by assumption) hkS))
            go_wp2
            go_roundw
            case rel => exact ⟨j + 1, by omega, by go_num, (by first | assumption | exact Kept.refl _ _ | exact Kept.drew _ _ | exact Kept.tr (by assumption) (Kept.drew _ _))⟩
            case measure => simp [intOf]; omega
          · have e : j = N.sites.length := by omega
            subst e
            go_wp2
            go_roundw
            case rel => exact ⟨k + 1, by omega, by go_num, hkj⟩
            case measure => simp [intOf]; omega
      case pos =>
        obtain ⟨m, hm⟩ : ∃ m, k = m + 1 := ⟨k - 1, by omega⟩
        have g2 : ∀ w', Kept w4 w' none → w'.cell? ⟨lb, lo + m, none⟩ = some (.int .i64 (N.low + m * N.step)) := fun w' q => HL.out w' q m (by omega)
        have hv0 := HC.out.ge (k := m)
        have hkm : (k : Int) - 1 = (m : Int) := by omega
        have hwk : IntKind.i64.wrap (m : Int) = m := wrap_in (by omega) (by omega)
        have hk2 : (m : Int) < qt + 1 := by omega
        have hk3 : (k : Int) < qt + 1 := by omega
        have hk5 : (0 : Int) < (k : Int) := by omega
        have hv3 : N.low + (k : Int) * N.step = N.low + m * N.step + N.step := by rw [hm, Int.natCast_add, Int.add_mul]; simp; omega
        obtain ⟨v, hv⟩ : ∃ v, v = N.low + (k : Int) * N.step := ⟨_, rfl⟩
        rw [← hv] at g1 hv1 hv2 hv3
        generalize N.low + (m : Int) * N.step = v0 at *
        have hv4 : IntKind.i64.wrap (v0 + N.step) = v := by rw [hv3]; exact wrap_in (by omega) (by omega)
        have HM := Hid.mk' hm
        clear hm
        clear hv hv3
        go_wp2
        go_region_held (fun w' => Kept w4 w' none)
          ((first | exact hkr | exact Kept.tr hkr (Kept.drew _ _) | exact Kept.refl _ _ | exact Kept.drew _ _ | assumption | exact Kept.tr (by assumption) (Kept.drew _ _)))
          ((fail))
        go_wp2
        clear f0 f3 f4 f5
        go_loopw [7] (fun q wr => ∃ j : Nat, j ≤ N.sites.length ∧ q = .int .i64 j ∧ Kept w4 wr none) (fun q _ => N.sites.length - (intOf q).toNat)
        case atStart => exact ⟨0, Nat.zero_le _, rfl, (by first | assumption | exact Kept.refl _ _ | exact Kept.drew _ _ | exact Kept.tr (by assumption) (Kept.drew _ _))⟩
        case round =>
          obtain ⟨j, hj, rfl, hkj⟩ := hrel
          obtain ⟨c0, c1, c2, c3, c4, c5, _⟩ := HNB.out.kept (K4.out.tr hkj)
          dsimp only at c0 c1 c2
          by_cases hjl : j < N.sites.length
          · have HCL : Hid (∀ w', Kept w4 w' none → ∀ t, t < 12 → w'.cell? ⟨sb, so + j * 12 + t, none⟩ = some (stV (YX j) (N.sites.getD j s0) t)) := fun w' q t ht => by
              obtain ⟨sb', so', es', _, hc⟩ := (HNB.out.kept (K4.out.tr q)).net.s1.at_ (by omega)
              injection es' with es'
              injection es' with es1 es2
              subst es1 es2
              exact hc j hjl t ht
            have HST := Hid.mk' ((HNB.out.kept K4.out).net.s2 j hjl)
            have HCE := Hid.mk' (checkE_yes (HSB.out j hjl))
            have hbl := HC.out.st j hjl
            dsimp only at HST
            generalize N.sites.getD j s0 = S at *
            generalize YX j = Xk at *
            obtain ⟨xg, xgc, xa, xac, xb, xbc, xp, xpc, xe, xec, xl, xlc⟩ := Xk
            have f0 : ∀ w', Kept w4 w' none → w'.cell? ⟨w.heap.size, 0, none⟩ = some (.slice (some ⟨sb, so, none⟩) N.sites.length ysc) := fun w' q => (HNB.out.kept (K4.out.tr q)).c0
            have e0 : ∀ w', Kept w4 w' none → w'.cell? ⟨sb, so + j * 12, none⟩ = some (.int .i64 S.id) := fun w' q => HCL.out w' q 0 (by omega)
            have e1 : ∀ w', Kept w4 w' none → w'.cell? ⟨sb, so + j * 12 + 1, none⟩ = some (.slice xg S.groups.length xgc) := fun w' q => HCL.out w' q 1 (by omega)
            have e2 : ∀ w', Kept w4 w' none → w'.cell? ⟨sb, so + j * 12 + 2, none⟩ = some (.slice xa S.apart.length xac) := fun w' q => HCL.out w' q 2 (by omega)
            have e3 : ∀ w', Kept w4 w' none → w'.cell? ⟨sb, so + j * 12 + 3, none⟩ = some (.slice xb S.between.length xbc) := fun w' q => HCL.out w' q 3 (by omega)
            have e4 : ∀ w', Kept w4 w' none → w'.cell? ⟨sb, so + j * 12 + 4, none⟩ = some (.slice xp S.phases.length xpc) := fun w' q => HCL.out w' q 4 (by omega)
            have e5 : ∀ w', Kept w4 w' none → w'.cell? ⟨sb, so + j * 12 + 5, none⟩ = some (.slice xe S.eyes.length xec) := fun w' q => HCL.out w' q 5 (by omega)
            have e6 : ∀ w', Kept w4 w' none → w'.cell? ⟨sb, so + j * 12 + 6, none⟩ = some (.int .i64 S.watch) := fun w' q => HCL.out w' q 6 (by omega)
            have e7 : ∀ w', Kept w4 w' none → w'.cell? ⟨sb, so + j * 12 + 7, none⟩ = some (.int .i64 S.feed) := fun w' q => HCL.out w' q 7 (by omega)
            have e8 : ∀ w', Kept w4 w' none → w'.cell? ⟨sb, so + j * 12 + 8, none⟩ = some (.int .i64 S.heal) := fun w' q => HCL.out w' q 8 (by omega)
            have e9 : ∀ w', Kept w4 w' none → w'.cell? ⟨sb, so + j * 12 + 9, none⟩ = some (.int .i64 S.low) := fun w' q => HCL.out w' q 9 (by omega)
            have e10 : ∀ w', Kept w4 w' none → w'.cell? ⟨sb, so + j * 12 + 10, none⟩ = some (.int .i64 S.high) := fun w' q => HCL.out w' q 10 (by omega)
            have e11 : ∀ w', Kept w4 w' none → w'.cell? ⟨sb, so + j * 12 + 11, none⟩ = some (.slice xl S.plans.length xlc) := fun w' q => HCL.out w' q 11 (by omega)
            go_wp2
            clear c0 c1 c2 c3 c4 c5
            have hlo : ¬ v < S.low := by omega
            have hhi : ¬ S.high < v := by omega
            go_region_held (fun w' => Kept w4 w' none)
              ((first | exact hkj | exact Kept.tr hkj (Kept.drew _ _) | exact Kept.refl _ _ | exact Kept.drew _ _ | assumption | exact Kept.tr (by assumption) (Kept.drew _ _)))
              ((go_at_call 24; have hn := check_any (HST.out.kept (by assumption)) ((HT.out.kept K4.out).kept (by assumption)); rw [HCE.out] at hn; refine hn.mono ?_; rintro e wS ⟨rfl, hkS⟩; have hKS : Kept w4 wS none := Kept.tr (by assumption) hkS))
            go_wp2
            go_roundw
            case rel => exact ⟨j + 1, by omega, by go_num, (by first | assumption | exact Kept.refl _ _ | exact Kept.drew _ _ | exact Kept.tr (by assumption) (Kept.drew _ _))⟩
            case measure => simp [intOf]; omega
          · have e : j = N.sites.length := by omega
            subst e
            go_wp2
            go_roundw
            case rel => exact ⟨k + 1, by omega, by go_num, hkj⟩
            case measure => simp [intOf]; omega
    · have e : k = qt + 1 := by omega
      subst e
      go_wp2
      go_ret
      exact ⟨rfl, (HK.out.tr (K4.out.tr hkr)).below⟩
theorem ncyc_any {Y : Na} {N : Nt} {w : World} (h : NetAt w Y N) (hT : Tabb w ∧ Table w) : Calls Tryd.prog 7 #[netV Y N] w fun e w' => e = .returned (.bool true) ∧ Below w.heap.size w w' := by
  cases hb : netB N with
  | false => exact ncyc_no h hT hb
  | true => exact ncyc_yes h hT hb

end Go.Proofs.YtoahbpdgbiachaaDoor

