/-
  Part 11 of the texts that the proofs of this seat stand on.
-/
import Derived.Test.YtoahbpdgbiachaaDoorPart1
import Derived.Laws.AppendOwnNone
import Derived.Test.YtoahbpdgbiachaaDoorPart3
import Derived.Laws.MakeOwn
import Derived.Test.YtoahbpdgbiachaaDoorPart10
import Derived.Test.YtoahbpdgbiachaaDoorPart9
import Derived.Deep.RegionHeld
/-
  A LIST IN NEW MEMORY: append(nil, list...), whatever its elements are.
-/
namespace Go.Proofs.YtoahbpdgbiachaaDoor
open Go.RowKit Go.Lib Go.Deep
set_option linter.unusedVariables false
set_option linter.unusedSimpArgs false

/-- A list's cells, one after the other. -/
def cellsL (n k : Nat) (f : Nat → Nat → Value) : List Value := (List.range (n * k)).map fun q => f (q / k) (q % k)
theorem cellsL_len (n k : Nat) (f : Nat → Nat → Value) : (cellsL n k f).length = n * k := by simp [cellsL]
theorem cellsL_at {n k q : Nat} {f : Nat → Nat → Value} (h : q < n * k) : (cellsL n k f)[q]? = some (f (q / k) (q % k)) := by
  unfold cellsL
  rw [List.getElem?_map, List.getElem?_range h]
  rfl
theorem cellsL_news {w : World} {b off n k : Nat} {f : Nat → Nat → Value} (hk : 0 < k) (hc : ∀ i, i < n → ∀ j, j < k → w.cell? ⟨b, off + i * k + j, none⟩ = some (f i j)) :
    ∀ j u, (cellsL n k f)[j]? = some u → w.cell? ((⟨b, off, none⟩ : Addr).add j) = some u := by
  intro j u hu
  have hj : j < n * k := by have := (List.getElem?_eq_some_iff.1 hu).1; rwa [cellsL_len] at this
  rw [cellsL_at hj] at hu
  have h1 : j / k < n := by rw [Nat.div_lt_iff_lt_mul hk]; exact hj
  have h2 : j % k < k := Nat.mod_lt _ hk
  have h3 := hc _ h1 _ h2
  have h4 : off + j / k * k + j % k = off + j := by
    have := Nat.div_add_mod j k
    rw [Nat.mul_comm] at this
    omega
  rw [h4] at h3
  rw [Addr.add_lit, h3]
  exact hu
theorem cellsL_one {n k : Nat} {f : Nat → Nat → Value} (h : ∀ i j, (f i j).oneCell' = true) : ∀ u ∈ cellsL n k f, u.oneCell' = true := by
  intro u hu
  unfold cellsL at hu
  simp only [List.mem_map] at hu
  obtain ⟨x, _, rfl⟩ := hu
  exact h _ _
/-- What an own row holds, element by element. -/
theorem lie_own {w : World} {base n k : Nat} {e : TypeId} {v : Value} {f : Nat → Nat → Value} (hk : 0 < k) (h : w.ownsRow base e k v n (cellsL n k f)) : ∃ a cap, v = .slice a n cap ∧ Lie w a n k f ∧ Cap a n cap ∧ (∀ b, a = some b → base ≤ b.block ∧ b.block < w.heap.size) := by
  rcases id h.2 with ⟨rfl, rfl⟩ | ⟨g, cap, cur, rfl, hb, hg, hle, hm, hcs, ht⟩
  · exact ⟨none, 0, rfl, ⟨fun hp => absurd hp (by omega)⟩, ⟨fun _ => ⟨rfl, rfl⟩, Nat.le_refl _, by omega⟩, fun b e => nomatch e⟩
  · unfold maxLen at hm
    refine ⟨some ⟨g, 0, none⟩, cap, rfl, ⟨fun hp => ⟨g, 0, rfl, (Array.getElem?_eq_some_iff.1 hg).1, fun i hi j hj => ?_⟩⟩, ⟨fun e => (nomatch e), hle, by omega⟩, fun b e => by cases e; exact ⟨hb, (Array.getElem?_eq_some_iff.1 hg).1⟩⟩
    have hq : i * k + j < n * k := by
      have h1 : (i + 1) * k ≤ n * k := Nat.mul_le_mul_right k (by omega)
      rw [Nat.add_mul] at h1
      omega
    have h2 : (cur.toList.take (n * k))[i * k + j]? = some (f i j) := by
      rw [ht, cellsL_at hq]
      have h3 : (i * k + j) / k = i := by rw [Nat.add_comm, Nat.add_mul_div_right _ _ hk, Nat.div_eq_of_lt hj, Nat.zero_add]
      have h4 : (i * k + j) % k = j := by rw [Nat.add_comm, Nat.add_mul_mod_self_right, Nat.mod_eq_of_lt hj]
      rw [h3, h4]
    rw [List.getElem?_take_of_lt hq, Array.getElem?_toList] at h2
    rw [Nat.zero_add]
    simp only [World.cell?, hg]
    exact h2
/-- append(nil, list...). -/
theorem twin_run {w : World} {t ty e : TypeId} {i : TypeInfo} {z : Value} {k bytes : Nat} (ht : Tryd.prog.underlying t = some (.slice e)) (hi : Tryd.prog.info? e = some i) (hz : i.zero = some z) (hsize : i.size = k) (hby : i.bytes = bytes) (hzs : z.cells.size = k) (hk : 0 < k) (hbb : bytes ≤ 1000)
    {a : Option Addr} {n c : Nat} {f : Nat → Nat → Value} (hL : Lie w a n k f) (hc : Cap a n c) (hn : n ≤ 1000) (h1 : ∀ i j, (f i j).oneCell' = true) :
    ∃ a' cap w', (Builtin.append_ #[t, t] ty #[.slice none 0 0, .slice a n c]).run Tryd.prog w = .ok (.slice a' n cap) w' ∧ Lie w' a' n k f ∧ Cap a' n cap ∧ (∀ b, a' = some b → w.heap.size ≤ b.block ∧ b.block < w'.heap.size) ∧ Kept w w' none := by
  cases a with
  | none =>
    obtain ⟨rfl, rfl⟩ := hc.nil rfl
    have hrun := run_append_owned_none (P := Tryd.prog) (w := w) w.heap.size t ty e i k ht hi (.slice none 0 0) 0 [] (World.ownsRow_nil _ _ _ _)
    exact ⟨none, 0, w, hrun, ⟨fun hp => absurd hp (by omega)⟩, ⟨fun _ => ⟨rfl, rfl⟩, Nat.le_refl _, by omega⟩, fun b e => (nomatch e), Kept.refl _ _⟩
  | some ad =>
    have hnews : ∀ j u, (cellsL n k f)[j]? = some u → w.cell? (ad.add j) = some u := by
      by_cases hp : 0 < n
      · obtain ⟨b, off, e, _, hcell⟩ := hL.at_ hp
        injection e with e
        subst e
        exact cellsL_news hk hcell
      · intro j u hu
        have hn0 : n = 0 := by omega
        subst hn0
        simp [cellsL] at hu
    have hbytes : (0 + n) * bytes ≤ 140737488355328 := by
      have h2 : n * bytes ≤ 1000 * 1000 := Nat.mul_le_mul hn hbb
      rw [Nat.zero_add]
      omega
    obtain ⟨v', w', hr, h2, h3, _⟩ := run_append_own (P := Tryd.prog) w w.heap.size t ty e i z k bytes ht hi hz hsize hby hzs hk (.slice none 0 0) 0 [] (World.ownsRow_nil _ _ _ _) ad n c (cellsL n k f) (cellsL_len _ _ _) hnews (cellsL_one h1) (by unfold maxLen; omega) hbytes (Nat.le_refl _)
    rw [Nat.zero_add, List.nil_append] at h2
    obtain ⟨a', cap, rfl, g1, g2, g3⟩ := lie_own hk h2
    exact ⟨a', cap, w', hr, g1, g2, g3, h3⟩

end Go.Proofs.YtoahbpdgbiachaaDoor

/-
  WORLDS THAT DIFFER IN OLD BLOCKS ALONE; a site's box, cell by cell.
-/
namespace Go.Proofs.YtoahbpdgbiachaaDoor
open Go.RowKit Go.Lib Go.Deep
set_option linter.unusedVariables false
set_option linter.unusedSimpArgs false

theorem kept_setZ (w : World) (b j : Nat) (v : Value) : Kept w (w.setCell ⟨b, j, none⟩ v) (some b) :=
  ⟨rfl, rfl, rfl, by simp [World.setCell], fun k hk hr => by
    simp only [World.setCell]
    rw [Array.getElem?_modify, if_neg (fun e => hr (by rw [e]))]⟩
theorem kept_newZ {w w' : World} {r : Option Nat} (h : Kept w w' r) {g : Nat} (hg : w.heap.size ≤ g) (j : Nat) (v : Value) : Kept w (w'.setCell ⟨g, j, none⟩ v) r :=
  ⟨h.os, h.tape, h.output, by simpa [World.setCell] using h.size, fun k hk hr => (Below.heap_setCell _ _ _ _ (by show k ≠ g; omega)).trans (h.block k hk hr)⟩
abbrev zSZ : Array Value := #[.int .i64 0, .slice none 0 0, .slice none 0 0, .slice none 0 0, .slice none 0 0, .slice none 0 0, .int .i64 0, .int .i64 0, .int .i64 0, .int .i64 0, .int .i64 0, .slice none 0 0]
def fSZ (c : Array Value) (i : Nat) : Value := c[i]?.getD undef
theorem fSZ_set (c : Array Value) (j : Nat) (v : Value) (hj : j < c.size) (i : Nat) : (if i = j then v else fSZ c i) = fSZ (c.setIfInBounds j v) i := by
  unfold fSZ
  rw [Array.getElem?_setIfInBounds]
  by_cases h : i = j
  · subst h; simp [hj]
  · rw [if_neg h, if_neg (fun e => h e.symm)]
structure LtrZ (lo : Nat) (w w' : World) : Prop where
  size : w.heap.size ≤ w'.heap.size
  block : ∀ k, lo ≤ k → k < w.heap.size → w'.heap[k]? = w.heap[k]?
theorem LtrZ.tr {lo : Nat} {a b c : World} (h : LtrZ lo a b) (k : LtrZ lo b c) : LtrZ lo a c := ⟨Nat.le_trans h.size k.size, fun i hi hl => (k.block i hi (Nat.lt_of_lt_of_le hl h.size)).trans (h.block i hi hl)⟩
theorem LtrZ.up {lo lo' : Nat} {a b : World} (h : LtrZ lo a b) (q : lo ≤ lo') : LtrZ lo' a b := ⟨h.size, fun i hi hl => h.block i (Nat.le_trans q hi) hl⟩
theorem LtrZ.rfl' {lo : Nat} {a : World} : LtrZ lo a a := ⟨Nat.le_refl _, fun _ _ _ => rfl⟩
theorem Kept.ltrZ {w w' : World} {x lo : Nat} (h : Kept w w' (some x)) (hx : x < lo) : LtrZ lo w w' := ⟨h.size, fun k hk hl => h.block k hl (fun e => by have := Option.some.inj e; omega)⟩
theorem LtrZ.set {lo : Nat} (w : World) {g : Nat} (hg : g < lo) (j : Nat) (v : Value) : LtrZ lo w (w.setCell ⟨g, j, none⟩ v) := (kept_setZ w g j v).ltrZ hg
theorem LtrZ.cell {lo : Nat} {w w' : World} {b j : Nat} {v : Value} (q : LtrZ lo w w') (h : w.cell? ⟨b, j, none⟩ = some v) (hb : lo ≤ b) : w'.cell? ⟨b, j, none⟩ = some v :=
  (World.cell?_of_block (w := w) (a := ⟨b, j, none⟩) (q.block b hb (block_lt h))).trans h
theorem set12Z (v0 v1 v2 v3 v4 v5 v6 v7 v8 v9 v10 v11 : Value) : ((((((((((((zSZ.setIfInBounds 0 v0).setIfInBounds 1 v1).setIfInBounds 2 v2).setIfInBounds 3 v3).setIfInBounds 4 v4).setIfInBounds 5 v5).setIfInBounds 6 v6).setIfInBounds 7 v7).setIfInBounds 8 v8).setIfInBounds 9 v9).setIfInBounds 10 v10).setIfInBounds 11 v11) = #[v0, v1, v2, v3, v4, v5, v6, v7, v8, v9, v10, v11] := by simp only [zSZ, List.setIfInBounds_toArray, List.set_cons_zero, List.set_cons_succ]
theorem row12Z {w0 wx : World} {B lo : Nat} (h : wx.rowIs B 48 12 (fSZ zSZ)) (hk : Kept w0 wx none) (hB : w0.heap.size ≤ B) (hl : B < lo) (v0 v1 v2 v3 v4 v5 v6 v7 v8 v9 v10 v11 : Value) : Kept w0 ((((((((((((wx.setCell ⟨B, 0, none⟩ v0).setCell ⟨B, 1, none⟩ v1).setCell ⟨B, 2, none⟩ v2).setCell ⟨B, 3, none⟩ v3).setCell ⟨B, 4, none⟩ v4).setCell ⟨B, 5, none⟩ v5).setCell ⟨B, 6, none⟩ v6).setCell ⟨B, 7, none⟩ v7).setCell ⟨B, 8, none⟩ v8).setCell ⟨B, 9, none⟩ v9).setCell ⟨B, 10, none⟩ v10).setCell ⟨B, 11, none⟩ v11) none ∧ LtrZ lo wx ((((((((((((wx.setCell ⟨B, 0, none⟩ v0).setCell ⟨B, 1, none⟩ v1).setCell ⟨B, 2, none⟩ v2).setCell ⟨B, 3, none⟩ v3).setCell ⟨B, 4, none⟩ v4).setCell ⟨B, 5, none⟩ v5).setCell ⟨B, 6, none⟩ v6).setCell ⟨B, 7, none⟩ v7).setCell ⟨B, 8, none⟩ v8).setCell ⟨B, 9, none⟩ v9).setCell ⟨B, 10, none⟩ v10).setCell ⟨B, 11, none⟩ v11) ∧ ((((((((((((wx.setCell ⟨B, 0, none⟩ v0).setCell ⟨B, 1, none⟩ v1).setCell ⟨B, 2, none⟩ v2).setCell ⟨B, 3, none⟩ v3).setCell ⟨B, 4, none⟩ v4).setCell ⟨B, 5, none⟩ v5).setCell ⟨B, 6, none⟩ v6).setCell ⟨B, 7, none⟩ v7).setCell ⟨B, 8, none⟩ v8).setCell ⟨B, 9, none⟩ v9).setCell ⟨B, 10, none⟩ v10).setCell ⟨B, 11, none⟩ v11).cell? ⟨B, 0, none⟩ = some v0 ∧ ((((((((((((wx.setCell ⟨B, 0, none⟩ v0).setCell ⟨B, 1, none⟩ v1).setCell ⟨B, 2, none⟩ v2).setCell ⟨B, 3, none⟩ v3).setCell ⟨B, 4, none⟩ v4).setCell ⟨B, 5, none⟩ v5).setCell ⟨B, 6, none⟩ v6).setCell ⟨B, 7, none⟩ v7).setCell ⟨B, 8, none⟩ v8).setCell ⟨B, 9, none⟩ v9).setCell ⟨B, 10, none⟩ v10).setCell ⟨B, 11, none⟩ v11).cell? ⟨B, 1, none⟩ = some v1 ∧ ((((((((((((wx.setCell ⟨B, 0, none⟩ v0).setCell ⟨B, 1, none⟩ v1).setCell ⟨B, 2, none⟩ v2).setCell ⟨B, 3, none⟩ v3).setCell ⟨B, 4, none⟩ v4).setCell ⟨B, 5, none⟩ v5).setCell ⟨B, 6, none⟩ v6).setCell ⟨B, 7, none⟩ v7).setCell ⟨B, 8, none⟩ v8).setCell ⟨B, 9, none⟩ v9).setCell ⟨B, 10, none⟩ v10).setCell ⟨B, 11, none⟩ v11).cell? ⟨B, 2, none⟩ = some v2 ∧ ((((((((((((wx.setCell ⟨B, 0, none⟩ v0).setCell ⟨B, 1, none⟩ v1).setCell ⟨B, 2, none⟩ v2).setCell ⟨B, 3, none⟩ v3).setCell ⟨B, 4, none⟩ v4).setCell ⟨B, 5, none⟩ v5).setCell ⟨B, 6, none⟩ v6).setCell ⟨B, 7, none⟩ v7).setCell ⟨B, 8, none⟩ v8).setCell ⟨B, 9, none⟩ v9).setCell ⟨B, 10, none⟩ v10).setCell ⟨B, 11, none⟩ v11).cell? ⟨B, 3, none⟩ = some v3 ∧ ((((((((((((wx.setCell ⟨B, 0, none⟩ v0).setCell ⟨B, 1, none⟩ v1).setCell ⟨B, 2, none⟩ v2).setCell ⟨B, 3, none⟩ v3).setCell ⟨B, 4, none⟩ v4).setCell ⟨B, 5, none⟩ v5).setCell ⟨B, 6, none⟩ v6).setCell ⟨B, 7, none⟩ v7).setCell ⟨B, 8, none⟩ v8).setCell ⟨B, 9, none⟩ v9).setCell ⟨B, 10, none⟩ v10).setCell ⟨B, 11, none⟩ v11).cell? ⟨B, 4, none⟩ = some v4 ∧ ((((((((((((wx.setCell ⟨B, 0, none⟩ v0).setCell ⟨B, 1, none⟩ v1).setCell ⟨B, 2, none⟩ v2).setCell ⟨B, 3, none⟩ v3).setCell ⟨B, 4, none⟩ v4).setCell ⟨B, 5, none⟩ v5).setCell ⟨B, 6, none⟩ v6).setCell ⟨B, 7, none⟩ v7).setCell ⟨B, 8, none⟩ v8).setCell ⟨B, 9, none⟩ v9).setCell ⟨B, 10, none⟩ v10).setCell ⟨B, 11, none⟩ v11).cell? ⟨B, 5, none⟩ = some v5 ∧ ((((((((((((wx.setCell ⟨B, 0, none⟩ v0).setCell ⟨B, 1, none⟩ v1).setCell ⟨B, 2, none⟩ v2).setCell ⟨B, 3, none⟩ v3).setCell ⟨B, 4, none⟩ v4).setCell ⟨B, 5, none⟩ v5).setCell ⟨B, 6, none⟩ v6).setCell ⟨B, 7, none⟩ v7).setCell ⟨B, 8, none⟩ v8).setCell ⟨B, 9, none⟩ v9).setCell ⟨B, 10, none⟩ v10).setCell ⟨B, 11, none⟩ v11).cell? ⟨B, 6, none⟩ = some v6 ∧ ((((((((((((wx.setCell ⟨B, 0, none⟩ v0).setCell ⟨B, 1, none⟩ v1).setCell ⟨B, 2, none⟩ v2).setCell ⟨B, 3, none⟩ v3).setCell ⟨B, 4, none⟩ v4).setCell ⟨B, 5, none⟩ v5).setCell ⟨B, 6, none⟩ v6).setCell ⟨B, 7, none⟩ v7).setCell ⟨B, 8, none⟩ v8).setCell ⟨B, 9, none⟩ v9).setCell ⟨B, 10, none⟩ v10).setCell ⟨B, 11, none⟩ v11).cell? ⟨B, 7, none⟩ = some v7 ∧ ((((((((((((wx.setCell ⟨B, 0, none⟩ v0).setCell ⟨B, 1, none⟩ v1).setCell ⟨B, 2, none⟩ v2).setCell ⟨B, 3, none⟩ v3).setCell ⟨B, 4, none⟩ v4).setCell ⟨B, 5, none⟩ v5).setCell ⟨B, 6, none⟩ v6).setCell ⟨B, 7, none⟩ v7).setCell ⟨B, 8, none⟩ v8).setCell ⟨B, 9, none⟩ v9).setCell ⟨B, 10, none⟩ v10).setCell ⟨B, 11, none⟩ v11).cell? ⟨B, 8, none⟩ = some v8 ∧ ((((((((((((wx.setCell ⟨B, 0, none⟩ v0).setCell ⟨B, 1, none⟩ v1).setCell ⟨B, 2, none⟩ v2).setCell ⟨B, 3, none⟩ v3).setCell ⟨B, 4, none⟩ v4).setCell ⟨B, 5, none⟩ v5).setCell ⟨B, 6, none⟩ v6).setCell ⟨B, 7, none⟩ v7).setCell ⟨B, 8, none⟩ v8).setCell ⟨B, 9, none⟩ v9).setCell ⟨B, 10, none⟩ v10).setCell ⟨B, 11, none⟩ v11).cell? ⟨B, 9, none⟩ = some v9 ∧ ((((((((((((wx.setCell ⟨B, 0, none⟩ v0).setCell ⟨B, 1, none⟩ v1).setCell ⟨B, 2, none⟩ v2).setCell ⟨B, 3, none⟩ v3).setCell ⟨B, 4, none⟩ v4).setCell ⟨B, 5, none⟩ v5).setCell ⟨B, 6, none⟩ v6).setCell ⟨B, 7, none⟩ v7).setCell ⟨B, 8, none⟩ v8).setCell ⟨B, 9, none⟩ v9).setCell ⟨B, 10, none⟩ v10).setCell ⟨B, 11, none⟩ v11).cell? ⟨B, 10, none⟩ = some v10 ∧ ((((((((((((wx.setCell ⟨B, 0, none⟩ v0).setCell ⟨B, 1, none⟩ v1).setCell ⟨B, 2, none⟩ v2).setCell ⟨B, 3, none⟩ v3).setCell ⟨B, 4, none⟩ v4).setCell ⟨B, 5, none⟩ v5).setCell ⟨B, 6, none⟩ v6).setCell ⟨B, 7, none⟩ v7).setCell ⟨B, 8, none⟩ v8).setCell ⟨B, 9, none⟩ v9).setCell ⟨B, 10, none⟩ v10).setCell ⟨B, 11, none⟩ v11).cell? ⟨B, 11, none⟩ = some v11 := by
  have e := ((((((((((((((((((((((((h.set 0 v0).congr (fun i _ => fSZ_set _ 0 v0 (by simp [zSZ]) i)).set 1 v1).congr (fun i _ => fSZ_set _ 1 v1 (by simp [zSZ]) i)).set 2 v2).congr (fun i _ => fSZ_set _ 2 v2 (by simp [zSZ]) i)).set 3 v3).congr (fun i _ => fSZ_set _ 3 v3 (by simp [zSZ]) i)).set 4 v4).congr (fun i _ => fSZ_set _ 4 v4 (by simp [zSZ]) i)).set 5 v5).congr (fun i _ => fSZ_set _ 5 v5 (by simp [zSZ]) i)).set 6 v6).congr (fun i _ => fSZ_set _ 6 v6 (by simp [zSZ]) i)).set 7 v7).congr (fun i _ => fSZ_set _ 7 v7 (by simp [zSZ]) i)).set 8 v8).congr (fun i _ => fSZ_set _ 8 v8 (by simp [zSZ]) i)).set 9 v9).congr (fun i _ => fSZ_set _ 9 v9 (by simp [zSZ]) i)).set 10 v10).congr (fun i _ => fSZ_set _ 10 v10 (by simp [zSZ]) i)).set 11 v11).congr (fun i _ => fSZ_set _ 11 v11 (by simp [zSZ]) i))
  rw [set12Z] at e
  exact ⟨(kept_newZ (kept_newZ (kept_newZ (kept_newZ (kept_newZ (kept_newZ (kept_newZ (kept_newZ (kept_newZ (kept_newZ (kept_newZ (kept_newZ hk hB 0 v0) hB 1 v1) hB 2 v2) hB 3 v3) hB 4 v4) hB 5 v5) hB 6 v6) hB 7 v7) hB 8 v8) hB 9 v9) hB 10 v10) hB 11 v11), ((((((((((((LtrZ.rfl'.tr (LtrZ.set _ hl 0 v0)).tr (LtrZ.set _ hl 1 v1)).tr (LtrZ.set _ hl 2 v2)).tr (LtrZ.set _ hl 3 v3)).tr (LtrZ.set _ hl 4 v4)).tr (LtrZ.set _ hl 5 v5)).tr (LtrZ.set _ hl 6 v6)).tr (LtrZ.set _ hl 7 v7)).tr (LtrZ.set _ hl 8 v8)).tr (LtrZ.set _ hl 9 v9)).tr (LtrZ.set _ hl 10 v10)).tr (LtrZ.set _ hl 11 v11)), e.cell (i := 0) (by omega), e.cell (i := 1) (by omega), e.cell (i := 2) (by omega), e.cell (i := 3) (by omega), e.cell (i := 4) (by omega), e.cell (i := 5) (by omega), e.cell (i := 6) (by omega), e.cell (i := 7) (by omega), e.cell (i := 8) (by omega), e.cell (i := 9) (by omega), e.cell (i := 10) (by omega), e.cell (i := 11) (by omega)⟩
theorem frozen_blockZ {w w' : World} {b j : Nat} (h : w'.heap[b]? = w.heap[b]?) : w'.frozen? ⟨b, j, none⟩ = w.frozen? ⟨b, j, none⟩ := by
  unfold World.frozen?
  simp only [h]

end Go.Proofs.YtoahbpdgbiachaaDoor

/-
  PLANS IN NEW MEMORY.
-/
namespace Go.Proofs.YtoahbpdgbiachaaDoor
open Go.RowKit Go.Lib Go.Deep
set_option linter.unusedVariables false
set_option linter.unusedSimpArgs false

theorem Tryd.infoPl : (Tryd.prog.info? 113).map (fun i => (i.zero, i.size, i.bytes)) = some (some (.agg #[.int .i64 0, .int .i64 0, .slice none 0 0]), 3, 40) := by kernel_rfl
theorem Tryd.infoIn : (Tryd.prog.info? 3).map (fun i => (i.zero, i.size, i.bytes)) = some (some (.int .i64 0), 1, 8) := by kernel_rfl
theorem Tryd.uPls : Tryd.prog.underlying 46 = some (.slice 113) := by kernel_rfl
theorem Tryd.uIns : Tryd.prog.underlying 31 = some (.slice 3) := by kernel_rfl
theorem cellsL_snoc {n k : Nat} {f : Nat → Nat → Value} {g : Nat → Value} (hk : 0 < k) : cellsL n k f ++ (List.range k).map g = cellsL (n + 1) k (fun i j => if i = n then g j else f i j) := by
  unfold cellsL
  rw [Nat.add_mul, Nat.one_mul, List.range_add, List.map_append]
  congr 1
  · refine List.map_congr_left fun q hq => ?_
    have h1 : q / k < n := by rw [Nat.div_lt_iff_lt_mul hk]; exact List.mem_range.1 hq
    show f (q / k) (q % k) = if q / k = n then g (q % k) else f (q / k) (q % k)
    rw [if_neg (by omega)]
  · rw [List.map_map]
    refine List.map_congr_left fun j hj => ?_
    have hj' := List.mem_range.1 hj
    have h3 : (n * k + j) / k = n := by rw [Nat.add_comm, Nat.add_mul_div_right _ _ hk, Nat.div_eq_of_lt hj', Nat.zero_add]
    have h4 : (n * k + j) % k = j := by rw [Nat.add_comm, Nat.add_mul_mod_self_right, Nat.mod_eq_of_lt hj']
    show g j = if (n * k + j) / k = n then g ((n * k + j) % k) else f ((n * k + j) / k) ((n * k + j) % k)
    rw [h3, h4, if_pos rfl]
/-- One more element. -/
theorem grow_run {w : World} {t ty e : TypeId} {i : TypeInfo} {z : Value} {k bytes : Nat} (ht : Tryd.prog.underlying t = some (.slice e)) (hi : Tryd.prog.info? e = some i) (hz : i.zero = some z) (hsize : i.size = k) (hby : i.bytes = bytes) (hzs : z.cells.size = k) (hk : 0 < k) (hbb : bytes ≤ 1000)
    {base n c : Nat} {v : Value} {f : Nat → Nat → Value} (hown : w.ownsRow base e k v n (cellsL n k f)) {b o : Nat} {g : Nat → Value} (hg : ∀ j, j < k → w.cell? ⟨b, o + j, none⟩ = some (g j)) (h1 : ∀ j, (g j).oneCell' = true) (hn : n ≤ 1000) (hbase : base ≤ w.heap.size) :
    ∃ v' w', (Builtin.append_ #[t, t] ty #[v, .slice (some ⟨b, o, none⟩) 1 c]).run Tryd.prog w = .ok v' w' ∧ w'.ownsRow base e k v' (n + 1) (cellsL (n + 1) k (fun i j => if i = n then g j else f i j)) ∧ w.grownBy w' v.ownBlock ∧ (v'.ownBlock = v.ownBlock ∨ v'.ownBlock = some w.heap.size) := by
  have hbytes : (n + 1) * bytes ≤ 140737488355328 := by
    have h2 : (n + 1) * bytes ≤ 1001 * 1000 := Nat.mul_le_mul (by omega) hbb
    omega
  obtain ⟨v', w', hr, h2, h3, _, h5⟩ := run_append_own_at (P := Tryd.prog) w base t ty e i z k bytes ht hi hz hsize hby hzs hk v n _ hown ⟨b, o, none⟩ 1 c ((List.range k).map g) (by simp) (fun j u hu => by
    rw [List.getElem?_map] at hu
    have hj : j < k := by
      by_cases h : j < k
      · exact h
      · rw [List.getElem?_eq_none (by simpa using h)] at hu; simp at hu
    rw [List.getElem?_range hj] at hu
    rw [Addr.add_lit, hg j hj]
    exact hu) (fun u hu => by
    simp only [List.mem_map] at hu
    obtain ⟨x, _, rfl⟩ := hu
    exact h1 x) (by unfold maxLen; omega) hbytes hbase
  rw [cellsL_snoc hk] at h2
  exact ⟨v', w', hr, h2, h3, h5⟩
theorem wpList_app {ops : Array Oper} {rest : List Oper} {o : Oper} {act : Act} {Q : Exit → Act → World → Prop} {w w' : World} {v u v' : Value} (hgd : o.guard = none) (s x : Operand) (t : TypeId) (ho : o.op = .call { callee := .builtin .append, args := #[s, x], argTypes := #[t, t] }) (hs : act.eval s = v) (hx : act.eval x = u)
    (hr : (Builtin.append_ #[t, t] o.type #[v, u]).run Tryd.prog w = .ok v' w') (h : wpList Tryd.prog ops Q rest (act.put o.dst v') w') : wpList Tryd.prog ops Q (o :: rest) act w :=
  wpList_plain hgd fun K hK => by
    unfold Oper.wp execOp
    simp only [ho, resolve, invoke, builtin, Sem.run_bind, Sem.run_pure, Result.andThen_ok, List.map_toArray, List.map_cons, List.map_nil, hs, hx, hr]
    exact hK _ _ h
theorem Ints.keptS {w w' : World} {r : Option Nat} {a : Option Addr} {n c : Nat} {l : List Int} (h : Ints w a n c l) (q : Kept w w' r) (hr : ∀ b, a = some b → some b.block ≠ r) : Ints w' a n c l :=
  ⟨⟨fun hp => by
    obtain ⟨b, off, rfl, hb, hc⟩ := h.lie.at_ hp
    exact ⟨b, off, rfl, Nat.lt_of_lt_of_le hb q.size, fun i hi j hj => cell_keptR (hc i hi j hj) q (hr _ rfl)⟩⟩, h.size, h.cap, h.rng⟩
theorem ints_lt {w : World} {a : Option Addr} {n c : Nat} {l : List Int} (h : Ints w a n c l) (hp : 0 < n) : ∀ b, a = some b → b.block < w.heap.size := fun b e => by
  obtain ⟨b', off, e', hb, _⟩ := h.lie.at_ hp
  rw [e] at e'
  injection e' with e'
  subst e'
  exact hb
/-- As many plans as were met lie in new memory. -/
structure Tp (w : World) (l : List Pl) (wr : World) (k : Nat) (v : Value) : Prop where
  ex : ∃ r : Nat → Option Addr × Nat, wr.ownsRow w.heap.size 113 3 v k (cellsL k 3 (fun i j => plV (l.getD i q0) (r i).1 (r i).2 j)) ∧ (∀ i, i < k → Ints wr (r i).1 (l.getD i q0).splits.length (r i).2 (l.getD i q0).splits) ∧ (∀ i, i < k → ∀ b, (r i).1 = some b → v.ownBlock ≠ some b.block ∧ b.block < wr.heap.size ∧ w.heap.size ≤ b.block)
  kept : Kept w wr none
theorem own_lt {w : World} {base n k : Nat} {e : TypeId} {v : Value} {xs : List Value} (h : w.ownsRow base e k v n xs) : ∀ g, v.ownBlock = some g → base ≤ g ∧ g < w.heap.size := fun g hg => by
  rcases id h.2 with ⟨rfl, _⟩ | ⟨b, cap, cur, rfl, hb, hh, _⟩
  · cases hg
  · injection hg with hg
    subst hg
    exact ⟨hb, (Array.getElem?_eq_some_iff.1 hh).1⟩
theorem own_keptR' {w w' : World} {r : Option Nat} {base n k : Nat} {e : TypeId} {v : Value} {xs : List Value} (h : w.ownsRow base e k v n xs) (q : Kept w w' r) (hr : ∀ g, v.ownBlock = some g → some g ≠ r) : w'.ownsRow base e k v n xs := by
  refine ⟨h.1, ?_⟩
  rcases id h.2 with ⟨rfl, h0⟩ | ⟨b, cap, cur, rfl, hb, hh, h4⟩
  · exact .inl ⟨rfl, h0⟩
  · exact .inr ⟨b, cap, cur, rfl, hb, (q.block b (Array.getElem?_eq_some_iff.1 hh).1 (hr _ rfl)).trans hh, h4⟩
theorem alloc_at2 (F : World) (cs : Array Value) (t : TypeId) {n j : Nat} {v : Value} (hz : F.heap.size = n) (hv : cs[j]? = some v) : (F.alloc (.cells cs t)).cell? ⟨n, j, none⟩ = some v := by
  subst hz
  simp only [World.cell?_alloc_mark]
  exact hv
abbrev plB (p : Pl) (a : Option Addr) (c : Nat) : Obj := .cells #[.int .i64 p.cycle, .int .i64 p.offset, .slice a p.splits.length c] 113
theorem Tp.step {w wr W2 : World} {l : List Pl} {k : Nat} {v : Value} {ar a' : Option Addr} {cr cap : Nat} (h : Tp w l wr k v) (hk : k ≤ 40)
    (h2 : Kept (wr.alloc (plB (l.getD k q0) ar cr)) W2 none) (hI : Ints W2 a' (l.getD k q0).splits.length cap (l.getD k q0).splits) (hf : ∀ b, a' = some b → (wr.alloc (plB (l.getD k q0) ar cr)).heap.size ≤ b.block) (hl : ∀ b, a' = some b → b.block < W2.heap.size) :
    ∃ v' W5, (Builtin.append_ #[46, 46] 46 #[v, .slice (some ⟨W2.heap.size, 0, none⟩) 1 1]).run Tryd.prog ((W2.setCell ⟨wr.heap.size, 2, none⟩ (.slice a' (l.getD k q0).splits.length cap)).alloc (plB (l.getD k q0) a' cap)) = .ok v' W5 ∧ Tp w l W5 (k + 1) v' := by
  obtain ⟨⟨r, ho, hi, hb⟩, hkw⟩ := h
  obtain ⟨i0, hi0, hz0, hz1, hz2⟩ := info_parts Tryd.infoPl
  generalize hp : l.getD k q0 = p at *
  have hz : (wr.alloc (plB p ar cr)).heap.size = wr.heap.size + 1 := by simp
  have k1 : Kept wr W2 none := (Kept.alloc wr _ _ _ _).tr h2
  have k3 : Kept W2 (W2.setCell ⟨wr.heap.size, 2, none⟩ (.slice a' p.splits.length cap)) (some wr.heap.size) := kept_setZ _ _ _ _
  have z3 : (W2.setCell ⟨wr.heap.size, 2, none⟩ (.slice a' p.splits.length cap)).heap.size = W2.heap.size := by simp [World.setCell]
  have k4 : Kept (W2.setCell ⟨wr.heap.size, 2, none⟩ (.slice a' p.splits.length cap)) ((W2.setCell ⟨wr.heap.size, 2, none⟩ (.slice a' p.splits.length cap)).alloc (plB p a' cap)) none := Kept.alloc _ _ _ _ _
  have s2 := h2.size
  rw [hz] at s2
  have sw := hkw.size
  have z4 : ((W2.setCell ⟨wr.heap.size, 2, none⟩ (.slice a' p.splits.length cap)).alloc (plB p a' cap)).heap.size = W2.heap.size + 1 := by simp [World.setCell]
  have q0' : ∀ j, j < 3 → ((W2.setCell ⟨wr.heap.size, 2, none⟩ (.slice a' p.splits.length cap)).alloc (plB p a' cap)).cell? ⟨W2.heap.size, 0 + j, none⟩ = some (plV p a' cap j) := fun j hj => by
    have : j = 0 ∨ j = 1 ∨ j = 2 := by omega
    rw [Nat.zero_add]
    refine alloc_at2 _ _ _ z3 ?_
    rcases this with rfl | rfl | rfl <;> rfl
  generalize (W2.setCell ⟨wr.heap.size, 2, none⟩ (.slice a' p.splits.length cap)) = W3 at *
  generalize (W3.alloc (plB p a' cap)) = W4 at *
  have hol := own_lt ho
  have own4 : W4.ownsRow w.heap.size 113 3 v k (cellsL k 3 (fun i j => plV (l.getD i q0) (r i).1 (r i).2 j)) :=
    own_keptR' (own_keptR' (own_keptR' ho k1 (fun g _ => by simp)) k3 (fun g hg e => by have := (hol g hg).2; cases e; omega)) k4 (fun g _ => by simp)
  obtain ⟨v', W5, hr, g1, g2, g3⟩ := grow_run (t := 46) (ty := 46) (c := 1) Tryd.uPls hi0 hz0 hz1 hz2 rfl (by omega) (by omega) own4 q0' (fun j => by unfold plV; split <;> rfl) (by omega) (by omega)
  have bl : ∀ b, (∃ i, i < k ∧ (r i).1 = some b) → v.ownBlock ≠ some b.block ∧ b.block < wr.heap.size ∧ w.heap.size ≤ b.block := fun b ⟨i, hik, e⟩ => hb i hik b e
  have vfr : ∀ g, v'.ownBlock = some g → v.ownBlock = some g ∨ g = W4.heap.size := fun g hg => by
    rcases g3 with e | e
    · exact .inl (e.symm.trans hg)
    · rw [e] at hg; injection hg with hg; exact .inr hg.symm
  refine ⟨v', W5, hr, ⟨fun i => if i = k then (a', cap) else r i, ?_, fun i hik => ?_, fun i hik b e => ?_⟩, ?_⟩
  · have he : cellsL (k + 1) 3 (fun i j => if i = k then plV p a' cap j else plV (l.getD i q0) (r i).1 (r i).2 j) = cellsL (k + 1) 3 (fun i j => plV (l.getD i q0) ((if i = k then (a', cap) else r i) : Option Addr × Nat).1 ((if i = k then (a', cap) else r i) : Option Addr × Nat).2 j) := by
      unfold cellsL
      refine List.map_congr_left fun q _ => ?_
      show (if q / 3 = k then plV p a' cap (q % 3) else plV (l.getD (q / 3) q0) (r (q / 3)).1 (r (q / 3)).2 (q % 3)) = plV (l.getD (q / 3) q0) ((if q / 3 = k then (a', cap) else r (q / 3)) : Option Addr × Nat).1 ((if q / 3 = k then (a', cap) else r (q / 3)) : Option Addr × Nat).2 (q % 3)
      by_cases e : q / 3 = k
      · rw [if_pos e, if_pos e, e, hp]
      · rw [if_neg e, if_neg e]
    rw [← he]
    exact g1
  · show Ints W5 ((if i = k then (a', cap) else r i) : Option Addr × Nat).1 (l.getD i q0).splits.length ((if i = k then (a', cap) else r i) : Option Addr × Nat).2 (l.getD i q0).splits
    by_cases e : i = k
    · rw [if_pos e, e, hp]
      refine ((hI.keptS k3 (fun b eb ec => ?_)).kept k4).keptS g2 (fun b eb ec => ?_)
      · have := hf b eb
        rw [hz] at this
        injection ec with ec
        omega
      · have := hf b eb
        rw [hz] at this
        have h7 := (hol _ ec.symm).2
        omega
    · rw [if_neg e]
      have h8 := hi i (by omega)
      refine (((h8.kept k1).keptS k3 (fun b eb ec => ?_)).kept k4).keptS g2 (fun b eb ec => ?_)
      · have := (hb i (by omega) b eb).2.1
        injection ec with ec
        omega
      · exact (hb i (by omega) b eb).1 ec.symm
  · have s5 := g2.size
    change ((if i = k then (a', cap) else r i) : Option Addr × Nat).1 = some b at e
    by_cases ek : i = k
    · rw [if_pos ek] at e
      have h6 := hf b e
      rw [hz] at h6
      have h9 := hl b e
      refine ⟨fun ec => ?_, by omega, by omega⟩
      rcases vfr _ ec with h7 | h7
      · have := (hol _ h7).2
        omega
      · omega
    · rw [if_neg ek] at e
      have h6 := hb i (by omega) b e
      refine ⟨fun ec => ?_, by omega, h6.2.2⟩
      rcases vfr _ ec with h7 | h7
      · exact h6.1 h7
      · omega
  · have h5 : Kept w W4 none := by
      refine ⟨k4.os.trans (k3.os.trans (k1.os.trans hkw.os)), k4.tape.trans (k3.tape.trans (k1.tape.trans hkw.tape)), k4.output.trans (k3.output.trans (k1.output.trans hkw.output)), by omega, fun b hbw _ => ?_⟩
      exact (k4.block b (by omega) (by simp)).trans ((k3.block b (by omega) (fun e => by injection e with e; omega)).trans ((hkw.tr k1).block b hbw (by simp)))
    refine ⟨g2.os.trans h5.os, g2.tape.trans h5.tape, g2.output.trans h5.output, Nat.le_trans h5.size g2.size, fun b hbw _ => ?_⟩
    exact (g2.block b (by omega) (fun e => by have := (hol _ e.symm).1; omega)).trans (h5.block b hbw (by simp))

end Go.Proofs.YtoahbpdgbiachaaDoor

/-
  LISTS OF ONE'S OWN: numbers, one more behind.
-/
namespace Go.Proofs.YtoahbpdgbiachaaDoor
open Go.RowKit Go.Lib Go.Deep
set_option linter.unusedVariables false
set_option linter.unusedSimpArgs false

/-- A list of numbers in memory that lies behind a base. -/
def OwI (w : World) (base : Nat) (v : Value) (l : List Int) : Prop := w.ownsRow base 3 1 v l.length (cellsL l.length 1 (fun i _ => .int .i64 (l.getD i 0)))
theorem OwI.nil (w : World) (base : Nat) : OwI w base (.slice none 0 0) [] := World.ownsRow_nil _ _ _ _
theorem OwI.keptR {w w' : World} {r : Option Nat} {base : Nat} {v : Value} {l : List Int} (h : OwI w base v l) (q : Kept w w' r) (hr : ∀ g, v.ownBlock = some g → some g ≠ r) : OwI w' base v l := own_keptR' h q hr
theorem OwI.kept {w w' : World} {base : Nat} {v : Value} {l : List Int} (h : OwI w base v l) (q : Kept w w' none) : OwI w' base v l := h.keptR q (fun g _ => by simp)
theorem OwI.ints {w : World} {base : Nat} {v : Value} {l : List Int} (h : OwI w base v l) (hr : ∀ x ∈ l, -9223372036854775808 ≤ x ∧ x ≤ 9223372036854775807) : ∃ a c, v = .slice a l.length c ∧ Ints w a l.length c l ∧ ∀ b, a = some b → base ≤ b.block ∧ b.block < w.heap.size := by
  obtain ⟨a, cap, e, h1, h2, h3⟩ := lie_own (by omega) h
  exact ⟨a, cap, e, ⟨h1, rfl, h2, hr⟩, h3⟩
theorem getD_snoc (l : List Int) (x : Int) (i : Nat) : (l ++ [x]).getD i 0 = if i = l.length then x else l.getD i 0 := by
  by_cases h : i = l.length
  · subst h; simp
  · rw [if_neg h]
    by_cases h2 : i < l.length
    · simp [h2, List.getElem?_append_left]
    · rw [List.getD_eq_getElem?_getD, List.getD_eq_getElem?_getD, List.getElem?_eq_none (by simp; omega), List.getElem?_eq_none (by omega)]
theorem OwI.grow {w : World} {base : Nat} {v : Value} {l : List Int} (h : OwI w base v l) (x : Int) (hn : l.length ≤ 1000) (hb : base ≤ w.heap.size) :
    ∃ v' w', (Builtin.append_ #[31, 31] 31 #[v, .slice (some ⟨w.heap.size, 0, none⟩) 1 1]).run Tryd.prog (w.alloc (.cells #[.int .i64 x] 3)) = .ok v' w' ∧ OwI w' base v' (l ++ [x]) ∧ Kept w w' v.ownBlock ∧ (v'.ownBlock = v.ownBlock ∨ v'.ownBlock = some (w.heap.size + 1)) := by
  obtain ⟨i0, hi0, hz0, hz1, hz2⟩ := info_parts Tryd.infoIn
  have hk : Kept w (w.alloc (.cells #[.int .i64 x] 3)) none := Kept.alloc _ _ _ _ _
  have hz : (w.alloc (.cells #[.int .i64 x] 3)).heap.size = w.heap.size + 1 := by simp
  have hc : ∀ j, j < 1 → (w.alloc (.cells #[.int .i64 x] 3)).cell? ⟨w.heap.size, 0 + j, none⟩ = some (.int .i64 x) := fun j hj => by
    have : j = 0 := by omega
    subst this
    simp [World.cell?_alloc_mark]
  obtain ⟨v', w', hr, g1, g2, g3⟩ := grow_run (t := 31) (ty := 31) (c := 1) (g := fun _ => .int .i64 x) Tryd.uIns hi0 hz0 hz1 hz2 rfl (by omega) (by omega) (h.kept hk) hc (fun j => rfl) hn (by omega)
  rw [hz] at g3
  refine ⟨v', w', hr, ?_, ?_, g3⟩
  · unfold OwI
    rw [List.length_append]
    have e : (fun (i _ : Nat) => if i = l.length then Value.int .i64 x else .int .i64 (l.getD i 0)) = (fun (i _ : Nat) => Value.int .i64 ((l ++ [x]).getD i 0)) := by
      funext i _
      rw [getD_snoc]
      split <;> rfl
    rw [e] at g1
    exact g1
  · have h2 : Kept (w.alloc (.cells #[.int .i64 x] 3)) w' v.ownBlock := g2
    refine ⟨h2.os.trans hk.os, h2.tape.trans hk.tape, h2.output.trans hk.output, Nat.le_trans hk.size h2.size, fun i hi hne => (h2.block i (Nat.lt_of_lt_of_le hi hk.size) hne).trans (hk.block i hi (by simp))⟩
theorem OwI.lt {w : World} {base : Nat} {v : Value} {l : List Int} (h : OwI w base v l) : ∀ g, v.ownBlock = some g → base ≤ g ∧ g < w.heap.size := own_lt h
theorem OwI.far {w w' : World} {base : Nat} {v : Value} {l : List Int} (h : OwI w base v l) (k : Kept w w' v.ownBlock) {w0 : World} (h0 : Kept w0 w none) (hb : w0.heap.size ≤ base) : Kept w0 w' none :=
  ⟨k.os.trans h0.os, k.tape.trans h0.tape, k.output.trans h0.output, Nat.le_trans h0.size k.size, fun i hi _ => (k.block i (Nat.lt_of_lt_of_le hi h0.size) (fun e => by have := (h.lt i e.symm).1; omega)).trans (h0.block i hi (by simp))⟩
theorem mk_ints (c : Nat) (hc : c ≤ 1000000) (w : World) (base : Nat) (hb : base ≤ w.heap.size) : ∃ w', (Instr.makeSlice 31 (.int .i64 0) (.int .i64 (c : Int))).run Tryd.prog w = .ok (.slice (some ⟨w.heap.size, 0, none⟩) 0 c) w' ∧ OwI w' base (.slice (some ⟨w.heap.size, 0, none⟩) 0 c) [] ∧ Kept w w' none := by
  obtain ⟨i0, hi0, hz0, hz1, hz2⟩ := info_parts Tryd.infoIn
  obtain ⟨w1, hmk, hown, hg⟩ := run_make_own (P := Tryd.prog) w base 31 3 i0 _ 1 Tryd.uIns hi0 hz0 hz1 .i64 .i64 c (by rw [hz2]; omega) (by unfold maxLen; omega) hb
  exact ⟨w1, hmk, hown, hg⟩

end Go.Proofs.YtoahbpdgbiachaaDoor

/-
  THE CONTRACT of net.Cycles.
-/
namespace Go.Proofs.YtoahbpdgbiachaaDoor
open Go.RowKit Go.Lib Go.Deep
set_option linter.unusedVariables false
set_option linter.unusedSimpArgs false

/-- The first k cycles of a region. -/
def cycK (N : Nt) (k : Nat) : List Int := (List.range k).map (fun i : Nat => N.low + i * N.step)
def cycA (N : Nt) : List Int := if netB N = true then cycK N (((N.high - N.low) / N.step).toNat + 1) else []
theorem cycK_len (N : Nt) (k : Nat) : (cycK N k).length = k := by simp [cycK]
theorem cycK_succ (N : Nt) (k : Nat) : cycK N (k + 1) = cycK N k ++ [N.low + k * N.step] := by
  unfold cycK
  rw [List.range_succ, List.map_append]
  rfl
theorem cycK_at {N : Nt} {k i : Nat} (h : i < k) : (cycK N k).getD i 0 = N.low + i * N.step := by simp [cycK, h]
/-- What a region that may be tells of its cycles. -/
structure Cyc (N : Nt) (qt : Nat) : Prop where
  low : 1 ≤ N.low ∧ N.low ≤ 1048576
  high : N.low ≤ N.high ∧ N.high ≤ 1048576
  step : 1 ≤ N.step ∧ N.step ≤ 1048576
  all : N.high - N.low = qt * N.step
  few : qt ≤ 64
  quot : (N.high - N.low) / N.step = qt
  st : ∀ i, i < N.sites.length → (N.sites.getD i s0).low ≤ N.low ∧ N.high ≤ (N.sites.getD i s0).high
theorem cyc_may {N : Nt} (h : netB N = true) : ∃ qt : Nat, Cyc N qt ∧ cycA N = cycK N (qt + 1) := by
  have h0 := h
  unfold netB at h
  cases hl : lookF N with
  | none => rw [hl] at h; cases h
  | some M =>
    obtain ⟨hc, M1, M2, h1, h2, h3, h4, h5⟩ := lookF_parts hl
    unfold ncyclesB timeB at h4
    simp only [Bool.and_eq_true, inB_iff, decide_eq_true_eq, allB_iff] at h4
    obtain ⟨⟨⟨⟨⟨a1, a2⟩, a3⟩, a4⟩, a5⟩, a6⟩ := h4
    have hq0 : 0 ≤ (N.high - N.low) / N.step := Int.ediv_nonneg (by omega) (by omega)
    refine ⟨((N.high - N.low) / N.step).toNat, ⟨by omega, by omega, by omega, ?_, by omega, by omega, a6⟩, by unfold cycA; rw [if_pos h0]⟩
    rw [Int.toNat_of_nonneg hq0]
    have := Int.mul_ediv_add_emod (N.high - N.low) N.step
    rw [a4, Int.add_zero, Int.mul_comm] at this
    exact this.symm
theorem Cyc.le {N : Nt} {qt k : Nat} (h : Cyc N qt) (hk : k ≤ qt) : N.low + k * N.step ≤ N.high := by
  have h1 := h.all
  have h2 : (k : Int) * N.step ≤ qt * N.step := Int.mul_le_mul_of_nonneg_right (by omega) (by have := h.step; omega)
  omega
theorem Cyc.ge {N : Nt} {k : Nat} {qt : Nat} (h : Cyc N qt) : N.low ≤ N.low + k * N.step := by
  have h2 : 0 ≤ (k : Int) * N.step := Int.mul_nonneg (by omega) (by have := h.step; omega)
  omega
theorem Cyc.lt {N : Nt} {qt : Nat} (h : Cyc N qt) : N.low + ((qt + 1 : Nat) : Int) * N.step = N.high + N.step := by
  have h1 := h.all
  have h2 : ((qt + 1 : Nat) : Int) * N.step = qt * N.step + N.step := by rw [Int.natCast_add, Int.add_mul]; simp
  omega
theorem cycK_rng {N : Nt} {qt : Nat} (h : Cyc N qt) {k : Nat} (hk : k ≤ qt + 1) : ∀ x ∈ cycK N k, -9223372036854775808 ≤ x ∧ x ≤ 9223372036854775807 := fun x hx => by
  simp only [cycK, List.mem_map, List.mem_range] at hx
  obtain ⟨i, hi, rfl⟩ := hx
  have h1 := h.le (k := i) (by omega)
  have h2 := h.ge (k := i)
  have := h.low
  have := h.high
  omega
set_option maxRecDepth 100000 in
set_option maxHeartbeats 2000000 in
theorem ncycles_no {w : World} {Y : Na} {N : Nt} (h : NetAt w Y N) (hT : Tabb w) (hb : netB N = false) : Calls Tryd.prog 11 #[netV Y N] w fun e w' => e = .returned (.tuple #[.slice none 0 0, .int .i64 60]) ∧ Kept w w' none := by
  have hkA : Kept w (w.alloc (.cells #[.slice Y.s N.sites.length Y.sc, .slice Y.u N.subs.length Y.uc, .slice Y.d N.weds.length Y.dc, .int .i64 N.low, .int .i64 N.high, .int .i64 N.step] 26)) none := Kept.alloc _ _ _ _ _
  have HN := Hid.mk' (h.kept hkA)
  have HK := Hid.mk' hkA
  have HT := Hid.mk' (hT.kept hkA)
  have HE := Hid.mk' (netE_no1 hb)
  clear h hkA hT hb
  go_enter Tryd.func11, Tryd.ntmps11
  go_wp2_with (go_at_call 13; have hn := ncheck_any HN.out HT.out; rw [HE.out] at hn; refine hn.mono ?_; rintro e w3 ⟨rfl, hk3⟩)
  go_ret2
  exact ⟨rfl, HK.out.tr hk3⟩
theorem cyc_grow {w : World} {base k c qt : Nat} {a : Option Addr} {N : Nt} (h : OwI w base (.slice a k c) (cycK N k)) (hC : Cyc N qt) (hk : k ≤ qt) (hb : base ≤ w.heap.size) :
    ∃ a' c' w', (Builtin.append_ #[31, 31] 31 #[.slice a k c, .slice (some ⟨w.heap.size, 0, none⟩) 1 1]).run Tryd.prog (w.alloc (.cells #[.int .i64 (N.low + k * N.step)] 3)) = .ok (.slice a' (k + 1 : Nat) c') w' ∧ OwI w' base (.slice a' (k + 1 : Nat) c') (cycK N (k + 1)) ∧ Kept w w' (Value.slice a k c).ownBlock := by
  have hf := hC.few
  obtain ⟨v', w', h1, h2, h3, h4⟩ := h.grow (N.low + k * N.step) (by rw [cycK_len]; omega) hb
  rw [← cycK_succ] at h2
  obtain ⟨a', c', e, _, _⟩ := h2.ints (cycK_rng hC (by omega))
  rw [cycK_len] at e
  subst e
  exact ⟨a', c', w', h1, h2, h3⟩
set_option maxRecDepth 100000 in
set_option maxHeartbeats 4000000 in
theorem ncycles_yes {w : World} {Y : Na} {N : Nt} {qt : Nat} (h : NetAt w Y N) (hT : Tabb w) (hb : netB N = true) (hC : Cyc N qt) : Calls Tryd.prog 11 #[netV Y N] w fun e w' => ∃ a c, e = .returned (.tuple #[.slice a (qt + 1 : Nat) c, .int .i64 0]) ∧ Ints w' a (qt + 1) c (cycK N (qt + 1)) ∧ (∀ b, a = some b → w.heap.size ≤ b.block) ∧ Kept w w' none := by
  have hkA : Kept w (w.alloc (.cells #[.slice Y.s N.sites.length Y.sc, .slice Y.u N.subs.length Y.uc, .slice Y.d N.weds.length Y.dc, .int .i64 N.low, .int .i64 N.high, .int .i64 N.step] 26)) none := Kept.alloc _ _ _ _ _
  have HNB := Hid.mk' (nbx_alloc h 26)
  have HK := Hid.mk' hkA
  have HT := Hid.mk' (hT.kept hkA)
  have HE := Hid.mk' (netE_yes1 hb)
  have HC := Hid.mk' hC
  have HS : Hid (∀ w', Calls Tryd.prog 26 #[netV Y N] w' fun e w'' => e = .returned (.int .i64 ((qt : Nat) : Int)) ∧ Kept w' w'' none) := fun w' => by
    have hq := hC.quot
    have := hC.high
    have := hC.low
    have := hC.step
    have := steps_net (w := w') (Y := Y) (N := N) (by omega) (by omega) (by omega)
    rw [hq] at this
    exact this
  have hl := hC.low
  have hh := hC.high
  have hst := hC.step
  have hf := hC.few
  clear h hkA hT hb hC
  go_enter Tryd.func11, Tryd.ntmps11
  have hWz : ∃ n, n = (w.alloc (.cells #[.slice Y.s N.sites.length Y.sc, .slice Y.u N.subs.length Y.uc, .slice Y.d N.weds.length Y.dc, .int .i64 N.low, .int .i64 N.high, .int .i64 N.step] 26)).heap.size := ⟨_, rfl⟩
  obtain ⟨n0, hn0⟩ := hWz
  go_wp2_with (first
    | (go_at_call 26; refine (HS.out _).mono ?_; rintro e w4 ⟨rfl, hk4⟩; have K4 := Hid.mk' (K3.out.tr hk4); clear c0 c1 c2 c3 c4 c5 hk4; obtain ⟨w5, hmk, hown, hk5⟩ := mk_ints (qt + 1) (by omega) w4 n0 (hn0 ▸ K4.out.size); have K5 := Hid.mk' (K4.out.tr hk5); have OW := Hid.mk' hown; obtain ⟨c0, c1, c2, c3, c4, c5, _⟩ := HNB.out.kept K5.out; rw [show ((qt + 1 : Nat) : Int) = (qt : Int) + 1 from by omega] at hmk; clear hk5 hown)
    | (go_at_call 13; have hn := ncheck_any HNB.out.net HT.out; rw [HE.out] at hn; refine hn.mono ?_; rintro e w3 ⟨rfl, hk3⟩; have K3 := Hid.mk' hk3; clear hk3; obtain ⟨c0, c1, c2, c3, c4, c5, _⟩ := HNB.out.kept K3.out))
  clear hmk c0 c1 c2 c3 c4 c5
  generalize hW : (w.alloc (.cells #[.slice Y.s N.sites.length Y.sc, .slice Y.u N.subs.length Y.uc, .slice Y.d N.weds.length Y.dc, .int .i64 N.low, .int .i64 N.high, .int .i64 N.step] 26)) = W at *
  clear hW
  subst hn0
  go_loopw [5, 6] (fun v cy wr => ∃ (k : Nat) (a : Option Addr) (c : Nat), k ≤ qt + 1 ∧ cy = .int .i64 (N.low + k * N.step) ∧ v = .slice a k c ∧ Hid (OwI wr W.heap.size (.slice a k c) (cycK N k)) ∧ Kept W wr none) (fun _ cy _ => (N.high + N.step - intOf cy).toNat)
  case atStart => exact ⟨0, _, _, Nat.zero_le _, by simp, rfl, OW, K5.out⟩
  case round =>
    clear OW K5 K4 K3
    obtain ⟨k, a, c, hk, rfl, rfl, HO, hkr⟩ := hrel
    obtain ⟨c0, c1, c2, c3, c4, c5, _⟩ := HNB.out.kept hkr
    have hge := HC.out.ge (k := k)
    by_cases hle : k ≤ qt
    · have hle2 := HC.out.le hle
      have hnx : N.low + ((k + 1 : Nat) : Int) * N.step = N.low + k * N.step + N.step := by rw [Int.natCast_add, Int.add_mul]; simp; omega
      obtain ⟨a', c', w6, hrun, hO6, hk6⟩ := cyc_grow HO.out HC.out hle hkr.size
      have HR := Hid.mk' hrun
      have HKF : Hid (Kept W w6 none) := HO.out.far hk6 hkr (Nat.le_refl _)
      have HO6 := Hid.mk' hO6
      have HNX := Hid.mk' hnx
      clear hrun hO6 hk6 hnx
      obtain ⟨d0, d1, d2, d3, d4, d5, _⟩ := HNB.out.kept HKF.out
      generalize N.low + (k : Int) * N.step = cy at *
      go_wp2_with (at_builtin; refine wpList_app (by rfl) _ _ _ (by rfl) (by rfl) (by rfl) HR.out ?_)
      go_roundw
      case rel => exact ⟨k + 1, a', c', by omega, by rw [HNX.out], rfl, HO6, HKF.out⟩
      case measure => simp [intOf]; omega
    · have e : k = qt + 1 := by omega
      subst e
      have hlast := HC.out.lt
      have hgt : ¬ N.low + ((qt + 1 : Nat) : Int) * N.step ≤ N.high := by omega
      generalize N.low + ((qt + 1 : Nat) : Int) * N.step = cy at *
      go_wp2
      go_ret2
      obtain ⟨a2, c2', e, hI, hb⟩ := HO.out.ints (cycK_rng HC.out (Nat.le_refl _))
      rw [cycK_len] at e hI
      injection e with e1 e2 e3
      subst e1 e3
      exact ⟨a, c, rfl, hI, fun b hb' => Nat.le_trans HK.out.size (hb b hb').1, HK.out.tr hkr⟩

end Go.Proofs.YtoahbpdgbiachaaDoor

/-
  THE WALK of NetNames.
-/
namespace Go.Proofs.YtoahbpdgbiachaaDoor
open Go.RowKit Go.Lib Go.Deep
set_option linter.unusedVariables false
set_option linter.unusedSimpArgs false

theorem ntwo_ex {w : World} : Calls Tryd.prog 8 #[] w fun e w' => ∃ h, w.heap.size ≤ h ∧ e = .returned (.agg #[.slice (some ⟨h + 1 + 1 + 1 + 1 + 1 + 1 + 1 + 1 + 1 + 1, 0, none⟩) 2 2, .slice (some ⟨h + 1 + 1 + 1 + 1 + 1 + 1 + 1 + 1 + 1 + 1 + 1 + 1 + 1, 0, none⟩) 2 2, .slice (some ⟨h + 1 + 1 + 1 + 1 + 1 + 1 + 1 + 1 + 1 + 1 + 1 + 1 + 1 + 1 + 1, 0, none⟩) 1 1, .int .i64 8, .int .i64 20, .int .i64 4]) ∧ TwN w' h ⟨h + 1 + 1 + 1 + 1 + 1 + 1 + 1 + 1 + 1 + 1 + 1 + 1, 0, none⟩ 1 1 0 1 ∧ w'.cell? ⟨h + 1 + 1 + 1 + 1 + 1 + 1 + 1 + 1 + 1 + 1 + 1 + 1, 0, none⟩ = some (.int .i64 1) ∧ (∀ j, h ≤ j → ∀ q, w'.frozen? ⟨j, q, none⟩ = false) ∧ Kept w w' none :=
  ntwo_any.mono (fun e w' h => ⟨w.heap.size, Nat.le_refl _, h.1, h.2.1, h.2.2.1, h.2.2.2.1, h.2.2.2.2⟩)
theorem come_nil (w : World) : Come w none 0 0 [] := ⟨By.nil _ _, fun _ => rfl, Nat.le_refl _, by omega⟩
theorem facts5 {z3 z4 z5 : World} {h3 h4 h5 : Nat} (U3 : TwN z3 h3 ⟨h3 + 1 + 1 + 1 + 1 + 1 + 1 + 1 + 1 + 1 + 1 + 1 + 1, 0, none⟩ 1 1 0 1) (U4 : TwN z4 h4 ⟨h4 + 1 + 1 + 1 + 1 + 1 + 1 + 1 + 1 + 1 + 1 + 1 + 1, 0, none⟩ 1 1 0 1) (U5 : TwN z5 h5 ⟨h5 + 1 + 1 + 1 + 1 + 1 + 1 + 1 + 1 + 1 + 1 + 1 + 1, 0, none⟩ 1 1 0 1) (F3 : ∀ j, h3 ≤ j → ∀ q, z3.frozen? ⟨j, q, none⟩ = false) (F4 : ∀ j, h4 ≤ j → ∀ q, z4.frozen? ⟨j, q, none⟩ = false) (F5 : ∀ j, h5 ≤ j → ∀ q, z5.frozen? ⟨j, q, none⟩ = false) (Z4 : Kept z3 z4 none) (Z5 : Kept z4 z5 none) (l4 : z3.heap.size ≤ h4) (l5 : z4.heap.size ≤ h5) :
    z5.cell? ⟨h3 + 1 + 1 + 1 + 1 + 1 + 1 + 1 + 1 + 1 + 1 + 1 + 1 + 1, 2, none⟩ = some (.slice (some ⟨h3 + 1 + 1 + 1 + 1 + 1 + 1 + 1 + 1 + 1 + 1 + 1 + 1, 0, none⟩) 1 1) ∧ z5.cell? ⟨h3 + 1 + 1 + 1 + 1 + 1 + 1 + 1 + 1 + 1 + 1 + 1 + 1 + 1, 3, none⟩ = some (.int .i64 1) ∧ z5.frozen? ⟨h3 + 1 + 1 + 1 + 1 + 1 + 1 + 1 + 1 + 1 + 1 + 1 + 1 + 1, 2, none⟩ = false ∧ z5.frozen? ⟨h3 + 1 + 1 + 1 + 1 + 1 + 1 + 1 + 1 + 1 + 1 + 1 + 1 + 1, 3, none⟩ = false ∧ z5.cell? ⟨h4 + 1 + 1 + 1 + 1 + 1 + 1 + 1 + 1 + 1 + 1 + 1 + 1 + 1 + 1 + 1, 0, none⟩ = some (.int .i64 0) ∧ z5.cell? ⟨h4 + 1 + 1 + 1 + 1 + 1 + 1 + 1 + 1 + 1 + 1 + 1 + 1 + 1 + 1 + 1, 1, none⟩ = some (.int .i64 1) ∧ z5.frozen? ⟨h4 + 1 + 1 + 1 + 1 + 1 + 1 + 1 + 1 + 1 + 1 + 1 + 1 + 1 + 1 + 1, 0, none⟩ = false ∧ z5.frozen? ⟨h4 + 1 + 1 + 1 + 1 + 1 + 1 + 1 + 1 + 1 + 1 + 1 + 1 + 1 + 1 + 1, 1, none⟩ = false ∧ z5.cell? ⟨h5 + 1 + 1 + 1 + 1 + 1 + 1 + 1 + 1 + 1 + 1, 12, none⟩ = some (.int .i64 1) ∧ z5.frozen? ⟨h5 + 1 + 1 + 1 + 1 + 1 + 1 + 1 + 1 + 1 + 1, 12, none⟩ = false ∧ h3 + 1 + 1 + 1 + 1 + 1 + 1 + 1 + 1 + 1 + 1 + 1 + 1 + 1 < z5.heap.size ∧ h4 + 1 + 1 + 1 + 1 + 1 + 1 + 1 + 1 + 1 + 1 + 1 + 1 + 1 + 1 + 1 < z5.heap.size ∧ h5 + 1 + 1 + 1 + 1 + 1 + 1 + 1 + 1 + 1 + 1 < z5.heap.size ∧ ¬ (h4 + 1 + 1 + 1 + 1 + 1 + 1 + 1 + 1 + 1 + 1 + 1 + 1 + 1 + 1 + 1 = h3 + 1 + 1 + 1 + 1 + 1 + 1 + 1 + 1 + 1 + 1 + 1 + 1 + 1) ∧ ¬ (h3 + 1 + 1 + 1 + 1 + 1 + 1 + 1 + 1 + 1 + 1 + 1 + 1 + 1 = h4 + 1 + 1 + 1 + 1 + 1 + 1 + 1 + 1 + 1 + 1 + 1 + 1 + 1 + 1 + 1) ∧ ¬ (h5 + 1 + 1 + 1 + 1 + 1 + 1 + 1 + 1 + 1 + 1 = h3 + 1 + 1 + 1 + 1 + 1 + 1 + 1 + 1 + 1 + 1 + 1 + 1 + 1) ∧ ¬ (h5 + 1 + 1 + 1 + 1 + 1 + 1 + 1 + 1 + 1 + 1 = h4 + 1 + 1 + 1 + 1 + 1 + 1 + 1 + 1 + 1 + 1 + 1 + 1 + 1 + 1 + 1) := by
  have s3 := U3.size
  have s4 := U4.size
  have s5 := U5.size
  have k4 := Z4.size
  have k5 := Z5.size
  have Z35 := Z4.tr Z5
  exact ⟨cell_kept0 U3.c13x2 Z35, cell_kept0 U3.c13x3 Z35, (frozen_block (Z35.block _ (by omega) (by simp))).trans (F3 _ (by omega) _), (frozen_block (Z35.block _ (by omega) (by simp))).trans (F3 _ (by omega) _), cell_kept0 U4.c15x0 Z5, cell_kept0 U4.c15x1 Z5, (frozen_block (Z5.block _ (by omega) (by simp))).trans (F4 _ (by omega) _), (frozen_block (Z5.block _ (by omega) (by simp))).trans (F4 _ (by omega) _), U5.c10x12, F5 _ (by omega) _, by omega, by omega, by omega, by omega, by omega, by omega, by omega⟩
theorem TwoC.blocksN {W W' : World} {h : Nat} {v : Int} (c : TwoC W h v) (hb : ∀ k, h ≤ k → k < h + 8 → W'.heap[k]? = W.heap[k]?) (hs : W.heap.size ≤ W'.heap.size) : TwoC W' h v := by
  have hc : ∀ k j u, h ≤ k → k < h + 8 → W.cell? ⟨k, j, none⟩ = some u → W'.cell? ⟨k, j, none⟩ = some u := fun k j u h1 h2 e => (World.cell?_of_block (w := W) (a := ⟨k, j, none⟩) (hb k h1 h2)).trans e
  exact ⟨Nat.le_trans c.size hs, (frozen_block (hb _ (by omega) (by omega))).trans c.fz, hc _ _ _ (by omega) (by omega) c.c2x0, hc _ _ _ (by omega) (by omega) c.c2x1, hc _ _ _ (by omega) (by omega) c.c2x2, hc _ _ _ (by omega) (by omega) c.c2x3, hc _ _ _ (by omega) (by omega) c.c2x4, hc _ _ _ (by omega) (by omega) c.c2x5, hc _ _ _ (by omega) (by omega) c.c3x0, hc _ _ _ (by omega) (by omega) c.c3x1, hc _ _ _ (by omega) (by omega) c.c4x0, hc _ _ _ (by omega) (by omega) c.c4x1, hc _ _ _ (by omega) (by omega) c.c5x0, hc _ _ _ (by omega) (by omega) c.c5x1, hc _ _ _ (by omega) (by omega) c.c6x0, hc _ _ _ (by omega) (by omega) c.c6x1, hc _ _ _ (by omega) (by omega) c.c7x0, hc _ _ _ (by omega) (by omega) c.c7x1, hc _ _ _ (by omega) (by omega) c.c7x2, hc _ _ _ (by omega) (by omega) c.c7x3, hc _ _ _ (by omega) (by omega) c.c7x4, hc _ _ _ (by omega) (by omega) c.c7x5, hc _ _ _ (by omega) (by omega) c.c7x6, hc _ _ _ (by omega) (by omega) c.c7x7, hc _ _ _ (by omega) (by omega) c.c7x8, hc _ _ _ (by omega) (by omega) c.c7x9⟩
theorem TwN.move {W W' : World} {h : Nat} {r r' : Addr} {i i' c c' a a' b b' : Int} (t : TwN W h r i c a b) (hb : ∀ k, h ≤ k → k < h + 8 → W'.heap[k]? = W.heap[k]?) (hs : W.heap.size ≤ W'.heap.size)
    (hc : ∀ k j u, ¬ (k = h + 10 ∧ j = 12) → ¬ (k = h + 13 ∧ (j = 2 ∨ j = 3)) → ¬ (k = h + 15 ∧ (j = 0 ∨ j = 1)) → h ≤ k → k < h + 16 → W.cell? ⟨k, j, none⟩ = some u → W'.cell? ⟨k, j, none⟩ = some u)
    (e1 : W'.cell? ⟨h + 1 + 1 + 1 + 1 + 1 + 1 + 1 + 1 + 1 + 1, 12, none⟩ = some (.int .i64 i')) (e2 : W'.cell? ⟨h + 1 + 1 + 1 + 1 + 1 + 1 + 1 + 1 + 1 + 1 + 1 + 1 + 1, 2, none⟩ = some (.slice (some r') 1 1)) (e3 : W'.cell? ⟨h + 1 + 1 + 1 + 1 + 1 + 1 + 1 + 1 + 1 + 1 + 1 + 1 + 1, 3, none⟩ = some (.int .i64 c')) (e4 : W'.cell? ⟨h + 1 + 1 + 1 + 1 + 1 + 1 + 1 + 1 + 1 + 1 + 1 + 1 + 1 + 1 + 1, 0, none⟩ = some (.int .i64 a')) (e5 : W'.cell? ⟨h + 1 + 1 + 1 + 1 + 1 + 1 + 1 + 1 + 1 + 1 + 1 + 1 + 1 + 1 + 1, 1, none⟩ = some (.int .i64 b')) : TwN W' h r' i' c' a' b' :=
  ⟨Nat.le_trans t.size hs, t.two.blocksN hb hs, hc _ _ _ (by omega) (by omega) (by omega) (by omega) (by omega) t.c10x0, hc _ _ _ (by omega) (by omega) (by omega) (by omega) (by omega) t.c10x1, hc _ _ _ (by omega) (by omega) (by omega) (by omega) (by omega) t.c10x2, hc _ _ _ (by omega) (by omega) (by omega) (by omega) (by omega) t.c10x3, hc _ _ _ (by omega) (by omega) (by omega) (by omega) (by omega) t.c10x4, hc _ _ _ (by omega) (by omega) (by omega) (by omega) (by omega) t.c10x5, hc _ _ _ (by omega) (by omega) (by omega) (by omega) (by omega) t.c10x6, hc _ _ _ (by omega) (by omega) (by omega) (by omega) (by omega) t.c10x7, hc _ _ _ (by omega) (by omega) (by omega) (by omega) (by omega) t.c10x8, hc _ _ _ (by omega) (by omega) (by omega) (by omega) (by omega) t.c10x9, hc _ _ _ (by omega) (by omega) (by omega) (by omega) (by omega) t.c10x10, hc _ _ _ (by omega) (by omega) (by omega) (by omega) (by omega) t.c10x11, e1, hc _ _ _ (by omega) (by omega) (by omega) (by omega) (by omega) t.c10x13, hc _ _ _ (by omega) (by omega) (by omega) (by omega) (by omega) t.c10x14, hc _ _ _ (by omega) (by omega) (by omega) (by omega) (by omega) t.c10x15, hc _ _ _ (by omega) (by omega) (by omega) (by omega) (by omega) t.c10x16, hc _ _ _ (by omega) (by omega) (by omega) (by omega) (by omega) t.c10x17, hc _ _ _ (by omega) (by omega) (by omega) (by omega) (by omega) t.c10x18, hc _ _ _ (by omega) (by omega) (by omega) (by omega) (by omega) t.c10x19, hc _ _ _ (by omega) (by omega) (by omega) (by omega) (by omega) t.c10x20, hc _ _ _ (by omega) (by omega) (by omega) (by omega) (by omega) t.c10x21, hc _ _ _ (by omega) (by omega) (by omega) (by omega) (by omega) t.c10x22, hc _ _ _ (by omega) (by omega) (by omega) (by omega) (by omega) t.c10x23, hc _ _ _ (by omega) (by omega) (by omega) (by omega) (by omega) t.c11x0, hc _ _ _ (by omega) (by omega) (by omega) (by omega) (by omega) t.c13x0, hc _ _ _ (by omega) (by omega) (by omega) (by omega) (by omega) t.c13x1, e2, e3, hc _ _ _ (by omega) (by omega) (by omega) (by omega) (by omega) t.c14x0, hc _ _ _ (by omega) (by omega) (by omega) (by omega) (by omega) t.c14x1, e4, e5, hc _ _ _ (by omega) (by omega) (by omega) (by omega) (by omega) t.c15x2, hc _ _ _ (by omega) (by omega) (by omega) (by omega) (by omega) t.c15x3⟩
theorem drewN {w : World} : Kept w w.drew none := ⟨rfl, rfl, rfl, Nat.le_refl _, fun _ _ _ => rfl⟩
set_option maxRecDepth 100000 in
set_option maxHeartbeats 4000000 in
theorem nend {w z1 z2 z3 z4 z5 : World} {h1 h2 h3 h4 h5 : Nat} (U1 : TwN z1 h1 ⟨h1 + 1 + 1 + 1 + 1 + 1 + 1 + 1 + 1 + 1 + 1 + 1 + 1, 0, none⟩ 1 1 0 1) (q1 : z1.cell? ⟨h1 + 1 + 1 + 1 + 1 + 1 + 1 + 1 + 1 + 1 + 1 + 1 + 1, 0, none⟩ = some (.int .i64 1)) (U2 : TwN z2 h2 ⟨h2 + 1 + 1 + 1 + 1 + 1 + 1 + 1 + 1 + 1 + 1 + 1 + 1, 0, none⟩ 1 1 0 1) (q2 : z2.cell? ⟨h2 + 1 + 1 + 1 + 1 + 1 + 1 + 1 + 1 + 1 + 1 + 1 + 1, 0, none⟩ = some (.int .i64 1)) (U3 : TwN z3 h3 ⟨h3 + 1 + 1 + 1 + 1 + 1 + 1 + 1 + 1 + 1 + 1 + 1 + 1, 0, none⟩ 1 1 0 1) (q3 : z3.cell? ⟨h3 + 1 + 1 + 1 + 1 + 1 + 1 + 1 + 1 + 1 + 1 + 1 + 1, 0, none⟩ = some (.int .i64 1)) (U4 : TwN z4 h4 ⟨h4 + 1 + 1 + 1 + 1 + 1 + 1 + 1 + 1 + 1 + 1 + 1 + 1, 0, none⟩ 1 1 0 1) (q4 : z4.cell? ⟨h4 + 1 + 1 + 1 + 1 + 1 + 1 + 1 + 1 + 1 + 1 + 1 + 1, 0, none⟩ = some (.int .i64 1)) (U5 : TwN z5 h5 ⟨h5 + 1 + 1 + 1 + 1 + 1 + 1 + 1 + 1 + 1 + 1 + 1 + 1, 0, none⟩ 1 1 0 1) (q5 : z5.cell? ⟨h5 + 1 + 1 + 1 + 1 + 1 + 1 + 1 + 1 + 1 + 1 + 1 + 1, 0, none⟩ = some (.int .i64 1)) (Z2 : Kept z1 z2 none) (Z3 : Kept z2 z3 none) (Z4 : Kept z3 z4 none) (Z5 : Kept z4 z5 none) (l2 : z1.heap.size ≤ h2) (l3 : z2.heap.size ≤ h3) (l4 : z3.heap.size ≤ h4) (l5 : z4.heap.size ≤ h5) (hw : Kept w z5 none) (lw : w.heap.size ≤ h1) :
    (Nbx ((((((((((((z5.setCell ⟨h3 + 1 + 1 + 1 + 1 + 1 + 1 + 1 + 1 + 1 + 1 + 1 + 1 + 1, 2, none⟩ (.slice (some ⟨z5.heap.size + 1 + 1 + 1 + 1 + 1, 0, none⟩) 1 1)).setCell ⟨h3 + 1 + 1 + 1 + 1 + 1 + 1 + 1 + 1 + 1 + 1 + 1 + 1 + 1, 3, none⟩ (.int .i64 0)).setCell ⟨h4 + 1 + 1 + 1 + 1 + 1 + 1 + 1 + 1 + 1 + 1 + 1 + 1 + 1 + 1 + 1, 0, none⟩ (.int .i64 1)).setCell ⟨h4 + 1 + 1 + 1 + 1 + 1 + 1 + 1 + 1 + 1 + 1 + 1 + 1 + 1 + 1 + 1, 1, none⟩ (.int .i64 0)).setCell ⟨h5 + 1 + 1 + 1 + 1 + 1 + 1 + 1 + 1 + 1 + 1, 12, none⟩ (.int .i64 0)).alloc (.cells #[.slice (some ⟨h1 + 1 + 1 + 1 + 1 + 1 + 1 + 1 + 1 + 1 + 1, 0, none⟩) 2 2, .slice (some ⟨h1 + 1 + 1 + 1 + 1 + 1 + 1 + 1 + 1 + 1 + 1 + 1 + 1 + 1, 0, none⟩) 2 2, .slice (some ⟨h1 + 1 + 1 + 1 + 1 + 1 + 1 + 1 + 1 + 1 + 1 + 1 + 1 + 1 + 1 + 1, 0, none⟩) 1 1, .int .i64 8, .int .i64 20, .int .i64 5] 26)).alloc (.cells #[.slice (some ⟨h2 + 1 + 1 + 1 + 1 + 1 + 1 + 1 + 1 + 1 + 1, 0, none⟩) 2 2, .slice (some ⟨h2 + 1 + 1 + 1 + 1 + 1 + 1 + 1 + 1 + 1 + 1 + 1 + 1 + 1, 0, none⟩) 2 2, .slice (some ⟨h2 + 1 + 1 + 1 + 1 + 1 + 1 + 1 + 1 + 1 + 1 + 1 + 1 + 1 + 1 + 1, 0, none⟩) 1 1, .int .i64 8, .int .i64 24, .int .i64 4] 26)).alloc (.cells #[.slice (some ⟨h3 + 1 + 1 + 1 + 1 + 1 + 1 + 1 + 1 + 1 + 1, 0, none⟩) 2 2, .slice (some ⟨h3 + 1 + 1 + 1 + 1 + 1 + 1 + 1 + 1 + 1 + 1 + 1 + 1 + 1, 0, none⟩) 2 2, .slice (some ⟨h3 + 1 + 1 + 1 + 1 + 1 + 1 + 1 + 1 + 1 + 1 + 1 + 1 + 1 + 1 + 1, 0, none⟩) 1 1, .int .i64 8, .int .i64 20, .int .i64 4] 26)).alloc (.cells #[.slice (some ⟨h4 + 1 + 1 + 1 + 1 + 1 + 1 + 1 + 1 + 1 + 1, 0, none⟩) 2 2, .slice (some ⟨h4 + 1 + 1 + 1 + 1 + 1 + 1 + 1 + 1 + 1 + 1 + 1 + 1 + 1, 0, none⟩) 2 2, .slice (some ⟨h4 + 1 + 1 + 1 + 1 + 1 + 1 + 1 + 1 + 1 + 1 + 1 + 1 + 1 + 1 + 1, 0, none⟩) 1 1, .int .i64 8, .int .i64 20, .int .i64 4] 26)).alloc (.cells #[.slice (some ⟨h5 + 1 + 1 + 1 + 1 + 1 + 1 + 1 + 1 + 1 + 1, 0, none⟩) 2 2, .slice (some ⟨h5 + 1 + 1 + 1 + 1 + 1 + 1 + 1 + 1 + 1 + 1 + 1 + 1 + 1, 0, none⟩) 2 2, .slice (some ⟨h5 + 1 + 1 + 1 + 1 + 1 + 1 + 1 + 1 + 1 + 1 + 1 + 1 + 1 + 1 + 1, 0, none⟩) 1 1, .int .i64 8, .int .i64 20, .int .i64 4] 26)).alloc (.cells #[.int .i64 0] 3)).drew) z5.heap.size (Y2 h1 ⟨h1 + 1 + 1 + 1 + 1 + 1 + 1 + 1 + 1 + 1 + 1 + 1 + 1, 0, none⟩) (N2 1 1 1 0 1 8 20 5) ∧ Nbx ((((((((((((z5.setCell ⟨h3 + 1 + 1 + 1 + 1 + 1 + 1 + 1 + 1 + 1 + 1 + 1 + 1 + 1, 2, none⟩ (.slice (some ⟨z5.heap.size + 1 + 1 + 1 + 1 + 1, 0, none⟩) 1 1)).setCell ⟨h3 + 1 + 1 + 1 + 1 + 1 + 1 + 1 + 1 + 1 + 1 + 1 + 1 + 1, 3, none⟩ (.int .i64 0)).setCell ⟨h4 + 1 + 1 + 1 + 1 + 1 + 1 + 1 + 1 + 1 + 1 + 1 + 1 + 1 + 1 + 1, 0, none⟩ (.int .i64 1)).setCell ⟨h4 + 1 + 1 + 1 + 1 + 1 + 1 + 1 + 1 + 1 + 1 + 1 + 1 + 1 + 1 + 1, 1, none⟩ (.int .i64 0)).setCell ⟨h5 + 1 + 1 + 1 + 1 + 1 + 1 + 1 + 1 + 1 + 1, 12, none⟩ (.int .i64 0)).alloc (.cells #[.slice (some ⟨h1 + 1 + 1 + 1 + 1 + 1 + 1 + 1 + 1 + 1 + 1, 0, none⟩) 2 2, .slice (some ⟨h1 + 1 + 1 + 1 + 1 + 1 + 1 + 1 + 1 + 1 + 1 + 1 + 1 + 1, 0, none⟩) 2 2, .slice (some ⟨h1 + 1 + 1 + 1 + 1 + 1 + 1 + 1 + 1 + 1 + 1 + 1 + 1 + 1 + 1 + 1, 0, none⟩) 1 1, .int .i64 8, .int .i64 20, .int .i64 5] 26)).alloc (.cells #[.slice (some ⟨h2 + 1 + 1 + 1 + 1 + 1 + 1 + 1 + 1 + 1 + 1, 0, none⟩) 2 2, .slice (some ⟨h2 + 1 + 1 + 1 + 1 + 1 + 1 + 1 + 1 + 1 + 1 + 1 + 1 + 1, 0, none⟩) 2 2, .slice (some ⟨h2 + 1 + 1 + 1 + 1 + 1 + 1 + 1 + 1 + 1 + 1 + 1 + 1 + 1 + 1 + 1, 0, none⟩) 1 1, .int .i64 8, .int .i64 24, .int .i64 4] 26)).alloc (.cells #[.slice (some ⟨h3 + 1 + 1 + 1 + 1 + 1 + 1 + 1 + 1 + 1 + 1, 0, none⟩) 2 2, .slice (some ⟨h3 + 1 + 1 + 1 + 1 + 1 + 1 + 1 + 1 + 1 + 1 + 1 + 1 + 1, 0, none⟩) 2 2, .slice (some ⟨h3 + 1 + 1 + 1 + 1 + 1 + 1 + 1 + 1 + 1 + 1 + 1 + 1 + 1 + 1 + 1, 0, none⟩) 1 1, .int .i64 8, .int .i64 20, .int .i64 4] 26)).alloc (.cells #[.slice (some ⟨h4 + 1 + 1 + 1 + 1 + 1 + 1 + 1 + 1 + 1 + 1, 0, none⟩) 2 2, .slice (some ⟨h4 + 1 + 1 + 1 + 1 + 1 + 1 + 1 + 1 + 1 + 1 + 1 + 1 + 1, 0, none⟩) 2 2, .slice (some ⟨h4 + 1 + 1 + 1 + 1 + 1 + 1 + 1 + 1 + 1 + 1 + 1 + 1 + 1 + 1 + 1, 0, none⟩) 1 1, .int .i64 8, .int .i64 20, .int .i64 4] 26)).alloc (.cells #[.slice (some ⟨h5 + 1 + 1 + 1 + 1 + 1 + 1 + 1 + 1 + 1 + 1, 0, none⟩) 2 2, .slice (some ⟨h5 + 1 + 1 + 1 + 1 + 1 + 1 + 1 + 1 + 1 + 1 + 1 + 1 + 1, 0, none⟩) 2 2, .slice (some ⟨h5 + 1 + 1 + 1 + 1 + 1 + 1 + 1 + 1 + 1 + 1 + 1 + 1 + 1 + 1 + 1, 0, none⟩) 1 1, .int .i64 8, .int .i64 20, .int .i64 4] 26)).alloc (.cells #[.int .i64 0] 3)).drew) (z5.heap.size + 1) (Y2 h2 ⟨h2 + 1 + 1 + 1 + 1 + 1 + 1 + 1 + 1 + 1 + 1 + 1 + 1, 0, none⟩) (N2 1 1 1 0 1 8 24 4) ∧ Nbx ((((((((((((z5.setCell ⟨h3 + 1 + 1 + 1 + 1 + 1 + 1 + 1 + 1 + 1 + 1 + 1 + 1 + 1, 2, none⟩ (.slice (some ⟨z5.heap.size + 1 + 1 + 1 + 1 + 1, 0, none⟩) 1 1)).setCell ⟨h3 + 1 + 1 + 1 + 1 + 1 + 1 + 1 + 1 + 1 + 1 + 1 + 1 + 1, 3, none⟩ (.int .i64 0)).setCell ⟨h4 + 1 + 1 + 1 + 1 + 1 + 1 + 1 + 1 + 1 + 1 + 1 + 1 + 1 + 1 + 1, 0, none⟩ (.int .i64 1)).setCell ⟨h4 + 1 + 1 + 1 + 1 + 1 + 1 + 1 + 1 + 1 + 1 + 1 + 1 + 1 + 1 + 1, 1, none⟩ (.int .i64 0)).setCell ⟨h5 + 1 + 1 + 1 + 1 + 1 + 1 + 1 + 1 + 1 + 1, 12, none⟩ (.int .i64 0)).alloc (.cells #[.slice (some ⟨h1 + 1 + 1 + 1 + 1 + 1 + 1 + 1 + 1 + 1 + 1, 0, none⟩) 2 2, .slice (some ⟨h1 + 1 + 1 + 1 + 1 + 1 + 1 + 1 + 1 + 1 + 1 + 1 + 1 + 1, 0, none⟩) 2 2, .slice (some ⟨h1 + 1 + 1 + 1 + 1 + 1 + 1 + 1 + 1 + 1 + 1 + 1 + 1 + 1 + 1 + 1, 0, none⟩) 1 1, .int .i64 8, .int .i64 20, .int .i64 5] 26)).alloc (.cells #[.slice (some ⟨h2 + 1 + 1 + 1 + 1 + 1 + 1 + 1 + 1 + 1 + 1, 0, none⟩) 2 2, .slice (some ⟨h2 + 1 + 1 + 1 + 1 + 1 + 1 + 1 + 1 + 1 + 1 + 1 + 1 + 1, 0, none⟩) 2 2, .slice (some ⟨h2 + 1 + 1 + 1 + 1 + 1 + 1 + 1 + 1 + 1 + 1 + 1 + 1 + 1 + 1 + 1, 0, none⟩) 1 1, .int .i64 8, .int .i64 24, .int .i64 4] 26)).alloc (.cells #[.slice (some ⟨h3 + 1 + 1 + 1 + 1 + 1 + 1 + 1 + 1 + 1 + 1, 0, none⟩) 2 2, .slice (some ⟨h3 + 1 + 1 + 1 + 1 + 1 + 1 + 1 + 1 + 1 + 1 + 1 + 1 + 1, 0, none⟩) 2 2, .slice (some ⟨h3 + 1 + 1 + 1 + 1 + 1 + 1 + 1 + 1 + 1 + 1 + 1 + 1 + 1 + 1 + 1, 0, none⟩) 1 1, .int .i64 8, .int .i64 20, .int .i64 4] 26)).alloc (.cells #[.slice (some ⟨h4 + 1 + 1 + 1 + 1 + 1 + 1 + 1 + 1 + 1 + 1, 0, none⟩) 2 2, .slice (some ⟨h4 + 1 + 1 + 1 + 1 + 1 + 1 + 1 + 1 + 1 + 1 + 1 + 1 + 1, 0, none⟩) 2 2, .slice (some ⟨h4 + 1 + 1 + 1 + 1 + 1 + 1 + 1 + 1 + 1 + 1 + 1 + 1 + 1 + 1 + 1, 0, none⟩) 1 1, .int .i64 8, .int .i64 20, .int .i64 4] 26)).alloc (.cells #[.slice (some ⟨h5 + 1 + 1 + 1 + 1 + 1 + 1 + 1 + 1 + 1 + 1, 0, none⟩) 2 2, .slice (some ⟨h5 + 1 + 1 + 1 + 1 + 1 + 1 + 1 + 1 + 1 + 1 + 1 + 1 + 1, 0, none⟩) 2 2, .slice (some ⟨h5 + 1 + 1 + 1 + 1 + 1 + 1 + 1 + 1 + 1 + 1 + 1 + 1 + 1 + 1 + 1, 0, none⟩) 1 1, .int .i64 8, .int .i64 20, .int .i64 4] 26)).alloc (.cells #[.int .i64 0] 3)).drew) (z5.heap.size + 1 + 1) (Y2 h3 ⟨z5.heap.size + 1 + 1 + 1 + 1 + 1, 0, none⟩) (N2 1 0 0 0 1 8 20 4) ∧ Nbx ((((((((((((z5.setCell ⟨h3 + 1 + 1 + 1 + 1 + 1 + 1 + 1 + 1 + 1 + 1 + 1 + 1 + 1, 2, none⟩ (.slice (some ⟨z5.heap.size + 1 + 1 + 1 + 1 + 1, 0, none⟩) 1 1)).setCell ⟨h3 + 1 + 1 + 1 + 1 + 1 + 1 + 1 + 1 + 1 + 1 + 1 + 1 + 1, 3, none⟩ (.int .i64 0)).setCell ⟨h4 + 1 + 1 + 1 + 1 + 1 + 1 + 1 + 1 + 1 + 1 + 1 + 1 + 1 + 1 + 1, 0, none⟩ (.int .i64 1)).setCell ⟨h4 + 1 + 1 + 1 + 1 + 1 + 1 + 1 + 1 + 1 + 1 + 1 + 1 + 1 + 1 + 1, 1, none⟩ (.int .i64 0)).setCell ⟨h5 + 1 + 1 + 1 + 1 + 1 + 1 + 1 + 1 + 1 + 1, 12, none⟩ (.int .i64 0)).alloc (.cells #[.slice (some ⟨h1 + 1 + 1 + 1 + 1 + 1 + 1 + 1 + 1 + 1 + 1, 0, none⟩) 2 2, .slice (some ⟨h1 + 1 + 1 + 1 + 1 + 1 + 1 + 1 + 1 + 1 + 1 + 1 + 1 + 1, 0, none⟩) 2 2, .slice (some ⟨h1 + 1 + 1 + 1 + 1 + 1 + 1 + 1 + 1 + 1 + 1 + 1 + 1 + 1 + 1 + 1, 0, none⟩) 1 1, .int .i64 8, .int .i64 20, .int .i64 5] 26)).alloc (.cells #[.slice (some ⟨h2 + 1 + 1 + 1 + 1 + 1 + 1 + 1 + 1 + 1 + 1, 0, none⟩) 2 2, .slice (some ⟨h2 + 1 + 1 + 1 + 1 + 1 + 1 + 1 + 1 + 1 + 1 + 1 + 1 + 1, 0, none⟩) 2 2, .slice (some ⟨h2 + 1 + 1 + 1 + 1 + 1 + 1 + 1 + 1 + 1 + 1 + 1 + 1 + 1 + 1 + 1, 0, none⟩) 1 1, .int .i64 8, .int .i64 24, .int .i64 4] 26)).alloc (.cells #[.slice (some ⟨h3 + 1 + 1 + 1 + 1 + 1 + 1 + 1 + 1 + 1 + 1, 0, none⟩) 2 2, .slice (some ⟨h3 + 1 + 1 + 1 + 1 + 1 + 1 + 1 + 1 + 1 + 1 + 1 + 1 + 1, 0, none⟩) 2 2, .slice (some ⟨h3 + 1 + 1 + 1 + 1 + 1 + 1 + 1 + 1 + 1 + 1 + 1 + 1 + 1 + 1 + 1, 0, none⟩) 1 1, .int .i64 8, .int .i64 20, .int .i64 4] 26)).alloc (.cells #[.slice (some ⟨h4 + 1 + 1 + 1 + 1 + 1 + 1 + 1 + 1 + 1 + 1, 0, none⟩) 2 2, .slice (some ⟨h4 + 1 + 1 + 1 + 1 + 1 + 1 + 1 + 1 + 1 + 1 + 1 + 1 + 1, 0, none⟩) 2 2, .slice (some ⟨h4 + 1 + 1 + 1 + 1 + 1 + 1 + 1 + 1 + 1 + 1 + 1 + 1 + 1 + 1 + 1, 0, none⟩) 1 1, .int .i64 8, .int .i64 20, .int .i64 4] 26)).alloc (.cells #[.slice (some ⟨h5 + 1 + 1 + 1 + 1 + 1 + 1 + 1 + 1 + 1 + 1, 0, none⟩) 2 2, .slice (some ⟨h5 + 1 + 1 + 1 + 1 + 1 + 1 + 1 + 1 + 1 + 1 + 1 + 1 + 1, 0, none⟩) 2 2, .slice (some ⟨h5 + 1 + 1 + 1 + 1 + 1 + 1 + 1 + 1 + 1 + 1 + 1 + 1 + 1 + 1 + 1, 0, none⟩) 1 1, .int .i64 8, .int .i64 20, .int .i64 4] 26)).alloc (.cells #[.int .i64 0] 3)).drew) (z5.heap.size + 1 + 1 + 1) (Y2 h4 ⟨h4 + 1 + 1 + 1 + 1 + 1 + 1 + 1 + 1 + 1 + 1 + 1 + 1, 0, none⟩) (N2 1 1 1 1 0 8 20 4) ∧ Nbx ((((((((((((z5.setCell ⟨h3 + 1 + 1 + 1 + 1 + 1 + 1 + 1 + 1 + 1 + 1 + 1 + 1 + 1, 2, none⟩ (.slice (some ⟨z5.heap.size + 1 + 1 + 1 + 1 + 1, 0, none⟩) 1 1)).setCell ⟨h3 + 1 + 1 + 1 + 1 + 1 + 1 + 1 + 1 + 1 + 1 + 1 + 1 + 1, 3, none⟩ (.int .i64 0)).setCell ⟨h4 + 1 + 1 + 1 + 1 + 1 + 1 + 1 + 1 + 1 + 1 + 1 + 1 + 1 + 1 + 1, 0, none⟩ (.int .i64 1)).setCell ⟨h4 + 1 + 1 + 1 + 1 + 1 + 1 + 1 + 1 + 1 + 1 + 1 + 1 + 1 + 1 + 1, 1, none⟩ (.int .i64 0)).setCell ⟨h5 + 1 + 1 + 1 + 1 + 1 + 1 + 1 + 1 + 1 + 1, 12, none⟩ (.int .i64 0)).alloc (.cells #[.slice (some ⟨h1 + 1 + 1 + 1 + 1 + 1 + 1 + 1 + 1 + 1 + 1, 0, none⟩) 2 2, .slice (some ⟨h1 + 1 + 1 + 1 + 1 + 1 + 1 + 1 + 1 + 1 + 1 + 1 + 1 + 1, 0, none⟩) 2 2, .slice (some ⟨h1 + 1 + 1 + 1 + 1 + 1 + 1 + 1 + 1 + 1 + 1 + 1 + 1 + 1 + 1 + 1, 0, none⟩) 1 1, .int .i64 8, .int .i64 20, .int .i64 5] 26)).alloc (.cells #[.slice (some ⟨h2 + 1 + 1 + 1 + 1 + 1 + 1 + 1 + 1 + 1 + 1, 0, none⟩) 2 2, .slice (some ⟨h2 + 1 + 1 + 1 + 1 + 1 + 1 + 1 + 1 + 1 + 1 + 1 + 1 + 1, 0, none⟩) 2 2, .slice (some ⟨h2 + 1 + 1 + 1 + 1 + 1 + 1 + 1 + 1 + 1 + 1 + 1 + 1 + 1 + 1 + 1, 0, none⟩) 1 1, .int .i64 8, .int .i64 24, .int .i64 4] 26)).alloc (.cells #[.slice (some ⟨h3 + 1 + 1 + 1 + 1 + 1 + 1 + 1 + 1 + 1 + 1, 0, none⟩) 2 2, .slice (some ⟨h3 + 1 + 1 + 1 + 1 + 1 + 1 + 1 + 1 + 1 + 1 + 1 + 1 + 1, 0, none⟩) 2 2, .slice (some ⟨h3 + 1 + 1 + 1 + 1 + 1 + 1 + 1 + 1 + 1 + 1 + 1 + 1 + 1 + 1 + 1, 0, none⟩) 1 1, .int .i64 8, .int .i64 20, .int .i64 4] 26)).alloc (.cells #[.slice (some ⟨h4 + 1 + 1 + 1 + 1 + 1 + 1 + 1 + 1 + 1 + 1, 0, none⟩) 2 2, .slice (some ⟨h4 + 1 + 1 + 1 + 1 + 1 + 1 + 1 + 1 + 1 + 1 + 1 + 1 + 1, 0, none⟩) 2 2, .slice (some ⟨h4 + 1 + 1 + 1 + 1 + 1 + 1 + 1 + 1 + 1 + 1 + 1 + 1 + 1 + 1 + 1, 0, none⟩) 1 1, .int .i64 8, .int .i64 20, .int .i64 4] 26)).alloc (.cells #[.slice (some ⟨h5 + 1 + 1 + 1 + 1 + 1 + 1 + 1 + 1 + 1 + 1, 0, none⟩) 2 2, .slice (some ⟨h5 + 1 + 1 + 1 + 1 + 1 + 1 + 1 + 1 + 1 + 1 + 1 + 1 + 1, 0, none⟩) 2 2, .slice (some ⟨h5 + 1 + 1 + 1 + 1 + 1 + 1 + 1 + 1 + 1 + 1 + 1 + 1 + 1 + 1 + 1, 0, none⟩) 1 1, .int .i64 8, .int .i64 20, .int .i64 4] 26)).alloc (.cells #[.int .i64 0] 3)).drew) (z5.heap.size + 1 + 1 + 1 + 1) (Y2 h5 ⟨h5 + 1 + 1 + 1 + 1 + 1 + 1 + 1 + 1 + 1 + 1 + 1 + 1, 0, none⟩) (N2 0 1 1 0 1 8 20 4)) ∧ Kept w ((((((((((((z5.setCell ⟨h3 + 1 + 1 + 1 + 1 + 1 + 1 + 1 + 1 + 1 + 1 + 1 + 1 + 1, 2, none⟩ (.slice (some ⟨z5.heap.size + 1 + 1 + 1 + 1 + 1, 0, none⟩) 1 1)).setCell ⟨h3 + 1 + 1 + 1 + 1 + 1 + 1 + 1 + 1 + 1 + 1 + 1 + 1 + 1, 3, none⟩ (.int .i64 0)).setCell ⟨h4 + 1 + 1 + 1 + 1 + 1 + 1 + 1 + 1 + 1 + 1 + 1 + 1 + 1 + 1 + 1, 0, none⟩ (.int .i64 1)).setCell ⟨h4 + 1 + 1 + 1 + 1 + 1 + 1 + 1 + 1 + 1 + 1 + 1 + 1 + 1 + 1 + 1, 1, none⟩ (.int .i64 0)).setCell ⟨h5 + 1 + 1 + 1 + 1 + 1 + 1 + 1 + 1 + 1 + 1, 12, none⟩ (.int .i64 0)).alloc (.cells #[.slice (some ⟨h1 + 1 + 1 + 1 + 1 + 1 + 1 + 1 + 1 + 1 + 1, 0, none⟩) 2 2, .slice (some ⟨h1 + 1 + 1 + 1 + 1 + 1 + 1 + 1 + 1 + 1 + 1 + 1 + 1 + 1, 0, none⟩) 2 2, .slice (some ⟨h1 + 1 + 1 + 1 + 1 + 1 + 1 + 1 + 1 + 1 + 1 + 1 + 1 + 1 + 1 + 1, 0, none⟩) 1 1, .int .i64 8, .int .i64 20, .int .i64 5] 26)).alloc (.cells #[.slice (some ⟨h2 + 1 + 1 + 1 + 1 + 1 + 1 + 1 + 1 + 1 + 1, 0, none⟩) 2 2, .slice (some ⟨h2 + 1 + 1 + 1 + 1 + 1 + 1 + 1 + 1 + 1 + 1 + 1 + 1 + 1, 0, none⟩) 2 2, .slice (some ⟨h2 + 1 + 1 + 1 + 1 + 1 + 1 + 1 + 1 + 1 + 1 + 1 + 1 + 1 + 1 + 1, 0, none⟩) 1 1, .int .i64 8, .int .i64 24, .int .i64 4] 26)).alloc (.cells #[.slice (some ⟨h3 + 1 + 1 + 1 + 1 + 1 + 1 + 1 + 1 + 1 + 1, 0, none⟩) 2 2, .slice (some ⟨h3 + 1 + 1 + 1 + 1 + 1 + 1 + 1 + 1 + 1 + 1 + 1 + 1 + 1, 0, none⟩) 2 2, .slice (some ⟨h3 + 1 + 1 + 1 + 1 + 1 + 1 + 1 + 1 + 1 + 1 + 1 + 1 + 1 + 1 + 1, 0, none⟩) 1 1, .int .i64 8, .int .i64 20, .int .i64 4] 26)).alloc (.cells #[.slice (some ⟨h4 + 1 + 1 + 1 + 1 + 1 + 1 + 1 + 1 + 1 + 1, 0, none⟩) 2 2, .slice (some ⟨h4 + 1 + 1 + 1 + 1 + 1 + 1 + 1 + 1 + 1 + 1 + 1 + 1 + 1, 0, none⟩) 2 2, .slice (some ⟨h4 + 1 + 1 + 1 + 1 + 1 + 1 + 1 + 1 + 1 + 1 + 1 + 1 + 1 + 1 + 1, 0, none⟩) 1 1, .int .i64 8, .int .i64 20, .int .i64 4] 26)).alloc (.cells #[.slice (some ⟨h5 + 1 + 1 + 1 + 1 + 1 + 1 + 1 + 1 + 1 + 1, 0, none⟩) 2 2, .slice (some ⟨h5 + 1 + 1 + 1 + 1 + 1 + 1 + 1 + 1 + 1 + 1 + 1 + 1 + 1, 0, none⟩) 2 2, .slice (some ⟨h5 + 1 + 1 + 1 + 1 + 1 + 1 + 1 + 1 + 1 + 1 + 1 + 1 + 1 + 1 + 1, 0, none⟩) 1 1, .int .i64 8, .int .i64 20, .int .i64 4] 26)).alloc (.cells #[.int .i64 0] 3)).drew) none := by
  have s1 := U1.size
  have s2 := U2.size
  have s3 := U3.size
  have s4 := U4.size
  have s5 := U5.size
  have k2 := Z2.size
  have k3 := Z3.size
  have k4 := Z4.size
  have k5 := Z5.size
  have T4 := U4.kept Z5
  have T3 := U3.kept (Z4.tr Z5)
  have T2 := U2.kept (Z3.tr (Z4.tr Z5))
  have T1 := U1.kept (Z2.tr (Z3.tr (Z4.tr Z5)))
  have p4 := cell_kept0 q4 Z5
  have p2 := cell_kept0 q2 (Z3.tr (Z4.tr Z5))
  have p1 := cell_kept0 q1 (Z2.tr (Z3.tr (Z4.tr Z5)))
  have ib : ∀ x : Int, -1000 ≤ x → x ≤ 1000 → i64B x := fun x h1 h2 => by unfold i64B; omega
  have kD : Kept w (((((z5.setCell ⟨h3 + 1 + 1 + 1 + 1 + 1 + 1 + 1 + 1 + 1 + 1 + 1 + 1 + 1, 2, none⟩ (.slice (some ⟨z5.heap.size + 1 + 1 + 1 + 1 + 1, 0, none⟩) 1 1)).setCell ⟨h3 + 1 + 1 + 1 + 1 + 1 + 1 + 1 + 1 + 1 + 1 + 1 + 1 + 1, 3, none⟩ (.int .i64 0)).setCell ⟨h4 + 1 + 1 + 1 + 1 + 1 + 1 + 1 + 1 + 1 + 1 + 1 + 1 + 1 + 1 + 1, 0, none⟩ (.int .i64 1)).setCell ⟨h4 + 1 + 1 + 1 + 1 + 1 + 1 + 1 + 1 + 1 + 1 + 1 + 1 + 1 + 1 + 1, 1, none⟩ (.int .i64 0)).setCell ⟨h5 + 1 + 1 + 1 + 1 + 1 + 1 + 1 + 1 + 1 + 1, 12, none⟩ (.int .i64 0)) none := kept_newZ (kept_newZ (kept_newZ (kept_newZ (kept_newZ hw (by omega) _ _) (by omega) _ _) (by omega) _ _) (by omega) _ _) (by omega) _ _
  have zD : (((((z5.setCell ⟨h3 + 1 + 1 + 1 + 1 + 1 + 1 + 1 + 1 + 1 + 1 + 1 + 1 + 1, 2, none⟩ (.slice (some ⟨z5.heap.size + 1 + 1 + 1 + 1 + 1, 0, none⟩) 1 1)).setCell ⟨h3 + 1 + 1 + 1 + 1 + 1 + 1 + 1 + 1 + 1 + 1 + 1 + 1 + 1, 3, none⟩ (.int .i64 0)).setCell ⟨h4 + 1 + 1 + 1 + 1 + 1 + 1 + 1 + 1 + 1 + 1 + 1 + 1 + 1 + 1 + 1, 0, none⟩ (.int .i64 1)).setCell ⟨h4 + 1 + 1 + 1 + 1 + 1 + 1 + 1 + 1 + 1 + 1 + 1 + 1 + 1 + 1 + 1, 1, none⟩ (.int .i64 0)).setCell ⟨h5 + 1 + 1 + 1 + 1 + 1 + 1 + 1 + 1 + 1 + 1, 12, none⟩ (.int .i64 0)).heap.size = z5.heap.size := by simp [World.setCell]
  have cO : ∀ k j u, ¬ (k = h3 + 1 + 1 + 1 + 1 + 1 + 1 + 1 + 1 + 1 + 1 + 1 + 1 + 1 ∧ (j = 2 ∨ j = 3)) → ¬ (k = h4 + 1 + 1 + 1 + 1 + 1 + 1 + 1 + 1 + 1 + 1 + 1 + 1 + 1 + 1 + 1 ∧ (j = 0 ∨ j = 1)) → ¬ (k = h5 + 1 + 1 + 1 + 1 + 1 + 1 + 1 + 1 + 1 + 1 ∧ j = 12) → z5.cell? ⟨k, j, none⟩ = some u → (((((z5.setCell ⟨h3 + 1 + 1 + 1 + 1 + 1 + 1 + 1 + 1 + 1 + 1 + 1 + 1 + 1, 2, none⟩ (.slice (some ⟨z5.heap.size + 1 + 1 + 1 + 1 + 1, 0, none⟩) 1 1)).setCell ⟨h3 + 1 + 1 + 1 + 1 + 1 + 1 + 1 + 1 + 1 + 1 + 1 + 1 + 1, 3, none⟩ (.int .i64 0)).setCell ⟨h4 + 1 + 1 + 1 + 1 + 1 + 1 + 1 + 1 + 1 + 1 + 1 + 1 + 1 + 1 + 1, 0, none⟩ (.int .i64 1)).setCell ⟨h4 + 1 + 1 + 1 + 1 + 1 + 1 + 1 + 1 + 1 + 1 + 1 + 1 + 1 + 1 + 1, 1, none⟩ (.int .i64 0)).setCell ⟨h5 + 1 + 1 + 1 + 1 + 1 + 1 + 1 + 1 + 1 + 1, 12, none⟩ (.int .i64 0)).cell? ⟨k, j, none⟩ = some u := fun k j u n1 n2 n3 e => by
    rw [World.cell?_setCell_other _ _ _ _ (by intro q; injection q with q1 q2; omega), World.cell?_setCell_other _ _ _ _ (by intro q; injection q with q1 q2; omega), World.cell?_setCell_other _ _ _ _ (by intro q; injection q with q1 q2; omega), World.cell?_setCell_other _ _ _ _ (by intro q; injection q with q1 q2; omega), World.cell?_setCell_other _ _ _ _ (by intro q; injection q with q1 q2; omega)]
    exact e
  have bO : ∀ k, k < z5.heap.size → k ≠ h3 + 1 + 1 + 1 + 1 + 1 + 1 + 1 + 1 + 1 + 1 + 1 + 1 + 1 → k ≠ h4 + 1 + 1 + 1 + 1 + 1 + 1 + 1 + 1 + 1 + 1 + 1 + 1 + 1 + 1 + 1 → k ≠ h5 + 1 + 1 + 1 + 1 + 1 + 1 + 1 + 1 + 1 + 1 → (((((z5.setCell ⟨h3 + 1 + 1 + 1 + 1 + 1 + 1 + 1 + 1 + 1 + 1 + 1 + 1 + 1, 2, none⟩ (.slice (some ⟨z5.heap.size + 1 + 1 + 1 + 1 + 1, 0, none⟩) 1 1)).setCell ⟨h3 + 1 + 1 + 1 + 1 + 1 + 1 + 1 + 1 + 1 + 1 + 1 + 1 + 1, 3, none⟩ (.int .i64 0)).setCell ⟨h4 + 1 + 1 + 1 + 1 + 1 + 1 + 1 + 1 + 1 + 1 + 1 + 1 + 1 + 1 + 1, 0, none⟩ (.int .i64 1)).setCell ⟨h4 + 1 + 1 + 1 + 1 + 1 + 1 + 1 + 1 + 1 + 1 + 1 + 1 + 1 + 1 + 1, 1, none⟩ (.int .i64 0)).setCell ⟨h5 + 1 + 1 + 1 + 1 + 1 + 1 + 1 + 1 + 1 + 1, 12, none⟩ (.int .i64 0)).heap[k]? = z5.heap[k]? := fun k hk n1 n2 n3 => by
    rw [(kept_setZ _ _ _ _).block k (by simp [World.setCell]; omega) (fun q => n3 (Option.some.inj q)), (kept_setZ _ _ _ _).block k (by simp [World.setCell]; omega) (fun q => n2 (Option.some.inj q)), (kept_setZ _ _ _ _).block k (by simp [World.setCell]; omega) (fun q => n2 (Option.some.inj q)), (kept_setZ _ _ _ _).block k (by simp [World.setCell]; omega) (fun q => n1 (Option.some.inj q)), (kept_setZ _ _ _ _).block k hk (fun q => n1 (Option.some.inj q))]
  have x1 : (((((z5.setCell ⟨h3 + 1 + 1 + 1 + 1 + 1 + 1 + 1 + 1 + 1 + 1 + 1 + 1 + 1, 2, none⟩ (.slice (some ⟨z5.heap.size + 1 + 1 + 1 + 1 + 1, 0, none⟩) 1 1)).setCell ⟨h3 + 1 + 1 + 1 + 1 + 1 + 1 + 1 + 1 + 1 + 1 + 1 + 1 + 1, 3, none⟩ (.int .i64 0)).setCell ⟨h4 + 1 + 1 + 1 + 1 + 1 + 1 + 1 + 1 + 1 + 1 + 1 + 1 + 1 + 1 + 1, 0, none⟩ (.int .i64 1)).setCell ⟨h4 + 1 + 1 + 1 + 1 + 1 + 1 + 1 + 1 + 1 + 1 + 1 + 1 + 1 + 1 + 1, 1, none⟩ (.int .i64 0)).setCell ⟨h5 + 1 + 1 + 1 + 1 + 1 + 1 + 1 + 1 + 1 + 1, 12, none⟩ (.int .i64 0)).cell? ⟨h3 + 1 + 1 + 1 + 1 + 1 + 1 + 1 + 1 + 1 + 1 + 1 + 1 + 1, 2, none⟩ = some (.slice (some ⟨z5.heap.size + 1 + 1 + 1 + 1 + 1, 0, none⟩) 1 1) := by
    rw [World.cell?_setCell_other _ _ _ _ (by intro q; injection q with q1 q2; omega), World.cell?_setCell_other _ _ _ _ (by intro q; injection q with q1 q2; omega), World.cell?_setCell_other _ _ _ _ (by intro q; injection q with q1 q2; omega), World.cell?_setCell_other _ _ _ _ (by intro q; injection q with q1 q2; omega)]
    exact World.cell?_setCell_same' _ _ _ (by rw [T3.c13x2]; rfl)
  have x2 : (((((z5.setCell ⟨h3 + 1 + 1 + 1 + 1 + 1 + 1 + 1 + 1 + 1 + 1 + 1 + 1 + 1, 2, none⟩ (.slice (some ⟨z5.heap.size + 1 + 1 + 1 + 1 + 1, 0, none⟩) 1 1)).setCell ⟨h3 + 1 + 1 + 1 + 1 + 1 + 1 + 1 + 1 + 1 + 1 + 1 + 1 + 1, 3, none⟩ (.int .i64 0)).setCell ⟨h4 + 1 + 1 + 1 + 1 + 1 + 1 + 1 + 1 + 1 + 1 + 1 + 1 + 1 + 1 + 1, 0, none⟩ (.int .i64 1)).setCell ⟨h4 + 1 + 1 + 1 + 1 + 1 + 1 + 1 + 1 + 1 + 1 + 1 + 1 + 1 + 1 + 1, 1, none⟩ (.int .i64 0)).setCell ⟨h5 + 1 + 1 + 1 + 1 + 1 + 1 + 1 + 1 + 1 + 1, 12, none⟩ (.int .i64 0)).cell? ⟨h3 + 1 + 1 + 1 + 1 + 1 + 1 + 1 + 1 + 1 + 1 + 1 + 1 + 1, 3, none⟩ = some (.int .i64 0) := by
    rw [World.cell?_setCell_other _ _ _ _ (by intro q; injection q with q1 q2; omega), World.cell?_setCell_other _ _ _ _ (by intro q; injection q with q1 q2; omega), World.cell?_setCell_other _ _ _ _ (by intro q; injection q with q1 q2; omega)]
    exact World.cell?_setCell_same' _ _ _ (by rw [World.cell?_setCell_other _ _ _ _ (by intro q; injection q with q1 q2; omega), T3.c13x3]; rfl)
  have x3 : (((((z5.setCell ⟨h3 + 1 + 1 + 1 + 1 + 1 + 1 + 1 + 1 + 1 + 1 + 1 + 1 + 1, 2, none⟩ (.slice (some ⟨z5.heap.size + 1 + 1 + 1 + 1 + 1, 0, none⟩) 1 1)).setCell ⟨h3 + 1 + 1 + 1 + 1 + 1 + 1 + 1 + 1 + 1 + 1 + 1 + 1 + 1, 3, none⟩ (.int .i64 0)).setCell ⟨h4 + 1 + 1 + 1 + 1 + 1 + 1 + 1 + 1 + 1 + 1 + 1 + 1 + 1 + 1 + 1, 0, none⟩ (.int .i64 1)).setCell ⟨h4 + 1 + 1 + 1 + 1 + 1 + 1 + 1 + 1 + 1 + 1 + 1 + 1 + 1 + 1 + 1, 1, none⟩ (.int .i64 0)).setCell ⟨h5 + 1 + 1 + 1 + 1 + 1 + 1 + 1 + 1 + 1 + 1, 12, none⟩ (.int .i64 0)).cell? ⟨h4 + 1 + 1 + 1 + 1 + 1 + 1 + 1 + 1 + 1 + 1 + 1 + 1 + 1 + 1 + 1, 0, none⟩ = some (.int .i64 1) := by
    rw [World.cell?_setCell_other _ _ _ _ (by intro q; injection q with q1 q2; omega), World.cell?_setCell_other _ _ _ _ (by intro q; injection q with q1 q2; omega)]
    exact World.cell?_setCell_same' _ _ _ (by rw [World.cell?_setCell_other _ _ _ _ (by intro q; injection q with q1 q2; omega), World.cell?_setCell_other _ _ _ _ (by intro q; injection q with q1 q2; omega), T4.c15x0]; rfl)
  have x4 : (((((z5.setCell ⟨h3 + 1 + 1 + 1 + 1 + 1 + 1 + 1 + 1 + 1 + 1 + 1 + 1 + 1, 2, none⟩ (.slice (some ⟨z5.heap.size + 1 + 1 + 1 + 1 + 1, 0, none⟩) 1 1)).setCell ⟨h3 + 1 + 1 + 1 + 1 + 1 + 1 + 1 + 1 + 1 + 1 + 1 + 1 + 1, 3, none⟩ (.int .i64 0)).setCell ⟨h4 + 1 + 1 + 1 + 1 + 1 + 1 + 1 + 1 + 1 + 1 + 1 + 1 + 1 + 1 + 1, 0, none⟩ (.int .i64 1)).setCell ⟨h4 + 1 + 1 + 1 + 1 + 1 + 1 + 1 + 1 + 1 + 1 + 1 + 1 + 1 + 1 + 1, 1, none⟩ (.int .i64 0)).setCell ⟨h5 + 1 + 1 + 1 + 1 + 1 + 1 + 1 + 1 + 1 + 1, 12, none⟩ (.int .i64 0)).cell? ⟨h4 + 1 + 1 + 1 + 1 + 1 + 1 + 1 + 1 + 1 + 1 + 1 + 1 + 1 + 1 + 1, 1, none⟩ = some (.int .i64 0) := by
    rw [World.cell?_setCell_other _ _ _ _ (by intro q; injection q with q1 q2; omega)]
    exact World.cell?_setCell_same' _ _ _ (by rw [World.cell?_setCell_other _ _ _ _ (by intro q; injection q with q1 q2; omega), World.cell?_setCell_other _ _ _ _ (by intro q; injection q with q1 q2; omega), World.cell?_setCell_other _ _ _ _ (by intro q; injection q with q1 q2; omega), T4.c15x1]; rfl)
  have x5 : (((((z5.setCell ⟨h3 + 1 + 1 + 1 + 1 + 1 + 1 + 1 + 1 + 1 + 1 + 1 + 1 + 1, 2, none⟩ (.slice (some ⟨z5.heap.size + 1 + 1 + 1 + 1 + 1, 0, none⟩) 1 1)).setCell ⟨h3 + 1 + 1 + 1 + 1 + 1 + 1 + 1 + 1 + 1 + 1 + 1 + 1 + 1, 3, none⟩ (.int .i64 0)).setCell ⟨h4 + 1 + 1 + 1 + 1 + 1 + 1 + 1 + 1 + 1 + 1 + 1 + 1 + 1 + 1 + 1, 0, none⟩ (.int .i64 1)).setCell ⟨h4 + 1 + 1 + 1 + 1 + 1 + 1 + 1 + 1 + 1 + 1 + 1 + 1 + 1 + 1 + 1, 1, none⟩ (.int .i64 0)).setCell ⟨h5 + 1 + 1 + 1 + 1 + 1 + 1 + 1 + 1 + 1 + 1, 12, none⟩ (.int .i64 0)).cell? ⟨h5 + 1 + 1 + 1 + 1 + 1 + 1 + 1 + 1 + 1 + 1, 12, none⟩ = some (.int .i64 0) := by
    exact World.cell?_setCell_same' _ _ _ (by rw [World.cell?_setCell_other _ _ _ _ (by intro q; injection q with q1 q2; omega), World.cell?_setCell_other _ _ _ _ (by intro q; injection q with q1 q2; omega), World.cell?_setCell_other _ _ _ _ (by intro q; injection q with q1 q2; omega), World.cell?_setCell_other _ _ _ _ (by intro q; injection q with q1 q2; omega), U5.c10x12]; rfl)
  generalize (((((z5.setCell ⟨h3 + 1 + 1 + 1 + 1 + 1 + 1 + 1 + 1 + 1 + 1 + 1 + 1 + 1, 2, none⟩ (.slice (some ⟨z5.heap.size + 1 + 1 + 1 + 1 + 1, 0, none⟩) 1 1)).setCell ⟨h3 + 1 + 1 + 1 + 1 + 1 + 1 + 1 + 1 + 1 + 1 + 1 + 1 + 1, 3, none⟩ (.int .i64 0)).setCell ⟨h4 + 1 + 1 + 1 + 1 + 1 + 1 + 1 + 1 + 1 + 1 + 1 + 1 + 1 + 1 + 1, 0, none⟩ (.int .i64 1)).setCell ⟨h4 + 1 + 1 + 1 + 1 + 1 + 1 + 1 + 1 + 1 + 1 + 1 + 1 + 1 + 1 + 1, 1, none⟩ (.int .i64 0)).setCell ⟨h5 + 1 + 1 + 1 + 1 + 1 + 1 + 1 + 1 + 1 + 1, 12, none⟩ (.int .i64 0)) = D at *
  have R1 : TwN D h1 ⟨h1 + 1 + 1 + 1 + 1 + 1 + 1 + 1 + 1 + 1 + 1 + 1 + 1, 0, none⟩ 1 1 0 1 := T1.move (fun k a b => bO k (by omega) (by omega) (by omega) (by omega)) (by omega) (fun k j u n1 n2 n3 a b e => cO k j u (by omega) (by omega) (by omega) e) (cO _ _ _ (by omega) (by omega) (by omega) T1.c10x12) (cO _ _ _ (by omega) (by omega) (by omega) T1.c13x2) (cO _ _ _ (by omega) (by omega) (by omega) T1.c13x3) (cO _ _ _ (by omega) (by omega) (by omega) T1.c15x0) (cO _ _ _ (by omega) (by omega) (by omega) T1.c15x1)
  have R2 : TwN D h2 ⟨h2 + 1 + 1 + 1 + 1 + 1 + 1 + 1 + 1 + 1 + 1 + 1 + 1, 0, none⟩ 1 1 0 1 := T2.move (fun k a b => bO k (by omega) (by omega) (by omega) (by omega)) (by omega) (fun k j u n1 n2 n3 a b e => cO k j u (by omega) (by omega) (by omega) e) (cO _ _ _ (by omega) (by omega) (by omega) T2.c10x12) (cO _ _ _ (by omega) (by omega) (by omega) T2.c13x2) (cO _ _ _ (by omega) (by omega) (by omega) T2.c13x3) (cO _ _ _ (by omega) (by omega) (by omega) T2.c15x0) (cO _ _ _ (by omega) (by omega) (by omega) T2.c15x1)
  have R3 : TwN D h3 ⟨z5.heap.size + 1 + 1 + 1 + 1 + 1, 0, none⟩ 1 0 0 1 := T3.move (fun k a b => bO k (by omega) (by omega) (by omega) (by omega)) (by omega) (fun k j u n1 n2 n3 a b e => cO k j u (by omega) (by omega) (by omega) e) (cO _ _ _ (by omega) (by omega) (by omega) T3.c10x12) x1 x2 (cO _ _ _ (by omega) (by omega) (by omega) T3.c15x0) (cO _ _ _ (by omega) (by omega) (by omega) T3.c15x1)
  have R4 : TwN D h4 ⟨h4 + 1 + 1 + 1 + 1 + 1 + 1 + 1 + 1 + 1 + 1 + 1 + 1, 0, none⟩ 1 1 1 0 := T4.move (fun k a b => bO k (by omega) (by omega) (by omega) (by omega)) (by omega) (fun k j u n1 n2 n3 a b e => cO k j u (by omega) (by omega) (by omega) e) (cO _ _ _ (by omega) (by omega) (by omega) T4.c10x12) (cO _ _ _ (by omega) (by omega) (by omega) T4.c13x2) (cO _ _ _ (by omega) (by omega) (by omega) T4.c13x3) x3 x4
  have R5 : TwN D h5 ⟨h5 + 1 + 1 + 1 + 1 + 1 + 1 + 1 + 1 + 1 + 1 + 1 + 1, 0, none⟩ 0 1 0 1 := U5.move (fun k a b => bO k (by omega) (by omega) (by omega) (by omega)) (by omega) (fun k j u n1 n2 n3 a b e => cO k j u (by omega) (by omega) (by omega) e) x5 (cO _ _ _ (by omega) (by omega) (by omega) U5.c13x2) (cO _ _ _ (by omega) (by omega) (by omega) U5.c13x3) (cO _ _ _ (by omega) (by omega) (by omega) U5.c15x0) (cO _ _ _ (by omega) (by omega) (by omega) U5.c15x1)
  have y1 := cO _ _ _ (by omega) (by omega) (by omega) p1
  have y2 := cO _ _ _ (by omega) (by omega) (by omega) p2
  have y4 := cO _ _ _ (by omega) (by omega) (by omega) p4
  have y5 := cO _ _ _ (by omega) (by omega) (by omega) q5
  clear cO bO x1 x2 x3 x4 x5
  obtain ⟨E1, eE1⟩ : ∃ X, X = D.alloc (.cells #[.slice (some ⟨h1 + 1 + 1 + 1 + 1 + 1 + 1 + 1 + 1 + 1 + 1, 0, none⟩) 2 2, .slice (some ⟨h1 + 1 + 1 + 1 + 1 + 1 + 1 + 1 + 1 + 1 + 1 + 1 + 1 + 1, 0, none⟩) 2 2, .slice (some ⟨h1 + 1 + 1 + 1 + 1 + 1 + 1 + 1 + 1 + 1 + 1 + 1 + 1 + 1 + 1 + 1, 0, none⟩) 1 1, .int .i64 8, .int .i64 20, .int .i64 5] 26) := ⟨_, rfl⟩
  have kE1 : Kept D E1 none := by rw [eE1]; exact Kept.alloc _ _ _ (0, 0) _
  have zE1 : E1.heap.size = z5.heap.size + 1 := by rw [eE1, World.size_alloc, zD]
  have cE1 : ∀ j v, #[.slice (some ⟨h1 + 1 + 1 + 1 + 1 + 1 + 1 + 1 + 1 + 1 + 1, 0, none⟩) 2 2, .slice (some ⟨h1 + 1 + 1 + 1 + 1 + 1 + 1 + 1 + 1 + 1 + 1 + 1 + 1 + 1, 0, none⟩) 2 2, .slice (some ⟨h1 + 1 + 1 + 1 + 1 + 1 + 1 + 1 + 1 + 1 + 1 + 1 + 1 + 1 + 1 + 1, 0, none⟩) 1 1, .int .i64 8, .int .i64 20, .int .i64 5][j]? = some v → E1.cell? ⟨z5.heap.size, j, none⟩ = some v := fun j v hv => by rw [eE1]; exact alloc_cell D _ _ zD hv
  rw [← eE1]
  obtain ⟨E2, eE2⟩ : ∃ X, X = E1.alloc (.cells #[.slice (some ⟨h2 + 1 + 1 + 1 + 1 + 1 + 1 + 1 + 1 + 1 + 1, 0, none⟩) 2 2, .slice (some ⟨h2 + 1 + 1 + 1 + 1 + 1 + 1 + 1 + 1 + 1 + 1 + 1 + 1 + 1, 0, none⟩) 2 2, .slice (some ⟨h2 + 1 + 1 + 1 + 1 + 1 + 1 + 1 + 1 + 1 + 1 + 1 + 1 + 1 + 1 + 1, 0, none⟩) 1 1, .int .i64 8, .int .i64 24, .int .i64 4] 26) := ⟨_, rfl⟩
  have kE2 : Kept E1 E2 none := by rw [eE2]; exact Kept.alloc _ _ _ (0, 0) _
  have zE2 : E2.heap.size = z5.heap.size + 1 + 1 := by rw [eE2, World.size_alloc, zE1]
  have cE2 : ∀ j v, #[.slice (some ⟨h2 + 1 + 1 + 1 + 1 + 1 + 1 + 1 + 1 + 1 + 1, 0, none⟩) 2 2, .slice (some ⟨h2 + 1 + 1 + 1 + 1 + 1 + 1 + 1 + 1 + 1 + 1 + 1 + 1 + 1, 0, none⟩) 2 2, .slice (some ⟨h2 + 1 + 1 + 1 + 1 + 1 + 1 + 1 + 1 + 1 + 1 + 1 + 1 + 1 + 1 + 1, 0, none⟩) 1 1, .int .i64 8, .int .i64 24, .int .i64 4][j]? = some v → E2.cell? ⟨z5.heap.size + 1, j, none⟩ = some v := fun j v hv => by rw [eE2]; exact alloc_cell E1 _ _ zE1 hv
  rw [← eE2]
  obtain ⟨E3, eE3⟩ : ∃ X, X = E2.alloc (.cells #[.slice (some ⟨h3 + 1 + 1 + 1 + 1 + 1 + 1 + 1 + 1 + 1 + 1, 0, none⟩) 2 2, .slice (some ⟨h3 + 1 + 1 + 1 + 1 + 1 + 1 + 1 + 1 + 1 + 1 + 1 + 1 + 1, 0, none⟩) 2 2, .slice (some ⟨h3 + 1 + 1 + 1 + 1 + 1 + 1 + 1 + 1 + 1 + 1 + 1 + 1 + 1 + 1 + 1, 0, none⟩) 1 1, .int .i64 8, .int .i64 20, .int .i64 4] 26) := ⟨_, rfl⟩
  have kE3 : Kept E2 E3 none := by rw [eE3]; exact Kept.alloc _ _ _ (0, 0) _
  have zE3 : E3.heap.size = z5.heap.size + 1 + 1 + 1 := by rw [eE3, World.size_alloc, zE2]
  have cE3 : ∀ j v, #[.slice (some ⟨h3 + 1 + 1 + 1 + 1 + 1 + 1 + 1 + 1 + 1 + 1, 0, none⟩) 2 2, .slice (some ⟨h3 + 1 + 1 + 1 + 1 + 1 + 1 + 1 + 1 + 1 + 1 + 1 + 1 + 1, 0, none⟩) 2 2, .slice (some ⟨h3 + 1 + 1 + 1 + 1 + 1 + 1 + 1 + 1 + 1 + 1 + 1 + 1 + 1 + 1 + 1, 0, none⟩) 1 1, .int .i64 8, .int .i64 20, .int .i64 4][j]? = some v → E3.cell? ⟨z5.heap.size + 1 + 1, j, none⟩ = some v := fun j v hv => by rw [eE3]; exact alloc_cell E2 _ _ zE2 hv
  rw [← eE3]
  obtain ⟨E4, eE4⟩ : ∃ X, X = E3.alloc (.cells #[.slice (some ⟨h4 + 1 + 1 + 1 + 1 + 1 + 1 + 1 + 1 + 1 + 1, 0, none⟩) 2 2, .slice (some ⟨h4 + 1 + 1 + 1 + 1 + 1 + 1 + 1 + 1 + 1 + 1 + 1 + 1 + 1, 0, none⟩) 2 2, .slice (some ⟨h4 + 1 + 1 + 1 + 1 + 1 + 1 + 1 + 1 + 1 + 1 + 1 + 1 + 1 + 1 + 1, 0, none⟩) 1 1, .int .i64 8, .int .i64 20, .int .i64 4] 26) := ⟨_, rfl⟩
  have kE4 : Kept E3 E4 none := by rw [eE4]; exact Kept.alloc _ _ _ (0, 0) _
  have zE4 : E4.heap.size = z5.heap.size + 1 + 1 + 1 + 1 := by rw [eE4, World.size_alloc, zE3]
  have cE4 : ∀ j v, #[.slice (some ⟨h4 + 1 + 1 + 1 + 1 + 1 + 1 + 1 + 1 + 1 + 1, 0, none⟩) 2 2, .slice (some ⟨h4 + 1 + 1 + 1 + 1 + 1 + 1 + 1 + 1 + 1 + 1 + 1 + 1 + 1, 0, none⟩) 2 2, .slice (some ⟨h4 + 1 + 1 + 1 + 1 + 1 + 1 + 1 + 1 + 1 + 1 + 1 + 1 + 1 + 1 + 1, 0, none⟩) 1 1, .int .i64 8, .int .i64 20, .int .i64 4][j]? = some v → E4.cell? ⟨z5.heap.size + 1 + 1 + 1, j, none⟩ = some v := fun j v hv => by rw [eE4]; exact alloc_cell E3 _ _ zE3 hv
  rw [← eE4]
  obtain ⟨E5, eE5⟩ : ∃ X, X = E4.alloc (.cells #[.slice (some ⟨h5 + 1 + 1 + 1 + 1 + 1 + 1 + 1 + 1 + 1 + 1, 0, none⟩) 2 2, .slice (some ⟨h5 + 1 + 1 + 1 + 1 + 1 + 1 + 1 + 1 + 1 + 1 + 1 + 1 + 1, 0, none⟩) 2 2, .slice (some ⟨h5 + 1 + 1 + 1 + 1 + 1 + 1 + 1 + 1 + 1 + 1 + 1 + 1 + 1 + 1 + 1, 0, none⟩) 1 1, .int .i64 8, .int .i64 20, .int .i64 4] 26) := ⟨_, rfl⟩
  have kE5 : Kept E4 E5 none := by rw [eE5]; exact Kept.alloc _ _ _ (0, 0) _
  have zE5 : E5.heap.size = z5.heap.size + 1 + 1 + 1 + 1 + 1 := by rw [eE5, World.size_alloc, zE4]
  have cE5 : ∀ j v, #[.slice (some ⟨h5 + 1 + 1 + 1 + 1 + 1 + 1 + 1 + 1 + 1 + 1, 0, none⟩) 2 2, .slice (some ⟨h5 + 1 + 1 + 1 + 1 + 1 + 1 + 1 + 1 + 1 + 1 + 1 + 1 + 1, 0, none⟩) 2 2, .slice (some ⟨h5 + 1 + 1 + 1 + 1 + 1 + 1 + 1 + 1 + 1 + 1 + 1 + 1 + 1 + 1 + 1, 0, none⟩) 1 1, .int .i64 8, .int .i64 20, .int .i64 4][j]? = some v → E5.cell? ⟨z5.heap.size + 1 + 1 + 1 + 1, j, none⟩ = some v := fun j v hv => by rw [eE5]; exact alloc_cell E4 _ _ zE4 hv
  rw [← eE5]
  obtain ⟨E6, eE6⟩ : ∃ X, X = E5.alloc (.cells #[.int .i64 0] 3) := ⟨_, rfl⟩
  have kE6 : Kept E5 E6 none := by rw [eE6]; exact Kept.alloc _ _ _ (0, 0) _
  have cE6 : E6.cell? ⟨z5.heap.size + 1 + 1 + 1 + 1 + 1, 0, none⟩ = some (.int .i64 0) := by rw [eE6]; exact alloc_cell E5 _ _ zE5 rfl
  rw [← eE6]
  have k6 : Kept E6 E6.drew none := drewN
  have k5' := kE6.tr k6
  have k4' := kE5.tr k5'
  have k3' := kE4.tr k4'
  have k2' := kE3.tr k3'
  have k1' := kE2.tr k2'
  have k0' := kE1.tr k1'
  refine ⟨⟨⟨cell_kept0 (cE1 0 _ rfl) k1', cell_kept0 (cE1 1 _ rfl) k1', cell_kept0 (cE1 2 _ rfl) k1', cell_kept0 (cE1 3 _ rfl) k1', cell_kept0 (cE1 4 _ rfl) k1', cell_kept0 (cE1 5 _ rfl) k1', (net_two (x := 1) (lo := 8) (hi := 20) (st := 5) (R1.kept k0') (ints_one (cell_kept0 y1 k0') (ib _ (by omega) (by omega))) (ib _ (by omega) (by omega)) (ib _ (by omega) (by omega)) ⟨(ib _ (by omega) (by omega)), (ib _ (by omega) (by omega))⟩ ⟨(ib _ (by omega) (by omega)), (ib _ (by omega) (by omega)), (ib _ (by omega) (by omega))⟩)⟩, ⟨cell_kept0 (cE2 0 _ rfl) k2', cell_kept0 (cE2 1 _ rfl) k2', cell_kept0 (cE2 2 _ rfl) k2', cell_kept0 (cE2 3 _ rfl) k2', cell_kept0 (cE2 4 _ rfl) k2', cell_kept0 (cE2 5 _ rfl) k2', (net_two (x := 1) (lo := 8) (hi := 24) (st := 4) (R2.kept k0') (ints_one (cell_kept0 y2 k0') (ib _ (by omega) (by omega))) (ib _ (by omega) (by omega)) (ib _ (by omega) (by omega)) ⟨(ib _ (by omega) (by omega)), (ib _ (by omega) (by omega))⟩ ⟨(ib _ (by omega) (by omega)), (ib _ (by omega) (by omega)), (ib _ (by omega) (by omega))⟩)⟩, ⟨cell_kept0 (cE3 0 _ rfl) k3', cell_kept0 (cE3 1 _ rfl) k3', cell_kept0 (cE3 2 _ rfl) k3', cell_kept0 (cE3 3 _ rfl) k3', cell_kept0 (cE3 4 _ rfl) k3', cell_kept0 (cE3 5 _ rfl) k3', (net_two (x := 0) (lo := 8) (hi := 20) (st := 4) (R3.kept k0') (ints_one (cell_kept0 cE6 k6) (ib _ (by omega) (by omega))) (ib _ (by omega) (by omega)) (ib _ (by omega) (by omega)) ⟨(ib _ (by omega) (by omega)), (ib _ (by omega) (by omega))⟩ ⟨(ib _ (by omega) (by omega)), (ib _ (by omega) (by omega)), (ib _ (by omega) (by omega))⟩)⟩, ⟨cell_kept0 (cE4 0 _ rfl) k4', cell_kept0 (cE4 1 _ rfl) k4', cell_kept0 (cE4 2 _ rfl) k4', cell_kept0 (cE4 3 _ rfl) k4', cell_kept0 (cE4 4 _ rfl) k4', cell_kept0 (cE4 5 _ rfl) k4', (net_two (x := 1) (lo := 8) (hi := 20) (st := 4) (R4.kept k0') (ints_one (cell_kept0 y4 k0') (ib _ (by omega) (by omega))) (ib _ (by omega) (by omega)) (ib _ (by omega) (by omega)) ⟨(ib _ (by omega) (by omega)), (ib _ (by omega) (by omega))⟩ ⟨(ib _ (by omega) (by omega)), (ib _ (by omega) (by omega)), (ib _ (by omega) (by omega))⟩)⟩, ⟨cell_kept0 (cE5 0 _ rfl) k5', cell_kept0 (cE5 1 _ rfl) k5', cell_kept0 (cE5 2 _ rfl) k5', cell_kept0 (cE5 3 _ rfl) k5', cell_kept0 (cE5 4 _ rfl) k5', cell_kept0 (cE5 5 _ rfl) k5', (net_two (x := 1) (lo := 8) (hi := 20) (st := 4) (R5.kept k0') (ints_one (cell_kept0 y5 k0') (ib _ (by omega) (by omega))) (ib _ (by omega) (by omega)) (ib _ (by omega) (by omega)) ⟨(ib _ (by omega) (by omega)), (ib _ (by omega) (by omega))⟩ ⟨(ib _ (by omega) (by omega)), (ib _ (by omega) (by omega)), (ib _ (by omega) (by omega))⟩)⟩⟩, kD.tr k0'⟩
theorem nn_sub1 : findV NN (1, 1, 0) = (1, 0) := by decide +kernel
theorem nn_site1 : findV NN (0, 1, 0) = (1, 0) := by decide +kernel
theorem nn_sub2 : findV NN (1, 2, 0) = (0, 2) := by decide +kernel
theorem nn_site9 : findV NN (0, 9, 0) = (0, 2) := by decide +kernel
theorem nn_cyc : Cyc NN 3 := ⟨by decide, by decide, by decide, by decide, by decide, by decide, fun i hi => by
  have : i = 0 ∨ i = 1 := by have : i < 2 := hi; omega
  rcases this with rfl | rfl <;> decide⟩
theorem nn_list : cycK NN 4 = [8, 12, 16, 20] := by decide
theorem nread_nil : nreadB [] = false := by decide +kernel
theorem n5 : netE (N2 1 1 1 0 1 8 20 5) = 60 := by decide +kernel
theorem n24 : netE (N2 1 1 1 0 1 8 24 4) = 60 := by decide +kernel
theorem nsub : netE (N2 1 0 0 0 1 8 20 4) = 60 := by decide +kernel
theorem nwed : netE (N2 1 1 1 1 0 8 20 4) = 60 := by decide +kernel
theorem nid : netE (N2 0 1 1 0 1 8 20 4) = 60 := by decide +kernel
set_option maxRecDepth 100000 in
set_option maxHeartbeats 8000000 in
theorem nnames_any {w : World} (hT : Tabb w ∧ Table w) : Calls Tryd.prog 3 #[] w fun e w' => e = .returned (.bool true) ∧ Below w.heap.size w w' := by
  have HT := Hid.mk' hT.1
  have HTb := Hid.mk' hT.2
  have hi : ∀ x : Int, -1000 ≤ x → x ≤ 1000 → i64B x := fun x h1 h2 => by unfold i64B; omega
  have HI := Hid.mk' hi
  clear hT hi
  go_enter Tryd.func3, Tryd.ntmps3
  go_wp2_with (first
    | (have hgo := Z4; clear hgo; go_at_call 8; refine ntwo_ex.mono ?_; rintro e z5 ⟨h5, l5, rfl, T5, q5, f5, j5⟩; have Z5 := Hid.mk' j5; have HU5 := Hid.mk' T5; have HQ5 := Hid.mk' q5; have HF5 := Hid.mk' f5; clear j5 T5 q5 f5; obtain ⟨m2, m3, mf2, mf3, o0, o1, of0, of1, r12, rf, b3, b4, b5, d34, d43, d35, d45⟩ := facts5 HU3.out HU4.out HU5.out HF3.out HF4.out HF5.out Z4.out Z5.out l4 l5; have b3x1 : h3 + 1 + 1 + 1 + 1 + 1 + 1 + 1 + 1 + 1 + 1 + 1 + 1 + 1 < z5.heap.size + 1 := (by omega); have b3x2 : h3 + 1 + 1 + 1 + 1 + 1 + 1 + 1 + 1 + 1 + 1 + 1 + 1 + 1 < z5.heap.size + 1 + 1 := (by omega); have b3x3 : h3 + 1 + 1 + 1 + 1 + 1 + 1 + 1 + 1 + 1 + 1 + 1 + 1 + 1 < z5.heap.size + 1 + 1 + 1 := (by omega); have b3x4 : h3 + 1 + 1 + 1 + 1 + 1 + 1 + 1 + 1 + 1 + 1 + 1 + 1 + 1 < z5.heap.size + 1 + 1 + 1 + 1 := (by omega); have b3x5 : h3 + 1 + 1 + 1 + 1 + 1 + 1 + 1 + 1 + 1 + 1 + 1 + 1 + 1 < z5.heap.size + 1 + 1 + 1 + 1 + 1 := (by omega); have b3x6 : h3 + 1 + 1 + 1 + 1 + 1 + 1 + 1 + 1 + 1 + 1 + 1 + 1 + 1 < z5.heap.size + 1 + 1 + 1 + 1 + 1 + 1 := (by omega); have b4x1 : h4 + 1 + 1 + 1 + 1 + 1 + 1 + 1 + 1 + 1 + 1 + 1 + 1 + 1 + 1 + 1 < z5.heap.size + 1 := (by omega); have b4x2 : h4 + 1 + 1 + 1 + 1 + 1 + 1 + 1 + 1 + 1 + 1 + 1 + 1 + 1 + 1 + 1 < z5.heap.size + 1 + 1 := (by omega); have b4x3 : h4 + 1 + 1 + 1 + 1 + 1 + 1 + 1 + 1 + 1 + 1 + 1 + 1 + 1 + 1 + 1 < z5.heap.size + 1 + 1 + 1 := (by omega); have b4x4 : h4 + 1 + 1 + 1 + 1 + 1 + 1 + 1 + 1 + 1 + 1 + 1 + 1 + 1 + 1 + 1 < z5.heap.size + 1 + 1 + 1 + 1 := (by omega); have b4x5 : h4 + 1 + 1 + 1 + 1 + 1 + 1 + 1 + 1 + 1 + 1 + 1 + 1 + 1 + 1 + 1 < z5.heap.size + 1 + 1 + 1 + 1 + 1 := (by omega); have b4x6 : h4 + 1 + 1 + 1 + 1 + 1 + 1 + 1 + 1 + 1 + 1 + 1 + 1 + 1 + 1 + 1 < z5.heap.size + 1 + 1 + 1 + 1 + 1 + 1 := (by omega); have b5x1 : h5 + 1 + 1 + 1 + 1 + 1 + 1 + 1 + 1 + 1 + 1 < z5.heap.size + 1 := (by omega); have b5x2 : h5 + 1 + 1 + 1 + 1 + 1 + 1 + 1 + 1 + 1 + 1 < z5.heap.size + 1 + 1 := (by omega); have b5x3 : h5 + 1 + 1 + 1 + 1 + 1 + 1 + 1 + 1 + 1 + 1 < z5.heap.size + 1 + 1 + 1 := (by omega); have b5x4 : h5 + 1 + 1 + 1 + 1 + 1 + 1 + 1 + 1 + 1 + 1 < z5.heap.size + 1 + 1 + 1 + 1 := (by omega); have b5x5 : h5 + 1 + 1 + 1 + 1 + 1 + 1 + 1 + 1 + 1 + 1 < z5.heap.size + 1 + 1 + 1 + 1 + 1 := (by omega); have b5x6 : h5 + 1 + 1 + 1 + 1 + 1 + 1 + 1 + 1 + 1 + 1 < z5.heap.size + 1 + 1 + 1 + 1 + 1 + 1 := (by omega))
    | (have hgo := Z3; clear hgo; go_at_call 8; refine ntwo_ex.mono ?_; rintro e z4 ⟨h4, l4, rfl, T4, q4, f4, j4⟩; have Z4 := Hid.mk' j4; have HU4 := Hid.mk' T4; have HQ4 := Hid.mk' q4; have HF4 := Hid.mk' f4; clear j4 T4 q4 f4)
    | (have hgo := Z2; clear hgo; go_at_call 8; refine ntwo_ex.mono ?_; rintro e z3 ⟨h3, l3, rfl, T3, q3, f3, j3⟩; have Z3 := Hid.mk' j3; have HU3 := Hid.mk' T3; have HQ3 := Hid.mk' q3; have HF3 := Hid.mk' f3; clear j3 T3 q3 f3)
    | (have hgo := Z1; clear hgo; go_at_call 8; refine ntwo_ex.mono ?_; rintro e z2 ⟨h2, l2, rfl, T2, q2, f2, j2⟩; have Z2 := Hid.mk' j2; have HU2 := Hid.mk' T2; have HQ2 := Hid.mk' q2; have HF2 := Hid.mk' f2; clear j2 T2 q2 f2)
    | (have hgo := K7; clear hgo; go_at_call 8; refine ntwo_ex.mono ?_; rintro e z1 ⟨h1, l1, rfl, T1, q1, f1, j1⟩; have Z1 := Hid.mk' j1; have HU1 := Hid.mk' T1; have HQ1 := Hid.mk' q1; have HF1 := Hid.mk' f1; clear j1 T1 q1 f1; clear c0 c1 c2 c3 c4 c5 v0 v3)
    | (have hgo := K6; clear hgo; go_at_call 13; have hn := ncheck_any (HNB.out.net.kept K6.out) (HT1.out.kept K6.out); rw [netE_yes nn_may] at hn; refine hn.mono ?_; rintro e y7 ⟨rfl, hk7⟩; have K7 := Hid.mk' (K6.out.tr hk7); have v0 := cell_kept0 u0 (k45.out.tr hk7); have v3 := cell_kept0 u3 (k45.out.tr hk7); clear hk7; clear c0 c1 c2 c3 c4 c5; obtain ⟨c0, c1, c2, c3, c4, c5, _⟩ := HNB.out.kept K7.out; dsimp only [N2] at c0 c1 c2 c3 c4 c5)
    | (have hgo := K5; clear hgo; go_at_call 12; have hn := nread_any (w := y5) (come_nil y5) (HT1.out.kept K5.out) (HTb1.out.kept K5.out); refine hn.mono ?_; rintro e y6 hc; obtain ⟨hk6, rfl⟩ := nreadP_no hc nread_nil; have k45 := Hid.mk' ((k35.out.tr hk6).tr (Kept.alloc y6 #[.slice none 0 0, .slice none 0 0, .slice none 0 0, .int .i64 0, .int .i64 0, .int .i64 0] 26 (0, 0) none)); have K6 := Hid.mk' ((K5.out.tr hk6).tr (Kept.alloc y6 #[.slice none 0 0, .slice none 0 0, .slice none 0 0, .int .i64 0, .int .i64 0, .int .i64 0] 26 (0, 0) none)); have K6' := Hid.mk' (K5.out.tr hk6); have u0' := cell_kept0 u0 (k35.out.tr hk6); have u3' := cell_kept0 u3 (k35.out.tr hk6); clear hc hk6; clear c0 c1 c2 c3 c4 c5; obtain ⟨c0, c1, c2, c3, c4, c5, _⟩ := HNB.out.kept K6'.out; dsimp only [N2] at c0 c1 c2 c3 c4 c5; have hl6 : y0.heap.size < y6.heap.size := block_lt c0)
    | (have hgo := K4; clear hgo; go_at_call 10; have hn := site_net (HNB.out.net.kept K4.out) (HT1.out.kept K4.out) (x := 9) (HI.out _ (by omega) (by omega)); rw [nn_site9] at hn; refine hn.mono ?_; rintro e y5 ⟨rfl, hk5⟩; have K5 := Hid.mk' (K4.out.tr hk5); have k35 := Hid.mk' (k34.out.tr hk5); clear hk5; clear c0 c1 c2 c3 c4 c5; obtain ⟨c0, c1, c2, c3, c4, c5, _⟩ := HNB.out.kept K5.out; dsimp only [N2] at c0 c1 c2 c3 c4 c5)
    | (have hgo := K3; clear hgo; go_at_call 9; have hn := sub_net (HNB.out.net.kept K3.out) (HT1.out.kept K3.out) (x := 2) (HI.out _ (by omega) (by omega)); rw [nn_sub2] at hn; refine hn.mono ?_; rintro e y4 ⟨rfl, hk4⟩; have K4 := Hid.mk' (K3.out.tr hk4); have k34 := Hid.mk' hk4; clear hk4; clear c0 c1 c2 c3 c4 c5; obtain ⟨c0, c1, c2, c3, c4, c5, _⟩ := HNB.out.kept K4.out; dsimp only [N2] at c0 c1 c2 c3 c4 c5)
    | (have hgo := K2; clear hgo; go_at_call 11; refine (ncycles_yes (HNB.out.net.kept K2.out) (HT1.out.kept K2.out) nn_may nn_cyc).mono ?_; rintro e y3 ⟨la, lc, rfl, hI3, _, hk3⟩; have K3 := Hid.mk' (K2.out.tr hk3); obtain ⟨lb, lo, el, _, hlc⟩ := hI3.at_ (by omega); subst el; have u0 : y3.cell? ⟨lb, lo, none⟩ = some (.int .i64 8) := (by have := hlc 0 (by omega); rw [nn_list] at this; simpa using this); have u3 : y3.cell? ⟨lb, lo + 3, none⟩ = some (.int .i64 20) := (by have := hlc 3 (by omega); rw [nn_list] at this; simpa using this); clear hk3 hI3 hlc; clear c0 c1 c2 c3 c4 c5; obtain ⟨c0, c1, c2, c3, c4, c5, _⟩ := HNB.out.kept K3.out; dsimp only [N2] at c0 c1 c2 c3 c4 c5)
    | (have hgo := K1; clear hgo; go_at_call 10; have hn := site_net (HNB.out.net.kept K1.out) (HT1.out.kept K1.out) (x := 1) (HI.out _ (by omega) (by omega)); rw [nn_site1] at hn; refine hn.mono ?_; rintro e y2 ⟨rfl, hk2⟩; have K2 := Hid.mk' (K1.out.tr hk2); clear hk2; clear c0 c1 c2 c3 c4 c5; obtain ⟨c0, c1, c2, c3, c4, c5, _⟩ := HNB.out.kept K2.out; dsimp only [N2] at c0 c1 c2 c3 c4 c5)
    | (have hgo := HNB; clear hgo; go_at_call 9; have hn := sub_net HNB.out.net HT1.out (x := 1) (HI.out _ (by omega) (by omega)); rw [nn_sub1] at hn; refine hn.mono ?_; rintro e y1 ⟨rfl, hk1⟩; have K1 := Hid.mk' hk1; clear hk1; obtain ⟨c0, c1, c2, c3, c4, c5, _⟩ := HNB.out.kept K1.out; dsimp only [N2] at c0 c1 c2 c3 c4 c5)
    | (go_at_call 8; refine ntwo_ex.mono ?_; rintro e y0 ⟨h0, l0, rfl, t0, q0, f0, j0⟩; have K0 := Hid.mk' (j0.tr (Kept.alloc y0 #[.slice (some ⟨h0 + 1 + 1 + 1 + 1 + 1 + 1 + 1 + 1 + 1 + 1, 0, none⟩) 2 2, .slice (some ⟨h0 + 1 + 1 + 1 + 1 + 1 + 1 + 1 + 1 + 1 + 1 + 1 + 1 + 1, 0, none⟩) 2 2, .slice (some ⟨h0 + 1 + 1 + 1 + 1 + 1 + 1 + 1 + 1 + 1 + 1 + 1 + 1 + 1 + 1 + 1, 0, none⟩) 1 1, .int .i64 8, .int .i64 20, .int .i64 4] 26 (0, 0) none)); have HNB : Hid (Nbx (y0.alloc (.cells #[.slice (some ⟨h0 + 1 + 1 + 1 + 1 + 1 + 1 + 1 + 1 + 1 + 1, 0, none⟩) 2 2, .slice (some ⟨h0 + 1 + 1 + 1 + 1 + 1 + 1 + 1 + 1 + 1 + 1 + 1 + 1 + 1, 0, none⟩) 2 2, .slice (some ⟨h0 + 1 + 1 + 1 + 1 + 1 + 1 + 1 + 1 + 1 + 1 + 1 + 1 + 1 + 1 + 1, 0, none⟩) 1 1, .int .i64 8, .int .i64 20, .int .i64 4] 26)) y0.heap.size (Y2 h0 ⟨h0 + 1 + 1 + 1 + 1 + 1 + 1 + 1 + 1 + 1 + 1 + 1 + 1, 0, none⟩) NN) := nbx_alloc (net_two (x := 1) (lo := 8) (hi := 20) (st := 4) t0 (ints_one q0 (HI.out _ (by omega) (by omega))) (HI.out _ (by omega) (by omega)) (HI.out _ (by omega) (by omega)) ⟨(HI.out _ (by omega) (by omega)), (HI.out _ (by omega) (by omega))⟩ ⟨(HI.out _ (by omega) (by omega)), (HI.out _ (by omega) (by omega)), (HI.out _ (by omega) (by omega))⟩) 26; have HT1 := Hid.mk' (HT.out.kept K0.out); have HTb1 := Hid.mk' (HTb.out.kept K0.out); clear t0 q0 f0 j0))
  refine wp_region_held_drew (S := fun w' => w'.cell? ⟨z5.heap.size + 1 + 1 + 1, 2, none⟩ = some (.slice (some ⟨h4 + 1 + 1 + 1 + 1 + 1 + 1 + 1 + 1 + 1 + 1 + 1 + 1 + 1 + 1 + 1, 0, none⟩) 1 1)) (by kernel_rfl) (by go_simp) (fun hHeld => ?_)
  refine held_take (i := 0) (v := ?v1) rfl rfl (by kernel_rfl) (by kernel_rfl) (by kernel_rfl) (fun _ _ _ h => h) (Or.inl ⟨by rfl, ?hy1⟩) hHeld ?rest1
  case hy1 => first | (intro w hSw; (try dsimp only at hSw); go_simp; done) | (intro w hSw; (try dsimp only at hSw); go_simp; with_reducible rfl)
  try simp only [List.setIfInBounds_toArray, List.set_cons_zero, List.set_cons_succ]
  refine held_take (i := 1) (v := ?v2) rfl rfl (by kernel_rfl) (by kernel_rfl) (by kernel_rfl) (fun _ _ _ h => h) (Or.inl ⟨by rfl, ?hy2⟩) hHeld ?rest2
  case hy2 => first | (intro w hSw; (try dsimp only at hSw); go_simp; done) | (intro w hSw; (try dsimp only at hSw); go_simp; with_reducible rfl)
  try simp only [List.setIfInBounds_toArray, List.set_cons_zero, List.set_cons_succ]
  refine held_take (i := 2) (v := ?v3) rfl rfl (by kernel_rfl) (by kernel_rfl) (by kernel_rfl) (fun _ _ _ h => h) (Or.inl ⟨by rfl, ?hy3⟩) hHeld ?rest3
  case hy3 => first | (intro w hSw; (try dsimp only at hSw); go_simp; done) | (intro w hSw; (try dsimp only at hSw); go_simp; with_reducible rfl)
  try simp only [List.setIfInBounds_toArray, List.set_cons_zero, List.set_cons_succ]
  refine held_take (i := 3) (v := ?v4) rfl rfl (by kernel_rfl) (by kernel_rfl) (by kernel_rfl) (fun _ _ _ h => h) (Or.inl ⟨by rfl, ?hy4⟩) hHeld ?rest4
  case hy4 => first | (intro w hSw; (try dsimp only at hSw); go_simp; done) | (intro w hSw; (try dsimp only at hSw); go_simp; with_reducible rfl)
  try simp only [List.setIfInBounds_toArray, List.set_cons_zero, List.set_cons_succ]
  refine held_take (i := 4) (v := ?v5) rfl rfl (by kernel_rfl) (by kernel_rfl) (by kernel_rfl) (fun _ _ _ h => h) (Or.inl ⟨by rfl, ?hy5⟩) hHeld ?rest5
  case hy5 => first | (intro w hSw; (try dsimp only at hSw); go_simp; done) | (intro w hSw; (try dsimp only at hSw); go_simp; with_reducible rfl)
  try simp only [List.setIfInBounds_toArray, List.set_cons_zero, List.set_cons_succ]
  refine held_take (i := 5) (v := ?v6) rfl rfl (by kernel_rfl) (by kernel_rfl) (by kernel_rfl) (fun _ _ _ h => h) (Or.inl ⟨by rfl, ?hy6⟩) hHeld ?rest6
  case hy6 => first | (intro w hSw; (try dsimp only at hSw); go_simp; done) | (intro w hSw; (try dsimp only at hSw); go_simp; with_reducible rfl)
  try simp only [List.setIfInBounds_toArray, List.set_cons_zero, List.set_cons_succ]
  refine wpAnyH_ready (rs := [6]) (by kernel_rfl) (by simp) ?_
  refine AllReadyH.cons rfl (fun K hK => ?_) AllReadyH.nil
  go_simp
  refine hK.out _ _ (by go_simp) (fun hHeld => ?_)
  clear hK K
  refine held_take (i := 7) (v := ?v7) rfl rfl (by kernel_rfl) (by kernel_rfl) (by kernel_rfl) (fun _ _ _ h => h) (Or.inl ⟨by rfl, ?hy7⟩) hHeld ?rest7
  case hy7 => first | (intro w hSw; (try dsimp only at hSw); go_simp; done) | (intro w hSw; (try dsimp only at hSw); go_simp; with_reducible rfl)
  try simp only [List.setIfInBounds_toArray, List.set_cons_zero, List.set_cons_succ]
  refine held_take (i := 8) (v := ?v8) rfl rfl (by kernel_rfl) (by kernel_rfl) (by kernel_rfl) (fun _ _ _ h => h) (Or.inl ⟨by rfl, ?hy8⟩) hHeld ?rest8
  case hy8 => first | (intro w hSw; (try dsimp only at hSw); go_simp; done) | (intro w hSw; (try dsimp only at hSw); go_simp; with_reducible rfl)
  try simp only [List.setIfInBounds_toArray, List.set_cons_zero, List.set_cons_succ]
  refine wpAnyH_ready (rs := [9]) (by kernel_rfl) (by simp) ?_
  refine AllReadyH.cons rfl (fun K hK => ?_) AllReadyH.nil
  go_simp
  refine hK.out _ _ (by go_simp) (fun hHeld => ?_)
  clear hK K
  refine wpAnyH_done (by kernel_rfl) ?_ _
  go_wp2_with (go_at_call 23; skip)
  obtain ⟨⟨B1, B2, B3, B4, B5⟩, KF⟩ := nend HU1.out HQ1.out HU2.out HQ2.out HU3.out HQ3.out HU4.out HQ4.out HU5.out HQ5.out Z2.out Z3.out Z4.out Z5.out l2 l3 l4 l5 (K0.out.tr (K7.out.tr (Z1.out.tr (Z2.out.tr (Z3.out.tr (Z4.out.tr Z5.out)))))) (Nat.le_trans (Nat.le_trans K0.out.size K7.out.size) l1)
  have B1 := Hid.mk' B1
  have B2 := Hid.mk' B2
  have B3 := Hid.mk' B3
  have B4 := Hid.mk' B4
  have B5 := Hid.mk' B5
  have KF := Hid.mk' KF
  have HTF := Hid.mk' (HT.out.kept KF.out)
  have HTbF := Hid.mk' (HTb.out.kept KF.out)
  clear m2 m3 mf2 mf3 o0 o1 of0 of1 r12 rf b3 b4 b5 d34 d43 d35 d45 b3x1 b3x2 b3x3 b3x4 b3x5 b3x6 b4x1 b4x2 b4x3 b4x4 b4x5 b4x6 b5x1 b5x2 b5x3 b5x4 b5x5 b5x6
  go_at_call 14
  refine (nalive_any HTF.out HTbF.out).mono ?_
  rintro e x0 ⟨rfl, kx⟩
  have C0 := Hid.mk' kx
  clear kx
  obtain ⟨b1c0, b1c1, b1c2, b1c3, b1c4, b1c5, _⟩ := B1.out.kept C0.out
  dsimp only [N2] at b1c0 b1c1 b1c2 b1c3 b1c4 b1c5
  obtain ⟨b2c0, b2c1, b2c2, b2c3, b2c4, b2c5, _⟩ := B2.out.kept C0.out
  dsimp only [N2] at b2c0 b2c1 b2c2 b2c3 b2c4 b2c5
  obtain ⟨b3c0, b3c1, b3c2, b3c3, b3c4, b3c5, _⟩ := B3.out.kept C0.out
  dsimp only [N2] at b3c0 b3c1 b3c2 b3c3 b3c4 b3c5
  obtain ⟨b4c0, b4c1, b4c2, b4c3, b4c4, b4c5, _⟩ := B4.out.kept C0.out
  dsimp only [N2] at b4c0 b4c1 b4c2 b4c3 b4c4 b4c5
  obtain ⟨b5c0, b5c1, b5c2, b5c3, b5c4, b5c5, _⟩ := B5.out.kept C0.out
  dsimp only [N2] at b5c0 b5c1 b5c2 b5c3 b5c4 b5c5
  go_wp2_with (first
    | (have hgo := C4; clear hgo; go_at_call 13; have hn := ncheck_any (B5.out.net.kept C4.out) (HTF.out.kept C4.out); rw [nid] at hn; refine hn.mono ?_; rintro e x5 ⟨rfl, kx⟩; have C5 := Hid.mk' (C4.out.tr kx); clear kx; clear b1c0 b1c1 b1c2 b1c3 b1c4 b1c5 b2c0 b2c1 b2c2 b2c3 b2c4 b2c5 b3c0 b3c1 b3c2 b3c3 b3c4 b3c5 b4c0 b4c1 b4c2 b4c3 b4c4 b4c5 b5c0 b5c1 b5c2 b5c3 b5c4 b5c5; obtain ⟨b1c0, b1c1, b1c2, b1c3, b1c4, b1c5, _⟩ := B1.out.kept C5.out; dsimp only [N2] at b1c0 b1c1 b1c2 b1c3 b1c4 b1c5; obtain ⟨b2c0, b2c1, b2c2, b2c3, b2c4, b2c5, _⟩ := B2.out.kept C5.out; dsimp only [N2] at b2c0 b2c1 b2c2 b2c3 b2c4 b2c5; obtain ⟨b3c0, b3c1, b3c2, b3c3, b3c4, b3c5, _⟩ := B3.out.kept C5.out; dsimp only [N2] at b3c0 b3c1 b3c2 b3c3 b3c4 b3c5; obtain ⟨b4c0, b4c1, b4c2, b4c3, b4c4, b4c5, _⟩ := B4.out.kept C5.out; dsimp only [N2] at b4c0 b4c1 b4c2 b4c3 b4c4 b4c5; obtain ⟨b5c0, b5c1, b5c2, b5c3, b5c4, b5c5, _⟩ := B5.out.kept C5.out; dsimp only [N2] at b5c0 b5c1 b5c2 b5c3 b5c4 b5c5)
    | (have hgo := C3; clear hgo; go_at_call 13; have hn := ncheck_any (B4.out.net.kept C3.out) (HTF.out.kept C3.out); rw [nwed] at hn; refine hn.mono ?_; rintro e x4 ⟨rfl, kx⟩; have C4 := Hid.mk' (C3.out.tr kx); clear kx; clear b1c0 b1c1 b1c2 b1c3 b1c4 b1c5 b2c0 b2c1 b2c2 b2c3 b2c4 b2c5 b3c0 b3c1 b3c2 b3c3 b3c4 b3c5 b4c0 b4c1 b4c2 b4c3 b4c4 b4c5 b5c0 b5c1 b5c2 b5c3 b5c4 b5c5; obtain ⟨b1c0, b1c1, b1c2, b1c3, b1c4, b1c5, _⟩ := B1.out.kept C4.out; dsimp only [N2] at b1c0 b1c1 b1c2 b1c3 b1c4 b1c5; obtain ⟨b2c0, b2c1, b2c2, b2c3, b2c4, b2c5, _⟩ := B2.out.kept C4.out; dsimp only [N2] at b2c0 b2c1 b2c2 b2c3 b2c4 b2c5; obtain ⟨b3c0, b3c1, b3c2, b3c3, b3c4, b3c5, _⟩ := B3.out.kept C4.out; dsimp only [N2] at b3c0 b3c1 b3c2 b3c3 b3c4 b3c5; obtain ⟨b4c0, b4c1, b4c2, b4c3, b4c4, b4c5, _⟩ := B4.out.kept C4.out; dsimp only [N2] at b4c0 b4c1 b4c2 b4c3 b4c4 b4c5; obtain ⟨b5c0, b5c1, b5c2, b5c3, b5c4, b5c5, _⟩ := B5.out.kept C4.out; dsimp only [N2] at b5c0 b5c1 b5c2 b5c3 b5c4 b5c5)
    | (have hgo := C2; clear hgo; go_at_call 13; have hn := ncheck_any (B3.out.net.kept C2.out) (HTF.out.kept C2.out); rw [nsub] at hn; refine hn.mono ?_; rintro e x3 ⟨rfl, kx⟩; have C3 := Hid.mk' (C2.out.tr kx); clear kx; clear b1c0 b1c1 b1c2 b1c3 b1c4 b1c5 b2c0 b2c1 b2c2 b2c3 b2c4 b2c5 b3c0 b3c1 b3c2 b3c3 b3c4 b3c5 b4c0 b4c1 b4c2 b4c3 b4c4 b4c5 b5c0 b5c1 b5c2 b5c3 b5c4 b5c5; obtain ⟨b1c0, b1c1, b1c2, b1c3, b1c4, b1c5, _⟩ := B1.out.kept C3.out; dsimp only [N2] at b1c0 b1c1 b1c2 b1c3 b1c4 b1c5; obtain ⟨b2c0, b2c1, b2c2, b2c3, b2c4, b2c5, _⟩ := B2.out.kept C3.out; dsimp only [N2] at b2c0 b2c1 b2c2 b2c3 b2c4 b2c5; obtain ⟨b3c0, b3c1, b3c2, b3c3, b3c4, b3c5, _⟩ := B3.out.kept C3.out; dsimp only [N2] at b3c0 b3c1 b3c2 b3c3 b3c4 b3c5; obtain ⟨b4c0, b4c1, b4c2, b4c3, b4c4, b4c5, _⟩ := B4.out.kept C3.out; dsimp only [N2] at b4c0 b4c1 b4c2 b4c3 b4c4 b4c5; obtain ⟨b5c0, b5c1, b5c2, b5c3, b5c4, b5c5, _⟩ := B5.out.kept C3.out; dsimp only [N2] at b5c0 b5c1 b5c2 b5c3 b5c4 b5c5)
    | (have hgo := C1; clear hgo; go_at_call 13; have hn := ncheck_any (B2.out.net.kept C1.out) (HTF.out.kept C1.out); rw [n24] at hn; refine hn.mono ?_; rintro e x2 ⟨rfl, kx⟩; have C2 := Hid.mk' (C1.out.tr kx); clear kx; clear b1c0 b1c1 b1c2 b1c3 b1c4 b1c5 b2c0 b2c1 b2c2 b2c3 b2c4 b2c5 b3c0 b3c1 b3c2 b3c3 b3c4 b3c5 b4c0 b4c1 b4c2 b4c3 b4c4 b4c5 b5c0 b5c1 b5c2 b5c3 b5c4 b5c5; obtain ⟨b1c0, b1c1, b1c2, b1c3, b1c4, b1c5, _⟩ := B1.out.kept C2.out; dsimp only [N2] at b1c0 b1c1 b1c2 b1c3 b1c4 b1c5; obtain ⟨b2c0, b2c1, b2c2, b2c3, b2c4, b2c5, _⟩ := B2.out.kept C2.out; dsimp only [N2] at b2c0 b2c1 b2c2 b2c3 b2c4 b2c5; obtain ⟨b3c0, b3c1, b3c2, b3c3, b3c4, b3c5, _⟩ := B3.out.kept C2.out; dsimp only [N2] at b3c0 b3c1 b3c2 b3c3 b3c4 b3c5; obtain ⟨b4c0, b4c1, b4c2, b4c3, b4c4, b4c5, _⟩ := B4.out.kept C2.out; dsimp only [N2] at b4c0 b4c1 b4c2 b4c3 b4c4 b4c5; obtain ⟨b5c0, b5c1, b5c2, b5c3, b5c4, b5c5, _⟩ := B5.out.kept C2.out; dsimp only [N2] at b5c0 b5c1 b5c2 b5c3 b5c4 b5c5)
    | (go_at_call 13; have hn := ncheck_any (B1.out.net.kept C0.out) (HTF.out.kept C0.out); rw [n5] at hn; refine hn.mono ?_; rintro e x1 ⟨rfl, kx⟩; have C1 := Hid.mk' (C0.out.tr kx); clear kx; clear b1c0 b1c1 b1c2 b1c3 b1c4 b1c5 b2c0 b2c1 b2c2 b2c3 b2c4 b2c5 b3c0 b3c1 b3c2 b3c3 b3c4 b3c5 b4c0 b4c1 b4c2 b4c3 b4c4 b4c5 b5c0 b5c1 b5c2 b5c3 b5c4 b5c5; obtain ⟨b1c0, b1c1, b1c2, b1c3, b1c4, b1c5, _⟩ := B1.out.kept C1.out; dsimp only [N2] at b1c0 b1c1 b1c2 b1c3 b1c4 b1c5; obtain ⟨b2c0, b2c1, b2c2, b2c3, b2c4, b2c5, _⟩ := B2.out.kept C1.out; dsimp only [N2] at b2c0 b2c1 b2c2 b2c3 b2c4 b2c5; obtain ⟨b3c0, b3c1, b3c2, b3c3, b3c4, b3c5, _⟩ := B3.out.kept C1.out; dsimp only [N2] at b3c0 b3c1 b3c2 b3c3 b3c4 b3c5; obtain ⟨b4c0, b4c1, b4c2, b4c3, b4c4, b4c5, _⟩ := B4.out.kept C1.out; dsimp only [N2] at b4c0 b4c1 b4c2 b4c3 b4c4 b4c5; obtain ⟨b5c0, b5c1, b5c2, b5c3, b5c4, b5c5, _⟩ := B5.out.kept C1.out; dsimp only [N2] at b5c0 b5c1 b5c2 b5c3 b5c4 b5c5))
  go_ret
  exact ⟨rfl, (KF.out.tr C5.out).below⟩

end Go.Proofs.YtoahbpdgbiachaaDoor

