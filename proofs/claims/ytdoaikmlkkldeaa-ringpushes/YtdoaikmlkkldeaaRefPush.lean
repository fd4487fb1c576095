/-
  THE CONTRACT of the document's push (stoplineref02.Push): all numbers laid anew, and one more.
-/
import Derived.Test.YtdoaikmlkkldeaaRefs
import Derived.Deep.RegionHeld3
import Derived.Deep.AppendLies
import Derived.Laws.AppendOwnNone
import Derived.Laws.Pointers
namespace Go.Proofs.Ytdoaikmlkkldeaa
open Go.RowKit Go.Lib Go.Deep
set_option linter.unusedVariables false
set_option linter.unusedSimpArgs false

theorem Src.below {w w' : World} {a : Option Addr} {c : Nat} {L : List Int} (h : Src w a c L) (k : Below w.heap.size w w') : Src w' a c L := by
  obtain ⟨h0, h⟩ := h
  refine ⟨h0, ?_⟩
  rcases h with h | ⟨g, rfl, h1, h2, hg, hc⟩
  · exact .inl h
  · exact .inr ⟨g, rfl, h1, h2, Nat.lt_of_lt_of_le hg k.size, fun i hi => (k.cell (p := ⟨g, i, none⟩) hg).trans (hc i hi)⟩

theorem src_owns {w : World} {base g n cap : Nat} {L : List Int} (h : w.ownsRow base 3 1 (.slice (some ⟨g, 0, none⟩) n cap) n (L.map (Value.int .i64))) (hn : 0 < n) : n = L.length ∧ base ≤ g ∧ Src w (some ⟨g, 0, none⟩) cap L := by
  have hl : L.length = n := by have := h.1; simpa using this
  have hc := fun j (hj : j < n) => h.cellAt j (by omega)
  obtain ⟨_, ⟨h1, _⟩ | ⟨g', cap', cur, h1, hb, hh, hle, hmx, _, _⟩⟩ := id h
  · cases h1
  · injection h1 with h1 h2 h3
    subst h3
    injection h1 with h1
    injection h1 with h1 _
    subst h1
    unfold maxLen at hmx
    have hlt : g < w.heap.size := by
      obtain ⟨hlt, _⟩ := Array.getElem?_eq_some_iff.1 hh
      exact hlt
    refine ⟨hl.symm, hb, hmx, .inr ⟨g, rfl, by omega, by omega, hlt, fun i hi => ?_⟩⟩
    rw [hc i (by omega)]
    simp [hi]

/-- What the world is like ahead of the last statement. -/
structure Ahead (w W : World) (N : Int) : Prop where
  p0 : W.cell? ⟨w.heap.size, 0, none⟩ = some (.int .i64 N)
  c0 : ∃ v, W.cell? ⟨w.heap.size + 1, 0, none⟩ = some v
  c1 : ∃ v, W.cell? ⟨w.heap.size + 1, 1, none⟩ = some v
  f0 : W.frozen? ⟨w.heap.size + 1, 0, none⟩ = false
  f1 : W.frozen? ⟨w.heap.size + 1, 1, none⟩ = false
  size : w.heap.size + 2 ≤ W.heap.size
  below : Below w.heap.size w W
theorem ahead_start (w : World) (N : Int) (v : Value) (t t' : TypeId) : Ahead w ((w.alloc (.cells #[.int .i64 N, v] t)).alloc (.cells #[.int .i64 0, .slice none 0 0] t')) N := by
  have e0 : ((w.alloc (.cells #[.int .i64 N, v] t)).alloc (.cells #[.int .i64 0, .slice none 0 0] t')).heap[w.heap.size]? = some (.cells #[.int .i64 N, v] t) := by
    rw [blk_alloc_lt _ _ _ (by rw [nblk_alloc]; omega), blk_alloc_new]
  have e1 : ((w.alloc (.cells #[.int .i64 N, v] t)).alloc (.cells #[.int .i64 0, .slice none 0 0] t')).heap[w.heap.size + 1]? = some (.cells #[.int .i64 0, .slice none 0 0] t') := by
    have := blk_alloc_new (w.alloc (.cells #[.int .i64 N, v] t)) (.cells #[.int .i64 0, .slice none 0 0] t')
    rwa [nblk_alloc] at this
  exact ⟨by simp only [World.cell?, e0]; rfl, ⟨.int .i64 0, by simp only [World.cell?, e1]; rfl⟩, ⟨.slice none 0 0, by simp only [World.cell?, e1]; rfl⟩, by simp only [World.frozen?, e1]; rfl, by simp only [World.frozen?, e1]; rfl,
    by rw [nblk_alloc, nblk_alloc]; omega, ((Below.refl _ _).alloc (Nat.le_refl _) _).alloc (by rw [nblk_alloc]; omega) _⟩

theorem Ahead.grown {w W W' : World} {N : Int} (h : Ahead w W N) (hg : W.grownBy W' none) : Ahead w W' N := by
  obtain ⟨hp0, ⟨v0, hc0⟩, ⟨v1, hc1⟩, hf0, hf1, hsz, hbel⟩ := h
  exact ⟨(hg.cell_far _ (by simp; omega) (by simp)).trans hp0, ⟨v0, (hg.cell_far _ (by simp; omega) (by simp)).trans hc0⟩, ⟨v1, (hg.cell_far _ (by simp; omega) (by simp)).trans hc1⟩,
    (hg.frozen_far _ (by simp; omega) (by simp)).trans hf0, (hg.frozen_far _ (by simp; omega) (by simp)).trans hf1, Nat.le_trans hsz hg.size, hbel.grown hg (by omega) (fun _ h => by cases h)⟩
theorem Src.set {w : World} {g c : Nat} {L : List Int} (h : Src w (some ⟨g, 0, none⟩) c L) (p : Addr) (v : Value) (hne : g ≠ p.block) : Src (w.setCell p v) (some ⟨g, 0, none⟩) c L := by
  obtain ⟨h0, ⟨_, h1, _⟩ | ⟨g', h1, h2, h3, hg, hc⟩⟩ := h
  · cases h1
  · injection h1 with h1
    injection h1 with h1 _
    subst h1
    exact ⟨h0, .inr ⟨g, rfl, h2, h3, by simpa [World.setCell] using hg, fun i hi => (World.cell?_of_block (w := w) (Below.heap_setCell _ _ _ _ hne)).trans (hc i hi)⟩⟩

set_option maxRecDepth 100000 in
set_option maxHeartbeats 3200000 in
theorem rpush_nil (N : Int) (x : Int) (w : World) :
    Calls Try.prog 17 #[.agg #[.int .i64 N, .slice none 0 0], .int .i64 x] w fun e w' => ∃ g cap, e = .returned (.agg #[.int .i64 N, .slice (some ⟨g, 0, none⟩) 1 cap]) ∧ w.heap.size ≤ g ∧ Src w' (some ⟨g, 0, none⟩) cap [x] ∧ Below w.heap.size w w' := by
  obtain ⟨i0, hi0, hz0, hz1, hz2⟩ := info_parts Try.info3
  have hA := ahead_start w N (.slice none 0 0) 28 28
  go_enter Try.func17, Try.ntmps17
  go_wp2_with (at_builtin; refine wpList_append_own_none (by rfl) _ _ 22 (by rfl) w.heap.size 3 i0 1 Try.underlyingTS hi0 _ _ _ (by rfl) (World.ownsRow_nil _ _ _ _) (by rfl) ?_)
  generalize (w.alloc (.cells #[.int .i64 N, .slice none 0 0] 28)).alloc (.cells #[.int .i64 0, .slice none 0 0] 28) = W at *
  obtain ⟨hp0, ⟨v0, hc0⟩, ⟨v1, hc1⟩, hf0, hf1, hsz, hbel⟩ := hA
  go_region_held3 (fun w' => w'.cell? ⟨w.heap.size, 0, none⟩ = some (.int .i64 N))
    (first
      | go_keep
      | (rw [hgrow.cell_far _ (by simp; omega) (by simp [Value.ownBlock])]; assumption))
    ((refine step_append_lies _ (by rfl) _ _ _ (by rfl) w.heap.size 3 i0 _ 1 8 Try.underlyingTS hi0 hz0 hz1 hz2 rfl (by omega) (.slice none 0 0) 0 [] (by rfl) (World.ownsRow_nil _ _ _ _)
        ⟨W.heap.size, 0, none⟩ 1 1 [.int .i64 x] (by rfl) (by rfl) (World.news_of_block (cs := #[.int .i64 x]) (t := 3) (fr := (0, 0)) (heap_alloc_new W _)) (by simp [Value.oneCell'])
        (by omega) (by simp [maxLen]) (by omega) (by simp; omega) (W.heap.size + 1) (by simp) ?_; intro g cap w1 hown1 hgrow hat hlt
      have hd0 : w1.cell? ⟨w.heap.size + 1, 0, none⟩ = some v0 := by rw [hgrow.cell_far _ (by simp; omega) (by simp [Value.ownBlock])]; exact (World.cell?_alloc_past (w := W) _ _ _ (by omega)).trans hc0
      have hd1 : w1.cell? ⟨w.heap.size + 1, 1, none⟩ = some v1 := by rw [hgrow.cell_far _ (by simp; omega) (by simp [Value.ownBlock])]; exact (World.cell?_alloc_past (w := W) _ _ _ (by omega)).trans hc1
      have he0 : w1.frozen? ⟨w.heap.size + 1, 0, none⟩ = false := by rw [hgrow.frozen_far _ (by simp; omega) (by simp [Value.ownBlock])]; exact (frozen_alloc_cells _ _ _ _).trans hf0
      have he1 : w1.frozen? ⟨w.heap.size + 1, 1, none⟩ = false := by rw [hgrow.frozen_far _ (by simp; omega) (by simp [Value.ownBlock])]; exact (frozen_alloc_cells _ _ _ _).trans hf1))
  go_wp2
  have hgg : g = W.heap.size + 1 := by
    rcases hat with h | h
    · simp [Value.ownBlock] at h
    · exact h
  obtain ⟨_, hbg, hsrc⟩ := src_owns (L := [x]) (by simpa using hown1) (by omega)
  refine bodyPost_ret (v := .agg #[.int .i64 N, .slice (some ⟨g, 0, none⟩) 1 cap]) (by simp [results, Try.results17, go_sem, hd0, hd1]) rfl ⟨g, cap, rfl, hbg, (hsrc.set _ _ (by simp; omega)).set _ _ (by simp; omega), ?_⟩
  exact ((((hbel.alloc (by omega) _).drew).grown hgrow (by simp; omega) (fun k h => by simp [Value.ownBlock] at h)).setCell (by simp) _).setCell (by simp) _

set_option maxRecDepth 100000 in
set_option maxHeartbeats 3200000 in
theorem rpush_row (N : Int) (x : Int) (g0 k c : Nat) (L : List Int) (w : World) (hk : k = L.length) (hp : 0 < k) (hk2 : k ≤ 200) (hc : ∀ i, i < k → w.cell? ⟨g0, i, none⟩ = some (.int .i64 (L.getD i 0))) :
    Calls Try.prog 17 #[.agg #[.int .i64 N, .slice (some ⟨g0, 0, none⟩) k c], .int .i64 x] w fun e w' => ∃ g cap, e = .returned (.agg #[.int .i64 N, .slice (some ⟨g, 0, none⟩) (k + 1) cap]) ∧ w.heap.size ≤ g ∧ Src w' (some ⟨g, 0, none⟩) cap (L ++ [x]) ∧ Below w.heap.size w w' := by
  obtain ⟨i0, hi0, hz0, hz1, hz2⟩ := info_parts Try.info3
  have hA := ahead_start w N (.slice (some ⟨g0, 0, none⟩) k c) 28 28
  have HK : Hid (k = L.length) := hk
  have HN : Hid (∀ j u, (L.map (Value.int .i64))[j]? = some u → ((w.alloc (.cells #[.int .i64 N, .slice (some ⟨g0, 0, none⟩) k c] 28)).alloc (.cells #[.int .i64 0, .slice none 0 0] 28)).cell? ((⟨g0, 0, none⟩ : Addr).add j) = some u) := by
    intro j u hu
    have hj : j < k := by
      rw [hk]
      have := (List.getElem?_eq_some_iff.1 hu).1
      simpa using this
    have hb : g0 < w.heap.size := block_lt (hc j hj)
    rw [Addr.add_lit, Nat.zero_add, World.cell?_alloc_past _ _ _ (by simp; omega), World.cell?_alloc_past _ _ _ hb, hc j hj, ← hu]
    have hj' : j < L.length := by omega
    simp [hj']
  have HL : Hid ((L.map (Value.int .i64)).length = k * 1) := by show _ = _; simp [hk]
  have HO : Hid (∀ u ∈ L.map (Value.int .i64), u.oneCell' = true) := by
    intro u hu
    simp at hu
    obtain ⟨y, _, rfl⟩ := hu
    rfl
  clear hc hk
  go_enter Try.func17, Try.ntmps17
  go_wp2_with (at_builtin; refine wpList_append_lies _ (by rfl) _ _ 22 (by rfl) w.heap.size 3 i0 _ 1 8 Try.underlyingTS hi0 hz0 hz1 hz2 rfl (by omega) (.slice none 0 0) 0 [] (by rfl) (World.ownsRow_nil _ _ _ _) ⟨g0, 0, none⟩ k c (L.map (Value.int .i64)) (by rfl) HL.out HN.out HO.out hp (by unfold maxLen; omega) (by omega) (by simp; omega) (w.heap.size + 2) (by simp) ?_; intro g1 c1 W hown0 hgrow0 hat0 hlt0; rw [Nat.zero_add, List.nil_append] at hown0; rw [Nat.zero_add])
  replace hA := hA.grown hgrow0
  have hg1 : g1 = w.heap.size + 2 := by
    rcases hat0 with h | h
    · simp [Value.ownBlock] at h
    · exact h
  clear hgrow0 hat0 HN
  obtain ⟨hp0, ⟨v0, hc0⟩, ⟨v1, hc1⟩, hf0, hf1, hsz, hbel⟩ := hA
  have hr0 : some (w.heap.size) ≠ some g1 := by simp; omega
  have hr1 : some (w.heap.size + 1) ≠ some g1 := by simp; omega
  have HG1 : Hid (g1 = w.heap.size + 2) := hg1
  clear hg1
  go_region_held3 (fun w' => w'.cell? ⟨w.heap.size, 0, none⟩ = some (.int .i64 N))
    (first
      | go_keep
      | (rw [hgrow.cell_far _ (by simp; omega) hr0]; assumption))
    ((refine step_append_lies _ (by rfl) _ _ _ (by rfl) w.heap.size 3 i0 _ 1 8 Try.underlyingTS hi0 hz0 hz1 hz2 rfl (by omega) (.slice (some ⟨g1, 0, none⟩) k c1) k (L.map (Value.int .i64)) (by rfl) ((hown0.alloc _).drew)
        ⟨W.heap.size, 0, none⟩ 1 1 [.int .i64 x] (by rfl) (by rfl) (World.news_of_block (cs := #[.int .i64 x]) (t := 3) (fr := (0, 0)) (heap_alloc_new W _)) (by simp [Value.oneCell'])
        (by omega) (by unfold maxLen; omega) (by omega) (by simp; omega) (W.heap.size + 1) (by simp) ?_; intro g cap w1 hown1 hgrow hat hlt
      have hd0 : w1.cell? ⟨w.heap.size + 1, 0, none⟩ = some v0 := by rw [hgrow.cell_far _ (by simp; omega) hr1]; exact (World.cell?_alloc_past (w := W) _ _ _ (by omega)).trans hc0
      have hd1 : w1.cell? ⟨w.heap.size + 1, 1, none⟩ = some v1 := by rw [hgrow.cell_far _ (by simp; omega) hr1]; exact (World.cell?_alloc_past (w := W) _ _ _ (by omega)).trans hc1
      have he0 : w1.frozen? ⟨w.heap.size + 1, 0, none⟩ = false := by rw [hgrow.frozen_far _ (by simp; omega) hr1]; exact (frozen_alloc_cells _ _ _ _).trans hf0
      have he1 : w1.frozen? ⟨w.heap.size + 1, 1, none⟩ = false := by rw [hgrow.frozen_far _ (by simp; omega) hr1]; exact (frozen_alloc_cells _ _ _ _).trans hf1))
  go_wp2
  have hgg : w.heap.size + 2 ≤ g := by
    rcases hat with h | h
    · have : g1 = g := by simpa [Value.ownBlock] using h
      rw [← this, HG1.out]; omega
    · omega
  obtain ⟨_, hbg, hsrc⟩ := src_owns (L := L ++ [x]) (by simpa using hown1) (by omega)
  refine bodyPost_ret (v := .agg #[.int .i64 N, .slice (some ⟨g, 0, none⟩) (k + 1) cap]) (by simp [results, Try.results17, go_sem, hd0, hd1]) rfl ⟨g, cap, rfl, hbg, (hsrc.set _ _ (by simp; omega)).set _ _ (by simp; omega), ?_⟩
  have hrow : ∀ j, (Value.slice (some { block := g1, off := 0 }) k c1).ownBlock = some j → w.heap.size ≤ j := by
    intro j h
    have : g1 = j := by simpa [Value.ownBlock] using h
    rw [← this, HG1.out]; omega
  exact ((((hbel.alloc (by omega) _).drew).grown hgrow (by simp; omega) hrow).setCell (by simp) _).setCell (by simp) _

/-- The document's push: all that were pushed, and x. -/
theorem rpush_src {a : Option Addr} {c : Nat} {L : List Int} {w : World} (h : Src w a c L) (h4 : L.length ≤ 200) (k : Nat) (hk : k = L.length) (N x : Int) :
    Calls Try.prog 17 #[.agg #[.int .i64 N, .slice a k c], .int .i64 x] w fun e w' => ∃ g cap, e = .returned (.agg #[.int .i64 N, .slice (some ⟨g, 0, none⟩) (k + 1) cap]) ∧ w.heap.size ≤ g ∧ Src w' (some ⟨g, 0, none⟩) cap (L ++ [x]) ∧ Below w.heap.size w w' := by
  obtain ⟨h0, ⟨rfl, rfl, rfl⟩ | ⟨g, rfl, hp, hc, hg, hcell⟩⟩ := h
  · simp at hk
    subst hk
    exact rpush_nil N x w
  · exact rpush_row N x g k c L w hk (by omega) (by omega) (fun i hi => hcell i (by omega))

end Go.Proofs.Ytdoaikmlkkldeaa
