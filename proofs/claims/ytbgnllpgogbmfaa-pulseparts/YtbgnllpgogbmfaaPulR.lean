/-
  THE CONTRACT of pulse.Run (made by a program).
-/
import Derived.Test.YtbgnllpgogbmfaaPulI
import Derived.RegionIn
import Derived.Stop.RegionWithIn
namespace Go.Proofs.Ytbgnllpgogbmfaa
open Go.RowKit Go.Lib Go.Deep Go.Shelf
set_option linter.unusedVariables false
set_option linter.unusedSimpArgs false
attribute [local go_sem] Oper.semAt_some

/-- What Run answers. -/
def rnV (p : Pu) (L : List Bool) (h : Int) : Pu := if runE p L.length h = 0 then runP h p L else Pu.zero
def rnL (p : Pu) (L : List Bool) (h : Int) : List Bool := if runE p L.length h = 0 then saidP h p L else []
theorem rn_bad {p : Pu} {L : List Bool} {h : Int} (h1 : mayP p = false) : runE p L.length h = 8 ∧ rnV p L h = Pu.zero ∧ rnL p L h = [] := by
  have e : runE p L.length h = 8 := by unfold runE; rw [h1]; rfl
  exact ⟨e, by unfold rnV; rw [e]; rfl, by unfold rnL; rw [e]; rfl⟩
theorem rn_many {p : Pu} {L : List Bool} {h : Int} (h1 : mayP p = true) (h2 : 4096 < L.length) : runE p L.length h = 4 ∧ rnV p L h = Pu.zero ∧ rnL p L h = [] := by
  have e : runE p L.length h = 4 := by unfold runE; rw [h1, if_pos rfl, if_pos h2]
  exact ⟨e, by unfold rnV; rw [e]; rfl, by unfold rnL; rw [e]; rfl⟩
theorem rn_arg {p : Pu} {L : List Bool} {h : Int} (h1 : mayP p = true) (h2 : ¬ 4096 < L.length) (h3 : holB h = false) : runE p L.length h = 2 ∧ rnV p L h = Pu.zero ∧ rnL p L h = [] := by
  have e : runE p L.length h = 2 := by unfold runE; rw [h1, if_pos rfl, if_neg h2, h3]; rfl
  exact ⟨e, by unfold rnV; rw [e]; rfl, by unfold rnL; rw [e]; rfl⟩
theorem rn_ok {p : Pu} {L : List Bool} {h : Int} (h1 : mayP p = true) (h2 : ¬ 4096 < L.length) (h3 : holB h = true) : runE p L.length h = 0 ∧ rnV p L h = runP h p L ∧ rnL p L h = saidP h p L := by
  have e : runE p L.length h = 0 := by unfold runE; rw [h1, if_pos rfl, if_neg h2, h3]; rfl
  exact ⟨e, by unfold rnV; rw [e]; rfl, by unfold rnL; rw [e]; rfl⟩
theorem rn_len (p : Pu) (L : List Bool) (h : Int) : (rnL p L h).length ≤ L.length := by
  unfold rnL; split
  · rw [saidP_len]; exact Nat.le_refl _
  · exact Nat.zero_le _
/-- The answer: the pulse, the list in memory of the call's own, the error. -/
def RunA (w : World) (p : Pu) (L : List Bool) (h : Int) (e : Ending) (w' : World) : Prop := ∃ a c, e = .returned (.tuple #[puV (rnV p L h), .slice a (rnL p L h).length c, .int .i64 (runE p L.length h)]) ∧ Bow w' w.heap.size a (rnL p L h).length c (rnL p L h) ∧ Kept w w' none

set_option maxHeartbeats 1000000 in
theorem run_bad (p : Pu) (h : Int) {a : Option Addr} {n c : Nat} {L : List Bool} {w : World} (hA : Bo w a n L) (h1 : mayP p = false) : Calls Try.prog 9 #[puV p, .slice a n c, .int .i64 h] w (RunA w p L h) := by
  obtain ⟨x1, x2, x3⟩ := rn_bad (L := L) (h := h) h1
  have hmx := hA.max
  unfold RunA
  rw [x1, x2, x3]
  clear x1 x2 x3 hA
  obtain ⟨u, q, s⟩ := p
  have H1 := Hid.mk' h1
  clear h1
  go_enter Try.func9, Try.ntmps9
  go_wp2_with (first | (go_at_call 15; refine (mayBe_any ⟨u, q, s⟩ _).mono ?_; rw [H1.out]; rintro e w1 ⟨rfl, hk1⟩; have hB := (box_alloc w (.bool u) (.bool q) (.int .i64 s) 23).kept ((Kept.alloc _ _ _ _ _).tr hk1); have c0 := hB.c0; have c1 := hB.c1; have c2 := hB.c2; have hR := (box_alloc (w.alloc (.cells #[.bool u, .bool q, .int .i64 s] 23)) (.bool false) (.bool false) (.int .i64 0) 23).kept hk1; simp only [World.size_alloc] at hR; have d0 := hR.c0; have d1 := hR.c1; have d2 := hR.c2; have e0 := hR.f0; have e1 := hR.f1; have e2 := hR.f2; have hlt := hR.lt))
  refine bodyPost_ret (v := .tuple #[puV _, .slice none 0 0, .int .i64 _]) (by simp [results, Try.results9, go_sem, *]; done) rfl ⟨none, 0, rfl, ?_, ?_⟩
  · exact ⟨World.ownsRow_nil _ _ _ _, fun _ => ⟨rfl, rfl⟩, Nat.le_refl _, by omega⟩
  have hK : Kept w _ none := ((Kept.alloc _ _ _ _ _).tr (Kept.alloc _ _ _ _ _)).tr hk1
  exact ((hK.setNew (p := ⟨w.heap.size + 1, 0, none⟩) (by simp) _).setNew (p := ⟨w.heap.size + 1, 1, none⟩) (by simp) _).setNew (p := ⟨w.heap.size + 1, 2, none⟩) (by simp) _

set_option maxHeartbeats 1000000 in
theorem run_many (p : Pu) (h : Int) {a : Option Addr} {n c : Nat} {L : List Bool} {w : World} (hA : Bo w a n L) (h1 : mayP p = true) (h2 : 4096 < n) : Calls Try.prog 9 #[puV p, .slice a n c, .int .i64 h] w (RunA w p L h) := by
  obtain ⟨x1, x2, x3⟩ := rn_many (L := L) (h := h) h1 (by rw [hA.size]; exact h2)
  have hmx := hA.max
  unfold RunA
  rw [x1, x2, x3]
  clear x1 x2 x3 hA
  obtain ⟨u, q, s⟩ := p
  have H1 := Hid.mk' h1
  clear h1
  go_enter Try.func9, Try.ntmps9
  go_wp2_with (first | (go_at_call 15; refine (mayBe_any ⟨u, q, s⟩ _).mono ?_; rw [H1.out]; rintro e w1 ⟨rfl, hk1⟩; have hB := (box_alloc w (.bool u) (.bool q) (.int .i64 s) 23).kept ((Kept.alloc _ _ _ _ _).tr hk1); have c0 := hB.c0; have c1 := hB.c1; have c2 := hB.c2; have hR := (box_alloc (w.alloc (.cells #[.bool u, .bool q, .int .i64 s] 23)) (.bool false) (.bool false) (.int .i64 0) 23).kept hk1; simp only [World.size_alloc] at hR; have d0 := hR.c0; have d1 := hR.c1; have d2 := hR.c2; have e0 := hR.f0; have e1 := hR.f1; have e2 := hR.f2; have hlt := hR.lt))
  refine bodyPost_ret (v := .tuple #[puV _, .slice none 0 0, .int .i64 _]) (by simp [results, Try.results9, go_sem, *]; done) rfl ⟨none, 0, rfl, ?_, ?_⟩
  · exact ⟨World.ownsRow_nil _ _ _ _, fun _ => ⟨rfl, rfl⟩, Nat.le_refl _, by omega⟩
  have hK : Kept w _ none := ((Kept.alloc _ _ _ _ _).tr (Kept.alloc _ _ _ _ _)).tr hk1
  exact ((hK.setNew (p := ⟨w.heap.size + 1, 0, none⟩) (by simp) _).setNew (p := ⟨w.heap.size + 1, 1, none⟩) (by simp) _).setNew (p := ⟨w.heap.size + 1, 2, none⟩) (by simp) _

set_option maxHeartbeats 1000000 in
theorem run_arg (p : Pu) (h : Int) {a : Option Addr} {n c : Nat} {L : List Bool} {w : World} (hA : Bo w a n L) (h1 : mayP p = true) (h2 : ¬ 4096 < n) (h3 : holB h = false) : Calls Try.prog 9 #[puV p, .slice a n c, .int .i64 h] w (RunA w p L h) := by
  obtain ⟨x1, x2, x3⟩ := rn_arg (L := L) (h := h) h1 (by rw [hA.size]; exact h2) h3
  have hmx := hA.max
  unfold RunA
  rw [x1, x2, x3]
  clear x1 x2 x3 hA
  obtain ⟨u, q, s⟩ := p
  have H1 := Hid.mk' h1
  clear h1
  have H3 := Hid.mk' h3
  clear h3
  go_enter Try.func9, Try.ntmps9
  go_wp2_with (first | (go_at_call 16; refine (mayHold_any h _).mono ?_; rw [H3.out]; rintro e w2 ⟨rfl, rfl⟩) | (go_at_call 15; refine (mayBe_any ⟨u, q, s⟩ _).mono ?_; rw [H1.out]; rintro e w1 ⟨rfl, hk1⟩; have hB := (box_alloc w (.bool u) (.bool q) (.int .i64 s) 23).kept ((Kept.alloc _ _ _ _ _).tr hk1); have c0 := hB.c0; have c1 := hB.c1; have c2 := hB.c2; have hR := (box_alloc (w.alloc (.cells #[.bool u, .bool q, .int .i64 s] 23)) (.bool false) (.bool false) (.int .i64 0) 23).kept hk1; simp only [World.size_alloc] at hR; have d0 := hR.c0; have d1 := hR.c1; have d2 := hR.c2; have e0 := hR.f0; have e1 := hR.f1; have e2 := hR.f2; have hlt := hR.lt))
  refine bodyPost_ret (v := .tuple #[puV _, .slice none 0 0, .int .i64 _]) (by simp [results, Try.results9, go_sem, *]; done) rfl ⟨none, 0, rfl, ?_, ?_⟩
  · exact ⟨World.ownsRow_nil _ _ _ _, fun _ => ⟨rfl, rfl⟩, Nat.le_refl _, by omega⟩
  have hK : Kept w _ none := ((Kept.alloc _ _ _ _ _).tr (Kept.alloc _ _ _ _ _)).tr hk1
  exact ((hK.setNew (p := ⟨w.heap.size + 1, 0, none⟩) (by simp) _).setNew (p := ⟨w.heap.size + 1, 1, none⟩) (by simp) _).setNew (p := ⟨w.heap.size + 1, 2, none⟩) (by simp) _

theorem Try.info4b : (Try.prog.info? 4).map (fun i => (i.zero, i.size, i.bytes)) = some (some (.bool false), 1, 1) := by kernel_rfl
/-- What the last of some ticks left behind, and what was said in them. -/
def lastS (h : Int) (p : Pu) (L : List Bool) (l : List Nat) : Pu := match l.getLast? with
  | none => p
  | some i => atP h p L (i + 1)
def toldS (h : Int) (p : Pu) (L : List Bool) (l : List Nat) : List Bool := l.map fun i => (atP h p L (i + 1)).up
theorem lastS_snoc (h : Int) (p : Pu) (L : List Bool) (l : List Nat) (i : Nat) : lastS h p L (l ++ [i]) = atP h p L (i + 1) := by simp [lastS]
theorem toldS_snoc (h : Int) (p : Pu) (L : List Bool) (l : List Nat) (i : Nat) : toldS h p L (l ++ [i]) = toldS h p L l ++ [(atP h p L (i + 1)).up] := by simp [toldS]
theorem lastS_all (h : Int) (p : Pu) (L : List Bool) : lastS h p L (List.range L.length) = runP h p L := by
  cases hn : L.length with
  | zero => have : L = [] := List.length_eq_zero_iff.1 hn; subst this; rfl
  | succ m => rw [List.range_succ, lastS_snoc, ← hn, atP_all]
theorem toldS_all (h : Int) (p : Pu) (L : List Bool) : toldS h p L (List.range L.length) = saidP h p L := rfl
/-- What the loop of Run knows between two rounds: z its first block, D the list's box, G the list's own block. -/
structure Rst (w : World) (h : Int) (p : Pu) (L : List Bool) (n z D G N : Nat) (l : List Nat) (W : World) : Prop where
  box : Box W z (.bool (lastS h p L l).up) (.bool (lastS h p L l).raw) (.int .i64 (lastS h p L l).since)
  res : Box W (z + 1) (.bool false) (.bool false) (.int .i64 0)
  said : Boxed W D 27 (.slice (some ⟨G, 0, none⟩) l.length n)
  own : W.ownsRow w.heap.size 4 1 (.slice (some ⟨G, 0, none⟩) l.length n) l.length ((toldS h p L l).map boolV)
  below : Below w.heap.size w W
  size : N ≤ W.heap.size
theorem news_one {w : World} {g : Nat} (hg : w.heap.size = g) (v : Value) (t : TypeId) : ∀ j u, [v][j]? = some u → (w.alloc (.cells #[v] t)).cell? ((⟨g, 0, none⟩ : Addr).add j) = some u := by subst hg; exact cell_one_new _ _ _
theorem size_set3 (w : World) (b : Nat) (x y z : Value) : (set3 w b x y z).heap.size = w.heap.size := by simp [set3, World.setCell]
theorem own_at {w w' : World} {base e k m n : Nat} {G : Nat} {xs : List Value} (h : w.ownsRow base e k (.slice (some ⟨G, 0, none⟩) m n) m xs) (q : w'.heap[G]? = w.heap[G]?) : w'.ownsRow base e k (.slice (some ⟨G, 0, none⟩) m n) m xs := by
  refine ⟨h.1, ?_⟩
  rcases id h.2 with ⟨h0, _⟩ | ⟨b, cap, cur, he, hb, hh, h4⟩
  · cases h0
  · injection he with e1 e2 e3
    injection e1 with e1
    injection e1 with e1
    subst e1 e3
    exact .inr ⟨G, n, cur, rfl, hb, q.trans hh, h4⟩
theorem heap_set3 {w : World} {b k : Nat} (hne : k ≠ b) (x y z : Value) : (set3 w b x y z).heap[k]? = w.heap[k]? :=
  (Below.heap_setCell _ _ _ _ hne).trans ((Below.heap_setCell _ _ _ _ hne).trans (Below.heap_setCell _ _ _ _ hne))
theorem boxed_off {w : World} {D b : Nat} {t : TypeId} {v : Value} (h : Boxed w D t v) (hne : D ≠ b) (x y z : Value) : Boxed (set3 w b x y z) D t v := (heap_set3 hne x y z).trans h
theorem Box.keptR {w w' : World} {b : Nat} {v0 v1 v2 : Value} {r : Option Nat} (h : Box w b v0 v1 v2) (k : Kept w w' r) (hne : some b ≠ r) : Box w' b v0 v1 v2 := by
  have hb := k.block b h.lt hne
  exact ⟨(World.cell?_of_block (w := w) (a := ⟨b, 0, none⟩) hb).trans h.c0, (World.cell?_of_block (w := w) (a := ⟨b, 1, none⟩) hb).trans h.c1, (World.cell?_of_block (w := w) (a := ⟨b, 2, none⟩) hb).trans h.c2, (World.frozen?_of_block (w := w) (a := ⟨b, 0, none⟩) hb).trans h.f0, (World.frozen?_of_block (w := w) (a := ⟨b, 1, none⟩) hb).trans h.f1, (World.frozen?_of_block (w := w) (a := ⟨b, 2, none⟩) hb).trans h.f2, Nat.lt_of_lt_of_le h.lt k.size⟩
theorem own_below {w w' : World} {B base e k m n : Nat} {G : Nat} {xs : List Value} (h : w.ownsRow base e k (.slice (some ⟨G, 0, none⟩) m n) m xs) (q : Below B w w') (hG : G < B) : w'.ownsRow base e k (.slice (some ⟨G, 0, none⟩) m n) m xs := by
  refine ⟨h.1, ?_⟩
  rcases id h.2 with ⟨h0, _⟩ | ⟨b, cap, cur, he, hb, hh, h4⟩
  · cases h0
  · injection he with e1 e2 e3
    injection e1 with e1
    injection e1 with e1
    subst e1 e3
    exact .inr ⟨G, n, cur, rfl, hb, (q.block G hG).trans hh, h4⟩
theorem Box.below {w w' : World} {B b : Nat} {v0 v1 v2 : Value} (h : Box w b v0 v1 v2) (q : Below B w w') (hb : b < B) : Box w' b v0 v1 v2 :=
  ⟨(q.cell (p := ⟨b, 0, none⟩) hb).trans h.c0, (q.cell (p := ⟨b, 1, none⟩) hb).trans h.c1, (q.cell (p := ⟨b, 2, none⟩) hb).trans h.c2, (q.frozen (p := ⟨b, 0, none⟩) hb).trans h.f0, (q.frozen (p := ⟨b, 1, none⟩) hb).trans h.f1, (q.frozen (p := ⟨b, 2, none⟩) hb).trans h.f2, Nat.lt_of_lt_of_le h.lt q.size⟩
theorem rst_lies {w : World} {h : Int} {p : Pu} {L : List Bool} {n z D G N m : Nat} (hz : z + 1 < N) (hD : D < N) (hG : G < N) (hw : w.heap.size ≤ N) : Lies N (fun (pre : List (Ix m)) W => Rst w h p L n z D G N (ivals pre) W) := fun s X Y hs q =>
  ⟨hs.box.below q (by omega), hs.res.below q hz, (q.block D hD).trans hs.said, own_below hs.own q hG, hs.below.trans (q.mono hw), Nat.le_trans hs.size q.size⟩
theorem box_own {B : Nat} {b : Nat} {v0 v1 v2 : Value} : OwnFrom B (fun (_ : Unit) W => Box W b v0 v1 v2) := fun _ X Y row hs hg hr => by
  have hne : some b ≠ row := fun e => by
    obtain ⟨_, o, ho, hc⟩ := hr b e.symm
    obtain ⟨o', ho', hc'⟩ := cells_of hs.c0
    rw [ho] at ho'
    injection ho' with ho'
    subst ho'
    rw [hc] at hc'
    cases hc'
  have hb := hg.block b hs.lt hne
  exact ⟨(World.cell?_of_block (w := X) (a := ⟨b, 0, none⟩) hb).trans hs.c0, (World.cell?_of_block (w := X) (a := ⟨b, 1, none⟩) hb).trans hs.c1, (World.cell?_of_block (w := X) (a := ⟨b, 2, none⟩) hb).trans hs.c2, (World.frozen?_of_block (w := X) (a := ⟨b, 0, none⟩) hb).trans hs.f0, (World.frozen?_of_block (w := X) (a := ⟨b, 1, none⟩) hb).trans hs.f1, (World.frozen?_of_block (w := X) (a := ⟨b, 2, none⟩) hb).trans hs.f2, Nat.lt_of_lt_of_le hs.lt hg.size⟩
theorem rst_step {w : World} {h : Int} {p P : Pu} {L : List Bool} {n D G N i : Nat} {l : List Nat} {W w4 : World} (hi : Rst w h p L n w.heap.size D G N l W) (hP : P = atP h p L (i + 1))
    (hown4 : w4.ownsRow w.heap.size 4 1 (.slice (some ⟨G, 0, none⟩) (l.length + 1) n) (l.length + 1) ((toldS h p L l).map boolV ++ [.bool P.up]))
    (hg4 : Kept ((set3 W w.heap.size (.bool P.up) (.bool P.raw) (.int .i64 P.since)).alloc (.cells #[.bool P.up] 4)) w4 (some G)) (h1 : w.heap.size + 1 < G) (h2 : G < D) (h3 : D < N) :
    KeepsFrom N W (w4.setCell ⟨D, 0, none⟩ (.slice (some ⟨G, 0, none⟩) (l.length + 1) n)) ∧ KpC (fun k => k = w.heap.size ∨ k = D ∨ k = G) W (w4.setCell ⟨D, 0, none⟩ (.slice (some ⟨G, 0, none⟩) (l.length + 1) n)) ∧
      Rst w h p L n w.heap.size D G N (l ++ [i]) (w4.setCell ⟨D, 0, none⟩ (.slice (some ⟨G, 0, none⟩) (l.length + 1) n)) := by
  have hzz := size_set3 W w.heap.size (.bool P.up) (.bool P.raw) (.int .i64 P.since)
  have hs := hi.size
  have ka : Kept (set3 W w.heap.size (.bool P.up) (.bool P.raw) (.int .i64 P.since)) ((set3 W w.heap.size (.bool P.up) (.bool P.raw) (.int .i64 P.since)).alloc (.cells #[.bool P.up] 4)) none := Kept.alloc _ _ _ _ _
  have hsz4 : W.heap.size ≤ w4.heap.size := by have := hg4.size; have := ka.size; omega
  have hsd := ((boxed_off hi.said (b := w.heap.size) (by omega) (.bool P.up) (.bool P.raw) (.int .i64 P.since)).alloc (.cells #[.bool P.up] 4)).kept hg4 (by simp; omega)
  refine ⟨?_, ?_, ?_⟩
  · exact (((((KeepsOthers.setCell _ _ _).trans (KeepsOthers.setCell _ _ _)).trans (KeepsOthers.setCell _ _ _)).trans (KeepsOthers.alloc _ _)).from N).trans ((KeepsFrom.of_grownBy hg4 (fun j e => by injection e with e; omega)).trans ((KeepsOthers.setCell _ _ _).from N))
  · exact ((((KpC.refl _ W).set3 (Or.inl rfl) _ _ _).tr (KpC.kept ka (fun j e => by cases e))).tr (KpC.kept hg4 (fun j e => by injection e with e; exact Or.inr (Or.inr e.symm)))).tr (KpC.set _ _ (Or.inr (Or.inl rfl)))
  · refine ⟨?_, ?_, ?_, ?_, ?_, ?_⟩
    · rw [lastS_snoc, ← hP]
      exact (((hi.box.set _ _ _).kept ka).keptR hg4 (by simp; omega)).far (by omega) 0 _
    · exact (((hi.res.off (by omega) _ _ _).kept ka).keptR hg4 (by simp; omega)).far (by omega) 0 _
    · rw [List.length_append]
      exact hsd.set _
    · rw [List.length_append, toldS_snoc, List.map_append, ← hP]
      exact own_at hown4 (Below.heap_setCell _ _ _ _ (by simp; omega))
    · refine Below.setCell (p := ⟨D, 0, none⟩) ?_ (by simp; omega) _
      exact Below.grown (Below.alloc (below_set3 hi.below (Nat.le_refl _) _ _ _) (by rw [hzz]; omega) _) hg4 (by rw [World.size_alloc, hzz]; omega) (fun k e => by injection e with e; omega)
    · have : (w4.setCell ⟨D, 0, none⟩ (.slice (some ⟨G, 0, none⟩) (l.length + 1) n)).heap.size = w4.heap.size := by simp [World.setCell]
      omega
set_option maxRecDepth 100000 in
set_option maxHeartbeats 400000 in
theorem run_ok (p : Pu) (h : Int) {a : Option Addr} {n c : Nat} {L : List Bool} {w : World} (hA : Bo w a n L) (h1 : mayP p = true) (h2 : ¬ 4096 < n) (h3 : holB h = true) : Calls Try.prog 9 #[puV p, .slice a n c, .int .i64 h] w (RunA w p L h) := by
  obtain ⟨i0, hi0, hz0, hz1, hz2⟩ := info_parts Try.info4b
  obtain ⟨x1, x2, x3⟩ := rn_ok (L := L) (h := h) h1 (by rw [hA.size]; exact h2) h3
  have hmx := hA.max
  have hn : n ≤ 4096 := by omega
  have HA := Hid.mk' hA
  unfold RunA
  rw [x1, x2, x3]
  clear x1 x2 x3 hA
  have H1 := Hid.mk' h1
  have H3 := Hid.mk' h3
  clear h1 h3
  refine (callsIn_wide (n := 8)).1 ?_
  obtain ⟨u, q, s⟩ := p
  refine callsIn_of_wp_marks Try.func9 rfl trivial ?_ rfl
  simp only [Try.ntmps9, List.size_toArray, List.length_cons, List.length_nil, Nat.reduceAdd, Nat.reduceSub, Array.replicate_succ, Array.replicate_zero, List.push_toArray, List.append_toArray, List.nil_append, List.cons_append]
  gi_wp2_with (first
    | (refine ⟨trivial, ?_⟩; gi_at_call 16; refine (callsIn_wide.2 (mayHold_any h _)).mono ?_; rw [H3.out]; rintro e w9 ⟨rfl, h9⟩; have h9' := h9.symm; clear h9; subst h9')
    | (refine ⟨trivial, ?_⟩; gi_at_call 15; refine (callsIn_wide.2 (mayBe_any ⟨u, q, s⟩ _)).mono ?_; rw [H1.out]; rintro e w1 ⟨rfl, hk1⟩; have hB := (box_alloc w (.bool u) (.bool q) (.int .i64 s) 23).kept ((Kept.alloc _ _ _ _ _).tr hk1); have c0 := hB.c0; have c1 := hB.c1; have c2 := hB.c2; have hR := (box_alloc (w.alloc (.cells #[.bool u, .bool q, .int .i64 s] 23)) (.bool false) (.bool false) (.int .i64 0) 23).kept hk1; simp only [World.size_alloc] at hR; have hlt := hR.lt; obtain ⟨w2, hmk, hown, hgw⟩ := run_make_own (P := Try.prog) w1 w.heap.size 27 4 i0 _ 1 Try.underlying27 hi0 hz0 hz1 .i64 .i64 n (by rw [hz2]; omega) (by unfold maxLen; omega) (by have := hR.lt; omega); have hB2 := hB.kept hgw; have hR2 := hR.kept hgw; have b0 := hB2.c0; have b1 := hB2.c1; have b2 := hB2.c2; have hlt2 := hB2.lt)
    | (refine ⟨trivial, ?_⟩; gi_at_call 18; refine (ticks_in _ _ ⟨u, q, s⟩ _ _ _ _).mono ?_; rintro e w3 ⟨rfl, hw3⟩; have hw3' := hw3.symm; clear hw3; subst hw3'))
  have hGl : w1.heap.size < w2.heap.size := (hown.lt w1.heap.size rfl).2
  have bS := (((Boxed.new w2 27 (.slice (some ⟨w1.heap.size, 0, none⟩) 0 n)).alloc (.cells #[.bool u, .bool q, .int .i64 s] 23)).alloc (.cells #[.slice a n c] 27)).alloc (.cells #[.int .i64 h] 3)
  have bF := (box_alloc (w2.alloc (.cells #[.slice (some ⟨w1.heap.size, 0, none⟩) 0 n] 27)) (.bool u) (.bool q) (.int .i64 s) 23).kept ((Kept.alloc _ #[.slice a n c] 27 (0, 0) none).tr (Kept.alloc _ #[.int .i64 h] 3 (0, 0) none))
  have bW := (Boxed.new ((w2.alloc (.cells #[.slice (some ⟨w1.heap.size, 0, none⟩) 0 n] 27)).alloc (.cells #[.bool u, .bool q, .int .i64 s] 23)) 27 (.slice a n c)).alloc (.cells #[.int .i64 h] 3)
  have bH := Boxed.new (((w2.alloc (.cells #[.slice (some ⟨w1.heap.size, 0, none⟩) 0 n] 27)).alloc (.cells #[.bool u, .bool q, .int .i64 s] 23)).alloc (.cells #[.slice a n c] 27)) 3 (.int .i64 h)
  simp only [World.size_alloc] at bF bW bH
  have k0 : Kept w2 ((((w2.alloc (.cells #[.slice (some ⟨w1.heap.size, 0, none⟩) 0 n] 27)).alloc (.cells #[.bool u, .bool q, .int .i64 s] 23)).alloc (.cells #[.slice a n c] 27)).alloc (.cells #[.int .i64 h] 3)) none := (((Kept.alloc _ _ _ _ _).tr (Kept.alloc _ _ _ _ _)).tr (Kept.alloc _ _ _ _ _)).tr (Kept.alloc _ _ _ _ _)
  have hsz : ((((w2.alloc (.cells #[.slice (some ⟨w1.heap.size, 0, none⟩) 0 n] 27)).alloc (.cells #[.bool u, .bool q, .int .i64 s] 23)).alloc (.cells #[.slice a n c] 27)).alloc (.cells #[.int .i64 h] 3)).heap.size = w2.heap.size + 4 := by simp
  obtain ⟨W0, hW0⟩ : ∃ W0, ((((w2.alloc (.cells #[.slice (some ⟨w1.heap.size, 0, none⟩) 0 n] 27)).alloc (.cells #[.bool u, .bool q, .int .i64 s] 23)).alloc (.cells #[.slice a n c] 27)).alloc (.cells #[.int .i64 h] 3)) = W0 := ⟨_, rfl⟩
  rw [hW0] at bS bF bW bH k0 hsz ⊢
  have hs1 : W0.heap.size ≤ w2.heap.size + 4 := by omega
  have hs2 : w2.heap.size + 4 ≤ W0.heap.size := by omega
  have hk0 : Kept w W0 none := ((((Kept.alloc _ _ _ _ _).tr (Kept.alloc _ _ _ _ _)).tr hk1).tr hgw).tr k0
  have HR0 : Hid (Rst w h ⟨u, q, s⟩ L n w.heap.size w2.heap.size w1.heap.size W0.heap.size [] W0) := ⟨hB2.kept k0, hR2.kept k0, bS, own_keptB hown k0 (fun _ _ => by simp), hk0.below, Nat.le_refl _⟩
  have HAW := Hid.mk' (HA.out.kept hk0)
  have HLn := Hid.mk' HA.out.size
  have hAb : ∀ x, a = some x → 0 < n → x.block < w.heap.size := fun x hx h0 => HA.out.block h0 hx
  have HAB := Hid.mk' hAb
  clear hW0 hsz hmk hown hgw hB hR hB2 hR2 c0 c1 c2 b0 b1 b2 k0 hk0 hk1 hAb
  generalize decide (4096 < (n : Int)) = dd
  obtain ⟨G, hG⟩ : ∃ G, G = w1.heap.size := ⟨_, rfl⟩
  obtain ⟨D, hD⟩ : ∃ D, D = w2.heap.size := ⟨_, rfl⟩
  rw [← hG, ← hD] at HR0
  rw [← hG] at bS
  rw [← hD] at bS bF bW bH hs1 hs2 hGl hlt2
  rw [← hG] at hGl hlt
  rw [← hG, ← hD]
  clear hG hD
  refine range_cells rfl (by omega) (gf := 20) (lb := #[.pointer (some ⟨D + 1, 0, none⟩), .pointer (some ⟨D + 1 + 1, 0, none⟩), .pointer (some ⟨D + 1 + 1 + 1, 0, none⟩)]) rfl trivial (enters_of Try.func20 (by kernel_rfl) rfl)
    (ticks_seq (fun k => k = w.heap.size ∨ k = D ∨ k = G) 7 (by omega) (D + 1) (D + 1 + 1) (D + 1 + 1 + 1) ⟨u, q, s⟩ H1.out h W0 HAW.out bF bW.cell bH.cell (by omega) (fun x hx h0 => by have := HAB.out x hx h0; omega) (fun k hk => by omega))
    (fun h1 h2 => h1.tr h2) (fun W l o o' hl ho => KpC.put W l o o' hl ho) (fun _ => rfl)
    (fun pre W => Rst w h ⟨u, q, s⟩ L n w.heap.size D G W0.heap.size (ivals pre) W) (rst_lies (by omega) (by omega) (by omega) (by omega)) HR0.out
    (fun x a' W => ∃ Bx, W0.heap.size ≤ Bx ∧ Box W Bx (.bool (atP h ⟨u, q, s⟩ L (x.1 + 1)).up) (.bool (atP h ⟨u, q, s⟩ L (x.1 + 1)).raw) (.int .i64 (atP h ⟨u, q, s⟩ L (x.1 + 1)).since) ∧ a' = { tmps := #[puV ⟨u, q, s⟩, .slice a n c, .int .i64 h, .pointer (some ⟨w.heap.size, 0, none⟩), undef, undef, .pointer (some ⟨w.heap.size + 1, 0, none⟩), .slice none 0 0, .int .i64 0, .pointer (some ⟨D, 0, none⟩), .pointer (some ⟨Bx, 0, none⟩), .bool false, .agg #[.bool u, .bool q, .int .i64 s], .bool true, .bool false, undef, .bool dd, .slice a n c, .int .i64 (n : Int), .bool dd, undef, .bool false, .int .i64 h, .bool true, .bool false, undef, .slice a n c, .int .i64 (n : Int), .slice (some ⟨G, 0, none⟩) 0 n, .agg #[.bool u, .bool q, .int .i64 s], .slice a n c, .int .i64 h, .func (.func 20) #[] #[.pointer (some ⟨D + 1, 0, none⟩), .pointer (some ⟨D + 1 + 1, 0, none⟩), .pointer (some ⟨D + 1 + 1 + 1, 0, none⟩)], puV (atP h ⟨u, q, s⟩ L (x.1 + 1)), undef, undef, undef, undef, undef, undef, undef, undef], defers := [] })
    (fun x a' _ X Y row hs hg hr => by obtain ⟨Bx, g1, g2, g3⟩ := hs; exact ⟨Bx, g1, box_own () X Y row g2 hg hr, g3⟩)
    ?assign ?body ?done
  case assign =>
    rintro l pre x W K hi hws hK
    unfold tkV
    generalize hP : atP h ⟨u, q, s⟩ L (x.1 + 1) = P at *
    gi_wp2
    refine hK _ _ ((KeepsOthers.alloc _ _).from _) (KpC.kept (Kept.alloc _ _ _ _ none) (fun i e => by cases e)) ?_ ⟨W.heap.size, hws, ?_, rfl⟩
    · exact rst_lies (m := n) (by omega) (by omega) (by omega) (by omega) pre _ _ hi ((Below.refl _ W).alloc hws _)
    · exact box_alloc _ _ _ _ _
  case body =>
    have hlt0 := hlt
    rintro l pre x a' W hi ⟨Bx, hBx, hbx, rfl⟩ hlt
    obtain ⟨P, hP⟩ : ∃ P, P = atP h ⟨u, q, s⟩ L (x.1 + 1) := ⟨_, rfl⟩
    rw [← hP] at hbx ⊢
    have HI := Hid.mk' hi
    have HP := Hid.mk' hP
    have e0 := hbx.c0
    have e1 := hbx.c1
    have e2 := hbx.c2
    have g0 := hi.box.c0
    have g1 := hi.box.c1
    have g2 := hi.box.c2
    have i0' := hi.box.f0
    have i1' := hi.box.f1
    have i2' := hi.box.f2
    have dc := hi.said.cell
    have df := hi.said.frozen
    have hzl := hi.size
    have bS1 := Hid.mk' (boxed_off hi.said (b := w.heap.size) (by omega) (.bool P.up) (.bool P.raw) (.int .i64 P.since))
    have ow1 := Hid.mk' (own_at (w' := set3 W w.heap.size (.bool P.up) (.bool P.raw) (.int .i64 P.since)) hi.own (heap_set3 (by omega) _ _ _))
    have hne1 : ¬ w.heap.size = D := by omega
    have hne2 : ¬ w.heap.size = Bx := by omega
    have hne3 : Bx < W.heap.size := hbx.lt
    have hlen : (ivals pre).length + 1 ≤ n := by rw [ivals_len]; omega
    clear hi hbx hP bS bF bW bH
    gi_wp2_with (gi_at_builtin; refine wpListIn_append_fits _ rfl _ _ 27 rfl w.heap.size 4 i0 1 Try.underlying27 hi0 hz1 G (ivals pre).length n ((toldS h ⟨u, q, s⟩ L (ivals pre)).map boolV) rfl (ow1.out.alloc _) ⟨W.heap.size, 0, none⟩ 1 1 [.bool P.up] rfl rfl (news_one (size_set3 _ _ _ _ _) _ _) (fun x hx => by simp at hx; subst hx; rfl) hlen ?_; intro w4 hown4 hg4; have sd4 := (bS1.out.alloc _).kept hg4 (by simp; omega); have dc4 := sd4.cell; have df4 := sd4.frozen)
    have hfin := rst_step HI.out HP.out hown4 hg4 hlt0 hGl (by omega)
    refine ⟨hfin.1, hfin.2.1, ?_⟩
    show Rst _ _ _ _ _ _ _ _ _ (ivals (pre ++ [x])) _
    rw [ivals_snoc]
    exact hfin.2.2
  case done =>
    rintro Dd zs W hDd hzs hi hK
    rw [hzs] at hi
    rw [← HLn.out] at hi
    have c0 := hi.box.c0
    have c1 := hi.box.c1
    have c2 := hi.box.c2
    rw [lastS_all] at c0 c1 c2
    have d0 := hi.res.c0
    have d1 := hi.res.c1
    have d2 := hi.res.c2
    have f0 := hi.res.f0
    have f1 := hi.res.f1
    have f2 := hi.res.f2
    have cS := hi.said.cell
    rw [List.length_range] at cS
    have hne : ¬ w.heap.size + 1 = D := by omega
    have hne2 : ¬ w.heap.size + 1 = w.heap.size := by omega
    have HI := Hid.mk' hi
    clear hi bS bF bW bH
    generalize hQ : runP h ⟨u, q, s⟩ L = Q at *
    gi_wp2
    gi_region
    gi_wp2
    have hr1 := HI.out.res.set (.bool Q.up) (.bool Q.raw) (.int .i64 Q.since)
    have hkd : Kept (set3 W (w.heap.size + 1) (.bool Q.up) (.bool Q.raw) (.int .i64 Q.since)) (set3 W (w.heap.size + 1) (.bool Q.up) (.bool Q.raw) (.int .i64 Q.since)).drew none := ⟨rfl, rfl, rfl, Nat.le_refl _, fun _ _ _ => rfl⟩
    have hK' : (set3 W (w.heap.size + 1) (.bool Q.up) (.bool Q.raw) (.int .i64 Q.since)).drew.heap[Dd]? = some (.deferred (some [])) := (heap_set3 (by omega) _ _ _).trans hK
    have hr2 := (hr1.kept hkd).keptR (grownBy_putObj' _ Dd (.deferred none)) (by simp; omega)
    have r0 := hr2.c0
    have r1 := hr2.c1
    have r2 := hr2.c2
    have hbl : Below w.heap.size w (((set3 W (w.heap.size + 1) (.bool Q.up) (.bool Q.raw) (.int .i64 Q.since)).drew).putObj Dd (.deferred none)) := ((below_set3 HI.out.below (by omega) _ _ _).drew).trans (belowK_b (w := w) (Nat.le_refl _) _ Dd _ _ (by omega) hK' rfl rfl)
    have hwn : (((set3 W (w.heap.size + 1) (.bool Q.up) (.bool Q.raw) (.int .i64 Q.since)).drew).putObj Dd (.deferred none)).ownsRow w.heap.size 4 1 (.slice (some ⟨G, 0, none⟩) L.length L.length) L.length ((saidP h ⟨u, q, s⟩ L).map boolV) := by
      have h5 := HI.out.own
      rw [toldS_all, List.length_range] at h5
      exact own_at h5 ((World.putObj_heap_other (by omega)).trans (heap_set3 (by omega) _ _ _))
    refine ⟨by simp, .inl ⟨_, _, rfl, run_takeDeferred hK', ?_⟩⟩
    refine ⟨.tuple #[puV Q, .slice (some ⟨G, 0, none⟩) L.length L.length, .int .i64 0], ?_, some ⟨G, 0, none⟩, L.length, ?_, ?_, Kept.of_below hbl⟩
    · simp [results, Try.f9, go_sem, r0, r1, r2]
    · rw [saidP_len, hQ]
    · rw [saidP_len]
      exact ⟨hwn, fun e => (nomatch e), Nat.le_refl _, by have := HLn.out; omega⟩
/-- Run, whatever is handed in. -/
theorem run_any (p : Pu) (h : Int) {a : Option Addr} {n c : Nat} {L : List Bool} {w : World} (hA : Bo w a n L) : Calls Try.prog 9 #[puV p, .slice a n c, .int .i64 h] w (RunA w p L h) := by
  cases h1 : mayP p with
  | false => exact run_bad p h hA h1
  | true =>
    by_cases h2 : 4096 < n
    · exact run_many p h hA h1 h2
    · cases h3 : holB h with
      | false => exact run_arg p h hA h1 h2 h3
      | true => exact run_ok p h hA h1 h2 h3

end Go.Proofs.Ytbgnllpgogbmfaa
