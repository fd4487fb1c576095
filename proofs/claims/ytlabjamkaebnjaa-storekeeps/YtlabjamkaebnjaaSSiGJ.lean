/-
  Texts joined: some of those that the proofs of this seat stand on.
-/
import Derived.Test.YtlabjamkaebnjaaMathsJ
import Derived.Test.YtlabjamkaebnjaaSPlGJ
import Derived.Test.YtlabjamkaebnjaaCrcJ
import Derived.Test.YtlabjamkaebnjaaSRefO2
import Derived.Test.YtlabjamkaebnjaaSto3J
import Derived.Test.YtlabjamkaebnjaaSRefWJ
import Derived.Test.YtlabjamkaebnjaaSFitsJ
import Derived.Deep.RegionHeld3
import Derived.Test.YtlabjamkaebnjaaSmallJ
import Derived.Test.YtlabjamkaebnjaaFrmM
import Derived.Test.YtlabjamkaebnjaaSPlanLJ
import Derived.Test.YtlabjamkaebnjaaSSiteBJ
/-
  Of the text SiG: what this stage needs (culled by a program).
-/
namespace Go.Proofs.Ytlabjamkaebnjaa
open Go.RowKit Go.Lib Go.Deep
set_option linter.unusedVariables false
set_option linter.unusedSimpArgs false

/-! ### Own lists -/
/-- A list of one's own: elements of K cells. -/
def OwL {α : Type} (e : TypeId) (K : Nat) (f : α → Nat → Value) (d : α) (w : World) (base : Nat) (v : Value) (l : List α) : Prop := w.ownsRow base e K v l.length (cellsL l.length K (fun i j => f (l.getD i d) j))
theorem OwL.nil {α : Type} (e : TypeId) (K : Nat) (f : α → Nat → Value) (d : α) (w : World) (base : Nat) : OwL e K f d w base (.slice none 0 0) [] := by
  unfold OwL
  have h0 : cellsL ([] : List α).length K (fun i j => f (([] : List α).getD i d) j) = [] := by simp [cellsL]
  rw [h0]
  exact World.ownsRow_nil _ _ _ _
theorem OwL.stay {α : Type} {e : TypeId} {K : Nat} {f : α → Nat → Value} {d : α} {w w' : World} {base b0 : Nat} {v : Value} {l : List α} (h : OwL e K f d w base v l) (q : Stay b0 w w') (hb : b0 ≤ base) : OwL e K f d w' base v l := own_stay h ⟨q.size, fun i h1 h2 => q.block i (Nat.le_trans hb h1) h2⟩
theorem OwL.lt {α : Type} {e : TypeId} {K : Nat} {f : α → Nat → Value} {d : α} {w : World} {base : Nat} {v : Value} {l : List α} (h : OwL e K f d w base v l) : ∀ g, v.ownBlock = some g → base ≤ g ∧ g < w.heap.size := own_lt h
theorem OwL.keptR {α : Type} {e : TypeId} {K : Nat} {f : α → Nat → Value} {d : α} {w w' : World} {base : Nat} {v : Value} {l : List α} {r : Option Nat} (h : OwL e K f d w base v l) (q : Kept w w' r) (hr : ∀ g, r = some g → g < base ∨ w.heap.size ≤ g) : OwL e K f d w' base v l := own_keptR' h q (fun g hg ec => by
  have h1 := own_lt h g hg
  rcases hr g ec.symm with q | q <;> omega)
theorem OwL.lie {α : Type} {e : TypeId} {K : Nat} {f : α → Nat → Value} {d : α} {w : World} {base : Nat} {v : Value} {l : List α} (h : OwL e K f d w base v l) (hK : 0 < K) : ∃ a c, v = .slice a l.length c ∧ Lie w a l.length K (fun i j => f (l.getD i d) j) ∧ Cap a l.length c ∧ ∀ b, a = some b → base ≤ b.block ∧ b.block < w.heap.size := by
  obtain ⟨a, c, e1, h1, h2, h3⟩ := lie_own hK h
  exact ⟨a, c, e1, h1, h2, h3⟩
theorem getD_snocL {α : Type} (l : List α) (x d : α) (i : Nat) : (l ++ [x]).getD i d = if i = l.length then x else l.getD i d := by
  by_cases h : i = l.length
  · subst h; simp
  · rw [if_neg h]
    by_cases h2 : i < l.length
    · simp [h2, List.getElem?_append_left]
    · rw [List.getD_eq_getElem?_getD, List.getD_eq_getElem?_getD, List.getElem?_eq_none (by simp; omega), List.getElem?_eq_none (by omega)]
/-- One more behind. -/
theorem OwL.grow {α : Type} {e t : TypeId} {K : Nat} {f : α → Nat → Value} {d : α} {w : World} {base : Nat} {v : Value} {l : List α} (h : OwL e K f d w base v l) (x : α) {cs : Array Value} (hcs : ∀ j, j < K → cs[j]? = some (f x j)) {inf : TypeInfo} {z : Value} {bytes : Nat} (ht : Try.prog.underlying t = some (.slice e)) (hi : Try.prog.info? e = some inf) (hz : inf.zero = some z) (hsize : inf.size = K) (hby : inf.bytes = bytes) (hzs : z.cells.size = K) (hK : 0 < K) (hbb : bytes ≤ 1000) (h1 : ∀ j, (f x j).oneCell' = true) (hn : l.length ≤ 40) (hb : base ≤ w.heap.size) :
    ∃ a' c' w', (Builtin.append_ #[t, t] t #[v, .slice (some ⟨w.heap.size, 0, none⟩) 1 1]).run Try.prog (w.alloc (.cells cs e)) = .ok (.slice a' (l.length + 1) c') w' ∧ OwL e K f d w' base (.slice a' (l.length + 1) c') (l ++ [x]) ∧ Kept w w' v.ownBlock := by
  have hk : Kept w (w.alloc (.cells cs e)) none := Kept.alloc _ _ _ _ _
  have hz4 : (w.alloc (.cells cs e)).heap.size = w.heap.size + 1 := by simp
  have hc : ∀ j, j < K → (w.alloc (.cells cs e)).cell? ⟨w.heap.size, 0 + j, none⟩ = some (f x j) := fun j hj => by
    rw [Nat.zero_add]
    exact alloc_at2 _ _ _ rfl (hcs j hj)
  have own4 : (w.alloc (.cells cs e)).ownsRow base e K v l.length (cellsL l.length K (fun i j => f (l.getD i d) j)) := own_keptR' h hk (fun g _ => by simp)
  obtain ⟨v', w', hr, g1, g2, g3⟩ := grow_run (t := t) (ty := t) (c := 1) ht hi hz hsize hby hzs hK hbb own4 hc h1 (by omega) (by omega)
  obtain ⟨a', c', rfl, _⟩ := lie_own hK g1
  refine ⟨a', c', w', hr, ?_, ?_⟩
  · unfold OwL
    rw [List.length_append]
    have he : cellsL (l.length + 1) K (fun i j => if i = l.length then f x j else f (l.getD i d) j) = cellsL (l.length + [x].length) K (fun i j => f ((l ++ [x]).getD i d) j) := by
      show cellsL (l.length + 1) K _ = cellsL (l.length + 1) K _
      unfold cellsL
      refine List.map_congr_left fun q _ => ?_
      show (if q / K = l.length then f x (q % K) else f (l.getD (q / K) d) (q % K)) = f ((l ++ [x]).getD (q / K) d) (q % K)
      rw [getD_snocL]
      split <;> rfl
    rw [← he]
    exact g1
  · have h2 : Kept (w.alloc (.cells cs e)) w' v.ownBlock := g2
    exact ⟨h2.os.trans hk.os, h2.tape.trans hk.tape, h2.output.trans hk.output, Nat.le_trans hk.size h2.size, fun i hi hne => (h2.block i (Nat.lt_of_lt_of_le hi hk.size) hne).trans (hk.block i hi (by simp))⟩

/-! ### What is read of a site's own bytes -/
/-- A site whose numbers the document's reader takes. -/
structure DSok (S : St) : Prop where
  id : 0 ≤ S.id ∧ S.id ≤ 65535
  gn : S.groups.length ≤ 16
  gr : ∀ g ∈ S.groups, g.kind ≤ 2 ∧ tickP g.min ∧ tickP g.yellow
  an : S.apart.length = S.groups.length
  ap : ∀ x ∈ S.apart, x ≤ 65536
  bn : S.between.length = S.groups.length
  bt : ∀ l ∈ S.between, l.length = S.groups.length ∧ ∀ x ∈ l, tickP x
  pn : S.phases.length ≤ 8
  ph : ∀ p ∈ S.phases, p.groups ≤ 65536 ∧ tickP p.min ∧ tickP p.max ∧ tickP p.gap
  en : S.eyes.length ≤ 24
  ey : ∀ e ∈ S.eyes, (0 ≤ e.phase ∧ e.phase ≤ 8) ∧ tickP e.on ∧ tickP e.off ∧ (0 ≤ e.turns ∧ e.turns ≤ 64)
  own : tickP S.watch ∧ tickP S.feed ∧ tickP S.heal ∧ tickP S.low ∧ tickP S.high
  pl : DPok S.plans
def tl6 (S : St) (T : List Nat) : List Nat := smlI (plansI S.plans) ++ T
def tl5 (S : St) (T : List Nat) : List Nat := sml S.watch.toNat ++ (sml S.feed.toNat ++ (sml S.heal.toNat ++ (sml S.low.toNat ++ (sml S.high.toNat ++ tl6 S T))))
def tl4 (S : St) (T : List Nat) : List Nat := sml S.eyes.length ++ (S.eyes.flatMap (fun e => smlI (eyI e)) ++ tl5 S T)
def tl3 (S : St) (T : List Nat) : List Nat := sml S.phases.length ++ (S.phases.flatMap (fun p => smlI (phI p)) ++ tl4 S T)
/-- What a reader knows of bytes that a site makes: behind some of a list's elements. -/
def LG {α : Type} (src : St → List α) (enc : α → List Nat) (tl : St → List Nat → List Nat) (s : Rd) (i : Nat) (l : List α) (s' : Rd) : Prop := ∀ S T, DSok S → s = (siteL S ++ T, false) → i ≤ (src S).length ∧ l = (src S).take i ∧ s' = (((src S).drop i).flatMap enc ++ tl S T, false)
/-- A fact of such bytes. -/
def SG (s : Rd) (P : St → List Nat → Prop) : Prop := ∀ S T, DSok S → s = (siteL S ++ T, false) → P S T
theorem LG.step {α : Type} {src : St → List α} {enc : α → List Nat} {tl : St → List Nat → List Nat} {s s' s'' : Rd} {i : Nat} {l : List α} {y : α} (h : LG src enc tl s i l s') (hn : SG s (fun S _ => i < (src S).length)) (hf : ∀ S T x T', DSok S → s = (siteL S ++ T, false) → x ∈ src S → s' = (enc x ++ T', false) → y = x ∧ s'' = (T', false)) : LG src enc tl s (i + 1) (l ++ [y]) s'' := by
  intro S T hS hs
  obtain ⟨h1, h2, h3⟩ := h S T hS hs
  have hi := hn S T hS hs
  have hm : (src S)[i] ∈ src S := List.getElem_mem hi
  have ed : (src S).drop i = (src S)[i] :: (src S).drop (i + 1) := List.drop_eq_getElem_cons hi
  rw [ed, List.flatMap_cons, List.append_assoc] at h3
  obtain ⟨g1, g2⟩ := hf S T _ _ hS hs hm h3
  refine ⟨by omega, ?_, g2⟩
  rw [List.take_succ_eq_append_getElem hi, ← h2, g1]
theorem LG.out {α : Type} {src : St → List α} {enc : α → List Nat} {tl : St → List Nat → List Nat} {s s' : Rd} {i : Nat} {l : List α} (h : LG src enc tl s i l s') {n : Nat} (hn : SG s (fun S _ => n = (src S).length)) (hi : i = n ∨ s'.2 = true) : SG s (fun S T => l = src S ∧ s' = (tl S T, false)) := by
  intro S T hS hs
  obtain ⟨h1, h2, h3⟩ := h S T hS hs
  have h4 : n = (src S).length := hn S T hS hs
  have hin : i = (src S).length := by
    rcases hi with q | q
    · omega
    · rw [h3] at q; cases q
  refine ⟨by rw [h2, hin, List.take_length], ?_⟩
  rw [h3, hin, List.drop_length]
  simp
end Go.Proofs.Ytlabjamkaebnjaa

/-
  Of the text DsS: what this stage needs (culled by a program).
-/
namespace Go.Proofs.Ytlabjamkaebnjaa
open Go.RowKit Go.Lib Go.Deep
set_option linter.unusedVariables false
set_option linter.unusedSimpArgs false

abbrev zD : Array Value := #[.int .i64 0, .slice none 0 0, .slice none 0 0, .slice none 0 0, .slice none 0 0, .slice none 0 0, .int .i64 0, .int .i64 0, .int .i64 0, .int .i64 0, .int .i64 0, .slice none 0 0]
structure Dst (w wr : World) (H b R G : Nat) (s' : Rd) (c : Array Value) : Prop where
  kept : Kept w wr (some b)
  rd : Drd wr H b s'
  rb : wr.rowIs R 60 12 (fSZ zD)
  gb : wr.rowIs G 60 12 (fSZ c)
  hR : w.heap.size ≤ R
  RG : R < G
  Gz : G < wr.heap.size
  hH : H ≤ w.heap.size
theorem Dst.row {w wr w' : World} {H b R G : Nat} {s' : Rd} {c : Array Value} {r : Option Nat} (h : Dst w wr H b R G s' c) (k : Kept wr w' r) (hr : ∀ g, r = some g → G < g) : Dst w w' H b R G s' c := by
  have h2 := h.hH
  have h3 := h.hR
  have h4 := h.RG
  exact ⟨kept_two h.kept k (fun g e => by have := hr g e; exact .inr (by omega)), h.rd.kept k (fun g e => by have := hr g e; omega), row_kept h.rb k (fun e => by have := hr R e.symm; omega), row_kept h.gb k (fun e => by have := hr G e.symm; omega), h.hR, h.RG, Nat.lt_of_lt_of_le h.Gz k.size, h.hH⟩
theorem Dst.put {w wr : World} {H b R G : Nat} {s' : Rd} {c : Array Value} (h : Dst w wr H b R G s' c) (j : Nat) (v : Value) (hj : j < c.size) : Dst w (wr.setCell ⟨G, j, none⟩ v) H b R G s' (c.setIfInBounds j v) := by
  have h2 := h.hH
  have h3 := h.hR
  have h4 := h.RG
  exact ⟨kept_two h.kept (dkept_set wr G j v) (fun g e => by injection e with e; exact .inr (by omega)), h.rd.kept (dkept_set wr G j v) (fun g e => by injection e with e; omega), h.rb.setOther (by show R ≠ G; omega) v, (h.gb.set j v).congr (fun i _ => fSZ_set c j v hj i), h.hR, h.RG, by simpa [World.setCell] using h.Gz, h.hH⟩
theorem Dst.box {w wr w' : World} {H b R G : Nat} {s' : Rd} {c : Array Value} (h : Dst w wr H b R G s' c) {g j : Nat} (hg : G < g) (v : Value) : Dst w (wr.setCell ⟨g, j, none⟩ v) H b R G s' c := h.row (dkept_set wr g j v) (fun x e => by injection e with e; omega)

theorem Stay.trans {base : Nat} {a b c : World} (h : Stay base a b) (k : Stay base b c) : Stay base a c := ⟨Nat.le_trans h.size k.size, fun i h1 h2 => (k.block i h1 (Nat.lt_of_lt_of_le h2 h.size)).trans (h.block i h1 h2)⟩
/-- Within one element: from the world wr on. -/
structure Dit (w wr X : World) (H b R G : Nat) (s' : Rd) (c : Array Value) : Prop where
  st : Dst w X H b R G s' c
  it : Stay (G + 1) wr X
theorem Dit.start {w wr : World} {H b R G : Nat} {s' : Rd} {c : Array Value} (h : Dst w wr H b R G s' c) : Dit w wr wr H b R G s' c := ⟨h, Stay.refl _ _⟩
theorem Dit.new {w wr X X' : World} {H b R G : Nat} {s' : Rd} {c : Array Value} (h : Dit w wr X H b R G s' c) (k : Kept X X' none) : Dit w wr X' H b R G s' c := ⟨h.st.row k (fun g e => by cases e), h.it.step k (fun g e => by cases e)⟩
theorem Dit.box {w wr X : World} {H b R G : Nat} {s' : Rd} {c : Array Value} (h : Dit w wr X H b R G s' c) {g : Nat} (hg : wr.heap.size ≤ g) (hG : G < wr.heap.size) (j : Nat) (v : Value) : Dit w wr (X.setCell ⟨g, j, none⟩ v) H b R G s' c := ⟨h.st.row (dkept_set X g j v) (fun x e => by injection e with e; omega), h.it.step (dkept_set X g j v) (fun x e => by injection e with e; exact .inr (by omega))⟩
/-- A box of some cells. -/
theorem bxK_alloc (w : World) (c : Array Value) (t : TypeId) : (w.alloc (.cells c t)).rowIs w.heap.size t c.size (fSZ c) := World.rowIs_alloc w c t _ (fun i hi => by unfold fSZ; rw [Array.getElem?_eq_getElem hi]; rfl)
theorem bxK_set {w : World} {B n : Nat} {t : TypeId} {c : Array Value} (h : w.rowIs B t n (fSZ c)) (j : Nat) (v : Value) (hj : j < c.size) : (w.setCell ⟨B, j, none⟩ v).rowIs B t n (fSZ (c.setIfInBounds j v)) := (h.set j v).congr (fun i _ => fSZ_set c j v hj i)

/-! ### A loop's end -/
/-- A loop is left by its own exit, and then ... -/
def ExL (id : Nat) (P : Act → World → Prop) : Exit → Act → World → Prop
  | .exit j, a, w => j = id ∧ P a w
  | _, _, _ => False
theorem ExL.out {id : Nat} {P : Act → World → Prop} {e : Exit} {a : Act} {w : World} (h : ExL id P e a w) : e = .exit id ∧ P a w := by
  cases e with
  | exit j => obtain ⟨rfl, h2⟩ := h; exact ⟨rfl, h2⟩
  | _ => exact h.elim

end Go.Proofs.Ytlabjamkaebnjaa

/-
  Of the text GrG: what this stage needs (culled by a program).
-/
namespace Go.Proofs.Ytlabjamkaebnjaa
open Go.RowKit Go.Lib Go.Deep
set_option linter.unusedVariables false
set_option linter.unusedSimpArgs false

/-- A list of lists of numbers of one's own. -/
structure GrS (wr : World) (base : Nat) (v : Value) (l : List (List Int)) : Prop where
  ex : ∃ r : Nat → Option Addr × Nat, wr.ownsRow base 61 1 v l.length (cellsL l.length 1 (fun i _ => .slice (r i).1 (l.getD i []).length (r i).2)) ∧ (∀ i, i < l.length → Ints wr (r i).1 (l.getD i []).length (r i).2 (l.getD i [])) ∧ (∀ i, i < l.length → ∀ b, (r i).1 = some b → v.ownBlock ≠ some b.block ∧ b.block < wr.heap.size ∧ base ≤ b.block)
theorem GrS.nil (w : World) (base : Nat) : GrS w base (.slice none 0 0) [] := ⟨⟨fun _ => (none, 0), World.ownsRow_nil _ _ _ _, fun i hi => by simp at hi, fun i hi => by simp at hi⟩⟩
theorem GrS.stay {w w' : World} {base : Nat} {v : Value} {l : List (List Int)} (h : GrS w base v l) (q : Stay base w w') : GrS w' base v l := by
  obtain ⟨r, h1, h2, h3⟩ := h.ex
  exact ⟨⟨r, own_stay h1 q, fun i hi => (h2 i hi).stay q (fun b e => (h3 i hi b e).2.2), fun i hi b e => ⟨(h3 i hi b e).1, Nat.lt_of_lt_of_le (h3 i hi b e).2.1 q.size, (h3 i hi b e).2.2⟩⟩⟩
theorem GrS.lt {w : World} {base : Nat} {v : Value} {l : List (List Int)} (h : GrS w base v l) : ∀ g, v.ownBlock = some g → base ≤ g ∧ g < w.heap.size := by
  obtain ⟨r, h1, _, _⟩ := h.ex
  exact own_lt h1
theorem GrS.shape {w : World} {base : Nat} {v : Value} {l : List (List Int)} (h : GrS w base v l) : ∃ a c, v = .slice a l.length c := by
  obtain ⟨r, h1, _, _⟩ := h.ex
  obtain ⟨a, c, e, _⟩ := lie_own (by omega) h1
  exact ⟨a, c, e⟩
theorem getD_snocG (l : List (List Int)) (p : List Int) (i : Nat) : (l ++ [p]).getD i [] = if i = l.length then p else l.getD i [] := by
  by_cases h : i = l.length
  · subst h; simp
  · rw [if_neg h]
    by_cases h2 : i < l.length
    · simp [h2, List.getElem?_append_left]
    · rw [List.getD_eq_getElem?_getD, List.getD_eq_getElem?_getD, List.getElem?_eq_none (by simp; omega), List.getElem?_eq_none (by omega)]
theorem GrS.grow {W : World} {base : Nat} {v : Value} {l : List (List Int)} {p : List Int} {a' : Option Addr} {cap : Nat} (h : GrS W base v l) (hI : Ints W a' p.length cap p) (hb : ∀ b, a' = some b → v.ownBlock ≠ some b.block ∧ b.block < W.heap.size ∧ base ≤ b.block) (hk : l.length ≤ 40) (hbase : base ≤ W.heap.size) :
    ∃ v' W5, (Builtin.append_ #[56, 56] 56 #[v, .slice (some ⟨W.heap.size, 0, none⟩) 1 1]).run Try.prog (W.alloc (slB a' p.length cap)) = .ok v' W5 ∧ GrS W5 base v' (l ++ [p]) ∧ Kept W W5 v.ownBlock := by
  obtain ⟨r, ho, hi, hbb⟩ := h.ex
  obtain ⟨i0, hi0, hz0, hz1, hz2⟩ := info_parts Try.infoSl
  have k4 : Kept W (W.alloc (slB a' p.length cap)) none := Kept.alloc _ _ _ _ _
  have z4 : (W.alloc (slB a' p.length cap)).heap.size = W.heap.size + 1 := by simp
  have q0' : ∀ j, j < 1 → (W.alloc (slB a' p.length cap)).cell? ⟨W.heap.size, 0 + j, none⟩ = some (.slice a' p.length cap) := fun j hj => by
    have : j = 0 := by omega
    subst this
    exact alloc_at2 _ _ _ rfl rfl
  generalize W.alloc (slB a' p.length cap) = W4 at *
  have own4 := own_keptR' ho k4 (fun g _ => by simp)
  obtain ⟨v', W5, hr, g1, g2, g3⟩ := grow_run (t := 56) (ty := 56) (c := 1) Try.uSls hi0 hz0 hz1 hz2 rfl (by omega) (by omega) (g := fun _ => .slice a' p.length cap) own4 q0' (fun j => rfl) (by omega) (by omega)
  have g2' : Kept W4 W5 v.ownBlock := g2
  have hk45 : Kept W W5 v.ownBlock := ⟨g2'.os.trans k4.os, g2'.tape.trans k4.tape, g2'.output.trans k4.output, Nat.le_trans k4.size g2'.size, fun i hi hne => (g2'.block i (Nat.lt_of_lt_of_le hi k4.size) hne).trans (k4.block i hi (by simp))⟩
  have vfr : ∀ g, v'.ownBlock = some g → v.ownBlock = some g ∨ W.heap.size ≤ g := fun g hg => by
    rcases g3 with e | e
    · exact .inl (e.symm.trans hg)
    · rw [e] at hg; injection hg with hg; exact .inr (by omega)
  refine ⟨v', W5, hr, ⟨⟨fun i => if i = l.length then (a', cap) else r i, ?_, fun i hik => ?_, fun i hik b e => ?_⟩⟩, hk45⟩
  · rw [List.length_append]
    have he : cellsL (l.length + 1) 1 (fun i _ => if i = l.length then Value.slice a' p.length cap else .slice (r i).1 (l.getD i []).length (r i).2) = cellsL (l.length + [p].length) 1 (fun i _ => Value.slice ((if i = l.length then (a', cap) else r i) : Option Addr × Nat).1 ((l ++ [p]).getD i []).length ((if i = l.length then (a', cap) else r i) : Option Addr × Nat).2) := by
      show cellsL (l.length + 1) 1 _ = cellsL (l.length + 1) 1 _
      unfold cellsL
      refine List.map_congr_left fun q _ => ?_
      show (if q / 1 = l.length then Value.slice a' p.length cap else .slice (r (q / 1)).1 (l.getD (q / 1) []).length (r (q / 1)).2) = .slice ((if q / 1 = l.length then (a', cap) else r (q / 1)) : Option Addr × Nat).1 ((l ++ [p]).getD (q / 1) []).length ((if q / 1 = l.length then (a', cap) else r (q / 1)) : Option Addr × Nat).2
      rw [getD_snocG]
      by_cases e : q / 1 = l.length
      · rw [if_pos e, if_pos e, if_pos e]
      · rw [if_neg e, if_neg e, if_neg e]
    rw [← he]
    exact g1
  · rw [getD_snocG]
    by_cases e : i = l.length
    · rw [if_pos e]
      simp only [if_pos e]
      exact hI.keptS hk45 (fun b eb ec => (hb b eb).1 ec.symm)
    · rw [if_neg e]
      simp only [if_neg e]
      have hil : i < l.length := by rw [List.length_append] at hik; simp at hik; omega
      exact (hi i hil).keptS hk45 (fun b eb ec => (hbb i hil b eb).1 ec.symm)
  · have hs5 := hk45.size
    by_cases ei : i = l.length
    · simp only [if_pos ei] at e
      obtain ⟨p1, p2, p3⟩ := hb b e
      exact ⟨fun ec => by rcases vfr _ ec with q | q; exact p1 q; omega, by omega, p3⟩
    · simp only [if_neg ei] at e
      have hil : i < l.length := by rw [List.length_append] at hik; simp at hik; omega
      obtain ⟨p1, p2, p3⟩ := hbb i hil b e
      exact ⟨fun ec => by rcases vfr _ ec with q | q; exact p1 q; omega, by omega, p3⟩
/-- Within one row. -/
def RG (s : Rd) (n i k : Nat) (sp : List Int) (s' : Rd) : Prop := ∀ S T, DSok S → s = (siteL S ++ T, false) → i < S.between.length ∧ n = (S.between.getD i []).length ∧ sp = (S.between.getD i []).take k ∧ s' = (smlI ((S.between.getD i []).drop k) ++ ((S.between.drop (i + 1)).flatMap smlI ++ tl3 S T), false)
theorem RG.start {s s' : Rd} {n i : Nat} {l : List (List Int)} (h : LG St.between smlI tl3 s i l s') (hn : SG s (fun S _ => n = S.between.length ∧ n = S.groups.length)) (hi : i < n) : RG s n i 0 [] s' := by
  intro S T hS hs
  obtain ⟨h1, h2, h3⟩ := h S T hS hs
  obtain ⟨h4, h5⟩ := hn S T hS hs
  have hix : i < S.between.length := by omega
  have e : S.between.getD i [] = S.between[i] := by simp [hix]
  have hb := hS.bt _ (List.getElem_mem hix)
  refine ⟨hix, by rw [e]; omega, rfl, ?_⟩
  rw [h3, e, List.drop_eq_getElem_cons hix, List.flatMap_cons, List.append_assoc]
  rfl
theorem RG.step {s s' s2 : Rd} {n i k y : Nat} {sp : List Int} (h : RG s n i k sp s') (hk : k < n) (e : dnM 1048576 s' = (y, s2)) : RG s n i (k + 1) (sp ++ [(y : Int)]) s2 := by
  intro S T hS hs
  obtain ⟨h1, h2, h3, h4⟩ := h S T hS hs
  have er : S.between.getD i [] = S.between[i] := by simp [h1]
  have hb := hS.bt _ (List.getElem_mem h1)
  rw [er] at h2 h3 h4 ⊢
  generalize S.between[i] = row at *
  have hkp : k < row.length := by omega
  have ht := hb.2 _ (List.getElem_mem hkp)
  unfold tickP at ht
  have ed : row.drop k = row[k] :: row.drop (k + 1) := List.drop_eq_getElem_cons hkp
  have e' : smlI (row[k] :: row.drop (k + 1)) = sml (row[k]).toNat ++ smlI (row.drop (k + 1)) := by unfold smlI; rw [List.flatMap_cons]
  rw [h4, ed, e', List.append_assoc, dn_fwd (by omega) (by omega)] at e
  injection e with a1 a2
  refine ⟨h1, h2, ?_, a2.symm⟩
  rw [List.take_succ_eq_append_getElem hkp, ← h3, ← a1]
  have hy : ((row[k].toNat : Nat) : Int) = row[k] := by omega
  rw [hy]
theorem RG.out {s s' s2 : Rd} {n i : Nat} {l : List (List Int)} {sp : List Int} (h : RG s n i n sp s2) (h0 : LG St.between smlI tl3 s i l s') : LG St.between smlI tl3 s (i + 1) (l ++ [sp]) s2 := by
  intro S T hS hs
  obtain ⟨h1, h2, h3, h4⟩ := h S T hS hs
  obtain ⟨g1, g2, g3⟩ := h0 S T hS hs
  have er : S.between.getD i [] = S.between[i] := by simp [h1]
  rw [h2, List.take_length, er] at h3
  rw [h2, List.drop_length] at h4
  refine ⟨by omega, ?_, ?_⟩
  · rw [List.take_succ_eq_append_getElem h1, ← g2, h3]
  · rw [h4]; simp [smlI]

/-! ### The end -/
/-- The result's cells, one by one. -/
structure Dre (w w0 wr : World) (H b R G : Nat) (s' : Rd) (c : Array Value) : Prop where
  kept : Kept w wr (some b)
  rd : Drd wr H b s'
  rb : wr.rowIs R 60 12 (fSZ c)
  st : Stay (G + 1) w0 wr
  hR : w.heap.size ≤ R
  RG : R < G
  hH : H ≤ w.heap.size
theorem Dre.start {w wr : World} {H b R G : Nat} {s' : Rd} {c : Array Value} (h : Dst w wr H b R G s' c) : Dre w wr wr H b R G s' zD := ⟨h.kept, h.rd, h.rb, Stay.refl _ _, h.hR, h.RG, h.hH⟩
theorem Dre.put {w w0 wr : World} {H b R G : Nat} {s' : Rd} {c : Array Value} (h : Dre w w0 wr H b R G s' c) (j : Nat) (v : Value) (hj : j < c.size) : Dre w w0 (wr.setCell ⟨R, j, none⟩ v) H b R G s' (c.setIfInBounds j v) := by
  have h2 := h.hH
  have h3 := h.hR
  have h4 := h.RG
  exact ⟨kept_two h.kept (dkept_set wr R j v) (fun g e => by injection e with e; exact .inr (by omega)), h.rd.kept (dkept_set wr R j v) (fun g e => by injection e with e; omega), bxK_set h.rb j v hj, h.st.step (dkept_set wr R j v) (fun g e => by injection e with e; exact .inl (by omega)), h.hR, h.RG, h.hH⟩
theorem setD12 (v0 v1 v2 v3 v4 v5 v6 v7 v8 v9 v10 v11 : Value) : ((((((((((((zD.setIfInBounds 0 v0).setIfInBounds 1 v1).setIfInBounds 2 v2).setIfInBounds 3 v3).setIfInBounds 4 v4).setIfInBounds 5 v5).setIfInBounds 6 v6).setIfInBounds 7 v7).setIfInBounds 8 v8).setIfInBounds 9 v9).setIfInBounds 10 v10).setIfInBounds 11 v11) = #[v0, v1, v2, v3, v4, v5, v6, v7, v8, v9, v10, v11] := by simp only [zD, List.setIfInBounds_toArray, List.set_cons_zero, List.set_cons_succ]
theorem Dre.all {w wx : World} {H b R G : Nat} {s' : Rd} {c : Array Value} (h : Dst w wx H b R G s' c) (v0 v1 v2 v3 v4 v5 v6 v7 v8 v9 v10 v11 : Value) : Dre w wx ((((((((((((wx.setCell ⟨R, 0, none⟩ v0).setCell ⟨R, 1, none⟩ v1).setCell ⟨R, 2, none⟩ v2).setCell ⟨R, 3, none⟩ v3).setCell ⟨R, 4, none⟩ v4).setCell ⟨R, 5, none⟩ v5).setCell ⟨R, 6, none⟩ v6).setCell ⟨R, 7, none⟩ v7).setCell ⟨R, 8, none⟩ v8).setCell ⟨R, 9, none⟩ v9).setCell ⟨R, 10, none⟩ v10).setCell ⟨R, 11, none⟩ v11) H b R G s' #[v0, v1, v2, v3, v4, v5, v6, v7, v8, v9, v10, v11] := by
  have e := ((((((((((((Dre.start h).put 0 v0 (by simp)).put 1 v1 (by simp)).put 2 v2 (by simp)).put 3 v3 (by simp)).put 4 v4 (by simp)).put 5 v5 (by simp)).put 6 v6 (by simp)).put 7 v7 (by simp)).put 8 v8 (by simp)).put 9 v9 (by simp)).put 10 v10 (by simp)).put 11 v11 (by simp)
  rw [setD12] at e
  exact e
end Go.Proofs.Ytlabjamkaebnjaa

/-
  Of the text RefG2: what this stage needs (culled by a program).
-/
namespace Go.Proofs.Ytlabjamkaebnjaa
open Go.RowKit Go.Lib Go.Deep
set_option linter.unusedVariables false
set_option linter.unusedSimpArgs false

def Rg (A : Act) (W : World) (e : Exit) (a : Act) (w : World) : Prop := match e with
  | .normal => a = A ∧ Kept W w none
  | _ => False
theorem Rg.out {A : Act} {W w : World} {e : Exit} {a : Act} (h : Rg A W e a w) : e = .normal ∧ a = A ∧ Kept W w none := by
  cases e with
  | normal => exact ⟨rfl, h.1, h.2⟩
  | _ => exact h.elim
end Go.Proofs.Ytlabjamkaebnjaa

/-
  Of the text RefPt: what this stage needs (culled by a program).
-/
namespace Go.Proofs.Ytlabjamkaebnjaa
open Go.RowKit Go.Lib Go.Deep
set_option linter.unusedVariables false
set_option linter.unusedSimpArgs false

/-- What the document's Parts answers. -/
def DPartsP (w : World) (L : List Nat) (e : Ending) (w' : World) : Prop := Kept w w' none ∧ ((partsB L = true ∧ ∃ a c, e = .returned (.tuple #[.slice a (plansM (L, false)).1.length c, .int .i64 0]) ∧ Plans w' a (plansM (L, false)).1.length c (plansM (L, false)).1) ∨ (partsB L = false ∧ e = .returned (.tuple #[.slice none 0 0, .int .i64 8])))
theorem dpok_whole {l : List Pl} (h : wholeE l = 0) : DPok l ∧ wholeL l = smlI (plansI l) := by
  have h8 : l.length ≤ 8 := by
    unfold wholeE at h
    split at h
    · omega
    · omega
  have hm : mayL l = true := by
    unfold wholeE at h
    rw [if_neg (by omega)] at h
    split at h
    · assumption
    · omega
  refine ⟨⟨h8, fun p hp => ?_⟩, by unfold wholeL; rw [if_pos h]⟩
  obtain ⟨h1, h2, h3, h4⟩ := may_parts (mayL_iff.1 hm p hp)
  unfold tickP
  exact ⟨by omega, by omega, by omega, fun x hx => by have := h4 x hx; omega⟩
theorem wholeL_lt (l : List Pl) : ∀ x ∈ wholeL l, x < 256 := by
  unfold wholeL
  split
  · exact smlI_lt _
  · intro x hx; cases hx
/-- What is not the bytes of plans is told by none of the reader's ways. -/
theorem dparts_no {w0 w2 : World} {H b : Nat} {L : List Nat} {v : Value} {l : List Pl} {s' : Rd} (hL : ∀ x ∈ L, x < 256) (h : PlsP w0 H b (L, false) v w2 l s') (hb : s'.2 = true ∨ wholeE l ≠ 0 ∨ wholeL l ≠ L) : partsB L = false := by
  cases hr : partsB L with
  | false => rfl
  | true =>
    exfalso
    obtain ⟨h1, h2⟩ := whole_parts hL hr
    obtain ⟨d1, d2⟩ := dpok_whole h1
    obtain ⟨e1, e2⟩ := h.fwd (plansM (L, false)).1 [] d1 (by rw [List.append_nil, ← d2, h2])
    subst e1
    subst e2
    rcases hb with q | q | q
    · cases q
    · exact q h1
    · exact q h2
set_option maxRecDepth 100000 in
set_option maxHeartbeats 4000000 in
theorem dparts_any {w : World} {a : Option Addr} {n c : Nat} {L : List Nat} (h : Come w a n c L) : Calls Try.prog 58 #[.slice a n c] w (DPartsP w L) := by
  have HBY := Hid.mk' h.by_
  have HLT := Hid.mk' h.by_.lt
  have kA : Kept w (w.alloc (.cells #[.slice a n c, .bool false] 135)) none := Kept.alloc _ _ _ _ _
  have qB := bxK_alloc w #[.slice a n c, .bool false] 135
  have hlt : ∀ x, a = some x → 0 < n → x.block < w.heap.size := fun x hx hn => by
    obtain ⟨bb, oo, e, hb, _⟩ := h.by_.at_ hn
    rw [hx] at e
    injection e with e
    rw [e]; exact hb
  have hD : Drd (w.alloc (.cells #[.slice a n c, .bool false] 135)) (w.heap.size + 1) w.heap.size (L, false) := ⟨⟨a, n, c, qB.cell (i := 0) (by simp), ⟨h.by_.kept kA, h.nil, h.room, h.max⟩, fun hp x hx => by have := hlt x hx hp; omega⟩, qB.cell (i := 1) (by simp), qB.frozen 0, qB.frozen 1, by omega⟩
  have zA : (w.alloc (.cells #[.slice a n c, .bool false] 135)).heap.size = w.heap.size + 1 := by simp
  obtain ⟨WA, hWA⟩ : ∃ WA, w.alloc (.cells #[.slice a n c, .bool false] 135) = WA := ⟨_, rfl⟩
  rw [hWA] at kA hD zA
  have HD := Hid.mk' hD
  have HK := Hid.mk' kA
  have HZ := Hid.mk' zA
  clear h kA qB hlt hD zA
  go_enter Try.func58, Try.ntmps58
  go_wp2_with (first | rw [hWA])
  go_at_call 78
  refine (rplans_any HD.out (by rw [HZ.out]; exact Nat.le_refl _)).mono ?_
  rintro e w2 ⟨v, l, s', rfl, hP⟩
  obtain ⟨a2, c2, hv, hPl⟩ := hP.pl.plans (fun p hp => by have := hP.typ p hp; unfold tickP at this; unfold i64B; omega)
  subst hv
  have rb := hP.rd.c1
  have HP := Hid.mk' hP
  have HPL := Hid.mk' hPl
  have K02 : Hid (Kept w w2 none) := kept_two HK.out hP.kept (fun g e => by injection e with e; exact .inr (by omega))
  have HBD := Hid.mk' (dparts_no HLT.out hP)
  have HTX := Hid.mk' (textOf_eq (wholeL_lt l) HLT.out)
  obtain ⟨sl, sb⟩ := s'
  dsimp only at rb HBD
  clear hP hPl hWA
  cases sb with
  | true =>
    have HB := Hid.mk' (HBD.out (.inl rfl))
    go_wp2
    go_ret2
    exact ⟨K02.out, .inr ⟨HB.out, rfl⟩⟩
  | false =>
    go_wp2_with (fail)
    go_at_call 50
    refine (rwhole_any HPL.out).mono ?_
    rintro e w3 ⟨a3, c3, rfl, hm3, hk3⟩
    have t1 := run_text (hm3.by (wholeL_lt l)) c3
    have t2 := run_text (HBY.out.kept (K02.out.tr hk3)) c
    by_cases hE : wholeE l = 0
    · by_cases hw : wholeL l = L
      · have ht : ((textOf (wholeL l)).toList == (textOf L).toList) = true := by rw [HTX.out]; exact decide_eq_true hw
        have HGD : Hid (DPartsP w L (.returned (.tuple #[.slice a2 l.length c2, .int .i64 0])) w3) := by
          show DPartsP _ _ _ _
          obtain ⟨p1, p2⟩ := parts_whole hE
          rw [hw] at p1 p2
          refine ⟨K02.out.tr hk3, .inl ⟨p1, a2, c2, by rw [p2], ?_⟩⟩
          rw [p2]
          exact HPL.out.kept hk3
        rw [hE]
        generalize (wholeL l).length = q at *
        generalize textOf (wholeL l) = T1 at *
        generalize textOf L = T2 at *
        clear HTX hw HBD hm3 hE
        go_wp2
        go_ret2
        exact HGD.out
      · have HB := Hid.mk' (HBD.out (.inr (.inr hw)))
        have ht : ((textOf (wholeL l)).toList == (textOf L).toList) = false := by rw [HTX.out]; exact decide_eq_false hw
        rw [hE]
        generalize (wholeL l).length = q at *
        generalize textOf (wholeL l) = T1 at *
        generalize textOf L = T2 at *
        clear HTX hw HBD hm3 hE
        go_wp2
        go_ret2
        exact ⟨K02.out.tr hk3, .inr ⟨HB.out, rfl⟩⟩
    · have HB := Hid.mk' (HBD.out (.inr (.inl hE)))
      have hEb : (wholeE l != 0) = true := by simpa using hE
      generalize wholeE l = z at *
      generalize (wholeL l).length = q at *
      clear HBD hm3 hE t1 t2
      go_wp2
      go_ret2
      exact ⟨K02.out.tr hk3, .inr ⟨HB.out, rfl⟩⟩

end Go.Proofs.Ytlabjamkaebnjaa

