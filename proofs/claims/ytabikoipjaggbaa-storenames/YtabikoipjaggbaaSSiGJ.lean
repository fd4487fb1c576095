/-
  Texts joined: some of those that the proofs of this seat stand on.
-/
import Derived.Test.YtabikoipjaggbaaWorld
import Derived.Test.YtabikoipjaggbaaMaths
import Derived.Test.YtabikoipjaggbaaSPlGJ
import Derived.Test.YtabikoipjaggbaaSTwinDJ
import Derived.Test.YtabikoipjaggbaaCrcJ
import Derived.Test.YtabikoipjaggbaaSRefO2
import Derived.Test.YtabikoipjaggbaaSto3J
/-
  Of the text SiG: what this stage needs (culled by a program).
-/
namespace Go.Proofs.Ytabikoipjaggbaa
open Go.RowKit Go.Lib Go.Deep
set_option linter.unusedVariables false
set_option linter.unusedSimpArgs false

/-! ### Own lists -/
/-- A list of one's own: elements of K cells. -/
def OwL {α : Type} (e : TypeId) (K : Nat) (f : α → Nat → Value) (d : α) (w : World) (base : Nat) (v : Value) (l : List α) : Prop := w.ownsRow base e K v l.length (cellsL l.length K (fun i j => f (l.getD i d) j))
theorem OwL.nil {α : Type} (e : TypeId) (K : Nat) (f : α → Nat → Value) (d : α) (w : World) (base : Nat) : OwL e K f d w base (.slice none 0 0) [] := by
  unfold OwL
  have h0 : cellsL ([] : List α).length K (fun i j => f (([] : List α).getD i d) j) = [] := by simp [cellsL]
  rw [h0]
  exact World.ownsRow_nil _ _ _ _
theorem OwL.stay {α : Type} {e : TypeId} {K : Nat} {f : α → Nat → Value} {d : α} {w w' : World} {base b0 : Nat} {v : Value} {l : List α} (h : OwL e K f d w base v l) (q : Stay b0 w w') (hb : b0 ≤ base) : OwL e K f d w' base v l := own_stay h ⟨q.size, fun i h1 h2 => q.block i (Nat.le_trans hb h1) h2⟩
theorem OwL.lt {α : Type} {e : TypeId} {K : Nat} {f : α → Nat → Value} {d : α} {w : World} {base : Nat} {v : Value} {l : List α} (h : OwL e K f d w base v l) : ∀ g, v.ownBlock = some g → base ≤ g ∧ g < w.heap.size := own_lt h
theorem OwL.keptR {α : Type} {e : TypeId} {K : Nat} {f : α → Nat → Value} {d : α} {w w' : World} {base : Nat} {v : Value} {l : List α} {r : Option Nat} (h : OwL e K f d w base v l) (q : Kept w w' r) (hr : ∀ g, r = some g → g < base ∨ w.heap.size ≤ g) : OwL e K f d w' base v l := own_keptR' h q (fun g hg ec => by
  have h1 := own_lt h g hg
  rcases hr g ec.symm with q | q <;> omega)
theorem OwL.lie {α : Type} {e : TypeId} {K : Nat} {f : α → Nat → Value} {d : α} {w : World} {base : Nat} {v : Value} {l : List α} (h : OwL e K f d w base v l) (hK : 0 < K) : ∃ a c, v = .slice a l.length c ∧ Lie w a l.length K (fun i j => f (l.getD i d) j) ∧ Cap a l.length c ∧ ∀ b, a = some b → base ≤ b.block ∧ b.block < w.heap.size := by
  obtain ⟨a, c, e1, h1, h2, h3⟩ := lie_own hK h
  exact ⟨a, c, e1, h1, h2, h3⟩
theorem getD_snocL {α : Type} (l : List α) (x d : α) (i : Nat) : (l ++ [x]).getD i d = if i = l.length then x else l.getD i d := by
  by_cases h : i = l.length
  · subst h; simp
  · rw [if_neg h]
    by_cases h2 : i < l.length
    · simp [h2, List.getElem?_append_left]
    · rw [List.getD_eq_getElem?_getD, List.getD_eq_getElem?_getD, List.getElem?_eq_none (by simp; omega), List.getElem?_eq_none (by omega)]
/-- One more behind. -/
theorem OwL.grow {α : Type} {e t : TypeId} {K : Nat} {f : α → Nat → Value} {d : α} {w : World} {base : Nat} {v : Value} {l : List α} (h : OwL e K f d w base v l) (x : α) {cs : Array Value} (hcs : ∀ j, j < K → cs[j]? = some (f x j)) {inf : TypeInfo} {z : Value} {bytes : Nat} (ht : Try.prog.underlying t = some (.slice e)) (hi : Try.prog.info? e = some inf) (hz : inf.zero = some z) (hsize : inf.size = K) (hby : inf.bytes = bytes) (hzs : z.cells.size = K) (hK : 0 < K) (hbb : bytes ≤ 1000) (h1 : ∀ j, (f x j).oneCell' = true) (hn : l.length ≤ 40) (hb : base ≤ w.heap.size) :
    ∃ a' c' w', (Builtin.append_ #[t, t] t #[v, .slice (some ⟨w.heap.size, 0, none⟩) 1 1]).run Try.prog (w.alloc (.cells cs e)) = .ok (.slice a' (l.length + 1) c') w' ∧ OwL e K f d w' base (.slice a' (l.length + 1) c') (l ++ [x]) ∧ Kept w w' v.ownBlock := by
  have hk : Kept w (w.alloc (.cells cs e)) none := Kept.alloc _ _ _ _ _
  have hz4 : (w.alloc (.cells cs e)).heap.size = w.heap.size + 1 := by simp
  have hc : ∀ j, j < K → (w.alloc (.cells cs e)).cell? ⟨w.heap.size, 0 + j, none⟩ = some (f x j) := fun j hj => by
    rw [Nat.zero_add]
    exact alloc_at2 _ _ _ rfl (hcs j hj)
  have own4 : (w.alloc (.cells cs e)).ownsRow base e K v l.length (cellsL l.length K (fun i j => f (l.getD i d) j)) := own_keptR' h hk (fun g _ => by simp)
  obtain ⟨v', w', hr, g1, g2, g3⟩ := grow_run (t := t) (ty := t) (c := 1) ht hi hz hsize hby hzs hK hbb own4 hc h1 (by omega) (by omega)
  obtain ⟨a', c', rfl, _⟩ := lie_own hK g1
  refine ⟨a', c', w', hr, ?_, ?_⟩
  · unfold OwL
    rw [List.length_append]
    have he : cellsL (l.length + 1) K (fun i j => if i = l.length then f x j else f (l.getD i d) j) = cellsL (l.length + [x].length) K (fun i j => f ((l ++ [x]).getD i d) j) := by
      show cellsL (l.length + 1) K _ = cellsL (l.length + 1) K _
      unfold cellsL
      refine List.map_congr_left fun q _ => ?_
      show (if q / K = l.length then f x (q % K) else f (l.getD (q / K) d) (q % K)) = f ((l ++ [x]).getD (q / K) d) (q % K)
      rw [getD_snocL]
      split <;> rfl
    rw [← he]
    exact g1
  · have h2 : Kept (w.alloc (.cells cs e)) w' v.ownBlock := g2
    exact ⟨h2.os.trans hk.os, h2.tape.trans hk.tape, h2.output.trans hk.output, Nat.le_trans hk.size h2.size, fun i hi hne => (h2.block i (Nat.lt_of_lt_of_le hi hk.size) hne).trans (hk.block i hi (by simp))⟩

/-! ### What is read of a site's own bytes -/
/-- A site whose numbers the document's reader takes. -/
structure DSok (S : St) : Prop where
  id : 0 ≤ S.id ∧ S.id ≤ 65535
  gn : S.groups.length ≤ 16
  gr : ∀ g ∈ S.groups, g.kind ≤ 2 ∧ tickP g.min ∧ tickP g.yellow
  an : S.apart.length = S.groups.length
  ap : ∀ x ∈ S.apart, x ≤ 65536
  bn : S.between.length = S.groups.length
  bt : ∀ l ∈ S.between, l.length = S.groups.length ∧ ∀ x ∈ l, tickP x
  pn : S.phases.length ≤ 8
  ph : ∀ p ∈ S.phases, p.groups ≤ 65536 ∧ tickP p.min ∧ tickP p.max ∧ tickP p.gap
  en : S.eyes.length ≤ 24
  ey : ∀ e ∈ S.eyes, (0 ≤ e.phase ∧ e.phase ≤ 8) ∧ tickP e.on ∧ tickP e.off ∧ (0 ≤ e.turns ∧ e.turns ≤ 64)
  own : tickP S.watch ∧ tickP S.feed ∧ tickP S.heal ∧ tickP S.low ∧ tickP S.high
  pl : DPok S.plans
def tl6 (S : St) (T : List Nat) : List Nat := smlI (plansI S.plans) ++ T
def tl5 (S : St) (T : List Nat) : List Nat := sml S.watch.toNat ++ (sml S.feed.toNat ++ (sml S.heal.toNat ++ (sml S.low.toNat ++ (sml S.high.toNat ++ tl6 S T))))
def tl4 (S : St) (T : List Nat) : List Nat := sml S.eyes.length ++ (S.eyes.flatMap (fun e => smlI (eyI e)) ++ tl5 S T)
def tl3 (S : St) (T : List Nat) : List Nat := sml S.phases.length ++ (S.phases.flatMap (fun p => smlI (phI p)) ++ tl4 S T)
/-- What a reader knows of bytes that a site makes: behind some of a list's elements. -/
def LG {α : Type} (src : St → List α) (enc : α → List Nat) (tl : St → List Nat → List Nat) (s : Rd) (i : Nat) (l : List α) (s' : Rd) : Prop := ∀ S T, DSok S → s = (siteL S ++ T, false) → i ≤ (src S).length ∧ l = (src S).take i ∧ s' = (((src S).drop i).flatMap enc ++ tl S T, false)
/-- A fact of such bytes. -/
def SG (s : Rd) (P : St → List Nat → Prop) : Prop := ∀ S T, DSok S → s = (siteL S ++ T, false) → P S T
theorem LG.step {α : Type} {src : St → List α} {enc : α → List Nat} {tl : St → List Nat → List Nat} {s s' s'' : Rd} {i : Nat} {l : List α} {y : α} (h : LG src enc tl s i l s') (hn : SG s (fun S _ => i < (src S).length)) (hf : ∀ S T x T', DSok S → s = (siteL S ++ T, false) → x ∈ src S → s' = (enc x ++ T', false) → y = x ∧ s'' = (T', false)) : LG src enc tl s (i + 1) (l ++ [y]) s'' := by
  intro S T hS hs
  obtain ⟨h1, h2, h3⟩ := h S T hS hs
  have hi := hn S T hS hs
  have hm : (src S)[i] ∈ src S := List.getElem_mem hi
  have ed : (src S).drop i = (src S)[i] :: (src S).drop (i + 1) := List.drop_eq_getElem_cons hi
  rw [ed, List.flatMap_cons, List.append_assoc] at h3
  obtain ⟨g1, g2⟩ := hf S T _ _ hS hs hm h3
  refine ⟨by omega, ?_, g2⟩
  rw [List.take_succ_eq_append_getElem hi, ← h2, g1]
theorem LG.out {α : Type} {src : St → List α} {enc : α → List Nat} {tl : St → List Nat → List Nat} {s s' : Rd} {i : Nat} {l : List α} (h : LG src enc tl s i l s') {n : Nat} (hn : SG s (fun S _ => n = (src S).length)) (hi : i = n ∨ s'.2 = true) : SG s (fun S T => l = src S ∧ s' = (tl S T, false)) := by
  intro S T hS hs
  obtain ⟨h1, h2, h3⟩ := h S T hS hs
  have h4 : n = (src S).length := hn S T hS hs
  have hin : i = (src S).length := by
    rcases hi with q | q
    · omega
    · rw [h3] at q; cases q
  refine ⟨by rw [h2, hin, List.take_length], ?_⟩
  rw [h3, hin, List.drop_length]
  simp
end Go.Proofs.Ytabikoipjaggbaa

/-
  Of the text DsS: what this stage needs (culled by a program).
-/
namespace Go.Proofs.Ytabikoipjaggbaa
open Go.RowKit Go.Lib Go.Deep
set_option linter.unusedVariables false
set_option linter.unusedSimpArgs false

abbrev zD : Array Value := #[.int .i64 0, .slice none 0 0, .slice none 0 0, .slice none 0 0, .slice none 0 0, .slice none 0 0, .int .i64 0, .int .i64 0, .int .i64 0, .int .i64 0, .int .i64 0, .slice none 0 0]
structure Dst (w wr : World) (H b R G : Nat) (s' : Rd) (c : Array Value) : Prop where
  kept : Kept w wr (some b)
  rd : Drd wr H b s'
  rb : wr.rowIs R 81 12 (fSZ zD)
  gb : wr.rowIs G 81 12 (fSZ c)
  hR : w.heap.size ≤ R
  RG : R < G
  Gz : G < wr.heap.size
  hH : H ≤ w.heap.size
theorem Dst.row {w wr w' : World} {H b R G : Nat} {s' : Rd} {c : Array Value} {r : Option Nat} (h : Dst w wr H b R G s' c) (k : Kept wr w' r) (hr : ∀ g, r = some g → G < g) : Dst w w' H b R G s' c := by
  have h2 := h.hH
  have h3 := h.hR
  have h4 := h.RG
  exact ⟨kept_two h.kept k (fun g e => by have := hr g e; exact .inr (by omega)), h.rd.kept k (fun g e => by have := hr g e; omega), row_kept h.rb k (fun e => by have := hr R e.symm; omega), row_kept h.gb k (fun e => by have := hr G e.symm; omega), h.hR, h.RG, Nat.lt_of_lt_of_le h.Gz k.size, h.hH⟩
theorem Dst.put {w wr : World} {H b R G : Nat} {s' : Rd} {c : Array Value} (h : Dst w wr H b R G s' c) (j : Nat) (v : Value) (hj : j < c.size) : Dst w (wr.setCell ⟨G, j, none⟩ v) H b R G s' (c.setIfInBounds j v) := by
  have h2 := h.hH
  have h3 := h.hR
  have h4 := h.RG
  exact ⟨kept_two h.kept (dkept_set wr G j v) (fun g e => by injection e with e; exact .inr (by omega)), h.rd.kept (dkept_set wr G j v) (fun g e => by injection e with e; omega), h.rb.setOther (by show R ≠ G; omega) v, (h.gb.set j v).congr (fun i _ => fSZ_set c j v hj i), h.hR, h.RG, by simpa [World.setCell] using h.Gz, h.hH⟩
theorem Dst.box {w wr w' : World} {H b R G : Nat} {s' : Rd} {c : Array Value} (h : Dst w wr H b R G s' c) {g j : Nat} (hg : G < g) (v : Value) : Dst w (wr.setCell ⟨g, j, none⟩ v) H b R G s' c := h.row (dkept_set wr g j v) (fun x e => by injection e with e; omega)

theorem Stay.trans {base : Nat} {a b c : World} (h : Stay base a b) (k : Stay base b c) : Stay base a c := ⟨Nat.le_trans h.size k.size, fun i h1 h2 => (k.block i h1 (Nat.lt_of_lt_of_le h2 h.size)).trans (h.block i h1 h2)⟩
/-- Within one element: from the world wr on. -/
structure Dit (w wr X : World) (H b R G : Nat) (s' : Rd) (c : Array Value) : Prop where
  st : Dst w X H b R G s' c
  it : Stay (G + 1) wr X
theorem Dit.start {w wr : World} {H b R G : Nat} {s' : Rd} {c : Array Value} (h : Dst w wr H b R G s' c) : Dit w wr wr H b R G s' c := ⟨h, Stay.refl _ _⟩
theorem Dit.new {w wr X X' : World} {H b R G : Nat} {s' : Rd} {c : Array Value} (h : Dit w wr X H b R G s' c) (k : Kept X X' none) : Dit w wr X' H b R G s' c := ⟨h.st.row k (fun g e => by cases e), h.it.step k (fun g e => by cases e)⟩
theorem Dit.box {w wr X : World} {H b R G : Nat} {s' : Rd} {c : Array Value} (h : Dit w wr X H b R G s' c) {g : Nat} (hg : wr.heap.size ≤ g) (hG : G < wr.heap.size) (j : Nat) (v : Value) : Dit w wr (X.setCell ⟨g, j, none⟩ v) H b R G s' c := ⟨h.st.row (dkept_set X g j v) (fun x e => by injection e with e; omega), h.it.step (dkept_set X g j v) (fun x e => by injection e with e; exact .inr (by omega))⟩
/-- A box of some cells. -/
theorem bxK_alloc (w : World) (c : Array Value) (t : TypeId) : (w.alloc (.cells c t)).rowIs w.heap.size t c.size (fSZ c) := World.rowIs_alloc w c t _ (fun i hi => by unfold fSZ; rw [Array.getElem?_eq_getElem hi]; rfl)
theorem bxK_set {w : World} {B n : Nat} {t : TypeId} {c : Array Value} (h : w.rowIs B t n (fSZ c)) (j : Nat) (v : Value) (hj : j < c.size) : (w.setCell ⟨B, j, none⟩ v).rowIs B t n (fSZ (c.setIfInBounds j v)) := (h.set j v).congr (fun i _ => fSZ_set c j v hj i)

/-! ### A loop's end -/
/-- A loop is left by its own exit, and then ... -/
def ExL (id : Nat) (P : Act → World → Prop) : Exit → Act → World → Prop
  | .exit j, a, w => j = id ∧ P a w
  | _, _, _ => False
theorem ExL.out {id : Nat} {P : Act → World → Prop} {e : Exit} {a : Act} {w : World} (h : ExL id P e a w) : e = .exit id ∧ P a w := by
  cases e with
  | exit j => obtain ⟨rfl, h2⟩ := h; exact ⟨rfl, h2⟩
  | _ => exact h.elim

end Go.Proofs.Ytabikoipjaggbaa

