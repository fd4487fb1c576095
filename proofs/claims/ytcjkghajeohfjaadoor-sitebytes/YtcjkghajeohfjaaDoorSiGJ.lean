/-
  Texts joined: some of those that the proofs of this seat stand on.
-/
import Derived.Test.YtcjkghajeohfjaaDoorRefNJ
import Derived.Test.YtcjkghajeohfjaaDoorRefOJ
import Derived.Test.YtcjkghajeohfjaaDoorTwinZJ
/-
  LISTS OF ONE'S OWN, of any kind; and what the document's reader of a site reads of bytes that a site makes.
-/
namespace Go.Proofs.YtcjkghajeohfjaaDoor
open Go.RowKit Go.Lib Go.Deep
set_option linter.unusedVariables false
set_option linter.unusedSimpArgs false

/-! ### Own lists -/
/-- A list of one's own: elements of K cells. -/
def OwL {α : Type} (e : TypeId) (K : Nat) (f : α → Nat → Value) (d : α) (w : World) (base : Nat) (v : Value) (l : List α) : Prop := w.ownsRow base e K v l.length (cellsL l.length K (fun i j => f (l.getD i d) j))
theorem OwL.nil {α : Type} (e : TypeId) (K : Nat) (f : α → Nat → Value) (d : α) (w : World) (base : Nat) : OwL e K f d w base (.slice none 0 0) [] := by
  unfold OwL
  have h0 : cellsL ([] : List α).length K (fun i j => f (([] : List α).getD i d) j) = [] := by simp [cellsL]
  rw [h0]
  exact World.ownsRow_nil _ _ _ _
theorem OwL.stay {α : Type} {e : TypeId} {K : Nat} {f : α → Nat → Value} {d : α} {w w' : World} {base b0 : Nat} {v : Value} {l : List α} (h : OwL e K f d w base v l) (q : Stay b0 w w') (hb : b0 ≤ base) : OwL e K f d w' base v l := own_stay h ⟨q.size, fun i h1 h2 => q.block i (Nat.le_trans hb h1) h2⟩
theorem OwL.lt {α : Type} {e : TypeId} {K : Nat} {f : α → Nat → Value} {d : α} {w : World} {base : Nat} {v : Value} {l : List α} (h : OwL e K f d w base v l) : ∀ g, v.ownBlock = some g → base ≤ g ∧ g < w.heap.size := own_lt h
theorem OwL.keptR {α : Type} {e : TypeId} {K : Nat} {f : α → Nat → Value} {d : α} {w w' : World} {base : Nat} {v : Value} {l : List α} {r : Option Nat} (h : OwL e K f d w base v l) (q : Kept w w' r) (hr : ∀ g, r = some g → g < base ∨ w.heap.size ≤ g) : OwL e K f d w' base v l := own_keptR' h q (fun g hg ec => by
  have h1 := own_lt h g hg
  rcases hr g ec.symm with q | q <;> omega)
theorem OwL.lie {α : Type} {e : TypeId} {K : Nat} {f : α → Nat → Value} {d : α} {w : World} {base : Nat} {v : Value} {l : List α} (h : OwL e K f d w base v l) (hK : 0 < K) : ∃ a c, v = .slice a l.length c ∧ Lie w a l.length K (fun i j => f (l.getD i d) j) ∧ Cap a l.length c ∧ ∀ b, a = some b → base ≤ b.block ∧ b.block < w.heap.size := by
  obtain ⟨a, c, e1, h1, h2, h3⟩ := lie_own hK h
  exact ⟨a, c, e1, h1, h2, h3⟩
theorem getD_snocL {α : Type} (l : List α) (x d : α) (i : Nat) : (l ++ [x]).getD i d = if i = l.length then x else l.getD i d := by
  by_cases h : i = l.length
  · subst h; simp
  · rw [if_neg h]
    by_cases h2 : i < l.length
    · simp [h2, List.getElem?_append_left]
    · rw [List.getD_eq_getElem?_getD, List.getD_eq_getElem?_getD, List.getElem?_eq_none (by simp; omega), List.getElem?_eq_none (by omega)]
/-- One more behind. -/
theorem OwL.grow {α : Type} {e t : TypeId} {K : Nat} {f : α → Nat → Value} {d : α} {w : World} {base : Nat} {v : Value} {l : List α} (h : OwL e K f d w base v l) (x : α) {cs : Array Value} (hcs : ∀ j, j < K → cs[j]? = some (f x j)) {inf : TypeInfo} {z : Value} {bytes : Nat} (ht : Tryd.prog.underlying t = some (.slice e)) (hi : Tryd.prog.info? e = some inf) (hz : inf.zero = some z) (hsize : inf.size = K) (hby : inf.bytes = bytes) (hzs : z.cells.size = K) (hK : 0 < K) (hbb : bytes ≤ 1000) (h1 : ∀ j, (f x j).oneCell' = true) (hn : l.length ≤ 40) (hb : base ≤ w.heap.size) :
    ∃ a' c' w', (Builtin.append_ #[t, t] t #[v, .slice (some ⟨w.heap.size, 0, none⟩) 1 1]).run Tryd.prog (w.alloc (.cells cs e)) = .ok (.slice a' (l.length + 1) c') w' ∧ OwL e K f d w' base (.slice a' (l.length + 1) c') (l ++ [x]) ∧ Kept w w' v.ownBlock := by
  have hk : Kept w (w.alloc (.cells cs e)) none := Kept.alloc _ _ _ _ _
  have hz4 : (w.alloc (.cells cs e)).heap.size = w.heap.size + 1 := by simp
  have hc : ∀ j, j < K → (w.alloc (.cells cs e)).cell? ⟨w.heap.size, 0 + j, none⟩ = some (f x j) := fun j hj => by
    rw [Nat.zero_add]
    exact alloc_at2 _ _ _ rfl (hcs j hj)
  have own4 : (w.alloc (.cells cs e)).ownsRow base e K v l.length (cellsL l.length K (fun i j => f (l.getD i d) j)) := own_keptR' h hk (fun g _ => by simp)
  obtain ⟨v', w', hr, g1, g2, g3⟩ := grow_run (t := t) (ty := t) (c := 1) ht hi hz hsize hby hzs hK hbb own4 hc h1 (by omega) (by omega)
  obtain ⟨a', c', rfl, _⟩ := lie_own hK g1
  refine ⟨a', c', w', hr, ?_, ?_⟩
  · unfold OwL
    rw [List.length_append]
    have he : cellsL (l.length + 1) K (fun i j => if i = l.length then f x j else f (l.getD i d) j) = cellsL (l.length + [x].length) K (fun i j => f ((l ++ [x]).getD i d) j) := by
      show cellsL (l.length + 1) K _ = cellsL (l.length + 1) K _
      unfold cellsL
      refine List.map_congr_left fun q _ => ?_
      show (if q / K = l.length then f x (q % K) else f (l.getD (q / K) d) (q % K)) = f ((l ++ [x]).getD (q / K) d) (q % K)
      rw [getD_snocL]
      split <;> rfl
    rw [← he]
    exact g1
  · have h2 : Kept (w.alloc (.cells cs e)) w' v.ownBlock := g2
    exact ⟨h2.os.trans hk.os, h2.tape.trans hk.tape, h2.output.trans hk.output, Nat.le_trans hk.size h2.size, fun i hi hne => (h2.block i (Nat.lt_of_lt_of_le hi hk.size) hne).trans (hk.block i hi (by simp))⟩

/-! ### What is read of a site's own bytes -/
/-- A site whose numbers the document's reader takes. -/
structure DSok (S : St) : Prop where
  id : 0 ≤ S.id ∧ S.id ≤ 65535
  gn : S.groups.length ≤ 16
  gr : ∀ g ∈ S.groups, g.kind ≤ 2 ∧ tickP g.min ∧ tickP g.yellow
  an : S.apart.length = S.groups.length
  ap : ∀ x ∈ S.apart, x ≤ 65536
  bn : S.between.length = S.groups.length
  bt : ∀ l ∈ S.between, l.length = S.groups.length ∧ ∀ x ∈ l, tickP x
  pn : S.phases.length ≤ 8
  ph : ∀ p ∈ S.phases, p.groups ≤ 65536 ∧ tickP p.min ∧ tickP p.max ∧ tickP p.gap
  en : S.eyes.length ≤ 24
  ey : ∀ e ∈ S.eyes, (0 ≤ e.phase ∧ e.phase ≤ 8) ∧ tickP e.on ∧ tickP e.off ∧ (0 ≤ e.turns ∧ e.turns ≤ 64)
  own : tickP S.watch ∧ tickP S.feed ∧ tickP S.heal ∧ tickP S.low ∧ tickP S.high
  pl : DPok S.plans
def tl6 (S : St) (T : List Nat) : List Nat := smlI (plansI S.plans) ++ T
def tl5 (S : St) (T : List Nat) : List Nat := sml S.watch.toNat ++ (sml S.feed.toNat ++ (sml S.heal.toNat ++ (sml S.low.toNat ++ (sml S.high.toNat ++ tl6 S T))))
def tl4 (S : St) (T : List Nat) : List Nat := sml S.eyes.length ++ (S.eyes.flatMap (fun e => smlI (eyI e)) ++ tl5 S T)
def tl3 (S : St) (T : List Nat) : List Nat := sml S.phases.length ++ (S.phases.flatMap (fun p => smlI (phI p)) ++ tl4 S T)
def tl2 (S : St) (T : List Nat) : List Nat := S.between.flatMap smlI ++ tl3 S T
def tl1 (S : St) (T : List Nat) : List Nat := S.apart.flatMap sml ++ tl2 S T
def tl0 (S : St) (T : List Nat) : List Nat := sml S.groups.length ++ (S.groups.flatMap (fun g => smlI (grI g)) ++ tl1 S T)
theorem siteL_tl (S : St) (T : List Nat) : siteL S ++ T = sml S.id.toNat ++ tl0 S T := by
  rw [siteL_eq]
  unfold tl0 tl1 tl2 tl3 tl4 tl5 tl6
  simp only [List.append_assoc]
  rfl
/-- What a reader knows of bytes that a site makes: behind some of a list's elements. -/
def LG {α : Type} (src : St → List α) (enc : α → List Nat) (tl : St → List Nat → List Nat) (s : Rd) (i : Nat) (l : List α) (s' : Rd) : Prop := ∀ S T, DSok S → s = (siteL S ++ T, false) → i ≤ (src S).length ∧ l = (src S).take i ∧ s' = (((src S).drop i).flatMap enc ++ tl S T, false)
/-- A fact of such bytes. -/
def SG (s : Rd) (P : St → List Nat → Prop) : Prop := ∀ S T, DSok S → s = (siteL S ++ T, false) → P S T
theorem LG.step {α : Type} {src : St → List α} {enc : α → List Nat} {tl : St → List Nat → List Nat} {s s' s'' : Rd} {i : Nat} {l : List α} {y : α} (h : LG src enc tl s i l s') (hn : SG s (fun S _ => i < (src S).length)) (hf : ∀ S T x T', DSok S → s = (siteL S ++ T, false) → x ∈ src S → s' = (enc x ++ T', false) → y = x ∧ s'' = (T', false)) : LG src enc tl s (i + 1) (l ++ [y]) s'' := by
  intro S T hS hs
  obtain ⟨h1, h2, h3⟩ := h S T hS hs
  have hi := hn S T hS hs
  have hm : (src S)[i] ∈ src S := List.getElem_mem hi
  have ed : (src S).drop i = (src S)[i] :: (src S).drop (i + 1) := List.drop_eq_getElem_cons hi
  rw [ed, List.flatMap_cons, List.append_assoc] at h3
  obtain ⟨g1, g2⟩ := hf S T _ _ hS hs hm h3
  refine ⟨by omega, ?_, g2⟩
  rw [List.take_succ_eq_append_getElem hi, ← h2, g1]
theorem LG.out {α : Type} {src : St → List α} {enc : α → List Nat} {tl : St → List Nat → List Nat} {s s' : Rd} {i : Nat} {l : List α} (h : LG src enc tl s i l s') {n : Nat} (hn : SG s (fun S _ => n = (src S).length)) (hi : i = n ∨ s'.2 = true) : SG s (fun S T => l = src S ∧ s' = (tl S T, false)) := by
  intro S T hS hs
  obtain ⟨h1, h2, h3⟩ := h S T hS hs
  have h4 : n = (src S).length := hn S T hS hs
  have hin : i = (src S).length := by
    rcases hi with q | q
    · omega
    · rw [h3] at q; cases q
  refine ⟨by rw [h2, hin, List.take_length], ?_⟩
  rw [h3, hin, List.drop_length]
  simp
theorem gr_fwd {s' s1 s2 s3 : Rd} {k m y : Nat} (e1 : dnM 2 s' = (k, s1)) (e2 : dnM 1048576 s1 = (m, s2)) (e3 : dnM 1048576 s2 = (y, s3)) {g : Gr} {T : List Nat} (hg : g.kind ≤ 2 ∧ tickP g.min ∧ tickP g.yellow) (h : s' = (smlI (grI g) ++ T, false)) : (⟨k, (m : Int), (y : Int)⟩ : Gr) = g ∧ s3 = (T, false) := by
  obtain ⟨p1, p2, p3⟩ := hg
  unfold tickP at p2 p3
  have e : smlI (grI g) ++ T = sml g.kind ++ (sml g.min.toNat ++ (sml g.yellow.toNat ++ T)) := by simp [smlI, grI]
  rw [h, e, dn_fwd (by omega) (by omega)] at e1
  injection e1 with a1 a2
  rw [← a2, dn_fwd (by omega) (by omega)] at e2
  injection e2 with b1 b2
  rw [← b2, dn_fwd (by omega) (by omega)] at e3
  injection e3 with c1 c2
  obtain ⟨gk, gm, gy⟩ := g
  dsimp only at *
  refine ⟨?_, c2.symm⟩
  congr 1 <;> omega
theorem ap_fwd {s' s1 : Rd} {k : Nat} (e1 : dnM 65536 s' = (k, s1)) {x : Nat} {T : List Nat} (hx : x ≤ 65536) (h : s' = (sml x ++ T, false)) : k = x ∧ s1 = (T, false) := by
  rw [h, dn_fwd (by omega) hx] at e1
  injection e1 with a1 a2
  exact ⟨a1.symm, a2.symm⟩
theorem ey_fwd {s' s1 s2 s3 s4 : Rd} {p a b t : Nat} (e1 : dnM 8 s' = (p, s1)) (e2 : dnM 1048576 s1 = (a, s2)) (e3 : dnM 1048576 s2 = (b, s3)) (e4 : dnM 64 s3 = (t, s4)) {g : Ey} {T : List Nat} (hg : (0 ≤ g.phase ∧ g.phase ≤ 8) ∧ tickP g.on ∧ tickP g.off ∧ (0 ≤ g.turns ∧ g.turns ≤ 64)) (h : s' = (smlI (eyI g) ++ T, false)) : (⟨(p : Int), (a : Int), (b : Int), (t : Int)⟩ : Ey) = g ∧ s4 = (T, false) := by
  obtain ⟨p1, p2, p3, p4⟩ := hg
  unfold tickP at p2 p3
  have e : smlI (eyI g) ++ T = sml g.phase.toNat ++ (sml g.on.toNat ++ (sml g.off.toNat ++ (sml g.turns.toNat ++ T))) := by simp [smlI, eyI]
  rw [h, e, dn_fwd (by omega) (by omega)] at e1
  injection e1 with a1 a2
  rw [← a2, dn_fwd (by omega) (by omega)] at e2
  injection e2 with b1 b2
  rw [← b2, dn_fwd (by omega) (by omega)] at e3
  injection e3 with c1 c2
  rw [← c2, dn_fwd (by omega) (by omega)] at e4
  injection e4 with d1 d2
  obtain ⟨gp, gn, gf, gt⟩ := g
  dsimp only at *
  refine ⟨?_, d2.symm⟩
  congr 1 <;> omega
theorem ph_fwd {s' s1 s2 s3 s4 s5 : Rd} {g m x y u : Nat} (e1 : dnM 65536 s' = (g, s1)) (e2 : dnM 1048576 s1 = (m, s2)) (e3 : dnM 1048576 s2 = (x, s3)) (e4 : dnM 1048576 s3 = (y, s4)) (e5 : dnM 1 s4 = (u, s5)) {p : Ph} {T : List Nat} (hg : p.groups ≤ 65536 ∧ tickP p.min ∧ tickP p.max ∧ tickP p.gap) (h : s' = (smlI (phI p) ++ T, false)) : (⟨g, (m : Int), (x : Int), (y : Int), ((u : Int) == 1)⟩ : Ph) = p ∧ s5 = (T, false) := by
  obtain ⟨p1, p2, p3, p4⟩ := hg
  unfold tickP at p2 p3 p4
  have e : smlI (phI p) ++ T = sml p.groups ++ (sml p.min.toNat ++ (sml p.max.toNat ++ (sml p.gap.toNat ++ (sml (if p.always = true then 1 else 0) ++ T)))) := by
    cases h : p.always <;> simp [smlI, phI, h]
  rw [h, e, dn_fwd (by omega) (by omega)] at e1
  injection e1 with a1 a2
  rw [← a2, dn_fwd (by omega) (by omega)] at e2
  injection e2 with b1 b2
  rw [← b2, dn_fwd (by omega) (by omega)] at e3
  injection e3 with c1 c2
  rw [← c2, dn_fwd (by omega) (by omega)] at e4
  injection e4 with d1 d2
  rw [← d2, dn_fwd (by omega) (by split <;> omega)] at e5
  injection e5 with f1 f2
  obtain ⟨pg, pm, px, py, pa⟩ := p
  dsimp only at *
  refine ⟨?_, f2.symm⟩
  have h1 : ((u : Int) == 1) = pa := by cases pa <;> simp at f1 <;> subst f1 <;> decide
  rw [h1]
  congr 1 <;> omega

end Go.Proofs.YtcjkghajeohfjaaDoor

/-
  BETWEEN TWO STEPS of the document's reader of a site: its boxes, its reader.
-/
namespace Go.Proofs.YtcjkghajeohfjaaDoor
open Go.RowKit Go.Lib Go.Deep
set_option linter.unusedVariables false
set_option linter.unusedSimpArgs false

abbrev zD : Array Value := #[.int .i64 0, .slice none 0 0, .slice none 0 0, .slice none 0 0, .slice none 0 0, .slice none 0 0, .int .i64 0, .int .i64 0, .int .i64 0, .int .i64 0, .int .i64 0, .slice none 0 0]
structure Dst (w wr : World) (H b R G : Nat) (s' : Rd) (c : Array Value) : Prop where
  kept : Kept w wr (some b)
  rd : Drd wr H b s'
  rb : wr.rowIs R 29 12 (fSZ zD)
  gb : wr.rowIs G 29 12 (fSZ c)
  hR : w.heap.size ≤ R
  RG : R < G
  Gz : G < wr.heap.size
  hH : H ≤ w.heap.size
theorem Dst.num {w wr w' : World} {H b R G : Nat} {s' s2 : Rd} {c : Array Value} (h : Dst w wr H b R G s' c) (k : Kept wr w' (some b)) (hd : Drd w' H b s2) : Dst w w' H b R G s2 c := by
  have h1 := h.rd.lt
  have h2 := h.hH
  have h3 := h.hR
  have h4 := h.RG
  exact ⟨kept_two h.kept k (fun g e => .inl e), hd, row_kept h.rb k (fun e => by injection e with e; omega), row_kept h.gb k (fun e => by injection e with e; omega), h.hR, h.RG, Nat.lt_of_lt_of_le h.Gz k.size, h.hH⟩
theorem Dst.row {w wr w' : World} {H b R G : Nat} {s' : Rd} {c : Array Value} {r : Option Nat} (h : Dst w wr H b R G s' c) (k : Kept wr w' r) (hr : ∀ g, r = some g → G < g) : Dst w w' H b R G s' c := by
  have h2 := h.hH
  have h3 := h.hR
  have h4 := h.RG
  exact ⟨kept_two h.kept k (fun g e => by have := hr g e; exact .inr (by omega)), h.rd.kept k (fun g e => by have := hr g e; omega), row_kept h.rb k (fun e => by have := hr R e.symm; omega), row_kept h.gb k (fun e => by have := hr G e.symm; omega), h.hR, h.RG, Nat.lt_of_lt_of_le h.Gz k.size, h.hH⟩
theorem Dst.put {w wr : World} {H b R G : Nat} {s' : Rd} {c : Array Value} (h : Dst w wr H b R G s' c) (j : Nat) (v : Value) (hj : j < c.size) : Dst w (wr.setCell ⟨G, j, none⟩ v) H b R G s' (c.setIfInBounds j v) := by
  have h2 := h.hH
  have h3 := h.hR
  have h4 := h.RG
  exact ⟨kept_two h.kept (dkept_set wr G j v) (fun g e => by injection e with e; exact .inr (by omega)), h.rd.kept (dkept_set wr G j v) (fun g e => by injection e with e; omega), h.rb.setOther (by show R ≠ G; omega) v, (h.gb.set j v).congr (fun i _ => fSZ_set c j v hj i), h.hR, h.RG, by simpa [World.setCell] using h.Gz, h.hH⟩
theorem Dst.box {w wr w' : World} {H b R G : Nat} {s' : Rd} {c : Array Value} (h : Dst w wr H b R G s' c) {g j : Nat} (hg : G < g) (v : Value) : Dst w (wr.setCell ⟨g, j, none⟩ v) H b R G s' c := h.row (dkept_set wr g j v) (fun x e => by injection e with e; omega)

theorem Stay.trans {base : Nat} {a b c : World} (h : Stay base a b) (k : Stay base b c) : Stay base a c := ⟨Nat.le_trans h.size k.size, fun i h1 h2 => (k.block i h1 (Nat.lt_of_lt_of_le h2 h.size)).trans (h.block i h1 h2)⟩
/-- Within one element: from the world wr on. -/
structure Dit (w wr X : World) (H b R G : Nat) (s' : Rd) (c : Array Value) : Prop where
  st : Dst w X H b R G s' c
  it : Stay (G + 1) wr X
theorem Dit.start {w wr : World} {H b R G : Nat} {s' : Rd} {c : Array Value} (h : Dst w wr H b R G s' c) : Dit w wr wr H b R G s' c := ⟨h, Stay.refl _ _⟩
theorem Dit.num {w wr X X' : World} {H b R G : Nat} {s' s2 : Rd} {c : Array Value} (h : Dit w wr X H b R G s' c) (k : Kept X X' (some b)) (hd : Drd X' H b s2) : Dit w wr X' H b R G s2 c :=
  ⟨h.st.num k hd, h.it.step k (fun g e => by injection e with e; have h1 := h.st.rd.lt; have h2 := h.st.hH; have h3 := h.st.hR; have h4 := h.st.RG; exact .inl (by omega))⟩
theorem Dit.new {w wr X X' : World} {H b R G : Nat} {s' : Rd} {c : Array Value} (h : Dit w wr X H b R G s' c) (k : Kept X X' none) : Dit w wr X' H b R G s' c := ⟨h.st.row k (fun g e => by cases e), h.it.step k (fun g e => by cases e)⟩
theorem Dit.box {w wr X : World} {H b R G : Nat} {s' : Rd} {c : Array Value} (h : Dit w wr X H b R G s' c) {g : Nat} (hg : wr.heap.size ≤ g) (hG : G < wr.heap.size) (j : Nat) (v : Value) : Dit w wr (X.setCell ⟨g, j, none⟩ v) H b R G s' c := ⟨h.st.row (dkept_set X g j v) (fun x e => by injection e with e; omega), h.it.step (dkept_set X g j v) (fun x e => by injection e with e; exact .inr (by omega))⟩
/-- A box of some cells. -/
theorem bxK_alloc (w : World) (c : Array Value) (t : TypeId) : (w.alloc (.cells c t)).rowIs w.heap.size t c.size (fSZ c) := World.rowIs_alloc w c t _ (fun i hi => by unfold fSZ; rw [Array.getElem?_eq_getElem hi]; rfl)
theorem bxK_set {w : World} {B n : Nat} {t : TypeId} {c : Array Value} (h : w.rowIs B t n (fSZ c)) (j : Nat) (v : Value) (hj : j < c.size) : (w.setCell ⟨B, j, none⟩ v).rowIs B t n (fSZ (c.setIfInBounds j v)) := (h.set j v).congr (fun i _ => fSZ_set c j v hj i)

/-! ### A loop's end -/
/-- A loop is left by its own exit, and then ... -/
def ExL (id : Nat) (P : Act → World → Prop) : Exit → Act → World → Prop
  | .exit j, a, w => j = id ∧ P a w
  | _, _, _ => False
theorem ExL.out {id : Nat} {P : Act → World → Prop} {e : Exit} {a : Act} {w : World} (h : ExL id P e a w) : e = .exit id ∧ P a w := by
  cases e with
  | exit j => obtain ⟨rfl, h2⟩ := h; exact ⟨rfl, h2⟩
  | _ => exact h.elim

structure Slots where
  u1 : Value
  u5 : Value
  u6 : Value
  u7 : Value
  u8 : Value
  u9 : Value
  u10 : Value
  u11 : Value
  u12 : Value
  u13 : Value
  u14 : Value
  u15 : Value
  u16 : Value
  u17 : Value
  u18 : Value
  u19 : Value
  u20 : Value
  u21 : Value
  u22 : Value
  u23 : Value
  u24 : Value
  u25 : Value
  u26 : Value
  u27 : Value
  u28 : Value
  u29 : Value
  u30 : Value
  u31 : Value
  u32 : Value
  u33 : Value
  u34 : Value
  u35 : Value
  u36 : Value
  u37 : Value
  u38 : Value
  u39 : Value
  u40 : Value
  u41 : Value
  u42 : Value
  u43 : Value
  u44 : Value
  u45 : Value
  u46 : Value
  u47 : Value
  u48 : Value
  u49 : Value
  u50 : Value
  u51 : Value
  u52 : Value
  u53 : Value
  u54 : Value
  u55 : Value
  u56 : Value
  u57 : Value
  u58 : Value
  u59 : Value
  u60 : Value
  u61 : Value
  u62 : Value
  u63 : Value
  u64 : Value
  u65 : Value
  u66 : Value
  u67 : Value
  u68 : Value
  u69 : Value
  u70 : Value
  u71 : Value
  u72 : Value
  u73 : Value
  u74 : Value
  u75 : Value
  u76 : Value
  u77 : Value
  u78 : Value
  u79 : Value
  u80 : Value
  u81 : Value
  u82 : Value
  u83 : Value
  u84 : Value
  u85 : Value
  u86 : Value
  u87 : Value
  u88 : Value
  u89 : Value
  u90 : Value
  u91 : Value
  u92 : Value
  u93 : Value
  u94 : Value
  u95 : Value
  u96 : Value
  u97 : Value
  u98 : Value
  u99 : Value
  u100 : Value
  u101 : Value
  u102 : Value
  u103 : Value
  u104 : Value
  u105 : Value
  u106 : Value
  u107 : Value
  u108 : Value
  u109 : Value
  u110 : Value
  u111 : Value
  u112 : Value
  u113 : Value
  u114 : Value
  u115 : Value
  u116 : Value
  u117 : Value
  u118 : Value
  u119 : Value
  u120 : Value
  u121 : Value
  u122 : Value
  u123 : Value
  u124 : Value
  u125 : Value
  u126 : Value
  u127 : Value
  u128 : Value
  u129 : Value
  u130 : Value
  u131 : Value
  u132 : Value
  u133 : Value
  u134 : Value
  u135 : Value
  u136 : Value
  u137 : Value
  u138 : Value
  u139 : Value
  u140 : Value
  u141 : Value
  u142 : Value
  u143 : Value
  u144 : Value
  u145 : Value
  u146 : Value
  u147 : Value
  u148 : Value
  u149 : Value
  u150 : Value
  u151 : Value
  u152 : Value
  u153 : Value
  u154 : Value
  u155 : Value
  u156 : Value
  u157 : Value
  u158 : Value
  u159 : Value
  u160 : Value
  u161 : Value
  u162 : Value
  u163 : Value
  u164 : Value
  u165 : Value
  u166 : Value
  u167 : Value
  u168 : Value
  u169 : Value
  u170 : Value
  u171 : Value
  u172 : Value
  u173 : Value
  u174 : Value
  u175 : Value
  u176 : Value
  u177 : Value
  u178 : Value
  u179 : Value
  u180 : Value
  u181 : Value
  u182 : Value
  u183 : Value
  u184 : Value
  u185 : Value
set_option maxRecDepth 100000 in
def Sl5 (v0 v2 v3 v4 : Value) (a : Act) : Prop := ∃ u : Slots, a = { tmps := #[v0, u.u1, v2, v3, v4, u.u5, u.u6, u.u7, u.u8, u.u9, u.u10, u.u11, u.u12, u.u13, u.u14, u.u15, u.u16, u.u17, u.u18, u.u19, u.u20, u.u21, u.u22, u.u23, u.u24, u.u25, u.u26, u.u27, u.u28, u.u29, u.u30, u.u31, u.u32, u.u33, u.u34, u.u35, u.u36, u.u37, u.u38, u.u39, u.u40, u.u41, u.u42, u.u43, u.u44, u.u45, u.u46, u.u47, u.u48, u.u49, u.u50, u.u51, u.u52, u.u53, u.u54, u.u55, u.u56, u.u57, u.u58, u.u59, u.u60, u.u61, u.u62, u.u63, u.u64, u.u65, u.u66, u.u67, u.u68, u.u69, u.u70, u.u71, u.u72, u.u73, u.u74, u.u75, u.u76, u.u77, u.u78, u.u79, u.u80, u.u81, u.u82, u.u83, u.u84, u.u85, u.u86, u.u87, u.u88, u.u89, u.u90, u.u91, u.u92, u.u93, u.u94, u.u95, u.u96, u.u97, u.u98, u.u99, u.u100, u.u101, u.u102, u.u103, u.u104, u.u105, u.u106, u.u107, u.u108, u.u109, u.u110, u.u111, u.u112, u.u113, u.u114, u.u115, u.u116, u.u117, u.u118, u.u119, u.u120, u.u121, u.u122, u.u123, u.u124, u.u125, u.u126, u.u127, u.u128, u.u129, u.u130, u.u131, u.u132, u.u133, u.u134, u.u135, u.u136, u.u137, u.u138, u.u139, u.u140, u.u141, u.u142, u.u143, u.u144, u.u145, u.u146, u.u147, u.u148, u.u149, u.u150, u.u151, u.u152, u.u153, u.u154, u.u155, u.u156, u.u157, u.u158, u.u159, u.u160, u.u161, u.u162, u.u163, u.u164, u.u165, u.u166, u.u167, u.u168, u.u169, u.u170, u.u171, u.u172, u.u173, u.u174, u.u175, u.u176, u.u177, u.u178, u.u179, u.u180, u.u181, u.u182, u.u183, u.u184, u.u185], defers := [] }
/-- What is known behind a loop that reads a list. -/
def LFin {α : Type} (w : World) (H b R G : Nat) (s : Rd) (A : Option Addr → Nat → Nat → Array Value) (e : TypeId) (K : Nat) (f : α → Nat → Value) (d : α) (B : Nat) (w0 : World) (typ : α → Prop) (src : St → List α) (tl : St → List Nat → List Nat) (wx : World) : Prop :=
  ∃ (i : Nat) (l : List α) (s' : Rd) (la : Option Addr) (lc : Nat), l.length = i ∧ Dst w wx H b R G s' (A la i lc) ∧ OwL e K f d wx B (.slice la i lc) l ∧ Stay (G + 1) w0 wx ∧ (∀ x ∈ l, typ x) ∧ SG s (fun S T => l = src S ∧ s' = (tl S T, false))

end Go.Proofs.YtcjkghajeohfjaaDoor

/-
  LISTS OF NUMBERS, ONE MORE BEHIND, in new memory.
-/
namespace Go.Proofs.YtcjkghajeohfjaaDoor
open Go.RowKit Go.Lib Go.Deep
set_option linter.unusedVariables false
set_option linter.unusedSimpArgs false

/-- A list of lists of numbers of one's own. -/
structure GrS (wr : World) (base : Nat) (v : Value) (l : List (List Int)) : Prop where
  ex : ∃ r : Nat → Option Addr × Nat, wr.ownsRow base 52 1 v l.length (cellsL l.length 1 (fun i _ => .slice (r i).1 (l.getD i []).length (r i).2)) ∧ (∀ i, i < l.length → Ints wr (r i).1 (l.getD i []).length (r i).2 (l.getD i [])) ∧ (∀ i, i < l.length → ∀ b, (r i).1 = some b → v.ownBlock ≠ some b.block ∧ b.block < wr.heap.size ∧ base ≤ b.block)
theorem GrS.nil (w : World) (base : Nat) : GrS w base (.slice none 0 0) [] := ⟨⟨fun _ => (none, 0), World.ownsRow_nil _ _ _ _, fun i hi => by simp at hi, fun i hi => by simp at hi⟩⟩
theorem GrS.stay {w w' : World} {base : Nat} {v : Value} {l : List (List Int)} (h : GrS w base v l) (q : Stay base w w') : GrS w' base v l := by
  obtain ⟨r, h1, h2, h3⟩ := h.ex
  exact ⟨⟨r, own_stay h1 q, fun i hi => (h2 i hi).stay q (fun b e => (h3 i hi b e).2.2), fun i hi b e => ⟨(h3 i hi b e).1, Nat.lt_of_lt_of_le (h3 i hi b e).2.1 q.size, (h3 i hi b e).2.2⟩⟩⟩
theorem GrS.lt {w : World} {base : Nat} {v : Value} {l : List (List Int)} (h : GrS w base v l) : ∀ g, v.ownBlock = some g → base ≤ g ∧ g < w.heap.size := by
  obtain ⟨r, h1, _, _⟩ := h.ex
  exact own_lt h1
theorem GrS.shape {w : World} {base : Nat} {v : Value} {l : List (List Int)} (h : GrS w base v l) : ∃ a c, v = .slice a l.length c := by
  obtain ⟨r, h1, _, _⟩ := h.ex
  obtain ⟨a, c, e, _⟩ := lie_own (by omega) h1
  exact ⟨a, c, e⟩
theorem GrS.grid {w : World} {base : Nat} {v : Value} {l : List (List Int)} (h : GrS w base v l) : ∃ a c, v = .slice a l.length c ∧ Grid w a l.length c l ∧ ∀ b, a = some b → base ≤ b.block := by
  obtain ⟨r, h1, h2, _⟩ := h.ex
  obtain ⟨a, c, e, hl, hc, hbl⟩ := lie_own (by omega) h1
  exact ⟨a, c, e, ⟨⟨r, hl, h2⟩, rfl, hc⟩, fun b eb => (hbl b eb).1⟩
theorem getD_snocG (l : List (List Int)) (p : List Int) (i : Nat) : (l ++ [p]).getD i [] = if i = l.length then p else l.getD i [] := by
  by_cases h : i = l.length
  · subst h; simp
  · rw [if_neg h]
    by_cases h2 : i < l.length
    · simp [h2, List.getElem?_append_left]
    · rw [List.getD_eq_getElem?_getD, List.getD_eq_getElem?_getD, List.getElem?_eq_none (by simp; omega), List.getElem?_eq_none (by omega)]
theorem GrS.grow {W : World} {base : Nat} {v : Value} {l : List (List Int)} {p : List Int} {a' : Option Addr} {cap : Nat} (h : GrS W base v l) (hI : Ints W a' p.length cap p) (hb : ∀ b, a' = some b → v.ownBlock ≠ some b.block ∧ b.block < W.heap.size ∧ base ≤ b.block) (hk : l.length ≤ 40) (hbase : base ≤ W.heap.size) :
    ∃ v' W5, (Builtin.append_ #[24, 24] 24 #[v, .slice (some ⟨W.heap.size, 0, none⟩) 1 1]).run Tryd.prog (W.alloc (slB a' p.length cap)) = .ok v' W5 ∧ GrS W5 base v' (l ++ [p]) ∧ Kept W W5 v.ownBlock := by
  obtain ⟨r, ho, hi, hbb⟩ := h.ex
  obtain ⟨i0, hi0, hz0, hz1, hz2⟩ := info_parts Tryd.infoSl
  have k4 : Kept W (W.alloc (slB a' p.length cap)) none := Kept.alloc _ _ _ _ _
  have z4 : (W.alloc (slB a' p.length cap)).heap.size = W.heap.size + 1 := by simp
  have q0' : ∀ j, j < 1 → (W.alloc (slB a' p.length cap)).cell? ⟨W.heap.size, 0 + j, none⟩ = some (.slice a' p.length cap) := fun j hj => by
    have : j = 0 := by omega
    subst this
    exact alloc_at2 _ _ _ rfl rfl
  generalize W.alloc (slB a' p.length cap) = W4 at *
  have own4 := own_keptR' ho k4 (fun g _ => by simp)
  obtain ⟨v', W5, hr, g1, g2, g3⟩ := grow_run (t := 24) (ty := 24) (c := 1) Tryd.uSls hi0 hz0 hz1 hz2 rfl (by omega) (by omega) (g := fun _ => .slice a' p.length cap) own4 q0' (fun j => rfl) (by omega) (by omega)
  have g2' : Kept W4 W5 v.ownBlock := g2
  have hk45 : Kept W W5 v.ownBlock := ⟨g2'.os.trans k4.os, g2'.tape.trans k4.tape, g2'.output.trans k4.output, Nat.le_trans k4.size g2'.size, fun i hi hne => (g2'.block i (Nat.lt_of_lt_of_le hi k4.size) hne).trans (k4.block i hi (by simp))⟩
  have vfr : ∀ g, v'.ownBlock = some g → v.ownBlock = some g ∨ W.heap.size ≤ g := fun g hg => by
    rcases g3 with e | e
    · exact .inl (e.symm.trans hg)
    · rw [e] at hg; injection hg with hg; exact .inr (by omega)
  refine ⟨v', W5, hr, ⟨⟨fun i => if i = l.length then (a', cap) else r i, ?_, fun i hik => ?_, fun i hik b e => ?_⟩⟩, hk45⟩
  · rw [List.length_append]
    have he : cellsL (l.length + 1) 1 (fun i _ => if i = l.length then Value.slice a' p.length cap else .slice (r i).1 (l.getD i []).length (r i).2) = cellsL (l.length + [p].length) 1 (fun i _ => Value.slice ((if i = l.length then (a', cap) else r i) : Option Addr × Nat).1 ((l ++ [p]).getD i []).length ((if i = l.length then (a', cap) else r i) : Option Addr × Nat).2) := by
      show cellsL (l.length + 1) 1 _ = cellsL (l.length + 1) 1 _
      unfold cellsL
      refine List.map_congr_left fun q _ => ?_
      show (if q / 1 = l.length then Value.slice a' p.length cap else .slice (r (q / 1)).1 (l.getD (q / 1) []).length (r (q / 1)).2) = .slice ((if q / 1 = l.length then (a', cap) else r (q / 1)) : Option Addr × Nat).1 ((l ++ [p]).getD (q / 1) []).length ((if q / 1 = l.length then (a', cap) else r (q / 1)) : Option Addr × Nat).2
      rw [getD_snocG]
      by_cases e : q / 1 = l.length
      · rw [if_pos e, if_pos e, if_pos e]
      · rw [if_neg e, if_neg e, if_neg e]
    rw [← he]
    exact g1
  · rw [getD_snocG]
    by_cases e : i = l.length
    · rw [if_pos e]
      simp only [if_pos e]
      exact hI.keptS hk45 (fun b eb ec => (hb b eb).1 ec.symm)
    · rw [if_neg e]
      simp only [if_neg e]
      have hil : i < l.length := by rw [List.length_append] at hik; simp at hik; omega
      exact (hi i hil).keptS hk45 (fun b eb ec => (hbb i hil b eb).1 ec.symm)
  · have hs5 := hk45.size
    by_cases ei : i = l.length
    · simp only [if_pos ei] at e
      obtain ⟨p1, p2, p3⟩ := hb b e
      exact ⟨fun ec => by rcases vfr _ ec with q | q; exact p1 q; omega, by omega, p3⟩
    · simp only [if_neg ei] at e
      have hil : i < l.length := by rw [List.length_append] at hik; simp at hik; omega
      obtain ⟨p1, p2, p3⟩ := hbb i hil b e
      exact ⟨fun ec => by rcases vfr _ ec with q | q; exact p1 q; omega, by omega, p3⟩
/-- What is known behind the loop that reads lists of numbers. -/
def LFinG (w : World) (H b R G : Nat) (s : Rd) (A : Option Addr → Nat → Nat → Array Value) (B : Nat) (w0 : World) (src : St → List (List Int)) (tl : St → List Nat → List Nat) (wx : World) : Prop :=
  ∃ (i : Nat) (l : List (List Int)) (s' : Rd) (la : Option Addr) (lc : Nat), l.length = i ∧ Dst w wx H b R G s' (A la i lc) ∧ GrS wx B (.slice la i lc) l ∧ Stay (G + 1) w0 wx ∧ SG s (fun S T => l = src S ∧ s' = (tl S T, false))
/-- Within one row. -/
def RG (s : Rd) (n i k : Nat) (sp : List Int) (s' : Rd) : Prop := ∀ S T, DSok S → s = (siteL S ++ T, false) → i < S.between.length ∧ n = (S.between.getD i []).length ∧ sp = (S.between.getD i []).take k ∧ s' = (smlI ((S.between.getD i []).drop k) ++ ((S.between.drop (i + 1)).flatMap smlI ++ tl3 S T), false)
theorem RG.start {s s' : Rd} {n i : Nat} {l : List (List Int)} (h : LG St.between smlI tl3 s i l s') (hn : SG s (fun S _ => n = S.between.length ∧ n = S.groups.length)) (hi : i < n) : RG s n i 0 [] s' := by
  intro S T hS hs
  obtain ⟨h1, h2, h3⟩ := h S T hS hs
  obtain ⟨h4, h5⟩ := hn S T hS hs
  have hix : i < S.between.length := by omega
  have e : S.between.getD i [] = S.between[i] := by simp [hix]
  have hb := hS.bt _ (List.getElem_mem hix)
  refine ⟨hix, by rw [e]; omega, rfl, ?_⟩
  rw [h3, e, List.drop_eq_getElem_cons hix, List.flatMap_cons, List.append_assoc]
  rfl
theorem RG.step {s s' s2 : Rd} {n i k y : Nat} {sp : List Int} (h : RG s n i k sp s') (hk : k < n) (e : dnM 1048576 s' = (y, s2)) : RG s n i (k + 1) (sp ++ [(y : Int)]) s2 := by
  intro S T hS hs
  obtain ⟨h1, h2, h3, h4⟩ := h S T hS hs
  have er : S.between.getD i [] = S.between[i] := by simp [h1]
  have hb := hS.bt _ (List.getElem_mem h1)
  rw [er] at h2 h3 h4 ⊢
  generalize S.between[i] = row at *
  have hkp : k < row.length := by omega
  have ht := hb.2 _ (List.getElem_mem hkp)
  unfold tickP at ht
  have ed : row.drop k = row[k] :: row.drop (k + 1) := List.drop_eq_getElem_cons hkp
  have e' : smlI (row[k] :: row.drop (k + 1)) = sml (row[k]).toNat ++ smlI (row.drop (k + 1)) := by unfold smlI; rw [List.flatMap_cons]
  rw [h4, ed, e', List.append_assoc, dn_fwd (by omega) (by omega)] at e
  injection e with a1 a2
  refine ⟨h1, h2, ?_, a2.symm⟩
  rw [List.take_succ_eq_append_getElem hkp, ← h3, ← a1]
  have hy : ((row[k].toNat : Nat) : Int) = row[k] := by omega
  rw [hy]
theorem RG.out {s s' s2 : Rd} {n i : Nat} {l : List (List Int)} {sp : List Int} (h : RG s n i n sp s2) (h0 : LG St.between smlI tl3 s i l s') : LG St.between smlI tl3 s (i + 1) (l ++ [sp]) s2 := by
  intro S T hS hs
  obtain ⟨h1, h2, h3, h4⟩ := h S T hS hs
  obtain ⟨g1, g2, g3⟩ := h0 S T hS hs
  have er : S.between.getD i [] = S.between[i] := by simp [h1]
  rw [h2, List.take_length, er] at h3
  rw [h2, List.drop_length] at h4
  refine ⟨by omega, ?_, ?_⟩
  · rw [List.take_succ_eq_append_getElem h1, ← g2, h3]
  · rw [h4]; simp [smlI]

/-! ### The end -/
/-- The result's cells, one by one. -/
structure Dre (w w0 wr : World) (H b R G : Nat) (s' : Rd) (c : Array Value) : Prop where
  kept : Kept w wr (some b)
  rd : Drd wr H b s'
  rb : wr.rowIs R 29 12 (fSZ c)
  st : Stay (G + 1) w0 wr
  hR : w.heap.size ≤ R
  RG : R < G
  hH : H ≤ w.heap.size
theorem Dre.start {w wr : World} {H b R G : Nat} {s' : Rd} {c : Array Value} (h : Dst w wr H b R G s' c) : Dre w wr wr H b R G s' zD := ⟨h.kept, h.rd, h.rb, Stay.refl _ _, h.hR, h.RG, h.hH⟩
theorem Dre.put {w w0 wr : World} {H b R G : Nat} {s' : Rd} {c : Array Value} (h : Dre w w0 wr H b R G s' c) (j : Nat) (v : Value) (hj : j < c.size) : Dre w w0 (wr.setCell ⟨R, j, none⟩ v) H b R G s' (c.setIfInBounds j v) := by
  have h2 := h.hH
  have h3 := h.hR
  have h4 := h.RG
  exact ⟨kept_two h.kept (dkept_set wr R j v) (fun g e => by injection e with e; exact .inr (by omega)), h.rd.kept (dkept_set wr R j v) (fun g e => by injection e with e; omega), bxK_set h.rb j v hj, h.st.step (dkept_set wr R j v) (fun g e => by injection e with e; exact .inl (by omega)), h.hR, h.RG, h.hH⟩
theorem setD12 (v0 v1 v2 v3 v4 v5 v6 v7 v8 v9 v10 v11 : Value) : ((((((((((((zD.setIfInBounds 0 v0).setIfInBounds 1 v1).setIfInBounds 2 v2).setIfInBounds 3 v3).setIfInBounds 4 v4).setIfInBounds 5 v5).setIfInBounds 6 v6).setIfInBounds 7 v7).setIfInBounds 8 v8).setIfInBounds 9 v9).setIfInBounds 10 v10).setIfInBounds 11 v11) = #[v0, v1, v2, v3, v4, v5, v6, v7, v8, v9, v10, v11] := by simp only [zD, List.setIfInBounds_toArray, List.set_cons_zero, List.set_cons_succ]
theorem Dre.all {w wx : World} {H b R G : Nat} {s' : Rd} {c : Array Value} (h : Dst w wx H b R G s' c) (v0 v1 v2 v3 v4 v5 v6 v7 v8 v9 v10 v11 : Value) : Dre w wx ((((((((((((wx.setCell ⟨R, 0, none⟩ v0).setCell ⟨R, 1, none⟩ v1).setCell ⟨R, 2, none⟩ v2).setCell ⟨R, 3, none⟩ v3).setCell ⟨R, 4, none⟩ v4).setCell ⟨R, 5, none⟩ v5).setCell ⟨R, 6, none⟩ v6).setCell ⟨R, 7, none⟩ v7).setCell ⟨R, 8, none⟩ v8).setCell ⟨R, 9, none⟩ v9).setCell ⟨R, 10, none⟩ v10).setCell ⟨R, 11, none⟩ v11) H b R G s' #[v0, v1, v2, v3, v4, v5, v6, v7, v8, v9, v10, v11] := by
  have e := ((((((((((((Dre.start h).put 0 v0 (by simp)).put 1 v1 (by simp)).put 2 v2 (by simp)).put 3 v3 (by simp)).put 4 v4 (by simp)).put 5 v5 (by simp)).put 6 v6 (by simp)).put 7 v7 (by simp)).put 8 v8 (by simp)).put 9 v9 (by simp)).put 10 v10 (by simp)).put 11 v11 (by simp)
  rw [setD12] at e
  exact e
/-- What the document's reader of a site answers. -/
structure SiP (w : World) (H b : Nat) (s : Rd) (X : Sa) (S : St) (w' : World) (s' : Rd) : Prop where
  sat : ∀ w'', Stay w.heap.size w' w'' → Sat w'' X S
  rd : Drd w' H b s'
  kept : Kept w w' (some b)
  fwd : ∀ S0 T, DSok S0 → s = (siteL S0 ++ T, false) → S = S0 ∧ s' = (T, false)
def SiR (w : World) (H b : Nat) (s : Rd) (e : Ending) (w' : World) : Prop := ∃ X S s', e = .returned (siteV X S) ∧ SiP w H b s X S w' s'

end Go.Proofs.YtcjkghajeohfjaaDoor

