/-
  Texts joined: some of those that the proofs of this seat stand on.
-/
import Derived.Test.YtkbhcpgdhbfhnaaDoorTwinA
import Derived.Test.YtkbhcpgdhbfhnaaDoorSafeKJ
import Derived.Maps.AppendAt
import Derived.Test.YtkbhcpgdhbfhnaaDoorRefA8
/-
  OWN LISTS OF ANY KIND, one more behind; lists of lights of one's own.
-/
namespace Go.Proofs.YtkbhcpgdhbfhnaaDoor
open Go.RowKit Go.Lib Go.Deep
set_option linter.unusedVariables false
set_option linter.unusedSimpArgs false

theorem cellsL_snoc8 {n k : Nat} {f : Nat → Nat → Value} {g : Nat → Value} (hk : 0 < k) : cellsL n k f ++ (List.range k).map g = cellsL (n + 1) k (fun i j => if i = n then g j else f i j) := by
  unfold cellsL
  rw [Nat.add_mul, Nat.one_mul, List.range_add, List.map_append]
  congr 1
  · refine List.map_congr_left fun q hq => ?_
    have h1 : q / k < n := by rw [Nat.div_lt_iff_lt_mul hk]; exact List.mem_range.1 hq
    show f (q / k) (q % k) = if q / k = n then g (q % k) else f (q / k) (q % k)
    rw [if_neg (by omega)]
  · rw [List.map_map]
    refine List.map_congr_left fun j hj => ?_
    have hj' := List.mem_range.1 hj
    have h3 : (n * k + j) / k = n := by rw [Nat.add_comm, Nat.add_mul_div_right _ _ hk, Nat.div_eq_of_lt hj', Nat.zero_add]
    have h4 : (n * k + j) % k = j := by rw [Nat.add_comm, Nat.add_mul_mod_self_right, Nat.mod_eq_of_lt hj']
    show g j = if (n * k + j) / k = n then g ((n * k + j) % k) else f ((n * k + j) / k) ((n * k + j) % k)
    rw [h3, h4, if_pos rfl]
/-- One more element. -/
theorem grow_run8 {w : World} {t ty e : TypeId} {i : TypeInfo} {z : Value} {k bytes : Nat} (ht : Tryd.prog.underlying t = some (.slice e)) (hi : Tryd.prog.info? e = some i) (hz : i.zero = some z) (hsize : i.size = k) (hby : i.bytes = bytes) (hzs : z.cells.size = k) (hk : 0 < k) (hbb : bytes ≤ 1000)
    {base n c : Nat} {v : Value} {f : Nat → Nat → Value} (hown : w.ownsRow base e k v n (cellsL n k f)) {b o : Nat} {g : Nat → Value} (hg : ∀ j, j < k → w.cell? ⟨b, o + j, none⟩ = some (g j)) (h1 : ∀ j, (g j).oneCell' = true) (hn : n ≤ 1000) (hbase : base ≤ w.heap.size) :
    ∃ v' w', (Builtin.append_ #[t, t] ty #[v, .slice (some ⟨b, o, none⟩) 1 c]).run Tryd.prog w = .ok v' w' ∧ w'.ownsRow base e k v' (n + 1) (cellsL (n + 1) k (fun i j => if i = n then g j else f i j)) ∧ w.grownBy w' v.ownBlock ∧ (v'.ownBlock = v.ownBlock ∨ v'.ownBlock = some w.heap.size) := by
  have hbytes : (n + 1) * bytes ≤ 140737488355328 := by
    have h2 : (n + 1) * bytes ≤ 1001 * 1000 := Nat.mul_le_mul (by omega) hbb
    omega
  obtain ⟨v', w', hr, h2, h3, _, h5⟩ := run_append_own_at (P := Tryd.prog) w base t ty e i z k bytes ht hi hz hsize hby hzs hk v n _ hown ⟨b, o, none⟩ 1 c ((List.range k).map g) (by simp) (fun j u hu => by
    rw [List.getElem?_map] at hu
    have hj : j < k := by
      by_cases h : j < k
      · exact h
      · rw [List.getElem?_eq_none (by simpa using h)] at hu; simp at hu
    rw [List.getElem?_range hj] at hu
    rw [Addr.add_lit, hg j hj]
    exact hu) (fun u hu => by
    simp only [List.mem_map] at hu
    obtain ⟨x, _, rfl⟩ := hu
    exact h1 x) (by unfold maxLen; omega) hbytes hbase
  rw [cellsL_snoc8 hk] at h2
  exact ⟨v', w', hr, h2, h3, h5⟩
theorem wpList_app8 {ops : Array Oper} {rest : List Oper} {o : Oper} {act : Act} {Q : Exit → Act → World → Prop} {w w' : World} {v u v' : Value} (hgd : o.guard = none) (s x : Operand) (t : TypeId) (ho : o.op = .call { callee := .builtin .append, args := #[s, x], argTypes := #[t, t] }) (hs : act.eval s = v) (hx : act.eval x = u)
    (hr : (Builtin.append_ #[t, t] o.type #[v, u]).run Tryd.prog w = .ok v' w') (h : wpList Tryd.prog ops Q rest (act.put o.dst v') w') : wpList Tryd.prog ops Q (o :: rest) act w :=
  wpList_plain hgd fun K hK => by
    unfold Oper.wp execOp
    simp only [ho, resolve, invoke, builtin, Sem.run_bind, Sem.run_pure, Result.andThen_ok, List.map_toArray, List.map_cons, List.map_nil, hs, hx, hr]
    exact hK _ _ h
theorem own_lt8 {w : World} {base n k : Nat} {e : TypeId} {v : Value} {xs : List Value} (h : w.ownsRow base e k v n xs) : ∀ g, v.ownBlock = some g → base ≤ g ∧ g < w.heap.size := fun g hg => by
  rcases id h.2 with ⟨rfl, _⟩ | ⟨b, cap, cur, rfl, hb, hh, _⟩
  · cases hg
  · injection hg with hg
    subst hg
    exact ⟨hb, (Array.getElem?_eq_some_iff.1 hh).1⟩
theorem own_kept8 {w w' : World} {r : Option Nat} {base n k : Nat} {e : TypeId} {v : Value} {xs : List Value} (h : w.ownsRow base e k v n xs) (q : Kept w w' r) (hr : ∀ g, v.ownBlock = some g → some g ≠ r) : w'.ownsRow base e k v n xs := by
  refine ⟨h.1, ?_⟩
  rcases id h.2 with ⟨rfl, h0⟩ | ⟨b, cap, cur, rfl, hb, hh, h4⟩
  · exact .inl ⟨rfl, h0⟩
  · exact .inr ⟨b, cap, cur, rfl, hb, (q.block b (Array.getElem?_eq_some_iff.1 hh).1 (hr _ rfl)).trans hh, h4⟩
theorem alloc_at8 (F : World) (cs : Array Value) (t : TypeId) {n j : Nat} {v : Value} (hz : F.heap.size = n) (hv : cs[j]? = some v) : (F.alloc (.cells cs t)).cell? ⟨n, j, none⟩ = some v := by
  subst hz
  simp only [World.cell?_alloc_mark]
  exact hv
theorem wp_app8 {o : Oper} {act : Act} {K : Act → World → Prop} {Q : Exit → Act → World → Prop} {w w' : World} {v u v' : Value} (s x : Operand) (t : TypeId) (ho : o.op = .call { callee := .builtin .append, args := #[s, x], argTypes := #[t, t] }) (hs : act.eval s = v) (hx : act.eval x = u)
    (hr : (Builtin.append_ #[t, t] o.type #[v, u]).run Tryd.prog w = .ok v' w') (h : K (act.put o.dst v') w') : o.wp Tryd.prog act w K Q := by
  unfold Oper.wp execOp
  simp only [ho, resolve, invoke, builtin, Sem.run_bind, Sem.run_pure, Result.andThen_ok, List.map_toArray, List.map_cons, List.map_nil, hs, hx, hr]
  exact h
def Ow8 {α : Type} (e : TypeId) (K : Nat) (f : α → Nat → Value) (d : α) (w : World) (base : Nat) (v : Value) (l : List α) : Prop := w.ownsRow base e K v l.length (cellsL l.length K (fun i j => f (l.getD i d) j))
theorem Ow8.nil {α : Type} (e : TypeId) (K : Nat) (f : α → Nat → Value) (d : α) (w : World) (base : Nat) : Ow8 e K f d w base (.slice none 0 0) [] := by
  unfold Ow8
  have h0 : cellsL ([] : List α).length K (fun i j => f (([] : List α).getD i d) j) = [] := by simp [cellsL]
  rw [h0]
  exact World.ownsRow_nil _ _ _ _
theorem Ow8.lt {α : Type} {e : TypeId} {K : Nat} {f : α → Nat → Value} {d : α} {w : World} {base : Nat} {v : Value} {l : List α} (h : Ow8 e K f d w base v l) : ∀ g, v.ownBlock = some g → base ≤ g ∧ g < w.heap.size := own_lt8 h
theorem Ow8.keptR {α : Type} {e : TypeId} {K : Nat} {f : α → Nat → Value} {d : α} {w w' : World} {base : Nat} {v : Value} {l : List α} {r : Option Nat} (h : Ow8 e K f d w base v l) (q : Kept w w' r) (hr : ∀ g, r = some g → g < base ∨ w.heap.size ≤ g) : Ow8 e K f d w' base v l := own_kept8 h q (fun g hg ec => by
  have h1 := own_lt8 h g hg
  rcases hr g ec.symm with q | q <;> omega)
theorem Ow8.lie {α : Type} {e : TypeId} {K : Nat} {f : α → Nat → Value} {d : α} {w : World} {base : Nat} {v : Value} {l : List α} (h : Ow8 e K f d w base v l) (hK : 0 < K) : ∃ a c, v = .slice a l.length c ∧ Lie w a l.length K (fun i j => f (l.getD i d) j) ∧ Cap a l.length c ∧ ∀ b, a = some b → base ≤ b.block ∧ b.block < w.heap.size := by
  obtain ⟨a, c, e1, h1, h2, h3⟩ := lie_own hK h
  exact ⟨a, c, e1, h1, h2, h3⟩
theorem getD_snoc8 {α : Type} (l : List α) (x d : α) (i : Nat) : (l ++ [x]).getD i d = if i = l.length then x else l.getD i d := by
  by_cases h : i = l.length
  · subst h; simp
  · rw [if_neg h]
    by_cases h2 : i < l.length
    · simp [h2, List.getElem?_append_left]
    · rw [List.getD_eq_getElem?_getD, List.getD_eq_getElem?_getD, List.getElem?_eq_none (by simp; omega), List.getElem?_eq_none (by omega)]
/-- One more behind. -/
theorem Ow8.grow {α : Type} {e t : TypeId} {K : Nat} {f : α → Nat → Value} {d : α} {w : World} {base : Nat} {v : Value} {l : List α} (h : Ow8 e K f d w base v l) (x : α) {cs : Array Value} (hcs : ∀ j, j < K → cs[j]? = some (f x j)) {inf : TypeInfo} {z : Value} {bytes : Nat} (ht : Tryd.prog.underlying t = some (.slice e)) (hi : Tryd.prog.info? e = some inf) (hz : inf.zero = some z) (hsize : inf.size = K) (hby : inf.bytes = bytes) (hzs : z.cells.size = K) (hK : 0 < K) (hbb : bytes ≤ 1000) (h1 : ∀ j, (f x j).oneCell' = true) (hn : l.length ≤ 900) (hb : base ≤ w.heap.size) :
    ∃ a' c' w', (Builtin.append_ #[t, t] t #[v, .slice (some ⟨w.heap.size, 0, none⟩) 1 1]).run Tryd.prog (w.alloc (.cells cs e)) = .ok (.slice a' (l.length + 1) c') w' ∧ Ow8 e K f d w' base (.slice a' (l.length + 1) c') (l ++ [x]) ∧ Kept w w' v.ownBlock := by
  have hk : Kept w (w.alloc (.cells cs e)) none := Kept.alloc _ _ _ _ _
  have hz4 : (w.alloc (.cells cs e)).heap.size = w.heap.size + 1 := by simp
  have hc : ∀ j, j < K → (w.alloc (.cells cs e)).cell? ⟨w.heap.size, 0 + j, none⟩ = some (f x j) := fun j hj => by
    rw [Nat.zero_add]
    exact alloc_at8 _ _ _ rfl (hcs j hj)
  have own4 : (w.alloc (.cells cs e)).ownsRow base e K v l.length (cellsL l.length K (fun i j => f (l.getD i d) j)) := own_kept8 h hk (fun g _ => by simp)
  obtain ⟨v', w', hr, g1, g2, g3⟩ := grow_run8 (t := t) (ty := t) (c := 1) ht hi hz hsize hby hzs hK hbb own4 hc h1 (by omega) (by omega)
  obtain ⟨a', c', rfl, _⟩ := lie_own hK g1
  refine ⟨a', c', w', hr, ?_, ?_⟩
  · unfold Ow8
    rw [List.length_append]
    have he : cellsL (l.length + 1) K (fun i j => if i = l.length then f x j else f (l.getD i d) j) = cellsL (l.length + [x].length) K (fun i j => f ((l ++ [x]).getD i d) j) := by
      show cellsL (l.length + 1) K _ = cellsL (l.length + 1) K _
      unfold cellsL
      refine List.map_congr_left fun q _ => ?_
      show (if q / K = l.length then f x (q % K) else f (l.getD (q / K) d) (q % K)) = f ((l ++ [x]).getD (q / K) d) (q % K)
      rw [getD_snoc8]
      split <;> rfl
    rw [← he]
    exact g1
  · have h2 : Kept (w.alloc (.cells cs e)) w' v.ownBlock := g2
    exact ⟨h2.os.trans hk.os, h2.tape.trans hk.tape, h2.output.trans hk.output, Nat.le_trans hk.size h2.size, fun i hi hne => (h2.block i (Nat.lt_of_lt_of_le hi hk.size) hne).trans (hk.block i hi (by simp))⟩


end Go.Proofs.YtkbhcpgdhbfhnaaDoor

/-
  THE DOCUMENT'S Start of layer 8; standings' groups of one's own (made by a program).
-/
namespace Go.Proofs.YtkbhcpgdhbfhnaaDoor
open Go.RowKit Go.Lib Go.Deep
set_option linter.unusedVariables false
set_option linter.unusedSimpArgs false

/-- Groups' standings of one's own. -/
abbrev SnS (w : World) (base : Nat) (v : Value) (l : List Sn) : Prop := Ow8 65 3 snV n0 w base v l
theorem SnS.shape {w : World} {base : Nat} {v : Value} {l : List Sn} (h : SnS w base v l) : ∃ a c, v = .slice a l.length c := by
  obtain ⟨a, c, e, _⟩ := Ow8.lie h (by omega)
  exact ⟨a, c, e⟩
theorem SnS.safe {w : World} {base : Nat} {a : Option Addr} {n c : Nat} {l : List Sn} (h : SnS w base (.slice a n c) l) {F : Sf} (hF : F.groups = l) (hr : ∀ s ∈ l, s.asp < 256 ∧ i64B s.since ∧ i64B s.ended) : n = l.length ∧ SafeAt w a c F := by
  obtain ⟨a', c', e, h1, h2, _⟩ := Ow8.lie h (by omega)
  injection e with e1 e2 e3
  subst e1 e2 e3
  refine ⟨rfl, ⟨?_, by rw [hF]; exact h2, by rw [hF]; exact hr⟩⟩
  rw [hF]
  unfold Sf.g
  rw [hF]
  exact h1
theorem SnS.own {w : World} {base : Nat} {a : Option Addr} {n c : Nat} {l : List Sn} (h : SnS w base (.slice a n c) l) (b : Addr) (e : a = some b) : base ≤ b.block := by
  obtain ⟨a', c', e0, h1, h2, h3⟩ := Ow8.lie h (by omega)
  injection e0 with e1 e2 e3
  exact (h3 b (by rw [← e1]; exact e)).1
theorem SnS.grow {w : World} {base : Nat} {v : Value} {l : List Sn} (h : SnS w base v l) (x : Sn) (hn : l.length ≤ 900) (hb : base ≤ w.heap.size) :
    ∃ a' c' w', (Builtin.append_ #[39, 39] 39 #[v, .slice (some ⟨w.heap.size, 0, none⟩) 1 1]).run Tryd.prog (w.alloc (.cells #[.int .u8 (x.asp : Int), .int .i64 x.since, .int .i64 x.ended] 65)) = .ok (.slice a' (l.length + 1) c') w' ∧ SnS w' base (.slice a' (l.length + 1) c') (l ++ [x]) ∧ Kept w w' v.ownBlock := by
  obtain ⟨i, hi, hz, hs, hby⟩ := info_parts Tryd.infoSeen
  exact Ow8.grow h x (cs := #[.int .u8 (x.asp : Int), .int .i64 x.since, .int .i64 x.ended]) (fun j hj => by
    have : j = 0 ∨ j = 1 ∨ j = 2 := by omega
    rcases this with rfl | rfl | rfl <;> rfl) Tryd.underlying39 hi hz hs hby rfl (by omega) (by omega) (fun j => by unfold snV; split <;> rfl) hn hb
theorem Box.set0 {w : World} {b : Nat} {v0 v1 v2 : Value} (h : Box w b v0 v1 v2) (v : Value) : Box (w.setCell ⟨b, 0, none⟩ v) b v v1 v2 :=
  ⟨World.cell?_setCell_same _ _ _ h.c0, (World.cell?_setCell_other _ _ _ _ (by simp)).trans h.c1, (World.cell?_setCell_other _ _ _ _ (by simp)).trans h.c2, (World.frozen?_setCell ..).trans h.f0, (World.frozen?_setCell ..).trans h.f1, (World.frozen?_setCell ..).trans h.f2, by simpa [World.setCell] using h.lt⟩
theorem Box.keptR {w w' : World} {b : Nat} {v0 v1 v2 : Value} {r : Option Nat} (h : Box w b v0 v1 v2) (k : Kept w w' r) (hr : some b ≠ r) : Box w' b v0 v1 v2 := by
  have e := k.block b h.lt hr
  exact ⟨(World.cell?_of_block (w := w) (a := ⟨b, 0, none⟩) e).trans h.c0, (World.cell?_of_block (w := w) (a := ⟨b, 1, none⟩) e).trans h.c1, (World.cell?_of_block (w := w) (a := ⟨b, 2, none⟩) e).trans h.c2, (World.frozen?_of_block (w := w) (a := ⟨b, 0, none⟩) e).trans h.f0, (World.frozen?_of_block (w := w) (a := ⟨b, 1, none⟩) e).trans h.f1, (World.frozen?_of_block (w := w) (a := ⟨b, 2, none⟩) e).trans h.f2, Nat.lt_of_lt_of_le h.lt k.size⟩
theorem SnS.setOther {w : World} {base : Nat} {v : Value} {l : List Sn} (h : SnS w base v l) {b i : Nat} (hb : b < base) (u : Value) : SnS (w.setCell ⟨b, i, none⟩ u) base v l :=
  Ow8.keptR h (r := some b) ⟨rfl, rfl, rfl, by simp [World.setCell], fun k hk hr => Below.heap_setCell _ _ _ _ (fun e => hr (by rw [e]))⟩ (fun g e => .inl (by injection e with e; omega))
set_option maxRecDepth 100000 in
set_option maxHeartbeats 4000000 in
theorem rstart_own {X : Sa} {S : St} {w : World} (h : Sat w X S) (hs : siteB S = true) : Calls Tryd.prog 35 #[siteV X S] w fun e w' => ∃ a c, e = .returned (.agg #[.slice a S.groups.length c, .int .i64 (worstM S), .bool false]) ∧ SafeAt w' a c (firstV S) ∧ (∀ b, a = some b → w.heap.size ≤ b.block) ∧ Kept w w' none := by
  have hng := (span_may hs).base.sh.ok.ng
  have k1 : Kept w (w.alloc (.cells #[.int .i64 S.id, .slice X.g S.groups.length X.gc, .slice X.a S.apart.length X.ac, .slice X.b S.between.length X.bc, .slice X.p S.phases.length X.pc, .slice X.e S.eyes.length X.ec, .int .i64 S.watch, .int .i64 S.feed, .int .i64 S.heal, .int .i64 S.low, .int .i64 S.high, .slice X.l S.plans.length X.lc] 34)) none := Kept.alloc _ _ _ _ _
  have k2 : Kept (w.alloc (.cells #[.int .i64 S.id, .slice X.g S.groups.length X.gc, .slice X.a S.apart.length X.ac, .slice X.b S.between.length X.bc, .slice X.p S.phases.length X.pc, .slice X.e S.eyes.length X.ec, .int .i64 S.watch, .int .i64 S.feed, .int .i64 S.heal, .int .i64 S.low, .int .i64 S.high, .slice X.l S.plans.length X.lc] 34)) ((w.alloc (.cells #[.int .i64 S.id, .slice X.g S.groups.length X.gc, .slice X.a S.apart.length X.ac, .slice X.b S.between.length X.bc, .slice X.p S.phases.length X.pc, .slice X.e S.eyes.length X.ec, .int .i64 S.watch, .int .i64 S.feed, .int .i64 S.heal, .int .i64 S.low, .int .i64 S.high, .slice X.l S.plans.length X.lc] 34)).alloc (.cells #[.slice none 0 0, .int .i64 0, .bool false] 41)) none := Kept.alloc _ _ _ _ _
  have hsb := (sbox_alloc h 34).kept k2
  have br := box_alloc (w.alloc (.cells #[.int .i64 S.id, .slice X.g S.groups.length X.gc, .slice X.a S.apart.length X.ac, .slice X.b S.between.length X.bc, .slice X.p S.phases.length X.pc, .slice X.e S.eyes.length X.ec, .int .i64 S.watch, .int .i64 S.feed, .int .i64 S.heal, .int .i64 S.low, .int .i64 S.high, .slice X.l S.plans.length X.lc] 34)) (.slice none 0 0) (.int .i64 0) (.bool false) 41
  have hsz : ((w.alloc (.cells #[.int .i64 S.id, .slice X.g S.groups.length X.gc, .slice X.a S.apart.length X.ac, .slice X.b S.between.length X.bc, .slice X.p S.phases.length X.pc, .slice X.e S.eyes.length X.ec, .int .i64 S.watch, .int .i64 S.feed, .int .i64 S.heal, .int .i64 S.low, .int .i64 S.high, .slice X.l S.plans.length X.lc] 34)).alloc (.cells #[.slice none 0 0, .int .i64 0, .bool false] 41)).heap.size = w.heap.size + 1 + 1 := by simp
  rw [World.size_alloc] at br
  have hkA := k1.tr k2
  obtain ⟨W2, hW2⟩ : ∃ W2, (w.alloc (.cells #[.int .i64 S.id, .slice X.g S.groups.length X.gc, .slice X.a S.apart.length X.ac, .slice X.b S.between.length X.bc, .slice X.p S.phases.length X.pc, .slice X.e S.eyes.length X.ec, .int .i64 S.watch, .int .i64 S.feed, .int .i64 S.heal, .int .i64 S.low, .int .i64 S.high, .slice X.l S.plans.length X.lc] 34)).alloc (.cells #[.slice none 0 0, .int .i64 0, .bool false] 41) = W2 := ⟨_, rfl⟩
  rw [hW2] at hsb br hkA hsz
  have HSB := Hid.mk' hsb
  have HBR := Hid.mk' br
  have HK := Hid.mk' hkA
  have HSZ := Hid.mk' hsz
  have hK0 := Kept.refl W2 none
  have s0_ : ∀ w', Kept W2 w' none → w'.cell? ⟨w.heap.size, 0, none⟩ = some (.int .i64 S.id) := fun w' q => (HSB.out.kept q).c0
  have s1_ : ∀ w', Kept W2 w' none → w'.cell? ⟨w.heap.size, 1, none⟩ = some (.slice X.g S.groups.length X.gc) := fun w' q => (HSB.out.kept q).c1
  have s2_ : ∀ w', Kept W2 w' none → w'.cell? ⟨w.heap.size, 2, none⟩ = some (.slice X.a S.apart.length X.ac) := fun w' q => (HSB.out.kept q).c2
  have s3_ : ∀ w', Kept W2 w' none → w'.cell? ⟨w.heap.size, 3, none⟩ = some (.slice X.b S.between.length X.bc) := fun w' q => (HSB.out.kept q).c3
  have s4_ : ∀ w', Kept W2 w' none → w'.cell? ⟨w.heap.size, 4, none⟩ = some (.slice X.p S.phases.length X.pc) := fun w' q => (HSB.out.kept q).c4
  have s5_ : ∀ w', Kept W2 w' none → w'.cell? ⟨w.heap.size, 5, none⟩ = some (.slice X.e S.eyes.length X.ec) := fun w' q => (HSB.out.kept q).c5
  have s6_ : ∀ w', Kept W2 w' none → w'.cell? ⟨w.heap.size, 6, none⟩ = some (.int .i64 S.watch) := fun w' q => (HSB.out.kept q).c6
  have s7_ : ∀ w', Kept W2 w' none → w'.cell? ⟨w.heap.size, 7, none⟩ = some (.int .i64 S.feed) := fun w' q => (HSB.out.kept q).c7
  have s8_ : ∀ w', Kept W2 w' none → w'.cell? ⟨w.heap.size, 8, none⟩ = some (.int .i64 S.heal) := fun w' q => (HSB.out.kept q).c8
  have s9_ : ∀ w', Kept W2 w' none → w'.cell? ⟨w.heap.size, 9, none⟩ = some (.int .i64 S.low) := fun w' q => (HSB.out.kept q).c9
  have s10_ : ∀ w', Kept W2 w' none → w'.cell? ⟨w.heap.size, 10, none⟩ = some (.int .i64 S.high) := fun w' q => (HSB.out.kept q).c10
  have s11_ : ∀ w', Kept W2 w' none → w'.cell? ⟨w.heap.size, 11, none⟩ = some (.slice X.l S.plans.length X.lc) := fun w' q => (HSB.out.kept q).c11
  clear h k1 k2 hsb br hkA hsz
  go_enter Tryd.func35, Tryd.ntmps35
  go_wp2_with (first | rw [hW2] | (go_at_call 58; refine (rgr8_any (HSB.out.sat.kept (by assumption)) hs).mono ?_; rintro e wG ⟨rfl, hkG⟩))
  have kN : Kept wG (wG.alloc (.cells #[.slice none 0 0, .int .i64 (worstM S), .bool false] 41)) none := Kept.alloc _ _ _ _ _
  have bN := box_alloc wG (.slice none 0 0) (.int .i64 (worstM S)) (.bool false) 41
  have hzN : (wG.alloc (.cells #[.slice none 0 0, .int .i64 (worstM S), .bool false] 41)).heap.size = wG.heap.size + 1 := by simp
  have hG2 := hkG.size
  rw [HSZ.out] at hG2
  obtain ⟨W3, hW3⟩ : ∃ W3, wG.alloc (.cells #[.slice none 0 0, .int .i64 (worstM S), .bool false] 41) = W3 := ⟨_, rfl⟩
  rw [hW3] at kN bN hzN ⊢
  have BN := Hid.mk' bN
  have KG := Hid.mk' hkG
  have HZN := Hid.mk' hzN
  have KN := Hid.mk' kN
  clear hW3 kN bN hzN
  go_loopw [4] (fun i wr => ∃ k : Nat, k ≤ S.groups.length ∧ i = .int .i64 k ∧ Kept wG wr none ∧ ∃ a c, Box wr wG.heap.size (.slice a k c) (.int .i64 (worstM S)) (.bool false) ∧ SnS wr (wG.heap.size + 1) (.slice a k c) (List.replicate k seen1) ∧ wG.heap.size + 1 ≤ wr.heap.size) (fun i _ => S.groups.length - (intOf i).toNat)
  case atStart => exact ⟨0, by omega, rfl, KN.out, none, 0, BN.out, Ow8.nil .., by rw [HZN.out]; exact Nat.le_refl _⟩
  case round =>
    obtain ⟨k, hk, rfl, hkw, a, c, hbx, hsn, hszw⟩ := hrel
    have hKw : Kept W2 wr none := hkG.tr hkw
    by_cases hlt : k < S.groups.length
    · have c0 := hbx.c0
      have z0 := hbx.f0
      obtain ⟨a5, c5, w5, hr5, hL5, hk5⟩ := SnS.grow hsn seen1 (by simp; omega) hszw
      rw [List.length_replicate] at hr5 hL5
      have hown := Ow8.lt hsn
      have hne : ∀ i, (Value.slice a k c).ownBlock = some i → i ≠ wG.heap.size := fun i e => by have := (hown i e).1; omega
      have bx5 : Box w5 wG.heap.size (.slice a k c) (.int .i64 (worstM S)) (.bool false) := hbx.keptR hk5 (fun e => hne _ e.symm rfl)
      have c0' := bx5.c0
      have z0' := bx5.f0
      have HR5 := Hid.mk' hr5
      have HBX5 := Hid.mk' bx5
      have HL5 := Hid.mk' hL5
      have HK5 : Hid (Kept wG w5 none) := hkw.newRow hk5 (fun i e => by have := (hown i e).1; omega)
      have hs5 := hk5.size
      clear hr5 bx5 hL5 hsn hown hne hk5 hbx hkw
      go_wp2_with (at_builtin; refine wpList_app8 (by rfl) _ _ _ (by rfl) (by rfl) (by rfl) HR5.out ?_)
      go_roundw
      case rel =>
        refine ⟨k + 1, by omega, by go_num, HK5.out.setNew (p := ⟨wG.heap.size, 0, none⟩) (Nat.le_refl _) _, a5, c5, HBX5.out.set0 _, ?_, by simp [World.setCell]; omega⟩
        rw [List.replicate_succ']
        exact SnS.setOther HL5.out (by omega) _
      case measure => simp [intOf]; omega
    · have e : k = S.groups.length := by omega
      subst e
      have c0 := hbx.c0
      have c1 := hbx.c1
      have c2 := hbx.c2
      have HBX := Hid.mk' hbx
      have HSN := Hid.mk' hsn
      have hbr := HBR.out.kept hKw
      have r0 := hbr.c0
      have r1 := hbr.c1
      have r2 := hbr.c2
      have y0 := hbr.f0
      have y1 := hbr.f1
      have y2 := hbr.f2
      have HKW := Hid.mk' hkw
      clear hbx hsn hbr hkw
      go_wp2
      have hsafe := SnS.safe (F := firstV S) (SnS.setOther (SnS.setOther (SnS.setOther HSN.out (b := w.heap.size + 1) (i := 0) (by omega) (.slice a S.groups.length c)) (b := w.heap.size + 1) (i := 1) (by omega) (.int .i64 (worstM S))) (b := w.heap.size + 1) (i := 2) (by omega) (.bool false)) rfl (fun s hs => by
        have := (List.mem_replicate.1 hs).2
        subst this
        unfold i64B; simp)
      refine bodyPost_ret (v := .agg #[.slice a S.groups.length c, .int .i64 (worstM S), .bool false]) (by simp [results, Tryd.results35, go_sem, r0, r1, r2]) rfl ⟨a, c, rfl, hsafe.2, (fun b e => by have := SnS.own HSN.out b e; omega), ?_⟩
      have hb : Kept w _ none := (HK.out.tr KG.out).tr HKW.out
      exact ((hb.setNew (by show w.heap.size ≤ w.heap.size + 1; omega) _).setNew (by show w.heap.size ≤ w.heap.size + 1; omega) _).setNew (by show w.heap.size ≤ w.heap.size + 1; omega) _
theorem rstart_any {X : Sa} {S : St} {w : World} (h : Sat w X S) (hs : siteB S = true) : Calls Tryd.prog 35 #[siteV X S] w fun e w' => ∃ a c, e = .returned (.agg #[.slice a S.groups.length c, .int .i64 (worstM S), .bool false]) ∧ SafeAt w' a c (firstV S) ∧ Kept w w' none := by
  refine (rstart_own h hs).mono ?_
  rintro e w' ⟨a, c, h1, h2, _, h3⟩
  exact ⟨a, c, h1, h2, h3⟩

end Go.Proofs.YtkbhcpgdhbfhnaaDoor

