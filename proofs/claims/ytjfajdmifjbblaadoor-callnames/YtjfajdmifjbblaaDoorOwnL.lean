/-
  OWN LISTS OF ANY KIND, one more behind.
-/
import Derived.Test.YtjfajdmifjbblaaDoorTwinA
import Derived.Maps.AppendAt
namespace Go.Proofs.YtjfajdmifjbblaaDoor
open Go.RowKit Go.Lib Go.Deep
set_option linter.unusedVariables false
set_option linter.unusedSimpArgs false

theorem cellsL_snoc8 {n k : Nat} {f : Nat → Nat → Value} {g : Nat → Value} (hk : 0 < k) : cellsL n k f ++ (List.range k).map g = cellsL (n + 1) k (fun i j => if i = n then g j else f i j) := by
  unfold cellsL
  rw [Nat.add_mul, Nat.one_mul, List.range_add, List.map_append]
  congr 1
  · refine List.map_congr_left fun q hq => ?_
    have h1 : q / k < n := by rw [Nat.div_lt_iff_lt_mul hk]; exact List.mem_range.1 hq
    show f (q / k) (q % k) = if q / k = n then g (q % k) else f (q / k) (q % k)
    rw [if_neg (by omega)]
  · rw [List.map_map]
    refine List.map_congr_left fun j hj => ?_
    have hj' := List.mem_range.1 hj
    have h3 : (n * k + j) / k = n := by rw [Nat.add_comm, Nat.add_mul_div_right _ _ hk, Nat.div_eq_of_lt hj', Nat.zero_add]
    have h4 : (n * k + j) % k = j := by rw [Nat.add_comm, Nat.add_mul_mod_self_right, Nat.mod_eq_of_lt hj']
    show g j = if (n * k + j) / k = n then g ((n * k + j) % k) else f ((n * k + j) / k) ((n * k + j) % k)
    rw [h3, h4, if_pos rfl]
/-- One more element. -/
theorem grow_run8 {w : World} {t ty e : TypeId} {i : TypeInfo} {z : Value} {k bytes : Nat} (ht : Tryd.prog.underlying t = some (.slice e)) (hi : Tryd.prog.info? e = some i) (hz : i.zero = some z) (hsize : i.size = k) (hby : i.bytes = bytes) (hzs : z.cells.size = k) (hk : 0 < k) (hbb : bytes ≤ 1000)
    {base n c : Nat} {v : Value} {f : Nat → Nat → Value} (hown : w.ownsRow base e k v n (cellsL n k f)) {b o : Nat} {g : Nat → Value} (hg : ∀ j, j < k → w.cell? ⟨b, o + j, none⟩ = some (g j)) (h1 : ∀ j, (g j).oneCell' = true) (hn : n ≤ 1000) (hbase : base ≤ w.heap.size) :
    ∃ v' w', (Builtin.append_ #[t, t] ty #[v, .slice (some ⟨b, o, none⟩) 1 c]).run Tryd.prog w = .ok v' w' ∧ w'.ownsRow base e k v' (n + 1) (cellsL (n + 1) k (fun i j => if i = n then g j else f i j)) ∧ w.grownBy w' v.ownBlock ∧ (v'.ownBlock = v.ownBlock ∨ v'.ownBlock = some w.heap.size) := by
  have hbytes : (n + 1) * bytes ≤ 140737488355328 := by
    have h2 : (n + 1) * bytes ≤ 1001 * 1000 := Nat.mul_le_mul (by omega) hbb
    omega
  obtain ⟨v', w', hr, h2, h3, _, h5⟩ := run_append_own_at (P := Tryd.prog) w base t ty e i z k bytes ht hi hz hsize hby hzs hk v n _ hown ⟨b, o, none⟩ 1 c ((List.range k).map g) (by simp) (fun j u hu => by
    rw [List.getElem?_map] at hu
    have hj : j < k := by
      by_cases h : j < k
      · exact h
      · rw [List.getElem?_eq_none (by simpa using h)] at hu; simp at hu
    rw [List.getElem?_range hj] at hu
    rw [Addr.add_lit, hg j hj]
    exact hu) (fun u hu => by
    simp only [List.mem_map] at hu
    obtain ⟨x, _, rfl⟩ := hu
    exact h1 x) (by unfold maxLen; omega) hbytes hbase
  rw [cellsL_snoc8 hk] at h2
  exact ⟨v', w', hr, h2, h3, h5⟩
theorem wpList_app8 {ops : Array Oper} {rest : List Oper} {o : Oper} {act : Act} {Q : Exit → Act → World → Prop} {w w' : World} {v u v' : Value} (hgd : o.guard = none) (s x : Operand) (t : TypeId) (ho : o.op = .call { callee := .builtin .append, args := #[s, x], argTypes := #[t, t] }) (hs : act.eval s = v) (hx : act.eval x = u)
    (hr : (Builtin.append_ #[t, t] o.type #[v, u]).run Tryd.prog w = .ok v' w') (h : wpList Tryd.prog ops Q rest (act.put o.dst v') w') : wpList Tryd.prog ops Q (o :: rest) act w :=
  wpList_plain hgd fun K hK => by
    unfold Oper.wp execOp
    simp only [ho, resolve, invoke, builtin, Sem.run_bind, Sem.run_pure, Result.andThen_ok, List.map_toArray, List.map_cons, List.map_nil, hs, hx, hr]
    exact hK _ _ h
theorem own_lt8 {w : World} {base n k : Nat} {e : TypeId} {v : Value} {xs : List Value} (h : w.ownsRow base e k v n xs) : ∀ g, v.ownBlock = some g → base ≤ g ∧ g < w.heap.size := fun g hg => by
  rcases id h.2 with ⟨rfl, _⟩ | ⟨b, cap, cur, rfl, hb, hh, _⟩
  · cases hg
  · injection hg with hg
    subst hg
    exact ⟨hb, (Array.getElem?_eq_some_iff.1 hh).1⟩
theorem own_kept8 {w w' : World} {r : Option Nat} {base n k : Nat} {e : TypeId} {v : Value} {xs : List Value} (h : w.ownsRow base e k v n xs) (q : Kept w w' r) (hr : ∀ g, v.ownBlock = some g → some g ≠ r) : w'.ownsRow base e k v n xs := by
  refine ⟨h.1, ?_⟩
  rcases id h.2 with ⟨rfl, h0⟩ | ⟨b, cap, cur, rfl, hb, hh, h4⟩
  · exact .inl ⟨rfl, h0⟩
  · exact .inr ⟨b, cap, cur, rfl, hb, (q.block b (Array.getElem?_eq_some_iff.1 hh).1 (hr _ rfl)).trans hh, h4⟩
theorem alloc_at8 (F : World) (cs : Array Value) (t : TypeId) {n j : Nat} {v : Value} (hz : F.heap.size = n) (hv : cs[j]? = some v) : (F.alloc (.cells cs t)).cell? ⟨n, j, none⟩ = some v := by
  subst hz
  simp only [World.cell?_alloc_mark]
  exact hv
theorem wp_app8 {o : Oper} {act : Act} {K : Act → World → Prop} {Q : Exit → Act → World → Prop} {w w' : World} {v u v' : Value} (s x : Operand) (t : TypeId) (ho : o.op = .call { callee := .builtin .append, args := #[s, x], argTypes := #[t, t] }) (hs : act.eval s = v) (hx : act.eval x = u)
    (hr : (Builtin.append_ #[t, t] o.type #[v, u]).run Tryd.prog w = .ok v' w') (h : K (act.put o.dst v') w') : o.wp Tryd.prog act w K Q := by
  unfold Oper.wp execOp
  simp only [ho, resolve, invoke, builtin, Sem.run_bind, Sem.run_pure, Result.andThen_ok, List.map_toArray, List.map_cons, List.map_nil, hs, hx, hr]
  exact h
def Ow8 {α : Type} (e : TypeId) (K : Nat) (f : α → Nat → Value) (d : α) (w : World) (base : Nat) (v : Value) (l : List α) : Prop := w.ownsRow base e K v l.length (cellsL l.length K (fun i j => f (l.getD i d) j))
theorem Ow8.nil {α : Type} (e : TypeId) (K : Nat) (f : α → Nat → Value) (d : α) (w : World) (base : Nat) : Ow8 e K f d w base (.slice none 0 0) [] := by
  unfold Ow8
  have h0 : cellsL ([] : List α).length K (fun i j => f (([] : List α).getD i d) j) = [] := by simp [cellsL]
  rw [h0]
  exact World.ownsRow_nil _ _ _ _
theorem Ow8.lt {α : Type} {e : TypeId} {K : Nat} {f : α → Nat → Value} {d : α} {w : World} {base : Nat} {v : Value} {l : List α} (h : Ow8 e K f d w base v l) : ∀ g, v.ownBlock = some g → base ≤ g ∧ g < w.heap.size := own_lt8 h
theorem Ow8.keptR {α : Type} {e : TypeId} {K : Nat} {f : α → Nat → Value} {d : α} {w w' : World} {base : Nat} {v : Value} {l : List α} {r : Option Nat} (h : Ow8 e K f d w base v l) (q : Kept w w' r) (hr : ∀ g, r = some g → g < base ∨ w.heap.size ≤ g) : Ow8 e K f d w' base v l := own_kept8 h q (fun g hg ec => by
  have h1 := own_lt8 h g hg
  rcases hr g ec.symm with q | q <;> omega)
theorem Ow8.lie {α : Type} {e : TypeId} {K : Nat} {f : α → Nat → Value} {d : α} {w : World} {base : Nat} {v : Value} {l : List α} (h : Ow8 e K f d w base v l) (hK : 0 < K) : ∃ a c, v = .slice a l.length c ∧ Lie w a l.length K (fun i j => f (l.getD i d) j) ∧ Cap a l.length c ∧ ∀ b, a = some b → base ≤ b.block ∧ b.block < w.heap.size := by
  obtain ⟨a, c, e1, h1, h2, h3⟩ := lie_own hK h
  exact ⟨a, c, e1, h1, h2, h3⟩
theorem getD_snoc8 {α : Type} (l : List α) (x d : α) (i : Nat) : (l ++ [x]).getD i d = if i = l.length then x else l.getD i d := by
  by_cases h : i = l.length
  · subst h; simp
  · rw [if_neg h]
    by_cases h2 : i < l.length
    · simp [h2, List.getElem?_append_left]
    · rw [List.getD_eq_getElem?_getD, List.getD_eq_getElem?_getD, List.getElem?_eq_none (by simp; omega), List.getElem?_eq_none (by omega)]
/-- One more behind. -/
theorem Ow8.grow {α : Type} {e t : TypeId} {K : Nat} {f : α → Nat → Value} {d : α} {w : World} {base : Nat} {v : Value} {l : List α} (h : Ow8 e K f d w base v l) (x : α) {cs : Array Value} (hcs : ∀ j, j < K → cs[j]? = some (f x j)) {inf : TypeInfo} {z : Value} {bytes : Nat} (ht : Tryd.prog.underlying t = some (.slice e)) (hi : Tryd.prog.info? e = some inf) (hz : inf.zero = some z) (hsize : inf.size = K) (hby : inf.bytes = bytes) (hzs : z.cells.size = K) (hK : 0 < K) (hbb : bytes ≤ 1000) (h1 : ∀ j, (f x j).oneCell' = true) (hn : l.length ≤ 900) (hb : base ≤ w.heap.size) :
    ∃ a' c' w', (Builtin.append_ #[t, t] t #[v, .slice (some ⟨w.heap.size, 0, none⟩) 1 1]).run Tryd.prog (w.alloc (.cells cs e)) = .ok (.slice a' (l.length + 1) c') w' ∧ Ow8 e K f d w' base (.slice a' (l.length + 1) c') (l ++ [x]) ∧ Kept w w' v.ownBlock := by
  have hk : Kept w (w.alloc (.cells cs e)) none := Kept.alloc _ _ _ _ _
  have hz4 : (w.alloc (.cells cs e)).heap.size = w.heap.size + 1 := by simp
  have hc : ∀ j, j < K → (w.alloc (.cells cs e)).cell? ⟨w.heap.size, 0 + j, none⟩ = some (f x j) := fun j hj => by
    rw [Nat.zero_add]
    exact alloc_at8 _ _ _ rfl (hcs j hj)
  have own4 : (w.alloc (.cells cs e)).ownsRow base e K v l.length (cellsL l.length K (fun i j => f (l.getD i d) j)) := own_kept8 h hk (fun g _ => by simp)
  obtain ⟨v', w', hr, g1, g2, g3⟩ := grow_run8 (t := t) (ty := t) (c := 1) ht hi hz hsize hby hzs hK hbb own4 hc h1 (by omega) (by omega)
  obtain ⟨a', c', rfl, _⟩ := lie_own hK g1
  refine ⟨a', c', w', hr, ?_, ?_⟩
  · unfold Ow8
    rw [List.length_append]
    have he : cellsL (l.length + 1) K (fun i j => if i = l.length then f x j else f (l.getD i d) j) = cellsL (l.length + [x].length) K (fun i j => f ((l ++ [x]).getD i d) j) := by
      show cellsL (l.length + 1) K _ = cellsL (l.length + 1) K _
      unfold cellsL
      refine List.map_congr_left fun q _ => ?_
      show (if q / K = l.length then f x (q % K) else f (l.getD (q / K) d) (q % K)) = f ((l ++ [x]).getD (q / K) d) (q % K)
      rw [getD_snoc8]
      split <;> rfl
    rw [← he]
    exact g1
  · have h2 : Kept (w.alloc (.cells cs e)) w' v.ownBlock := g2
    exact ⟨h2.os.trans hk.os, h2.tape.trans hk.tape, h2.output.trans hk.output, Nat.le_trans hk.size h2.size, fun i hi hne => (h2.block i (Nat.lt_of_lt_of_le hi hk.size) hne).trans (hk.block i hi (by simp))⟩


end Go.Proofs.YtjfajdmifjbblaaDoor
