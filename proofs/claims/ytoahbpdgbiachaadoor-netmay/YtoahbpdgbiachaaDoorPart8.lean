/-
  Part 8 of the texts that the proofs of this seat stand on.
-/
import Derived.Test.YtoahbpdgbiachaaDoorPart7
import Derived.Laws.MakeOwn
import Derived.Test.YtoahbpdgbiachaaDoorPart2
import Derived.Deep.RegionHeld
/-
  PLANS IN NEW MEMORY.
-/
namespace Go.Proofs.YtoahbpdgbiachaaDoor
open Go.RowKit Go.Lib Go.Deep
set_option linter.unusedVariables false
set_option linter.unusedSimpArgs false

theorem Tryd.infoPl : (Tryd.prog.info? 113).map (fun i => (i.zero, i.size, i.bytes)) = some (some (.agg #[.int .i64 0, .int .i64 0, .slice none 0 0]), 3, 40) := by kernel_rfl
theorem Tryd.infoIn : (Tryd.prog.info? 3).map (fun i => (i.zero, i.size, i.bytes)) = some (some (.int .i64 0), 1, 8) := by kernel_rfl
theorem Tryd.uPls : Tryd.prog.underlying 46 = some (.slice 113) := by kernel_rfl
theorem Tryd.uIns : Tryd.prog.underlying 31 = some (.slice 3) := by kernel_rfl
theorem cellsL_snoc {n k : Nat} {f : Nat → Nat → Value} {g : Nat → Value} (hk : 0 < k) : cellsL n k f ++ (List.range k).map g = cellsL (n + 1) k (fun i j => if i = n then g j else f i j) := by
  unfold cellsL
  rw [Nat.add_mul, Nat.one_mul, List.range_add, List.map_append]
  congr 1
  · refine List.map_congr_left fun q hq => ?_
    have h1 : q / k < n := by rw [Nat.div_lt_iff_lt_mul hk]; exact List.mem_range.1 hq
    show f (q / k) (q % k) = if q / k = n then g (q % k) else f (q / k) (q % k)
    rw [if_neg (by omega)]
  · rw [List.map_map]
    refine List.map_congr_left fun j hj => ?_
    have hj' := List.mem_range.1 hj
    have h3 : (n * k + j) / k = n := by rw [Nat.add_comm, Nat.add_mul_div_right _ _ hk, Nat.div_eq_of_lt hj', Nat.zero_add]
    have h4 : (n * k + j) % k = j := by rw [Nat.add_comm, Nat.add_mul_mod_self_right, Nat.mod_eq_of_lt hj']
    show g j = if (n * k + j) / k = n then g ((n * k + j) % k) else f ((n * k + j) / k) ((n * k + j) % k)
    rw [h3, h4, if_pos rfl]
/-- One more element. -/
theorem grow_run {w : World} {t ty e : TypeId} {i : TypeInfo} {z : Value} {k bytes : Nat} (ht : Tryd.prog.underlying t = some (.slice e)) (hi : Tryd.prog.info? e = some i) (hz : i.zero = some z) (hsize : i.size = k) (hby : i.bytes = bytes) (hzs : z.cells.size = k) (hk : 0 < k) (hbb : bytes ≤ 1000)
    {base n c : Nat} {v : Value} {f : Nat → Nat → Value} (hown : w.ownsRow base e k v n (cellsL n k f)) {b o : Nat} {g : Nat → Value} (hg : ∀ j, j < k → w.cell? ⟨b, o + j, none⟩ = some (g j)) (h1 : ∀ j, (g j).oneCell' = true) (hn : n ≤ 1000) (hbase : base ≤ w.heap.size) :
    ∃ v' w', (Builtin.append_ #[t, t] ty #[v, .slice (some ⟨b, o, none⟩) 1 c]).run Tryd.prog w = .ok v' w' ∧ w'.ownsRow base e k v' (n + 1) (cellsL (n + 1) k (fun i j => if i = n then g j else f i j)) ∧ w.grownBy w' v.ownBlock ∧ (v'.ownBlock = v.ownBlock ∨ v'.ownBlock = some w.heap.size) := by
  have hbytes : (n + 1) * bytes ≤ 140737488355328 := by
    have h2 : (n + 1) * bytes ≤ 1001 * 1000 := Nat.mul_le_mul (by omega) hbb
    omega
  obtain ⟨v', w', hr, h2, h3, _, h5⟩ := run_append_own_at (P := Tryd.prog) w base t ty e i z k bytes ht hi hz hsize hby hzs hk v n _ hown ⟨b, o, none⟩ 1 c ((List.range k).map g) (by simp) (fun j u hu => by
    rw [List.getElem?_map] at hu
    have hj : j < k := by
      by_cases h : j < k
      · exact h
      · rw [List.getElem?_eq_none (by simpa using h)] at hu; simp at hu
    rw [List.getElem?_range hj] at hu
    rw [Addr.add_lit, hg j hj]
    exact hu) (fun u hu => by
    simp only [List.mem_map] at hu
    obtain ⟨x, _, rfl⟩ := hu
    exact h1 x) (by unfold maxLen; omega) hbytes hbase
  rw [cellsL_snoc hk] at h2
  exact ⟨v', w', hr, h2, h3, h5⟩
theorem wpList_app {ops : Array Oper} {rest : List Oper} {o : Oper} {act : Act} {Q : Exit → Act → World → Prop} {w w' : World} {v u v' : Value} (hgd : o.guard = none) (s x : Operand) (t : TypeId) (ho : o.op = .call { callee := .builtin .append, args := #[s, x], argTypes := #[t, t] }) (hs : act.eval s = v) (hx : act.eval x = u)
    (hr : (Builtin.append_ #[t, t] o.type #[v, u]).run Tryd.prog w = .ok v' w') (h : wpList Tryd.prog ops Q rest (act.put o.dst v') w') : wpList Tryd.prog ops Q (o :: rest) act w :=
  wpList_plain hgd fun K hK => by
    unfold Oper.wp execOp
    simp only [ho, resolve, invoke, builtin, Sem.run_bind, Sem.run_pure, Result.andThen_ok, List.map_toArray, List.map_cons, List.map_nil, hs, hx, hr]
    exact hK _ _ h
theorem Ints.keptS {w w' : World} {r : Option Nat} {a : Option Addr} {n c : Nat} {l : List Int} (h : Ints w a n c l) (q : Kept w w' r) (hr : ∀ b, a = some b → some b.block ≠ r) : Ints w' a n c l :=
  ⟨⟨fun hp => by
    obtain ⟨b, off, rfl, hb, hc⟩ := h.lie.at_ hp
    exact ⟨b, off, rfl, Nat.lt_of_lt_of_le hb q.size, fun i hi j hj => cell_keptR (hc i hi j hj) q (hr _ rfl)⟩⟩, h.size, h.cap, h.rng⟩
theorem ints_lt {w : World} {a : Option Addr} {n c : Nat} {l : List Int} (h : Ints w a n c l) (hp : 0 < n) : ∀ b, a = some b → b.block < w.heap.size := fun b e => by
  obtain ⟨b', off, e', hb, _⟩ := h.lie.at_ hp
  rw [e] at e'
  injection e' with e'
  subst e'
  exact hb
/-- As many plans as were met lie in new memory. -/
structure Tp (w : World) (l : List Pl) (wr : World) (k : Nat) (v : Value) : Prop where
  ex : ∃ r : Nat → Option Addr × Nat, wr.ownsRow w.heap.size 113 3 v k (cellsL k 3 (fun i j => plV (l.getD i q0) (r i).1 (r i).2 j)) ∧ (∀ i, i < k → Ints wr (r i).1 (l.getD i q0).splits.length (r i).2 (l.getD i q0).splits) ∧ (∀ i, i < k → ∀ b, (r i).1 = some b → v.ownBlock ≠ some b.block ∧ b.block < wr.heap.size ∧ w.heap.size ≤ b.block)
  kept : Kept w wr none
theorem own_lt {w : World} {base n k : Nat} {e : TypeId} {v : Value} {xs : List Value} (h : w.ownsRow base e k v n xs) : ∀ g, v.ownBlock = some g → base ≤ g ∧ g < w.heap.size := fun g hg => by
  rcases id h.2 with ⟨rfl, _⟩ | ⟨b, cap, cur, rfl, hb, hh, _⟩
  · cases hg
  · injection hg with hg
    subst hg
    exact ⟨hb, (Array.getElem?_eq_some_iff.1 hh).1⟩
theorem own_keptR' {w w' : World} {r : Option Nat} {base n k : Nat} {e : TypeId} {v : Value} {xs : List Value} (h : w.ownsRow base e k v n xs) (q : Kept w w' r) (hr : ∀ g, v.ownBlock = some g → some g ≠ r) : w'.ownsRow base e k v n xs := by
  refine ⟨h.1, ?_⟩
  rcases id h.2 with ⟨rfl, h0⟩ | ⟨b, cap, cur, rfl, hb, hh, h4⟩
  · exact .inl ⟨rfl, h0⟩
  · exact .inr ⟨b, cap, cur, rfl, hb, (q.block b (Array.getElem?_eq_some_iff.1 hh).1 (hr _ rfl)).trans hh, h4⟩
theorem alloc_at2 (F : World) (cs : Array Value) (t : TypeId) {n j : Nat} {v : Value} (hz : F.heap.size = n) (hv : cs[j]? = some v) : (F.alloc (.cells cs t)).cell? ⟨n, j, none⟩ = some v := by
  subst hz
  simp only [World.cell?_alloc_mark]
  exact hv
abbrev plB (p : Pl) (a : Option Addr) (c : Nat) : Obj := .cells #[.int .i64 p.cycle, .int .i64 p.offset, .slice a p.splits.length c] 113
theorem Tp.step {w wr W2 : World} {l : List Pl} {k : Nat} {v : Value} {ar a' : Option Addr} {cr cap : Nat} (h : Tp w l wr k v) (hk : k ≤ 40)
    (h2 : Kept (wr.alloc (plB (l.getD k q0) ar cr)) W2 none) (hI : Ints W2 a' (l.getD k q0).splits.length cap (l.getD k q0).splits) (hf : ∀ b, a' = some b → (wr.alloc (plB (l.getD k q0) ar cr)).heap.size ≤ b.block) (hl : ∀ b, a' = some b → b.block < W2.heap.size) :
    ∃ v' W5, (Builtin.append_ #[46, 46] 46 #[v, .slice (some ⟨W2.heap.size, 0, none⟩) 1 1]).run Tryd.prog ((W2.setCell ⟨wr.heap.size, 2, none⟩ (.slice a' (l.getD k q0).splits.length cap)).alloc (plB (l.getD k q0) a' cap)) = .ok v' W5 ∧ Tp w l W5 (k + 1) v' := by
  obtain ⟨⟨r, ho, hi, hb⟩, hkw⟩ := h
  obtain ⟨i0, hi0, hz0, hz1, hz2⟩ := info_parts Tryd.infoPl
  generalize hp : l.getD k q0 = p at *
  have hz : (wr.alloc (plB p ar cr)).heap.size = wr.heap.size + 1 := by simp
  have k1 : Kept wr W2 none := (Kept.alloc wr _ _ _ _).tr h2
  have k3 : Kept W2 (W2.setCell ⟨wr.heap.size, 2, none⟩ (.slice a' p.splits.length cap)) (some wr.heap.size) := kept_setZ _ _ _ _
  have z3 : (W2.setCell ⟨wr.heap.size, 2, none⟩ (.slice a' p.splits.length cap)).heap.size = W2.heap.size := by simp [World.setCell]
  have k4 : Kept (W2.setCell ⟨wr.heap.size, 2, none⟩ (.slice a' p.splits.length cap)) ((W2.setCell ⟨wr.heap.size, 2, none⟩ (.slice a' p.splits.length cap)).alloc (plB p a' cap)) none := Kept.alloc _ _ _ _ _
  have s2 := h2.size
  rw [hz] at s2
  have sw := hkw.size
  have z4 : ((W2.setCell ⟨wr.heap.size, 2, none⟩ (.slice a' p.splits.length cap)).alloc (plB p a' cap)).heap.size = W2.heap.size + 1 := by simp [World.setCell]
  have q0' : ∀ j, j < 3 → ((W2.setCell ⟨wr.heap.size, 2, none⟩ (.slice a' p.splits.length cap)).alloc (plB p a' cap)).cell? ⟨W2.heap.size, 0 + j, none⟩ = some (plV p a' cap j) := fun j hj => by
    have : j = 0 ∨ j = 1 ∨ j = 2 := by omega
    rw [Nat.zero_add]
    refine alloc_at2 _ _ _ z3 ?_
    rcases this with rfl | rfl | rfl <;> rfl
  generalize (W2.setCell ⟨wr.heap.size, 2, none⟩ (.slice a' p.splits.length cap)) = W3 at *
  generalize (W3.alloc (plB p a' cap)) = W4 at *
  have hol := own_lt ho
  have own4 : W4.ownsRow w.heap.size 113 3 v k (cellsL k 3 (fun i j => plV (l.getD i q0) (r i).1 (r i).2 j)) :=
    own_keptR' (own_keptR' (own_keptR' ho k1 (fun g _ => by simp)) k3 (fun g hg e => by have := (hol g hg).2; cases e; omega)) k4 (fun g _ => by simp)
  obtain ⟨v', W5, hr, g1, g2, g3⟩ := grow_run (t := 46) (ty := 46) (c := 1) Tryd.uPls hi0 hz0 hz1 hz2 rfl (by omega) (by omega) own4 q0' (fun j => by unfold plV; split <;> rfl) (by omega) (by omega)
  have bl : ∀ b, (∃ i, i < k ∧ (r i).1 = some b) → v.ownBlock ≠ some b.block ∧ b.block < wr.heap.size ∧ w.heap.size ≤ b.block := fun b ⟨i, hik, e⟩ => hb i hik b e
  have vfr : ∀ g, v'.ownBlock = some g → v.ownBlock = some g ∨ g = W4.heap.size := fun g hg => by
    rcases g3 with e | e
    · exact .inl (e.symm.trans hg)
    · rw [e] at hg; injection hg with hg; exact .inr hg.symm
  refine ⟨v', W5, hr, ⟨fun i => if i = k then (a', cap) else r i, ?_, fun i hik => ?_, fun i hik b e => ?_⟩, ?_⟩
  · have he : cellsL (k + 1) 3 (fun i j => if i = k then plV p a' cap j else plV (l.getD i q0) (r i).1 (r i).2 j) = cellsL (k + 1) 3 (fun i j => plV (l.getD i q0) ((if i = k then (a', cap) else r i) : Option Addr × Nat).1 ((if i = k then (a', cap) else r i) : Option Addr × Nat).2 j) := by
      unfold cellsL
      refine List.map_congr_left fun q _ => ?_
      show (if q / 3 = k then plV p a' cap (q % 3) else plV (l.getD (q / 3) q0) (r (q / 3)).1 (r (q / 3)).2 (q % 3)) = plV (l.getD (q / 3) q0) ((if q / 3 = k then (a', cap) else r (q / 3)) : Option Addr × Nat).1 ((if q / 3 = k then (a', cap) else r (q / 3)) : Option Addr × Nat).2 (q % 3)
      by_cases e : q / 3 = k
      · rw [if_pos e, if_pos e, e, hp]
      · rw [if_neg e, if_neg e]
    rw [← he]
    exact g1
  · show Ints W5 ((if i = k then (a', cap) else r i) : Option Addr × Nat).1 (l.getD i q0).splits.length ((if i = k then (a', cap) else r i) : Option Addr × Nat).2 (l.getD i q0).splits
    by_cases e : i = k
    · rw [if_pos e, e, hp]
      refine ((hI.keptS k3 (fun b eb ec => ?_)).kept k4).keptS g2 (fun b eb ec => ?_)
      · have := hf b eb
        rw [hz] at this
        injection ec with ec
        omega
      · have := hf b eb
        rw [hz] at this
        have h7 := (hol _ ec.symm).2
        omega
    · rw [if_neg e]
      have h8 := hi i (by omega)
      refine (((h8.kept k1).keptS k3 (fun b eb ec => ?_)).kept k4).keptS g2 (fun b eb ec => ?_)
      · have := (hb i (by omega) b eb).2.1
        injection ec with ec
        omega
      · exact (hb i (by omega) b eb).1 ec.symm
  · have s5 := g2.size
    change ((if i = k then (a', cap) else r i) : Option Addr × Nat).1 = some b at e
    by_cases ek : i = k
    · rw [if_pos ek] at e
      have h6 := hf b e
      rw [hz] at h6
      have h9 := hl b e
      refine ⟨fun ec => ?_, by omega, by omega⟩
      rcases vfr _ ec with h7 | h7
      · have := (hol _ h7).2
        omega
      · omega
    · rw [if_neg ek] at e
      have h6 := hb i (by omega) b e
      refine ⟨fun ec => ?_, by omega, h6.2.2⟩
      rcases vfr _ ec with h7 | h7
      · exact h6.1 h7
      · omega
  · have h5 : Kept w W4 none := by
      refine ⟨k4.os.trans (k3.os.trans (k1.os.trans hkw.os)), k4.tape.trans (k3.tape.trans (k1.tape.trans hkw.tape)), k4.output.trans (k3.output.trans (k1.output.trans hkw.output)), by omega, fun b hbw _ => ?_⟩
      exact (k4.block b (by omega) (by simp)).trans ((k3.block b (by omega) (fun e => by injection e with e; omega)).trans ((hkw.tr k1).block b hbw (by simp)))
    refine ⟨g2.os.trans h5.os, g2.tape.trans h5.tape, g2.output.trans h5.output, Nat.le_trans h5.size g2.size, fun b hbw _ => ?_⟩
    exact (g2.block b (by omega) (fun e => by have := (hol _ e.symm).1; omega)).trans (h5.block b hbw (by simp))

end Go.Proofs.YtoahbpdgbiachaaDoor

/-
  LISTS OF ONE'S OWN: numbers, one more behind.
-/
namespace Go.Proofs.YtoahbpdgbiachaaDoor
open Go.RowKit Go.Lib Go.Deep
set_option linter.unusedVariables false
set_option linter.unusedSimpArgs false

/-- A list of numbers in memory that lies behind a base. -/
def OwI (w : World) (base : Nat) (v : Value) (l : List Int) : Prop := w.ownsRow base 3 1 v l.length (cellsL l.length 1 (fun i _ => .int .i64 (l.getD i 0)))
theorem OwI.nil (w : World) (base : Nat) : OwI w base (.slice none 0 0) [] := World.ownsRow_nil _ _ _ _
theorem OwI.keptR {w w' : World} {r : Option Nat} {base : Nat} {v : Value} {l : List Int} (h : OwI w base v l) (q : Kept w w' r) (hr : ∀ g, v.ownBlock = some g → some g ≠ r) : OwI w' base v l := own_keptR' h q hr
theorem OwI.kept {w w' : World} {base : Nat} {v : Value} {l : List Int} (h : OwI w base v l) (q : Kept w w' none) : OwI w' base v l := h.keptR q (fun g _ => by simp)
theorem OwI.ints {w : World} {base : Nat} {v : Value} {l : List Int} (h : OwI w base v l) (hr : ∀ x ∈ l, -9223372036854775808 ≤ x ∧ x ≤ 9223372036854775807) : ∃ a c, v = .slice a l.length c ∧ Ints w a l.length c l ∧ ∀ b, a = some b → base ≤ b.block ∧ b.block < w.heap.size := by
  obtain ⟨a, cap, e, h1, h2, h3⟩ := lie_own (by omega) h
  exact ⟨a, cap, e, ⟨h1, rfl, h2, hr⟩, h3⟩
theorem getD_snoc (l : List Int) (x : Int) (i : Nat) : (l ++ [x]).getD i 0 = if i = l.length then x else l.getD i 0 := by
  by_cases h : i = l.length
  · subst h; simp
  · rw [if_neg h]
    by_cases h2 : i < l.length
    · simp [h2, List.getElem?_append_left]
    · rw [List.getD_eq_getElem?_getD, List.getD_eq_getElem?_getD, List.getElem?_eq_none (by simp; omega), List.getElem?_eq_none (by omega)]
theorem OwI.grow {w : World} {base : Nat} {v : Value} {l : List Int} (h : OwI w base v l) (x : Int) (hn : l.length ≤ 1000) (hb : base ≤ w.heap.size) :
    ∃ v' w', (Builtin.append_ #[31, 31] 31 #[v, .slice (some ⟨w.heap.size, 0, none⟩) 1 1]).run Tryd.prog (w.alloc (.cells #[.int .i64 x] 3)) = .ok v' w' ∧ OwI w' base v' (l ++ [x]) ∧ Kept w w' v.ownBlock ∧ (v'.ownBlock = v.ownBlock ∨ v'.ownBlock = some (w.heap.size + 1)) := by
  obtain ⟨i0, hi0, hz0, hz1, hz2⟩ := info_parts Tryd.infoIn
  have hk : Kept w (w.alloc (.cells #[.int .i64 x] 3)) none := Kept.alloc _ _ _ _ _
  have hz : (w.alloc (.cells #[.int .i64 x] 3)).heap.size = w.heap.size + 1 := by simp
  have hc : ∀ j, j < 1 → (w.alloc (.cells #[.int .i64 x] 3)).cell? ⟨w.heap.size, 0 + j, none⟩ = some (.int .i64 x) := fun j hj => by
    have : j = 0 := by omega
    subst this
    simp [World.cell?_alloc_mark]
  obtain ⟨v', w', hr, g1, g2, g3⟩ := grow_run (t := 31) (ty := 31) (c := 1) (g := fun _ => .int .i64 x) Tryd.uIns hi0 hz0 hz1 hz2 rfl (by omega) (by omega) (h.kept hk) hc (fun j => rfl) hn (by omega)
  rw [hz] at g3
  refine ⟨v', w', hr, ?_, ?_, g3⟩
  · unfold OwI
    rw [List.length_append]
    have e : (fun (i _ : Nat) => if i = l.length then Value.int .i64 x else .int .i64 (l.getD i 0)) = (fun (i _ : Nat) => Value.int .i64 ((l ++ [x]).getD i 0)) := by
      funext i _
      rw [getD_snoc]
      split <;> rfl
    rw [e] at g1
    exact g1
  · have h2 : Kept (w.alloc (.cells #[.int .i64 x] 3)) w' v.ownBlock := g2
    refine ⟨h2.os.trans hk.os, h2.tape.trans hk.tape, h2.output.trans hk.output, Nat.le_trans hk.size h2.size, fun i hi hne => (h2.block i (Nat.lt_of_lt_of_le hi hk.size) hne).trans (hk.block i hi (by simp))⟩
theorem OwI.lt {w : World} {base : Nat} {v : Value} {l : List Int} (h : OwI w base v l) : ∀ g, v.ownBlock = some g → base ≤ g ∧ g < w.heap.size := own_lt h
theorem OwI.far {w w' : World} {base : Nat} {v : Value} {l : List Int} (h : OwI w base v l) (k : Kept w w' v.ownBlock) {w0 : World} (h0 : Kept w0 w none) (hb : w0.heap.size ≤ base) : Kept w0 w' none :=
  ⟨k.os.trans h0.os, k.tape.trans h0.tape, k.output.trans h0.output, Nat.le_trans h0.size k.size, fun i hi _ => (k.block i (Nat.lt_of_lt_of_le hi h0.size) (fun e => by have := (h.lt i e.symm).1; omega)).trans (h0.block i hi (by simp))⟩
theorem mk_ints (c : Nat) (hc : c ≤ 1000000) (w : World) (base : Nat) (hb : base ≤ w.heap.size) : ∃ w', (Instr.makeSlice 31 (.int .i64 0) (.int .i64 (c : Int))).run Tryd.prog w = .ok (.slice (some ⟨w.heap.size, 0, none⟩) 0 c) w' ∧ OwI w' base (.slice (some ⟨w.heap.size, 0, none⟩) 0 c) [] ∧ Kept w w' none := by
  obtain ⟨i0, hi0, hz0, hz1, hz2⟩ := info_parts Tryd.infoIn
  obtain ⟨w1, hmk, hown, hg⟩ := run_make_own (P := Tryd.prog) w base 31 3 i0 _ 1 Tryd.uIns hi0 hz0 hz1 .i64 .i64 c (by rw [hz2]; omega) (by unfold maxLen; omega) hb
  exact ⟨w1, hmk, hown, hg⟩

end Go.Proofs.YtoahbpdgbiachaaDoor

/-
  A REGION'S BOX; the document's own word for regions that are great.
-/
namespace Go.Proofs.YtoahbpdgbiachaaDoor
open Go.RowKit Go.Lib Go.Deep
set_option linter.unusedVariables false
set_option linter.unusedSimpArgs false

/-- A region as a variable: its six cells. -/
structure Nbx (w : World) (f : Nat) (Y : Na) (N : Nt) : Prop where
  c0 : w.cell? ⟨f, 0, none⟩ = some (.slice Y.s N.sites.length Y.sc)
  c1 : w.cell? ⟨f, 1, none⟩ = some (.slice Y.u N.subs.length Y.uc)
  c2 : w.cell? ⟨f, 2, none⟩ = some (.slice Y.d N.weds.length Y.dc)
  c3 : w.cell? ⟨f, 3, none⟩ = some (.int .i64 N.low)
  c4 : w.cell? ⟨f, 4, none⟩ = some (.int .i64 N.high)
  c5 : w.cell? ⟨f, 5, none⟩ = some (.int .i64 N.step)
  net : NetAt w Y N
theorem Nbx.kept {w w' : World} {f : Nat} {Y : Na} {N : Nt} (h : Nbx w f Y N) (q : Kept w w' none) : Nbx w' f Y N :=
  ⟨cell_kept0 h.c0 q, cell_kept0 h.c1 q, cell_kept0 h.c2 q, cell_kept0 h.c3 q, cell_kept0 h.c4 q, cell_kept0 h.c5 q, h.net.kept q⟩
theorem nbx_alloc {w : World} {Y : Na} {N : Nt} (h : NetAt w Y N) (t : TypeId) : Nbx (w.alloc (.cells #[.slice Y.s N.sites.length Y.sc, .slice Y.u N.subs.length Y.uc, .slice Y.d N.weds.length Y.dc, .int .i64 N.low, .int .i64 N.high, .int .i64 N.step] t)) w.heap.size Y N :=
  ⟨by simp [World.cell?_alloc_mark], by simp [World.cell?_alloc_mark], by simp [World.cell?_alloc_mark], by simp [World.cell?_alloc_mark], by simp [World.cell?_alloc_mark], by simp [World.cell?_alloc_mark], h.kept (Kept.alloc _ _ _ _ _)⟩
/-- No list of it is long. -/
structure NFew (N : Nt) : Prop where
  s : N.sites.length ≤ 20
  u : N.subs.length ≤ 30
  d : N.weds.length ≤ 30
  st : ∀ i, i < N.sites.length → Few (N.sites.getD i s0)
  ur : ∀ i, i < N.subs.length → (N.subs.getD i u0).sites.length ≤ 60
  dr : ∀ i, i < N.weds.length → (N.weds.getD i d0).offsets.length ≤ 60
def NGreatP (N : Nt) (w : World) (e : Ending) (w' : World) : Prop := ∃ g, e = .returned (.bool g) ∧ (g = false → NFew N) ∧ Kept w w' none
theorem NGreatP.of {N : Nt} {w w' : World} (g : Bool) (h : g = false → NFew N) (k : Kept w w' none) : NGreatP N w (.returned (.bool g)) w' := ⟨g, rfl, h, k⟩
theorem NGreatP.yes {N : Nt} {w w' : World} (k : Kept w w' none) : NGreatP N w (.returned (.bool true)) w' := ⟨true, rfl, fun h => (nomatch h), k⟩
set_option maxRecDepth 100000 in
set_option maxHeartbeats 4000000 in
theorem ngreat_any {Y : Na} {N : Nt} {w : World} (h : NetAt w Y N) : Calls Tryd.prog 15 #[netV Y N] w fun e w' => NGreatP N w e w' := by
  have hkA : Kept w (w.alloc (.cells #[.slice Y.s N.sites.length Y.sc, .slice Y.u N.subs.length Y.uc, .slice Y.d N.weds.length Y.dc, .int .i64 N.low, .int .i64 N.high, .int .i64 N.step] 26)) none := Kept.alloc _ _ _ _ _
  have HNB := Hid.mk' (nbx_alloc h 26)
  have HK := Hid.mk' hkA
  have hs9 : N.sites.length ≤ 9223372036854775807 := by have := h.sk.room; have := h.sk.max; omega
  have hu9 : N.subs.length ≤ 9223372036854775807 := by have := h.uk.room; have := h.uk.max; omega
  have hd9 : N.weds.length ≤ 9223372036854775807 := by have := h.dk.room; have := h.dk.max; omega
  clear h hkA
  go_enter Tryd.func15, Tryd.ntmps15
  by_cases h1 : 20 < N.sites.length
  case pos => go_wp2; go_ret; exact NGreatP.yes HK.out
  by_cases h2 : 30 < N.subs.length
  case pos => go_wp2; go_ret; exact NGreatP.yes HK.out
  by_cases h3 : 30 < N.weds.length
  case pos => go_wp2; go_ret; exact NGreatP.yes HK.out
  go_wp2
  generalize hW : (w.alloc (.cells #[.slice Y.s N.sites.length Y.sc, .slice Y.u N.subs.length Y.uc, .slice Y.d N.weds.length Y.dc, .int .i64 N.low, .int .i64 N.high, .int .i64 N.step] 26)) = W at *
  clear hW
  go_loopw [3] (fun i wr => ∃ k : Nat, k ≤ N.sites.length ∧ i = .int .i64 k ∧ Hid (∀ j, j < k → Few (N.sites.getD j s0)) ∧ Kept W wr none) (fun i _ => N.sites.length - (intOf i).toNat)
  case atStart => exact ⟨0, Nat.zero_le _, rfl, (fun j hj => by omega), Kept.refl _ _⟩
  case round =>
    obtain ⟨k, hk, rfl, HJ, hkr⟩ := hrel
    have c0 := (HNB.out.kept hkr).c0
    by_cases hlt : k < N.sites.length
    · obtain ⟨sb, so, es, _, hc⟩ := (HNB.out.kept hkr).net.s1.at_ (by omega)
      rw [es] at c0
      have e0 := hc k hlt 0 (by omega)
      have e1 := hc k hlt 1 (by omega)
      have e2 := hc k hlt 2 (by omega)
      have e3 := hc k hlt 3 (by omega)
      have e4 := hc k hlt 4 (by omega)
      have e5 := hc k hlt 5 (by omega)
      have e6 := hc k hlt 6 (by omega)
      have e7 := hc k hlt 7 (by omega)
      have e8 := hc k hlt 8 (by omega)
      have e9 := hc k hlt 9 (by omega)
      have e10 := hc k hlt 10 (by omega)
      have e11 := hc k hlt 11 (by omega)
      have HSAT := Hid.mk' ((HNB.out.kept hkr).net.s2 k hlt)
      obtain ⟨S, hS⟩ : ∃ S, N.sites.getD k s0 = S := ⟨_, rfl⟩
      rw [hS] at e0 e1 e2 e3 e4 e5 e6 e7 e8 e9 e10 e11 HSAT
      have HSE := Hid.mk' hS
      clear hS hc es
      generalize Y.X k = Xk at *
      obtain ⟨xg, xgc, xa, xac, xb, xbc, xp, xpc, xe, xec, xl, xlc⟩ := Xk
      dsimp only [stV, Nat.add_zero] at e0 e1 e2 e3 e4 e5 e6 e7 e8 e9 e10 e11
      go_wp2_with (go_at_call 35; refine (rgreat_any HSAT.out).mono ?_; rintro e w3 ⟨g, rfl, hg, hk3⟩; clear c0 e0 e1 e2 e3 e4 e5 e6 e7 e8 e9 e10 e11; have HG := Hid.mk' hg; clear hg; cases g)
      · go_roundw
        case rel => exact ⟨k + 1, by omega, by go_num, (fun j hj => (by
          by_cases e : j = k
          · rw [e, HSE.out]; first | exact HG.out rfl | exact HG.out trivial
          · exact HJ.out j (by omega))), hkr.tr hk3⟩
        case measure => simp [intOf]; omega
      · go_ret
        exact NGreatP.yes (HK.out.tr (hkr.tr hk3))
    · have e : k = N.sites.length := by omega
      subst e
      go_wp2
      go_loopw [4] (fun i wx => ∃ k : Nat, k ≤ N.subs.length ∧ i = .int .i64 k ∧ Hid (∀ j, j < k → (N.subs.getD j u0).sites.length ≤ 60) ∧ wx = wr) (fun i _ => N.subs.length - (intOf i).toNat)
      case atStart => exact ⟨0, Nat.zero_le _, rfl, (fun j hj => by omega), rfl⟩
      case round =>
        obtain ⟨k, hk, rfl, HL, rfl⟩ := hrel
        clear c0
        have c1 := (HNB.out.kept hkr).c1
        by_cases hlt : k < N.subs.length
        · obtain ⟨sb, so, es, _, hc⟩ := (HNB.out.kept hkr).net.u1.at_ (by omega)
          rw [es] at c1
          have e0 := hc k hlt 0 (by omega)
          have hI := (HNB.out.kept hkr).net.u2 k hlt
          have hI1 := hI.cap.room
          have hI2 := hI.cap.max
          clear hI hc es
          dsimp only [sbV, Nat.add_zero] at e0
          generalize hm : (N.subs.getD k u0).sites.length = m at *
          have HM := Hid.mk' hm
          clear hm
          by_cases hx : 60 < m
          case pos => go_wp2; go_ret; exact NGreatP.yes (HK.out.tr hkr)
          go_wp2
          go_roundw
          case rel => exact ⟨k + 1, by omega, by go_num, (fun j hj => (by
            by_cases e : j = k
            · subst e; rw [HM.out]; omega
            · exact HL.out j (by omega))), trivial⟩
          case measure => simp [intOf]; omega
        · have e : k = N.subs.length := by omega
          subst e
          go_wp2
          go_loopw [5] (fun i wy => ∃ k : Nat, k ≤ N.weds.length ∧ i = .int .i64 k ∧ Hid (∀ j, j < k → (N.weds.getD j d0).offsets.length ≤ 60) ∧ wy = wr) (fun i _ => N.weds.length - (intOf i).toNat)
          case atStart => exact ⟨0, Nat.zero_le _, rfl, (fun j hj => by omega), rfl⟩
          case round =>
            obtain ⟨k, hk, rfl, HD, rfl⟩ := hrel
            clear c1
            have c2 := (HNB.out.kept hkr).c2
            by_cases hlt : k < N.weds.length
            · obtain ⟨sb, so, es, _, hc⟩ := (HNB.out.kept hkr).net.d1.at_ (by omega)
              rw [es] at c2
              have e3 := hc k hlt 3 (by omega)
              have hI := (HNB.out.kept hkr).net.d2 k hlt
              have hI1 := hI.cap.room
              have hI2 := hI.cap.max
              clear hI hc es
              dsimp only [wdV, Nat.add_zero] at e3
              generalize hm : (N.weds.getD k d0).offsets.length = m at *
              have HM := Hid.mk' hm
              clear hm
              by_cases hx : 60 < m
              case pos => go_wp2; go_ret; exact NGreatP.yes (HK.out.tr hkr)
              go_wp2
              go_roundw
              case rel => exact ⟨k + 1, by omega, by go_num, (fun j hj => (by
                by_cases e : j = k
                · subst e; rw [HM.out]; omega
                · exact HD.out j (by omega))), trivial⟩
              case measure => simp [intOf]; omega
            · have e : k = N.weds.length := by omega
              subst e
              go_wp2
              go_ret
              exact NGreatP.of false (fun _ => ⟨by omega, by omega, by omega, HJ.out, HL.out, HD.out⟩) (HK.out.tr hkr)

end Go.Proofs.YtoahbpdgbiachaaDoor

/-
  WHAT THE DOCUMENT HOLDS A REGION TO, condition by condition.
-/
namespace Go.Proofs.YtoahbpdgbiachaaDoor
open Go.RowKit Go.Lib Go.Deep
set_option linter.unusedVariables false
set_option linter.unusedSimpArgs false

def rtakeF (N : Nt) (l : List Int) (s : List Int) : Nat → Option (List Int)
  | 0 => some s
  | k + 1 => match rtakeF N l s k with
    | none => none
    | some s' => if inB (l.getD k 0) 0 ((N.sites.length : Int) - 1) = true ∧ l.getD k 0 ∉ s' then some (s' ++ [l.getD k 0]) else none
def rsubsF (N : Nt) : Nat → Option (List Int)
  | 0 => some []
  | k + 1 => match rsubsF N k with
    | none => none
    | some s => match rtakeF N (N.subs.getD k u0).sites s (N.subs.getD k u0).sites.length with
      | none => none
      | some s' => if (N.subs.getD k u0).critical ∈ (N.subs.getD k u0).sites then some s' else none
def rsubsB (N : Nt) : Bool := inB N.subs.length 1 6 && (match rsubsF N N.subs.length with
  | none => false
  | some s => decide (s.length = N.sites.length))
def rwedB (N : Nt) (i : Nat) : Bool := decide (0 ≤ (N.weds.getD i d0).a) && (decide ((N.weds.getD i d0).a < (N.weds.getD i d0).b) && (decide ((N.weds.getD i d0).b < (N.subs.length : Int)) && (timeB (N.weds.getD i d0).votes && (offsetsB N (N.weds.getD i d0).offsets && allB i (fun k => !(decide ((N.weds.getD k d0).a = (N.weds.getD i d0).a) && decide ((N.weds.getD k d0).b = (N.weds.getD i d0).b)))))))
def rwedsB (N : Nt) : Bool := decide (N.weds.length ≤ 8) && allB N.weds.length (rwedB N)
def rsiteB (N : Nt) (i : Nat) : Bool := siteB (N.sites.getD i s0) && (decide ((N.sites.getD i s0).low ≤ N.low) && (decide (N.high ≤ (N.sites.getD i s0).high) && allB i (fun k => !decide ((N.sites.getD k s0).id = (N.sites.getD i s0).id))))
def rownB (N : Nt) : Bool := inB N.sites.length 1 12 && (timeB N.low && (inB N.high N.low 1048576 && (timeB N.step && (decide ((N.high - N.low) % N.step = 0) && decide ((N.high - N.low) / N.step ≤ 64)))))
def rnetB (N : Nt) : Bool := rownB N && (allB N.sites.length (rsiteB N) && (rsubsB N && rwedsB N))


end Go.Proofs.YtoahbpdgbiachaaDoor

/-
  THE DOCUMENT'S OWN ANSWER: numbers between others, in lists; a region's subs.
-/
namespace Go.Proofs.YtoahbpdgbiachaaDoor
open Go.RowKit Go.Lib Go.Deep
set_option linter.unusedVariables false
set_option linter.unusedSimpArgs false

/-- A drawn region's one way. -/
def Rg6 (A : Act) (W : World) (e : Exit) (a : Act) (w : World) : Prop := match e with
  | .normal => a = A ∧ Kept W w none
  | _ => False
theorem Rg6.out {A : Act} {W w : World} {e : Exit} {a : Act} (h : Rg6 A W e a w) : e = .normal ∧ a = A ∧ Kept W w none := by
  cases e with
  | normal => exact ⟨rfl, h.1, h.2⟩
  | _ => exact h.elim
theorem rin6_any (n lo hi : Int) (w : World) : Calls Tryd.prog 37 #[.int .i64 n, .int .i64 lo, .int .i64 hi] w fun e w' => e = .returned (.bool (inB n lo hi)) ∧ w' = w := by
  go_enter Tryd.func37, Tryd.ntmps37
  go_wp2
  all_goals
    go_ret
    refine ⟨?_, rfl⟩
    simp [inB, *] <;> (first | omega | (intros; omega))
theorem rin6_is {n lo hi : Int} {b : Bool} {w : World} (h : inB n lo hi = b) : Calls Tryd.prog 37 #[.int .i64 n, .int .i64 lo, .int .i64 hi] w fun e w' => e = .returned (.bool b) ∧ w' = w := by
  rw [← h]; exact rin6_any n lo hi w
set_option maxRecDepth 100000 in
set_option maxHeartbeats 1000000 in
theorem rhas6_any {w : World} {a : Option Addr} {n c : Nat} {l : List Int} (h : Ints w a n c l) (x : Int) : Calls Tryd.prog 41 #[.slice a n c, .int .i64 x] w fun e w' => e = .returned (.bool (decide (x ∈ l))) ∧ w' = w := by
  have HI := Hid.mk' h
  have hn9 : n ≤ 9223372036854775807 := by have := h.cap.room; have := h.cap.max; omega
  have hsz := h.size
  have HSZ := Hid.mk' hsz
  clear h hsz
  go_enter Tryd.func41, Tryd.ntmps41
  go_wp2
  go_loopw [5] (fun i wr => ∃ k : Nat, k ≤ n ∧ i = .int .i64 k ∧ Hid (∀ j, j < k → l.getD j 0 ≠ x) ∧ wr = w) (fun i _ => n - (intOf i).toNat)
  case atStart => exact ⟨0, Nat.zero_le _, rfl, (fun j hj => by omega), rfl⟩
  case round =>
    obtain ⟨k, hk, rfl, HJ, rfl⟩ := hrel
    by_cases hlt : k < n
    · obtain ⟨b, off, ea, _, hc⟩ := HI.out.at_ (by omega)
      subst ea
      have hx := hc k hlt
      clear hc
      obtain ⟨y, hy⟩ : ∃ y, l.getD k 0 = y := ⟨_, rfl⟩
      rw [hy] at hx
      have HYE := Hid.mk' hy
      clear hy
      by_cases hxy : y = x
      · subst hxy
        go_wp2
        go_ret
        have hm : y ∈ l := by
          have e := HYE.out
          have hl := HSZ.out
          have hkl : k < l.length := by omega
          rw [← e]
          simp [hkl]
        exact ⟨by rw [decide_eq_true hm]; rfl, rfl⟩
      · go_wp2
        go_roundw
        case rel => exact ⟨k + 1, by omega, by go_num, (fun j hj => (by
          by_cases e : j = k
          · rw [e, HYE.out]; exact hxy
          · exact HJ.out j (by omega))), trivial⟩
        case measure => simp [intOf]; omega
    · have e : k = n := by omega
      subst e
      go_wp2
      go_ret
      have hm : ¬ x ∈ l := fun hm => by
        obtain ⟨i, hi, he⟩ := List.getElem_of_mem hm
        have hl := HSZ.out
        exact HJ.out i (by omega) (by simp [hi, he])
      exact ⟨by rw [decide_eq_false hm]; rfl, rfl⟩
theorem rhas6_is {w : World} {a : Option Addr} {n c : Nat} {l : List Int} {x : Int} {b : Bool} (h : Ints w a n c l) (hb : decide (x ∈ l) = b) : Calls Tryd.prog 41 #[.slice a n c, .int .i64 x] w fun e w' => e = .returned (.bool b) ∧ w' = w := by
  rw [← hb]; exact rhas6_any h x
theorem rsubsF_none {N : Nt} {k : Nat} (h : rsubsF N k = none) : ∀ n, k ≤ n → rsubsF N n = none
  | 0, hk => by have : k = 0 := by omega
                subst this; exact h
  | n + 1, hk => by
    by_cases e : k = n + 1
    · subst e; exact h
    · rw [rsubsF, rsubsF_none h n (by omega)]
theorem rtakeF_none {N : Nt} {l s : List Int} {k : Nat} (h : rtakeF N l s k = none) : ∀ n, k ≤ n → rtakeF N l s n = none
  | 0, hk => by have : k = 0 := by omega
                subst this; exact h
  | n + 1, hk => by
    by_cases e : k = n + 1
    · subst e; exact h
    · rw [rtakeF, rtakeF_none h n (by omega)]
theorem rsubsB_no {N : Nt} {k : Nat} (h : rsubsF N k = none) (hk : k ≤ N.subs.length) : rsubsB N = false := by
  unfold rsubsB
  rw [rsubsF_none h _ hk]
  simp
/-- A list of one's own that is a slice. -/
structure Sl (w : World) (base : Nat) (a : Option Addr) (c : Nat) (s : List Int) : Prop where
  own : OwI w base (.slice a s.length c) s
  rng : ∀ x ∈ s, -9223372036854775808 ≤ x ∧ x ≤ 9223372036854775807
theorem Sl.ints {w : World} {base : Nat} {a : Option Addr} {c : Nat} {s : List Int} (h : Sl w base a c s) : Ints w a s.length c s := by
  obtain ⟨a', c', e, hI, _⟩ := h.own.ints h.rng
  injection e with e1 e2 e3
  subst e1 e3
  exact hI
theorem Sl.kept {w w' : World} {base : Nat} {a : Option Addr} {c : Nat} {s : List Int} (h : Sl w base a c s) (q : Kept w w' none) : Sl w' base a c s := ⟨h.own.kept q, h.rng⟩
theorem Sl.nil (w : World) (base : Nat) : Sl w base none 0 [] := ⟨OwI.nil w base, by simp⟩
theorem Sl.grow {w : World} {base : Nat} {a : Option Addr} {c : Nat} {s : List Int} (h : Sl w base a c s) (x : Int) (hx : i64B x) (hn : s.length ≤ 1000) (hb : base ≤ w.heap.size) :
    ∃ a' c' w', (Builtin.append_ #[31, 31] 31 #[.slice a s.length c, .slice (some ⟨w.heap.size, 0, none⟩) 1 1]).run Tryd.prog (w.alloc (.cells #[.int .i64 x] 3)) = .ok (.slice a' (s.length + 1 : Nat) c') w' ∧ Sl w' base a' c' (s ++ [x]) ∧ Kept w w' (Value.slice a s.length c).ownBlock ∧ ((Value.slice a' (s.length + 1 : Nat) c').ownBlock = (Value.slice a s.length c).ownBlock ∨ (Value.slice a' (s.length + 1 : Nat) c').ownBlock = some (w.heap.size + 1)) := by
  obtain ⟨v', w', h1, h2, h3, h4⟩ := h.own.grow x hn hb
  have hr : ∀ y ∈ s ++ [x], -9223372036854775808 ≤ y ∧ y ≤ 9223372036854775807 := fun y hy => by
    rcases List.mem_append.1 hy with q | q
    · exact h.rng y q
    · simp at q; subst q; exact hx
  obtain ⟨a', c', e, _, _⟩ := h2.ints hr
  have el : (s ++ [x]).length = s.length + 1 := by simp
  rw [el] at e
  subst e
  exact ⟨a', c', w', h1, ⟨by rw [el]; exact h2, hr⟩, h3, h4⟩
set_option maxRecDepth 100000 in
set_option maxHeartbeats 8000000 in
theorem rsubs6_any {Y : Na} {N : Nt} {w : World} (h : NetAt w Y N) (hF : NFew N) (hn1 : 1 ≤ N.sites.length) : Calls Tryd.prog 39 #[netV Y N] w fun e w' => e = .returned (.bool (rsubsB N)) ∧ Kept w w' none := by
  have hkA : Kept w (w.alloc (.cells #[.slice Y.s N.sites.length Y.sc, .slice Y.u N.subs.length Y.uc, .slice Y.d N.weds.length Y.dc, .int .i64 N.low, .int .i64 N.high, .int .i64 N.step] 26)) none := Kept.alloc _ _ _ _ _
  have HNB := Hid.mk' (nbx_alloc h 26)
  have HK := Hid.mk' hkA
  have hns := hF.s
  have HF := Hid.mk' hF
  clear h hkA hF
  go_enter Tryd.func39, Tryd.ntmps39
  cases b1 : inB N.subs.length 1 6 with
  | false =>
    have HE : Hid (rsubsB N = false) := by show rsubsB N = false; unfold rsubsB; rw [b1]; rfl
    go_wp2_with (go_at_call 37; refine (rin6_is (by assumption)).mono ?_; rintro e w9 ⟨rfl, rfl⟩)
    go_ret
    exact ⟨by rw [HE.out]; rfl, HK.out⟩
  | true =>
  have hu := inB_iff.1 b1
  have HB1 := Hid.mk' b1
  go_wp2_with (go_at_call 37; refine (rin6_is (by assumption)).mono ?_; rintro e w9 ⟨rfl, rfl⟩)
  clear b1
  generalize hW : (w.alloc (.cells #[.slice Y.s N.sites.length Y.sc, .slice Y.u N.subs.length Y.uc, .slice Y.d N.weds.length Y.dc, .int .i64 N.low, .int .i64 N.high, .int .i64 N.step] 26)) = W at *
  clear hW
  go_loopw [3, 4] (fun v i wr => ∃ (k : Nat) (a : Option Addr) (c : Nat) (s : List Int), k ≤ N.subs.length ∧ i = .int .i64 k ∧ v = .slice a s.length c ∧ Hid (rsubsF N k = some s) ∧ Hid (Sl wr W.heap.size a c s) ∧ s.length ≤ 60 * k ∧ Kept W wr none) (fun _ i _ => N.subs.length - (intOf i).toNat)
  case atStart => exact ⟨0, none, 0, [], Nat.zero_le _, rfl, rfl, rfl, Sl.nil _ _, by simp, Kept.refl _ _⟩
  case round =>
    obtain ⟨wo, hwo⟩ : ∃ wo, wo = wr := ⟨wr, rfl⟩
    subst hwo
    obtain ⟨k, sa, sc, s, hk, rfl, rfl, HS, HV, hsl, hkr⟩ := hrel
    obtain ⟨c0, c1, c2, c3, c4, c5, _⟩ := HNB.out.kept hkr
    by_cases hlt : k < N.subs.length
    · obtain ⟨ub, uo, eu, _, hc⟩ := (HNB.out.kept hkr).net.u1.at_ (by omega)
      rw [eu] at c1
      have e0 := hc k hlt 0 (by omega)
      have e1 := hc k hlt 1 (by omega)
      have HI := Hid.mk' (HNB.out.net.u2 k hlt)
      have hm60 := HF.out.ur k hlt
      have HRec : Hid (rsubsF N (k + 1) = match rtakeF N (N.subs.getD k u0).sites s (N.subs.getD k u0).sites.length with
        | none => none
        | some s' => if (N.subs.getD k u0).critical ∈ (N.subs.getD k u0).sites then some s' else none) := by
        show rsubsF N (k + 1) = _
        rw [rsubsF, HS.out]
        try rfl
      generalize N.subs.getD k u0 = U at *
      generalize Y.r k = rk at *
      obtain ⟨ra, rc⟩ := rk
      dsimp only [sbV, Nat.add_zero] at e0 e1 HI
      obtain ⟨l, cr⟩ := U
      dsimp only at e0 e1 HI HRec hm60
      have hwl : w.heap.size < wo.heap.size := block_lt c0
      have hWs : W.heap.size ≤ wo.heap.size := hkr.size
      have hkb : Kept wo (wo.alloc (.cells #[.slice ra l.length rc, .int .i64 cr] 38)) none := Kept.alloc _ _ _ _ _
      have HKB := Hid.mk' (hkr.tr hkb)
      have HV2 := Hid.mk' (HV.out.kept hkb)
      have HOB : Hid ((Value.slice sa s.length sc).ownBlock ≠ some wo.heap.size) := fun e => by have := (HV.out.own.lt _ e).2; omega
      have HB0 : Hid ((wo.alloc (.cells #[.slice ra l.length rc, .int .i64 cr] 38)).cell? ⟨wo.heap.size, 0, none⟩ = some (.slice ra l.length rc) ∧ (wo.alloc (.cells #[.slice ra l.length rc, .int .i64 cr] 38)).cell? ⟨wo.heap.size, 1, none⟩ = some (.int .i64 cr)) := ⟨by simp [World.cell?_alloc_mark], by simp [World.cell?_alloc_mark]⟩
      clear hc eu hkb HV
      go_wp2
      clear c0 c1 c2 c3 c4 c5 e0 e1
      generalize hW1 : (wo.alloc (.cells #[.slice ra l.length rc, .int .i64 cr] 38)) = W1 at *
      clear hW1
      go_loopw [3, 6] (fun v i wx => ∃ (j : Nat) (a : Option Addr) (c : Nat) (s' : List Int), j ≤ l.length ∧ i = .int .i64 j ∧ v = .slice a s'.length c ∧ Hid (rtakeF N l s j = some s') ∧ Hid (Sl wx W.heap.size a c s') ∧ Hid ((Value.slice a s'.length c).ownBlock ≠ some wo.heap.size) ∧ Hid (wx.cell? ⟨wo.heap.size, 0, none⟩ = some (.slice ra l.length rc) ∧ wx.cell? ⟨wo.heap.size, 1, none⟩ = some (.int .i64 cr)) ∧ s'.length ≤ 60 * k + j ∧ Kept W wx none) (fun _ i _ => l.length - (intOf i).toNat)
      case atStart => exact ⟨0, sa, sc, s, Nat.zero_le _, rfl, rfl, rfl, HV2, HOB, HB0, by omega, HKB.out⟩
      case round =>
        clear HV2 HOB HB0 HKB
        obtain ⟨j, va, vc, s', hj, rfl, rfl, HT, HV, HOB, HB0, hs', hkx⟩ := hrel
        have HIx := Hid.mk' (HI.out.kept hkx)
        obtain ⟨q0, q1⟩ := HB0.out
        obtain ⟨c0, c1, c2, c3, c4, c5, _⟩ := HNB.out.kept hkx
        have hwx : wo.heap.size < wr.heap.size := block_lt q0
        have hWx : W.heap.size ≤ wr.heap.size := hkx.size
        have hl9 : l.length ≤ 9223372036854775807 := by omega
        by_cases hjl : j < l.length
        · obtain ⟨lb, lo, el, _, hlc⟩ := HIx.out.at_ (by omega)
          subst el
          have hxr := HIx.out.rng (l.getD j 0) (by simp [hjl])
          have HX : Hid (∀ w', Kept wr w' none → w'.cell? ⟨lb, lo + j, none⟩ = some (.int .i64 (l.getD j 0))) := fun w' q => cell_kept0 (hlc j hjl) q
          have HTR : Hid (rtakeF N l s (j + 1) = if inB (l.getD j 0) 0 ((N.sites.length : Int) - 1) = true ∧ l.getD j 0 ∉ s' then some (s' ++ [l.getD j 0]) else none) := by
            show rtakeF N l s (j + 1) = _
            rw [rtakeF, HT.out]
            try rfl
          have HNO : Hid (rtakeF N l s (j + 1) = none → rsubsB N = false) := fun q => rsubsB_no (by rw [HRec.out, rtakeF_none q _ (by omega)]) hlt
          generalize l.getD j 0 = x at *
          have hwr : IntKind.i64.wrap ((N.sites.length : Int) - 1) = (N.sites.length : Int) - 1 := wrap_in (by omega) (by omega)
          have HIV := Hid.mk' HV.out.ints
          have g0 : ∀ w', Kept wr w' none → w'.cell? ⟨wo.heap.size, 0, none⟩ = some (.slice (some ⟨lb, lo, none⟩) l.length rc) := fun w' q => cell_kept0 q0 q
          have g1 : ∀ w', Kept wr w' none → w'.cell? ⟨w.heap.size, 0, none⟩ = some (.slice Y.s N.sites.length Y.sc) := fun w' q => cell_kept0 c0 q
          have g2 : ∀ w', Kept wr w' none → w'.cell? ⟨lb, lo + j, none⟩ = some (.int .i64 x) := HX.out
          cases hin : inB x 0 ((N.sites.length : Int) - 1) with
          | false =>
            have HE := Hid.mk' (HNO.out (by rw [HTR.out, hin]; simp))
            clear hlc HX
            go_wp2
            refine Code.wp_mono (Q := Rg6 ?A1 wr) ?cont1 ?reg1
            case reg1 =>
              repeat (rename_i hh; clear hh)
              refine wp_region_held_drew (S := fun w' => Kept wr w' none) (by kernel_rfl) (Kept.tr (Kept.refl _ _) (Kept.drew _ _)) (fun hHeld => ?_)
              refine held_take (i := 0) (v := ?v2) rfl rfl (by kernel_rfl) (by kernel_rfl) (by kernel_rfl) (fun _ _ _ h => h) (Or.inl ⟨by rfl, ?hy2⟩) hHeld ?rest2
              case hy2 => first | (intro w hSw; (try dsimp only at hSw); go_simp; done) | (intro w hSw; (try dsimp only at hSw); go_simp; with_reducible rfl)
              try simp only [List.setIfInBounds_toArray, List.set_cons_zero, List.set_cons_succ]
              refine held_take (i := 1) (v := ?v3) rfl rfl (by kernel_rfl) (by kernel_rfl) (by kernel_rfl) (fun _ _ _ h => h) (Or.inl ⟨by rfl, ?hy3⟩) hHeld ?rest3
              case hy3 => first | (intro w hSw; (try dsimp only at hSw); go_simp; done) | (intro w hSw; (try dsimp only at hSw); go_simp; with_reducible rfl)
              try simp only [List.setIfInBounds_toArray, List.set_cons_zero, List.set_cons_succ]
              refine held_take (i := 2) (v := ?v4) rfl rfl (by kernel_rfl) (by kernel_rfl) (by kernel_rfl) (fun _ _ _ h => h) (Or.inl ⟨by rfl, ?hy4⟩) hHeld ?rest4
              case hy4 => first | (intro w hSw; (try dsimp only at hSw); go_simp; done) | (intro w hSw; (try dsimp only at hSw); go_simp; with_reducible rfl)
              try simp only [List.setIfInBounds_toArray, List.set_cons_zero, List.set_cons_succ]
              refine held_take (i := 3) (v := ?v5) rfl rfl (by kernel_rfl) (by kernel_rfl) (by kernel_rfl) (fun _ _ _ h => h) (Or.inl ⟨by rfl, ?hy5⟩) hHeld ?rest5
              case hy5 => first | (intro w hSw; (try dsimp only at hSw); go_simp; done) | (intro w hSw; (try dsimp only at hSw); go_simp; with_reducible rfl)
              try simp only [List.setIfInBounds_toArray, List.set_cons_zero, List.set_cons_succ]
              refine held_take (i := 4) (v := ?v6) rfl rfl (by kernel_rfl) (by kernel_rfl) (by kernel_rfl) (fun _ _ _ h => h) (Or.inl ⟨by rfl, ?hy6⟩) hHeld ?rest6
              case hy6 => first | (intro w hSw; (try dsimp only at hSw); go_simp; done) | (intro w hSw; (try dsimp only at hSw); go_simp; with_reducible rfl)
              try simp only [List.setIfInBounds_toArray, List.set_cons_zero, List.set_cons_succ]
              refine held_take (i := 5) (v := ?v7) rfl rfl (by kernel_rfl) (by kernel_rfl) (by kernel_rfl) (fun _ _ _ h => h) (Or.inl ⟨by rfl, ?hy7⟩) hHeld ?rest7
              case hy7 => first | (intro w hSw; (try dsimp only at hSw); go_simp; done) | (intro w hSw; (try dsimp only at hSw); go_simp; with_reducible rfl)
              try simp only [List.setIfInBounds_toArray, List.set_cons_zero, List.set_cons_succ]
              refine held_take (i := 6) (v := ?v8) rfl rfl (by kernel_rfl) (by kernel_rfl) (by kernel_rfl) (fun _ _ _ h => h) (Or.inl ⟨by rfl, ?hy8⟩) hHeld ?rest8
              case hy8 => first | (intro w hSw; (try dsimp only at hSw); go_simp; done) | (intro w hSw; (try dsimp only at hSw); go_simp; with_reducible rfl)
              try simp only [List.setIfInBounds_toArray, List.set_cons_zero, List.set_cons_succ]
              refine held_take (i := 7) (v := ?v9) rfl rfl (by kernel_rfl) (by kernel_rfl) (by kernel_rfl) (fun _ _ _ h => h) (Or.inl ⟨by rfl, ?hy9⟩) hHeld ?rest9
              case hy9 => first | (intro w hSw; (try dsimp only at hSw); go_simp; done) | (intro w hSw; (try dsimp only at hSw); go_simp; with_reducible rfl)
              try simp only [List.setIfInBounds_toArray, List.set_cons_zero, List.set_cons_succ]
              refine held_take (i := 8) (v := ?v10) rfl rfl (by kernel_rfl) (by kernel_rfl) (by kernel_rfl) (fun _ _ _ h => h) (Or.inl ⟨by rfl, ?hy10⟩) hHeld ?rest10
              case hy10 => first | (intro w hSw; (try dsimp only at hSw); go_simp; done) | (intro w hSw; (try dsimp only at hSw); go_simp; with_reducible rfl)
              try simp only [List.setIfInBounds_toArray, List.set_cons_zero, List.set_cons_succ]
              refine wpAnyH_ready (rs := [9]) (by kernel_rfl) (by simp) ?_
              refine AllReadyH.cons rfl (fun K hK => ?_) AllReadyH.nil
              go_simp
              go_wp2_with (go_at_call 37; refine (rin6_is (by assumption)).mono ?_; rintro e w9 ⟨rfl, rfl⟩; have hKS := hHeld)
              replace hK := hK.out
              refine hK _ _ hKS (fun hHeld => ?_)
              clear hK K
              refine held_take (i := 10) (v := ?v11) rfl rfl (by kernel_rfl) (by kernel_rfl) (by kernel_rfl) (fun _ _ _ h => h) (Or.inl ⟨by rfl, ?hy11⟩) hHeld ?rest11
              case hy11 => first | (intro w hSw; (try dsimp only at hSw); go_simp; done) | (intro w hSw; (try dsimp only at hSw); go_simp; with_reducible rfl)
              try simp only [List.setIfInBounds_toArray, List.set_cons_zero, List.set_cons_succ]
              refine held_take (i := 11) (v := ?v12) rfl rfl (by kernel_rfl) (by kernel_rfl) (by kernel_rfl) (fun _ _ _ h => h) (Or.inl ⟨by rfl, ?hy12⟩) hHeld ?rest12
              case hy12 => first | (intro w hSw; (try dsimp only at hSw); go_simp; done) | (intro w hSw; (try dsimp only at hSw); go_simp; with_reducible rfl)
              try simp only [List.setIfInBounds_toArray, List.set_cons_zero, List.set_cons_succ]
              refine held_take (i := 12) (v := undef) rfl rfl (by kernel_rfl) (by kernel_rfl) (by kernel_rfl) (fun _ _ _ h => h) (Or.inr ⟨by rfl, rfl⟩) hHeld ?_
              try simp only [List.setIfInBounds_toArray, List.set_cons_zero, List.set_cons_succ]
              refine held_take (i := 13) (v := undef) rfl rfl (by kernel_rfl) (by kernel_rfl) (by kernel_rfl) (fun _ _ _ h => h) (Or.inr ⟨by rfl, rfl⟩) hHeld ?_
              try simp only [List.setIfInBounds_toArray, List.set_cons_zero, List.set_cons_succ]
              refine held_take (i := 14) (v := undef) rfl rfl (by kernel_rfl) (by kernel_rfl) (by kernel_rfl) (fun _ _ _ h => h) (Or.inr ⟨by rfl, rfl⟩) hHeld ?_
              try simp only [List.setIfInBounds_toArray, List.set_cons_zero, List.set_cons_succ]
              refine held_take (i := 15) (v := undef) rfl rfl (by kernel_rfl) (by kernel_rfl) (by kernel_rfl) (fun _ _ _ h => h) (Or.inr ⟨by rfl, rfl⟩) hHeld ?_
              try simp only [List.setIfInBounds_toArray, List.set_cons_zero, List.set_cons_succ]
              refine held_take (i := 16) (v := undef) rfl rfl (by kernel_rfl) (by kernel_rfl) (by kernel_rfl) (fun _ _ _ h => h) (Or.inr ⟨by rfl, rfl⟩) hHeld ?_
              try simp only [List.setIfInBounds_toArray, List.set_cons_zero, List.set_cons_succ]
              refine held_take (i := 17) (v := undef) rfl rfl (by kernel_rfl) (by kernel_rfl) (by kernel_rfl) (fun _ _ _ h => h) (Or.inr ⟨by rfl, rfl⟩) hHeld ?_
              try simp only [List.setIfInBounds_toArray, List.set_cons_zero, List.set_cons_succ]
              refine held_take (i := 18) (v := undef) rfl rfl (by kernel_rfl) (by kernel_rfl) (by kernel_rfl) (fun _ _ _ h => h) (Or.inr ⟨by rfl, rfl⟩) hHeld ?_
              try simp only [List.setIfInBounds_toArray, List.set_cons_zero, List.set_cons_succ]
              refine held_take (i := 19) (v := ?v13) rfl rfl (by kernel_rfl) (by kernel_rfl) (by kernel_rfl) (fun _ _ _ h => h) (Or.inl ⟨by rfl, ?hy13⟩) hHeld ?rest13
              case hy13 => first | (intro w hSw; (try dsimp only at hSw); go_simp; done) | (intro w hSw; (try dsimp only at hSw); go_simp; with_reducible rfl)
              try simp only [List.setIfInBounds_toArray, List.set_cons_zero, List.set_cons_succ]
              refine wpAnyH_done (by kernel_rfl) ?_ _
              refine And.intro ?_ hHeld
              with_reducible rfl
            case cont1 =>
            intro e a' w' hq
            obtain ⟨rfl, rfl, hkq⟩ := hq.out
            go_wp2
            go_ret
            exact ⟨by rw [HE.out]; rfl, HK.out.tr (hkx.tr hkq)⟩
          | true =>
          cases hmm : decide (x ∈ s') with
          | true =>
            have HE := Hid.mk' (HNO.out (by rw [HTR.out]; simp [of_decide_eq_true hmm]))
            clear hlc HX
            go_wp2
            refine Code.wp_mono (Q := Rg6 ?A14 wr) ?cont14 ?reg14
            case reg14 =>
              repeat (rename_i hh; clear hh)
              refine wp_region_held_drew (S := fun w' => Kept wr w' none) (by kernel_rfl) (Kept.tr (Kept.refl _ _) (Kept.drew _ _)) (fun hHeld => ?_)
              refine held_take (i := 0) (v := ?v15) rfl rfl (by kernel_rfl) (by kernel_rfl) (by kernel_rfl) (fun _ _ _ h => h) (Or.inl ⟨by rfl, ?hy15⟩) hHeld ?rest15
              case hy15 => first | (intro w hSw; (try dsimp only at hSw); go_simp; done) | (intro w hSw; (try dsimp only at hSw); go_simp; with_reducible rfl)
              try simp only [List.setIfInBounds_toArray, List.set_cons_zero, List.set_cons_succ]
              refine held_take (i := 1) (v := ?v16) rfl rfl (by kernel_rfl) (by kernel_rfl) (by kernel_rfl) (fun _ _ _ h => h) (Or.inl ⟨by rfl, ?hy16⟩) hHeld ?rest16
              case hy16 => first | (intro w hSw; (try dsimp only at hSw); go_simp; done) | (intro w hSw; (try dsimp only at hSw); go_simp; with_reducible rfl)
              try simp only [List.setIfInBounds_toArray, List.set_cons_zero, List.set_cons_succ]
              refine held_take (i := 2) (v := ?v17) rfl rfl (by kernel_rfl) (by kernel_rfl) (by kernel_rfl) (fun _ _ _ h => h) (Or.inl ⟨by rfl, ?hy17⟩) hHeld ?rest17
              case hy17 => first | (intro w hSw; (try dsimp only at hSw); go_simp; done) | (intro w hSw; (try dsimp only at hSw); go_simp; with_reducible rfl)
              try simp only [List.setIfInBounds_toArray, List.set_cons_zero, List.set_cons_succ]
              refine held_take (i := 3) (v := ?v18) rfl rfl (by kernel_rfl) (by kernel_rfl) (by kernel_rfl) (fun _ _ _ h => h) (Or.inl ⟨by rfl, ?hy18⟩) hHeld ?rest18
              case hy18 => first | (intro w hSw; (try dsimp only at hSw); go_simp; done) | (intro w hSw; (try dsimp only at hSw); go_simp; with_reducible rfl)
              try simp only [List.setIfInBounds_toArray, List.set_cons_zero, List.set_cons_succ]
              refine held_take (i := 4) (v := ?v19) rfl rfl (by kernel_rfl) (by kernel_rfl) (by kernel_rfl) (fun _ _ _ h => h) (Or.inl ⟨by rfl, ?hy19⟩) hHeld ?rest19
              case hy19 => first | (intro w hSw; (try dsimp only at hSw); go_simp; done) | (intro w hSw; (try dsimp only at hSw); go_simp; with_reducible rfl)
              try simp only [List.setIfInBounds_toArray, List.set_cons_zero, List.set_cons_succ]
              refine held_take (i := 5) (v := ?v20) rfl rfl (by kernel_rfl) (by kernel_rfl) (by kernel_rfl) (fun _ _ _ h => h) (Or.inl ⟨by rfl, ?hy20⟩) hHeld ?rest20
              case hy20 => first | (intro w hSw; (try dsimp only at hSw); go_simp; done) | (intro w hSw; (try dsimp only at hSw); go_simp; with_reducible rfl)
              try simp only [List.setIfInBounds_toArray, List.set_cons_zero, List.set_cons_succ]
              refine held_take (i := 6) (v := ?v21) rfl rfl (by kernel_rfl) (by kernel_rfl) (by kernel_rfl) (fun _ _ _ h => h) (Or.inl ⟨by rfl, ?hy21⟩) hHeld ?rest21
              case hy21 => first | (intro w hSw; (try dsimp only at hSw); go_simp; done) | (intro w hSw; (try dsimp only at hSw); go_simp; with_reducible rfl)
              try simp only [List.setIfInBounds_toArray, List.set_cons_zero, List.set_cons_succ]
              refine held_take (i := 7) (v := ?v22) rfl rfl (by kernel_rfl) (by kernel_rfl) (by kernel_rfl) (fun _ _ _ h => h) (Or.inl ⟨by rfl, ?hy22⟩) hHeld ?rest22
              case hy22 => first | (intro w hSw; (try dsimp only at hSw); go_simp; done) | (intro w hSw; (try dsimp only at hSw); go_simp; with_reducible rfl)
              try simp only [List.setIfInBounds_toArray, List.set_cons_zero, List.set_cons_succ]
              refine held_take (i := 8) (v := ?v23) rfl rfl (by kernel_rfl) (by kernel_rfl) (by kernel_rfl) (fun _ _ _ h => h) (Or.inl ⟨by rfl, ?hy23⟩) hHeld ?rest23
              case hy23 => first | (intro w hSw; (try dsimp only at hSw); go_simp; done) | (intro w hSw; (try dsimp only at hSw); go_simp; with_reducible rfl)
              try simp only [List.setIfInBounds_toArray, List.set_cons_zero, List.set_cons_succ]
              refine wpAnyH_ready (rs := [9]) (by kernel_rfl) (by simp) ?_
              refine AllReadyH.cons rfl (fun K hK => ?_) AllReadyH.nil
              go_simp
              go_wp2_with (go_at_call 37; refine (rin6_is (by assumption)).mono ?_; rintro e w9 ⟨rfl, rfl⟩; have hKS := hHeld)
              replace hK := hK.out
              refine hK _ _ hKS (fun hHeld => ?_)
              clear hK K
              refine held_take (i := 10) (v := ?v24) rfl rfl (by kernel_rfl) (by kernel_rfl) (by kernel_rfl) (fun _ _ _ h => h) (Or.inl ⟨by rfl, ?hy24⟩) hHeld ?rest24
              case hy24 => first | (intro w hSw; (try dsimp only at hSw); go_simp; done) | (intro w hSw; (try dsimp only at hSw); go_simp; with_reducible rfl)
              try simp only [List.setIfInBounds_toArray, List.set_cons_zero, List.set_cons_succ]
              refine held_take (i := 11) (v := ?v25) rfl rfl (by kernel_rfl) (by kernel_rfl) (by kernel_rfl) (fun _ _ _ h => h) (Or.inl ⟨by rfl, ?hy25⟩) hHeld ?rest25
              case hy25 => first | (intro w hSw; (try dsimp only at hSw); go_simp; done) | (intro w hSw; (try dsimp only at hSw); go_simp; with_reducible rfl)
              try simp only [List.setIfInBounds_toArray, List.set_cons_zero, List.set_cons_succ]
              refine held_take (i := 12) (v := ?v26) rfl rfl (by kernel_rfl) (by kernel_rfl) (by kernel_rfl) (fun _ _ _ h => h) (Or.inl ⟨by rfl, ?hy26⟩) hHeld ?rest26
              case hy26 => first | (intro w hSw; (try dsimp only at hSw); go_simp; done) | (intro w hSw; (try dsimp only at hSw); go_simp; with_reducible rfl)
              try simp only [List.setIfInBounds_toArray, List.set_cons_zero, List.set_cons_succ]
              refine held_take (i := 13) (v := ?v27) rfl rfl (by kernel_rfl) (by kernel_rfl) (by kernel_rfl) (fun _ _ _ h => h) (Or.inl ⟨by rfl, ?hy27⟩) hHeld ?rest27
              case hy27 => first | (intro w hSw; (try dsimp only at hSw); go_simp; done) | (intro w hSw; (try dsimp only at hSw); go_simp; with_reducible rfl)
              try simp only [List.setIfInBounds_toArray, List.set_cons_zero, List.set_cons_succ]
              refine held_take (i := 14) (v := ?v28) rfl rfl (by kernel_rfl) (by kernel_rfl) (by kernel_rfl) (fun _ _ _ h => h) (Or.inl ⟨by rfl, ?hy28⟩) hHeld ?rest28
              case hy28 => first | (intro w hSw; (try dsimp only at hSw); go_simp; done) | (intro w hSw; (try dsimp only at hSw); go_simp; with_reducible rfl)
              try simp only [List.setIfInBounds_toArray, List.set_cons_zero, List.set_cons_succ]
              refine held_take (i := 15) (v := ?v29) rfl rfl (by kernel_rfl) (by kernel_rfl) (by kernel_rfl) (fun _ _ _ h => h) (Or.inl ⟨by rfl, ?hy29⟩) hHeld ?rest29
              case hy29 => first | (intro w hSw; (try dsimp only at hSw); go_simp; done) | (intro w hSw; (try dsimp only at hSw); go_simp; with_reducible rfl)
              try simp only [List.setIfInBounds_toArray, List.set_cons_zero, List.set_cons_succ]
              refine held_take (i := 16) (v := ?v30) rfl rfl (by kernel_rfl) (by kernel_rfl) (by kernel_rfl) (fun _ _ _ h => h) (Or.inl ⟨by rfl, ?hy30⟩) hHeld ?rest30
              case hy30 => first | (intro w hSw; (try dsimp only at hSw); go_simp; done) | (intro w hSw; (try dsimp only at hSw); go_simp; with_reducible rfl)
              try simp only [List.setIfInBounds_toArray, List.set_cons_zero, List.set_cons_succ]
              refine held_take (i := 17) (v := ?v31) rfl rfl (by kernel_rfl) (by kernel_rfl) (by kernel_rfl) (fun _ _ _ h => h) (Or.inl ⟨by rfl, ?hy31⟩) hHeld ?rest31
              case hy31 => first | (intro w hSw; (try dsimp only at hSw); go_simp; done) | (intro w hSw; (try dsimp only at hSw); go_simp; with_reducible rfl)
              try simp only [List.setIfInBounds_toArray, List.set_cons_zero, List.set_cons_succ]
              refine wpAnyH_ready (rs := [18]) (by kernel_rfl) (by simp) ?_
              refine AllReadyH.cons rfl (fun K hK => ?_) AllReadyH.nil
              go_simp
              go_wp2_with (go_at_call 41; refine (rhas6_is (HIV.out.kept hHeld) (by assumption)).mono ?_; rintro e w9 ⟨rfl, rfl⟩; have hKS := hHeld)
              replace hK := hK.out
              refine hK _ _ hKS (fun hHeld => ?_)
              clear hK K
              refine held_take (i := 19) (v := ?v32) rfl rfl (by kernel_rfl) (by kernel_rfl) (by kernel_rfl) (fun _ _ _ h => h) (Or.inl ⟨by rfl, ?hy32⟩) hHeld ?rest32
              case hy32 => first | (intro w hSw; (try dsimp only at hSw); go_simp; done) | (intro w hSw; (try dsimp only at hSw); go_simp; with_reducible rfl)
              try simp only [List.setIfInBounds_toArray, List.set_cons_zero, List.set_cons_succ]
              refine wpAnyH_done (by kernel_rfl) ?_ _
              refine And.intro ?_ hHeld
              with_reducible rfl
            case cont14 =>
            intro e a' w' hq
            obtain ⟨rfl, rfl, hkq⟩ := hq.out
            go_wp2
            go_ret
            exact ⟨by rw [HE.out]; rfl, HK.out.tr (hkx.tr hkq)⟩
          | false =>
            have HE : Hid (rtakeF N l s (j + 1) = some (s' ++ [x])) := by
              show rtakeF N l s (j + 1) = _
              rw [HTR.out, hin, if_pos ⟨rfl, of_decide_eq_false hmm⟩]
            clear hlc HX
            go_wp2
            refine Code.wp_mono (Q := Rg6 ?A33 wr) ?cont33 ?reg33
            case reg33 =>
              repeat (rename_i hh; clear hh)
              refine wp_region_held_drew (S := fun w' => Kept wr w' none) (by kernel_rfl) (Kept.tr (Kept.refl _ _) (Kept.drew _ _)) (fun hHeld => ?_)
              refine held_take (i := 0) (v := ?v34) rfl rfl (by kernel_rfl) (by kernel_rfl) (by kernel_rfl) (fun _ _ _ h => h) (Or.inl ⟨by rfl, ?hy34⟩) hHeld ?rest34
              case hy34 => first | (intro w hSw; (try dsimp only at hSw); go_simp; done) | (intro w hSw; (try dsimp only at hSw); go_simp; with_reducible rfl)
              try simp only [List.setIfInBounds_toArray, List.set_cons_zero, List.set_cons_succ]
              refine held_take (i := 1) (v := ?v35) rfl rfl (by kernel_rfl) (by kernel_rfl) (by kernel_rfl) (fun _ _ _ h => h) (Or.inl ⟨by rfl, ?hy35⟩) hHeld ?rest35
              case hy35 => first | (intro w hSw; (try dsimp only at hSw); go_simp; done) | (intro w hSw; (try dsimp only at hSw); go_simp; with_reducible rfl)
              try simp only [List.setIfInBounds_toArray, List.set_cons_zero, List.set_cons_succ]
              refine held_take (i := 2) (v := ?v36) rfl rfl (by kernel_rfl) (by kernel_rfl) (by kernel_rfl) (fun _ _ _ h => h) (Or.inl ⟨by rfl, ?hy36⟩) hHeld ?rest36
              case hy36 => first | (intro w hSw; (try dsimp only at hSw); go_simp; done) | (intro w hSw; (try dsimp only at hSw); go_simp; with_reducible rfl)
              try simp only [List.setIfInBounds_toArray, List.set_cons_zero, List.set_cons_succ]
              refine held_take (i := 3) (v := ?v37) rfl rfl (by kernel_rfl) (by kernel_rfl) (by kernel_rfl) (fun _ _ _ h => h) (Or.inl ⟨by rfl, ?hy37⟩) hHeld ?rest37
              case hy37 => first | (intro w hSw; (try dsimp only at hSw); go_simp; done) | (intro w hSw; (try dsimp only at hSw); go_simp; with_reducible rfl)
              try simp only [List.setIfInBounds_toArray, List.set_cons_zero, List.set_cons_succ]
              refine held_take (i := 4) (v := ?v38) rfl rfl (by kernel_rfl) (by kernel_rfl) (by kernel_rfl) (fun _ _ _ h => h) (Or.inl ⟨by rfl, ?hy38⟩) hHeld ?rest38
              case hy38 => first | (intro w hSw; (try dsimp only at hSw); go_simp; done) | (intro w hSw; (try dsimp only at hSw); go_simp; with_reducible rfl)
              try simp only [List.setIfInBounds_toArray, List.set_cons_zero, List.set_cons_succ]
              refine held_take (i := 5) (v := ?v39) rfl rfl (by kernel_rfl) (by kernel_rfl) (by kernel_rfl) (fun _ _ _ h => h) (Or.inl ⟨by rfl, ?hy39⟩) hHeld ?rest39
              case hy39 => first | (intro w hSw; (try dsimp only at hSw); go_simp; done) | (intro w hSw; (try dsimp only at hSw); go_simp; with_reducible rfl)
              try simp only [List.setIfInBounds_toArray, List.set_cons_zero, List.set_cons_succ]
              refine held_take (i := 6) (v := ?v40) rfl rfl (by kernel_rfl) (by kernel_rfl) (by kernel_rfl) (fun _ _ _ h => h) (Or.inl ⟨by rfl, ?hy40⟩) hHeld ?rest40
              case hy40 => first | (intro w hSw; (try dsimp only at hSw); go_simp; done) | (intro w hSw; (try dsimp only at hSw); go_simp; with_reducible rfl)
              try simp only [List.setIfInBounds_toArray, List.set_cons_zero, List.set_cons_succ]
              refine held_take (i := 7) (v := ?v41) rfl rfl (by kernel_rfl) (by kernel_rfl) (by kernel_rfl) (fun _ _ _ h => h) (Or.inl ⟨by rfl, ?hy41⟩) hHeld ?rest41
              case hy41 => first | (intro w hSw; (try dsimp only at hSw); go_simp; done) | (intro w hSw; (try dsimp only at hSw); go_simp; with_reducible rfl)
              try simp only [List.setIfInBounds_toArray, List.set_cons_zero, List.set_cons_succ]
              refine held_take (i := 8) (v := ?v42) rfl rfl (by kernel_rfl) (by kernel_rfl) (by kernel_rfl) (fun _ _ _ h => h) (Or.inl ⟨by rfl, ?hy42⟩) hHeld ?rest42
              case hy42 => first | (intro w hSw; (try dsimp only at hSw); go_simp; done) | (intro w hSw; (try dsimp only at hSw); go_simp; with_reducible rfl)
              try simp only [List.setIfInBounds_toArray, List.set_cons_zero, List.set_cons_succ]
              refine wpAnyH_ready (rs := [9]) (by kernel_rfl) (by simp) ?_
              refine AllReadyH.cons rfl (fun K hK => ?_) AllReadyH.nil
              go_simp
              go_wp2_with (go_at_call 37; refine (rin6_is (by assumption)).mono ?_; rintro e w9 ⟨rfl, rfl⟩; have hKS := hHeld)
              replace hK := hK.out
              refine hK _ _ hKS (fun hHeld => ?_)
              clear hK K
              refine held_take (i := 10) (v := ?v43) rfl rfl (by kernel_rfl) (by kernel_rfl) (by kernel_rfl) (fun _ _ _ h => h) (Or.inl ⟨by rfl, ?hy43⟩) hHeld ?rest43
              case hy43 => first | (intro w hSw; (try dsimp only at hSw); go_simp; done) | (intro w hSw; (try dsimp only at hSw); go_simp; with_reducible rfl)
              try simp only [List.setIfInBounds_toArray, List.set_cons_zero, List.set_cons_succ]
              refine held_take (i := 11) (v := ?v44) rfl rfl (by kernel_rfl) (by kernel_rfl) (by kernel_rfl) (fun _ _ _ h => h) (Or.inl ⟨by rfl, ?hy44⟩) hHeld ?rest44
              case hy44 => first | (intro w hSw; (try dsimp only at hSw); go_simp; done) | (intro w hSw; (try dsimp only at hSw); go_simp; with_reducible rfl)
              try simp only [List.setIfInBounds_toArray, List.set_cons_zero, List.set_cons_succ]
              refine held_take (i := 12) (v := ?v45) rfl rfl (by kernel_rfl) (by kernel_rfl) (by kernel_rfl) (fun _ _ _ h => h) (Or.inl ⟨by rfl, ?hy45⟩) hHeld ?rest45
              case hy45 => first | (intro w hSw; (try dsimp only at hSw); go_simp; done) | (intro w hSw; (try dsimp only at hSw); go_simp; with_reducible rfl)
              try simp only [List.setIfInBounds_toArray, List.set_cons_zero, List.set_cons_succ]
              refine held_take (i := 13) (v := ?v46) rfl rfl (by kernel_rfl) (by kernel_rfl) (by kernel_rfl) (fun _ _ _ h => h) (Or.inl ⟨by rfl, ?hy46⟩) hHeld ?rest46
              case hy46 => first | (intro w hSw; (try dsimp only at hSw); go_simp; done) | (intro w hSw; (try dsimp only at hSw); go_simp; with_reducible rfl)
              try simp only [List.setIfInBounds_toArray, List.set_cons_zero, List.set_cons_succ]
              refine held_take (i := 14) (v := ?v47) rfl rfl (by kernel_rfl) (by kernel_rfl) (by kernel_rfl) (fun _ _ _ h => h) (Or.inl ⟨by rfl, ?hy47⟩) hHeld ?rest47
              case hy47 => first | (intro w hSw; (try dsimp only at hSw); go_simp; done) | (intro w hSw; (try dsimp only at hSw); go_simp; with_reducible rfl)
              try simp only [List.setIfInBounds_toArray, List.set_cons_zero, List.set_cons_succ]
              refine held_take (i := 15) (v := ?v48) rfl rfl (by kernel_rfl) (by kernel_rfl) (by kernel_rfl) (fun _ _ _ h => h) (Or.inl ⟨by rfl, ?hy48⟩) hHeld ?rest48
              case hy48 => first | (intro w hSw; (try dsimp only at hSw); go_simp; done) | (intro w hSw; (try dsimp only at hSw); go_simp; with_reducible rfl)
              try simp only [List.setIfInBounds_toArray, List.set_cons_zero, List.set_cons_succ]
              refine held_take (i := 16) (v := ?v49) rfl rfl (by kernel_rfl) (by kernel_rfl) (by kernel_rfl) (fun _ _ _ h => h) (Or.inl ⟨by rfl, ?hy49⟩) hHeld ?rest49
              case hy49 => first | (intro w hSw; (try dsimp only at hSw); go_simp; done) | (intro w hSw; (try dsimp only at hSw); go_simp; with_reducible rfl)
              try simp only [List.setIfInBounds_toArray, List.set_cons_zero, List.set_cons_succ]
              refine held_take (i := 17) (v := ?v50) rfl rfl (by kernel_rfl) (by kernel_rfl) (by kernel_rfl) (fun _ _ _ h => h) (Or.inl ⟨by rfl, ?hy50⟩) hHeld ?rest50
              case hy50 => first | (intro w hSw; (try dsimp only at hSw); go_simp; done) | (intro w hSw; (try dsimp only at hSw); go_simp; with_reducible rfl)
              try simp only [List.setIfInBounds_toArray, List.set_cons_zero, List.set_cons_succ]
              refine wpAnyH_ready (rs := [18]) (by kernel_rfl) (by simp) ?_
              refine AllReadyH.cons rfl (fun K hK => ?_) AllReadyH.nil
              go_simp
              go_wp2_with (go_at_call 41; refine (rhas6_is (HIV.out.kept hHeld) (by assumption)).mono ?_; rintro e w9 ⟨rfl, rfl⟩; have hKS := hHeld)
              replace hK := hK.out
              refine hK _ _ hKS (fun hHeld => ?_)
              clear hK K
              refine held_take (i := 19) (v := ?v51) rfl rfl (by kernel_rfl) (by kernel_rfl) (by kernel_rfl) (fun _ _ _ h => h) (Or.inl ⟨by rfl, ?hy51⟩) hHeld ?rest51
              case hy51 => first | (intro w hSw; (try dsimp only at hSw); go_simp; done) | (intro w hSw; (try dsimp only at hSw); go_simp; with_reducible rfl)
              try simp only [List.setIfInBounds_toArray, List.set_cons_zero, List.set_cons_succ]
              refine wpAnyH_done (by kernel_rfl) ?_ _
              refine And.intro ?_ hHeld
              with_reducible rfl
            case cont33 =>
            intro e a' w' hq
            obtain ⟨rfl, rfl, hkq⟩ := hq.out
            skip
            obtain ⟨va', vc', w6, hrun, hS6, hk6, hob6⟩ := (HV.out.kept hkq).grow x ⟨hxr.1, hxr.2⟩ (by omega) (Nat.le_trans hWx hkq.size)
            have HR := Hid.mk' hrun
            have hq0 := g0 w' hkq
            have hq2 := g2 w' hkq
            have hw' := hkq.size
            have HKF : Hid (Kept W w6 none) := (HV.out.kept hkq).own.far hk6 (hkx.tr hkq) (Nat.le_refl _)
            have HB6 : Hid (w6.cell? ⟨wo.heap.size, 0, none⟩ = some (.slice (some ⟨lb, lo, none⟩) l.length rc) ∧ w6.cell? ⟨wo.heap.size, 1, none⟩ = some (.int .i64 cr)) := ⟨cell_keptR hq0 hk6 (Ne.symm HOB.out), cell_keptR (cell_kept0 q1 hkq) hk6 (Ne.symm HOB.out)⟩
            have HO6 : Hid ((Value.slice va' (s'.length + 1 : Nat) vc').ownBlock ≠ some wo.heap.size) := fun e => by
              rcases hob6 with q | q
              · exact HOB.out (q.symm.trans e)
              · rw [q] at e; injection e with e; omega
            have HS6 := Hid.mk' hS6
            clear hrun hS6 hk6 hob6 c0 c1 c2 c3 c4 c5 q0 q1 g0 g1 g2 HB0
            go_wp2_with (at_builtin; refine wpList_app (by rfl) _ _ _ (by rfl) (by rfl) (by rfl) HR.out ?_)
            go_roundw
            case rel => exact ⟨j + 1, va', vc', s' ++ [x], by omega, by go_num, by simp, HE, HS6, by simpa using HO6, HB6, by simp; omega, HKF.out⟩
            case measure => simp [intOf]; omega
        · have e : j = l.length := by omega
          subst e
          have HRE := HRec.out
          rw [HT.out] at HRE
          have HRE2 := Hid.mk' HRE
          clear HRE
          cases hcr : decide (cr ∈ l) with
          | false =>
            have HE : Hid (rsubsB N = false) := rsubsB_no (k := k + 1) (by rw [HRE2.out]; simp [of_decide_eq_false hcr]) hlt
            go_wp2_with (go_at_call 41; refine (rhas6_is HIx.out (by assumption)).mono ?_; rintro e w9 ⟨rfl, rfl⟩)
            go_ret
            exact ⟨by rw [HE.out]; rfl, HK.out.tr hkx⟩
          | true =>
            have HE : Hid (rsubsF N (k + 1) = some s') := by show rsubsF N (k + 1) = _; rw [HRE2.out]; simp [of_decide_eq_true hcr]
            go_wp2_with (go_at_call 41; refine (rhas6_is HIx.out (by assumption)).mono ?_; rintro e w9 ⟨rfl, rfl⟩)
            go_roundw
            case rel => exact ⟨k + 1, va, vc, s', by omega, by go_num, rfl, HE, HV, by omega, hkx⟩
            case measure => simp [intOf]; omega
    · have e : k = N.subs.length := by omega
      subst e
      have HE : Hid (rsubsB N = decide ((s.length : Int) = (N.sites.length : Int))) := by
        show rsubsB N = _
        unfold rsubsB
        rw [HB1.out, HS.out]
        simp
        omega
      have hs9 : s.length ≤ 9223372036854775807 := by omega
      go_wp2
      all_goals
        go_ret
        exact ⟨by rw [HE.out]; first | rfl | simp, HK.out.tr hkr⟩

end Go.Proofs.YtoahbpdgbiachaaDoor

