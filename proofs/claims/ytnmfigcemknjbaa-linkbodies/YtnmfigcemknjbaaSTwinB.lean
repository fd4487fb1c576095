/-
  Of the text TwinB: what this stage needs (culled by a program).
-/
import Derived.Test.YtnmfigcemknjbaaWorld
import Derived.Test.YtnmfigcemknjbaaSTwinA
import Derived.Test.YtnmfigcemknjbaaSTwinZ
namespace Go.Proofs.Ytnmfigcemknjbaa
open Go.RowKit Go.Lib Go.Deep
set_option linter.unusedVariables false
set_option linter.unusedSimpArgs false

theorem Try.infoPl : (Try.prog.info? 94).map (fun i => (i.zero, i.size, i.bytes)) = some (some (.agg #[.int .i64 0, .int .i64 0, .slice none 0 0]), 3, 40) := by kernel_rfl
theorem Try.infoIn : (Try.prog.info? 3).map (fun i => (i.zero, i.size, i.bytes)) = some (some (.int .i64 0), 1, 8) := by kernel_rfl
theorem Try.uPls : Try.prog.underlying 95 = some (.slice 94) := by kernel_rfl
theorem Try.uIns : Try.prog.underlying 37 = some (.slice 3) := by kernel_rfl
theorem cellsL_snoc {n k : Nat} {f : Nat → Nat → Value} {g : Nat → Value} (hk : 0 < k) : cellsL n k f ++ (List.range k).map g = cellsL (n + 1) k (fun i j => if i = n then g j else f i j) := by
  unfold cellsL
  rw [Nat.add_mul, Nat.one_mul, List.range_add, List.map_append]
  congr 1
  · refine List.map_congr_left fun q hq => ?_
    have h1 : q / k < n := by rw [Nat.div_lt_iff_lt_mul hk]; exact List.mem_range.1 hq
    show f (q / k) (q % k) = if q / k = n then g (q % k) else f (q / k) (q % k)
    rw [if_neg (by omega)]
  · rw [List.map_map]
    refine List.map_congr_left fun j hj => ?_
    have hj' := List.mem_range.1 hj
    have h3 : (n * k + j) / k = n := by rw [Nat.add_comm, Nat.add_mul_div_right _ _ hk, Nat.div_eq_of_lt hj', Nat.zero_add]
    have h4 : (n * k + j) % k = j := by rw [Nat.add_comm, Nat.add_mul_mod_self_right, Nat.mod_eq_of_lt hj']
    show g j = if (n * k + j) / k = n then g ((n * k + j) % k) else f ((n * k + j) / k) ((n * k + j) % k)
    rw [h3, h4, if_pos rfl]
/-- One more element. -/
theorem grow_run {w : World} {t ty e : TypeId} {i : TypeInfo} {z : Value} {k bytes : Nat} (ht : Try.prog.underlying t = some (.slice e)) (hi : Try.prog.info? e = some i) (hz : i.zero = some z) (hsize : i.size = k) (hby : i.bytes = bytes) (hzs : z.cells.size = k) (hk : 0 < k) (hbb : bytes ≤ 1000)
    {base n c : Nat} {v : Value} {f : Nat → Nat → Value} (hown : w.ownsRow base e k v n (cellsL n k f)) {b o : Nat} {g : Nat → Value} (hg : ∀ j, j < k → w.cell? ⟨b, o + j, none⟩ = some (g j)) (h1 : ∀ j, (g j).oneCell' = true) (hn : n ≤ 1000) (hbase : base ≤ w.heap.size) :
    ∃ v' w', (Builtin.append_ #[t, t] ty #[v, .slice (some ⟨b, o, none⟩) 1 c]).run Try.prog w = .ok v' w' ∧ w'.ownsRow base e k v' (n + 1) (cellsL (n + 1) k (fun i j => if i = n then g j else f i j)) ∧ w.grownBy w' v.ownBlock ∧ (v'.ownBlock = v.ownBlock ∨ v'.ownBlock = some w.heap.size) := by
  have hbytes : (n + 1) * bytes ≤ 140737488355328 := by
    have h2 : (n + 1) * bytes ≤ 1001 * 1000 := Nat.mul_le_mul (by omega) hbb
    omega
  obtain ⟨v', w', hr, h2, h3, _, h5⟩ := run_append_own_at (P := Try.prog) w base t ty e i z k bytes ht hi hz hsize hby hzs hk v n _ hown ⟨b, o, none⟩ 1 c ((List.range k).map g) (by simp) (fun j u hu => by
    rw [List.getElem?_map] at hu
    have hj : j < k := by
      by_cases h : j < k
      · exact h
      · rw [List.getElem?_eq_none (by simpa using h)] at hu; simp at hu
    rw [List.getElem?_range hj] at hu
    rw [Addr.add_lit, hg j hj]
    exact hu) (fun u hu => by
    simp only [List.mem_map] at hu
    obtain ⟨x, _, rfl⟩ := hu
    exact h1 x) (by unfold maxLen; omega) hbytes hbase
  rw [cellsL_snoc hk] at h2
  exact ⟨v', w', hr, h2, h3, h5⟩
theorem wpList_app {ops : Array Oper} {rest : List Oper} {o : Oper} {act : Act} {Q : Exit → Act → World → Prop} {w w' : World} {v u v' : Value} (hgd : o.guard = none) (s x : Operand) (t : TypeId) (ho : o.op = .call { callee := .builtin .append, args := #[s, x], argTypes := #[t, t] }) (hs : act.eval s = v) (hx : act.eval x = u)
    (hr : (Builtin.append_ #[t, t] o.type #[v, u]).run Try.prog w = .ok v' w') (h : wpList Try.prog ops Q rest (act.put o.dst v') w') : wpList Try.prog ops Q (o :: rest) act w :=
  wpList_plain hgd fun K hK => by
    unfold Oper.wp execOp
    simp only [ho, resolve, invoke, builtin, Sem.run_bind, Sem.run_pure, Result.andThen_ok, List.map_toArray, List.map_cons, List.map_nil, hs, hx, hr]
    exact hK _ _ h
theorem Ints.keptS {w w' : World} {r : Option Nat} {a : Option Addr} {n c : Nat} {l : List Int} (h : Ints w a n c l) (q : Kept w w' r) (hr : ∀ b, a = some b → some b.block ≠ r) : Ints w' a n c l :=
  ⟨⟨fun hp => by
    obtain ⟨b, off, rfl, hb, hc⟩ := h.lie.at_ hp
    exact ⟨b, off, rfl, Nat.lt_of_lt_of_le hb q.size, fun i hi j hj => cell_keptR (hc i hi j hj) q (hr _ rfl)⟩⟩, h.size, h.cap, h.rng⟩
/-- As many plans as were met lie in new memory. -/
structure Tp (w : World) (l : List Pl) (wr : World) (k : Nat) (v : Value) : Prop where
  ex : ∃ r : Nat → Option Addr × Nat, wr.ownsRow w.heap.size 94 3 v k (cellsL k 3 (fun i j => plV (l.getD i q0) (r i).1 (r i).2 j)) ∧ (∀ i, i < k → Ints wr (r i).1 (l.getD i q0).splits.length (r i).2 (l.getD i q0).splits) ∧ (∀ i, i < k → ∀ b, (r i).1 = some b → v.ownBlock ≠ some b.block ∧ b.block < wr.heap.size ∧ w.heap.size ≤ b.block)
  kept : Kept w wr none
theorem own_lt {w : World} {base n k : Nat} {e : TypeId} {v : Value} {xs : List Value} (h : w.ownsRow base e k v n xs) : ∀ g, v.ownBlock = some g → base ≤ g ∧ g < w.heap.size := fun g hg => by
  rcases id h.2 with ⟨rfl, _⟩ | ⟨b, cap, cur, rfl, hb, hh, _⟩
  · cases hg
  · injection hg with hg
    subst hg
    exact ⟨hb, (Array.getElem?_eq_some_iff.1 hh).1⟩
theorem own_keptR' {w w' : World} {r : Option Nat} {base n k : Nat} {e : TypeId} {v : Value} {xs : List Value} (h : w.ownsRow base e k v n xs) (q : Kept w w' r) (hr : ∀ g, v.ownBlock = some g → some g ≠ r) : w'.ownsRow base e k v n xs := by
  refine ⟨h.1, ?_⟩
  rcases id h.2 with ⟨rfl, h0⟩ | ⟨b, cap, cur, rfl, hb, hh, h4⟩
  · exact .inl ⟨rfl, h0⟩
  · exact .inr ⟨b, cap, cur, rfl, hb, (q.block b (Array.getElem?_eq_some_iff.1 hh).1 (hr _ rfl)).trans hh, h4⟩
theorem alloc_at2 (F : World) (cs : Array Value) (t : TypeId) {n j : Nat} {v : Value} (hz : F.heap.size = n) (hv : cs[j]? = some v) : (F.alloc (.cells cs t)).cell? ⟨n, j, none⟩ = some v := by
  subst hz
  simp only [World.cell?_alloc_mark]
  exact hv
abbrev plB (p : Pl) (a : Option Addr) (c : Nat) : Obj := .cells #[.int .i64 p.cycle, .int .i64 p.offset, .slice a p.splits.length c] 94
theorem Tp.step {w wr W2 : World} {l : List Pl} {k : Nat} {v : Value} {ar a' : Option Addr} {cr cap : Nat} (h : Tp w l wr k v) (hk : k ≤ 40)
    (h2 : Kept (wr.alloc (plB (l.getD k q0) ar cr)) W2 none) (hI : Ints W2 a' (l.getD k q0).splits.length cap (l.getD k q0).splits) (hf : ∀ b, a' = some b → (wr.alloc (plB (l.getD k q0) ar cr)).heap.size ≤ b.block) (hl : ∀ b, a' = some b → b.block < W2.heap.size) :
    ∃ v' W5, (Builtin.append_ #[95, 95] 95 #[v, .slice (some ⟨W2.heap.size, 0, none⟩) 1 1]).run Try.prog ((W2.setCell ⟨wr.heap.size, 2, none⟩ (.slice a' (l.getD k q0).splits.length cap)).alloc (plB (l.getD k q0) a' cap)) = .ok v' W5 ∧ Tp w l W5 (k + 1) v' := by
  obtain ⟨⟨r, ho, hi, hb⟩, hkw⟩ := h
  obtain ⟨i0, hi0, hz0, hz1, hz2⟩ := info_parts Try.infoPl
  generalize hp : l.getD k q0 = p at *
  have hz : (wr.alloc (plB p ar cr)).heap.size = wr.heap.size + 1 := by simp
  have k1 : Kept wr W2 none := (Kept.alloc wr _ _ _ _).tr h2
  have k3 : Kept W2 (W2.setCell ⟨wr.heap.size, 2, none⟩ (.slice a' p.splits.length cap)) (some wr.heap.size) := kept_setZ _ _ _ _
  have z3 : (W2.setCell ⟨wr.heap.size, 2, none⟩ (.slice a' p.splits.length cap)).heap.size = W2.heap.size := by simp [World.setCell]
  have k4 : Kept (W2.setCell ⟨wr.heap.size, 2, none⟩ (.slice a' p.splits.length cap)) ((W2.setCell ⟨wr.heap.size, 2, none⟩ (.slice a' p.splits.length cap)).alloc (plB p a' cap)) none := Kept.alloc _ _ _ _ _
  have s2 := h2.size
  rw [hz] at s2
  have sw := hkw.size
  have z4 : ((W2.setCell ⟨wr.heap.size, 2, none⟩ (.slice a' p.splits.length cap)).alloc (plB p a' cap)).heap.size = W2.heap.size + 1 := by simp [World.setCell]
  have q0' : ∀ j, j < 3 → ((W2.setCell ⟨wr.heap.size, 2, none⟩ (.slice a' p.splits.length cap)).alloc (plB p a' cap)).cell? ⟨W2.heap.size, 0 + j, none⟩ = some (plV p a' cap j) := fun j hj => by
    have : j = 0 ∨ j = 1 ∨ j = 2 := by omega
    rw [Nat.zero_add]
    refine alloc_at2 _ _ _ z3 ?_
    rcases this with rfl | rfl | rfl <;> rfl
  generalize (W2.setCell ⟨wr.heap.size, 2, none⟩ (.slice a' p.splits.length cap)) = W3 at *
  generalize (W3.alloc (plB p a' cap)) = W4 at *
  have hol := own_lt ho
  have own4 : W4.ownsRow w.heap.size 94 3 v k (cellsL k 3 (fun i j => plV (l.getD i q0) (r i).1 (r i).2 j)) :=
    own_keptR' (own_keptR' (own_keptR' ho k1 (fun g _ => by simp)) k3 (fun g hg e => by have := (hol g hg).2; cases e; omega)) k4 (fun g _ => by simp)
  obtain ⟨v', W5, hr, g1, g2, g3⟩ := grow_run (t := 95) (ty := 95) (c := 1) Try.uPls hi0 hz0 hz1 hz2 rfl (by omega) (by omega) own4 q0' (fun j => by unfold plV; split <;> rfl) (by omega) (by omega)
  have bl : ∀ b, (∃ i, i < k ∧ (r i).1 = some b) → v.ownBlock ≠ some b.block ∧ b.block < wr.heap.size ∧ w.heap.size ≤ b.block := fun b ⟨i, hik, e⟩ => hb i hik b e
  have vfr : ∀ g, v'.ownBlock = some g → v.ownBlock = some g ∨ g = W4.heap.size := fun g hg => by
    rcases g3 with e | e
    · exact .inl (e.symm.trans hg)
    · rw [e] at hg; injection hg with hg; exact .inr hg.symm
  refine ⟨v', W5, hr, ⟨fun i => if i = k then (a', cap) else r i, ?_, fun i hik => ?_, fun i hik b e => ?_⟩, ?_⟩
  · have he : cellsL (k + 1) 3 (fun i j => if i = k then plV p a' cap j else plV (l.getD i q0) (r i).1 (r i).2 j) = cellsL (k + 1) 3 (fun i j => plV (l.getD i q0) ((if i = k then (a', cap) else r i) : Option Addr × Nat).1 ((if i = k then (a', cap) else r i) : Option Addr × Nat).2 j) := by
      unfold cellsL
      refine List.map_congr_left fun q _ => ?_
      show (if q / 3 = k then plV p a' cap (q % 3) else plV (l.getD (q / 3) q0) (r (q / 3)).1 (r (q / 3)).2 (q % 3)) = plV (l.getD (q / 3) q0) ((if q / 3 = k then (a', cap) else r (q / 3)) : Option Addr × Nat).1 ((if q / 3 = k then (a', cap) else r (q / 3)) : Option Addr × Nat).2 (q % 3)
      by_cases e : q / 3 = k
      · rw [if_pos e, if_pos e, e, hp]
      · rw [if_neg e, if_neg e]
    rw [← he]
    exact g1
  · show Ints W5 ((if i = k then (a', cap) else r i) : Option Addr × Nat).1 (l.getD i q0).splits.length ((if i = k then (a', cap) else r i) : Option Addr × Nat).2 (l.getD i q0).splits
    by_cases e : i = k
    · rw [if_pos e, e, hp]
      refine ((hI.keptS k3 (fun b eb ec => ?_)).kept k4).keptS g2 (fun b eb ec => ?_)
      · have := hf b eb
        rw [hz] at this
        injection ec with ec
        omega
      · have := hf b eb
        rw [hz] at this
        have h7 := (hol _ ec.symm).2
        omega
    · rw [if_neg e]
      have h8 := hi i (by omega)
      refine (((h8.kept k1).keptS k3 (fun b eb ec => ?_)).kept k4).keptS g2 (fun b eb ec => ?_)
      · have := (hb i (by omega) b eb).2.1
        injection ec with ec
        omega
      · exact (hb i (by omega) b eb).1 ec.symm
  · have s5 := g2.size
    change ((if i = k then (a', cap) else r i) : Option Addr × Nat).1 = some b at e
    by_cases ek : i = k
    · rw [if_pos ek] at e
      have h6 := hf b e
      rw [hz] at h6
      have h9 := hl b e
      refine ⟨fun ec => ?_, by omega, by omega⟩
      rcases vfr _ ec with h7 | h7
      · have := (hol _ h7).2
        omega
      · omega
    · rw [if_neg ek] at e
      have h6 := hb i (by omega) b e
      refine ⟨fun ec => ?_, by omega, h6.2.2⟩
      rcases vfr _ ec with h7 | h7
      · exact h6.1 h7
      · omega
  · have h5 : Kept w W4 none := by
      refine ⟨k4.os.trans (k3.os.trans (k1.os.trans hkw.os)), k4.tape.trans (k3.tape.trans (k1.tape.trans hkw.tape)), k4.output.trans (k3.output.trans (k1.output.trans hkw.output)), by omega, fun b hbw _ => ?_⟩
      exact (k4.block b (by omega) (by simp)).trans ((k3.block b (by omega) (fun e => by injection e with e; omega)).trans ((hkw.tr k1).block b hbw (by simp)))
    refine ⟨g2.os.trans h5.os, g2.tape.trans h5.tape, g2.output.trans h5.output, Nat.le_trans h5.size g2.size, fun b hbw _ => ?_⟩
    exact (g2.block b (by omega) (fun e => by have := (hol _ e.symm).1; omega)).trans (h5.block b hbw (by simp))

end Go.Proofs.Ytnmfigcemknjbaa
