/-
  Texts joined: some of those that the proofs of this seat stand on.
-/
import Derived.Test.YtcjkghajeohfjaaDoorReadJ
import Derived.Test.YtcjkghajeohfjaaDoorCodM
import Derived.Test.YtcjkghajeohfjaaDoorGrow
import Derived.Test.YtcjkghajeohfjaaDoorTwinZJ
import Derived.Test.YtcjkghajeohfjaaDoorWholeJ
import Derived.Laws.MakeOwn
/-
  THE DOCUMENT'S OWN reader of numbers (stoplineref05.Reader), and its Number.
-/
namespace Go.Proofs.YtcjkghajeohfjaaDoor
open Go.RowKit Go.Lib Go.Deep
set_option linter.unusedVariables false
set_option linter.unusedSimpArgs false

/-- The next number, up to a bound. -/
def dnM (most : Nat) (s : Rd) : Nat × Rd := if (okR s.1 && decide (rdN s.1 ≤ most)) = true then (rdN s.1, (s.1.drop (rdK s.1), s.2)) else (0, (s.1, true))
theorem dnM_le (most : Nat) (s : Rd) : (dnM most s).1 ≤ most := by
  unfold dnM
  split
  · rename_i h
    simp only [Bool.and_eq_true, decide_eq_true_eq] at h
    exact h.2
  · omega
theorem dnM_no {most : Nat} {s : Rd} (h : (okR s.1 && decide (rdN s.1 ≤ most)) = false) : dnM most s = (0, (s.1, true)) := by unfold dnM; rw [if_neg (by rw [h]; decide)]
theorem dnM_yes {most : Nat} {s : Rd} (h : (okR s.1 && decide (rdN s.1 ≤ most)) = true) : dnM most s = (rdN s.1, (s.1.drop (rdK s.1), s.2)) := by unfold dnM; rw [if_pos h]
/-- A reader in block b, below block H; the bytes that it reads lie below H too, and not in b. -/
structure Drd (w : World) (H b : Nat) (s : Rd) : Prop where
  ex : ∃ a n c, w.cell? ⟨b, 0, none⟩ = some (.slice a n c) ∧ Come w a n c s.1 ∧ (0 < n → ∀ x, a = some x → x.block < H ∧ x.block ≠ b)
  c1 : w.cell? ⟨b, 1, none⟩ = some (.bool s.2)
  f0 : w.frozen? ⟨b, 0, none⟩ = false
  f1 : w.frozen? ⟨b, 1, none⟩ = false
  lt : b < H
theorem dfrozen_block {w w' : World} {b j : Nat} (h : w'.heap[b]? = w.heap[b]?) : w'.frozen? ⟨b, j, none⟩ = w.frozen? ⟨b, j, none⟩ := by
  unfold World.frozen?
  simp only [h]
theorem Come.dkeptR {w w' : World} {r : Option Nat} {a : Option Addr} {n c : Nat} {L : List Nat} (h : Come w a n c L) (q : Kept w w' r) (hr : 0 < n → ∀ x, a = some x → some x.block ≠ r) : Come w' a n c L := by
  refine ⟨?_, h.nil, h.room, h.max⟩
  obtain ⟨h1, h2, h3, h4⟩ := h.by_
  refine ⟨h1, h2, h3, fun hp => ?_⟩
  obtain ⟨b, off, rfl, hb, hc⟩ := h4 hp
  exact ⟨b, off, rfl, Nat.lt_of_lt_of_le hb q.size, fun i hi => (World.cell?_of_block (w := w) (a := ⟨b, off + i, none⟩) (q.block b hb (hr hp _ rfl))).trans (hc i hi)⟩
theorem Drd.kept {w w' : World} {H b : Nat} {s : Rd} {r : Option Nat} (h : Drd w H b s) (q : Kept w w' r) (hr : ∀ i, r = some i → H ≤ i) : Drd w' H b s := by
  have hb : some b ≠ r := fun e => by have := hr b e.symm; have := h.lt; omega
  obtain ⟨a, n, c, h1, h2, h3⟩ := h.ex
  have hbl := block_lt h1
  exact ⟨⟨a, n, c, cell_keptR h1 q hb, h2.dkeptR q (fun hp x hx e => by have := hr _ e.symm; have := (h3 hp x hx).1; omega), h3⟩, cell_keptR h.c1 q hb, (dfrozen_block (q.block b hbl hb)).trans h.f0, (dfrozen_block (q.block b hbl hb)).trans h.f1, h.lt⟩
theorem dkept_set (w : World) (b j : Nat) (v : Value) : Kept w (w.setCell ⟨b, j, none⟩ v) (some b) :=
  ⟨rfl, rfl, rfl, by simp [World.setCell], fun k hk hr => by
    simp only [World.setCell]
    rw [Array.getElem?_modify, if_neg (fun e => hr (by rw [e]))]⟩
theorem dfrozen_set (w : World) (p a : Addr) (v : Value) : (w.setCell p v).frozen? a = w.frozen? a := World.frozen?_setCell _ _ _ _
theorem Drd.bad {w : World} {H b : Nat} {s : Rd} (h : Drd w H b s) : Drd (w.setCell ⟨b, 1, none⟩ (.bool true)) H b (s.1, true) := by
  obtain ⟨a, n, c, h1, h2, h3⟩ := h.ex
  exact ⟨⟨a, n, c, (World.cell?_setCell_other _ _ _ _ (by simp)).trans h1, h2.dkeptR (dkept_set _ _ _ _) (fun hp x hx e => (h3 hp x hx).2 (by injection e)), h3⟩, World.cell?_setCell_same' _ _ _ (by rw [h.c1]; rfl), (dfrozen_set _ _ _ _).trans h.f0, (dfrozen_set _ _ _ _).trans h.f1, h.lt⟩
theorem By.ddrop {w : World} {b off n : Nat} {L : List Nat} (h : By w (some ⟨b, off, none⟩) n L) (k : Nat) (hk : k ≤ n) : By w (some ⟨b, off + k, none⟩) (n - k) (L.drop k) := by
  obtain ⟨h1, h2, h3, h4⟩ := h
  refine ⟨by simp; omega, by omega, fun x hx => h3 x (List.mem_of_mem_drop hx), fun hp => ?_⟩
  obtain ⟨b', off', e, hb, hc⟩ := h4 (by omega)
  injection e with e
  injection e with e1 e2
  subst e1 e2
  refine ⟨b, off + k, rfl, hb, fun i hi => ?_⟩
  rw [Nat.add_assoc, hc (k + i) (by omega)]
  simp
theorem Drd.set {w : World} {H b : Nat} {L L' : List Nat} {bd : Bool} {a : Option Addr} {n c : Nat} (h : Drd w H b (L, bd)) (hC : Come w a n c L') (hx : 0 < n → ∀ x, a = some x → x.block < H ∧ x.block ≠ b) : Drd (w.setCell ⟨b, 0, none⟩ (.slice a n c)) H b (L', bd) := by
  obtain ⟨a0, n0, c0, h1, _, _⟩ := h.ex
  exact ⟨⟨a, n, c, World.cell?_setCell_same' _ _ _ (by rw [h1]; rfl), hC.dkeptR (dkept_set _ _ _ _) (fun hp x hxx e => (hx hp x hxx).2 (by injection e)), hx⟩, (World.cell?_setCell_other _ _ _ _ (by simp)).trans h.c1, (dfrozen_set _ _ _ _).trans h.f0, (dfrozen_set _ _ _ _).trans h.f1, h.lt⟩
set_option maxRecDepth 100000 in
set_option maxHeartbeats 1000000 in
theorem rnum_any {w : World} {H b : Nat} {s : Rd} (h : Drd w H b s) (most : Nat) (hm : most ≤ 1099511627776) : Calls Tryd.prog 59 #[.pointer (some ⟨b, 0, none⟩), .int .i64 (most : Int)] w fun e w' => e = .returned (.int .i64 ((dnM most s).1 : Int)) ∧ Drd w' H b (dnM most s).2 ∧ Kept w w' (some b) := by
  have HR := Hid.mk' h
  obtain ⟨a, n, c, h1, h2, h3⟩ := h.ex
  have c1 := h.c1
  have f0 := h.f0
  have f1 := h.f1
  have HC := Hid.mk' h2
  have HX := Hid.mk' h3
  have hnN := rdN_lt s.1
  have hroom := h2.room
  have hcap := h2.max
  have hwm : IntKind.u64.wrap (most : Int) = (most : Int) := by rw [IntKind.wrap_u64]; omega
  obtain ⟨L, bd⟩ := s
  dsimp only at *
  clear h h2 h3
  cases hok : okR L with
  | false =>
    have hE : dnM most (L, bd) = (0, (L, true)) := dnM_no (by rw [hok]; rfl)
    rw [hE]
    obtain ⟨d1, d2, d3⟩ := rd_none (L := L) (by rw [hok]; decide)
    go_enter Tryd.func59, Tryd.ntmps59
    go_wp2_with (go_at_call 83; refine (rread_any HC.out.by_).mono ?_; rintro e w2 ⟨rfl, m, rfl⟩; rw [d1, d2, d3])
    go_ret
    exact ⟨rfl, (HR.out.kept (Kept.drewN _ _ none) (fun i e => by cases e)).bad, (Kept.drewN _ _ _).tr (dkept_set _ _ _ _)⟩
  | true =>
    obtain ⟨d1, d2, d3⟩ := rd_some (L := L) hok
    have hro := read_only L HC.out.by_.lt hok
    have hsz := HC.out.by_.size
    have hkn : rdK L ≤ n := by have := hro.2.2.1; omega
    have hk1 := hro.2.1
    have d3' : ((rdE L : Nat) : Int) = 0 := by rw [d3]; rfl
    have HSZ := Hid.mk' hsz
    clear d1 d2 d3 hro hsz
    by_cases hle : rdN L ≤ most
    · have hE : dnM most (L, bd) = (rdN L, (L.drop (rdK L), bd)) := dnM_yes (by rw [hok]; simp [hle])
      rw [hE]
      clear hE
      obtain ⟨bb, off, rfl, hbb, _⟩ := HC.out.by_.at_ (by omega)
      generalize hK : rdK L = K at *
      have HK := Hid.mk' hK
      clear hK
      generalize hNN : rdN L = N at *
      have HN := Hid.mk' hNN
      clear hNN
      have hdrop : ∀ m, Drd (w.drewN m) H b (L, bd) := fun m => HR.out.kept (Kept.drewN _ _ none) (fun i e => by cases e)
      have HD := Hid.mk' hdrop
      have hCm : ∀ m, Come (w.drewN m) (some ⟨bb, off + K, none⟩) (n - K) (c - K) (L.drop K) := fun m => ⟨(HC.out.by_.ddrop K hkn).drewN m, fun e => (nomatch e), by omega, by omega⟩
      have HCm := Hid.mk' hCm
      have hXm : 0 < n - K → ∀ x, some (⟨bb, off + K, none⟩ : Addr) = some x → x.block < H ∧ x.block ≠ b := fun hp x hx => by
        injection hx with hx
        subst hx
        exact HX.out (by omega) ⟨bb, off, none⟩ rfl
      have HXm := Hid.mk' hXm
      have hwn : IntKind.i64.wrap (N : Int) = (N : Int) := by simp [IntKind.wrap, IntKind.bits, IntKind.signed]; omega
      clear hdrop hCm hXm
      by_cases hcK : K = c
      · have hnK : n = K := by omega
        have hL0 : L.drop K = [] := by rw [List.drop_eq_nil_iff]; have := HSZ.out; omega
        subst hnK
        subst hcK
        rw [hL0]
        clear hL0 HCm HXm
        go_enter Tryd.func59, Tryd.ntmps59
        go_wp2_with (go_at_call 83; refine (rread_any HC.out.by_).mono ?_; rintro e w2 ⟨rfl, m, rfl⟩; rw [HK.out, HN.out, d3'])
        all_goals
          go_ret
          exact ⟨rfl, (HD.out _).set ⟨By.nil _ _, fun e => (by first | rfl | cases e), Nat.le_refl _, by omega⟩ (fun hp => absurd hp (by omega)), (Kept.drewN _ _ _).tr (dkept_set _ _ _ _)⟩
      · have hcK2 : ¬ c = K := fun e => hcK e.symm
        have hcK3 : K < c := by omega
        go_enter Tryd.func59, Tryd.ntmps59
        go_wp2_with (go_at_call 83; refine (rread_any HC.out.by_).mono ?_; rintro e w2 ⟨rfl, m, rfl⟩; rw [HK.out, HN.out, d3'])
        go_ret
        exact ⟨rfl, (HD.out _).set (HCm.out _) HXm.out, (Kept.drewN _ _ _).tr (dkept_set _ _ _ _)⟩
    · have hE : dnM most (L, bd) = (0, (L, true)) := dnM_no (by rw [hok]; simp [hle])
      rw [hE]
      have hgt : most < rdN L := by omega
      go_enter Tryd.func59, Tryd.ntmps59
      go_wp2_with (go_at_call 83; refine (rread_any HC.out.by_).mono ?_; rintro e w2 ⟨rfl, m, rfl⟩; rw [d3'])
      go_ret
      exact ⟨rfl, (HR.out.kept (Kept.drewN _ _ none) (fun i e => by cases e)).bad, (Kept.drewN _ _ _).tr (dkept_set _ _ _ _)⟩

end Go.Proofs.YtcjkghajeohfjaaDoor

/-
  PLANS, ONE MORE BEHIND, in new memory; what stays while other memory changes.
-/
namespace Go.Proofs.YtcjkghajeohfjaaDoor
open Go.RowKit Go.Lib Go.Deep
set_option linter.unusedVariables false
set_option linter.unusedSimpArgs false

/-- Nothing between two places has changed. -/
structure Stay (base : Nat) (w w' : World) : Prop where
  size : w.heap.size ≤ w'.heap.size
  block : ∀ i, base ≤ i → i < w.heap.size → w'.heap[i]? = w.heap[i]?
theorem Stay.refl (base : Nat) (w : World) : Stay base w w := ⟨Nat.le_refl _, fun _ _ _ => rfl⟩
/-- One more step: a row below the base, or behind the first world. -/
theorem Stay.step {base : Nat} {a w w' : World} {r : Option Nat} (h : Stay base a w) (k : Kept w w' r) (hr : ∀ g, r = some g → g < base ∨ a.heap.size ≤ g) : Stay base a w' :=
  ⟨Nat.le_trans h.size k.size, fun i hb hi => (k.block i (Nat.lt_of_lt_of_le hi h.size) (fun e => by rcases hr i e.symm with q | q <;> omega)).trans (h.block i hb hi)⟩
theorem own_stay {w w' : World} {base n k : Nat} {e : TypeId} {v : Value} {xs : List Value} (h : w.ownsRow base e k v n xs) (q : Stay base w w') : w'.ownsRow base e k v n xs := by
  refine ⟨h.1, ?_⟩
  rcases id h.2 with ⟨rfl, h0⟩ | ⟨b, cap, cur, rfl, hb, hh, h4⟩
  · exact .inl ⟨rfl, h0⟩
  · exact .inr ⟨b, cap, cur, rfl, hb, (q.block b hb (Array.getElem?_eq_some_iff.1 hh).1).trans hh, h4⟩
theorem Ints.stay {w w' : World} {base : Nat} {a : Option Addr} {n c : Nat} {l : List Int} (h : Ints w a n c l) (q : Stay base w w') (hb : ∀ b, a = some b → base ≤ b.block) : Ints w' a n c l :=
  ⟨⟨fun hp => by
    obtain ⟨b, off, rfl, hl, hc⟩ := h.lie.at_ hp
    exact ⟨b, off, rfl, Nat.lt_of_lt_of_le hl q.size, fun i hi j hj => (World.cell?_of_block (w := w) (a := ⟨b, off + i * 1 + j, none⟩) (q.block b (hb _ rfl) hl)).trans (hc i hi j hj)⟩⟩, h.size, h.cap, h.rng⟩
/-- A list of plans of one's own. -/
structure PlS (wr : World) (base : Nat) (v : Value) (l : List Pl) : Prop where
  ex : ∃ r : Nat → Option Addr × Nat, wr.ownsRow base 54 3 v l.length (cellsL l.length 3 (fun i j => plV (l.getD i q0) (r i).1 (r i).2 j)) ∧ (∀ i, i < l.length → Ints wr (r i).1 (l.getD i q0).splits.length (r i).2 (l.getD i q0).splits) ∧ (∀ i, i < l.length → ∀ b, (r i).1 = some b → v.ownBlock ≠ some b.block ∧ b.block < wr.heap.size ∧ base ≤ b.block)
theorem PlS.nil (w : World) (base : Nat) : PlS w base (.slice none 0 0) [] := ⟨⟨fun _ => (none, 0), World.ownsRow_nil _ _ _ _, fun i hi => by simp at hi, fun i hi => by simp at hi⟩⟩
theorem PlS.stay {w w' : World} {base : Nat} {v : Value} {l : List Pl} (h : PlS w base v l) (q : Stay base w w') : PlS w' base v l := by
  obtain ⟨r, h1, h2, h3⟩ := h.ex
  exact ⟨⟨r, own_stay h1 q, fun i hi => (h2 i hi).stay q (fun b e => (h3 i hi b e).2.2), fun i hi b e => ⟨(h3 i hi b e).1, Nat.lt_of_lt_of_le (h3 i hi b e).2.1 q.size, (h3 i hi b e).2.2⟩⟩⟩
theorem PlS.lt {w : World} {base : Nat} {v : Value} {l : List Pl} (h : PlS w base v l) : ∀ g, v.ownBlock = some g → base ≤ g ∧ g < w.heap.size := by
  obtain ⟨r, h1, _, _⟩ := h.ex
  exact own_lt h1
theorem PlS.shape {w : World} {base : Nat} {v : Value} {l : List Pl} (h : PlS w base v l) : ∃ a c, v = .slice a l.length c := by
  obtain ⟨r, h1, _, _⟩ := h.ex
  obtain ⟨a, c, e, _⟩ := lie_own (by omega) h1
  exact ⟨a, c, e⟩
theorem PlS.plans {w : World} {base : Nat} {v : Value} {l : List Pl} (h : PlS w base v l) (hr : ∀ p ∈ l, i64B p.cycle ∧ i64B p.offset) : ∃ a c, v = .slice a l.length c ∧ Plans w a l.length c l := by
  obtain ⟨r, h1, h2, _⟩ := h.ex
  obtain ⟨a, c, e, hl, hc, _⟩ := lie_own (by omega) h1
  exact ⟨a, c, e, ⟨⟨r, hl, h2⟩, rfl, hc, hr⟩⟩
theorem getD_snocP (l : List Pl) (p : Pl) (i : Nat) : (l ++ [p]).getD i q0 = if i = l.length then p else l.getD i q0 := by
  by_cases h : i = l.length
  · subst h; simp
  · rw [if_neg h]
    by_cases h2 : i < l.length
    · simp [h2, List.getElem?_append_left]
    · rw [List.getD_eq_getElem?_getD, List.getD_eq_getElem?_getD, List.getElem?_eq_none (by simp; omega), List.getElem?_eq_none (by omega)]
theorem PlS.grow {W : World} {base : Nat} {v : Value} {l : List Pl} {p : Pl} {a' : Option Addr} {cap : Nat} (h : PlS W base v l) (hI : Ints W a' p.splits.length cap p.splits) (hb : ∀ b, a' = some b → v.ownBlock ≠ some b.block ∧ b.block < W.heap.size ∧ base ≤ b.block) (hk : l.length ≤ 40) (hbase : base ≤ W.heap.size) :
    ∃ v' W5, (Builtin.append_ #[27, 27] 27 #[v, .slice (some ⟨W.heap.size, 0, none⟩) 1 1]).run Tryd.prog (W.alloc (plB p a' cap)) = .ok v' W5 ∧ PlS W5 base v' (l ++ [p]) ∧ Kept W W5 v.ownBlock := by
  obtain ⟨r, ho, hi, hbb⟩ := h.ex
  obtain ⟨i0, hi0, hz0, hz1, hz2⟩ := info_parts Tryd.infoPl
  have k4 : Kept W (W.alloc (plB p a' cap)) none := Kept.alloc _ _ _ _ _
  have z4 : (W.alloc (plB p a' cap)).heap.size = W.heap.size + 1 := by simp
  have q0' : ∀ j, j < 3 → (W.alloc (plB p a' cap)).cell? ⟨W.heap.size, 0 + j, none⟩ = some (plV p a' cap j) := fun j hj => by
    have : j = 0 ∨ j = 1 ∨ j = 2 := by omega
    rw [Nat.zero_add]
    refine alloc_at2 _ _ _ rfl ?_
    rcases this with rfl | rfl | rfl <;> rfl
  generalize W.alloc (plB p a' cap) = W4 at *
  have own4 := own_keptR' ho k4 (fun g _ => by simp)
  obtain ⟨v', W5, hr, g1, g2, g3⟩ := grow_run (t := 27) (ty := 27) (c := 1) Tryd.uPls hi0 hz0 hz1 hz2 rfl (by omega) (by omega) own4 q0' (fun j => by unfold plV; split <;> rfl) (by omega) (by omega)
  have g2' : Kept W4 W5 v.ownBlock := g2
  have hk45 : Kept W W5 v.ownBlock := ⟨g2'.os.trans k4.os, g2'.tape.trans k4.tape, g2'.output.trans k4.output, Nat.le_trans k4.size g2'.size, fun i hi hne => (g2'.block i (Nat.lt_of_lt_of_le hi k4.size) hne).trans (k4.block i hi (by simp))⟩
  have vfr : ∀ g, v'.ownBlock = some g → v.ownBlock = some g ∨ W.heap.size ≤ g := fun g hg => by
    rcases g3 with e | e
    · exact .inl (e.symm.trans hg)
    · rw [e] at hg; injection hg with hg; exact .inr (by omega)
  refine ⟨v', W5, hr, ⟨⟨fun i => if i = l.length then (a', cap) else r i, ?_, fun i hik => ?_, fun i hik b e => ?_⟩⟩, hk45⟩
  · rw [List.length_append]
    have he : cellsL (l.length + 1) 3 (fun i j => if i = l.length then plV p a' cap j else plV (l.getD i q0) (r i).1 (r i).2 j) = cellsL (l.length + [p].length) 3 (fun i j => plV ((l ++ [p]).getD i q0) ((if i = l.length then (a', cap) else r i) : Option Addr × Nat).1 ((if i = l.length then (a', cap) else r i) : Option Addr × Nat).2 j) := by
      show cellsL (l.length + 1) 3 _ = cellsL (l.length + 1) 3 _
      unfold cellsL
      refine List.map_congr_left fun q _ => ?_
      show (if q / 3 = l.length then plV p a' cap (q % 3) else plV (l.getD (q / 3) q0) (r (q / 3)).1 (r (q / 3)).2 (q % 3)) = plV ((l ++ [p]).getD (q / 3) q0) ((if q / 3 = l.length then (a', cap) else r (q / 3)) : Option Addr × Nat).1 ((if q / 3 = l.length then (a', cap) else r (q / 3)) : Option Addr × Nat).2 (q % 3)
      rw [getD_snocP]
      by_cases e : q / 3 = l.length
      · rw [if_pos e, if_pos e, if_pos e]
      · rw [if_neg e, if_neg e, if_neg e]
    rw [← he]
    exact g1
  · rw [getD_snocP]
    by_cases e : i = l.length
    · rw [if_pos e]
      simp only [if_pos e]
      exact hI.keptS hk45 (fun b eb ec => (hb b eb).1 ec.symm)
    · rw [if_neg e]
      simp only [if_neg e]
      have hil : i < l.length := by rw [List.length_append] at hik; simp at hik; omega
      exact (hi i hil).keptS hk45 (fun b eb ec => (hbb i hil b eb).1 ec.symm)
  · have hs5 := hk45.size
    by_cases ei : i = l.length
    · simp only [if_pos ei] at e
      obtain ⟨p1, p2, p3⟩ := hb b e
      exact ⟨fun ec => by rcases vfr _ ec with q | q; exact p1 q; omega, by omega, p3⟩
    · simp only [if_neg ei] at e
      have hil : i < l.length := by rw [List.length_append] at hik; simp at hik; omega
      obtain ⟨p1, p2, p3⟩ := hbb i hil b e
      exact ⟨fun ec => by rcases vfr _ ec with q | q; exact p1 q; omega, by omega, p3⟩
/-- A number is read as it was written. -/
theorem dn_fwd {most n : Nat} (hm : most < 18446744073709551616) (hn : n ≤ most) (T : List Nat) : dnM most (sml n ++ T, false) = (n, (T, false)) := by
  have h := (upC hm).fwd n T hn
  unfold upM at h
  unfold dnM
  split at h
  · rename_i hc
    simp only [Bool.not_false, Bool.true_and] at hc
    rw [if_pos hc]
    exact h
  · injection h with h1 h2
    injection h2 with h3 h4
    cases h4
theorem kept_two {a w w' : World} {r r' : Option Nat} (h : Kept a w r) (k : Kept w w' r') (hr : ∀ g, r' = some g → r = some g ∨ a.heap.size ≤ g) : Kept a w' r :=
  ⟨k.os.trans h.os, k.tape.trans h.tape, k.output.trans h.output, Nat.le_trans h.size k.size, fun i hi hne => (k.block i (Nat.lt_of_lt_of_le hi h.size) (fun e => by
    rcases hr i e.symm with q | q
    · exact hne q.symm
    · omega)).trans (h.block i hi hne)⟩

end Go.Proofs.YtcjkghajeohfjaaDoor

/-
  LISTS OF ONE'S OWN: numbers, one more behind.
-/
namespace Go.Proofs.YtcjkghajeohfjaaDoor
open Go.RowKit Go.Lib Go.Deep
set_option linter.unusedVariables false
set_option linter.unusedSimpArgs false

/-- A list of numbers in memory that lies behind a base. -/
def OwI (w : World) (base : Nat) (v : Value) (l : List Int) : Prop := w.ownsRow base 3 1 v l.length (cellsL l.length 1 (fun i _ => .int .i64 (l.getD i 0)))
theorem OwI.nil (w : World) (base : Nat) : OwI w base (.slice none 0 0) [] := World.ownsRow_nil _ _ _ _
theorem OwI.keptR {w w' : World} {r : Option Nat} {base : Nat} {v : Value} {l : List Int} (h : OwI w base v l) (q : Kept w w' r) (hr : ∀ g, v.ownBlock = some g → some g ≠ r) : OwI w' base v l := own_keptR' h q hr
theorem OwI.kept {w w' : World} {base : Nat} {v : Value} {l : List Int} (h : OwI w base v l) (q : Kept w w' none) : OwI w' base v l := h.keptR q (fun g _ => by simp)
theorem OwI.ints {w : World} {base : Nat} {v : Value} {l : List Int} (h : OwI w base v l) (hr : ∀ x ∈ l, -9223372036854775808 ≤ x ∧ x ≤ 9223372036854775807) : ∃ a c, v = .slice a l.length c ∧ Ints w a l.length c l ∧ ∀ b, a = some b → base ≤ b.block ∧ b.block < w.heap.size := by
  obtain ⟨a, cap, e, h1, h2, h3⟩ := lie_own (by omega) h
  exact ⟨a, cap, e, ⟨h1, rfl, h2, hr⟩, h3⟩
theorem getD_snoc (l : List Int) (x : Int) (i : Nat) : (l ++ [x]).getD i 0 = if i = l.length then x else l.getD i 0 := by
  by_cases h : i = l.length
  · subst h; simp
  · rw [if_neg h]
    by_cases h2 : i < l.length
    · simp [h2, List.getElem?_append_left]
    · rw [List.getD_eq_getElem?_getD, List.getD_eq_getElem?_getD, List.getElem?_eq_none (by simp; omega), List.getElem?_eq_none (by omega)]
theorem OwI.grow {w : World} {base : Nat} {v : Value} {l : List Int} (h : OwI w base v l) (x : Int) (hn : l.length ≤ 1000) (hb : base ≤ w.heap.size) :
    ∃ v' w', (Builtin.append_ #[52, 52] 52 #[v, .slice (some ⟨w.heap.size, 0, none⟩) 1 1]).run Tryd.prog (w.alloc (.cells #[.int .i64 x] 3)) = .ok v' w' ∧ OwI w' base v' (l ++ [x]) ∧ Kept w w' v.ownBlock ∧ (v'.ownBlock = v.ownBlock ∨ v'.ownBlock = some (w.heap.size + 1)) := by
  obtain ⟨i0, hi0, hz0, hz1, hz2⟩ := info_parts Tryd.infoIn
  have hk : Kept w (w.alloc (.cells #[.int .i64 x] 3)) none := Kept.alloc _ _ _ _ _
  have hz : (w.alloc (.cells #[.int .i64 x] 3)).heap.size = w.heap.size + 1 := by simp
  have hc : ∀ j, j < 1 → (w.alloc (.cells #[.int .i64 x] 3)).cell? ⟨w.heap.size, 0 + j, none⟩ = some (.int .i64 x) := fun j hj => by
    have : j = 0 := by omega
    subst this
    simp [World.cell?_alloc_mark]
  obtain ⟨v', w', hr, g1, g2, g3⟩ := grow_run (t := 52) (ty := 52) (c := 1) (g := fun _ => .int .i64 x) Tryd.uIns hi0 hz0 hz1 hz2 rfl (by omega) (by omega) (h.kept hk) hc (fun j => rfl) hn (by omega)
  rw [hz] at g3
  refine ⟨v', w', hr, ?_, ?_, g3⟩
  · unfold OwI
    rw [List.length_append]
    have e : (fun (i _ : Nat) => if i = l.length then Value.int .i64 x else .int .i64 (l.getD i 0)) = (fun (i _ : Nat) => Value.int .i64 ((l ++ [x]).getD i 0)) := by
      funext i _
      rw [getD_snoc]
      split <;> rfl
    rw [e] at g1
    exact g1
  · have h2 : Kept (w.alloc (.cells #[.int .i64 x] 3)) w' v.ownBlock := g2
    refine ⟨h2.os.trans hk.os, h2.tape.trans hk.tape, h2.output.trans hk.output, Nat.le_trans hk.size h2.size, fun i hi hne => (h2.block i (Nat.lt_of_lt_of_le hi hk.size) hne).trans (hk.block i hi (by simp))⟩
theorem OwI.lt {w : World} {base : Nat} {v : Value} {l : List Int} (h : OwI w base v l) : ∀ g, v.ownBlock = some g → base ≤ g ∧ g < w.heap.size := own_lt h
theorem OwI.far {w w' : World} {base : Nat} {v : Value} {l : List Int} (h : OwI w base v l) (k : Kept w w' v.ownBlock) {w0 : World} (h0 : Kept w0 w none) (hb : w0.heap.size ≤ base) : Kept w0 w' none :=
  ⟨k.os.trans h0.os, k.tape.trans h0.tape, k.output.trans h0.output, Nat.le_trans h0.size k.size, fun i hi _ => (k.block i (Nat.lt_of_lt_of_le hi h0.size) (fun e => by have := (h.lt i e.symm).1; omega)).trans (h0.block i hi (by simp))⟩
theorem mk_ints (c : Nat) (hc : c ≤ 1000000) (w : World) (base : Nat) (hb : base ≤ w.heap.size) : ∃ w', (Instr.makeSlice 52 (.int .i64 0) (.int .i64 (c : Int))).run Tryd.prog w = .ok (.slice (some ⟨w.heap.size, 0, none⟩) 0 c) w' ∧ OwI w' base (.slice (some ⟨w.heap.size, 0, none⟩) 0 c) [] ∧ Kept w w' none := by
  obtain ⟨i0, hi0, hz0, hz1, hz2⟩ := info_parts Tryd.infoIn
  obtain ⟨w1, hmk, hown, hg⟩ := run_make_own (P := Tryd.prog) w base 52 3 i0 _ 1 Tryd.uIns hi0 hz0 hz1 .i64 .i64 c (by rw [hz2]; omega) (by unfold maxLen; omega) hb
  exact ⟨w1, hmk, hown, hg⟩

end Go.Proofs.YtcjkghajeohfjaaDoor

