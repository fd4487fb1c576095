/-
  THE CONTRACTS of the document's Next and Run (made by a program).
-/
import Derived.Test.YtbgnllpgogbmfaaPulS
import Derived.Deep.RegionWith
namespace Go.Proofs.Ytbgnllpgogbmfaa
open Go.RowKit Go.Lib Go.Deep
set_option linter.unusedVariables false
set_option linter.unusedSimpArgs false

set_option maxHeartbeats 1000000 in
theorem rnext_low (p : Pu) (r : Bool) (h : Int) (w : World) (h1 : p.since < 0) : Calls Try.prog 11 #[puV p, .bool r, .int .i64 h] w fun e w' => e = .returned (.tuple #[puV (nexV p r h), .int .i64 (nexE p h)]) ∧ Kept w w' none := by
  obtain ⟨x1, x2⟩ := nex_bad (p := p) (r := r) (h := h) (decide_eq_false (by omega))
  rw [x1, x2]
  clear x1 x2
  obtain ⟨u, q, s⟩ := p
  have h1' := h1
  dsimp only at h1'
  go_enter Try.func11, Try.ntmps11
  go_wp2
  refine bodyPost_ret (v := .tuple #[puV _, .int .i64 _]) (by simp [results, Try.results11, go_sem]; done) rfl ⟨rfl, ?_⟩
  exact (by (repeat (first | exact Kept.refl _ _ | (refine Kept.setNew ?_ (by simp <;> omega) _) | (refine Kept.tr ?_ (Kept.alloc _ _ _ _ _)))))

set_option maxHeartbeats 1000000 in
theorem rnext_high (p : Pu) (r : Bool) (h : Int) (w : World) (h0 : 0 ≤ p.since) (h1 : 1048576 < p.since) : Calls Try.prog 11 #[puV p, .bool r, .int .i64 h] w fun e w' => e = .returned (.tuple #[puV (nexV p r h), .int .i64 (nexE p h)]) ∧ Kept w w' none := by
  obtain ⟨x1, x2⟩ := nex_bad (p := p) (r := r) (h := h) (decide_eq_false (by omega))
  rw [x1, x2]
  clear x1 x2
  obtain ⟨u, q, s⟩ := p
  have h1' := h1
  dsimp only at h1'
  go_enter Try.func11, Try.ntmps11
  go_wp2
  refine bodyPost_ret (v := .tuple #[puV _, .int .i64 _]) (by simp [results, Try.results11, go_sem]; done) rfl ⟨rfl, ?_⟩
  exact (by (repeat (first | exact Kept.refl _ _ | (refine Kept.setNew ?_ (by simp <;> omega) _) | (refine Kept.tr ?_ (Kept.alloc _ _ _ _ _)))))

set_option maxHeartbeats 1000000 in
theorem rnext_less (p : Pu) (r : Bool) (h : Int) (w : World) (h1 : mayP p = true) (h2 : h < 1) : Calls Try.prog 11 #[puV p, .bool r, .int .i64 h] w fun e w' => e = .returned (.tuple #[puV (nexV p r h), .int .i64 (nexE p h)]) ∧ Kept w w' none := by
  obtain ⟨x1, x2⟩ := nex_arg (p := p) (r := r) (h := h) h1 (decide_eq_false (by omega))
  rw [x1, x2]
  clear x1 x2
  obtain ⟨u, q, s⟩ := p
  have hp' : 0 ≤ s ∧ s ≤ 1048576 := of_decide_eq_true h1
  obtain ⟨hs0, hs1⟩ := hp'
  clear h1
  go_enter Try.func11, Try.ntmps11
  go_wp2
  refine bodyPost_ret (v := .tuple #[puV _, .int .i64 _]) (by simp [results, Try.results11, go_sem]; done) rfl ⟨rfl, ?_⟩
  exact (by (repeat (first | exact Kept.refl _ _ | (refine Kept.setNew ?_ (by simp <;> omega) _) | (refine Kept.tr ?_ (Kept.alloc _ _ _ _ _)))))

set_option maxHeartbeats 1000000 in
theorem rnext_more (p : Pu) (r : Bool) (h : Int) (w : World) (h1 : mayP p = true) (h0 : 1 ≤ h) (h2 : 1048576 < h) : Calls Try.prog 11 #[puV p, .bool r, .int .i64 h] w fun e w' => e = .returned (.tuple #[puV (nexV p r h), .int .i64 (nexE p h)]) ∧ Kept w w' none := by
  obtain ⟨x1, x2⟩ := nex_arg (p := p) (r := r) (h := h) h1 (decide_eq_false (by omega))
  rw [x1, x2]
  clear x1 x2
  obtain ⟨u, q, s⟩ := p
  have hp' : 0 ≤ s ∧ s ≤ 1048576 := of_decide_eq_true h1
  obtain ⟨hs0, hs1⟩ := hp'
  clear h1
  go_enter Try.func11, Try.ntmps11
  go_wp2
  refine bodyPost_ret (v := .tuple #[puV _, .int .i64 _]) (by simp [results, Try.results11, go_sem]; done) rfl ⟨rfl, ?_⟩
  exact (by (repeat (first | exact Kept.refl _ _ | (refine Kept.setNew ?_ (by simp <;> omega) _) | (refine Kept.tr ?_ (Kept.alloc _ _ _ _ _)))))

set_option maxHeartbeats 1000000 in
theorem rnext_ok (p : Pu) (r : Bool) (h : Int) (w : World) (h1 : mayP p = true) (h2 : holB h = true) : Calls Try.prog 11 #[puV p, .bool r, .int .i64 h] w fun e w' => e = .returned (.tuple #[puV (nexV p r h), .int .i64 (nexE p h)]) ∧ Kept w w' none := by
  obtain ⟨x1, x2⟩ := nex_ok (r := r) h1 h2
  rw [x1, x2]
  clear x1 x2
  obtain ⟨u, q, s⟩ := p
  have H1 := Hid.mk' h1
  have hp' : 0 ≤ s ∧ s ≤ 1048576 := of_decide_eq_true h1
  have hh' : 1 ≤ h ∧ h ≤ 1048576 := of_decide_eq_true h2
  obtain ⟨hs0, hs1⟩ := hp'
  obtain ⟨hh0, hh1⟩ := hh'
  clear h1 h2
  go_enter Try.func11, Try.ntmps11
  go_wp2_with (go_at_call 19; refine (rnext1_any ⟨u, q, s⟩ r h _ H1.out).mono ?_; rintro e w3 ⟨rfl, hk3⟩; have hR := (box_alloc (w.alloc (.cells #[.bool u, .bool q, .int .i64 s] 23)) (.bool false) (.bool false) (.int .i64 0) 23).kept hk3; simp only [World.size_alloc] at hR; have d0 := hR.c0; have d1 := hR.c1; have d2 := hR.c2; have e0 := hR.f0; have e1 := hR.f1; have e2 := hR.f2)
  refine bodyPost_ret (v := .tuple #[puV _, .int .i64 _]) (by simp [results, Try.results11, go_sem, *]; done) rfl ⟨rfl, ?_⟩
  have hK : Kept w _ none := ((Kept.alloc _ _ _ _ _).tr (Kept.alloc _ _ _ _ _)).tr hk3
  exact ((hK.setNew (p := ⟨w.heap.size + 1, 0, none⟩) (by simp) _).setNew (p := ⟨w.heap.size + 1, 1, none⟩) (by simp) _).setNew (p := ⟨w.heap.size + 1, 2, none⟩) (by simp) _
theorem rnext_any (p : Pu) (r : Bool) (h : Int) (w : World) : Calls Try.prog 11 #[puV p, .bool r, .int .i64 h] w fun e w' => e = .returned (.tuple #[puV (nexV p r h), .int .i64 (nexE p h)]) ∧ Kept w w' none := by
  by_cases h1 : p.since < 0
  · exact rnext_low p r h w h1
  by_cases h2 : 1048576 < p.since
  · exact rnext_high p r h w (by omega) h2
  have hm : mayP p = true := decide_eq_true (by omega)
  by_cases h3 : h < 1
  · exact rnext_less p r h w hm h3
  by_cases h4 : 1048576 < h
  · exact rnext_more p r h w hm (by omega) h4
  exact rnext_ok p r h w hm (decide_eq_true (by omega))

set_option maxHeartbeats 1000000 in
theorem rrun_low (p : Pu) (h : Int) {a : Option Addr} {n c : Nat} {L : List Bool} {w : World} (hA : Bo w a n L) (h1 : p.since < 0) : Calls Try.prog 12 #[puV p, .slice a n c, .int .i64 h] w (RunA w p L h) := by
  have hmx := hA.max
  unfold RunA
  obtain ⟨x1, x2, x3⟩ := rn_bad (p := p) (L := L) (h := h) (decide_eq_false (by omega))
  rw [x1, x2, x3]
  clear x1 x2 x3 hA
  obtain ⟨u, q, s⟩ := p
  have h1' := h1
  dsimp only at h1'
  go_enter Try.func12, Try.ntmps12
  go_wp2
  refine bodyPost_ret (v := .tuple #[puV _, .slice none 0 0, .int .i64 _]) (by simp [results, Try.results12, go_sem]; done) rfl ⟨none, 0, rfl, ?_, ?_⟩
  · exact ⟨World.ownsRow_nil _ _ _ _, fun _ => ⟨rfl, rfl⟩, Nat.le_refl _, by omega⟩
  exact (by (repeat (first | exact Kept.refl _ _ | (refine Kept.setNew ?_ (by simp <;> omega) _) | (refine Kept.tr ?_ (Kept.alloc _ _ _ _ _)))))

set_option maxHeartbeats 1000000 in
theorem rrun_high (p : Pu) (h : Int) {a : Option Addr} {n c : Nat} {L : List Bool} {w : World} (hA : Bo w a n L) (h0 : 0 ≤ p.since) (h1 : 1048576 < p.since) : Calls Try.prog 12 #[puV p, .slice a n c, .int .i64 h] w (RunA w p L h) := by
  have hmx := hA.max
  unfold RunA
  obtain ⟨x1, x2, x3⟩ := rn_bad (p := p) (L := L) (h := h) (decide_eq_false (by omega))
  rw [x1, x2, x3]
  clear x1 x2 x3 hA
  obtain ⟨u, q, s⟩ := p
  have h1' := h1
  dsimp only at h1'
  dsimp only at h0
  go_enter Try.func12, Try.ntmps12
  go_wp2
  refine bodyPost_ret (v := .tuple #[puV _, .slice none 0 0, .int .i64 _]) (by simp [results, Try.results12, go_sem]; done) rfl ⟨none, 0, rfl, ?_, ?_⟩
  · exact ⟨World.ownsRow_nil _ _ _ _, fun _ => ⟨rfl, rfl⟩, Nat.le_refl _, by omega⟩
  exact (by (repeat (first | exact Kept.refl _ _ | (refine Kept.setNew ?_ (by simp <;> omega) _) | (refine Kept.tr ?_ (Kept.alloc _ _ _ _ _)))))

set_option maxHeartbeats 1000000 in
theorem rrun_many (p : Pu) (h : Int) {a : Option Addr} {n c : Nat} {L : List Bool} {w : World} (hA : Bo w a n L) (h1 : mayP p = true) (h2 : 4096 < n) : Calls Try.prog 12 #[puV p, .slice a n c, .int .i64 h] w (RunA w p L h) := by
  have hmx := hA.max
  unfold RunA
  obtain ⟨x1, x2, x3⟩ := rn_many (L := L) (h := h) h1 (by rw [hA.size]; exact h2)
  rw [x1, x2, x3]
  clear x1 x2 x3 hA
  obtain ⟨u, q, s⟩ := p
  have hp' : 0 ≤ s ∧ s ≤ 1048576 := of_decide_eq_true h1
  obtain ⟨hs0, hs1⟩ := hp'
  clear h1
  go_enter Try.func12, Try.ntmps12
  go_wp2
  refine bodyPost_ret (v := .tuple #[puV _, .slice none 0 0, .int .i64 _]) (by simp [results, Try.results12, go_sem]; done) rfl ⟨none, 0, rfl, ?_, ?_⟩
  · exact ⟨World.ownsRow_nil _ _ _ _, fun _ => ⟨rfl, rfl⟩, Nat.le_refl _, by omega⟩
  exact (by (repeat (first | exact Kept.refl _ _ | (refine Kept.setNew ?_ (by simp <;> omega) _) | (refine Kept.tr ?_ (Kept.alloc _ _ _ _ _)))))

set_option maxHeartbeats 1000000 in
theorem rrun_less (p : Pu) (h : Int) {a : Option Addr} {n c : Nat} {L : List Bool} {w : World} (hA : Bo w a n L) (h1 : mayP p = true) (hn : ¬ 4096 < n) (h2 : h < 1) : Calls Try.prog 12 #[puV p, .slice a n c, .int .i64 h] w (RunA w p L h) := by
  have hmx := hA.max
  unfold RunA
  obtain ⟨x1, x2, x3⟩ := rn_arg (L := L) (h := h) h1 (by rw [hA.size]; exact hn) (decide_eq_false (by omega))
  rw [x1, x2, x3]
  clear x1 x2 x3 hA
  obtain ⟨u, q, s⟩ := p
  have hp' : 0 ≤ s ∧ s ≤ 1048576 := of_decide_eq_true h1
  obtain ⟨hs0, hs1⟩ := hp'
  clear h1
  go_enter Try.func12, Try.ntmps12
  go_wp2
  refine bodyPost_ret (v := .tuple #[puV _, .slice none 0 0, .int .i64 _]) (by simp [results, Try.results12, go_sem]; done) rfl ⟨none, 0, rfl, ?_, ?_⟩
  · exact ⟨World.ownsRow_nil _ _ _ _, fun _ => ⟨rfl, rfl⟩, Nat.le_refl _, by omega⟩
  exact (by (repeat (first | exact Kept.refl _ _ | (refine Kept.setNew ?_ (by simp <;> omega) _) | (refine Kept.tr ?_ (Kept.alloc _ _ _ _ _)))))

set_option maxHeartbeats 1000000 in
theorem rrun_more (p : Pu) (h : Int) {a : Option Addr} {n c : Nat} {L : List Bool} {w : World} (hA : Bo w a n L) (h1 : mayP p = true) (hn : ¬ 4096 < n) (h0 : 1 ≤ h) (h2 : 1048576 < h) : Calls Try.prog 12 #[puV p, .slice a n c, .int .i64 h] w (RunA w p L h) := by
  have hmx := hA.max
  unfold RunA
  obtain ⟨x1, x2, x3⟩ := rn_arg (L := L) (h := h) h1 (by rw [hA.size]; exact hn) (decide_eq_false (by omega))
  rw [x1, x2, x3]
  clear x1 x2 x3 hA
  obtain ⟨u, q, s⟩ := p
  have hp' : 0 ≤ s ∧ s ≤ 1048576 := of_decide_eq_true h1
  obtain ⟨hs0, hs1⟩ := hp'
  clear h1
  go_enter Try.func12, Try.ntmps12
  go_wp2
  refine bodyPost_ret (v := .tuple #[puV _, .slice none 0 0, .int .i64 _]) (by simp [results, Try.results12, go_sem]; done) rfl ⟨none, 0, rfl, ?_, ?_⟩
  · exact ⟨World.ownsRow_nil _ _ _ _, fun _ => ⟨rfl, rfl⟩, Nat.le_refl _, by omega⟩
  exact (by (repeat (first | exact Kept.refl _ _ | (refine Kept.setNew ?_ (by simp <;> omega) _) | (refine Kept.tr ?_ (Kept.alloc _ _ _ _ _)))))

/-- One more behind: append(own, x) where the list is of the call's own. -/
theorem wpList_bgrow {ops : Array Oper} {rest : List Oper} {o : Oper} {act : Act} {Q : Exit → Act → World → Prop} {w : World} (hgd : o.guard = none) (s x : Operand)
    (ho : o.op = .call { callee := .builtin .append, args := #[s, x], argTypes := #[27, 27] })
    (base : Nat) (a : Option Addr) (n c : Nat) (L : List Bool) (hs : act.eval s = .slice a n c) (hown : Bow w base a n c L)
    (H : Nat) (y : Bool) (hH : w.heap.size = H) (hx : act.eval x = .slice (some ⟨H, 0, none⟩) 1 1)
    (hn : n ≤ 1000000) (hbase : base ≤ w.heap.size)
    (h : ∀ a' cap w', Bow w' base a' (n + 1) cap (L ++ [y]) → Kept w w' (Value.slice a n c).ownBlock → wpList Try.prog ops Q rest (act.put o.dst (.slice a' (n + 1) cap)) w') : wpList Try.prog ops Q (o :: rest) act (w.alloc (.cells #[.bool y] 4)) := by
  obtain ⟨i0, hi0, hz0, hz1, hz2⟩ := info_parts Try.info4b
  refine wpList_append_own _ hgd s x 27 ho base 4 i0 _ 1 1 Try.underlying27 hi0 hz0 hz1 hz2 rfl (by omega) (.slice a n c) n (L.map boolV) hs (hown.own.alloc _) ⟨H, 0, none⟩ 1 1 [.bool y] hx rfl (news_one hH _ _) (fun u hu => by simp at hu; subst hu; rfl) (by unfold maxLen; omega) (by omega) (by simp; omega) ?_
  intro v' w' h1 h2 _
  have e : L.map boolV ++ [Value.bool y] = (L ++ [y]).map boolV := by simp
  rw [e] at h1
  obtain ⟨a', cap, rfl, hb⟩ := bow_of h1
  refine h a' cap w' hb ?_
  have hk : Kept w (w.alloc (.cells #[.bool y] 4)) none := Kept.alloc _ _ _ _ _
  exact ⟨h2.os.trans hk.os, h2.tape.trans hk.tape, h2.output.trans hk.output, Nat.le_trans hk.size h2.size, fun i hi hne => (h2.block i (Nat.lt_of_lt_of_le hi hk.size) hne).trans (hk.block i hi (by simp))⟩
/-- What the document's loop knows between two rounds. -/
structure Rds (w : World) (h : Int) (p : Pu) (L : List Bool) (k : Nat) (a : Option Addr) (c : Nat) (W : World) : Prop where
  box : Box W w.heap.size (.bool (atP h p L k).up) (.bool (atP h p L k).raw) (.int .i64 (atP h p L k).since)
  res : Box W (w.heap.size + 1) (.bool false) (.bool false) (.int .i64 0)
  own : Bow W (w.heap.size + 2) a k c ((saidP h p L).take k)
  kept : Kept w W none
theorem Rds.tr {w W W' : World} {h : Int} {p : Pu} {L : List Bool} {k c : Nat} {a : Option Addr} (t : Rds w h p L k a c W) (q : Kept W W' none) : Rds w h p L k a c W' := ⟨t.box.kept q, t.res.kept q, t.own.kept q, t.kept.tr q⟩
theorem kept_off {w : World} {b : Nat} {a : Option Addr} {base n c : Nat} {L : List Bool} (h : Bow w base a n c L) (hb : b < base) (x y z : Value) : Bow (set3 w b x y z) base a n c L := by
  refine ⟨⟨h.own.1, ?_⟩, h.nil, h.room, h.max⟩
  rcases id h.own.2 with ⟨e, h0⟩ | ⟨g, cap, cur, e, hg, hh, h4⟩
  · exact .inl ⟨e, h0⟩
  · exact .inr ⟨g, cap, cur, e, hg, (heap_set3 (by omega) x y z).trans hh, h4⟩
theorem kept_set3 {w W : World} (h : Kept w W none) {b : Nat} (hb : w.heap.size ≤ b) (x y z : Value) : Kept w (set3 W b x y z) none := ((h.setNew (p := ⟨b, 0, none⟩) hb _).setNew (p := ⟨b, 1, none⟩) hb _).setNew (p := ⟨b, 2, none⟩) hb _
theorem bow_other {w : World} {base n c : Nat} {a : Option Addr} {L : List Bool} (h : Bow w base a n c L) {b : Nat} (hb : b < base) : some b ≠ (Value.slice a n c).ownBlock := fun e => by
  have := (h.own.lt b e.symm).1
  omega
theorem bow_new {w w0 : World} {base n c : Nat} {a : Option Addr} {L : List Bool} (h : Bow w base a n c L) (hb : w0.heap.size ≤ base) : ∀ i, (Value.slice a n c).ownBlock = some i → w0.heap.size ≤ i := fun i e => Nat.le_trans hb (h.own.lt i e).1
theorem rds_step {w w2 w4 : World} {h : Int} {p P' : Pu} {L : List Bool} {k co cap : Nat} {ao a' : Option Addr} (t : Rds w h p L k ao co w2) (hP : P' = atP h p L (k + 1)) (hk : k < L.length)
    (hb4 : Bow w4 (w.heap.size + 2) a' (k + 1) cap ((saidP h p L).take k ++ [P'.up])) (hk4 : Kept (set3 w2 w.heap.size (.bool P'.up) (.bool P'.raw) (.int .i64 P'.since)) w4 (Value.slice ao k co).ownBlock) : Rds w h p L (k + 1) a' cap w4 := by
  have ow := kept_off t.own (b := w.heap.size) (by omega) (.bool P'.up) (.bool P'.raw) (.int .i64 P'.since)
  refine ⟨?_, (t.res.off (by omega) _ _ _).keptR hk4 (bow_other ow (by omega)), ?_, (kept_set3 t.kept (Nat.le_refl _) _ _ _).newRow hk4 (bow_new ow (by omega))⟩
  · rw [← hP]
    exact (t.box.set _ _ _).keptR hk4 (bow_other ow (by omega))
  · rw [saidP_take h p hk, ← hP]
    exact hb4
set_option maxRecDepth 100000 in
set_option maxHeartbeats 4000000 in
theorem rrun_ok (p : Pu) (h : Int) {a : Option Addr} {n c : Nat} {L : List Bool} {w : World} (hA : Bo w a n L) (h1 : mayP p = true) (h2 : ¬ 4096 < n) (h3 : holB h = true) : Calls Try.prog 12 #[puV p, .slice a n c, .int .i64 h] w (RunA w p L h) := by
  obtain ⟨x1, x2, x3⟩ := rn_ok (L := L) (h := h) h1 (by rw [hA.size]; exact h2) h3
  have hmx := hA.max
  have hn : n ≤ 4096 := by omega
  have HA := Hid.mk' hA
  have HL := Hid.mk' hA.size
  unfold RunA
  rw [x1, x2, x3]
  clear x1 x2 x3 hA
  have H1 := Hid.mk' h1
  have hp' : 0 ≤ p.since ∧ p.since ≤ 1048576 := of_decide_eq_true h1
  have hh' : 1 ≤ h ∧ h ≤ 1048576 := of_decide_eq_true h3
  obtain ⟨hs0, hs1⟩ := hp'
  obtain ⟨hh0, hh1⟩ := hh'
  clear h1 h3
  have hR0 : Rds w h p L 0 none 0 ((w.alloc (.cells #[.bool p.up, .bool p.raw, .int .i64 p.since] 23)).alloc (.cells #[.bool false, .bool false, .int .i64 0] 23)) := by
    have hr := box_alloc (w.alloc (.cells #[.bool p.up, .bool p.raw, .int .i64 p.since] 23)) (.bool false) (.bool false) (.int .i64 0) 23
    simp only [World.size_alloc] at hr
    exact ⟨(box_alloc w _ _ _ _).kept (Kept.alloc _ _ _ _ _), hr, ⟨World.ownsRow_nil _ _ _ _, fun _ => ⟨rfl, rfl⟩, Nat.le_refl _, by omega⟩, (Kept.alloc _ _ _ _ _).tr (Kept.alloc _ _ _ _ _)⟩
  have HR0 := Hid.mk' hR0
  clear hR0
  go_enter Try.func12, Try.ntmps12
  go_wp2
  go_loopw [9, 10] (fun o i wr => ∃ (k : Nat) (ao : Option Addr) (co : Nat), k ≤ n ∧ i = .int .i64 k ∧ o = .slice ao k co ∧ Rds w h p L k ao co wr) (fun _ i _ => n - (intOf i).toNat)
  case atStart => exact ⟨0, none, 0, by omega, rfl, rfl, HR0.out⟩
  case round =>
    obtain ⟨k, ao, co, hk, rfl, rfl, hrd⟩ := hrel
    have HRD := Hid.mk' hrd
    clear hrd HR0
    by_cases hlt : k < n
    · obtain ⟨P, hP⟩ : ∃ P, P = atP h p L k := ⟨_, rfl⟩
      obtain ⟨P', hP'⟩ : ∃ P', P' = atP h p L (k + 1) := ⟨_, rfl⟩
      have hs : P' = stepP h P (tr L k) := by rw [hP', hP]; exact atP_succ h p (by have := HL.out; omega)
      have hm : mayP P = true := by rw [hP]; exact may_at H1.out
      have HS := Hid.mk' hs
      have HM := Hid.mk' hm
      have HPP := Hid.mk' hP'
      obtain ⟨b, off, ea, hb, hc⟩ := (HA.out.kept HRD.out.kept).at_ (by omega)
      have hbl : b < w.heap.size := HA.out.block (by omega) ea
      have hbx := HRD.out.box
      rw [← hP] at hbx
      have HBX := Hid.mk' hbx
      subst ea
      have q0 : ∀ w', Kept wr w' none → w'.cell? ⟨w.heap.size, 0, none⟩ = some (.bool P.up) := fun w' q => (HBX.out.kept q).c0
      have q1 : ∀ w', Kept wr w' none → w'.cell? ⟨w.heap.size, 1, none⟩ = some (.bool P.raw) := fun w' q => (HBX.out.kept q).c1
      have q2 : ∀ w', Kept wr w' none → w'.cell? ⟨w.heap.size, 2, none⟩ = some (.int .i64 P.since) := fun w' q => (HBX.out.kept q).c2
      have kc0 := hc k hlt
      have kc : ∀ w', Kept wr w' none → w'.cell? ⟨b, off + k, none⟩ = some (.bool (tr L k)) := fun w' q => (cell_kept' q hb).trans kc0
      clear hc hs hm hP hP' hbx kc0
      generalize tr L k = y at *
      go_wp2_with fail
      have z0 := q0 _ (Kept.refl wr none)
      have z1 := q1 _ (Kept.refl wr none)
      have z2 := q2 _ (Kept.refl wr none)
      have zc := kc _ (Kept.refl wr none)
      clear q0 q1 q2 kc
      go_region_with ((go_at_call 19; refine (rnext1_any P y h _ HM.out).mono ?_; rw [← HS.out]; rintro e2 w2 ⟨rfl, hk2⟩; have hK2 : Kept wr w2 none := (Kept.drew _ _).tr hk2; have hB2 := Hid.mk' (HBX.out.kept hK2); have d0 := hB2.out.c0; have d1 := hB2.out.c1; have d2 := hB2.out.c2; have f0 := hB2.out.f0; have f1 := hB2.out.f1; have f2 := hB2.out.f2))
      all_goals
        have HR2 := Hid.mk' (HRD.out.tr hK2)
        have ow2 := Hid.mk' (kept_off HR2.out.own (b := w.heap.size) (by omega) (.bool P'.up) (.bool P'.raw) (.int .i64 P'.since))
        have hzb : w.heap.size + 2 ≤ (set3 w2 w.heap.size (.bool P'.up) (.bool P'.raw) (.int .i64 P'.since)).heap.size := by rw [size_set3]; have := HR2.out.res.lt; omega
        clear hB2 z0 z1 z2 zc
        go_wp2_with (at_builtin; refine wpList_bgrow rfl _ _ rfl (w.heap.size + 2) ao k co ((saidP h p L).take k) rfl ow2.out w2.heap.size P'.up (size_set3 _ _ _ _ _) rfl (by omega) hzb ?_; intro a' cap w4 hb4 hk4)
        have HR4 := Hid.mk' (rds_step HR2.out HPP.out (by have := HL.out; omega) hb4 hk4)
        go_roundw
        case rel => exact ⟨k + 1, a', cap, by omega, by go_num, rfl, HR4.out⟩
        case measure => simp [intOf]; omega
    · obtain rfl : k = n := by omega
      have c0 := HRD.out.box.c0
      have c1 := HRD.out.box.c1
      have c2 := HRD.out.box.c2
      have hq : atP h p L k = runP h p L := by rw [← HL.out]; exact atP_all h p L
      rw [hq] at c0 c1 c2
      have d0 := HRD.out.res.c0
      have d1 := HRD.out.res.c1
      have d2 := HRD.out.res.c2
      have f0 := HRD.out.res.f0
      have f1 := HRD.out.res.f1
      have f2 := HRD.out.res.f2
      have hne2 : ¬ w.heap.size + 1 = w.heap.size := by omega
      clear hq
      generalize hQ : runP h p L = Q at *
      have HQ := Hid.mk' hQ
      clear hQ
      go_wp2
      have hr1 := HRD.out.res.set (.bool Q.up) (.bool Q.raw) (.int .i64 Q.since)
      have r0 := hr1.c0
      have r1 := hr1.c1
      have r2 := hr1.c2
      refine bodyPost_ret (v := .tuple #[puV Q, .slice ao k co, .int .i64 0]) (by simp [results, Try.results12, go_sem, r0, r1, r2]; done) rfl ⟨ao, co, ?_, ?_, kept_set3 HRD.out.kept (by omega) _ _ _⟩
      · rw [saidP_len, HL.out, HQ.out]
      · have h5 := HRD.out.own
        rw [List.take_of_length_le (by rw [saidP_len, HL.out]; exact Nat.le_refl _)] at h5
        rw [saidP_len, HL.out]
        have h6 := kept_off h5 (b := w.heap.size + 1) (by omega) (.bool Q.up) (.bool Q.raw) (.int .i64 Q.since)
        refine ⟨⟨h6.own.1, ?_⟩, h6.nil, h6.room, h6.max⟩
        rcases id h6.own.2 with ⟨e, h0⟩ | ⟨g, cap, cur, e, hg, hh, h4⟩
        · exact .inl ⟨e, h0⟩
        · exact .inr ⟨g, cap, cur, e, by omega, hh, h4⟩
theorem rrun_any (p : Pu) (h : Int) {a : Option Addr} {n c : Nat} {L : List Bool} {w : World} (hA : Bo w a n L) : Calls Try.prog 12 #[puV p, .slice a n c, .int .i64 h] w (RunA w p L h) := by
  by_cases h1 : p.since < 0
  · exact rrun_low p h hA h1
  by_cases h2 : 1048576 < p.since
  · exact rrun_high p h hA (by omega) h2
  have hm : mayP p = true := decide_eq_true (by omega)
  by_cases hn : 4096 < n
  · exact rrun_many p h hA hm hn
  by_cases h3 : h < 1
  · exact rrun_less p h hA hm hn h3
  by_cases h4 : 1048576 < h
  · exact rrun_more p h hA hm hn (by omega) h4
  exact rrun_ok p h hA hm hn (decide_eq_true (by omega))

end Go.Proofs.Ytbgnllpgogbmfaa
