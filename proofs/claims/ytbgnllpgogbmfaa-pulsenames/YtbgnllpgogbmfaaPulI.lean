/-
  THE CONTRACT of ticks: the pulse behind each tick, one after another, to whatever body.
-/
import Derived.Test.YtbgnllpgogbmfaaPulL
import Derived.WalkMore
import Derived.Scope
namespace Go.Proofs.Ytbgnllpgogbmfaa
open Go.RowKit Go.Lib Go.Deep Go.Shelf
set_option linter.unusedVariables false
set_option linter.unusedSimpArgs false
attribute [local go_sem] Oper.semAt_some

/-- A number below another one. -/
abbrev Ix (m : Nat) := { i : Nat // i < m }
def ivals {m : Nat} (l : List (Ix m)) : List Nat := l.map (·.1)
theorem ivals_snoc {m : Nat} (l : List (Ix m)) (x : Ix m) : ivals (l ++ [x]) = ivals l ++ [x.1] := by simp [ivals]
theorem ivals_len {m : Nat} (l : List (Ix m)) : (ivals l).length = l.length := by simp [ivals]
theorem Box.s0 {w : World} {b : Nat} {v0 v1 v2 : Value} (h : Box w b v0 v1 v2) (u : Value) : Box (w.setCell ⟨b, 0, none⟩ u) b u v1 v2 :=
  ⟨World.cell?_setCell_same _ _ _ h.c0, (World.cell?_setCell_other _ _ _ _ (by simp)).trans h.c1, (World.cell?_setCell_other _ _ _ _ (by simp)).trans h.c2, by rw [World.frozen?_setCell]; exact h.f0, by rw [World.frozen?_setCell]; exact h.f1, by rw [World.frozen?_setCell]; exact h.f2, by simpa [World.setCell] using h.lt⟩
theorem Box.s1 {w : World} {b : Nat} {v0 v1 v2 : Value} (h : Box w b v0 v1 v2) (u : Value) : Box (w.setCell ⟨b, 1, none⟩ u) b v0 u v2 :=
  ⟨(World.cell?_setCell_other _ _ _ _ (by simp)).trans h.c0, World.cell?_setCell_same _ _ _ h.c1, (World.cell?_setCell_other _ _ _ _ (by simp)).trans h.c2, by rw [World.frozen?_setCell]; exact h.f0, by rw [World.frozen?_setCell]; exact h.f1, by rw [World.frozen?_setCell]; exact h.f2, by simpa [World.setCell] using h.lt⟩
theorem Box.s2 {w : World} {b : Nat} {v0 v1 v2 : Value} (h : Box w b v0 v1 v2) (u : Value) : Box (w.setCell ⟨b, 2, none⟩ u) b v0 v1 u :=
  ⟨(World.cell?_setCell_other _ _ _ _ (by simp)).trans h.c0, (World.cell?_setCell_other _ _ _ _ (by simp)).trans h.c1, World.cell?_setCell_same _ _ _ h.c2, by rw [World.frozen?_setCell]; exact h.f0, by rw [World.frozen?_setCell]; exact h.f1, by rw [World.frozen?_setCell]; exact h.f2, by simpa [World.setCell] using h.lt⟩
theorem Box.far {w : World} {g : Nat} {v0 v1 v2 : Value} (h : Box w g v0 v1 v2) {b : Nat} (hne : b ≠ g) (i : Nat) (u : Value) : Box (w.setCell ⟨b, i, none⟩ u) g v0 v1 v2 :=
  ⟨(World.cell?_setCell_other _ _ _ _ (by simp [hne])).trans h.c0, (World.cell?_setCell_other _ _ _ _ (by simp [hne])).trans h.c1, (World.cell?_setCell_other _ _ _ _ (by simp [hne])).trans h.c2, by rw [World.frozen?_setCell]; exact h.f0, by rw [World.frozen?_setCell]; exact h.f1, by rw [World.frozen?_setCell]; exact h.f2, by simpa [World.setCell] using h.lt⟩
/-- A struct of three cells that is written over whole. -/
abbrev set3 (w : World) (b : Nat) (x y z : Value) : World := ((w.setCell ⟨b, 0, none⟩ x).setCell ⟨b, 1, none⟩ y).setCell ⟨b, 2, none⟩ z
theorem Box.set {w : World} {b : Nat} {v0 v1 v2 : Value} (h : Box w b v0 v1 v2) (x y z : Value) : Box (set3 w b x y z) b x y z := ((h.s0 _).s1 _).s2 _
theorem Box.off {w : World} {g : Nat} {v0 v1 v2 : Value} (h : Box w g v0 v1 v2) {b : Nat} (hne : b ≠ g) (x y z : Value) : Box (set3 w b x y z) g v0 v1 v2 := ((h.far hne 0 _).far hne 1 _).far hne 2 _
theorem below_set3 {n : Nat} {a w : World} (h : Below n a w) {b : Nat} (hb : n ≤ b) (x y z : Value) : Below n a (set3 w b x y z) := ((h.setCell (p := ⟨b, 0, none⟩) hb _).setCell (p := ⟨b, 1, none⟩) hb _).setCell (p := ⟨b, 2, none⟩) hb _
theorem KpC.set3 {T : Nat → Prop} {A w : World} (h : KpC T A w) {b : Nat} (hb : T b) (x y z : Value) : KpC T A (set3 w b x y z) := ((h.tr (KpC.set _ (p := ⟨b, 0, none⟩) _ hb)).tr (KpC.set _ (p := ⟨b, 1, none⟩) _ hb)).tr (KpC.set _ (p := ⟨b, 2, none⟩) _ hb)
theorem Bo.block {w : World} {a : Option Addr} {n : Nat} {L : List Bool} (h : Bo w a n L) (hn : 0 < n) {x : Addr} (hx : a = some x) : x.block < w.heap.size := by
  obtain ⟨b, off, e, hb, _⟩ := h.at_ hn
  rw [e] at hx
  injection hx with hx
  subst hx
  exact hb
theorem Bo.put {w : World} {a : Option Addr} {n : Nat} {L : List Bool} (h : Bo w a n L) {b i : Nat} (v : Value) (hne : ∀ x, a = some x → x.block ≠ b) : Bo (w.setCell ⟨b, i, none⟩ v) a n L := by
  obtain ⟨h1, h2, h3⟩ := h
  refine ⟨h1, h2, fun hp => ?_⟩
  obtain ⟨g, off, rfl, hb, hc⟩ := h3 hp
  exact ⟨g, off, rfl, by simpa [World.setCell] using hb, fun j hj => (World.cell?_setCell_other _ _ _ _ (by have := hne _ rfl; simp at this ⊢ <;> omega)).trans (hc j hj)⟩
def tkV (h : Int) (p : Pu) (L : List Bool) {m : Nat} (x : Ix m) : Array Value := #[puV (atP h p L (x.1 + 1))]
/-- What the iterator knows between two rounds. -/
structure Tck (T : Nat → Prop) (h : Int) (p : Pu) (L : List Bool) (a : Option Addr) (n Bp B3 : Nat) (k : Nat) (w : World) : Prop where
  bo : Bo w a n L
  ta : ∀ x, a = some x → 0 < n → ¬ T x.block ∧ x.block < Bp
  box : Box w Bp (.bool (atP h p L k).up) (.bool (atP h p L k).raw) (.int .i64 (atP h p L k).since)
  tp : ¬ T Bp
  c3 : w.cell? ⟨B3, 0, none⟩ = some (.int .i64 h)
  t3 : ¬ T B3
  b3 : B3 < Bp
theorem Tck.kept {T : Nat → Prop} {h : Int} {p : Pu} {L : List Bool} {a : Option Addr} {n Bp B3 k : Nat} {w w' : World} (t : Tck T h p L a n Bp B3 k w) (q : Kept w w' none) : Tck T h p L a n Bp B3 k w' :=
  ⟨t.bo.kept q, t.ta, t.box.kept q, t.tp, (cell_kept' q (block_lt t.c3)).trans t.c3, t.t3, t.b3⟩
theorem Tck.kpc {T : Nat → Prop} {h : Int} {p : Pu} {L : List Bool} {a : Option Addr} {n Bp B3 k : Nat} {w w' : World} (t : Tck T h p L a n Bp B3 k w) (q : KpC T w w') : Tck T h p L a n Bp B3 k w' :=
  ⟨q.bo t.bo (fun x hx h0 => (t.ta x hx h0).1), t.ta, q.box t.box t.tp, t.tp, q.cell t.c3 t.t3, t.t3, t.b3⟩
theorem Bo.empty {w w' : World} {a : Option Addr} {L : List Bool} (h : Bo w a 0 L) : Bo w' a 0 L := ⟨h.size, h.max, fun h => absurd h (by omega)⟩
theorem Tck.set {T : Nat → Prop} {h : Int} {p : Pu} {L : List Bool} {a : Option Addr} {n Bp B3 k : Nat} {w : World} (t : Tck T h p L a n Bp B3 k w) : Tck T h p L a n Bp B3 (k + 1) (set3 w Bp (.bool (atP h p L (k + 1)).up) (.bool (atP h p L (k + 1)).raw) (.int .i64 (atP h p L (k + 1)).since)) := by
  refine ⟨?_, t.ta, t.box.set _ _ _, t.tp, ?_, t.t3, t.b3⟩
  · by_cases h0 : 0 < n
    · have hne : ∀ x, a = some x → x.block ≠ Bp := fun x hx => by have := (t.ta x hx h0).2; omega
      exact ((t.bo.put _ hne).put _ hne).put _ hne
    · obtain rfl : n = 0 := by omega
      exact t.bo.empty
  · have hne := t.b3
    exact ((World.cell?_setCell_other _ _ _ _ (by simp <;> omega)).trans ((World.cell?_setCell_other _ _ _ _ (by simp <;> omega)).trans (World.cell?_setCell_other _ _ _ _ (by simp <;> omega)))).trans t.c3
set_option maxRecDepth 100000 in
set_option maxHeartbeats 4000000 in
theorem ticks1_in (T : Nat → Prop) (q : Nat) (hq : 1 ≤ q) (l B1 B2 B3 : Nat) (p : Pu) (hp : mayP p = true) (h : Int) {a : Option Addr} {n c : Nat} {L : List Bool} (W0 : World) (hA : Bo W0 a n L)
    (c1 : Box W0 B1 (.bool p.up) (.bool p.raw) (.int .i64 p.since)) (c2 : W0.cell? ⟨B2, 0, none⟩ = some (.slice a n c)) (c3 : W0.cell? ⟨B3, 0, none⟩ = some (.int .i64 h))
    (t3 : ¬ T B3) (ta : ∀ x, a = some x → 0 < n → ¬ T x.block) (tT : ∀ k, T k → k < W0.heap.size)
    (J : List (Ix n) → World → Prop) (W : World) (hW : Below W0.heap.size W0 W) (hJ : Lies W.heap.size J)
    (hY : ∀ pre (x : Ix n) W1, J pre W1 → pre.length < n → YieldAt Fence.wide (q - 1) Try.prog l (tkV h p L x) W1 fun e W' => e = .returned (.bool true) ∧ J (pre ++ [x]) W' ∧ KpC T W1 W')
    (h0 : J [] W) :
    CallsIn Fence.wide q Try.prog 20 #[.func (.yield l) #[] #[], .pointer (some ⟨B1, 0, none⟩), .pointer (some ⟨B2, 0, none⟩), .pointer (some ⟨B3, 0, none⟩)] W fun e W' => (∃ v, e = .returned v) ∧
      ∃ ys, ivals ys = List.range n ∧ J ys W' := by
  have k1 := c1.kept (Kept.of_below hW)
  have k2 : W.cell? ⟨B2, 0, none⟩ = some (.slice a n c) := (hW.cell (p := ⟨B2, 0, none⟩) (block_lt c2)).trans c2
  have k3 : W.cell? ⟨B3, 0, none⟩ = some (.int .i64 h) := (hW.cell (p := ⟨B3, 0, none⟩) (block_lt c3)).trans c3
  have hAW := hA.kept (Kept.of_below hW)
  have hmx := hA.max
  have hln := hA.size
  have hTk : Tck T h p L a n W.heap.size B3 0 (W.alloc (.cells #[.bool p.up, .bool p.raw, .int .i64 p.since] 23)) := by
    refine ⟨hAW.kept (Kept.alloc _ _ _ _ _), fun x hx h0 => ⟨ta x hx h0, hAW.block h0 hx⟩, box_alloc _ _ _ _ _, fun ht => by have := tT _ ht; have := hW.size; omega, (cell_kept' (Kept.alloc _ _ _ _ _) (block_lt k3)).trans k3, t3, block_lt k3⟩
  have hB0 : Below W.heap.size W (W.alloc (.cells #[.bool p.up, .bool p.raw, .int .i64 p.since] 23)) := (Below.refl _ W).alloc (Nat.le_refl _) _
  have hb2 : B2 < W.heap.size := block_lt k2
  have x0 := k1.c0
  have x1 := k1.c1
  have x2 := k1.c2
  have HJ0 := Hid.mk' (hJ [] _ _ h0 hB0)
  have HTK := Hid.mk' hTk
  have HLN := Hid.mk' hln
  have HY := Hid.mk' hY
  have HJ := Hid.mk' hJ
  have HP := Hid.mk' hp
  clear hTk hAW k1 k3 c1 c2 c3 hA hln hW h0 hY hJ hB0 tT ta t3 hp
  refine callsIn_of_wp Try.func20 rfl trivial ?_ rfl
  simp only [Try.ntmps20, List.size_toArray, List.length_cons, List.length_nil, Nat.reduceAdd, Nat.reduceSub, Array.replicate_succ, Array.replicate_zero, List.push_toArray, List.append_toArray, List.nil_append, List.cons_append]
  gi_wp2
  gi_loopw [7, 11] (fun _ i wr => ∃ (k : Nat) (pre : List (Ix n)), k ≤ n ∧ i = .int .i64 k ∧ ivals pre = List.range k ∧ J pre wr ∧ Tck T h p L a n W.heap.size B3 k wr) (fun _ i _ => n - (intOf i).toNat)
  case atStart => exact ⟨0, [], by omega, rfl, rfl, HJ0.out, HTK.out⟩
  case round =>
    obtain ⟨k, pre, hk, rfl, hpre, hJs, htk⟩ := hrel
    have HPRE := Hid.mk' hpre
    have HK := Hid.mk' htk
    have HJS := Hid.mk' hJs
    clear hpre htk hJs HJ0 HTK x0 x1 x2 k2 hb2
    by_cases hlt : k < n
    · obtain ⟨P, hP⟩ : ∃ P, P = atP h p L k := ⟨_, rfl⟩
      obtain ⟨P', hP'⟩ : ∃ P', P' = atP h p L (k + 1) := ⟨_, rfl⟩
      have hs : P' = stepP h P (tr L k) := by rw [hP', hP]; exact atP_succ h p (by have := HLN.out; omega)
      have hm : mayP P = true := by rw [hP]; exact may_at HP.out
      have HS := Hid.mk' hs
      have HM := Hid.mk' hm
      have HPP := Hid.mk' hP'
      have HQ := Hid.mk' hP
      obtain ⟨b, off, ea, hb, hc⟩ := HK.out.bo.at_ (by omega)
      have kc := hc k hlt
      have y0 := HK.out.box.c0
      have y1 := HK.out.box.c1
      have y2 := HK.out.box.c2
      have y3 := HK.out.c3
      have g0 := HK.out.box.f0
      have g1 := HK.out.box.f1
      have g2 := HK.out.box.f2
      rw [← hP] at y0 y1 y2
      have EA := Hid.mk' ea
      clear hc hs hm hP hP' hb ea
      generalize tr L k = y at *
      obtain ⟨u, s, t⟩ := P
      obtain ⟨u', s', t'⟩ := P'
      rw [EA.out]
      have hlt2 := HK.out.box.lt
      have hle2 : W.heap.size ≤ wr.heap.size := by omega
      have hpl : pre.length < n := by have := congrArg List.length HPRE.out; rw [ivals_len] at this; simp at this; omega
      gi_wp2_with (first
        | (refine ⟨trivial, ?_⟩; gi_at_call 17; refine (callsIn_wide.2 (later_any ⟨u, s, t⟩ y h _ HM.out)).mono ?_; rw [← HS.out]; rintro e w3 ⟨rfl, hk3⟩; have H3 := Hid.mk' (HK.out.kept hk3); have z0 := H3.out.box.c0; have z1 := H3.out.box.c1; have z2 := H3.out.box.c2; have z3 := H3.out.c3; have f0 := H3.out.box.f0; have f1 := H3.out.box.f1; have f2 := H3.out.box.f2; obtain ⟨fn, tm, asg, bdy, hy, hRR⟩ := HY.out pre ⟨k, hlt⟩ (set3 w3 W.heap.size (.bool u') (.bool s') (.int .i64 t')) (HJ.out pre _ _ HJS.out (below_set3 (hk3.below.mono hle2) (Nat.le_refl _) _ _ _)) hpl; unfold tkV at hy; dsimp only at hy; rw [← HPP.out] at hy; have HRR := Hid.mk' hRR; clear hRR))
      refine HRR.out.mono ?_
      rintro e W5 ⟨rfl, hJ5, hkp⟩
      have HT5 := Hid.mk' ((H3.out.set).kpc (by rw [← HPP.out]; exact hkp))
      have HL5 : Hid (ivals (pre ++ [⟨k, hlt⟩]) = List.range (k + 1)) := by show _ = _; rw [ivals_snoc, HPRE.out, List.range_succ]
      rw [EA.out] at HT5
      gi_wp2
      go_roundw
      case rel => exact ⟨k + 1, _, by omega, by go_num, HL5.out, hJ5, HT5.out⟩
      case measure => simp [intOf]; omega
    · obtain rfl : k = n := by omega
      gi_wp2
      go_end0
      exact ⟨⟨_, rfl⟩, pre, HPRE.out, HJS.out⟩
theorem ticks_seq (T : Nat → Prop) (q : Nat) (hq : 1 ≤ q) (B1 B2 B3 : Nat) (p : Pu) (hp : mayP p = true) (h : Int) {a : Option Addr} {n c : Nat} {L : List Bool} (W0 : World) (hA : Bo W0 a n L)
    (c1 : Box W0 B1 (.bool p.up) (.bool p.raw) (.int .i64 p.since)) (c2 : W0.cell? ⟨B2, 0, none⟩ = some (.slice a n c)) (c3 : W0.cell? ⟨B3, 0, none⟩ = some (.int .i64 h))
    (t3 : ¬ T B3) (ta : ∀ x, a = some x → 0 < n → ¬ T x.block) (tT : ∀ k, T k → k < W0.heap.size) :
    SeqC Fence.wide q Try.prog 20 #[.pointer (some ⟨B1, 0, none⟩), .pointer (some ⟨B2, 0, none⟩), .pointer (some ⟨B3, 0, none⟩)] (fun x : Ix n => tkV h p L x) (KpC T) (fun ys => ivals ys = List.range n) n W0 := fun l J W hW hJ hY h0 =>
  ticks1_in T q hq l B1 B2 B3 p hp h W0 hA c1 c2 c3 t3 ta tT J W hW hJ hY h0
set_option maxHeartbeats 1000000 in
theorem ticks_in (q : Nat) (w : World) (p : Pu) (h : Int) (a : Option Addr) (n c : Nat) :
    CallsIn Fence.wide q Try.prog 18 #[puV p, .slice a n c, .int .i64 h] w fun e w' => e = .returned (.func (.func 20) #[] #[.pointer (some ⟨w.heap.size, 0, none⟩), .pointer (some ⟨w.heap.size + 1, 0, none⟩), .pointer (some ⟨w.heap.size + 1 + 1, 0, none⟩)]) ∧ w' = ((w.alloc (.cells #[.bool p.up, .bool p.raw, .int .i64 p.since] 23)).alloc (.cells #[.slice a n c] 27)).alloc (.cells #[.int .i64 h] 3) := by
  refine callsIn_of_wp Try.func18 rfl trivial ?_ rfl
  simp only [Try.ntmps18, List.size_toArray, List.length_cons, List.length_nil, Nat.reduceAdd, Nat.reduceSub, Array.replicate_succ, Array.replicate_zero, List.push_toArray, List.append_toArray, List.nil_append, List.cons_append]
  gi_wp2
  go_ret
  exact ⟨rfl, rfl⟩

end Go.Proofs.Ytbgnllpgogbmfaa
