/-
  Part 12 of the texts that the proofs of this seat stand on.
-/
import Derived.Test.YtoahbpdgbiachaaDoorPart11
import Derived.Deep.RegionHeld
import Derived.Test.YtoahbpdgbiachaaDoorPart6
import Derived.Test.YtoahbpdgbiachaaDoorPart8
/-
  THE DOCUMENT'S OWN: a region in new memory.
-/
namespace Go.Proofs.YtoahbpdgbiachaaDoor
open Go.RowKit Go.Lib Go.Deep
set_option linter.unusedVariables false
set_option linter.unusedSimpArgs false

theorem Tryd.infoSi : (Tryd.prog.info? 48).map (fun i => (i.zero, i.size, i.bytes)) = some (some (.agg #[.int .i64 0, .slice none 0 0, .slice none 0 0, .slice none 0 0, .slice none 0 0, .slice none 0 0, .int .i64 0, .int .i64 0, .int .i64 0, .int .i64 0, .int .i64 0, .slice none 0 0]), 12, 192) := by kernel_rfl
theorem Tryd.infoSu : (Tryd.prog.info? 38).map (fun i => (i.zero, i.size, i.bytes)) = some (some (.agg #[.slice none 0 0, .int .i64 0]), 2, 32) := by kernel_rfl
theorem Tryd.infoWe : (Tryd.prog.info? 40).map (fun i => (i.zero, i.size, i.bytes)) = some (some (.agg #[.int .i64 0, .int .i64 0, .int .i64 0, .slice none 0 0]), 4, 48) := by kernel_rfl
theorem Tryd.uSis : Tryd.prog.underlying 22 = some (.slice 48) := by kernel_rfl
theorem Tryd.uSus : Tryd.prog.underlying 23 = some (.slice 38) := by kernel_rfl
theorem Tryd.uWes : Tryd.prog.underlying 24 = some (.slice 40) := by kernel_rfl
def sa00 : Sa := ⟨none, 0, none, 0, none, 0, none, 0, none, 0, none, 0⟩
/-- One more site in new memory. -/
theorem twin_site {w wr W2 : World} {N : Nt} {k c : Nat} {a : Option Addr} {X : Sa} (hT : ∃ X : Nat → Sa, Tl wr (w.heap.size + 1 + 1 + 1) (w.heap.size + 1 + 1) 48 12 k (.slice a k c) (fun i j => stV (X i) (N.sites.getD i s0) j) (fun i w' => Sat w' (X i) (N.sites.getD i s0))) (hk : k ≤ 40) (hB : (w.heap.size + 1 + 1 + 1) ≤ wr.heap.size) (h2 : Kept wr W2 none) (hX : ∀ w'', LtrZ (wr.heap.size) W2 w'' → Sat w'' X (N.sites.getD k s0)) :
    ∃ a' c' W5, (Builtin.append_ #[22, 22] 22 #[.slice a k c, .slice (some ⟨W2.heap.size, 0, none⟩) 1 1]).run Tryd.prog (W2.alloc (.cells #[.int .i64 (N.sites.getD k s0).id, .slice X.g (N.sites.getD k s0).groups.length X.gc, .slice X.a (N.sites.getD k s0).apart.length X.ac, .slice X.b (N.sites.getD k s0).between.length X.bc, .slice X.p (N.sites.getD k s0).phases.length X.pc, .slice X.e (N.sites.getD k s0).eyes.length X.ec, .int .i64 (N.sites.getD k s0).watch, .int .i64 (N.sites.getD k s0).feed, .int .i64 (N.sites.getD k s0).heal, .int .i64 (N.sites.getD k s0).low, .int .i64 (N.sites.getD k s0).high, .slice X.l (N.sites.getD k s0).plans.length X.lc] 48)) = .ok (.slice a' (k + 1 : Nat) c') W5 ∧ (∃ X : Nat → Sa, Tl (W5.setCell ⟨w.heap.size + 1 + 1, 0, none⟩ (.slice a' (k + 1 : Nat) c')) (w.heap.size + 1 + 1 + 1) (w.heap.size + 1 + 1) 48 12 (k + 1) (.slice a' (k + 1 : Nat) c') (fun i j => stV (X i) (N.sites.getD i s0) j) (fun i w' => Sat w' (X i) (N.sites.getD i s0))) ∧ Kept W2 W5 (Value.slice a k c).ownBlock ∧ ∀ g, (Value.slice a k c).ownBlock = some g → w.heap.size + 1 + 1 < g := by
  obtain ⟨Xs, T⟩ := hT
  have hol := own_lt T.own
  obtain ⟨i0, hi0, hz0, hz1, hz2⟩ := info_parts Tryd.infoSi
  obtain ⟨a', c', W5, h1, h3, h4, h5⟩ := T.step (t := 22) Tryd.uSis hi0 hz0 hz1 hz2 rfl (by omega) (by omega) (by omega) hB (by omega) h2 (cs := #[.int .i64 (N.sites.getD k s0).id, .slice X.g (N.sites.getD k s0).groups.length X.gc, .slice X.a (N.sites.getD k s0).apart.length X.ac, .slice X.b (N.sites.getD k s0).between.length X.bc, .slice X.p (N.sites.getD k s0).phases.length X.pc, .slice X.e (N.sites.getD k s0).eyes.length X.ec, .int .i64 (N.sites.getD k s0).watch, .int .i64 (N.sites.getD k s0).feed, .int .i64 (N.sites.getD k s0).heal, .int .i64 (N.sites.getD k s0).low, .int .i64 (N.sites.getD k s0).high, .slice X.l (N.sites.getD k s0).plans.length X.lc]) (g := fun j => stV X (N.sites.getD k s0) j) (fun j hj => by
    have : j = 0 ∨ j = 1 ∨ j = 2 ∨ j = 3 ∨ j = 4 ∨ j = 5 ∨ j = 6 ∨ j = 7 ∨ j = 8 ∨ j = 9 ∨ j = 10 ∨ j = 11 := by omega
    rcases this with rfl | rfl | rfl | rfl | rfl | rfl | rfl | rfl | rfl | rfl | rfl | rfl <;> rfl) (fun j => by unfold stV; split <;> rfl) (Pk := fun w'' => Sat w'' X (N.sites.getD k s0)) (fun w'' q => hX w'' ⟨q.size, fun i hi hl => q.block i hl (by omega) (fun e => by have := (hol i e.symm).2; omega)⟩)
  refine ⟨a', c', W5, h1, ⟨fun i => if i = k then X else Xs i, (h3 0).congr (fun i hi j => ?_) (fun i hi w'' hp => ?_) (by omega)⟩, h4, fun g hg => by have := (hol g hg).1; omega⟩
  · by_cases e : i = k
    · subst e; simp
    · simp [e]
  · by_cases e : i = k
    · subst e; simpa using hp
    · simpa [e] using hp
/-- One more sub in new memory. -/
theorem twin_sub {w wr W2 : World} {bs : Nat} {N : Nt} {k c : Nat} {a b : Option Addr} {cap : Nat} (hT : ∃ r : Nat → Option Addr × Nat, Tl wr bs (w.heap.size + 1 + 1) 38 2 k (.slice a k c) (fun i j => sbV (N.subs.getD i u0) (r i).1 (r i).2 j) (fun i w' => Ints w' (r i).1 (N.subs.getD i u0).sites.length (r i).2 (N.subs.getD i u0).sites)) (hk : k ≤ 40) (hbs : w.heap.size + 1 + 1 + 1 ≤ bs) (hB : bs ≤ wr.heap.size) (h2 : Kept wr W2 none) (hI : Ints W2 b (N.subs.getD k u0).sites.length cap (N.subs.getD k u0).sites) (hn : ∀ x, b = some x → wr.heap.size ≤ x.block) :
    ∃ a' c' W5, (Builtin.append_ #[23, 23] 23 #[.slice a k c, .slice (some ⟨W2.heap.size, 0, none⟩) 1 1]).run Tryd.prog (W2.alloc (.cells #[.slice b (N.subs.getD k u0).sites.length cap, .int .i64 (N.subs.getD k u0).critical] 38)) = .ok (.slice a' (k + 1 : Nat) c') W5 ∧ (∃ r : Nat → Option Addr × Nat, Tl (W5.setCell ⟨w.heap.size + 1 + 1, 1, none⟩ (.slice a' (k + 1 : Nat) c')) bs (w.heap.size + 1 + 1) 38 2 (k + 1) (.slice a' (k + 1 : Nat) c') (fun i j => sbV (N.subs.getD i u0) (r i).1 (r i).2 j) (fun i w' => Ints w' (r i).1 (N.subs.getD i u0).sites.length (r i).2 (N.subs.getD i u0).sites)) ∧ Kept W2 W5 (Value.slice a k c).ownBlock ∧ ∀ g, (Value.slice a k c).ownBlock = some g → bs ≤ g ∧ g < wr.heap.size := by
  obtain ⟨r, T⟩ := hT
  have hol := own_lt T.own
  obtain ⟨i0, hi0, hz0, hz1, hz2⟩ := info_parts Tryd.infoSu
  obtain ⟨a', c', W5, h1, h3, h4, h5⟩ := T.step (t := 23) Tryd.uSus hi0 hz0 hz1 hz2 rfl (by omega) (by omega) (by omega) hB (by omega) h2 (cs := #[.slice b (N.subs.getD k u0).sites.length cap, .int .i64 (N.subs.getD k u0).critical]) (g := fun j => sbV (N.subs.getD k u0) b cap j) (fun j hj => by
    have : j = 0 ∨ j = 1 := by omega
    rcases this with rfl | rfl <;> rfl) (fun j => by unfold sbV; split <;> rfl) (Pk := fun w'' => Ints w'' b (N.subs.getD k u0).sites.length cap (N.subs.getD k u0).sites) (fun w'' q => Far2.ints hI q (fun x hx => ⟨by have := hn x hx; omega, fun e => by have := hn x hx; have := (hol _ e.symm).2; omega⟩))
  refine ⟨a', c', W5, h1, ⟨fun i => if i = k then (b, cap) else r i, (h3 1).congr (fun i hi j => ?_) (fun i hi w'' hp => ?_) (by omega)⟩, h4, fun g hg => by have := (hol g hg); omega⟩
  · by_cases e : i = k
    · subst e; simp
    · simp [e]
  · by_cases e : i = k
    · subst e; simpa using hp
    · simpa [e] using hp
/-- One more wed in new memory. -/
theorem twin_wed {w wr W2 : World} {bs : Nat} {N : Nt} {k c : Nat} {a b : Option Addr} {cap : Nat} (hT : ∃ r : Nat → Option Addr × Nat, Tl wr bs (w.heap.size + 1 + 1) 40 4 k (.slice a k c) (fun i j => wdV (N.weds.getD i d0) (r i).1 (r i).2 j) (fun i w' => Ints w' (r i).1 (N.weds.getD i d0).offsets.length (r i).2 (N.weds.getD i d0).offsets)) (hk : k ≤ 40) (hbs : w.heap.size + 1 + 1 + 1 ≤ bs) (hB : bs ≤ wr.heap.size) (h2 : Kept wr W2 none) (hI : Ints W2 b (N.weds.getD k d0).offsets.length cap (N.weds.getD k d0).offsets) (hn : ∀ x, b = some x → wr.heap.size ≤ x.block) :
    ∃ a' c' W5, (Builtin.append_ #[24, 24] 24 #[.slice a k c, .slice (some ⟨W2.heap.size, 0, none⟩) 1 1]).run Tryd.prog (W2.alloc (.cells #[.int .i64 (N.weds.getD k d0).a, .int .i64 (N.weds.getD k d0).b, .int .i64 (N.weds.getD k d0).votes, .slice b (N.weds.getD k d0).offsets.length cap] 40)) = .ok (.slice a' (k + 1 : Nat) c') W5 ∧ (∃ r : Nat → Option Addr × Nat, Tl (W5.setCell ⟨w.heap.size + 1 + 1, 2, none⟩ (.slice a' (k + 1 : Nat) c')) bs (w.heap.size + 1 + 1) 40 4 (k + 1) (.slice a' (k + 1 : Nat) c') (fun i j => wdV (N.weds.getD i d0) (r i).1 (r i).2 j) (fun i w' => Ints w' (r i).1 (N.weds.getD i d0).offsets.length (r i).2 (N.weds.getD i d0).offsets)) ∧ Kept W2 W5 (Value.slice a k c).ownBlock ∧ ∀ g, (Value.slice a k c).ownBlock = some g → bs ≤ g ∧ g < wr.heap.size := by
  obtain ⟨r, T⟩ := hT
  have hol := own_lt T.own
  obtain ⟨i0, hi0, hz0, hz1, hz2⟩ := info_parts Tryd.infoWe
  obtain ⟨a', c', W5, h1, h3, h4, h5⟩ := T.step (t := 24) Tryd.uWes hi0 hz0 hz1 hz2 rfl (by omega) (by omega) (by omega) hB (by omega) h2 (cs := #[.int .i64 (N.weds.getD k d0).a, .int .i64 (N.weds.getD k d0).b, .int .i64 (N.weds.getD k d0).votes, .slice b (N.weds.getD k d0).offsets.length cap]) (g := fun j => wdV (N.weds.getD k d0) b cap j) (fun j hj => by
    have : j = 0 ∨ j = 1 ∨ j = 2 ∨ j = 3 := by omega
    rcases this with rfl | rfl | rfl | rfl <;> rfl) (fun j => by unfold wdV; split <;> rfl) (Pk := fun w'' => Ints w'' b (N.weds.getD k d0).offsets.length cap (N.weds.getD k d0).offsets) (fun w'' q => Far2.ints hI q (fun x hx => ⟨by have := hn x hx; omega, fun e => by have := hn x hx; have := (hol _ e.symm).2; omega⟩))
  refine ⟨a', c', W5, h1, ⟨fun i => if i = k then (b, cap) else r i, (h3 2).congr (fun i hi j => ?_) (fun i hi w'' hp => ?_) (by omega)⟩, h4, fun g hg => by have := (hol g hg); omega⟩
  · by_cases e : i = k
    · subst e; simp
    · simp [e]
  · by_cases e : i = k
    · subst e; simpa using hp
    · simpa [e] using hp
structure Sn (w w' : World) (s : Array Value) : Prop where
  sb : w'.rowIs w.heap.size 26 6 (fSZ s)
  kept : Kept w w' none
def TwN6 (w : World) (N : Nt) (e : Ending) (w' : World) : Prop := ∃ Y : Na, e = .returned (netV Y N) ∧ NetAt w' Y N ∧ Kept w w' none
set_option maxRecDepth 100000 in
set_option maxHeartbeats 8000000 in
theorem ntwin_any {Y : Na} {N : Nt} {w : World} (h : NetAt w Y N) (hF : NFew N) : Calls Tryd.prog 16 #[netV Y N] w fun e w' => TwN6 w N e w' := by
  have T0 := Hid.mk' (tn_start w #[.slice Y.s N.sites.length Y.sc, .slice Y.u N.subs.length Y.uc, .slice Y.d N.weds.length Y.dc, .int .i64 N.low, .int .i64 N.high, .int .i64 N.step] #[.slice none 0 0, .slice none 0 0, .slice none 0 0, .int .i64 N.low, .int .i64 N.high, .int .i64 N.step] rfl rfl)
  have HN := Hid.mk' h
  have HF := Hid.mk' hF
  have hs20 := hF.s
  have hu30 := hF.u
  have hd30 := hF.d
  clear h hF
  go_enter Tryd.func16, Tryd.ntmps16
  go_wp2
  generalize hW : (((w.alloc (.cells #[.slice Y.s N.sites.length Y.sc, .slice Y.u N.subs.length Y.uc, .slice Y.d N.weds.length Y.dc, .int .i64 N.low, .int .i64 N.high, .int .i64 N.step] 26)).alloc (.cells zN 26)).alloc (.cells #[.slice none 0 0, .slice none 0 0, .slice none 0 0, .int .i64 N.low, .int .i64 N.high, .int .i64 N.step] 26)) = W at *
  clear hW
  go_loopw [4] (fun i wr => ∃ (k : Nat) (a : Option Addr) (c : Nat), k ≤ N.sites.length ∧ i = .int .i64 k ∧ Hid (Tn w wr #[.slice Y.s N.sites.length Y.sc, .slice Y.u N.subs.length Y.uc, .slice Y.d N.weds.length Y.dc, .int .i64 N.low, .int .i64 N.high, .int .i64 N.step] #[.slice a k c, .slice none 0 0, .slice none 0 0, .int .i64 N.low, .int .i64 N.high, .int .i64 N.step]) ∧ Hid (∃ X : Nat → Sa, Tl wr (w.heap.size + 1 + 1 + 1) (w.heap.size + 1 + 1) 48 12 k (.slice a k c) (fun i j => stV (X i) (N.sites.getD i s0) j) (fun i w' => Sat w' (X i) (N.sites.getD i s0)))) (fun i _ => N.sites.length - (intOf i).toNat)
  case atStart => exact ⟨0, none, 0, Nat.zero_le _, rfl, T0, ⟨fun _ => sa00, Tl.start _ _ _ _ _ _ _⟩⟩
  case round =>
    clear T0
    obtain ⟨k, a, c, hk, rfl, T1, HT⟩ := hrel
    have c0 : wr.cell? ⟨w.heap.size, 0, none⟩ = some (.slice Y.s N.sites.length Y.sc) := T1.out.sb.cell (i := 0) (by omega)
    by_cases hlt : k < N.sites.length
    case pos =>
      have hsz := T1.out.tb.lt
      obtain ⟨sb, so, es, _, _⟩ := HN.out.s1.at_ (by omega)
      rw [es] at c0
      have HES := Hid.mk' es
      have HSAT := Hid.mk' ((HN.out.s2 k hlt).kept (T1.out.kept.tr (Kept.drew wr none)))
      have HFW := Hid.mk' (HF.out.st k hlt)
      have HCL : Hid (∀ w9, Sn w w9 #[.slice Y.s N.sites.length Y.sc, .slice Y.u N.subs.length Y.uc, .slice Y.d N.weds.length Y.dc, .int .i64 N.low, .int .i64 N.high, .int .i64 N.step] → ∀ t, t < 12 → w9.cell? ⟨sb, so + k * 12 + t, none⟩ = some (stV (Y.X k) (N.sites.getD k s0) t)) := fun w9 q t ht => by
        obtain ⟨sb', so', es', _, hc⟩ := (HN.out.kept q.kept).s1.at_ (by omega)
        rw [HES.out] at es'
        injection es' with es'
        injection es' with es1 es2
        subst es1 es2
        exact hc k hlt t ht
      have HTS : Hid (∀ (X : Sa) (W2 : World), Kept wr W2 none → (∀ w'', LtrZ wr.heap.size W2 w'' → Sat w'' X (N.sites.getD k s0)) → ∃ a' c' W5, (Builtin.append_ #[22, 22] 22 #[.slice a k c, .slice (some ⟨W2.heap.size, 0, none⟩) 1 1]).run Tryd.prog (W2.alloc (.cells #[.int .i64 (N.sites.getD k s0).id, .slice X.g (N.sites.getD k s0).groups.length X.gc, .slice X.a (N.sites.getD k s0).apart.length X.ac, .slice X.b (N.sites.getD k s0).between.length X.bc, .slice X.p (N.sites.getD k s0).phases.length X.pc, .slice X.e (N.sites.getD k s0).eyes.length X.ec, .int .i64 (N.sites.getD k s0).watch, .int .i64 (N.sites.getD k s0).feed, .int .i64 (N.sites.getD k s0).heal, .int .i64 (N.sites.getD k s0).low, .int .i64 (N.sites.getD k s0).high, .slice X.l (N.sites.getD k s0).plans.length X.lc] 48)) = .ok (.slice a' (k + 1 : Nat) c') W5 ∧ (∃ X : Nat → Sa, Tl (W5.setCell ⟨w.heap.size + 1 + 1, 0, none⟩ (.slice a' (k + 1 : Nat) c')) (w.heap.size + 1 + 1 + 1) (w.heap.size + 1 + 1) 48 12 (k + 1) (.slice a' (k + 1 : Nat) c') (fun i j => stV (X i) (N.sites.getD i s0) j) (fun i w' => Sat w' (X i) (N.sites.getD i s0))) ∧ Kept W2 W5 (Value.slice a k c).ownBlock ∧ ∀ g, (Value.slice a k c).ownBlock = some g → w.heap.size + 1 + 1 < g) := fun X W2 h2 hX => twin_site HT.out (by omega) (by omega) h2 hX
      clear es
      have g0 : ∀ w9, Sn w w9 #[.slice Y.s N.sites.length Y.sc, .slice Y.u N.subs.length Y.uc, .slice Y.d N.weds.length Y.dc, .int .i64 N.low, .int .i64 N.high, .int .i64 N.step] → w9.cell? ⟨w.heap.size, 0, none⟩ = some (.slice (some ⟨sb, so, none⟩) N.sites.length Y.sc) := fun w9 q => by
        have := q.sb.cell (i := 0) (by omega)
        rw [← HES.out]
        exact this
      have HYX : ∃ Xk, Xk = Y.X k := ⟨_, rfl⟩
      obtain ⟨Xk, hXk⟩ := HYX
      rw [← hXk] at HSAT HCL
      clear hXk
      have HTS2 := HTS
      generalize N.sites.getD k s0 = S at HSAT HFW HCL HTS
      obtain ⟨xg, xgc, xa, xac, xb, xbc, xp, xpc, xe, xec, xl, xlc⟩ := Xk
      have e0 : ∀ w9, Sn w w9 #[.slice Y.s N.sites.length Y.sc, .slice Y.u N.subs.length Y.uc, .slice Y.d N.weds.length Y.dc, .int .i64 N.low, .int .i64 N.high, .int .i64 N.step] → w9.cell? ⟨sb, so + k * 12, none⟩ = some (.int .i64 S.id) := fun w9 q => HCL.out w9 q 0 (by omega)
      have e1 : ∀ w9, Sn w w9 #[.slice Y.s N.sites.length Y.sc, .slice Y.u N.subs.length Y.uc, .slice Y.d N.weds.length Y.dc, .int .i64 N.low, .int .i64 N.high, .int .i64 N.step] → w9.cell? ⟨sb, so + k * 12 + 1, none⟩ = some (.slice xg S.groups.length xgc) := fun w9 q => HCL.out w9 q 1 (by omega)
      have e2 : ∀ w9, Sn w w9 #[.slice Y.s N.sites.length Y.sc, .slice Y.u N.subs.length Y.uc, .slice Y.d N.weds.length Y.dc, .int .i64 N.low, .int .i64 N.high, .int .i64 N.step] → w9.cell? ⟨sb, so + k * 12 + 2, none⟩ = some (.slice xa S.apart.length xac) := fun w9 q => HCL.out w9 q 2 (by omega)
      have e3 : ∀ w9, Sn w w9 #[.slice Y.s N.sites.length Y.sc, .slice Y.u N.subs.length Y.uc, .slice Y.d N.weds.length Y.dc, .int .i64 N.low, .int .i64 N.high, .int .i64 N.step] → w9.cell? ⟨sb, so + k * 12 + 3, none⟩ = some (.slice xb S.between.length xbc) := fun w9 q => HCL.out w9 q 3 (by omega)
      have e4 : ∀ w9, Sn w w9 #[.slice Y.s N.sites.length Y.sc, .slice Y.u N.subs.length Y.uc, .slice Y.d N.weds.length Y.dc, .int .i64 N.low, .int .i64 N.high, .int .i64 N.step] → w9.cell? ⟨sb, so + k * 12 + 4, none⟩ = some (.slice xp S.phases.length xpc) := fun w9 q => HCL.out w9 q 4 (by omega)
      have e5 : ∀ w9, Sn w w9 #[.slice Y.s N.sites.length Y.sc, .slice Y.u N.subs.length Y.uc, .slice Y.d N.weds.length Y.dc, .int .i64 N.low, .int .i64 N.high, .int .i64 N.step] → w9.cell? ⟨sb, so + k * 12 + 5, none⟩ = some (.slice xe S.eyes.length xec) := fun w9 q => HCL.out w9 q 5 (by omega)
      have e6 : ∀ w9, Sn w w9 #[.slice Y.s N.sites.length Y.sc, .slice Y.u N.subs.length Y.uc, .slice Y.d N.weds.length Y.dc, .int .i64 N.low, .int .i64 N.high, .int .i64 N.step] → w9.cell? ⟨sb, so + k * 12 + 6, none⟩ = some (.int .i64 S.watch) := fun w9 q => HCL.out w9 q 6 (by omega)
      have e7 : ∀ w9, Sn w w9 #[.slice Y.s N.sites.length Y.sc, .slice Y.u N.subs.length Y.uc, .slice Y.d N.weds.length Y.dc, .int .i64 N.low, .int .i64 N.high, .int .i64 N.step] → w9.cell? ⟨sb, so + k * 12 + 7, none⟩ = some (.int .i64 S.feed) := fun w9 q => HCL.out w9 q 7 (by omega)
      have e8 : ∀ w9, Sn w w9 #[.slice Y.s N.sites.length Y.sc, .slice Y.u N.subs.length Y.uc, .slice Y.d N.weds.length Y.dc, .int .i64 N.low, .int .i64 N.high, .int .i64 N.step] → w9.cell? ⟨sb, so + k * 12 + 8, none⟩ = some (.int .i64 S.heal) := fun w9 q => HCL.out w9 q 8 (by omega)
      have e9 : ∀ w9, Sn w w9 #[.slice Y.s N.sites.length Y.sc, .slice Y.u N.subs.length Y.uc, .slice Y.d N.weds.length Y.dc, .int .i64 N.low, .int .i64 N.high, .int .i64 N.step] → w9.cell? ⟨sb, so + k * 12 + 9, none⟩ = some (.int .i64 S.low) := fun w9 q => HCL.out w9 q 9 (by omega)
      have e10 : ∀ w9, Sn w w9 #[.slice Y.s N.sites.length Y.sc, .slice Y.u N.subs.length Y.uc, .slice Y.d N.weds.length Y.dc, .int .i64 N.low, .int .i64 N.high, .int .i64 N.step] → w9.cell? ⟨sb, so + k * 12 + 10, none⟩ = some (.int .i64 S.high) := fun w9 q => HCL.out w9 q 10 (by omega)
      have e11 : ∀ w9, Sn w w9 #[.slice Y.s N.sites.length Y.sc, .slice Y.u N.subs.length Y.uc, .slice Y.d N.weds.length Y.dc, .int .i64 N.low, .int .i64 N.high, .int .i64 N.step] → w9.cell? ⟨sb, so + k * 12 + 11, none⟩ = some (.slice xl S.plans.length xlc) := fun w9 q => HCL.out w9 q 11 (by omega)
      have Td := Hid.mk' (T1.out.call (Kept.drew wr none))
      have t0 : wr.drew.cell? ⟨w.heap.size + 1 + 1, 0, none⟩ = some (.slice a k c) := Td.out.tb.cell (i := 0) (by omega)
      go_wp2
      clear c0
      refine wp_region_held_drew (S := fun w9 => Sn w w9 #[.slice Y.s N.sites.length Y.sc, .slice Y.u N.subs.length Y.uc, .slice Y.d N.weds.length Y.dc, .int .i64 N.low, .int .i64 N.high, .int .i64 N.step]) (by kernel_rfl) ⟨Td.out.sb, Td.out.kept⟩ (fun hHeld => ?_)
      refine held_take (i := 0) (v := ?v1) rfl rfl (by kernel_rfl) (by kernel_rfl) (by kernel_rfl) (fun _ _ _ h => h) (Or.inl ⟨by rfl, ?hy1⟩) hHeld ?rest1
      case hy1 => first | (intro w hSw; (try dsimp only at hSw); go_simp; done) | (intro w hSw; (try dsimp only at hSw); go_simp; with_reducible rfl)
      try simp only [List.setIfInBounds_toArray, List.set_cons_zero, List.set_cons_succ]
      refine held_take (i := 2) (v := ?v2) rfl rfl (by kernel_rfl) (by kernel_rfl) (by kernel_rfl) (fun _ _ _ h => h) (Or.inl ⟨by rfl, ?hy2⟩) hHeld ?rest2
      case hy2 => first | (intro w hSw; (try dsimp only at hSw); go_simp; done) | (intro w hSw; (try dsimp only at hSw); go_simp; with_reducible rfl)
      try simp only [List.setIfInBounds_toArray, List.set_cons_zero, List.set_cons_succ]
      refine held_take (i := 3) (v := ?v3) rfl rfl (by kernel_rfl) (by kernel_rfl) (by kernel_rfl) (fun _ _ _ h => h) (Or.inl ⟨by rfl, ?hy3⟩) hHeld ?rest3
      case hy3 => first | (intro w hSw; (try dsimp only at hSw); go_simp; done) | (intro w hSw; (try dsimp only at hSw); go_simp; with_reducible rfl)
      try simp only [List.setIfInBounds_toArray, List.set_cons_zero, List.set_cons_succ]
      refine held_take (i := 4) (v := ?v4) rfl rfl (by kernel_rfl) (by kernel_rfl) (by kernel_rfl) (fun _ _ _ h => h) (Or.inl ⟨by rfl, ?hy4⟩) hHeld ?rest4
      case hy4 => first | (intro w hSw; (try dsimp only at hSw); go_simp; done) | (intro w hSw; (try dsimp only at hSw); go_simp; with_reducible rfl)
      try simp only [List.setIfInBounds_toArray, List.set_cons_zero, List.set_cons_succ]
      refine held_take (i := 5) (v := ?v5) rfl rfl (by kernel_rfl) (by kernel_rfl) (by kernel_rfl) (fun _ _ _ h => h) (Or.inl ⟨by rfl, ?hy5⟩) hHeld ?rest5
      case hy5 => first | (intro w hSw; (try dsimp only at hSw); go_simp; done) | (intro w hSw; (try dsimp only at hSw); go_simp; with_reducible rfl)
      try simp only [List.setIfInBounds_toArray, List.set_cons_zero, List.set_cons_succ]
      refine held_take (i := 6) (v := ?v6) rfl rfl (by kernel_rfl) (by kernel_rfl) (by kernel_rfl) (fun _ _ _ h => h) (Or.inl ⟨by rfl, ?hy6⟩) hHeld ?rest6
      case hy6 => first | (intro w hSw; (try dsimp only at hSw); go_simp; done) | (intro w hSw; (try dsimp only at hSw); go_simp; with_reducible rfl)
      try simp only [List.setIfInBounds_toArray, List.set_cons_zero, List.set_cons_succ]
      refine wpAnyH_ready (rs := [1, 7]) (by kernel_rfl) (by simp) ?_
      refine AllReadyH.cons rfl (fun K hK => ?ba) (AllReadyH.cons rfl (fun K hK => ?bb) AllReadyH.nil)
      case ba =>
        go_simp
        refine hK.out _ _ ⟨Td.out.sb, Td.out.kept⟩ (fun hHeld => ?_)
        clear hK K
        refine wpAnyH_ready (rs := [7]) (by kernel_rfl) (by simp) ?_
        refine AllReadyH.cons rfl (fun K hK => ?_) AllReadyH.nil
        go_simp
        go_wp2_with (go_at_call 36; refine (twin_new HSAT.out (by have := HFW.out.g; omega) (by have := HFW.out.a; omega) HFW.out.b (by have := HFW.out.p; omega) HFW.out.e HFW.out.l (fun i hi => by have := HFW.out.br i hi; omega) HFW.out.lr).mono ?_; rintro e wS ⟨X2, rfl, hX2, hkS⟩; have hk2 : Kept wr wS none := (Kept.drew wr none).tr hkS; obtain ⟨a5, c5, W5, hrun, hT5, hk5, hob⟩ := HTS.out X2 wS hk2 (fun w'' q => hX2 w'' (q.up (by show wr.heap.size ≤ wr.drew.heap.size + 1 + 1 + 1; have := (Kept.drew wr none).size; omega))); have HR := Hid.mk' hrun; have HT5 := Hid.mk' hT5; have Ts := Hid.mk' (T1.out.call hk2); have Ta := Hid.mk' (Ts.out.call (Kept.alloc wS #[.int .i64 S.id, .slice X2.g S.groups.length X2.gc, .slice X2.a S.apart.length X2.ac, .slice X2.b S.between.length X2.bc, .slice X2.p S.phases.length X2.pc, .slice X2.e S.eyes.length X2.ec, .int .i64 S.watch, .int .i64 S.feed, .int .i64 S.heal, .int .i64 S.low, .int .i64 S.high, .slice X2.l S.plans.length X2.lc] 48 (0, 0) none)); have T5 := Hid.mk' (Ts.out.grow hk5 hob); have t1 : wS.cell? ⟨w.heap.size + 1 + 1, 0, none⟩ = some (.slice a k c) := Ts.out.tb.cell (i := 0) (by omega); have t2 : (wS.alloc (.cells #[.int .i64 S.id, .slice X2.g S.groups.length X2.gc, .slice X2.a S.apart.length X2.ac, .slice X2.b S.between.length X2.bc, .slice X2.p S.phases.length X2.pc, .slice X2.e S.eyes.length X2.ec, .int .i64 S.watch, .int .i64 S.feed, .int .i64 S.heal, .int .i64 S.low, .int .i64 S.high, .slice X2.l S.plans.length X2.lc] 48)).cell? ⟨w.heap.size + 1 + 1, 0, none⟩ = some (.slice a k c) := Ta.out.tb.cell (i := 0) (by omega); have t5 : W5.cell? ⟨w.heap.size + 1 + 1, 0, none⟩ = some (.slice a k c) := T5.out.tb.cell (i := 0) (by omega); have z5 : W5.frozen? ⟨w.heap.size + 1 + 1, 0, none⟩ = false := T5.out.tb.frozen 0; have T6 : Hid (Tn w (W5.setCell ⟨w.heap.size + 1 + 1, 0, none⟩ (.slice a5 (k + 1 : Nat) c5)) #[.slice Y.s N.sites.length Y.sc, .slice Y.u N.subs.length Y.uc, .slice Y.d N.weds.length Y.dc, .int .i64 N.low, .int .i64 N.high, .int .i64 N.step] #[.slice a5 (k + 1 : Nat) c5, .slice none 0 0, .slice none 0 0, .int .i64 N.low, .int .i64 N.high, .int .i64 N.step]) := T5.out.put 0 _ (by simp); clear hrun hT5 hX2 hk5)
        refine hK.out _ _ ⟨Ts.out.sb, Ts.out.kept⟩ (fun hHeld => ?_)
        clear hK K
        refine wpAnyH_ready (rs := [8]) (by kernel_rfl) (by simp) ?_
        refine AllReadyH.cons rfl (fun K hK => ?_) AllReadyH.nil
        go_simp
        refine hK.out _ _ ⟨Ta.out.sb, Ta.out.kept⟩ (fun hHeld => ?_)
        clear hK K
        refine wpAnyH_ready (rs := [9]) (by kernel_rfl) (by simp) ?_
        refine AllReadyH.cons rfl (fun K hK => ?_) AllReadyH.nil
        rw [if_pos (by rfl)]
        refine wp_app _ _ _ (by rfl) (by rfl) (by rfl) HR.out ?_
        try simp only [Act.put, List.setIfInBounds_toArray, List.set_cons_zero, List.set_cons_succ]
        refine hK.out _ _ ⟨T5.out.sb, T5.out.kept⟩ (fun hHeld => ?_)
        clear hK K
        refine held_take (i := 10) (v := ?v7) rfl rfl (by kernel_rfl) (by kernel_rfl) (by kernel_rfl) (fun _ _ _ h => h) (Or.inl ⟨by rfl, ?hy7⟩) hHeld ?rest7
        case hy7 => first | (intro w hSw; (try dsimp only at hSw); go_simp; done) | (intro w hSw; (try dsimp only at hSw); go_simp; with_reducible rfl)
        try simp only [List.setIfInBounds_toArray, List.set_cons_zero, List.set_cons_succ]
        refine wpAnyH_ready (rs := [11]) (by kernel_rfl) (by simp) ?_
        refine AllReadyH.cons rfl (fun K hK => ?_) AllReadyH.nil
        go_simp
        refine hK.out _ _ ⟨T6.out.sb, T6.out.kept⟩ (fun hHeld => ?_)
        clear hK K
        refine wpAnyH_done (by kernel_rfl) ?_ _
        clear t0 t1 t2 t5 z5 g0 e0 e1 e2 e3 e4 e5 e6 e7 e8 e9 e10 e11
        go_wp2
        go_roundw
        case rel => exact ⟨k + 1, a5, c5, by omega, by go_num, T6, HT5.out⟩
        case measure => simp [intOf]; omega
      case bb =>
        go_simp
        go_wp2_with (go_at_call 36; refine (twin_new HSAT.out (by have := HFW.out.g; omega) (by have := HFW.out.a; omega) HFW.out.b (by have := HFW.out.p; omega) HFW.out.e HFW.out.l (fun i hi => by have := HFW.out.br i hi; omega) HFW.out.lr).mono ?_; rintro e wS ⟨X2, rfl, hX2, hkS⟩; have hk2 : Kept wr wS none := (Kept.drew wr none).tr hkS; obtain ⟨a5, c5, W5, hrun, hT5, hk5, hob⟩ := HTS.out X2 wS hk2 (fun w'' q => hX2 w'' (q.up (by show wr.heap.size ≤ wr.drew.heap.size + 1 + 1 + 1; have := (Kept.drew wr none).size; omega))); have HR := Hid.mk' hrun; have HT5 := Hid.mk' hT5; have Ts := Hid.mk' (T1.out.call hk2); have Ta := Hid.mk' (Ts.out.call (Kept.alloc wS #[.int .i64 S.id, .slice X2.g S.groups.length X2.gc, .slice X2.a S.apart.length X2.ac, .slice X2.b S.between.length X2.bc, .slice X2.p S.phases.length X2.pc, .slice X2.e S.eyes.length X2.ec, .int .i64 S.watch, .int .i64 S.feed, .int .i64 S.heal, .int .i64 S.low, .int .i64 S.high, .slice X2.l S.plans.length X2.lc] 48 (0, 0) none)); have T5 := Hid.mk' (Ts.out.grow hk5 hob); have t1 : wS.cell? ⟨w.heap.size + 1 + 1, 0, none⟩ = some (.slice a k c) := Ts.out.tb.cell (i := 0) (by omega); have t2 : (wS.alloc (.cells #[.int .i64 S.id, .slice X2.g S.groups.length X2.gc, .slice X2.a S.apart.length X2.ac, .slice X2.b S.between.length X2.bc, .slice X2.p S.phases.length X2.pc, .slice X2.e S.eyes.length X2.ec, .int .i64 S.watch, .int .i64 S.feed, .int .i64 S.heal, .int .i64 S.low, .int .i64 S.high, .slice X2.l S.plans.length X2.lc] 48)).cell? ⟨w.heap.size + 1 + 1, 0, none⟩ = some (.slice a k c) := Ta.out.tb.cell (i := 0) (by omega); have t5 : W5.cell? ⟨w.heap.size + 1 + 1, 0, none⟩ = some (.slice a k c) := T5.out.tb.cell (i := 0) (by omega); have z5 : W5.frozen? ⟨w.heap.size + 1 + 1, 0, none⟩ = false := T5.out.tb.frozen 0; have T6 : Hid (Tn w (W5.setCell ⟨w.heap.size + 1 + 1, 0, none⟩ (.slice a5 (k + 1 : Nat) c5)) #[.slice Y.s N.sites.length Y.sc, .slice Y.u N.subs.length Y.uc, .slice Y.d N.weds.length Y.dc, .int .i64 N.low, .int .i64 N.high, .int .i64 N.step] #[.slice a5 (k + 1 : Nat) c5, .slice none 0 0, .slice none 0 0, .int .i64 N.low, .int .i64 N.high, .int .i64 N.step]) := T5.out.put 0 _ (by simp); clear hrun hT5 hX2 hk5)
        refine hK.out _ _ ⟨Ts.out.sb, Ts.out.kept⟩ (fun hHeld => ?_)
        clear hK K
        refine wpAnyH_ready (rs := [1, 8]) (by kernel_rfl) (by simp) ?_
        refine AllReadyH.cons rfl (fun K hK => ?ca) (AllReadyH.cons rfl (fun K hK => ?cb) AllReadyH.nil)
        case ca =>
          go_simp
          refine hK.out _ _ ⟨Ts.out.sb, Ts.out.kept⟩ (fun hHeld => ?_)
          clear hK K
          refine wpAnyH_ready (rs := [8]) (by kernel_rfl) (by simp) ?_
          refine AllReadyH.cons rfl (fun K hK => ?_) AllReadyH.nil
          go_simp
          refine hK.out _ _ ⟨Ta.out.sb, Ta.out.kept⟩ (fun hHeld => ?_)
          clear hK K
          refine wpAnyH_ready (rs := [9]) (by kernel_rfl) (by simp) ?_
          refine AllReadyH.cons rfl (fun K hK => ?_) AllReadyH.nil
          rw [if_pos (by rfl)]
          refine wp_app _ _ _ (by rfl) (by rfl) (by rfl) HR.out ?_
          try simp only [Act.put, List.setIfInBounds_toArray, List.set_cons_zero, List.set_cons_succ]
          refine hK.out _ _ ⟨T5.out.sb, T5.out.kept⟩ (fun hHeld => ?_)
          clear hK K
          refine held_take (i := 10) (v := ?v8) rfl rfl (by kernel_rfl) (by kernel_rfl) (by kernel_rfl) (fun _ _ _ h => h) (Or.inl ⟨by rfl, ?hy8⟩) hHeld ?rest8
          case hy8 => first | (intro w hSw; (try dsimp only at hSw); go_simp; done) | (intro w hSw; (try dsimp only at hSw); go_simp; with_reducible rfl)
          try simp only [List.setIfInBounds_toArray, List.set_cons_zero, List.set_cons_succ]
          refine wpAnyH_ready (rs := [11]) (by kernel_rfl) (by simp) ?_
          refine AllReadyH.cons rfl (fun K hK => ?_) AllReadyH.nil
          go_simp
          refine hK.out _ _ ⟨T6.out.sb, T6.out.kept⟩ (fun hHeld => ?_)
          clear hK K
          refine wpAnyH_done (by kernel_rfl) ?_ _
          clear t0 t1 t2 t5 z5 g0 e0 e1 e2 e3 e4 e5 e6 e7 e8 e9 e10 e11
          go_wp2
          go_roundw
          case rel => exact ⟨k + 1, a5, c5, by omega, by go_num, T6, HT5.out⟩
          case measure => simp [intOf]; omega
        case cb =>
          go_simp
          refine hK.out _ _ ⟨Ta.out.sb, Ta.out.kept⟩ (fun hHeld => ?_)
          clear hK K
          refine wpAnyH_ready (rs := [1]) (by kernel_rfl) (by simp) ?_
          refine AllReadyH.cons rfl (fun K hK => ?_) AllReadyH.nil
          go_simp
          refine hK.out _ _ ⟨Ta.out.sb, Ta.out.kept⟩ (fun hHeld => ?_)
          clear hK K
          refine wpAnyH_ready (rs := [9]) (by kernel_rfl) (by simp) ?_
          refine AllReadyH.cons rfl (fun K hK => ?_) AllReadyH.nil
          rw [if_pos (by rfl)]
          refine wp_app _ _ _ (by rfl) (by rfl) (by rfl) HR.out ?_
          try simp only [Act.put, List.setIfInBounds_toArray, List.set_cons_zero, List.set_cons_succ]
          refine hK.out _ _ ⟨T5.out.sb, T5.out.kept⟩ (fun hHeld => ?_)
          clear hK K
          refine held_take (i := 10) (v := ?v9) rfl rfl (by kernel_rfl) (by kernel_rfl) (by kernel_rfl) (fun _ _ _ h => h) (Or.inl ⟨by rfl, ?hy9⟩) hHeld ?rest9
          case hy9 => first | (intro w hSw; (try dsimp only at hSw); go_simp; done) | (intro w hSw; (try dsimp only at hSw); go_simp; with_reducible rfl)
          try simp only [List.setIfInBounds_toArray, List.set_cons_zero, List.set_cons_succ]
          refine wpAnyH_ready (rs := [11]) (by kernel_rfl) (by simp) ?_
          refine AllReadyH.cons rfl (fun K hK => ?_) AllReadyH.nil
          go_simp
          refine hK.out _ _ ⟨T6.out.sb, T6.out.kept⟩ (fun hHeld => ?_)
          clear hK K
          refine wpAnyH_done (by kernel_rfl) ?_ _
          clear t0 t1 t2 t5 z5 g0 e0 e1 e2 e3 e4 e5 e6 e7 e8 e9 e10 e11
          go_wp2
          go_roundw
          case rel => exact ⟨k + 1, a5, c5, by omega, by go_num, T6, HT5.out⟩
          case measure => simp [intOf]; omega
    have e : k = N.sites.length := by omega
    subst e
    go_wp2
    obtain ⟨ws, hws⟩ : ∃ ws, ws = wr := ⟨wr, rfl⟩
    subst hws
    have hws3 : w.heap.size + 1 + 1 + 1 ≤ ws.heap.size := T1.out.tb.lt
    clear c0
    go_loopw [5] (fun i wr => ∃ (k : Nat) (b : Option Addr) (cb : Nat), k ≤ N.subs.length ∧ i = .int .i64 k ∧ Hid (Tn w wr #[.slice Y.s N.sites.length Y.sc, .slice Y.u N.subs.length Y.uc, .slice Y.d N.weds.length Y.dc, .int .i64 N.low, .int .i64 N.high, .int .i64 N.step] #[.slice a N.sites.length c, .slice b k cb, .slice none 0 0, .int .i64 N.low, .int .i64 N.high, .int .i64 N.step]) ∧ Hid (∃ r : Nat → Option Addr × Nat, Tl wr ws.heap.size (w.heap.size + 1 + 1) 38 2 k (.slice b k cb) (fun i j => sbV (N.subs.getD i u0) (r i).1 (r i).2 j) (fun i w' => Ints w' (r i).1 (N.subs.getD i u0).sites.length (r i).2 (N.subs.getD i u0).sites)) ∧ Hid (Far2 ws wr (w.heap.size + 1 + 1) none)) (fun i _ => N.subs.length - (intOf i).toNat)
    case atStart => exact ⟨0, none, 0, Nat.zero_le _, rfl, T1, ⟨fun _ => (none, 0), Tl.start _ _ _ _ _ _ _⟩, Far2.refl _ _ _⟩
    case round =>
      obtain ⟨k, b, cb, hk, rfl, T2, HU, HR0⟩ := hrel
      have c1 : wr.cell? ⟨w.heap.size, 1, none⟩ = some (.slice Y.u N.subs.length Y.uc) := T2.out.sb.cell (i := 1) (by omega)
      by_cases hlt : k < N.subs.length
      case pos =>
        have hsz := T2.out.tb.lt
        have hwsr := HR0.out.size
        obtain ⟨ub, uo, eu, _, _⟩ := HN.out.u1.at_ (by omega)
        rw [eu] at c1
        have HEU := Hid.mk' eu
        have HCL : Hid (∀ w9, Sn w w9 #[.slice Y.s N.sites.length Y.sc, .slice Y.u N.subs.length Y.uc, .slice Y.d N.weds.length Y.dc, .int .i64 N.low, .int .i64 N.high, .int .i64 N.step] → ∀ t, t < 2 → w9.cell? ⟨ub, uo + k * 2 + t, none⟩ = some (sbV (N.subs.getD k u0) (Y.r k).1 (Y.r k).2 t)) := fun w9 q t ht => by
          obtain ⟨ub', uo', eu', _, hc⟩ := (HN.out.kept q.kept).u1.at_ (by omega)
          rw [HEU.out] at eu'
          injection eu' with eu'
          injection eu' with eu1 eu2
          subst eu1 eu2
          exact hc k hlt t ht
        have Td := Hid.mk' (T2.out.call (Kept.drew wr none))
        have hI := (HN.out.u2 k hlt).kept Td.out.kept
        have hm := HF.out.ur k hlt
        obtain ⟨i0, hi0, hz0, hz1, hz2⟩ := info_parts Tryd.infoIn
        obtain ⟨na, cap, y, hrun, h1, h2, h3, h4⟩ := twin_run (w := wr.drew) (ty := 31) Tryd.uIns hi0 hz0 hz1 hz2 rfl (by omega) (by omega) hI.lie hI.cap (by omega) (fun i j => rfl)
        have hk2 : Kept wr y none := (Kept.drew wr none).tr h4
        have hJ : Ints y na (N.subs.getD k u0).sites.length cap (N.subs.getD k u0).sites := ⟨h1, rfl, h2, hI.rng⟩
        obtain ⟨a5, c5, W5, hrun2, hT5, hk5, hob⟩ := twin_sub (w := w) HU.out (by omega) hws3 hwsr hk2 hJ (fun x hx => Nat.le_trans (Kept.drew wr none).size (h3 x hx).1)
        have HR1 := Hid.mk' hrun
        have HR := Hid.mk' hrun2
        have HT5 := Hid.mk' hT5
        have Ts := Hid.mk' (T2.out.call hk2)
        have Ta := Hid.mk' (Ts.out.call (Kept.alloc y #[.slice na (N.subs.getD k u0).sites.length cap, .int .i64 (N.subs.getD k u0).critical] 38 (0, 0) none))
        have T5 := Hid.mk' (Ts.out.grow hk5 (fun g e => by have := (hob g e).1; omega))
        have HF5 : Hid (Far2 ws (W5.setCell ⟨w.heap.size + 1 + 1, 1, none⟩ (.slice a5 (k + 1 : Nat) c5)) (w.heap.size + 1 + 1) none) := by
          have f1 : Far2 ws W5 (w.heap.size + 1 + 1) none := ⟨Nat.le_trans (Nat.le_trans HR0.out.size hk2.size) hk5.size, fun i hi hb _ => (hk5.block i (Nat.lt_of_lt_of_le hi (Nat.le_trans HR0.out.size hk2.size)) (fun e => by have := (hob i e.symm).1; omega)).trans ((hk2.block i (Nat.lt_of_lt_of_le hi HR0.out.size) (by simp)).trans (HR0.out.block i hi hb (by simp)))⟩
          exact f1.tr (Far2.box (kept_setZ _ _ _ _) (Nat.le_refl _) none)
        have g0 : ∀ w9, Sn w w9 #[.slice Y.s N.sites.length Y.sc, .slice Y.u N.subs.length Y.uc, .slice Y.d N.weds.length Y.dc, .int .i64 N.low, .int .i64 N.high, .int .i64 N.step] → w9.cell? ⟨w.heap.size, 1, none⟩ = some (.slice (some ⟨ub, uo, none⟩) N.subs.length Y.uc) := fun w9 q => by
          have := q.sb.cell (i := 1) (by omega)
          rw [← HEU.out]
          exact this
        have e0 : ∀ w9, Sn w w9 #[.slice Y.s N.sites.length Y.sc, .slice Y.u N.subs.length Y.uc, .slice Y.d N.weds.length Y.dc, .int .i64 N.low, .int .i64 N.high, .int .i64 N.step] → w9.cell? ⟨ub, uo + k * 2, none⟩ = some (.slice (Y.r k).1 (N.subs.getD k u0).sites.length (Y.r k).2) := fun w9 q => HCL.out w9 q 0 (by omega)
        have e1 : ∀ w9, Sn w w9 #[.slice Y.s N.sites.length Y.sc, .slice Y.u N.subs.length Y.uc, .slice Y.d N.weds.length Y.dc, .int .i64 N.low, .int .i64 N.high, .int .i64 N.step] → w9.cell? ⟨ub, uo + k * 2 + 1, none⟩ = some (.int .i64 (N.subs.getD k u0).critical) := fun w9 q => HCL.out w9 q 1 (by omega)
        have t0 : wr.drew.cell? ⟨w.heap.size + 1 + 1, 1, none⟩ = some (.slice b k cb) := Td.out.tb.cell (i := 1) (by omega)
        have t1 : y.cell? ⟨w.heap.size + 1 + 1, 1, none⟩ = some (.slice b k cb) := Ts.out.tb.cell (i := 1) (by omega)
        have t2 : (y.alloc (.cells #[.slice na (N.subs.getD k u0).sites.length cap, .int .i64 (N.subs.getD k u0).critical] 38)).cell? ⟨w.heap.size + 1 + 1, 1, none⟩ = some (.slice b k cb) := Ta.out.tb.cell (i := 1) (by omega)
        have t5 : W5.cell? ⟨w.heap.size + 1 + 1, 1, none⟩ = some (.slice b k cb) := T5.out.tb.cell (i := 1) (by omega)
        have z5 : W5.frozen? ⟨w.heap.size + 1 + 1, 1, none⟩ = false := T5.out.tb.frozen 1
        have T6 : Hid (Tn w (W5.setCell ⟨w.heap.size + 1 + 1, 1, none⟩ (.slice a5 (k + 1 : Nat) c5)) #[.slice Y.s N.sites.length Y.sc, .slice Y.u N.subs.length Y.uc, .slice Y.d N.weds.length Y.dc, .int .i64 N.low, .int .i64 N.high, .int .i64 N.step] #[.slice a N.sites.length c, .slice a5 (k + 1 : Nat) c5, .slice none 0 0, .int .i64 N.low, .int .i64 N.high, .int .i64 N.step]) := T5.out.put 1 _ (by simp)
        clear eu hI h1 h2 h3 h4 hk2 hJ hrun hrun2 hT5 hk5 hob hi0 hz0 hz1 hz2 i0 HCL
        generalize (N.subs.getD k u0).critical = CR at *
        generalize (N.subs.getD k u0).sites = l at *
        generalize (Y.r k).1 = ra at *
        generalize (Y.r k).2 = rc at *
        go_wp2
        clear c1
        refine wp_region_held_drew (S := fun w9 => Sn w w9 #[.slice Y.s N.sites.length Y.sc, .slice Y.u N.subs.length Y.uc, .slice Y.d N.weds.length Y.dc, .int .i64 N.low, .int .i64 N.high, .int .i64 N.step]) (by kernel_rfl) ⟨Td.out.sb, Td.out.kept⟩ (fun hHeld => ?_)
        refine held_take (i := 0) (v := ?v10) rfl rfl (by kernel_rfl) (by kernel_rfl) (by kernel_rfl) (fun _ _ _ h => h) (Or.inl ⟨by rfl, ?hy10⟩) hHeld ?rest10
        case hy10 => first | (intro w hSw; (try dsimp only at hSw); go_simp; done) | (intro w hSw; (try dsimp only at hSw); go_simp; with_reducible rfl)
        try simp only [List.setIfInBounds_toArray, List.set_cons_zero, List.set_cons_succ]
        refine held_take (i := 2) (v := ?v11) rfl rfl (by kernel_rfl) (by kernel_rfl) (by kernel_rfl) (fun _ _ _ h => h) (Or.inl ⟨by rfl, ?hy11⟩) hHeld ?rest11
        case hy11 => first | (intro w hSw; (try dsimp only at hSw); go_simp; done) | (intro w hSw; (try dsimp only at hSw); go_simp; with_reducible rfl)
        try simp only [List.setIfInBounds_toArray, List.set_cons_zero, List.set_cons_succ]
        refine held_take (i := 3) (v := ?v12) rfl rfl (by kernel_rfl) (by kernel_rfl) (by kernel_rfl) (fun _ _ _ h => h) (Or.inl ⟨by rfl, ?hy12⟩) hHeld ?rest12
        case hy12 => first | (intro w hSw; (try dsimp only at hSw); go_simp; done) | (intro w hSw; (try dsimp only at hSw); go_simp; with_reducible rfl)
        try simp only [List.setIfInBounds_toArray, List.set_cons_zero, List.set_cons_succ]
        refine held_take (i := 4) (v := ?v13) rfl rfl (by kernel_rfl) (by kernel_rfl) (by kernel_rfl) (fun _ _ _ h => h) (Or.inl ⟨by rfl, ?hy13⟩) hHeld ?rest13
        case hy13 => first | (intro w hSw; (try dsimp only at hSw); go_simp; done) | (intro w hSw; (try dsimp only at hSw); go_simp; with_reducible rfl)
        try simp only [List.setIfInBounds_toArray, List.set_cons_zero, List.set_cons_succ]
        refine held_take (i := 5) (v := ?v14) rfl rfl (by kernel_rfl) (by kernel_rfl) (by kernel_rfl) (fun _ _ _ h => h) (Or.inl ⟨by rfl, ?hy14⟩) hHeld ?rest14
        case hy14 => first | (intro w hSw; (try dsimp only at hSw); go_simp; done) | (intro w hSw; (try dsimp only at hSw); go_simp; with_reducible rfl)
        try simp only [List.setIfInBounds_toArray, List.set_cons_zero, List.set_cons_succ]
        refine held_take (i := 6) (v := ?v15) rfl rfl (by kernel_rfl) (by kernel_rfl) (by kernel_rfl) (fun _ _ _ h => h) (Or.inl ⟨by rfl, ?hy15⟩) hHeld ?rest15
        case hy15 => first | (intro w hSw; (try dsimp only at hSw); go_simp; done) | (intro w hSw; (try dsimp only at hSw); go_simp; with_reducible rfl)
        try simp only [List.setIfInBounds_toArray, List.set_cons_zero, List.set_cons_succ]
        refine held_take (i := 7) (v := ?v16) rfl rfl (by kernel_rfl) (by kernel_rfl) (by kernel_rfl) (fun _ _ _ h => h) (Or.inl ⟨by rfl, ?hy16⟩) hHeld ?rest16
        case hy16 => first | (intro w hSw; (try dsimp only at hSw); go_simp; done) | (intro w hSw; (try dsimp only at hSw); go_simp; with_reducible rfl)
        try simp only [List.setIfInBounds_toArray, List.set_cons_zero, List.set_cons_succ]
        refine held_take (i := 9) (v := ?v17) rfl rfl (by kernel_rfl) (by kernel_rfl) (by kernel_rfl) (fun _ _ _ h => h) (Or.inl ⟨by rfl, ?hy17⟩) hHeld ?rest17
        case hy17 => first | (intro w hSw; (try dsimp only at hSw); go_simp; done) | (intro w hSw; (try dsimp only at hSw); go_simp; with_reducible rfl)
        try simp only [List.setIfInBounds_toArray, List.set_cons_zero, List.set_cons_succ]
        refine held_take (i := 10) (v := ?v18) rfl rfl (by kernel_rfl) (by kernel_rfl) (by kernel_rfl) (fun _ _ _ h => h) (Or.inl ⟨by rfl, ?hy18⟩) hHeld ?rest18
        case hy18 => first | (intro w hSw; (try dsimp only at hSw); go_simp; done) | (intro w hSw; (try dsimp only at hSw); go_simp; with_reducible rfl)
        try simp only [List.setIfInBounds_toArray, List.set_cons_zero, List.set_cons_succ]
        refine held_take (i := 11) (v := ?v19) rfl rfl (by kernel_rfl) (by kernel_rfl) (by kernel_rfl) (fun _ _ _ h => h) (Or.inl ⟨by rfl, ?hy19⟩) hHeld ?rest19
        case hy19 => first | (intro w hSw; (try dsimp only at hSw); go_simp; done) | (intro w hSw; (try dsimp only at hSw); go_simp; with_reducible rfl)
        try simp only [List.setIfInBounds_toArray, List.set_cons_zero, List.set_cons_succ]
        refine held_take (i := 12) (v := ?v20) rfl rfl (by kernel_rfl) (by kernel_rfl) (by kernel_rfl) (fun _ _ _ h => h) (Or.inl ⟨by rfl, ?hy20⟩) hHeld ?rest20
        case hy20 => first | (intro w hSw; (try dsimp only at hSw); go_simp; done) | (intro w hSw; (try dsimp only at hSw); go_simp; with_reducible rfl)
        try simp only [List.setIfInBounds_toArray, List.set_cons_zero, List.set_cons_succ]
        refine held_take (i := 13) (v := ?v21) rfl rfl (by kernel_rfl) (by kernel_rfl) (by kernel_rfl) (fun _ _ _ h => h) (Or.inl ⟨by rfl, ?hy21⟩) hHeld ?rest21
        case hy21 => first | (intro w hSw; (try dsimp only at hSw); go_simp; done) | (intro w hSw; (try dsimp only at hSw); go_simp; with_reducible rfl)
        try simp only [List.setIfInBounds_toArray, List.set_cons_zero, List.set_cons_succ]
        refine held_take (i := 14) (v := ?v22) rfl rfl (by kernel_rfl) (by kernel_rfl) (by kernel_rfl) (fun _ _ _ h => h) (Or.inl ⟨by rfl, ?hy22⟩) hHeld ?rest22
        case hy22 => first | (intro w hSw; (try dsimp only at hSw); go_simp; done) | (intro w hSw; (try dsimp only at hSw); go_simp; with_reducible rfl)
        try simp only [List.setIfInBounds_toArray, List.set_cons_zero, List.set_cons_succ]
        refine wpAnyH_ready (rs := [1, 8]) (by kernel_rfl) (by simp) ?_
        refine AllReadyH.cons rfl (fun K hK => ?da) (AllReadyH.cons rfl (fun K hK => ?db) AllReadyH.nil)
        case da =>
          go_simp
          refine hK.out _ _ ⟨Td.out.sb, Td.out.kept⟩ (fun hHeld => ?_)
          clear hK K
          refine wpAnyH_ready (rs := [8]) (by kernel_rfl) (by simp) ?_
          refine AllReadyH.cons rfl (fun K hK => ?_) AllReadyH.nil
          rw [if_pos (by rfl)]
          refine wp_app _ _ _ (by rfl) (by rfl) (by rfl) HR1.out ?_
          try simp only [Act.put, List.setIfInBounds_toArray, List.set_cons_zero, List.set_cons_succ]
          refine hK.out _ _ ⟨Ts.out.sb, Ts.out.kept⟩ (fun hHeld => ?_)
          clear hK K
          refine held_take (i := 15) (v := ?v23) rfl rfl (by kernel_rfl) (by kernel_rfl) (by kernel_rfl) (fun _ _ _ h => h) (Or.inl ⟨by rfl, ?hy23⟩) hHeld ?rest23
          case hy23 => first | (intro w hSw; (try dsimp only at hSw); go_simp; done) | (intro w hSw; (try dsimp only at hSw); go_simp; with_reducible rfl)
          try simp only [List.setIfInBounds_toArray, List.set_cons_zero, List.set_cons_succ]
          refine wpAnyH_ready (rs := [16]) (by kernel_rfl) (by simp) ?_
          refine AllReadyH.cons rfl (fun K hK => ?_) AllReadyH.nil
          go_simp
          refine hK.out _ _ ⟨Ta.out.sb, Ta.out.kept⟩ (fun hHeld => ?_)
          clear hK K
          refine wpAnyH_ready (rs := [17]) (by kernel_rfl) (by simp) ?_
          refine AllReadyH.cons rfl (fun K hK => ?_) AllReadyH.nil
          rw [if_pos (by rfl)]
          refine wp_app _ _ _ (by rfl) (by rfl) (by rfl) HR.out ?_
          try simp only [Act.put, List.setIfInBounds_toArray, List.set_cons_zero, List.set_cons_succ]
          refine hK.out _ _ ⟨T5.out.sb, T5.out.kept⟩ (fun hHeld => ?_)
          clear hK K
          refine held_take (i := 18) (v := ?v24) rfl rfl (by kernel_rfl) (by kernel_rfl) (by kernel_rfl) (fun _ _ _ h => h) (Or.inl ⟨by rfl, ?hy24⟩) hHeld ?rest24
          case hy24 => first | (intro w hSw; (try dsimp only at hSw); go_simp; done) | (intro w hSw; (try dsimp only at hSw); go_simp; with_reducible rfl)
          try simp only [List.setIfInBounds_toArray, List.set_cons_zero, List.set_cons_succ]
          refine wpAnyH_ready (rs := [19]) (by kernel_rfl) (by simp) ?_
          refine AllReadyH.cons rfl (fun K hK => ?_) AllReadyH.nil
          go_simp
          refine hK.out _ _ ⟨T6.out.sb, T6.out.kept⟩ (fun hHeld => ?_)
          clear hK K
          refine wpAnyH_done (by kernel_rfl) ?_ _
          clear t0 t1 t2 t5 z5 g0 e0 e1
          go_wp2
          go_roundw
          case rel => exact ⟨k + 1, a5, c5, by omega, by go_num, T6, HT5.out, HF5⟩
          case measure => simp [intOf]; omega
        case db =>
          rw [if_pos (by rfl)]
          refine wp_app _ _ _ (by rfl) (by rfl) (by rfl) HR1.out ?_
          try simp only [Act.put, List.setIfInBounds_toArray, List.set_cons_zero, List.set_cons_succ]
          refine hK.out _ _ ⟨Ts.out.sb, Ts.out.kept⟩ (fun hHeld => ?_)
          clear hK K
          refine held_take (i := 15) (v := ?v25) rfl rfl (by kernel_rfl) (by kernel_rfl) (by kernel_rfl) (fun _ _ _ h => h) (Or.inl ⟨by rfl, ?hy25⟩) hHeld ?rest25
          case hy25 => first | (intro w hSw; (try dsimp only at hSw); go_simp; done) | (intro w hSw; (try dsimp only at hSw); go_simp; with_reducible rfl)
          try simp only [List.setIfInBounds_toArray, List.set_cons_zero, List.set_cons_succ]
          refine wpAnyH_ready (rs := [1, 16]) (by kernel_rfl) (by simp) ?_
          refine AllReadyH.cons rfl (fun K hK => ?fa) (AllReadyH.cons rfl (fun K hK => ?fb) AllReadyH.nil)
          case fa =>
            go_simp
            refine hK.out _ _ ⟨Ts.out.sb, Ts.out.kept⟩ (fun hHeld => ?_)
            clear hK K
            refine wpAnyH_ready (rs := [16]) (by kernel_rfl) (by simp) ?_
            refine AllReadyH.cons rfl (fun K hK => ?_) AllReadyH.nil
            go_simp
            refine hK.out _ _ ⟨Ta.out.sb, Ta.out.kept⟩ (fun hHeld => ?_)
            clear hK K
            refine wpAnyH_ready (rs := [17]) (by kernel_rfl) (by simp) ?_
            refine AllReadyH.cons rfl (fun K hK => ?_) AllReadyH.nil
            rw [if_pos (by rfl)]
            refine wp_app _ _ _ (by rfl) (by rfl) (by rfl) HR.out ?_
            try simp only [Act.put, List.setIfInBounds_toArray, List.set_cons_zero, List.set_cons_succ]
            refine hK.out _ _ ⟨T5.out.sb, T5.out.kept⟩ (fun hHeld => ?_)
            clear hK K
            refine held_take (i := 18) (v := ?v26) rfl rfl (by kernel_rfl) (by kernel_rfl) (by kernel_rfl) (fun _ _ _ h => h) (Or.inl ⟨by rfl, ?hy26⟩) hHeld ?rest26
            case hy26 => first | (intro w hSw; (try dsimp only at hSw); go_simp; done) | (intro w hSw; (try dsimp only at hSw); go_simp; with_reducible rfl)
            try simp only [List.setIfInBounds_toArray, List.set_cons_zero, List.set_cons_succ]
            refine wpAnyH_ready (rs := [19]) (by kernel_rfl) (by simp) ?_
            refine AllReadyH.cons rfl (fun K hK => ?_) AllReadyH.nil
            go_simp
            refine hK.out _ _ ⟨T6.out.sb, T6.out.kept⟩ (fun hHeld => ?_)
            clear hK K
            refine wpAnyH_done (by kernel_rfl) ?_ _
            clear t0 t1 t2 t5 z5 g0 e0 e1
            go_wp2
            go_roundw
            case rel => exact ⟨k + 1, a5, c5, by omega, by go_num, T6, HT5.out, HF5⟩
            case measure => simp [intOf]; omega
          case fb =>
            go_simp
            refine hK.out _ _ ⟨Ta.out.sb, Ta.out.kept⟩ (fun hHeld => ?_)
            clear hK K
            refine wpAnyH_ready (rs := [1]) (by kernel_rfl) (by simp) ?_
            refine AllReadyH.cons rfl (fun K hK => ?_) AllReadyH.nil
            go_simp
            refine hK.out _ _ ⟨Ta.out.sb, Ta.out.kept⟩ (fun hHeld => ?_)
            clear hK K
            refine wpAnyH_ready (rs := [17]) (by kernel_rfl) (by simp) ?_
            refine AllReadyH.cons rfl (fun K hK => ?_) AllReadyH.nil
            rw [if_pos (by rfl)]
            refine wp_app _ _ _ (by rfl) (by rfl) (by rfl) HR.out ?_
            try simp only [Act.put, List.setIfInBounds_toArray, List.set_cons_zero, List.set_cons_succ]
            refine hK.out _ _ ⟨T5.out.sb, T5.out.kept⟩ (fun hHeld => ?_)
            clear hK K
            refine held_take (i := 18) (v := ?v27) rfl rfl (by kernel_rfl) (by kernel_rfl) (by kernel_rfl) (fun _ _ _ h => h) (Or.inl ⟨by rfl, ?hy27⟩) hHeld ?rest27
            case hy27 => first | (intro w hSw; (try dsimp only at hSw); go_simp; done) | (intro w hSw; (try dsimp only at hSw); go_simp; with_reducible rfl)
            try simp only [List.setIfInBounds_toArray, List.set_cons_zero, List.set_cons_succ]
            refine wpAnyH_ready (rs := [19]) (by kernel_rfl) (by simp) ?_
            refine AllReadyH.cons rfl (fun K hK => ?_) AllReadyH.nil
            go_simp
            refine hK.out _ _ ⟨T6.out.sb, T6.out.kept⟩ (fun hHeld => ?_)
            clear hK K
            refine wpAnyH_done (by kernel_rfl) ?_ _
            clear t0 t1 t2 t5 z5 g0 e0 e1
            go_wp2
            go_roundw
            case rel => exact ⟨k + 1, a5, c5, by omega, by go_num, T6, HT5.out, HF5⟩
            case measure => simp [intOf]; omega
      have e : k = N.subs.length := by omega
      subst e
      go_wp2
      obtain ⟨wu, hwu⟩ : ∃ wu, wu = wr := ⟨wr, rfl⟩
      subst hwu
      have hwu3 : w.heap.size + 1 + 1 + 1 ≤ wu.heap.size := T2.out.tb.lt
      have hwsu := HR0.out.size
      clear c1
      go_loopw [6] (fun i wr => ∃ (k : Nat) (d : Option Addr) (cd : Nat), k ≤ N.weds.length ∧ i = .int .i64 k ∧ Hid (Tn w wr #[.slice Y.s N.sites.length Y.sc, .slice Y.u N.subs.length Y.uc, .slice Y.d N.weds.length Y.dc, .int .i64 N.low, .int .i64 N.high, .int .i64 N.step] #[.slice a N.sites.length c, .slice b N.subs.length cb, .slice d k cd, .int .i64 N.low, .int .i64 N.high, .int .i64 N.step]) ∧ Hid (∃ r : Nat → Option Addr × Nat, Tl wr wu.heap.size (w.heap.size + 1 + 1) 40 4 k (.slice d k cd) (fun i j => wdV (N.weds.getD i d0) (r i).1 (r i).2 j) (fun i w' => Ints w' (r i).1 (N.weds.getD i d0).offsets.length (r i).2 (N.weds.getD i d0).offsets)) ∧ Hid (Far2 wu wr (w.heap.size + 1 + 1) none)) (fun i _ => N.weds.length - (intOf i).toNat)
      case atStart => exact ⟨0, none, 0, Nat.zero_le _, rfl, T2, ⟨fun _ => (none, 0), Tl.start _ _ _ _ _ _ _⟩, Far2.refl _ _ _⟩
      case round =>
        obtain ⟨k, d, cd, hk, rfl, T3, HD, HR1⟩ := hrel
        have c2 : wr.cell? ⟨w.heap.size, 2, none⟩ = some (.slice Y.d N.weds.length Y.dc) := T3.out.sb.cell (i := 2) (by omega)
        by_cases hlt : k < N.weds.length
        case pos =>
          have hsz : w.heap.size + 1 + 1 < wr.heap.size := T3.out.tb.lt
          have hwur := HR1.out.size
          obtain ⟨db, do_, ed, _, hc⟩ := (HN.out.kept T3.out.kept).d1.at_ (by omega)
          rw [ed] at c2
          have e0 := hc k hlt 0 (by omega)
          have e1 := hc k hlt 1 (by omega)
          have e2 := hc k hlt 2 (by omega)
          have e3 := hc k hlt 3 (by omega)
          have hI0 := (HN.out.kept T3.out.kept).d2 k hlt
          generalize Y.t k = tk at *
          obtain ⟨ra, rc⟩ := tk
          dsimp only [wdV, Nat.add_zero] at e0 e1 e2 e3 hI0
          have hI := hI0.kept (Kept.alloc wr #[.int .i64 (N.weds.getD k d0).a, .int .i64 (N.weds.getD k d0).b, .int .i64 (N.weds.getD k d0).votes, .slice ra (N.weds.getD k d0).offsets.length rc] 40 (0, 0) none)
          have hm := HF.out.dr k hlt
          obtain ⟨i0, hi0, hz0, hz1, hz2⟩ := info_parts Tryd.infoIn
          obtain ⟨na, cap, W2, hrun, h1, h2, h3, h4⟩ := twin_run (w := wr.alloc (.cells #[.int .i64 (N.weds.getD k d0).a, .int .i64 (N.weds.getD k d0).b, .int .i64 (N.weds.getD k d0).votes, .slice ra (N.weds.getD k d0).offsets.length rc] 40)) (ty := 31) Tryd.uIns hi0 hz0 hz1 hz2 rfl (by omega) (by omega) hI.lie hI.cap (by omega) (fun i j => rfl)
          have hzA : (wr.alloc (.cells #[.int .i64 (N.weds.getD k d0).a, .int .i64 (N.weds.getD k d0).b, .int .i64 (N.weds.getD k d0).votes, .slice ra (N.weds.getD k d0).offsets.length rc] 40)).heap.size = wr.heap.size + 1 := by simp
          rw [hzA] at h3
          have hk2 : Kept wr W2 none := (Kept.alloc wr _ _ (0, 0) none).tr h4
          have hk3 : Kept wr (W2.setCell ⟨wr.heap.size, 3, none⟩ (.slice na (N.weds.getD k d0).offsets.length cap)) none := kept_newZ hk2 (Nat.le_refl _) 3 _
          have hJ : Ints (W2.setCell ⟨wr.heap.size, 3, none⟩ (.slice na (N.weds.getD k d0).offsets.length cap)) na (N.weds.getD k d0).offsets.length cap (N.weds.getD k d0).offsets := Ints.keptS ⟨h1, rfl, h2, hI.rng⟩ (kept_setZ W2 wr.heap.size 3 _) (fun x hx e => by have := (h3 x hx).1; injection e with e; omega)
          obtain ⟨a5, c5, W5, hrun2, hT5, hk5, hob⟩ := twin_wed (w := w) HD.out (by omega) hwu3 hwur hk3 hJ (fun x hx => by have := (h3 x hx).1; omega)
          have hz3 : (W2.setCell ⟨wr.heap.size, 3, none⟩ (.slice na (N.weds.getD k d0).offsets.length cap)).heap.size = W2.heap.size := by simp [World.setCell]
          rw [hz3] at hrun2
          have HRa := Hid.mk' hrun
          have HRb := Hid.mk' hrun2
          have HT5 := Hid.mk' hT5
          have Ts := Hid.mk' (T3.out.call hk2)
          have Tq := Hid.mk' (T3.out.call hk3)
          have T5 := Hid.mk' (Tq.out.grow hk5 (fun g e => by have := (hob g e).1; omega))
          have HF5 : Hid (Far2 wu (W5.setCell ⟨w.heap.size + 1 + 1, 2, none⟩ (.slice a5 (k + 1 : Nat) c5)) (w.heap.size + 1 + 1) none) := by
            have f1 : Far2 wu W5 (w.heap.size + 1 + 1) none := ⟨Nat.le_trans (Nat.le_trans HR1.out.size hk3.size) hk5.size, fun i hi hb _ => (hk5.block i (Nat.lt_of_lt_of_le hi (Nat.le_trans HR1.out.size hk3.size)) (fun e => by have := (hob i e.symm).1; omega)).trans ((hk3.block i (Nat.lt_of_lt_of_le hi HR1.out.size) (by simp)).trans (HR1.out.block i hi hb (by simp)))⟩
            exact f1.tr (Far2.box (kept_setZ _ _ _ _) (Nat.le_refl _) none)
          have z2 : wr.heap.size + 1 ≤ W2.heap.size := by have := h4.size; rw [hzA] at this; exact this
          have q0' : W2.cell? ⟨wr.heap.size, 0, none⟩ = some (.int .i64 (N.weds.getD k d0).a) := cell_kept0 (by simp [World.cell?_alloc_mark]) h4
          have q1' : W2.cell? ⟨wr.heap.size, 1, none⟩ = some (.int .i64 (N.weds.getD k d0).b) := cell_kept0 (by simp [World.cell?_alloc_mark]) h4
          have q2' : W2.cell? ⟨wr.heap.size, 2, none⟩ = some (.int .i64 (N.weds.getD k d0).votes) := cell_kept0 (by simp [World.cell?_alloc_mark]) h4
          have q3' : W2.cell? ⟨wr.heap.size, 3, none⟩ = some (.slice ra (N.weds.getD k d0).offsets.length rc) := cell_kept0 (by simp [World.cell?_alloc_mark]) h4
          have qf : W2.frozen? ⟨wr.heap.size, 3, none⟩ = false := (frozen_blockZ (h4.block _ (by simp) (by simp))).trans (by go_simp)
          have t1 : W2.cell? ⟨w.heap.size + 1 + 1, 2, none⟩ = some (.slice d k cd) := Ts.out.tb.cell (i := 2) (by omega)
          have t3 : (W2.setCell ⟨wr.heap.size, 3, none⟩ (.slice na (N.weds.getD k d0).offsets.length cap)).cell? ⟨w.heap.size + 1 + 1, 2, none⟩ = some (.slice d k cd) := Tq.out.tb.cell (i := 2) (by omega)
          have t5 : W5.cell? ⟨w.heap.size + 1 + 1, 2, none⟩ = some (.slice d k cd) := T5.out.tb.cell (i := 2) (by omega)
          have z5 : W5.frozen? ⟨w.heap.size + 1 + 1, 2, none⟩ = false := T5.out.tb.frozen 2
          have T6 : Hid (Tn w (W5.setCell ⟨w.heap.size + 1 + 1, 2, none⟩ (.slice a5 (k + 1 : Nat) c5)) #[.slice Y.s N.sites.length Y.sc, .slice Y.u N.subs.length Y.uc, .slice Y.d N.weds.length Y.dc, .int .i64 N.low, .int .i64 N.high, .int .i64 N.step] #[.slice a N.sites.length c, .slice b N.subs.length cb, .slice a5 (k + 1 : Nat) c5, .int .i64 N.low, .int .i64 N.high, .int .i64 N.step]) := T5.out.put 2 _ (by simp)
          have hne1 : ¬ (w.heap.size + 1 + 1 = wr.heap.size) := by omega
          have hne2 : ¬ (wr.heap.size = w.heap.size + 1 + 1) := by omega
          have hbl := block_lt e0
          have hwl := block_lt c2
          clear ed hc hI0 hI h1 h2 h3 h4 hk2 hk3 hJ hrun hrun2 hT5 hk5 hob hi0 hz0 hz1 hz2 i0 hzA hz3
          generalize N.weds.getD k d0 = D at *
          go_wp2_with (first
            | (have hgo := hdone; clear hgo; at_builtin; refine wpList_app (by rfl) _ _ _ (by rfl) (by rfl) (by rfl) HRb.out ?_)
            | (at_builtin; refine wpList_app (by rfl) _ _ _ (by rfl) (by rfl) (by rfl) HRa.out ?_; have hdone := trivial))
          go_roundw
          case rel => exact ⟨k + 1, a5, c5, by omega, by go_num, T6, HT5.out, HF5⟩
          case measure => simp [intOf]; omega
        have e : k = N.weds.length := by omega
        subst e
        have HQ := Hid.mk' (row6Z (B := w.heap.size + 1 + 1) T3.out.rb T3.out.kept (by omega) (by omega) (.slice a N.sites.length c) (.slice b N.subs.length cb) (.slice d N.weds.length cd) (.int .i64 N.low) (.int .i64 N.high) (.int .i64 N.step))
        have k0 : wr.cell? ⟨w.heap.size + 1 + 1, 0, none⟩ = some (.slice a N.sites.length c) := T3.out.tb.cell (i := 0) (by omega)
        have k1 : wr.cell? ⟨w.heap.size + 1 + 1, 1, none⟩ = some (.slice b N.subs.length cb) := T3.out.tb.cell (i := 1) (by omega)
        have k2 : wr.cell? ⟨w.heap.size + 1 + 1, 2, none⟩ = some (.slice d N.weds.length cd) := T3.out.tb.cell (i := 2) (by omega)
        have k3 : wr.cell? ⟨w.heap.size + 1 + 1, 3, none⟩ = some (.int .i64 N.low) := T3.out.tb.cell (i := 3) (by omega)
        have k4 : wr.cell? ⟨w.heap.size + 1 + 1, 4, none⟩ = some (.int .i64 N.high) := T3.out.tb.cell (i := 4) (by omega)
        have k5 : wr.cell? ⟨w.heap.size + 1 + 1, 5, none⟩ = some (.int .i64 N.step) := T3.out.tb.cell (i := 5) (by omega)
        have s0 : wr.cell? ⟨w.heap.size + 1, 0, none⟩ = some (.slice none 0 0) := T3.out.rb.cell (i := 0) (by omega)
        have u0 : wr.frozen? ⟨w.heap.size + 1, 0, none⟩ = false := T3.out.rb.frozen 0
        have s1 : wr.cell? ⟨w.heap.size + 1, 1, none⟩ = some (.slice none 0 0) := T3.out.rb.cell (i := 1) (by omega)
        have u1 : wr.frozen? ⟨w.heap.size + 1, 1, none⟩ = false := T3.out.rb.frozen 1
        have s2 : wr.cell? ⟨w.heap.size + 1, 2, none⟩ = some (.slice none 0 0) := T3.out.rb.cell (i := 2) (by omega)
        have u2 : wr.frozen? ⟨w.heap.size + 1, 2, none⟩ = false := T3.out.rb.frozen 2
        have s3 : wr.cell? ⟨w.heap.size + 1, 3, none⟩ = some (.int .i64 0) := T3.out.rb.cell (i := 3) (by omega)
        have u3 : wr.frozen? ⟨w.heap.size + 1, 3, none⟩ = false := T3.out.rb.frozen 3
        have s4 : wr.cell? ⟨w.heap.size + 1, 4, none⟩ = some (.int .i64 0) := T3.out.rb.cell (i := 4) (by omega)
        have u4 : wr.frozen? ⟨w.heap.size + 1, 4, none⟩ = false := T3.out.rb.frozen 4
        have s5 : wr.cell? ⟨w.heap.size + 1, 5, none⟩ = some (.int .i64 0) := T3.out.rb.cell (i := 5) (by omega)
        have u5 : wr.frozen? ⟨w.heap.size + 1, 5, none⟩ = false := T3.out.rb.frozen 5
        go_wp2
        clear k0 s0 u0 k1 s1 u1 k2 s2 u2 k3 s3 u3 k4 s4 u4 k5 s5 u5 c2
        try dsimp only at HQ
        generalize ((((((wr.setCell ⟨w.heap.size + 1, 0, none⟩ (.slice a N.sites.length c)).setCell ⟨w.heap.size + 1, 1, none⟩ (.slice b N.subs.length cb)).setCell ⟨w.heap.size + 1, 2, none⟩ (.slice d N.weds.length cd)).setCell ⟨w.heap.size + 1, 3, none⟩ (.int .i64 N.low)).setCell ⟨w.heap.size + 1, 4, none⟩ (.int .i64 N.high)).setCell ⟨w.heap.size + 1, 5, none⟩ (.int .i64 N.step)) = WF at *
        obtain ⟨hkF, hqF, q0, q1, q2, q3, q4, q5⟩ := HQ.out
        refine bodyPost_ret (v := .agg #[.slice a N.sites.length c, .slice b N.subs.length cb, .slice d N.weds.length cd, .int .i64 N.low, .int .i64 N.high, .int .i64 N.step]) (by simp [results, Tryd.results16, go_sem, q0, q1, q2, q3, q4, q5]) rfl ?_
        clear q0 q1 q2 q3 q4 q5
        obtain ⟨Xs, HT1⟩ := HT.out
        obtain ⟨r1, HU1⟩ := HU.out
        obtain ⟨r2, HD1⟩ := HD.out
        obtain ⟨l1, p1, o1⟩ := HT1.done (HR0.out.tr (HR1.out.tr hqF)) (by omega) (by omega)
        obtain ⟨l2, p2, o2⟩ := HU1.done (HR1.out.tr hqF) (by omega) (by omega)
        obtain ⟨l3, p3, o3⟩ := HD1.done hqF (by omega) (by omega)
        exact ⟨⟨a, c, b, cb, d, cd, Xs, r1, r2⟩, rfl, ⟨l1, o1, l2, o2, l3, o3, p1, p2, p3, HN.out.ur, HN.out.dr, HN.out.nr⟩, hkF⟩

end Go.Proofs.YtoahbpdgbiachaaDoor

/-
  THE DOCUMENT'S OWN: two regions that are the same are told so.
-/
namespace Go.Proofs.YtoahbpdgbiachaaDoor
open Go.RowKit Go.Lib Go.Deep
set_option linter.unusedVariables false
set_option linter.unusedSimpArgs false

/-- A drawn region's one way. -/
def RgN (A : Act) (W : World) (e : Exit) (a : Act) (w : World) : Prop := match e with
  | .normal => a = A ∧ Kept W w none
  | _ => False
theorem RgN.out {A : Act} {W w : World} {e : Exit} {a : Act} (h : RgN A W e a w) : e = .normal ∧ a = A ∧ Kept W w none := by
  cases e with
  | normal => exact ⟨rfl, h.1, h.2⟩
  | _ => exact h.elim
set_option maxRecDepth 100000 in
set_option maxHeartbeats 8000000 in
theorem rsame_net {Y Z : Na} {N : Nt} {w : World} (h1 : NetAt w Y N) (h2 : NetAt w Z N) : Calls Tryd.prog 22 #[netV Y N, netV Z N] w fun e w' => e = .returned (.bool true) ∧ Kept w w' none := by
  have hk1 : Kept w (w.alloc (.cells #[.slice Y.s N.sites.length Y.sc, .slice Y.u N.subs.length Y.uc, .slice Y.d N.weds.length Y.dc, .int .i64 N.low, .int .i64 N.high, .int .i64 N.step] 26)) none := Kept.alloc _ _ _ _ _
  have hk2 : Kept (w.alloc (.cells #[.slice Y.s N.sites.length Y.sc, .slice Y.u N.subs.length Y.uc, .slice Y.d N.weds.length Y.dc, .int .i64 N.low, .int .i64 N.high, .int .i64 N.step] 26)) ((w.alloc (.cells #[.slice Y.s N.sites.length Y.sc, .slice Y.u N.subs.length Y.uc, .slice Y.d N.weds.length Y.dc, .int .i64 N.low, .int .i64 N.high, .int .i64 N.step] 26)).alloc (.cells #[.slice Z.s N.sites.length Z.sc, .slice Z.u N.subs.length Z.uc, .slice Z.d N.weds.length Z.dc, .int .i64 N.low, .int .i64 N.high, .int .i64 N.step] 26)) none := Kept.alloc _ _ _ _ _
  have HA := Hid.mk' ((nbx_alloc h1 26).kept hk2)
  have hz : (w.alloc (.cells #[.slice Y.s N.sites.length Y.sc, .slice Y.u N.subs.length Y.uc, .slice Y.d N.weds.length Y.dc, .int .i64 N.low, .int .i64 N.high, .int .i64 N.step] 26)).heap.size = w.heap.size + 1 := by simp
  have HB : Hid (Nbx ((w.alloc (.cells #[.slice Y.s N.sites.length Y.sc, .slice Y.u N.subs.length Y.uc, .slice Y.d N.weds.length Y.dc, .int .i64 N.low, .int .i64 N.high, .int .i64 N.step] 26)).alloc (.cells #[.slice Z.s N.sites.length Z.sc, .slice Z.u N.subs.length Z.uc, .slice Z.d N.weds.length Z.dc, .int .i64 N.low, .int .i64 N.high, .int .i64 N.step] 26)) (w.heap.size + 1) Z N) := by
    have := nbx_alloc (h2.kept hk1) 26
    rw [hz] at this
    exact this
  have HK := Hid.mk' (hk1.tr hk2)
  have hs9 : N.sites.length ≤ 9223372036854775807 := by have := h1.sk.room; have := h1.sk.max; omega
  have hu9 : N.subs.length ≤ 9223372036854775807 := by have := h1.uk.room; have := h1.uk.max; omega
  have hd9 : N.weds.length ≤ 9223372036854775807 := by have := h1.dk.room; have := h1.dk.max; omega
  clear h1 h2 hk1 hk2 hz
  go_enter Tryd.func22, Tryd.ntmps22
  go_wp2
  generalize hW : ((w.alloc (.cells #[.slice Y.s N.sites.length Y.sc, .slice Y.u N.subs.length Y.uc, .slice Y.d N.weds.length Y.dc, .int .i64 N.low, .int .i64 N.high, .int .i64 N.step] 26)).alloc (.cells #[.slice Z.s N.sites.length Z.sc, .slice Z.u N.subs.length Z.uc, .slice Z.d N.weds.length Z.dc, .int .i64 N.low, .int .i64 N.high, .int .i64 N.step] 26)) = W at *
  clear hW
  go_loopw [5] (fun i wr => ∃ k : Nat, k ≤ N.sites.length ∧ i = .int .i64 k ∧ Kept W wr none) (fun i _ => N.sites.length - (intOf i).toNat)
  case atStart => exact ⟨0, Nat.zero_le _, rfl, Kept.refl _ _⟩
  case round =>
    obtain ⟨k, hk, rfl, hkr⟩ := hrel
    have c0 := (HA.out.kept hkr).c0
    by_cases hlt : k < N.sites.length
    case pos =>
      obtain ⟨sb, so, es, _, _⟩ := HA.out.net.s1.at_ (by omega)
      obtain ⟨tb, to_, et, _, _⟩ := HB.out.net.s1.at_ (by omega)
      rw [es] at c0
      have HES := Hid.mk' es
      have HET := Hid.mk' et
      have HCA : Hid (∀ w9, Kept W w9 none → ∀ t, t < 12 → w9.cell? ⟨sb, so + k * 12 + t, none⟩ = some (stV (Y.X k) (N.sites.getD k s0) t)) := fun w9 q t ht => (by obtain ⟨b', o', e', _, hc⟩ := (HA.out.kept q).net.s1.at_ (by omega); rw [HES.out] at e'; injection e' with e'; injection e' with e1 e2; subst e1 e2; exact hc k hlt t ht)
      have HCB : Hid (∀ w9, Kept W w9 none → ∀ t, t < 12 → w9.cell? ⟨tb, to_ + k * 12 + t, none⟩ = some (stV (Z.X k) (N.sites.getD k s0) t)) := fun w9 q t ht => (by obtain ⟨b', o', e', _, hc⟩ := (HB.out.kept q).net.s1.at_ (by omega); rw [HET.out] at e'; injection e' with e'; injection e' with e1 e2; subst e1 e2; exact hc k hlt t ht)
      have HSA := Hid.mk' (HA.out.net.s2 k hlt)
      have HSB := Hid.mk' (HB.out.net.s2 k hlt)
      have g0 : ∀ w', Kept W w' none → w'.cell? ⟨w.heap.size, 0, none⟩ = some (.slice (some ⟨sb, so, none⟩) N.sites.length Y.sc) := fun w' q => by rw [← HES.out]; exact (HA.out.kept q).c0
      have g1 : ∀ w', Kept W w' none → w'.cell? ⟨w.heap.size + 1, 0, none⟩ = some (.slice (some ⟨tb, to_, none⟩) N.sites.length Z.sc) := fun w' q => by rw [← HET.out]; exact (HB.out.kept q).c0
      clear es et
      generalize Y.X k = XA at *
      generalize Z.X k = XB at *
      generalize N.sites.getD k s0 = S at *
      obtain ⟨xg, xgc, xa, xac, xb, xbc, xp, xpc, xe, xec, xl, xlc⟩ := XA
      obtain ⟨yg, ygc, ya, yac, yb, ybc, yp, ypc, ye, yec, yl, ylc⟩ := XB
      have e0 : ∀ w', Kept W w' none → w'.cell? ⟨sb, so + k * 12, none⟩ = some (.int .i64 S.id) := fun w' q => HCA.out w' q 0 (by omega)
      have e1 : ∀ w', Kept W w' none → w'.cell? ⟨sb, so + k * 12 + 1, none⟩ = some (.slice xg S.groups.length xgc) := fun w' q => HCA.out w' q 1 (by omega)
      have e2 : ∀ w', Kept W w' none → w'.cell? ⟨sb, so + k * 12 + 2, none⟩ = some (.slice xa S.apart.length xac) := fun w' q => HCA.out w' q 2 (by omega)
      have e3 : ∀ w', Kept W w' none → w'.cell? ⟨sb, so + k * 12 + 3, none⟩ = some (.slice xb S.between.length xbc) := fun w' q => HCA.out w' q 3 (by omega)
      have e4 : ∀ w', Kept W w' none → w'.cell? ⟨sb, so + k * 12 + 4, none⟩ = some (.slice xp S.phases.length xpc) := fun w' q => HCA.out w' q 4 (by omega)
      have e5 : ∀ w', Kept W w' none → w'.cell? ⟨sb, so + k * 12 + 5, none⟩ = some (.slice xe S.eyes.length xec) := fun w' q => HCA.out w' q 5 (by omega)
      have e6 : ∀ w', Kept W w' none → w'.cell? ⟨sb, so + k * 12 + 6, none⟩ = some (.int .i64 S.watch) := fun w' q => HCA.out w' q 6 (by omega)
      have e7 : ∀ w', Kept W w' none → w'.cell? ⟨sb, so + k * 12 + 7, none⟩ = some (.int .i64 S.feed) := fun w' q => HCA.out w' q 7 (by omega)
      have e8 : ∀ w', Kept W w' none → w'.cell? ⟨sb, so + k * 12 + 8, none⟩ = some (.int .i64 S.heal) := fun w' q => HCA.out w' q 8 (by omega)
      have e9 : ∀ w', Kept W w' none → w'.cell? ⟨sb, so + k * 12 + 9, none⟩ = some (.int .i64 S.low) := fun w' q => HCA.out w' q 9 (by omega)
      have e10 : ∀ w', Kept W w' none → w'.cell? ⟨sb, so + k * 12 + 10, none⟩ = some (.int .i64 S.high) := fun w' q => HCA.out w' q 10 (by omega)
      have e11 : ∀ w', Kept W w' none → w'.cell? ⟨sb, so + k * 12 + 11, none⟩ = some (.slice xl S.plans.length xlc) := fun w' q => HCA.out w' q 11 (by omega)
      have f0 : ∀ w', Kept W w' none → w'.cell? ⟨tb, to_ + k * 12, none⟩ = some (.int .i64 S.id) := fun w' q => HCB.out w' q 0 (by omega)
      have f1 : ∀ w', Kept W w' none → w'.cell? ⟨tb, to_ + k * 12 + 1, none⟩ = some (.slice yg S.groups.length ygc) := fun w' q => HCB.out w' q 1 (by omega)
      have f2 : ∀ w', Kept W w' none → w'.cell? ⟨tb, to_ + k * 12 + 2, none⟩ = some (.slice ya S.apart.length yac) := fun w' q => HCB.out w' q 2 (by omega)
      have f3 : ∀ w', Kept W w' none → w'.cell? ⟨tb, to_ + k * 12 + 3, none⟩ = some (.slice yb S.between.length ybc) := fun w' q => HCB.out w' q 3 (by omega)
      have f4 : ∀ w', Kept W w' none → w'.cell? ⟨tb, to_ + k * 12 + 4, none⟩ = some (.slice yp S.phases.length ypc) := fun w' q => HCB.out w' q 4 (by omega)
      have f5 : ∀ w', Kept W w' none → w'.cell? ⟨tb, to_ + k * 12 + 5, none⟩ = some (.slice ye S.eyes.length yec) := fun w' q => HCB.out w' q 5 (by omega)
      have f6 : ∀ w', Kept W w' none → w'.cell? ⟨tb, to_ + k * 12 + 6, none⟩ = some (.int .i64 S.watch) := fun w' q => HCB.out w' q 6 (by omega)
      have f7 : ∀ w', Kept W w' none → w'.cell? ⟨tb, to_ + k * 12 + 7, none⟩ = some (.int .i64 S.feed) := fun w' q => HCB.out w' q 7 (by omega)
      have f8 : ∀ w', Kept W w' none → w'.cell? ⟨tb, to_ + k * 12 + 8, none⟩ = some (.int .i64 S.heal) := fun w' q => HCB.out w' q 8 (by omega)
      have f9 : ∀ w', Kept W w' none → w'.cell? ⟨tb, to_ + k * 12 + 9, none⟩ = some (.int .i64 S.low) := fun w' q => HCB.out w' q 9 (by omega)
      have f10 : ∀ w', Kept W w' none → w'.cell? ⟨tb, to_ + k * 12 + 10, none⟩ = some (.int .i64 S.high) := fun w' q => HCB.out w' q 10 (by omega)
      have f11 : ∀ w', Kept W w' none → w'.cell? ⟨tb, to_ + k * 12 + 11, none⟩ = some (.slice yl S.plans.length ylc) := fun w' q => HCB.out w' q 11 (by omega)
      go_wp2
      clear c0
      refine Code.wp_mono (Q := RgN ?A1 W) ?cont1 ?reg1
      case reg1 =>
        repeat (rename_i hh; clear hh)
        refine wp_region_held_drew (S := fun w' => Kept W w' none) (by kernel_rfl) (Kept.tr hkr (Kept.drew _ _)) (fun hHeld => ?_)
        refine held_take (i := 0) (v := ?v2) rfl rfl (by kernel_rfl) (by kernel_rfl) (by kernel_rfl) (fun _ _ _ h => h) (Or.inl ⟨by rfl, ?hy2⟩) hHeld ?rest2
        case hy2 => first | (intro w hSw; (try dsimp only at hSw); go_simp; done) | (intro w hSw; (try dsimp only at hSw); go_simp; with_reducible rfl)
        try simp only [List.setIfInBounds_toArray, List.set_cons_zero, List.set_cons_succ]
        refine held_take (i := 1) (v := ?v3) rfl rfl (by kernel_rfl) (by kernel_rfl) (by kernel_rfl) (fun _ _ _ h => h) (Or.inl ⟨by rfl, ?hy3⟩) hHeld ?rest3
        case hy3 => first | (intro w hSw; (try dsimp only at hSw); go_simp; done) | (intro w hSw; (try dsimp only at hSw); go_simp; with_reducible rfl)
        try simp only [List.setIfInBounds_toArray, List.set_cons_zero, List.set_cons_succ]
        refine held_take (i := 2) (v := ?v4) rfl rfl (by kernel_rfl) (by kernel_rfl) (by kernel_rfl) (fun _ _ _ h => h) (Or.inl ⟨by rfl, ?hy4⟩) hHeld ?rest4
        case hy4 => first | (intro w hSw; (try dsimp only at hSw); go_simp; done) | (intro w hSw; (try dsimp only at hSw); go_simp; with_reducible rfl)
        try simp only [List.setIfInBounds_toArray, List.set_cons_zero, List.set_cons_succ]
        refine held_take (i := 3) (v := ?v5) rfl rfl (by kernel_rfl) (by kernel_rfl) (by kernel_rfl) (fun _ _ _ h => h) (Or.inl ⟨by rfl, ?hy5⟩) hHeld ?rest5
        case hy5 => first | (intro w hSw; (try dsimp only at hSw); go_simp; done) | (intro w hSw; (try dsimp only at hSw); go_simp; with_reducible rfl)
        try simp only [List.setIfInBounds_toArray, List.set_cons_zero, List.set_cons_succ]
        refine held_take (i := 4) (v := ?v6) rfl rfl (by kernel_rfl) (by kernel_rfl) (by kernel_rfl) (fun _ _ _ h => h) (Or.inl ⟨by rfl, ?hy6⟩) hHeld ?rest6
        case hy6 => first | (intro w hSw; (try dsimp only at hSw); go_simp; done) | (intro w hSw; (try dsimp only at hSw); go_simp; with_reducible rfl)
        try simp only [List.setIfInBounds_toArray, List.set_cons_zero, List.set_cons_succ]
        refine held_take (i := 5) (v := ?v7) rfl rfl (by kernel_rfl) (by kernel_rfl) (by kernel_rfl) (fun _ _ _ h => h) (Or.inl ⟨by rfl, ?hy7⟩) hHeld ?rest7
        case hy7 => first | (intro w hSw; (try dsimp only at hSw); go_simp; done) | (intro w hSw; (try dsimp only at hSw); go_simp; with_reducible rfl)
        try simp only [List.setIfInBounds_toArray, List.set_cons_zero, List.set_cons_succ]
        refine held_take (i := 6) (v := ?v8) rfl rfl (by kernel_rfl) (by kernel_rfl) (by kernel_rfl) (fun _ _ _ h => h) (Or.inl ⟨by rfl, ?hy8⟩) hHeld ?rest8
        case hy8 => first | (intro w hSw; (try dsimp only at hSw); go_simp; done) | (intro w hSw; (try dsimp only at hSw); go_simp; with_reducible rfl)
        try simp only [List.setIfInBounds_toArray, List.set_cons_zero, List.set_cons_succ]
        refine held_take (i := 7) (v := ?v9) rfl rfl (by kernel_rfl) (by kernel_rfl) (by kernel_rfl) (fun _ _ _ h => h) (Or.inl ⟨by rfl, ?hy9⟩) hHeld ?rest9
        case hy9 => first | (intro w hSw; (try dsimp only at hSw); go_simp; done) | (intro w hSw; (try dsimp only at hSw); go_simp; with_reducible rfl)
        try simp only [List.setIfInBounds_toArray, List.set_cons_zero, List.set_cons_succ]
        refine held_take (i := 8) (v := ?v10) rfl rfl (by kernel_rfl) (by kernel_rfl) (by kernel_rfl) (fun _ _ _ h => h) (Or.inl ⟨by rfl, ?hy10⟩) hHeld ?rest10
        case hy10 => first | (intro w hSw; (try dsimp only at hSw); go_simp; done) | (intro w hSw; (try dsimp only at hSw); go_simp; with_reducible rfl)
        try simp only [List.setIfInBounds_toArray, List.set_cons_zero, List.set_cons_succ]
        refine held_take (i := 9) (v := ?v11) rfl rfl (by kernel_rfl) (by kernel_rfl) (by kernel_rfl) (fun _ _ _ h => h) (Or.inl ⟨by rfl, ?hy11⟩) hHeld ?rest11
        case hy11 => first | (intro w hSw; (try dsimp only at hSw); go_simp; done) | (intro w hSw; (try dsimp only at hSw); go_simp; with_reducible rfl)
        try simp only [List.setIfInBounds_toArray, List.set_cons_zero, List.set_cons_succ]
        refine wpAnyH_ready (rs := [10]) (by kernel_rfl) (by simp) ?_
        refine AllReadyH.cons rfl (fun K hK => ?_) AllReadyH.nil
        go_simp
        go_wp2_with (go_at_call 42; refine (rsame_site (HSA.out.kept hHeld) (HSB.out.kept hHeld)).mono ?_; rintro e wS ⟨rfl, hkS⟩; have hKS : Kept W wS none := Kept.tr hHeld hkS)
        replace hK := hK.out
        refine hK _ _ hKS (fun hHeld => ?_)
        clear hK K
        refine held_take (i := 11) (v := ?v12) rfl rfl (by kernel_rfl) (by kernel_rfl) (by kernel_rfl) (fun _ _ _ h => h) (Or.inl ⟨by rfl, ?hy12⟩) hHeld ?rest12
        case hy12 => first | (intro w hSw; (try dsimp only at hSw); go_simp; done) | (intro w hSw; (try dsimp only at hSw); go_simp; with_reducible rfl)
        try simp only [List.setIfInBounds_toArray, List.set_cons_zero, List.set_cons_succ]
        refine wpAnyH_done (by kernel_rfl) ?_ _
        refine And.intro ?_ hHeld
        with_reducible rfl
      case cont1 =>
      intro e a' w' hq
      obtain ⟨rfl, rfl, hkq⟩ := hq.out
      go_wp2
      go_roundw
      case rel => exact ⟨k + 1, by omega, by go_num, hkq⟩
      case measure => simp [intOf]; omega
    have e : k = N.sites.length := by omega
    subst e
    go_wp2
    clear c0
    go_loopw [6] (fun i wr => ∃ k : Nat, k ≤ N.subs.length ∧ i = .int .i64 k ∧ Kept W wr none) (fun i _ => N.subs.length - (intOf i).toNat)
    case atStart => exact ⟨0, Nat.zero_le _, rfl, hkr⟩
    case round =>
      clear hkr
      obtain ⟨k, hk, rfl, hkr⟩ := hrel
      have c1 := (HA.out.kept hkr).c1
      by_cases hlt : k < N.subs.length
      case pos =>
        obtain ⟨sb, so, es, _, _⟩ := HA.out.net.u1.at_ (by omega)
        obtain ⟨tb, to_, et, _, _⟩ := HB.out.net.u1.at_ (by omega)
        rw [es] at c1
        have HES := Hid.mk' es
        have HET := Hid.mk' et
        have HCA : Hid (∀ w9, Kept W w9 none → ∀ t, t < 2 → w9.cell? ⟨sb, so + k * 2 + t, none⟩ = some (sbV (N.subs.getD k u0) (Y.r k).1 (Y.r k).2 t)) := fun w9 q t ht => (by obtain ⟨b', o', e', _, hc⟩ := (HA.out.kept q).net.u1.at_ (by omega); rw [HES.out] at e'; injection e' with e'; injection e' with e1 e2; subst e1 e2; exact hc k hlt t ht)
        have HCB : Hid (∀ w9, Kept W w9 none → ∀ t, t < 2 → w9.cell? ⟨tb, to_ + k * 2 + t, none⟩ = some (sbV (N.subs.getD k u0) (Z.r k).1 (Z.r k).2 t)) := fun w9 q t ht => (by obtain ⟨b', o', e', _, hc⟩ := (HB.out.kept q).net.u1.at_ (by omega); rw [HET.out] at e'; injection e' with e'; injection e' with e1 e2; subst e1 e2; exact hc k hlt t ht)
        have HIA := Hid.mk' (HA.out.net.u2 k hlt)
        have HIB := Hid.mk' (HB.out.net.u2 k hlt)
        have g0 : ∀ w', Kept W w' none → w'.cell? ⟨w.heap.size, 1, none⟩ = some (.slice (some ⟨sb, so, none⟩) N.subs.length Y.uc) := fun w' q => by rw [← HES.out]; exact (HA.out.kept q).c1
        have g1 : ∀ w', Kept W w' none → w'.cell? ⟨w.heap.size + 1, 1, none⟩ = some (.slice (some ⟨tb, to_, none⟩) N.subs.length Z.uc) := fun w' q => by rw [← HET.out]; exact (HB.out.kept q).c1
        clear es et
        generalize N.subs.getD k u0 = U at *
        generalize Y.r k = rk at *
        generalize Z.r k = tk at *
        obtain ⟨ra, rc⟩ := rk
        obtain ⟨ta, tc⟩ := tk
        dsimp only at HIA HIB
        have e0 : ∀ w', Kept W w' none → w'.cell? ⟨sb, so + k * 2, none⟩ = some (.slice ra U.sites.length rc) := fun w' q => HCA.out w' q 0 (by omega)
        have e1 : ∀ w', Kept W w' none → w'.cell? ⟨sb, so + k * 2 + 1, none⟩ = some (.int .i64 U.critical) := fun w' q => HCA.out w' q 1 (by omega)
        have f0 : ∀ w', Kept W w' none → w'.cell? ⟨tb, to_ + k * 2, none⟩ = some (.slice ta U.sites.length tc) := fun w' q => HCB.out w' q 0 (by omega)
        have f1 : ∀ w', Kept W w' none → w'.cell? ⟨tb, to_ + k * 2 + 1, none⟩ = some (.int .i64 U.critical) := fun w' q => HCB.out w' q 1 (by omega)
        go_wp2
        clear c1
        refine Code.wp_mono (Q := RgN ?A13 W) ?cont13 ?reg13
        case reg13 =>
          repeat (rename_i hh; clear hh)
          refine wp_region_held_drew (S := fun w' => Kept W w' none) (by kernel_rfl) (Kept.tr hkr (Kept.drew _ _)) (fun hHeld => ?_)
          refine held_take (i := 0) (v := ?v14) rfl rfl (by kernel_rfl) (by kernel_rfl) (by kernel_rfl) (fun _ _ _ h => h) (Or.inl ⟨by rfl, ?hy14⟩) hHeld ?rest14
          case hy14 => first | (intro w hSw; (try dsimp only at hSw); go_simp; done) | (intro w hSw; (try dsimp only at hSw); go_simp; with_reducible rfl)
          try simp only [List.setIfInBounds_toArray, List.set_cons_zero, List.set_cons_succ]
          refine held_take (i := 1) (v := ?v15) rfl rfl (by kernel_rfl) (by kernel_rfl) (by kernel_rfl) (fun _ _ _ h => h) (Or.inl ⟨by rfl, ?hy15⟩) hHeld ?rest15
          case hy15 => first | (intro w hSw; (try dsimp only at hSw); go_simp; done) | (intro w hSw; (try dsimp only at hSw); go_simp; with_reducible rfl)
          try simp only [List.setIfInBounds_toArray, List.set_cons_zero, List.set_cons_succ]
          refine held_take (i := 2) (v := ?v16) rfl rfl (by kernel_rfl) (by kernel_rfl) (by kernel_rfl) (fun _ _ _ h => h) (Or.inl ⟨by rfl, ?hy16⟩) hHeld ?rest16
          case hy16 => first | (intro w hSw; (try dsimp only at hSw); go_simp; done) | (intro w hSw; (try dsimp only at hSw); go_simp; with_reducible rfl)
          try simp only [List.setIfInBounds_toArray, List.set_cons_zero, List.set_cons_succ]
          refine held_take (i := 3) (v := ?v17) rfl rfl (by kernel_rfl) (by kernel_rfl) (by kernel_rfl) (fun _ _ _ h => h) (Or.inl ⟨by rfl, ?hy17⟩) hHeld ?rest17
          case hy17 => first | (intro w hSw; (try dsimp only at hSw); go_simp; done) | (intro w hSw; (try dsimp only at hSw); go_simp; with_reducible rfl)
          try simp only [List.setIfInBounds_toArray, List.set_cons_zero, List.set_cons_succ]
          refine held_take (i := 4) (v := ?v18) rfl rfl (by kernel_rfl) (by kernel_rfl) (by kernel_rfl) (fun _ _ _ h => h) (Or.inl ⟨by rfl, ?hy18⟩) hHeld ?rest18
          case hy18 => first | (intro w hSw; (try dsimp only at hSw); go_simp; done) | (intro w hSw; (try dsimp only at hSw); go_simp; with_reducible rfl)
          try simp only [List.setIfInBounds_toArray, List.set_cons_zero, List.set_cons_succ]
          refine held_take (i := 5) (v := ?v19) rfl rfl (by kernel_rfl) (by kernel_rfl) (by kernel_rfl) (fun _ _ _ h => h) (Or.inl ⟨by rfl, ?hy19⟩) hHeld ?rest19
          case hy19 => first | (intro w hSw; (try dsimp only at hSw); go_simp; done) | (intro w hSw; (try dsimp only at hSw); go_simp; with_reducible rfl)
          try simp only [List.setIfInBounds_toArray, List.set_cons_zero, List.set_cons_succ]
          refine held_take (i := 6) (v := ?v20) rfl rfl (by kernel_rfl) (by kernel_rfl) (by kernel_rfl) (fun _ _ _ h => h) (Or.inl ⟨by rfl, ?hy20⟩) hHeld ?rest20
          case hy20 => first | (intro w hSw; (try dsimp only at hSw); go_simp; done) | (intro w hSw; (try dsimp only at hSw); go_simp; with_reducible rfl)
          try simp only [List.setIfInBounds_toArray, List.set_cons_zero, List.set_cons_succ]
          refine held_take (i := 7) (v := ?v21) rfl rfl (by kernel_rfl) (by kernel_rfl) (by kernel_rfl) (fun _ _ _ h => h) (Or.inl ⟨by rfl, ?hy21⟩) hHeld ?rest21
          case hy21 => first | (intro w hSw; (try dsimp only at hSw); go_simp; done) | (intro w hSw; (try dsimp only at hSw); go_simp; with_reducible rfl)
          try simp only [List.setIfInBounds_toArray, List.set_cons_zero, List.set_cons_succ]
          refine held_take (i := 8) (v := ?v22) rfl rfl (by kernel_rfl) (by kernel_rfl) (by kernel_rfl) (fun _ _ _ h => h) (Or.inl ⟨by rfl, ?hy22⟩) hHeld ?rest22
          case hy22 => first | (intro w hSw; (try dsimp only at hSw); go_simp; done) | (intro w hSw; (try dsimp only at hSw); go_simp; with_reducible rfl)
          try simp only [List.setIfInBounds_toArray, List.set_cons_zero, List.set_cons_succ]
          refine held_take (i := 9) (v := ?v23) rfl rfl (by kernel_rfl) (by kernel_rfl) (by kernel_rfl) (fun _ _ _ h => h) (Or.inl ⟨by rfl, ?hy23⟩) hHeld ?rest23
          case hy23 => first | (intro w hSw; (try dsimp only at hSw); go_simp; done) | (intro w hSw; (try dsimp only at hSw); go_simp; with_reducible rfl)
          try simp only [List.setIfInBounds_toArray, List.set_cons_zero, List.set_cons_succ]
          refine held_take (i := 10) (v := ?v24) rfl rfl (by kernel_rfl) (by kernel_rfl) (by kernel_rfl) (fun _ _ _ h => h) (Or.inl ⟨by rfl, ?hy24⟩) hHeld ?rest24
          case hy24 => first | (intro w hSw; (try dsimp only at hSw); go_simp; done) | (intro w hSw; (try dsimp only at hSw); go_simp; with_reducible rfl)
          try simp only [List.setIfInBounds_toArray, List.set_cons_zero, List.set_cons_succ]
          refine held_take (i := 11) (v := ?v25) rfl rfl (by kernel_rfl) (by kernel_rfl) (by kernel_rfl) (fun _ _ _ h => h) (Or.inl ⟨by rfl, ?hy25⟩) hHeld ?rest25
          case hy25 => first | (intro w hSw; (try dsimp only at hSw); go_simp; done) | (intro w hSw; (try dsimp only at hSw); go_simp; with_reducible rfl)
          try simp only [List.setIfInBounds_toArray, List.set_cons_zero, List.set_cons_succ]
          refine held_take (i := 12) (v := ?v26) rfl rfl (by kernel_rfl) (by kernel_rfl) (by kernel_rfl) (fun _ _ _ h => h) (Or.inl ⟨by rfl, ?hy26⟩) hHeld ?rest26
          case hy26 => first | (intro w hSw; (try dsimp only at hSw); go_simp; done) | (intro w hSw; (try dsimp only at hSw); go_simp; with_reducible rfl)
          try simp only [List.setIfInBounds_toArray, List.set_cons_zero, List.set_cons_succ]
          refine held_take (i := 13) (v := ?v27) rfl rfl (by kernel_rfl) (by kernel_rfl) (by kernel_rfl) (fun _ _ _ h => h) (Or.inl ⟨by rfl, ?hy27⟩) hHeld ?rest27
          case hy27 => first | (intro w hSw; (try dsimp only at hSw); go_simp; done) | (intro w hSw; (try dsimp only at hSw); go_simp; with_reducible rfl)
          try simp only [List.setIfInBounds_toArray, List.set_cons_zero, List.set_cons_succ]
          refine held_take (i := 14) (v := ?v28) rfl rfl (by kernel_rfl) (by kernel_rfl) (by kernel_rfl) (fun _ _ _ h => h) (Or.inl ⟨by rfl, ?hy28⟩) hHeld ?rest28
          case hy28 => first | (intro w hSw; (try dsimp only at hSw); go_simp; done) | (intro w hSw; (try dsimp only at hSw); go_simp; with_reducible rfl)
          try simp only [List.setIfInBounds_toArray, List.set_cons_zero, List.set_cons_succ]
          refine held_take (i := 15) (v := ?v29) rfl rfl (by kernel_rfl) (by kernel_rfl) (by kernel_rfl) (fun _ _ _ h => h) (Or.inl ⟨by rfl, ?hy29⟩) hHeld ?rest29
          case hy29 => first | (intro w hSw; (try dsimp only at hSw); go_simp; done) | (intro w hSw; (try dsimp only at hSw); go_simp; with_reducible rfl)
          try simp only [List.setIfInBounds_toArray, List.set_cons_zero, List.set_cons_succ]
          refine held_take (i := 16) (v := ?v30) rfl rfl (by kernel_rfl) (by kernel_rfl) (by kernel_rfl) (fun _ _ _ h => h) (Or.inl ⟨by rfl, ?hy30⟩) hHeld ?rest30
          case hy30 => first | (intro w hSw; (try dsimp only at hSw); go_simp; done) | (intro w hSw; (try dsimp only at hSw); go_simp; with_reducible rfl)
          try simp only [List.setIfInBounds_toArray, List.set_cons_zero, List.set_cons_succ]
          refine held_take (i := 17) (v := ?v31) rfl rfl (by kernel_rfl) (by kernel_rfl) (by kernel_rfl) (fun _ _ _ h => h) (Or.inl ⟨by rfl, ?hy31⟩) hHeld ?rest31
          case hy31 => first | (intro w hSw; (try dsimp only at hSw); go_simp; done) | (intro w hSw; (try dsimp only at hSw); go_simp; with_reducible rfl)
          try simp only [List.setIfInBounds_toArray, List.set_cons_zero, List.set_cons_succ]
          refine held_take (i := 18) (v := ?v32) rfl rfl (by kernel_rfl) (by kernel_rfl) (by kernel_rfl) (fun _ _ _ h => h) (Or.inl ⟨by rfl, ?hy32⟩) hHeld ?rest32
          case hy32 => first | (intro w hSw; (try dsimp only at hSw); go_simp; done) | (intro w hSw; (try dsimp only at hSw); go_simp; with_reducible rfl)
          try simp only [List.setIfInBounds_toArray, List.set_cons_zero, List.set_cons_succ]
          refine held_take (i := 19) (v := ?v33) rfl rfl (by kernel_rfl) (by kernel_rfl) (by kernel_rfl) (fun _ _ _ h => h) (Or.inl ⟨by rfl, ?hy33⟩) hHeld ?rest33
          case hy33 => first | (intro w hSw; (try dsimp only at hSw); go_simp; done) | (intro w hSw; (try dsimp only at hSw); go_simp; with_reducible rfl)
          try simp only [List.setIfInBounds_toArray, List.set_cons_zero, List.set_cons_succ]
          refine held_take (i := 20) (v := ?v34) rfl rfl (by kernel_rfl) (by kernel_rfl) (by kernel_rfl) (fun _ _ _ h => h) (Or.inl ⟨by rfl, ?hy34⟩) hHeld ?rest34
          case hy34 => first | (intro w hSw; (try dsimp only at hSw); go_simp; done) | (intro w hSw; (try dsimp only at hSw); go_simp; with_reducible rfl)
          try simp only [List.setIfInBounds_toArray, List.set_cons_zero, List.set_cons_succ]
          refine held_take (i := 21) (v := ?v35) rfl rfl (by kernel_rfl) (by kernel_rfl) (by kernel_rfl) (fun _ _ _ h => h) (Or.inl ⟨by rfl, ?hy35⟩) hHeld ?rest35
          case hy35 => first | (intro w hSw; (try dsimp only at hSw); go_simp; done) | (intro w hSw; (try dsimp only at hSw); go_simp; with_reducible rfl)
          try simp only [List.setIfInBounds_toArray, List.set_cons_zero, List.set_cons_succ]
          refine held_take (i := 22) (v := ?v36) rfl rfl (by kernel_rfl) (by kernel_rfl) (by kernel_rfl) (fun _ _ _ h => h) (Or.inl ⟨by rfl, ?hy36⟩) hHeld ?rest36
          case hy36 => first | (intro w hSw; (try dsimp only at hSw); go_simp; done) | (intro w hSw; (try dsimp only at hSw); go_simp; with_reducible rfl)
          try simp only [List.setIfInBounds_toArray, List.set_cons_zero, List.set_cons_succ]
          refine held_take (i := 23) (v := ?v37) rfl rfl (by kernel_rfl) (by kernel_rfl) (by kernel_rfl) (fun _ _ _ h => h) (Or.inl ⟨by rfl, ?hy37⟩) hHeld ?rest37
          case hy37 => first | (intro w hSw; (try dsimp only at hSw); go_simp; done) | (intro w hSw; (try dsimp only at hSw); go_simp; with_reducible rfl)
          try simp only [List.setIfInBounds_toArray, List.set_cons_zero, List.set_cons_succ]
          refine held_take (i := 24) (v := ?v38) rfl rfl (by kernel_rfl) (by kernel_rfl) (by kernel_rfl) (fun _ _ _ h => h) (Or.inl ⟨by rfl, ?hy38⟩) hHeld ?rest38
          case hy38 => first | (intro w hSw; (try dsimp only at hSw); go_simp; done) | (intro w hSw; (try dsimp only at hSw); go_simp; with_reducible rfl)
          try simp only [List.setIfInBounds_toArray, List.set_cons_zero, List.set_cons_succ]
          refine held_take (i := 25) (v := ?v39) rfl rfl (by kernel_rfl) (by kernel_rfl) (by kernel_rfl) (fun _ _ _ h => h) (Or.inl ⟨by rfl, ?hy39⟩) hHeld ?rest39
          case hy39 => first | (intro w hSw; (try dsimp only at hSw); go_simp; done) | (intro w hSw; (try dsimp only at hSw); go_simp; with_reducible rfl)
          try simp only [List.setIfInBounds_toArray, List.set_cons_zero, List.set_cons_succ]
          refine wpAnyH_ready (rs := [26]) (by kernel_rfl) (by simp) ?_
          refine AllReadyH.cons rfl (fun K hK => ?_) AllReadyH.nil
          go_simp
          go_wp2_with (go_at_call 20; refine (rsame_ints (HIA.out.kept hHeld) (HIB.out.kept hHeld)).mono ?_; rintro e wS ⟨rfl, hkS⟩; have hKS : Kept W wS none := Kept.tr hHeld hkS)
          replace hK := hK.out
          refine hK _ _ hKS (fun hHeld => ?_)
          clear hK K
          refine held_take (i := 27) (v := ?v40) rfl rfl (by kernel_rfl) (by kernel_rfl) (by kernel_rfl) (fun _ _ _ h => h) (Or.inl ⟨by rfl, ?hy40⟩) hHeld ?rest40
          case hy40 => first | (intro w hSw; (try dsimp only at hSw); go_simp; done) | (intro w hSw; (try dsimp only at hSw); go_simp; with_reducible rfl)
          try simp only [List.setIfInBounds_toArray, List.set_cons_zero, List.set_cons_succ]
          refine held_take (i := 28) (v := ?v41) rfl rfl (by kernel_rfl) (by kernel_rfl) (by kernel_rfl) (fun _ _ _ h => h) (Or.inl ⟨by rfl, ?hy41⟩) hHeld ?rest41
          case hy41 => first | (intro w hSw; (try dsimp only at hSw); go_simp; done) | (intro w hSw; (try dsimp only at hSw); go_simp; with_reducible rfl)
          try simp only [List.setIfInBounds_toArray, List.set_cons_zero, List.set_cons_succ]
          refine wpAnyH_done (by kernel_rfl) ?_ _
          refine And.intro ?_ hHeld
          with_reducible rfl
        case cont13 =>
        intro e a' w' hq
        obtain ⟨rfl, rfl, hkq⟩ := hq.out
        go_wp2
        go_roundw
        case rel => exact ⟨k + 1, by omega, by go_num, hkq⟩
        case measure => simp [intOf]; omega
      have e : k = N.subs.length := by omega
      subst e
      go_wp2
      clear c1
      go_loopw [7] (fun i wr => ∃ k : Nat, k ≤ N.weds.length ∧ i = .int .i64 k ∧ Kept W wr none) (fun i _ => N.weds.length - (intOf i).toNat)
      case atStart => exact ⟨0, Nat.zero_le _, rfl, hkr⟩
      case round =>
        clear hkr
        obtain ⟨k, hk, rfl, hkr⟩ := hrel
        have c2 := (HA.out.kept hkr).c2
        by_cases hlt : k < N.weds.length
        case pos =>
          obtain ⟨sb, so, es, _, _⟩ := HA.out.net.d1.at_ (by omega)
          obtain ⟨tb, to_, et, _, _⟩ := HB.out.net.d1.at_ (by omega)
          rw [es] at c2
          have HES := Hid.mk' es
          have HET := Hid.mk' et
          have HCA : Hid (∀ w9, Kept W w9 none → ∀ t, t < 4 → w9.cell? ⟨sb, so + k * 4 + t, none⟩ = some (wdV (N.weds.getD k d0) (Y.t k).1 (Y.t k).2 t)) := fun w9 q t ht => (by obtain ⟨b', o', e', _, hc⟩ := (HA.out.kept q).net.d1.at_ (by omega); rw [HES.out] at e'; injection e' with e'; injection e' with e1 e2; subst e1 e2; exact hc k hlt t ht)
          have HCB : Hid (∀ w9, Kept W w9 none → ∀ t, t < 4 → w9.cell? ⟨tb, to_ + k * 4 + t, none⟩ = some (wdV (N.weds.getD k d0) (Z.t k).1 (Z.t k).2 t)) := fun w9 q t ht => (by obtain ⟨b', o', e', _, hc⟩ := (HB.out.kept q).net.d1.at_ (by omega); rw [HET.out] at e'; injection e' with e'; injection e' with e1 e2; subst e1 e2; exact hc k hlt t ht)
          have HIA := Hid.mk' (HA.out.net.d2 k hlt)
          have HIB := Hid.mk' (HB.out.net.d2 k hlt)
          have g0 : ∀ w', Kept W w' none → w'.cell? ⟨w.heap.size, 2, none⟩ = some (.slice (some ⟨sb, so, none⟩) N.weds.length Y.dc) := fun w' q => by rw [← HES.out]; exact (HA.out.kept q).c2
          have g1 : ∀ w', Kept W w' none → w'.cell? ⟨w.heap.size + 1, 2, none⟩ = some (.slice (some ⟨tb, to_, none⟩) N.weds.length Z.dc) := fun w' q => by rw [← HET.out]; exact (HB.out.kept q).c2
          clear es et
          generalize N.weds.getD k d0 = D at *
          generalize Y.t k = rk at *
          generalize Z.t k = tk at *
          obtain ⟨ra, rc⟩ := rk
          obtain ⟨ta, tc⟩ := tk
          dsimp only at HIA HIB
          have e0 : ∀ w', Kept W w' none → w'.cell? ⟨sb, so + k * 4, none⟩ = some (.int .i64 D.a) := fun w' q => HCA.out w' q 0 (by omega)
          have e1 : ∀ w', Kept W w' none → w'.cell? ⟨sb, so + k * 4 + 1, none⟩ = some (.int .i64 D.b) := fun w' q => HCA.out w' q 1 (by omega)
          have e2 : ∀ w', Kept W w' none → w'.cell? ⟨sb, so + k * 4 + 2, none⟩ = some (.int .i64 D.votes) := fun w' q => HCA.out w' q 2 (by omega)
          have e3 : ∀ w', Kept W w' none → w'.cell? ⟨sb, so + k * 4 + 3, none⟩ = some (.slice ra D.offsets.length rc) := fun w' q => HCA.out w' q 3 (by omega)
          have f0 : ∀ w', Kept W w' none → w'.cell? ⟨tb, to_ + k * 4, none⟩ = some (.int .i64 D.a) := fun w' q => HCB.out w' q 0 (by omega)
          have f1 : ∀ w', Kept W w' none → w'.cell? ⟨tb, to_ + k * 4 + 1, none⟩ = some (.int .i64 D.b) := fun w' q => HCB.out w' q 1 (by omega)
          have f2 : ∀ w', Kept W w' none → w'.cell? ⟨tb, to_ + k * 4 + 2, none⟩ = some (.int .i64 D.votes) := fun w' q => HCB.out w' q 2 (by omega)
          have f3 : ∀ w', Kept W w' none → w'.cell? ⟨tb, to_ + k * 4 + 3, none⟩ = some (.slice ta D.offsets.length tc) := fun w' q => HCB.out w' q 3 (by omega)
          have hWr := hkr.size
          go_wp2
          clear c2
          refine wp_region_held_drew (S := fun w' => Kept W w' none) (by kernel_rfl) (Kept.tr hkr (Kept.drew _ _)) (fun hHeld => ?_)
          refine held_take (i := 0) (v := ?v42) rfl rfl (by kernel_rfl) (by kernel_rfl) (by kernel_rfl) (fun _ _ _ h => h) (Or.inl ⟨by rfl, ?hy42⟩) hHeld ?rest42
          case hy42 => first | (intro w hSw; (try dsimp only at hSw); go_simp; done) | (intro w hSw; (try dsimp only at hSw); go_simp; with_reducible rfl)
          try simp only [List.setIfInBounds_toArray, List.set_cons_zero, List.set_cons_succ]
          refine held_take (i := 1) (v := ?v43) rfl rfl (by kernel_rfl) (by kernel_rfl) (by kernel_rfl) (fun _ _ _ h => h) (Or.inl ⟨by rfl, ?hy43⟩) hHeld ?rest43
          case hy43 => first | (intro w hSw; (try dsimp only at hSw); go_simp; done) | (intro w hSw; (try dsimp only at hSw); go_simp; with_reducible rfl)
          try simp only [List.setIfInBounds_toArray, List.set_cons_zero, List.set_cons_succ]
          refine held_take (i := 2) (v := ?v44) rfl rfl (by kernel_rfl) (by kernel_rfl) (by kernel_rfl) (fun _ _ _ h => h) (Or.inl ⟨by rfl, ?hy44⟩) hHeld ?rest44
          case hy44 => first | (intro w hSw; (try dsimp only at hSw); go_simp; done) | (intro w hSw; (try dsimp only at hSw); go_simp; with_reducible rfl)
          try simp only [List.setIfInBounds_toArray, List.set_cons_zero, List.set_cons_succ]
          refine held_take (i := 3) (v := ?v45) rfl rfl (by kernel_rfl) (by kernel_rfl) (by kernel_rfl) (fun _ _ _ h => h) (Or.inl ⟨by rfl, ?hy45⟩) hHeld ?rest45
          case hy45 => first | (intro w hSw; (try dsimp only at hSw); go_simp; done) | (intro w hSw; (try dsimp only at hSw); go_simp; with_reducible rfl)
          try simp only [List.setIfInBounds_toArray, List.set_cons_zero, List.set_cons_succ]
          refine held_take (i := 4) (v := ?v46) rfl rfl (by kernel_rfl) (by kernel_rfl) (by kernel_rfl) (fun _ _ _ h => h) (Or.inl ⟨by rfl, ?hy46⟩) hHeld ?rest46
          case hy46 => first | (intro w hSw; (try dsimp only at hSw); go_simp; done) | (intro w hSw; (try dsimp only at hSw); go_simp; with_reducible rfl)
          try simp only [List.setIfInBounds_toArray, List.set_cons_zero, List.set_cons_succ]
          refine held_take (i := 5) (v := ?v47) rfl rfl (by kernel_rfl) (by kernel_rfl) (by kernel_rfl) (fun _ _ _ h => h) (Or.inl ⟨by rfl, ?hy47⟩) hHeld ?rest47
          case hy47 => first | (intro w hSw; (try dsimp only at hSw); go_simp; done) | (intro w hSw; (try dsimp only at hSw); go_simp; with_reducible rfl)
          try simp only [List.setIfInBounds_toArray, List.set_cons_zero, List.set_cons_succ]
          refine held_take (i := 6) (v := ?v48) rfl rfl (by kernel_rfl) (by kernel_rfl) (by kernel_rfl) (fun _ _ _ h => h) (Or.inl ⟨by rfl, ?hy48⟩) hHeld ?rest48
          case hy48 => first | (intro w hSw; (try dsimp only at hSw); go_simp; done) | (intro w hSw; (try dsimp only at hSw); go_simp; with_reducible rfl)
          try simp only [List.setIfInBounds_toArray, List.set_cons_zero, List.set_cons_succ]
          refine held_take (i := 7) (v := ?v49) rfl rfl (by kernel_rfl) (by kernel_rfl) (by kernel_rfl) (fun _ _ _ h => h) (Or.inl ⟨by rfl, ?hy49⟩) hHeld ?rest49
          case hy49 => first | (intro w hSw; (try dsimp only at hSw); go_simp; done) | (intro w hSw; (try dsimp only at hSw); go_simp; with_reducible rfl)
          try simp only [List.setIfInBounds_toArray, List.set_cons_zero, List.set_cons_succ]
          refine held_take (i := 8) (v := ?v50) rfl rfl (by kernel_rfl) (by kernel_rfl) (by kernel_rfl) (fun _ _ _ h => h) (Or.inl ⟨by rfl, ?hy50⟩) hHeld ?rest50
          case hy50 => first | (intro w hSw; (try dsimp only at hSw); go_simp; done) | (intro w hSw; (try dsimp only at hSw); go_simp; with_reducible rfl)
          try simp only [List.setIfInBounds_toArray, List.set_cons_zero, List.set_cons_succ]
          refine held_take (i := 9) (v := ?v51) rfl rfl (by kernel_rfl) (by kernel_rfl) (by kernel_rfl) (fun _ _ _ h => h) (Or.inl ⟨by rfl, ?hy51⟩) hHeld ?rest51
          case hy51 => first | (intro w hSw; (try dsimp only at hSw); go_simp; done) | (intro w hSw; (try dsimp only at hSw); go_simp; with_reducible rfl)
          try simp only [List.setIfInBounds_toArray, List.set_cons_zero, List.set_cons_succ]
          refine wpAnyH_ready (rs := [10, 11]) (by kernel_rfl) (by simp) ?_
          refine AllReadyH.cons rfl (fun K hK => ?ga) (AllReadyH.cons rfl (fun K hK => ?gb) AllReadyH.nil)
          case ga =>
            go_simp
            refine hK.out _ _ (by repeat (first | exact hkr | exact hHeld | refine Kept.tr ?_ (Kept.drew _ _) | refine Kept.tr ?_ (Kept.alloc _ _ _ (0, 0) _) | refine kept_newZ ?_ (by simp [World.setCell]; omega) _ _)) (fun hHeld => ?_)
            clear hK K
            refine wpAnyH_ready (rs := [11]) (by kernel_rfl) (by simp) ?_
            refine AllReadyH.cons rfl (fun K hK => ?_) AllReadyH.nil
            go_simp
            refine hK.out _ _ (by repeat (first | exact hkr | exact hHeld | refine Kept.tr ?_ (Kept.drew _ _) | refine Kept.tr ?_ (Kept.alloc _ _ _ (0, 0) _) | refine kept_newZ ?_ (by simp [World.setCell]; omega) _ _)) (fun hHeld => ?_)
            clear hK K
            refine wpAnyH_ready (rs := [12]) (by kernel_rfl) (by simp) ?_
            refine AllReadyH.cons rfl (fun K hK => ?_) AllReadyH.nil
            go_simp
            refine hK.out _ _ (by repeat (first | exact hkr | exact hHeld | refine Kept.tr ?_ (Kept.drew _ _) | refine Kept.tr ?_ (Kept.alloc _ _ _ (0, 0) _) | refine kept_newZ ?_ (by simp [World.setCell]; omega) _ _)) (fun hHeld => ?_)
            clear hK K
            refine wpAnyH_ready (rs := [13]) (by kernel_rfl) (by simp) ?_
            refine AllReadyH.cons rfl (fun K hK => ?_) AllReadyH.nil
            go_simp
            refine hK.out _ _ (by repeat (first | exact hkr | exact hHeld | refine Kept.tr ?_ (Kept.drew _ _) | refine Kept.tr ?_ (Kept.alloc _ _ _ (0, 0) _) | refine kept_newZ ?_ (by simp [World.setCell]; omega) _ _)) (fun hHeld => ?_)
            clear hK K
            refine wpAnyH_done (by kernel_rfl) ?_ _
            have HH := Hid.mk' hHeld
            go_wp2_with (go_at_call 20; refine (rsame_ints (HIA.out.kept HH.out) (HIB.out.kept HH.out)).mono ?_; rintro e wS ⟨rfl, hkS⟩)
            go_roundw
            case rel => exact ⟨k + 1, by omega, by go_num, HH.out.tr hkS⟩
            case measure => simp [intOf]; omega
          case gb =>
            go_simp
            refine hK.out _ _ (by repeat (first | exact hkr | exact hHeld | refine Kept.tr ?_ (Kept.drew _ _) | refine Kept.tr ?_ (Kept.alloc _ _ _ (0, 0) _) | refine kept_newZ ?_ (by simp [World.setCell]; omega) _ _)) (fun hHeld => ?_)
            clear hK K
            refine wpAnyH_ready (rs := [10]) (by kernel_rfl) (by simp) ?_
            refine AllReadyH.cons rfl (fun K hK => ?_) AllReadyH.nil
            go_simp
            refine hK.out _ _ (by repeat (first | exact hkr | exact hHeld | refine Kept.tr ?_ (Kept.drew _ _) | refine Kept.tr ?_ (Kept.alloc _ _ _ (0, 0) _) | refine kept_newZ ?_ (by simp [World.setCell]; omega) _ _)) (fun hHeld => ?_)
            clear hK K
            refine wpAnyH_ready (rs := [12]) (by kernel_rfl) (by simp) ?_
            refine AllReadyH.cons rfl (fun K hK => ?_) AllReadyH.nil
            go_simp
            refine hK.out _ _ (by repeat (first | exact hkr | exact hHeld | refine Kept.tr ?_ (Kept.drew _ _) | refine Kept.tr ?_ (Kept.alloc _ _ _ (0, 0) _) | refine kept_newZ ?_ (by simp [World.setCell]; omega) _ _)) (fun hHeld => ?_)
            clear hK K
            refine wpAnyH_ready (rs := [13]) (by kernel_rfl) (by simp) ?_
            refine AllReadyH.cons rfl (fun K hK => ?_) AllReadyH.nil
            go_simp
            refine hK.out _ _ (by repeat (first | exact hkr | exact hHeld | refine Kept.tr ?_ (Kept.drew _ _) | refine Kept.tr ?_ (Kept.alloc _ _ _ (0, 0) _) | refine kept_newZ ?_ (by simp [World.setCell]; omega) _ _)) (fun hHeld => ?_)
            clear hK K
            refine wpAnyH_done (by kernel_rfl) ?_ _
            have HH := Hid.mk' hHeld
            go_wp2_with (go_at_call 20; refine (rsame_ints (HIA.out.kept HH.out) (HIB.out.kept HH.out)).mono ?_; rintro e wS ⟨rfl, hkS⟩)
            go_roundw
            case rel => exact ⟨k + 1, by omega, by go_num, HH.out.tr hkS⟩
            case measure => simp [intOf]; omega
        have e : k = N.weds.length := by omega
        subst e
        go_wp2
        go_ret
        exact ⟨rfl, HK.out.tr hkr⟩

end Go.Proofs.YtoahbpdgbiachaaDoor

