/-
  Texts joined: some of those that the proofs of this seat stand on.
-/
import Derived.Test.YtmjkhafifemegabWorld
import Derived.Test.YtmjkhafifemegabMaths
import Derived.Test.YtmjkhafifemegabRefReadJ
import Derived.Test.YtmjkhafifemegabSOwnIJ
import Derived.Test.YtmjkhafifemegabSBitsJ
import Derived.Deep.RegionHeld
import Derived.Test.YtmjkhafifemegabSmallJ
import Derived.Test.YtmjkhafifemegabRefNumJ
import Derived.Test.YtmjkhafifemegabSSiteBJ
import Derived.Test.YtmjkhafifemegabSFitsJ
import Derived.Deep.RegionHeldLaw
/-
  Of the text RefO: what this stage needs (culled by a program).
-/
namespace Go.Proofs.Ytmjkhafifemegab
open Go.RowKit Go.Lib Go.Deep
set_option linter.unusedVariables false
set_option linter.unusedSimpArgs false

/-- A struct of three cells. -/
structure Bx3 (w : World) (b : Nat) (v0 v1 v2 : Value) : Prop where
  c0 : w.cell? ⟨b, 0, none⟩ = some v0
  c1 : w.cell? ⟨b, 1, none⟩ = some v1
  c2 : w.cell? ⟨b, 2, none⟩ = some v2
  f0 : w.frozen? ⟨b, 0, none⟩ = false
  f1 : w.frozen? ⟨b, 1, none⟩ = false
  f2 : w.frozen? ⟨b, 2, none⟩ = false
theorem bx3_alloc (w : World) (v0 v1 v2 : Value) (t : TypeId) : Bx3 (w.alloc (.cells #[v0, v1, v2] t)) w.heap.size v0 v1 v2 := by
  have h := heap_alloc_new w (.cells #[v0, v1, v2] t)
  exact ⟨World.cell?_alloc_mark .., World.cell?_alloc_mark .., World.cell?_alloc_mark .., by simp only [World.frozen?, h]; rfl, by simp only [World.frozen?, h]; rfl, by simp only [World.frozen?, h]; rfl⟩
theorem Bx3.kept {w w' : World} {b : Nat} {v0 v1 v2 : Value} {r : Option Nat} (h : Bx3 w b v0 v1 v2) (k : Kept w w' r) (hr : r ≠ some b) : Bx3 w' b v0 v1 v2 := by
  have hb := block_lt h.c0
  have hk := k.block b hb (fun e => hr e.symm)
  exact ⟨(World.cell?_of_block (w := w) (a := ⟨b, 0, none⟩) hk).trans h.c0, (World.cell?_of_block (w := w) (a := ⟨b, 1, none⟩) hk).trans h.c1, (World.cell?_of_block (w := w) (a := ⟨b, 2, none⟩) hk).trans h.c2, (dfrozen_block hk).trans h.f0, (dfrozen_block hk).trans h.f1, (dfrozen_block hk).trans h.f2⟩
theorem Bx3.s1 {w : World} {b : Nat} {v0 v1 v2 : Value} (h : Bx3 w b v0 v1 v2) (u : Value) : Bx3 (w.setCell ⟨b, 1, none⟩ u) b v0 u v2 :=
  ⟨(World.cell?_setCell_other _ _ _ _ (by simp)).trans h.c0, World.cell?_setCell_same' _ _ _ (by rw [h.c1]; rfl), (World.cell?_setCell_other _ _ _ _ (by simp)).trans h.c2, (dfrozen_set _ _ _ _).trans h.f0, (dfrozen_set _ _ _ _).trans h.f1, (dfrozen_set _ _ _ _).trans h.f2⟩
theorem Bx3.s2 {w : World} {b : Nat} {v0 v1 v2 : Value} (h : Bx3 w b v0 v1 v2) (u : Value) : Bx3 (w.setCell ⟨b, 2, none⟩ u) b v0 v1 u :=
  ⟨(World.cell?_setCell_other _ _ _ _ (by simp)).trans h.c0, (World.cell?_setCell_other _ _ _ _ (by simp)).trans h.c1, World.cell?_setCell_same' _ _ _ (by rw [h.c2]; rfl), (dfrozen_set _ _ _ _).trans h.f0, (dfrozen_set _ _ _ _).trans h.f1, (dfrozen_set _ _ _ _).trans h.f2⟩
def DPok (x : List Pl) : Prop := x.length ≤ 8 ∧ ∀ p ∈ x, tickP p.cycle ∧ tickP p.offset ∧ p.splits.length ≤ 8 ∧ ∀ y ∈ p.splits, tickP y
/-- What is known between two plans, of bytes that plans make. -/
def DG (s : Rd) (n i : Nat) (l : List Pl) (s' : Rd) : Prop := ∀ x T, DPok x → s = (smlI (plansI x) ++ T, false) → n = x.length ∧ l = x.take i ∧ s' = ((x.drop i).flatMap (fun p => smlI (plI p)) ++ T, false)
/-- And within one. -/
def DG2 (s : Rd) (i cv ov mv k : Nat) (sp : List Int) (s' : Rd) : Prop := ∀ x T, DPok x → s = (smlI (plansI x) ++ T, false) → i < x.length ∧ (cv : Int) = (x.getD i q0).cycle ∧ (ov : Int) = (x.getD i q0).offset ∧ mv = (x.getD i q0).splits.length ∧ sp = (x.getD i q0).splits.take k ∧ s' = (smlI ((x.getD i q0).splits.drop k) ++ ((x.drop (i + 1)).flatMap (fun p => smlI (plI p)) ++ T), false)
theorem getD_memP {x : List Pl} {i : Nat} (h : i < x.length) : x.getD i q0 ∈ x := by
  have : x.getD i q0 = x[i] := by simp [h]
  rw [this]; exact List.getElem_mem h
theorem drop_consP {x : List Pl} {i : Nat} (h : i < x.length) : x.drop i = x.getD i q0 :: x.drop (i + 1) := by
  rw [List.drop_eq_getElem_cons h]
  simp [h]
theorem DG.start {s s1 : Rd} {n : Nat} (he : dnM 8 s = (n, s1)) : DG s n 0 [] s1 := by
  intro x T hx hs
  have e : smlI (plansI x) ++ T = sml x.length ++ (x.flatMap (fun p => smlI (plI p)) ++ T) := by
    unfold plansI
    simp [smlI, List.flatMap_assoc]
  rw [hs, e, dn_fwd (by omega) hx.1] at he
  injection he with h1 h2
  exact ⟨h1.symm, rfl, by rw [← h2]; simp⟩
theorem DG.step {s s' s1 s2 s3 : Rd} {n i cv ov mv : Nat} {l : List Pl} (h : DG s n i l s') (hi : i < n) (e1 : dnM 1048576 s' = (cv, s1)) (e2 : dnM 1048576 s1 = (ov, s2)) (e3 : dnM 8 s2 = (mv, s3)) : DG2 s i cv ov mv 0 [] s3 := by
  intro x T hx hs
  obtain ⟨h1, h2, h3⟩ := h x T hx hs
  have hix : i < x.length := by omega
  obtain ⟨p1, p2, p3, p4⟩ := hx.2 _ (getD_memP hix)
  unfold tickP at p1 p2
  have e : (x.drop i).flatMap (fun p => smlI (plI p)) ++ T = sml (x.getD i q0).cycle.toNat ++ (sml (x.getD i q0).offset.toNat ++ (sml (x.getD i q0).splits.length ++ (smlI (x.getD i q0).splits ++ ((x.drop (i + 1)).flatMap (fun p => smlI (plI p)) ++ T)))) := by
    rw [drop_consP hix, List.flatMap_cons]
    unfold plI
    simp [smlI]
  rw [e] at h3
  rw [h3, dn_fwd (by omega) (by omega)] at e1
  injection e1 with a1 a2
  rw [← a2, dn_fwd (by omega) (by omega)] at e2
  injection e2 with b1 b2
  rw [← b2, dn_fwd (by omega) (by omega)] at e3
  injection e3 with c1 c2
  refine ⟨hix, by omega, by omega, c1.symm, rfl, ?_⟩
  rw [← c2]
  simp
theorem DG2.step {s s4 s5 : Rd} {i cv ov mv k y : Nat} {sp : List Int} (h : DG2 s i cv ov mv k sp s4) (hk : k < mv) (e : dnM 1048576 s4 = (y, s5)) : DG2 s i cv ov mv (k + 1) (sp ++ [(y : Int)]) s5 := by
  intro x T hx hs
  obtain ⟨h1, h2, h3, h4, h5, h6⟩ := h x T hx hs
  obtain ⟨p1, p2, p3, p4⟩ := hx.2 _ (getD_memP h1)
  generalize (x.getD i q0) = p at *
  have hkp : k < p.splits.length := by omega
  have hmem : p.splits[k] ∈ p.splits := List.getElem_mem hkp
  have ht := p4 _ hmem
  unfold tickP at ht
  have ed : p.splits.drop k = p.splits[k] :: p.splits.drop (k + 1) := List.drop_eq_getElem_cons hkp
  rw [h6, ed] at e
  have e' : smlI (p.splits[k] :: p.splits.drop (k + 1)) = sml (p.splits[k]).toNat ++ smlI (p.splits.drop (k + 1)) := by unfold smlI; rw [List.flatMap_cons]
  rw [e', List.append_assoc, dn_fwd (by omega) (by omega)] at e
  injection e with a1 a2
  refine ⟨h1, h2, h3, h4, ?_, a2.symm⟩
  rw [List.take_succ_eq_append_getElem hkp, ← h5, ← a1]
  have hy : ((p.splits[k].toNat : Nat) : Int) = p.splits[k] := by omega
  rw [hy]
theorem DG2.out {s s4 : Rd} {n i cv ov mv k : Nat} {l : List Pl} {s' : Rd} {sp : List Int} (h : DG2 s i cv ov mv k sp s4) (h0 : DG s n i l s') (hk : k = mv ∨ s4.2 = true) : DG s n (i + 1) (l ++ [⟨(cv : Int), (ov : Int), sp⟩]) s4 := by
  intro x T hx hs
  obtain ⟨h1, h2, h3, h4, h5, h6⟩ := h x T hx hs
  obtain ⟨g1, g2, g3⟩ := h0 x T hx hs
  have hkm : k = mv := by
    rcases hk with q | q
    · exact q
    · rw [h6] at q; cases q
  refine ⟨g1, ?_, ?_⟩
  · have e : x.take (i + 1) = x.take i ++ [x.getD i q0] := by
      rw [List.take_succ_eq_append_getElem h1]
      simp [h1]
    rw [e, ← g2, h2, h3, h5, hkm, h4, List.take_length]
  · rw [h6, hkm, h4, List.drop_length]
    simp [smlI]
theorem DG.out {s s' : Rd} {n i : Nat} {l : List Pl} (h : DG s n i l s') (hi : i = n ∨ s'.2 = true) : ∀ x T, DPok x → s = (smlI (plansI x) ++ T, false) → l = x ∧ s' = (T, false) := by
  intro x T hx hs
  obtain ⟨h1, h2, h3⟩ := h x T hx hs
  have hin : i = x.length := by
    rcases hi with q | q
    · omega
    · rw [h3] at q; cases q
  refine ⟨by rw [h2, hin, List.take_length], ?_⟩
  rw [h3, hin, List.drop_length]
  simp

end Go.Proofs.Ytmjkhafifemegab

/-
  Of the text RefO2: what this stage needs (culled by a program).
-/
namespace Go.Proofs.Ytmjkhafifemegab
open Go.RowKit Go.Lib Go.Deep
set_option linter.unusedVariables false
set_option linter.unusedSimpArgs false

/-- What the document's reader of plans answers. -/
structure PlsP (w : World) (H b : Nat) (s : Rd) (v : Value) (w' : World) (l : List Pl) (s' : Rd) : Prop where
  pl : PlS w' w.heap.size v l
  rd : Drd w' H b s'
  kept : Kept w w' (some b)
  many : l.length ≤ 8
  typ : ∀ p ∈ l, tickP p.cycle ∧ tickP p.offset
  fwd : ∀ x T, DPok x → s = (smlI (plansI x) ++ T, false) → l = x ∧ s' = (T, false)
def PlsR (w : World) (H b : Nat) (s : Rd) (e : Ending) (w' : World) : Prop := ∃ v l s', e = .returned v ∧ PlsP w H b s v w' l s'
end Go.Proofs.Ytmjkhafifemegab

/-
  Of the text RefW: what this stage needs (culled by a program).
-/
namespace Go.Proofs.Ytmjkhafifemegab
open Go.RowKit Go.Lib Go.Deep
set_option linter.unusedVariables false
set_option linter.unusedSimpArgs false

theorem By.some_of {w : World} {a : Option Addr} {n : Nat} {L : List Nat} (h : By w a n L) (hp : 0 < L.length) : ∃ x, a = some x ∧ n = L.length := by
  have hs := h.size
  obtain ⟨b, off, e, _⟩ := h.at_ (by omega)
  exact ⟨_, e, by omega⟩

end Go.Proofs.Ytmjkhafifemegab

/-
  Of the text RefG: what this stage needs (culled by a program).
-/
namespace Go.Proofs.Ytmjkhafifemegab
open Go.RowKit Go.Lib Go.Deep
set_option linter.unusedVariables false
set_option linter.unusedSimpArgs false

/-- No list of it is long. -/
structure Few (S : St) : Prop where
  g : S.groups.length ≤ 40
  a : S.apart.length ≤ 40
  b : S.between.length ≤ 40
  p : S.phases.length ≤ 40
  e : S.eyes.length ≤ 60
  l : S.plans.length ≤ 40
  br : ∀ i, i < S.between.length → (S.between.getD i []).length ≤ 40
  lr : ∀ i, i < S.plans.length → (S.plans.getD i q0).splits.length ≤ 40
def GreatP (S : St) (w : World) (e : Ending) (w' : World) : Prop := ∃ g, e = .returned (.bool g) ∧ (g = false → Few S) ∧ Kept w w' none
theorem GreatP.of {S : St} {w w' : World} (g : Bool) (h : g = false → Few S) (k : Kept w w' none) : GreatP S w (.returned (.bool g)) w' := ⟨g, rfl, h, k⟩
set_option maxRecDepth 100000 in
set_option maxHeartbeats 2000000 in
theorem rgreat_any {X : Sa} {S : St} {w : World} (h : Sat w X S) : Calls Try.prog 27 #[siteV X S] w fun e w' => GreatP S w e w' := by
  have hkA : Kept w (w.alloc (.cells #[.int .i64 S.id, .slice X.g S.groups.length X.gc, .slice X.a S.apart.length X.ac, .slice X.b S.between.length X.bc, .slice X.p S.phases.length X.pc, .slice X.e S.eyes.length X.ec, .int .i64 S.watch, .int .i64 S.feed, .int .i64 S.heal, .int .i64 S.low, .int .i64 S.high, .slice X.l S.plans.length X.lc] 72)) none := Kept.alloc _ _ _ _ _
  have HSB := Hid.mk' (sbox_alloc h 72)
  have HK := Hid.mk' hkA
  have hg9 : S.groups.length ≤ 9223372036854775807 := by have := h.gk.room; have := h.gk.max; omega
  have ha9 : S.apart.length ≤ 9223372036854775807 := by have := h.ak.room; have := h.ak.max; omega
  have hb9 : S.between.length ≤ 9223372036854775807 := by have := h.b.cap.room; have := h.b.cap.max; omega
  have hp9 : S.phases.length ≤ 9223372036854775807 := by have := h.pk.room; have := h.pk.max; omega
  have he9 : S.eyes.length ≤ 9223372036854775807 := by have := h.ek.room; have := h.ek.max; omega
  have hl9 : S.plans.length ≤ 9223372036854775807 := by have := h.l.cap.room; have := h.l.cap.max; omega
  clear h hkA
  go_enter Try.func27, Try.ntmps27
  by_cases h1 : 40 < S.groups.length
  case pos => go_wp2; go_ret; exact GreatP.of true (fun e => (nomatch e)) HK.out
  by_cases h2 : 40 < S.apart.length
  case pos => go_wp2; go_ret; exact GreatP.of true (fun e => (nomatch e)) HK.out
  by_cases h3 : 40 < S.between.length
  case pos => go_wp2; go_ret; exact GreatP.of true (fun e => (nomatch e)) HK.out
  by_cases h4 : 40 < S.phases.length
  case pos => go_wp2; go_ret; exact GreatP.of true (fun e => (nomatch e)) HK.out
  by_cases h5 : 60 < S.eyes.length
  case pos => go_wp2; go_ret; exact GreatP.of true (fun e => (nomatch e)) HK.out
  by_cases h6 : 40 < S.plans.length
  case pos => go_wp2; go_ret; exact GreatP.of true (fun e => (nomatch e)) HK.out
  go_wp2
  generalize hW : (w.alloc (.cells #[.int .i64 S.id, .slice X.g S.groups.length X.gc, .slice X.a S.apart.length X.ac, .slice X.b S.between.length X.bc, .slice X.p S.phases.length X.pc, .slice X.e S.eyes.length X.ec, .int .i64 S.watch, .int .i64 S.feed, .int .i64 S.heal, .int .i64 S.low, .int .i64 S.high, .slice X.l S.plans.length X.lc] 72)) = W at *
  clear hW
  go_loopw [3] (fun i wr => ∃ k : Nat, k ≤ S.between.length ∧ i = .int .i64 k ∧ Hid (∀ j, j < k → (S.between.getD j []).length ≤ 40) ∧ wr = W) (fun i _ => S.between.length - (intOf i).toNat)
  case atStart => exact ⟨0, Nat.zero_le _, rfl, (fun j hj => by omega), rfl⟩
  case round =>
    obtain ⟨k, hk, rfl, HJ, rfl⟩ := hrel
    by_cases hlt : k < S.between.length
    · have c3 := HSB.out.c3
      obtain ⟨ba, oa, ar, cr, ea, kb, hI⟩ := HSB.out.sat.b.at_ hlt
      have hI1 := hI.cap.room
      have hI2 := hI.cap.max
      clear hI
      rw [ea] at c3
      generalize hm : (S.between.getD k []).length = m at *
      have HM := Hid.mk' hm
      clear hm
      by_cases hx : 40 < m
      case pos => go_wp2; go_ret; exact GreatP.of true (fun e => (nomatch e)) HK.out
      go_wp2
      go_roundw
      case rel => exact ⟨k + 1, by omega, by go_num, (fun j hj => (by
        by_cases e : j = k
        · subst e; rw [HM.out]; omega
        · exact HJ.out j (by omega))), trivial⟩
      case measure => simp [intOf]; omega
    · have e : k = S.between.length := by omega
      subst e
      have c3 := HSB.out.c3
      go_wp2
      go_loopw [4] (fun i wx => ∃ k : Nat, k ≤ S.plans.length ∧ i = .int .i64 k ∧ Hid (∀ j, j < k → (S.plans.getD j q0).splits.length ≤ 40) ∧ wx = wr) (fun i _ => S.plans.length - (intOf i).toNat)
      case atStart => exact ⟨0, Nat.zero_le _, rfl, (fun j hj => by omega), rfl⟩
      case round =>
        obtain ⟨k, hk, rfl, HL, rfl⟩ := hrel
        clear c3
        have c11 := HSB.out.c11
        by_cases hlt : k < S.plans.length
        · obtain ⟨pb, off, a', c', ea, p0, p1, p2, hI⟩ := HSB.out.sat.l.at_ hlt
          have hI1 := hI.cap.room
          have hI2 := hI.cap.max
          clear hI p0 p1
          rw [ea] at c11
          generalize hm : (S.plans.getD k q0).splits.length = m at *
          have HM := Hid.mk' hm
          clear hm
          by_cases hx : 40 < m
          case pos => go_wp2; go_ret; exact GreatP.of true (fun e => (nomatch e)) HK.out
          go_wp2
          go_roundw
          case rel => exact ⟨k + 1, by omega, by go_num, (fun j hj => (by
            by_cases e : j = k
            · subst e; rw [HM.out]; omega
            · exact HL.out j (by omega))), trivial⟩
          case measure => simp [intOf]; omega
        · have e : k = S.plans.length := by omega
          subst e
          go_wp2
          go_ret
          exact GreatP.of false (fun _ => ⟨by omega, by omega, by omega, by omega, by omega, by omega, HJ.out, HL.out⟩) HK.out

end Go.Proofs.Ytmjkhafifemegab

/-
  Of the text RefW2: what this stage needs (culled by a program).
-/
namespace Go.Proofs.Ytmjkhafifemegab
open Go.RowKit Go.Lib Go.Deep
set_option linter.unusedVariables false
set_option linter.unusedSimpArgs false

/-- A list of bytes beside a box. -/
structure Rowb (w wr : World) (B : Nat) (a : Option Addr) (n c : Nat) (L : List Nat) : Prop where
  mine : Mine wr w.heap.size a n c L
  kept : Kept w wr none
  far : some B ≠ (Value.slice a n c).ownBlock
  lt : B < wr.heap.size
theorem Rowb.step {w wr w4 w3 : World} {B : Nat} {a a3 : Option Addr} {n c n3 c3 : Nat} {L M : List Nat} (h : Rowb w wr B a n c L) (k : Kept wr w4 none) (hm : Mine w3 w.heap.size a3 n3 c3 M) (hg : w4.grownBy w3 (Value.slice a n c).ownBlock) (ht : (Value.slice a3 n3 c3).ownBlock = (Value.slice a n c).ownBlock ∨ (Value.slice a3 n3 c3).ownBlock = some w4.heap.size) : Rowb w w3 B a3 n3 c3 M ∧ ∀ j v, wr.cell? ⟨B, j, none⟩ = some v → w3.cell? ⟨B, j, none⟩ = some v := by
  have hs := k.size
  have hl := h.lt
  refine ⟨⟨hm, (h.kept.tr k).newRow hg (fun i e => (h.mine.lt i e).1), ?_, Nat.lt_of_lt_of_le (Nat.lt_of_lt_of_le h.lt k.size) hg.size⟩, fun j v hv => cell_keptR (cell_kept0 hv k) hg h.far⟩
  rcases ht with e | e
  · rw [e]; exact h.far
  · rw [e]
    intro e2
    injection e2 with e2
    omega

end Go.Proofs.Ytmjkhafifemegab

