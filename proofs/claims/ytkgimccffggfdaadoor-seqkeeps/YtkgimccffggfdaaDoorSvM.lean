/-
  WHAT THE TICKS GO BY: a place and a standing in boxes that are written over (made by a program).
-/
import Derived.Test.YtkgimccffggfdaaDoorSeqS
namespace Go.Proofs.YtkgimccffggfdaaDoor
open Go.RowKit Go.Lib Go.Deep
set_option linter.unusedVariables false
set_option linter.unusedSimpArgs false


structure Sv (w wr : World) (X : Sa) (S : St) (bs bq bn : Nat) (Q : Sq) (G : Sf) : Prop where
  kp : Kept w wr none
  sb : Sbox wr bs X S
  q : Bx2 wr bq (.int .i64 (Q.ph : Int)) (.int .i64 Q.since)
  bx : ∃ ag cg, Box wr bn (.slice ag S.groups.length cg) (.int .i64 G.start) (.bool G.flashed) ∧ SafeAt wr ag cg G ∧ ∀ b, ag = some b → b.block ≠ bn ∧ b.block ≠ bq
structure Sd (w : World) (bs bq bn : Nat) : Prop where
  sq : bs ≠ bq
  sn : bs ≠ bn
  qn : bq ≠ bn
  q : w.heap.size ≤ bq
  n : w.heap.size ≤ bn
/-- Behind the place's store. -/
theorem Sv.half {w wr w7 : World} {X : Sa} {S : St} {bs bq bn : Nat} {Q Q' : Sq} {G : Sf} (h : Sv w wr X S bs bq bn Q G) (d : Sd w bs bq bn) (h0 : Sat w X S) (k : Kept wr w7 none) : Sbox ((w7.setCell ⟨bq, 0, none⟩ (.int .i64 (Q'.ph : Int))).setCell ⟨bq, 1, none⟩ (.int .i64 Q'.since)) bs X S := by
  have kn : Kept wr ((w7.setCell ⟨bq, 0, none⟩ (.int .i64 (Q'.ph : Int))).setCell ⟨bq, 1, none⟩ (.int .i64 Q'.since)) (some bq) := ((k.weakS (some bq)).setRow _ _).setRow _ _
  have kw := ((h.kp.tr k).setNew (p := ⟨bq, 0, none⟩) d.q (.int .i64 (Q'.ph : Int))).setNew (p := ⟨bq, 1, none⟩) d.q (.int .i64 Q'.since)
  exact Sbox.oth h0 h.sb kw kn d.sq
theorem Sv.step {w wr w7 : World} {X : Sa} {S : St} {bs bq bn b2 : Nat} {Q Q' : Sq} {G G' : Sf} (h : Sv w wr X S bs bq bn Q G) (d : Sd w bs bq bn) (h0 : Sat w X S) (k : Kept wr w7 none) (hs2 : SafeAt w7 (some ⟨b2, 0, none⟩) S.groups.length G') (hb2 : wr.heap.size ≤ b2) : Sv w (((((w7.setCell ⟨bq, 0, none⟩ (.int .i64 (Q'.ph : Int))).setCell ⟨bq, 1, none⟩ (.int .i64 Q'.since)).setCell ⟨bn, 0, none⟩ (.slice (some ⟨b2, 0, none⟩) S.groups.length S.groups.length)).setCell ⟨bn, 1, none⟩ (.int .i64 G'.start)).setCell ⟨bn, 2, none⟩ (.bool G'.flashed)) X S bs bq bn Q' G' := by
  obtain ⟨ag, cg, hb, hs, hne⟩ := h.bx
  have h1 := h.half (Q' := Q') d h0 k
  have hlq := h.q.lt
  have hln := hb.lt
  have x2 : b2 ≠ bq := by omega
  have x3 : b2 ≠ bn := by omega
  have sfin := hs2.setQ x2 x3 (.int .i64 (Q'.ph : Int)) (.int .i64 Q'.since) (.slice (some ⟨b2, 0, none⟩) S.groups.length S.groups.length) (.int .i64 G'.start) (.bool G'.flashed)
  have kw := (h.kp.tr k).setQ d.q d.n (.int .i64 (Q'.ph : Int)) (.int .i64 Q'.since) (.slice (some ⟨b2, 0, none⟩) S.groups.length S.groups.length) (.int .i64 G'.start) (.bool G'.flashed)
  have hq1 := (h.q.kept k).set (.int .i64 (Q'.ph : Int)) (.int .i64 Q'.since)
  have k1 : Kept w7 ((w7.setCell ⟨bq, 0, none⟩ (.int .i64 (Q'.ph : Int))).setCell ⟨bq, 1, none⟩ (.int .i64 Q'.since)) (some bq) := ((Kept.refl w7 (some bq)).setRow _ _).setRow _ _
  have hn1 := (hb.kept k).keptY k1 (fun e => d.qn (Option.some.inj e).symm)
  generalize ((w7.setCell ⟨bq, 0, none⟩ (.int .i64 (Q'.ph : Int))).setCell ⟨bq, 1, none⟩ (.int .i64 Q'.since)) = w1 at *
  have k2 : Kept w1 (((w1.setCell ⟨bn, 0, none⟩ (.slice (some ⟨b2, 0, none⟩) S.groups.length S.groups.length)).setCell ⟨bn, 1, none⟩ (.int .i64 G'.start)).setCell ⟨bn, 2, none⟩ (.bool G'.flashed)) (some bn) := (((Kept.refl w1 (some bn)).setRow _ _).setRow _ _).setRow _ _
  exact ⟨kw, Sbox.oth h0 h1 kw k2 d.sn, hq1.keptR k2 (fun e => d.qn (Option.some.inj e)), ⟨some ⟨b2, 0, none⟩, S.groups.length, hn1.set3t _ _ _, sfin, fun b e => by injection e with e; subst e; exact ⟨x3, x2⟩⟩⟩
theorem Sv.kept {w wr w' : World} {X : Sa} {S : St} {bs bq bn : Nat} {Q : Sq} {G : Sf} (h : Sv w wr X S bs bq bn Q G) (k : Kept wr w' none) : Sv w w' X S bs bq bn Q G := by
  obtain ⟨ag, cg, hb, hs, hne⟩ := h.bx
  exact ⟨h.kp.tr k, h.sb.kept k, h.q.kept k, ⟨ag, cg, hb.kept k, hs.kept k, hne⟩⟩
theorem listed_eq {P : Program} {ops : Array Oper} {Q : Exit → Act → World → Prop} {md : Region.Mode} {S : World → Prop} {fuel : Nat} {l l' : Array Bool} {a : Act} {w : World} (h : l = l') (H : wpAnyH P md ops Q S fuel l' a w) : wpAnyH P md ops Q S fuel l a w := h ▸ H
/-- A drawn region's one way, a block left open. -/
def Rb (A : Nat → Act) (P : World → Prop) (e : Exit) (a : Act) (w : World) : Prop := match e with
  | .normal => ∃ u, a = A u ∧ P w
  | _ => False
theorem Rb.out {A : Nat → Act} {P : World → Prop} {w : World} {e : Exit} {a : Act} (h : Rb A P e a w) : e = .normal ∧ ∃ u, a = A u ∧ P w := by
  cases e with
  | normal => exact ⟨rfl, h⟩
  | _ => exact h.elim

end Go.Proofs.YtkgimccffggfdaaDoor
