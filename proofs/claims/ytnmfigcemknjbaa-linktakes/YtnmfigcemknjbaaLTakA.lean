/-
  OWN MESSAGES WHOSE BODIES ARE WRITTEN OVER.
-/
import Derived.Test.YtnmfigcemknjbaaLnkG
namespace Go.Proofs.Ytnmfigcemknjbaa
open Go.RowKit Go.Lib Go.Deep
set_option linter.unusedVariables false
set_option linter.unusedSimpArgs false

/-- n bytes, some ones, in a row of bytes of at least 'lo'. -/
structure OvT (w : World) (lo : Nat) (a : Option Addr) (n : Nat) : Prop where
  at_ : 0 < n → ∃ g cap f, a = some ⟨g, 0, none⟩ ∧ lo ≤ g ∧ n ≤ cap ∧ w.rowIs g 5 cap f ∧ ∀ i, i < n → ∃ x : Nat, x < 256 ∧ f i = .int .u8 (x : Int)
theorem OvT.kept {w w' : World} {lo n : Nat} {a : Option Addr} {r : Option Nat} (h : OvT w lo a n) (k : Kept w w' r) (hr : NoB w 5 r) : OvT w' lo a n := by
  refine ⟨fun hp => ?_⟩
  obtain ⟨g, cap, f, e, hl, hc, hr2, hf⟩ := h.at_ hp
  exact ⟨g, cap, f, e, hl, hc, row_keptT hr2 k hr, hf⟩
theorem OvT.set {w : World} {lo n : Nat} {a : Option Addr} (h : OvT w lo a n) (b j : Nat) {v : Value} (hv : ∃ y : Nat, y < 256 ∧ v = .int .u8 (y : Int)) : OvT (w.setCell ⟨b, j, none⟩ v) lo a n := by
  refine ⟨fun hp => ?_⟩
  obtain ⟨g, cap, f, e, hl, hc, hr, hf⟩ := h.at_ hp
  by_cases hg : b = g
  · subst hg
    refine ⟨b, cap, _, e, hl, hc, hr.set j v, fun i hi => ?_⟩
    by_cases hj : i = j
    · rw [if_pos hj]; exact hv
    · rw [if_neg hj]; exact hf i hi
  · exact ⟨g, cap, f, e, hl, hc, hr.setOther (by show g ≠ b; exact fun q => hg q.symm) v, hf⟩
theorem ovT_of {w : World} {base n c : Nat} {a : Option Addr} {L : List Nat} (h : Mine w base a n c L) (hL : ∀ x ∈ L, x < 256) : OvT w base a n := by
  refine ⟨fun hp => ?_⟩
  have hl : L.length = n := by have := h.own.1; simpa using this
  rcases id h.own.2 with ⟨e, e2⟩ | ⟨g, cap', cur, e, hb, hh, hle, hmx, hsz, htk⟩
  · exact absurd e2 (by omega)
  · injection e with e1 e2 e3
    subst e1 e3
    refine ⟨g, c, fun j => cur[j]?.getD undef, rfl, hb, hle, ⟨cur, hh, by omega, fun i hi => by simp [show i < cur.size by omega]⟩, fun i hi => ⟨L.getD i 0, ?_, ?_⟩⟩
    · have : L.getD i 0 = L[i]'(by omega) := by simp [show i < L.length by omega]
      rw [this]; exact hL _ (List.getElem_mem _)
    · have e4 : (L.map byteV)[i]? = cur.toList[i]? := by rw [← htk, List.getElem?_take, if_pos (by omega)]
      have e5 : cur[i]? = some (byteV (L.getD i 0)) := by
        rw [← Array.getElem?_toList, ← e4]
        simp [show i < L.length by omega]
      show cur[i]?.getD undef = _
      rw [e5]; rfl
/-- Messages that are taken, their bodies some bytes. -/
structure Wov (w2 wr : World) (T : List Msg) (v : Value) : Prop where
  ex : ∃ xs, wr.ownsRow w2.heap.size 47 3 v T.length xs ∧ ∀ i m, T[i]? = some m → ∃ a c, xs[i * 3 + 2]? = some (.slice a m.2.2.length c) ∧ OvT wr w2.heap.size a m.2.2.length
  kept : Kept w2 wr none
theorem wov_of {w2 wr : World} {T : List Msg} {v : Value} (h : Mw w2 wr T v) (hok : ∀ m ∈ T, Mok m) : Wov w2 wr T v := by
  obtain ⟨⟨xs, o, n⟩, q⟩ := h
  refine ⟨⟨xs, o, fun i m hm => ?_⟩, q⟩
  obtain ⟨a, c, _, _, h3, h4⟩ := n.at_ i m hm
  exact ⟨a, c, h3, ovT_of h4 (hok m (List.mem_of_getElem? hm)).body⟩
theorem Wov.keptN {w2 wr w' : World} {T : List Msg} {v : Value} (h : Wov w2 wr T v) (k : Kept wr w' none) : Wov w2 w' T v := by
  obtain ⟨⟨xs, o, n⟩, q⟩ := h
  refine ⟨⟨xs, own_keptT o k (NoB.none _ _), fun i m hm => ?_⟩, q.tr k⟩
  obtain ⟨a, c, h3, h4⟩ := n i m hm
  exact ⟨a, c, h3, h4.kept k (NoB.none _ _)⟩
theorem Wov.set {w2 wr : World} {T : List Msg} {v : Value} (h : Wov w2 wr T v) {b cap : Nat} {f : Nat → Value} (hb : wr.rowIs b 5 cap f) (hl : w2.heap.size ≤ b) (j : Nat) {u : Value} (hu : ∃ y : Nat, y < 256 ∧ u = .int .u8 (y : Int)) : Wov w2 (wr.setCell ⟨b, j, none⟩ u) T v := by
  obtain ⟨⟨xs, o, n⟩, q⟩ := h
  have k : Kept wr (wr.setCell ⟨b, j, none⟩ u) (some b) := kept_setZ _ _ _ _
  refine ⟨⟨xs, own_keptT o k (NoB.row hb (by decide)), fun i m hm => ?_⟩, kept_rowL q k (fun g e => by injection e with e; omega)⟩
  obtain ⟨a, c, h3, h4⟩ := n i m hm
  exact ⟨a, c, h3, h4.set b j hu⟩
theorem Wov.at_ {w2 wr : World} {T : List Msg} {a3 : Option Addr} {n3 c3 : Nat} (h : Wov w2 wr T (.slice a3 n3 c3)) {k : Nat} {m : Msg} (hm : T[k]? = some m) : ∃ g a c, a3 = some ⟨g, 0, none⟩ ∧ w2.heap.size ≤ g ∧ (∃ cur, wr.heap[g]? = some (.cells cur 47 (0, 0))) ∧ wr.cell? ⟨g, 0 + k * 3 + 2, none⟩ = some (.slice a m.2.2.length c) ∧ OvT wr w2.heap.size a m.2.2.length := by
  obtain ⟨⟨xs, o, n⟩, q⟩ := h
  have hk := (List.getElem?_eq_some_iff.1 hm).1
  obtain ⟨a, c, h3, h4⟩ := n k m hm
  rcases id o.2 with ⟨e, e0⟩ | ⟨b, cap, cur', e, hb, hh, h1, h2, h5, h6⟩
  · omega
  · injection e with e1 e2 e3
    subst e1 e2 e3
    refine ⟨b, a, c, rfl, hb, ⟨cur', hh⟩, ?_, h4⟩
    have := o.cells (g := b) rfl _ _ h3
    rw [Addr.add_lit] at this
    rw [show 0 + k * 3 + 2 = 0 + (k * 3 + 2) by omega]
    exact this
theorem wrap8L (z : Int) : ∃ y : Nat, y < 256 ∧ Value.int .u8 (IntKind.u8.wrap z) = .int .u8 (y : Int) := by
  refine ⟨(z % 256).toNat, by omega, ?_⟩
  congr 1
  simp [IntKind.wrap, IntKind.bits, IntKind.signed]
  omega
/-- What a region leaves. -/
def RsL (A : Act) (P : World → Prop) (e : Exit) (a : Act) (w : World) : Prop := match e with
  | .normal => a = A ∧ P w
  | _ => False
theorem RsL.out {A : Act} {P : World → Prop} {e : Exit} {a : Act} {w : World} (h : RsL A P e a w) : e = .normal ∧ a = A ∧ P w := by
  cases e with
  | normal => exact ⟨rfl, h.1, h.2⟩
  | _ => exact h.elim
theorem RsL.mk {A : Act} {P : World → Prop} {a : Act} {w : World} (h : a = A) (p : P w) : RsL A P .normal a w := ⟨h, p⟩
theorem hev_len {l : List Msg} (h : hevB l = false) : l.length ≤ 1100 := by
  unfold hevB at h
  rw [Bool.or_eq_false_iff] at h
  have := of_decide_eq_false h.1
  omega
theorem nxT_mem {s : Lk} {l : List Msg} : ∀ m ∈ nxT s l, m ∈ l := by
  intro m hm
  unfold nxT at hm
  split at hm
  · exact ru_mem _ _ m hm
  · cases hm
theorem nxT_len (s : Lk) (l : List Msg) : (nxT s l).length ≤ l.length := by
  unfold nxT
  split
  · exact ru_len _ _
  · exact Nat.zero_le _

end Go.Proofs.Ytnmfigcemknjbaa
