/-
  FOR FrameScans: the sizes of pieces, what stays known between two feeds, a copy of any piece.
-/
import Derived.Test.YtflehhliddcfgaaDoorPieces
import Derived.Test.YtflehhliddcfgaaDoorWritesL
import Derived.Test.YtflehhliddcfgaaDoorRefE
namespace Go.Proofs.YtflehhliddcfgaaDoor
open Go.RowKit Go.Lib Go.Deep
set_option linter.unusedVariables false
set_option linter.unusedSimpArgs false

/-! ### Sizes -/
def sumMin : List (List Nat) → Nat
  | [] => 0
  | L :: Ls => min L.length 30000 + sumMin Ls
theorem sumMin_append (A B : List (List Nat)) : sumMin (A ++ B) = sumMin A + sumMin B := by
  induction A with
  | nil => simp [sumMin]
  | cons L A ih => simp only [List.cons_append, sumMin, ih]; omega
def smallF (Ls : List (List Nat)) : List (List Nat) := Ls.filter (fun L => decide (L.length ≤ 16384))
def allK (Ls : List (List Nat)) (k : Nat) : List Nat := (smallF (Ls.take k)).flatten
theorem take_onL (Ls : List (List Nat)) (k : Nat) (P : List Nat) (h : Ls[k]? = some P) : Ls.take (k + 1) = Ls.take k ++ [P] := by
  obtain ⟨hk, e⟩ := List.getElem?_eq_some_iff.1 h
  rw [List.take_succ_eq_append_getElem hk, e]
theorem sumMin_take (Ls : List (List Nat)) (k : Nat) (P : List Nat) (h : Ls[k]? = some P) : sumMin (Ls.take (k + 1)) = sumMin (Ls.take k) + min P.length 30000 := by
  rw [take_onL Ls k P h, sumMin_append]; simp [sumMin]
theorem sumMin_le (Ls : List (List Nat)) (k : Nat) : sumMin (Ls.take k) ≤ sumMin Ls := by
  have := sumMin_append (Ls.take k) (Ls.drop k)
  rw [List.take_append_drop] at this
  omega
theorem sumMin_count (Ls : List (List Nat)) : sumMin Ls ≤ 30000 * Ls.length := by
  induction Ls with
  | nil => simp [sumMin]
  | cons L Ls ih => simp only [sumMin, List.length_cons]; omega
theorem allK_len (Ls : List (List Nat)) : (smallF Ls).flatten.length ≤ sumMin Ls := by
  induction Ls with
  | nil => simp [smallF, sumMin]
  | cons L Ls ih =>
    unfold smallF at *
    rw [List.filter_cons]
    simp only [sumMin]
    split
    · rename_i h
      have h := of_decide_eq_true h
      simp only [List.flatten_cons, List.length_append]
      omega
    · omega
theorem allK_short (Ls : List (List Nat)) (k : Nat) (P : List Nat) (h : Ls[k]? = some P) (hp : P.length ≤ 16384) : allK Ls (k + 1) = allK Ls k ++ P := by
  unfold allK smallF
  rw [take_onL Ls k P h, List.filter_append]
  simp [hp]
theorem allK_long (Ls : List (List Nat)) (k : Nat) (P : List Nat) (h : Ls[k]? = some P) (hp : 16384 < P.length) : allK Ls (k + 1) = allK Ls k := by
  unfold allK smallF
  rw [take_onL Ls k P h, List.filter_append]
  simp; omega
theorem allK_mem {Ls : List (List Nat)} {k : Nat} {y : Nat} (h : y ∈ allK Ls k) : ∃ L, L ∈ Ls ∧ y ∈ L := by
  unfold allK smallF at h
  obtain ⟨L, hL, hy⟩ := List.mem_flatten.1 h
  exact ⟨L, List.mem_of_mem_take ((List.mem_filter.1 hL).1), hy⟩
/-- What more bytes bring. -/
theorem scan_more (A P : List Nat) : scanM (A ++ P) = scanM A ++ (feedR (feedR newP A).1 P).2 ∧ (feedR newP (A ++ P)).1 = (feedR (feedR newP A).1 P).1 := by
  have h := feedR_append newP A P
  have h1 : (feedR newP (A ++ P)).2 = scanM (A ++ P) := feed_scan _
  have h2 : (feedR newP A).2 = scanM A := feed_scan _
  rw [← h1, ← h2, h]
  exact ⟨rfl, rfl⟩

/-! ### Scan and All, whatever the size -/
def scL (L : List Nat) : List Msg := if L.length ≤ 16384 then scanM L else []
def scZ (L : List Nat) : Int := if L.length ≤ 16384 then lastE L else 0
def scE (L : List Nat) : Int := if L.length ≤ 16384 then 0 else 3
theorem ms_nil (w : World) : Ms w none 0 [] := ⟨rfl, by omega, fun h => absurd h (by omega)⟩
theorem scan_all {a : Option Addr} {len c : Nat} {L : List Nat} {w : World} (hC : Come w a len c L) (hl : len ≤ 1000000) (ht : Table w) :
    Calls Tryd.prog 11 #[.slice a len c] w fun e w' => ∃ la lc, e = .returned (.tuple #[.slice la (scL L).length lc, .int .i64 (scZ L), .int .i64 (scE L)]) ∧ Ms w' la (scL L).length (scL L) ∧ Kept w w' none := by
  have hs := hC.by_.size
  unfold scL scZ scE
  by_cases h : L.length ≤ 16384
  · rw [if_pos h, if_pos h, if_pos h]
    refine (scan_yes hC.by_ (by omega) ht).mono ?_
    rintro e w' ⟨la, n, lc, rfl, hm, hk⟩
    have e := hm.size
    subst e
    exact ⟨la, lc, rfl, hm.ms, hk⟩
  · rw [if_neg h, if_neg h, if_neg h]
    refine (scan_no (by omega) (by omega)).mono ?_
    rintro e w' ⟨rfl, hk⟩
    exact ⟨none, 0, rfl, ms_nil _, hk⟩
theorem rscan_all {a : Option Addr} {len c : Nat} {L : List Nat} {w : World} (hC : Come w a len c L) (hl : len ≤ 1000000) :
    Calls Tryd.prog 23 #[.slice a len c] w fun e w' => ∃ la lc, e = .returned (.tuple #[.slice la (scL L).length lc, .int .i64 (scZ L), .int .i64 (scE L)]) ∧ Ms w' la (scL L).length (scL L) ∧ Kept w w' none := by
  have hs := hC.by_.size
  unfold scL scZ scE
  by_cases h : L.length ≤ 16384
  · rw [if_pos h, if_pos h, if_pos h]
    refine (rscan_yes hC (by omega)).mono ?_
    rintro e w' ⟨la, n, lc, rfl, hm, hk⟩
    have e := hm.size
    subst e
    exact ⟨la, lc, rfl, hm.ms, hk⟩
  · rw [if_neg h, if_neg h, if_neg h]
    refine (rscan_no (by omega) (by omega)).mono ?_
    rintro e w' ⟨rfl, hk⟩
    exact ⟨none, 0, rfl, ms_nil _, hk⟩
/-- The messages from the t-th on. -/
theorem Ms.drop {w : World} {b off n : Nat} {l : List Msg} (h : Ms w (some ⟨b, off, none⟩) n l) (t : Nat) (ht : t ≤ n) : Ms w (some ⟨b, off + t * 3, none⟩) (n - t) (l.drop t) := by
  refine ⟨by rw [List.length_drop, h.size], by have := h.max; omega, fun hp => ?_⟩
  obtain ⟨b', off', e, hb, hc⟩ := h.at_ (by omega)
  injection e with e; injection e with e1 e2
  subst e1 e2
  refine ⟨b, off + t * 3, rfl, hb, fun i m hm => ?_⟩
  rw [List.getElem?_drop] at hm
  obtain ⟨a, c, p1, p2, p3, p4⟩ := hc (t + i) m hm
  refine ⟨a, c, ?_, ?_, ?_, p4⟩
  · rw [← p1]; congr 2; omega
  · rw [← p2]; congr 2; omega
  · rw [← p3]; congr 2; omega

/-! ### A copy of a piece of any size -/
theorem wpList_join0L {ops : Array Oper} {rest : List Oper} {o : Oper} {act : Act} {Q : Exit → Act → World → Prop} {w : World} (hgd : o.guard = none) (s x : Operand)
    (ho : o.op = .call { callee := .builtin .append, args := #[s, x], argTypes := #[22, 22] })
    (base : Nat) (hs : act.eval s = .slice none 0 0) (a : Option Addr) (m c : Nat) (M : List Nat) (hx : act.eval x = .slice a m c) (hB : By w a m M) (ha : a = none → c = 0)
    (hm : m ≤ 140737488355328) (hbase : base ≤ w.heap.size)
    (h : ∀ a' cap w', Mine w' base a' m cap M → Kept w w' none → wpList Tryd.prog ops Q rest (act.put o.dst (.slice a' m cap)) w') : wpList Tryd.prog ops Q (o :: rest) act w := by
  by_cases hs' : m ≤ 70368744177664
  · exact wpList_join0 hgd s x ho base hs a m c M hx hB ha hs' hbase h
  obtain ⟨i0, hi0, hz0, hz1, hz2⟩ := info_parts Tryd.info5
  obtain ⟨b, off, rfl, hb, hc⟩ := hB.at_ (by omega)
  refine wpList_append_own w hgd s x 22 ho base 5 i0 _ 1 1 Tryd.uB hi0 hz0 hz1 hz2 rfl (by omega) (.slice none 0 0) 0 [] hs (World.ownsRow_nil _ _ _ _) ⟨b, off, none⟩ m c (M.map byteV) hx (by simp [hB.size]) (bytes_news hB.size hc) (bytes_one M) (by unfold maxLen; omega) (by omega) hbase ?_
  intro v' w' h1 h2 _
  rw [Nat.zero_add, List.nil_append] at h1
  obtain ⟨a', cap, rfl, hm'⟩ := mine_of h1
  exact h a' cap w' hm' h2

/-! ### Between two feeds -/
theorem Pst.sep0 {w wr w1 : World} {R : Nat} {v : Value} {s : Pc} {aA : Option Addr} {nA cA : Nat} {ALL : List Nat} {S : Nat → Prop} (h : Pst w wr R v (s, []) aA nA cA ALL none 0 0) (k : Sep wr w1 S) (hw : ∀ i, S i → w.heap.size ≤ i) (hR : ¬ S R) (hV : ∀ i, v.ownBlock = some i → ¬ S i) (hA : ∀ i, (Value.slice aA nA cA).ownBlock = some i → ¬ S i) : Pst w w1 R v (s, []) aA nA cA ALL none 0 0 :=
  ⟨h.kept.sep k hw, h.rd.sep k hR hV, h.hR, h.hV, ⟨own_sep h.al.own k hA, h.al.nil, h.al.room, h.al.max⟩, h.aR, h.aV, Ml.nil _ _⟩
/-- A copy that no one else has. -/
structure Cpy (w wr : World) (R : Nat) (v va : Value) (ao : Option Addr) (n : Nat) : Prop where
  ov : Ovr wr w.heap.size ao n
  off : ∀ g, ao = some ⟨g, 0, none⟩ → 0 < n → g ≠ R ∧ v.ownBlock ≠ some g ∧ va.ownBlock ≠ some g ∧ w.heap.size ≤ g
theorem Cpy.set {w wr : World} {R : Nat} {v va : Value} {ao : Option Addr} {n : Nat} (h : Cpy w wr R v va ao n) (b j : Nat) {u : Value} (hu : ∃ y : Nat, y < 256 ∧ u = .int .u8 (y : Int)) : Cpy w (wr.setCell ⟨b, j, none⟩ u) R v va ao n := ⟨h.ov.set b j hu, h.off⟩

end Go.Proofs.YtflehhliddcfgaaDoor
