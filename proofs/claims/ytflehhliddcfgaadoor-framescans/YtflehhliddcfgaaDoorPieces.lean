/-
  THE WALK of FramePieces: however bytes come, a reader finds what is found in all of them.
-/
import Derived.Test.YtflehhliddcfgaaDoorLists
import Derived.Test.YtflehhliddcfgaaDoorOpens2
import Derived.Maps.AppendAt
namespace Go.Proofs.YtflehhliddcfgaaDoor
open Go.RowKit Go.Lib Go.Deep
set_option linter.unusedVariables false
set_option linter.unusedSimpArgs false

/-- append(own, b...), and where the row lies then. -/
theorem wpList_joinA {ops : Array Oper} {rest : List Oper} {o : Oper} {act : Act} {Q : Exit → Act → World → Prop} {w : World} (hgd : o.guard = none) (s x : Operand)
    (ho : o.op = .call { callee := .builtin .append, args := #[s, x], argTypes := #[22, 22] })
    (base : Nat) (v : Value) (n : Nat) (L : List Nat) (hs : act.eval s = v) (hown : w.ownsRow base 5 1 v n (L.map byteV))
    (a : Option Addr) (m c : Nat) (M : List Nat) (hx : act.eval x = .slice a m c) (hB : By w a m M) (ha : a = none → c = 0)
    (hnm : n + m ≤ 70368744177664) (hbase : base ≤ w.heap.size)
    (h : ∀ a' cap w', Mine w' base a' (n + m) cap (L ++ M) → w.grownBy w' v.ownBlock → ((Value.slice a' (n + m) cap).ownBlock = v.ownBlock ∨ (Value.slice a' (n + m) cap).ownBlock = some w.heap.size) → wpList Tryd.prog ops Q rest (act.put o.dst (.slice a' (n + m) cap)) w') : wpList Tryd.prog ops Q (o :: rest) act w := by
  obtain ⟨i0, hi0, hz0, hz1, hz2⟩ := info_parts Tryd.info5
  have key : ∀ v' w', w'.ownsRow base 5 1 v' (n + m) ((L ++ M).map byteV) → w.grownBy w' v.ownBlock → (v'.ownBlock = v.ownBlock ∨ v'.ownBlock = some w.heap.size) → wpList Tryd.prog ops Q rest (act.put o.dst v') w' := by
    intro v' w' h1 h2 h3
    obtain ⟨a', cap, rfl, hm⟩ := mine_of h1
    exact h a' cap w' hm h2 h3
  cases a with
  | none =>
    have hm0 : m = 0 := by
      by_cases hm : 0 < m
      · obtain ⟨b, off, e, _⟩ := hB.at_ hm
        cases e
      · omega
    subst hm0
    have hM : M = [] := List.length_eq_zero_iff.1 hB.size
    subst hM
    have hc := ha rfl
    subst hc
    refine wpList_append_own_none hgd s x 22 ho base 5 i0 1 Tryd.uB hi0 v n (L.map byteV) hs hown hx (key v w ?_ (World.grownBy.refl w _) (.inl rfl))
    simpa using hown
  | some ad =>
    by_cases hm : 0 < m
    · obtain ⟨b, off, e, hb, hc⟩ := hB.at_ hm
      injection e with e
      subst e
      refine wpList_append_own_at w hgd s x 22 ho base 5 i0 _ 1 1 Tryd.uB hi0 hz0 hz1 hz2 rfl (by omega) v n (L.map byteV) hs hown ⟨b, off, none⟩ m c (M.map byteV) hx (by simp [hB.size]) (bytes_news hB.size hc) (bytes_one M) (by unfold maxLen; omega) (by omega) hbase ?_
      intro v' w' h1 h2 _ h4
      exact key v' w' (by rw [List.map_append]; exact h1) h2 h4
    · have hm0 : m = 0 := by omega
      subst hm0
      have hM : M = [] := List.length_eq_zero_iff.1 hB.size
      subst hM
      refine wpList_append_own_at w hgd s x 22 ho base 5 i0 _ 1 1 Tryd.uB hi0 hz0 hz1 hz2 rfl (by omega) v n (L.map byteV) hs hown ad 0 c [] hx (by simp) (fun j u hu => by simp at hu) (fun u hu => by cases hu) (by unfold maxLen; omega) (by omega) hbase ?_
      intro v' w' h1 h2 _ h4
      exact key v' w' (by simpa using h1) h2 h4
/-- append(list, messages...), both of the call's own. -/
theorem wpList_mgrow {ops : Array Oper} {rest : List Oper} {o : Oper} {act : Act} {Q : Exit → Act → World → Prop} {w : World} (hgd : o.guard = none) (s x : Operand)
    (ho : o.op = .call { callee := .builtin .append, args := #[s, x], argTypes := #[31, 31] })
    (P R : Nat → Prop) (la : Option Addr) (n lc : Nat) (l : List Msg) (hs : act.eval s = .slice la n lc) (hown : Ml w P la n lc l)
    (a : Option Addr) (m c : Nat) (k : List Msg) (hx : act.eval x = .slice a m c) (hB : Ml w R a m c k)
    (hR : ∀ q, R q → P q ∧ (Value.slice la n lc).ownBlock ≠ some q) (hP : P w.heap.size) (hnm : n + m ≤ 1000000)
    (h : ∀ la' lc' w', Ml w' P la' (n + m) lc' (l ++ k) → Sep w w' (fun q => (Value.slice la n lc).ownBlock = some q) → wpList Tryd.prog ops Q rest (act.put o.dst (.slice la' (n + m) lc')) w') : wpList Tryd.prog ops Q (o :: rest) act w := by
  obtain ⟨i0, hi0, hz0, hz1, hz2⟩ := info_parts Tryd.infoM
  obtain ⟨xs, ho1, ho2⟩ := hown.ex
  obtain ⟨ys, hy1, hy2⟩ := hB.ex
  have hy3 : mCells w (fun q => P q ∧ (Value.slice la n lc).ownBlock ≠ some q) ys k := hy2.mono (fun q _ hq => hR q hq.1)
  have same : k = [] → m = 0 → wpList Tryd.prog ops Q rest (act.put o.dst (.slice la n lc)) w := by
    intro e1 e2
    subst e1 e2
    have := h la lc w (by simpa using hown) (Sep.refl _ _)
    simpa using this
  cases a with
  | none =>
    obtain ⟨hm0, hc⟩ := hB.room.2.2 rfl
    subst hm0 hc
    have hk : k = [] := List.length_eq_zero_iff.1 hB.size
    exact wpList_append_own_none hgd s x 31 ho 0 30 i0 3 Tryd.uML hi0 (.slice la n lc) n xs hs ho1 hx (same hk rfl)
  | some ad =>
    rcases id hy1.2 with ⟨e, _⟩ | ⟨g, cap, cur, e, hb, hg, k1, k2, k3, k4⟩
    · cases e
    · injection e with e1 e2 e3
      injection e1 with e1
      subst e1 e3
      have hlen : ys.length = m * 3 := by rw [hy2.length, hB.size]
      refine wpList_append_own_at w hgd s x 31 ho 0 30 i0 _ 3 32 Tryd.uML hi0 hz0 hz1 hz2 rfl (by omega) (.slice la n lc) n xs hs ho1 ⟨g, 0, none⟩ m c ys hx hlen (fun j u hu => hy1.cells (g := g) rfl j u hu) hy2.one' (by unfold maxLen; omega) (by omega) (Nat.zero_le _) ?_
      intro v' w' h1 h2 _ h4
      have hsep : Sep w w' (fun q => (Value.slice la n lc).ownBlock = some q) := Sep.row h2 (fun i _ e => e)
      have hf : ∃ la' lc', v' = .slice la' (n + m) lc' := by
        rcases id h1.2 with ⟨e, e2⟩ | ⟨g, cap, cur, e, _⟩
        · exact ⟨none, 0, by rw [e, e2]⟩
        · exact ⟨_, _, e⟩
      obtain ⟨la', lc', rfl⟩ := hf
      refine h la' lc' w' ⟨⟨xs ++ ys, h1, ?_⟩, by rw [List.length_append, hown.size, hB.size], ?_⟩ hsep
      · refine mCells.sep hsep (fun q hq => ?_) (P := fun q => (P q ∧ (Value.slice la' (n + m) lc').ownBlock ≠ some q) ∧ (Value.slice la n lc).ownBlock ≠ some q) ?_ |> mCells.mono (fun q _ hq => hq.1)
        · exact hq.2
        · refine mCells.mono (fun q hq hp => ⟨⟨hp.1, ?_⟩, hp.2⟩) (ho2.append hy3)
          intro e
          rcases h4 with h5 | h5
          · rw [h5] at e; exact hp.2 e
          · rw [h5] at e; injection e with e; omega
      · intro q hq
        rcases h4 with h5 | h5
        · rw [h5] at hq; exact hown.at_ q hq
        · rw [h5] at hq; injection hq with hq; subst hq; exact hP

/-- Where all stands between two feeds. -/
abbrev Pg (w : World) (R : Nat) (v va : Value) : Nat → Prop := fun q => w.heap.size ≤ q ∧ q ≠ R ∧ v.ownBlock ≠ some q ∧ va.ownBlock ≠ some q
structure Pst (w wr : World) (R : Nat) (v : Value) (s : Rs) (aA : Option Addr) (nA cA : Nat) (ALL : List Nat) (la : Option Addr) (n lc : Nat) : Prop where
  kept : Kept w wr none
  rd : Rdr wr R v s.1
  hR : w.heap.size ≤ R
  hV : ∀ q, v.ownBlock = some q → w.heap.size ≤ q
  al : Mine wr w.heap.size aA nA cA ALL
  aR : (Value.slice aA nA cA).ownBlock ≠ some R
  aV : ∀ q, v.ownBlock = some q → (Value.slice aA nA cA).ownBlock ≠ some q
  ml : Ml wr (Pg w R v (.slice aA nA cA)) la n lc s.2
theorem Pst.kept' {w wr w1 : World} {R : Nat} {v : Value} {s : Rs} {aA : Option Addr} {nA cA : Nat} {ALL : List Nat} {la : Option Addr} {n lc : Nat} (h : Pst w wr R v s aA nA cA ALL la n lc) (k : Kept wr w1 none) : Pst w w1 R v s aA nA cA ALL la n lc :=
  ⟨h.kept.tr k, h.rd.kept k, h.hR, h.hV, h.al.kept k, h.aR, h.aV, h.ml.kept k⟩
/-- The bytes grow. -/
theorem Pst.grow {w wr w1 : World} {R : Nat} {v : Value} {s : Rs} {aA a1 : Option Addr} {nA cA n1 c1 : Nat} {ALL ALL1 : List Nat} {la : Option Addr} {n lc : Nat} (h : Pst w wr R v s aA nA cA ALL la n lc) (hm : Mine w1 w.heap.size a1 n1 c1 ALL1) (hg : wr.grownBy w1 (Value.slice aA nA cA).ownBlock) (hat : (Value.slice a1 n1 c1).ownBlock = (Value.slice aA nA cA).ownBlock ∨ (Value.slice a1 n1 c1).ownBlock = some wr.heap.size) :
    Pst w w1 R v s a1 n1 c1 ALL1 la n lc := by
  have hs : Sep wr w1 (fun q => (Value.slice aA nA cA).ownBlock = some q) := Sep.row hg (fun i _ e => e)
  have hRl := h.rd.lt
  refine ⟨h.kept.newRow hg (fun i e => h.al.new i e), h.rd.sep hs (fun e => h.aR e) (fun i hi e => h.aV i hi e), h.hR, h.hV, hm, ?_, ?_, ?_⟩
  · intro e
    rcases hat with h1 | h1
    · exact h.aR (by rw [← h1]; exact e)
    · rw [h1] at e; injection e with e; omega
  · intro q hq e
    rcases hat with h1 | h1
    · exact h.aV q hq (by rw [← h1]; exact e)
    · rw [h1] at e; injection e with e; have := h.rd.vlt q hq; omega
  · have hml : Ml wr (fun q => Pg w R v (.slice a1 n1 c1) q ∧ (Value.slice aA nA cA).ownBlock ≠ some q) la n lc s.2 := h.ml.mono (fun q hq hp => by
      refine ⟨⟨hp.1, hp.2.1, hp.2.2.1, fun e => ?_⟩, hp.2.2.2⟩
      rcases hat with h1 | h1
      · exact hp.2.2.2 (by rw [← h1]; exact e)
      · rw [h1] at e; injection e with e; omega)
    exact (hml.sep hs (fun q hq e => hq.2 e)).mono (fun q _ hq => hq.1)
/-- A feed. -/
theorem Pst.feed {w wr w1 : World} {R : Nat} {v v1 : Value} {s : Rs} {t : Rs} {aA : Option Addr} {nA cA : Nat} {ALL : List Nat} {la l1 : Option Addr} {n lc n1 c1 : Nat} (h : Pst w wr R v s aA nA cA ALL la n lc) (hF : Fd wr w1 R v v1 l1 n1 c1 t) :
    Pst w w1 R v1 (t.1, s.2) aA nA cA ALL la n lc ∧ Ml w1 (fun q => Pg w R v1 (.slice aA nA cA) q ∧ (Value.slice la n lc).ownBlock ≠ some q) l1 n1 c1 t.2 := by
  have hRl := h.rd.lt
  have hps : ∀ q, PS R v q → w.heap.size ≤ q := fun q hq => by
    rcases hq with rfl | hq
    · exact h.hR
    · exact h.hV q hq
  have hal : ∀ i, (Value.slice aA nA cA).ownBlock = some i → ¬ PS R v i := fun i hi e => by
    rcases e with rfl | e
    · exact h.aR hi
    · exact h.aV i e hi
  have hall : ∀ i, (Value.slice aA nA cA).ownBlock = some i → i < wr.heap.size := fun i hi => (h.al.own.lt i hi).2
  refine ⟨⟨h.kept.sep hF.sp hps, hF.rd, h.hR, ?_, ⟨own_sep h.al.own hF.sp hal, h.al.nil, h.al.room, h.al.max⟩, h.aR, ?_, ?_⟩, ?_⟩
  · intro q hq
    rcases hF.mv with h1 | ⟨g, h1, h2⟩
    · exact h.hV q (by rw [← h1]; exact hq)
    · rw [h1] at hq; injection hq with hq; subst hq; exact Nat.le_trans h.kept.size h2
  · intro q hq e
    rcases hF.mv with h1 | ⟨g, h1, h2⟩
    · exact h.aV q (by rw [← h1]; exact hq) e
    · rw [h1] at hq; injection hq with hq; have := hall q e; omega
  · have hml : Ml wr (fun q => Pg w R v1 (.slice aA nA cA) q ∧ v.ownBlock ≠ some q) la n lc s.2 := h.ml.mono (fun q hq hp => by
      refine ⟨⟨hp.1, hp.2.1, fun e => ?_, hp.2.2.2⟩, hp.2.2.1⟩
      rcases hF.mv with h1 | ⟨g, h1, h2⟩
      · exact hp.2.2.1 (by rw [← h1]; exact e)
      · rw [h1] at e; injection e with e; omega)
    exact (hml.sep hF.sp (fun q hq e => by
      rcases e with e | e
      · exact hq.1.2.1 e
      · exact hq.2 e)).mono (fun q _ hq => hq.1)
  · refine hF.ml.mono (fun q _ hq => ⟨⟨Nat.le_trans h.kept.size hq.1, ?_, hq.2, fun e => ?_⟩, fun e => ?_⟩)
    · have := hq.1; omega
    · have := hall q e; have := hq.1; omega
    · have := h.ml.lt q e; have := hq.1; omega
/-- The list grows. -/
theorem Pst.more {w wr w1 : World} {R : Nat} {v : Value} {s : Rs} {G : List Msg} {aA : Option Addr} {nA cA : Nat} {ALL : List Nat} {la l1 : Option Addr} {n lc n1 c1 : Nat} (h : Pst w wr R v s aA nA cA ALL la n lc) (hm : Ml w1 (Pg w R v (.slice aA nA cA)) l1 n1 c1 G) (hs : Sep wr w1 (fun q => (Value.slice la n lc).ownBlock = some q)) :
    Pst w w1 R v (s.1, G) aA nA cA ALL l1 n1 c1 :=
  ⟨h.kept.sep hs (fun i hi => (h.ml.at_ i hi).1), h.rd.sep hs (fun e => (h.ml.at_ _ e).2.1 rfl) (fun i hi e => (h.ml.at_ _ e).2.2.1 hi), h.hR, h.hV,
    ⟨own_sep h.al.own hs (fun i hi e => (h.ml.at_ _ e).2.2.2 hi), h.al.nil, h.al.room, h.al.max⟩, h.aR, h.aV, hm⟩
theorem flat_take (Ls : List (List Nat)) (k : Nat) (P : List Nat) (h : Ls[k]? = some P) : (Ls.take (k + 1)).flatten = (Ls.take k).flatten ++ P := by
  obtain ⟨hk, e⟩ := List.getElem?_eq_some_iff.1 h
  rw [List.take_succ_eq_append_getElem hk, e]
  simp

theorem scan_len {a : Option Addr} {len c : Nat} {L : List Nat} {w : World} (hB : By w a len L) (hl : len ≤ 16384) (ht : Table w) (n : Nat) (hn : (scanM L).length = n) :
    Calls Tryd.prog 11 #[.slice a len c] w fun e w' => ∃ la lc, e = .returned (.tuple #[.slice la n lc, .int .i64 (lastE L), .int .i64 0]) ∧ Ms w' la n (scanM L) ∧ Kept w w' none := by
  subst hn
  refine (scan_yes hB hl ht).mono ?_
  rintro e w' ⟨la, n, lc, rfl, hm, hk⟩
  have e := hm.size
  subst e
  exact ⟨la, lc, rfl, hm.ms, hk⟩
set_option maxRecDepth 100000 in
set_option maxHeartbeats 2000000 in
theorem pieces_any (a : Option Addr) (n c : Nat) (Ls : List (List Nat)) (w : World) (hP : Ps w a n Ls) (hz : ∀ L ∈ Ls, L.length ≤ 140737488351232) (ht : Table w) :
    Calls Tryd.prog 7 #[.slice a n c] w fun e w' => e = .returned (.bool true) ∧ Below w.heap.size w w' := by
  have HT := Hid.mk' ht
  have HP := Hid.mk' hP
  have hmx := hP.max
  have HL := Hid.mk' hP.size
  have HZ := Hid.mk' hz
  have HLT : Hid (∀ k, ∀ y ∈ (Ls.take k).flatten, y < 256) := by
    intro k y hy
    obtain ⟨L, hL, hy⟩ := List.mem_flatten.1 hy
    obtain ⟨i, hi⟩ := List.mem_iff_getElem?.1 (List.mem_of_mem_take hL)
    have hin : i < n := by rw [← hP.size]; exact (List.getElem?_eq_some_iff.1 hi).1
    obtain ⟨b, off, _, _, hc⟩ := hP.at_ (by omega)
    obtain ⟨_, _, _, q⟩ := hc i L hi
    exact q.by_.lt y hy
  clear ht hP hz
  go_enter Tryd.func7, Tryd.ntmps7
  go_wp2_with (first
    | (have hgo := hk1; clear hgo; go_at_call 25; refine (new_any _).mono ?_; rintro e w2 ⟨rfl, hr2, hk2, -⟩)
    | (go_at_call 15; refine (alive_any _ HT.out).mono ?_; rintro e w1 ⟨rfl, hk1⟩))
  have HK1 := Hid.mk' hk1
  have hs0 : Pst w w2 w1.heap.size (.slice none 0 0) (newP, []) none 0 0 [] none 0 0 :=
    ⟨hk1.tr hk2, hr2, hk1.size, fun q h => by simp [Value.ownBlock] at h, ⟨World.ownsRow_nil _ _ _ _, fun _ => ⟨rfl, rfl⟩, Nat.le_refl _, by omega⟩, by simp [Value.ownBlock], fun q h => by simp [Value.ownBlock] at h, Ml.nil _ _⟩
  obtain ⟨R, hR⟩ : ∃ R, R = w1.heap.size := ⟨_, rfl⟩
  rw [← hR] at hs0 ⊢
  clear hr2 hk2 hk1 hR
  go_loopw [4, 5, 7] (fun al gv i wr => ∃ k : Nat, k ≤ n ∧ i = .int .i64 k ∧ ∃ aA nA cA la m lc v, al = .slice aA nA cA ∧ gv = .slice la m lc ∧ nA ≤ 16384 ∧ Pst w wr R v (feedR newP (Ls.take k).flatten) aA nA cA (Ls.take k).flatten la m lc) (fun _ _ i _ => n - (intOf i).toNat)
  case atStart => exact ⟨0, Nat.zero_le _, rfl, none, 0, 0, none, 0, 0, _, rfl, rfl, by omega, hs0⟩
  case round =>
    obtain ⟨k, hk, rfl, aA, nA, cA, la, m, lc, v, rfl, rfl, hnA, hst⟩ := hrel
    have hsz : (Ls.take k).flatten.length = nA := by have := hst.al.own.1; rw [List.length_map, Nat.mul_one] at this; exact this
    have hcnt : m ≤ 16384 := by
      have h1 := hst.ml.size
      have h2 := feedR_count newP (Ls.take k).flatten
      omega
    have HBT : Hid (∀ y ∈ (Ls.take k).flatten, y < 256) := HLT.out k
    by_cases hlt : k < n ∧ k < 40
    · obtain ⟨h1, h2⟩ := hlt
      obtain ⟨b, off, rfl, hb, hc⟩ := HP.out.at_ (by omega)
      obtain ⟨P, hPk⟩ : ∃ P, Ls[k]? = some P := ⟨_, List.getElem?_eq_getElem (by rw [HL.out]; exact h1)⟩
      obtain ⟨pa, pc, q1, q2⟩ := hc k P hPk
      have hcell : wr.cell? ⟨b, off + k, none⟩ = some (.slice pa P.length pc) := (cell_kept hst.kept hb).trans q1
      have HFL := Hid.mk' (flat_take Ls k P hPk)
      have HS := Hid.mk' hst
      have HQ := Hid.mk' q2
      have hpl : P.length ≤ 140737488351232 := HZ.out P (List.mem_of_getElem? hPk)
      have HSZ := Hid.mk' hsz
      clear hc hPk hst q1 q2 hsz
      by_cases h3 : 16384 < nA + P.length
      · have d1 : (16384 : Int) < (nA : Int) + (P.length : Int) := by omega
        go_wp2
        go_ret
        exact ⟨rfl, HS.out.kept.below⟩
      · have d1 : (nA : Int) + (P.length : Int) ≤ 16384 := by omega
        have hRs : ¬ R < w.heap.size := by have := HS.out.hR; omega
        go_wp2_with (first
          | (have hgo := hmlG; clear hgo; at_builtin; refine wpList_mgrow (by rfl) _ _ (by rfl) _ _ la m lc _ (by rfl) hS2.out.ml l2 n2 c2 _ (by rfl) hmlG.out (fun q hq => hq) ⟨hS2.out.kept.size, by have := hS2.out.rd.lt; omega, fun e => by have := hS2.out.rd.vlt _ e; omega, fun e => by have := (hS2.out.al.own.lt _ e).2; omega⟩ (by omega) ?_; intro l3 c3 w4 hm4 hs4; have hS4 := Hid.mk' (hS2.out.more hm4 hs4); clear hm4 hs4)
          | (have hgo := hS1; clear hgo; go_at_call 13; refine (feed_yes hS1.out.rd (pok_feed pok_new (fun y hy => HB1.out y hy)) (HQ.out.by_.kept hS1.out.kept) (fun hp x hx e => by obtain ⟨b', off', e1, hb', _⟩ := HQ.out.by_.at_ hp; rw [e1] at hx; injection hx with hx; subst hx; rcases e with e | e; (have := hS1.out.hR; simp at e; omega); (have := hS1.out.hV _ e; simp at this; omega)) (by omega) (HT.out.kept hS1.out.kept) (fun e => by have := HT.out.lt; rcases e with e | e; (have := hS1.out.hR; omega); (have := hS1.out.hV _ e; omega))).mono ?_; rintro e w3 ⟨l2, n2, c2, v2, rfl, hF⟩; obtain ⟨hS2', hmlG'⟩ := hS1.out.feed hF; have hS2 := Hid.mk' hS2'; have hmlG := Hid.mk' hmlG'; have hn2 : n2 ≤ 16384 := by { have h1 := hF.ml.size; have h2 := feedR_count (feedR newP (Ls.take k).flatten).1 P; omega }; clear hF hS2' hmlG')
          | (at_builtin; refine wpList_joinA (by rfl) _ _ (by rfl) w.heap.size (.slice aA nA cA) nA (Ls.take k).flatten (by rfl) HS.out.al.own pa P.length pc P (by rfl) (HQ.out.by_.kept HS.out.kept) HQ.out.nil (by omega) HS.out.kept.size ?_; intro a1 c1 w2' hm1 hg1 hat1; have hS1 := Hid.mk' (HS.out.grow hm1 hg1 hat1); have hcell2 : w2'.cell? ⟨b, off + k, none⟩ = some (.slice pa P.length pc) := (cell_kept hS1.out.kept hb).trans ((cell_kept HS.out.kept hb).symm.trans hcell); have HB1 : Hid (∀ y ∈ (Ls.take k).flatten, y < 256) := HBT.out; clear hm1 hg1 hat1))
        go_roundw
        case rel =>
          refine ⟨k + 1, by omega, by go_num, a1, nA + P.length, c1, l3, m + n2, c3, v2, rfl, rfl, by omega, ?_⟩
          rw [HFL.out, feedR_append]
          exact hS4.out
        case measure => simp [intOf]; omega
    · have HS := Hid.mk' hst
      have hf := feed_scan (Ls.take k).flatten
      have HFS := Hid.mk' hf
      have hex : ¬ k < n ∨ (k < n ∧ ¬ k < 40) := by omega
      have HSZ := Hid.mk' hsz
      clear hst hf hlt hsz
      rcases hex with hx | ⟨hx, hx2⟩
      all_goals
        go_wp2_with (first
          | (have hgo := hz5; clear hgo; go_at_call 28; refine (same_yes hz5.out hg5.out).mono ?_; rintro e w6 ⟨rfl, q6, rfl⟩)
          | (go_at_call 11; refine (scan_len (HS.out.al.by HBT.out) (by omega) (HT.out.kept HS.out.kept) m (by rw [← HFS.out]; exact HS.out.ml.size)).mono ?_; rintro e w5 ⟨l5, c5, rfl, hm5, hk5⟩; have hz5 := Hid.mk' hm5; have hg5 := Hid.mk' (by have := (HS.out.ml.kept hk5).ms; rw [HFS.out] at this; exact this); clear hm5))
        go_ret
        exact ⟨rfl, ((HS.out.kept.tr hk5).tr (Kept.drewN _ _ _)).below⟩

end Go.Proofs.YtflehhliddcfgaaDoor
