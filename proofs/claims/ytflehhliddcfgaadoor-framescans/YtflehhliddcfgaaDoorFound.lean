/-
  THE WALK of FrameFound: the stage's theorem.
-/
import Derived.Test.YtflehhliddcfgaaDoorLists
namespace Go.Proofs.YtflehhliddcfgaaDoor
open Go.RowKit Go.Lib Go.Deep
set_option linter.unusedVariables false
set_option linter.unusedSimpArgs false

/-! ### The frames of messages -/
def frG : List Msg → Nat → Bool
  | [], _ => true
  | m :: l, a => decide (m.2.2.length ≤ 512) && decide (a ≤ 6000) && frG l (a + (frameB m).length)
def frL (l : List Msg) : List Nat := if frG l 0 = true then framesB l else []
theorem framesB_cons (m : Msg) (l : List Msg) : framesB (m :: l) = frameB m ++ framesB l := by simp [framesB]
theorem framesB_append (l k : List Msg) : framesB (l ++ k) = framesB l ++ framesB k := by simp [framesB]
theorem frameB_le (m : Msg) (h : m.2.2.length ≤ 512) : (frameB m).length ≤ 1044 := by
  have := (stuff_len (inside m)).2
  rw [inside_len] at this
  rw [frameB_len]; omega
theorem frG_len : ∀ (l : List Msg) (a : Nat), frG l a = true → a + (framesB l).length ≤ 7044 ∨ l = []
  | [], a, _ => .inr rfl
  | m :: l, a, h => by
    left
    simp only [frG, Bool.and_eq_true, decide_eq_true_eq] at h
    have hm := frameB_le m h.1.1
    rw [framesB_cons, List.length_append]
    rcases frG_len l _ h.2 with h1 | h1
    · omega
    · subst h1
      have : (framesB ([] : List Msg)).length = 0 := by simp [framesB]
      omega
theorem frG_all : ∀ (l : List Msg) (a : Nat), frG l a = true → ∀ m ∈ l, m.2.2.length ≤ 512
  | [], a, _, m, hm => by cases hm
  | m' :: l, a, h, m, hm => by
    simp only [frG, Bool.and_eq_true, decide_eq_true_eq] at h
    rcases List.mem_cons.1 hm with rfl | hm
    · exact h.1.1
    · exact frG_all l _ h.2 m hm
theorem frL_len (l : List Msg) : (frL l).length ≤ 7044 := by
  unfold frL
  split
  · rename_i h
    rcases frG_len l 0 h with h1 | h1
    · omega
    · subst h1; simp [framesB]
  · simp
theorem framesB_lt {l : List Msg} (h : ∀ m ∈ l, Mok m) : ∀ x ∈ framesB l, x < 256 := by
  intro x hx
  simp only [framesB, List.mem_flatten, List.mem_map] at hx
  obtain ⟨y, ⟨m, hm, rfl⟩, hx⟩ := hx
  exact frameB_lt (h m hm) x hx
theorem frL_lt {l : List Msg} (h : ∀ m ∈ l, Mok m) : ∀ x ∈ frL l, x < 256 := by
  unfold frL
  split
  · exact framesB_lt h
  · simp
theorem drop_at (l : List Msg) (k : Nat) (m : Msg) (h : l[k]? = some m) : l.drop k = m :: l.drop (k + 1) := by
  obtain ⟨hk, e⟩ := List.getElem?_eq_some_iff.1 h
  rw [List.drop_eq_getElem_cons hk, e]
theorem take_at (l : List Msg) (k : Nat) (m : Msg) (h : l[k]? = some m) : l.take (k + 1) = l.take k ++ [m] := by
  obtain ⟨hk, e⟩ := List.getElem?_eq_some_iff.1 h
  rw [List.take_succ_eq_append_getElem hk, e]
set_option maxRecDepth 100000 in
set_option maxHeartbeats 1000000 in
theorem frames_any {a : Option Addr} {n c : Nat} {l : List Msg} {w : World} (hM : Ms w a n l) (hok : ∀ m ∈ l, Mok m) (hn : n ≤ 5) (ht : Table w) :
    Calls Tryd.prog 27 #[.slice a n c] w fun e w' => ∃ a' c', e = .returned (.tuple #[.slice a' (frL l).length c', .bool (frG l 0)]) ∧ Mine w' w.heap.size a' (frL l).length c' (frL l) ∧ Kept w w' none := by
  have HMs := Hid.mk' hM
  have HOK := Hid.mk' hok
  have HT := Hid.mk' ht
  have HL := Hid.mk' hM.size
  clear hM hok ht
  go_enter Tryd.func27, Tryd.ntmps27
  go_wp2
  go_loopw [4, 5] (fun o i wr => ∃ k : Nat, k ≤ n ∧ i = .int .i64 k ∧ ∃ a' n' c', o = .slice a' n' c' ∧ n' = (framesB (l.take k)).length ∧ n' ≤ 7044 ∧ Mine wr w.heap.size a' n' c' (framesB (l.take k)) ∧ frG (l.drop k) n' = frG l 0 ∧ Kept w wr none) (fun _ i _ => n - (intOf i).toNat)
  case atStart => exact ⟨0, Nat.zero_le _, rfl, none, 0, 0, rfl, by simp [framesB], by omega, ⟨World.ownsRow_nil _ _ _ _, fun _ => ⟨rfl, rfl⟩, Nat.le_refl _, by omega⟩, by simp, Kept.refl _ _⟩
  case round =>
    obtain ⟨k, hk, rfl, a', n', c', rfl, hn', hle, hMi, hG, hkw⟩ := hrel
    by_cases hlt : k < n
    · obtain ⟨b, off, rfl, hb, hc⟩ := (HMs.out.kept hkw).at_ (by omega)
      obtain ⟨m, hm⟩ : ∃ m, l[k]? = some m := ⟨_, List.getElem?_eq_getElem (by rw [HL.out]; exact hlt)⟩
      obtain ⟨a1, c1, p1, p2, p3, p4⟩ := hc k m hm
      have hmo : Mok m := HOK.out m (List.mem_of_getElem? hm)
      rw [drop_at l k m hm] at hG
      have hfr : framesB (l.take (k + 1)) = framesB (l.take k) ++ frameB m := by rw [take_at l k m hm, framesB_append, framesB_cons]; simp [framesB]
      have HFR := Hid.mk' hfr
      have HMI := Hid.mk' hMi
      have HN' := Hid.mk' hn'
      have HC1 := Hid.mk' p4
      have HMO := Hid.mk' hmo
      have hml : m.2.2.length ≤ 9223372036854775807 := by have := p4.room; have := p4.max; omega
      clear hc hm hfr hMi hn' p4 hmo
      obtain ⟨mk, mq, mb⟩ := m
      by_cases h5 : mb.length ≤ 512
      · by_cases h6 : n' ≤ 6000
        · have hG2 : frG (l.drop (k + 1)) (n' + (frameB (mk, mq, mb)).length) = frG l 0 := by
            rw [← hG]; simp [frG, h5, h6]
          have HG2 := Hid.mk' hG2
          have hfl := frameB_le (mk, mq, mb) h5
          clear hG hG2
          go_wp2_with (first
            | (have hgo := M2; clear hgo; at_builtin; refine wpList_join (by rfl) _ _ (by rfl) w.heap.size (.slice a' n' c') n' (framesB (l.take k)) (by rfl) (own_kept HMI.out.own hk2) a2 (frameB (mk, mq, mb)).length c2 (frameB (mk, mq, mb)) (by rfl) (M2.out.by (frameB_lt HMO.out)) (fun e => (M2.out.nil e).2) (by omega) (by exact Nat.le_trans hkw.size hk2.size) ?_; intro a3 c3 w3 hm3 hg3)
            | (go_at_call 10; refine (write_yes (mk, mq, mb) a1 mb.length c1 _ HC1.out.by_ HC1.out.nil HMO.out h5 (HT.out.kept hkw)).mono ?_; rintro e w2 ⟨a2, c2, rfl, hm2, hk2⟩; have M2 := Hid.mk' hm2; clear hm2))
          go_roundw
          case rel => exact ⟨k + 1, by omega, by go_num, a3, _, c3, rfl, by rw [HFR.out, List.length_append, ← HN'.out], by omega, by rw [HFR.out]; exact hm3, HG2.out, (hkw.tr hk2).newRow hg3 (fun i h => HMI.out.new i h)⟩
          case measure => simp [intOf]; omega
        · have hf : frG l 0 = false := by rw [← hG]; simp [frG, h6]
          have E1 : Hid (frL l = []) := by show frL l = []; unfold frL; rw [hf]; rfl
          have E2 := Hid.mk' hf
          clear hG hf
          go_wp2_with (go_at_call 10; refine (write_yes (mk, mq, mb) a1 mb.length c1 _ HC1.out.by_ HC1.out.nil HMO.out h5 (HT.out.kept hkw)).mono ?_; rintro e w2 ⟨a2, c2, rfl, hm2, hk2⟩)
          go_ret2
          rw [E1.out, E2.out]
          exact ⟨none, 0, rfl, ⟨World.ownsRow_nil _ _ _ _, fun _ => ⟨rfl, rfl⟩, Nat.le_refl _, by omega⟩, hkw.tr hk2⟩
      · have hf : frG l 0 = false := by rw [← hG]; simp [frG, h5]
        have E1 : Hid (frL l = []) := by show frL l = []; unfold frL; rw [hf]; rfl
        have E2 := Hid.mk' hf
        clear hG hf
        go_wp2_with (go_at_call 10; refine (write_no (mk, mq, mb) a1 mb.length c1 _ rfl (by omega) hml).mono ?_; rintro e w2 ⟨rfl, hk2⟩)
        go_ret2
        rw [E1.out, E2.out]
        exact ⟨none, 0, rfl, ⟨World.ownsRow_nil _ _ _ _, fun _ => ⟨rfl, rfl⟩, Nat.le_refl _, by omega⟩, hkw.tr hk2⟩
    · have hkq : k = n := by omega
      have hdl : l.drop k = [] := List.drop_eq_nil_of_le (by rw [HL.out]; omega)
      have htl : l.take k = l := List.take_of_length_le (by rw [HL.out]; omega)
      rw [hdl] at hG
      have hg : frG l 0 = true := hG.symm
      rw [htl] at hn' hMi
      have E1 : Hid (frL l = framesB l) := by show frL l = _; unfold frL; rw [if_pos hg]
      have E2 := Hid.mk' hg
      have HMI := Hid.mk' hMi
      have HN' := Hid.mk' hn'
      clear hG hg hMi hn' hdl htl
      go_wp2
      go_ret2
      rw [E1.out, E2.out]
      have e := HN'.out
      subst e
      exact ⟨a', c', rfl, HMI.out, hkw⟩
/-- append(nil, b...). -/
theorem wpList_join0 {ops : Array Oper} {rest : List Oper} {o : Oper} {act : Act} {Q : Exit → Act → World → Prop} {w : World} (hgd : o.guard = none) (s x : Operand)
    (ho : o.op = .call { callee := .builtin .append, args := #[s, x], argTypes := #[22, 22] })
    (base : Nat) (hs : act.eval s = .slice none 0 0) (a : Option Addr) (m c : Nat) (M : List Nat) (hx : act.eval x = .slice a m c) (hB : By w a m M) (ha : a = none → c = 0)
    (hm : m ≤ 70368744177664) (hbase : base ≤ w.heap.size)
    (h : ∀ a' cap w', Mine w' base a' m cap M → Kept w w' none → wpList Tryd.prog ops Q rest (act.put o.dst (.slice a' m cap)) w') : wpList Tryd.prog ops Q (o :: rest) act w := by
  refine wpList_join hgd s x ho base (.slice none 0 0) 0 [] hs (World.ownsRow_nil _ _ _ _) a m c M hx hB ha (by omega) hbase ?_
  intro a' cap w' h1 h2
  rw [Nat.zero_add] at h1 ⊢
  exact h a' cap w' h1 h2
theorem wpList_mjoin0 {ops : Array Oper} {rest : List Oper} {o : Oper} {act : Act} {Q : Exit → Act → World → Prop} {w : World} (hgd : Region.wanted o (yielded ops act.tmps) = true) (s x : Operand)
    (ho : o.op = .call { callee := .builtin .append, args := #[s, x], argTypes := #[31, 31] })
    (H : Nat) (hs : act.eval s = .slice none 0 0) (a : Option Addr) (m c : Nat) (k : List Msg) (hx : act.eval x = .slice a m c) (hB : Mz w H a m c k) (hm : m ≤ 1000000)
    (h : ∀ la' lc' w', Mj w' H la' m lc' k → Sep w w' (fun q => H ≤ q) → wpList Tryd.prog ops Q rest (act.put o.dst (.slice la' m lc')) w') : wpList Tryd.prog ops Q (o :: rest) act w := by
  refine wpList_mjoin hgd s x ho H none 0 0 [] hs (Mj.nil _ _) a m c k hx hB (by omega) ?_
  intro la' lc' w' h1 h2
  rw [Nat.zero_add] at h1 ⊢
  exact h la' lc' w' h1 h2
theorem scan_as {a : Option Addr} {len c : Nat} {L : List Nat} {w : World} (X : List Msg) (n : Nat) (z : Int) (hX : scanM L = X) (hn : X.length = n) (hz : lastE L = z) (hB : By w a len L) (hl : len ≤ 16384) (ht : Table w) :
    Calls Tryd.prog 11 #[.slice a len c] w fun e w' => ∃ la lc, e = .returned (.tuple #[.slice la n lc, .int .i64 z, .int .i64 0]) ∧ Mz w' w'.heap.size la n lc X ∧ Kept w w' none := by
  subst hX hn hz
  refine (scan_yes hB hl ht).mono ?_
  rintro e w' ⟨la, n, lc, rfl, hm, hk⟩
  have e := hm.size
  subst e
  exact ⟨la, lc, rfl, hm.mz, hk⟩
theorem Mz.ms {w : World} {H : Nat} {la : Option Addr} {n lc : Nat} {l : List Msg} (h : Mz w H la n lc l) (hn : n ≤ 1000000) : Ms w la n l := by
  obtain ⟨xs, h1, h2⟩ := h.ex
  refine ⟨h.size, by omega, fun hp => ?_⟩
  obtain ⟨b, off, e, hb, hc⟩ := h2 hp
  refine ⟨b, off, e, Nat.lt_of_lt_of_le hb h.le, fun i m hm => ?_⟩
  obtain ⟨a, c, q1, q2, q3, q4⟩ := h1.at_ i m hm
  exact ⟨a, c, hc _ _ q1, hc _ _ q2, hc _ _ q3, q4⟩
theorem scan_count (L : List Nat) : (scanM L).length ≤ L.length := by
  rw [← feed_scan]
  exact feedR_count newP L

end Go.Proofs.YtflehhliddcfgaaDoor
