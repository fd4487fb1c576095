/-
  Texts joined: some of those that the proofs of this seat stand on.
-/
import Derived.Test.YtabikoipjaggbaaCrcJ
import Derived.OwnWalk
import Derived.Deep.DeepAppendRoom
import Derived.Deep.AppendLies
import Derived.Laws.AppendOwnNone
/-
  THE CONTRACT of raw.Small.
-/
namespace Go.Proofs.Ytabikoipjaggbaa
open Go.RowKit Go.Lib Go.Deep
set_option linter.unusedVariables false
set_option linter.unusedSimpArgs false

/-- A slice of the call's own: its bytes are L. -/
abbrev Own (w : World) (base g n cap : Nat) (L : List Nat) : Prop := w.ownsRow base 5 1 (.slice (some ⟨g, 0, none⟩) n cap) n (L.map byteV)
theorem Own.by {w : World} {base g n cap : Nat} {L : List Nat} (h : Own w base g n cap L) (hn : n ≤ 9223372036854775807) (hb : ∀ x ∈ L, x < 256) : By w (some ⟨g, 0, none⟩) n L := by
  have hl : L.length = n := by have := h.1; simpa using this
  refine ⟨hl, hn, hb, fun hp => ⟨g, 0, rfl, (h.lt g rfl).2, fun i hi => ?_⟩⟩
  have := h.cellAt i (by omega)
  rw [Nat.zero_add]
  rw [this]
  have hi' : i < L.length := by omega
  simp [hi']
theorem own_snoc {w : World} {base g n cap : Nat} {L : List Nat} {x : Nat} (hn : n = L.length) (h : w.ownsRow base 5 1 (.slice (some ⟨g, 0, none⟩) (n + 1) cap) (n + 1) (L.map byteV ++ [.int .u8 (x : Int)])) : Own w base g (L ++ [x]).length cap (L ++ [x]) := by
  subst hn
  unfold Own
  rw [List.length_append, List.map_append]
  exact h
theorem or128 : ∀ x, x < 256 → x ||| 128 = x % 128 + 128 := by decide +kernel
theorem byte_or (n : Nat) : bits .or .u8 ((n : Int) % 256) 128 = ((n % 128 + 128 : Nat) : Int) := by
  have h := u8_or_nat (n % 256) 128 (by omega) (by omega)
  rw [or128 _ (by omega)] at h
  have e : ((n : Int) % 256) = ((n % 256 : Nat) : Int) := by omega
  rw [e]
  refine Eq.trans h ?_
  omega

set_option maxRecDepth 100000 in
set_option maxHeartbeats 1000000 in
theorem small_any (n : Nat) (w : World) (hn : n < 18446744073709551616) :
    Calls Try.prog 45 #[.int .u64 n] w fun e w' => e = .returned (.slice (some ⟨w.heap.size, 0, none⟩) (sml n).length 10) ∧ Own w' w.heap.size w.heap.size (sml n).length 10 (sml n) ∧ Kept w w' none := by
  obtain ⟨i0, hi0, hz0, hz1, hz2⟩ := info_parts Try.info5
  obtain ⟨w1, hmk, hown, hg⟩ := run_make_own (P := Try.prog) w w.heap.size 22 5 i0 _ 1 Try.uB hi0 hz0 hz1 .i64 .i64 10 (by omega) (by unfold maxLen; omega) (Nat.le_refl _)
  rw [show ((10 : Nat) : Int) = 10 from rfl] at hmk
  have hl10 := sml_len10 n hn
  go_enter Try.func45, Try.ntmps45
  go_wp2
  clear hmk
  go_loopw [0, 3] (fun nv lv wr => ∃ (cur : Nat) (pre : List Nat), nv = .int .u64 cur ∧ lv = .slice (some ⟨w.heap.size, 0, none⟩) pre.length 10 ∧ pre ++ sml cur = sml n ∧ cur < 18446744073709551616 ∧ Own wr w.heap.size w.heap.size pre.length 10 pre ∧ Kept w wr none) (fun nv _ _ => (intOf nv).toNat)
  case atStart => exact ⟨n, [], rfl, rfl, rfl, hn, hown, hg⟩
  case round =>
    obtain ⟨cur, pre, rfl, rfl, he, hc, ho, hk⟩ := hrel
    have hpl : pre.length + (sml cur).length = (sml n).length := by rw [← he]; simp
    have hp := sml_pos cur
    by_cases hlt : 128 ≤ cur
    · have hor := byte_or cur
      have HE : Hid (pre ++ sml cur = sml n) := he
      have hroom : pre.length + 1 ≤ 10 := by omega
      clear he hpl
      go_wp2_with (at_builtin; refine wpList_append_own_spare _ (by rfl) _ _ 22 (by rfl) w.heap.size 5 i0 1 Try.uB hi0 hz1 w.heap.size pre.length 10 (pre.map byteV) (by rfl) (ho.alloc _) ⟨wr.heap.size, 0, none⟩ 1 1 [.int .u8 ((cur % 128 + 128 : Nat) : Int)] (by rfl) (by rfl) (World.news_of_block (cs := #[.int .u8 ((cur % 128 + 128 : Nat) : Int)]) (t := 5) (fr := (0, 0)) (heap_alloc_new wr _)) (by simp [Value.oneCell']) hroom ?_; intro w2 hown2 hg2)
      go_roundw
      case rel => exact ⟨cur / 128, pre ++ [cur % 128 + 128], by go_num, by simp, by rw [List.append_assoc, List.singleton_append, ← sml_hi hlt]; exact HE.out, by omega, own_snoc rfl hown2, (hk.tr (Kept.alloc _ _ _ _ _)).newRow hg2 (fun i h => by cases h; exact Nat.le_refl _)⟩
      case measure => simp [intOf]; omega
    · rw [sml_lo (by omega)] at he
      have hroom : pre.length + 1 ≤ 10 := by rw [sml_lo (by omega)] at hpl; simp at hpl; omega
      have HE : Hid (pre ++ [cur] = sml n) := he
      clear he hpl
      go_wp2_with (at_builtin; refine wpList_append_own_spare _ (by rfl) _ _ 22 (by rfl) w.heap.size 5 i0 1 Try.uB hi0 hz1 w.heap.size pre.length 10 (pre.map byteV) (by rfl) (ho.alloc _) ⟨wr.heap.size, 0, none⟩ 1 1 [.int .u8 (cur : Int)] (by rfl) (by rfl) (World.news_of_block (cs := #[.int .u8 (cur : Int)]) (t := 5) (fr := (0, 0)) (heap_alloc_new wr _)) (by simp [Value.oneCell']) hroom ?_; intro w2 hown2 hg2)
      go_ret
      have e : (sml n).length = pre.length + 1 := by rw [← HE.out]; simp
      refine ⟨by rw [e]; rfl, ?_, (hk.tr (Kept.alloc _ _ _ _ _)).newRow hg2 (fun i h => by cases h; exact Nat.le_refl _)⟩
      rw [← HE.out]
      exact own_snoc rfl hown2

end Go.Proofs.Ytabikoipjaggbaa

/-
  append(own, b...): the bytes of the one, then the bytes of the other, in memory of the call's own.
-/
namespace Go.Proofs.Ytabikoipjaggbaa
open Go.RowKit Go.Lib Go.Deep
set_option linter.unusedVariables false
set_option linter.unusedSimpArgs false

/-- A slice of the call's own, nil or not: its bytes are L. -/
structure Mine (w : World) (base : Nat) (a : Option Addr) (n cap : Nat) (L : List Nat) : Prop where
  own : w.ownsRow base 5 1 (.slice a n cap) n (L.map byteV)
  nil : a = none → n = 0 ∧ cap = 0
  room : n ≤ cap
  max : cap ≤ 9223372036854775807
theorem mine_of {w : World} {base : Nat} {v : Value} {n : Nat} {L : List Nat} (h : w.ownsRow base 5 1 v n (L.map byteV)) : ∃ a cap, v = .slice a n cap ∧ Mine w base a n cap L := by
  rcases id h.2 with ⟨rfl, rfl⟩ | ⟨g, cap, cur, rfl, _, _, hle, hm, _, _⟩
  · exact ⟨none, 0, rfl, h, fun _ => ⟨rfl, rfl⟩, Nat.le_refl _, by omega⟩
  · unfold maxLen at hm
    exact ⟨some ⟨g, 0, none⟩, cap, rfl, h, fun e => (nomatch e), hle, by omega⟩
theorem Mine.by {w : World} {base : Nat} {a : Option Addr} {n cap : Nat} {L : List Nat} (h : Mine w base a n cap L) (hb : ∀ x ∈ L, x < 256) : By w a n L := by
  have hm := h.max
  have hr := h.room
  rcases id h.own.2 with ⟨e, rfl⟩ | ⟨g, cap', cur, e, _⟩
  · have hl : L = [] := List.length_eq_zero_iff.1 (by have := h.own.1; simpa using this)
    subst hl
    exact By.nil _ _
  · injection e with e1 e2 e3
    subst e1 e3
    exact Own.by h.own (by omega) hb
theorem Mine.new {w : World} {base : Nat} {a : Option Addr} {n cap : Nat} {L : List Nat} (h : Mine w base a n cap L) : ∀ k, (Value.slice a n cap).ownBlock = some k → base ≤ k := fun k hk => (h.own.lt k hk).1

theorem bytes_news {w : World} {b off m : Nat} {M : List Nat} (hl : M.length = m) (hc : ∀ i, i < m → w.cell? ⟨b, off + i, none⟩ = some (.int .u8 ((M.getD i 0 : Nat) : Int))) :
    ∀ j u, (M.map byteV)[j]? = some u → w.cell? ((⟨b, off, none⟩ : Addr).add j) = some u := by
  intro j u hu
  have hj : j < M.length := by have := (List.getElem?_eq_some_iff.1 hu).1; simpa using this
  rw [Addr.add_lit, hc j (by omega), ← hu]
  simp [hj]
theorem bytes_one (M : List Nat) : ∀ u ∈ M.map byteV, u.oneCell' = true := by
  intro u hu
  simp only [List.mem_map] at hu
  obtain ⟨x, _, rfl⟩ := hu
  rfl

theorem wpList_join {ops : Array Oper} {rest : List Oper} {o : Oper} {act : Act} {Q : Exit → Act → World → Prop} {w : World} (hgd : o.guard = none) (s x : Operand)
    (ho : o.op = .call { callee := .builtin .append, args := #[s, x], argTypes := #[22, 22] })
    (base : Nat) (v : Value) (n : Nat) (L : List Nat) (hs : act.eval s = v) (hown : w.ownsRow base 5 1 v n (L.map byteV))
    (a : Option Addr) (m c : Nat) (M : List Nat) (hx : act.eval x = .slice a m c) (hB : By w a m M) (ha : a = none → c = 0)
    (hnm : n + m ≤ 70368744177664) (hbase : base ≤ w.heap.size)
    (h : ∀ a' cap w', Mine w' base a' (n + m) cap (L ++ M) → w.grownBy w' v.ownBlock → wpList Try.prog ops Q rest (act.put o.dst (.slice a' (n + m) cap)) w') : wpList Try.prog ops Q (o :: rest) act w := by
  obtain ⟨i0, hi0, hz0, hz1, hz2⟩ := info_parts Try.info5
  have key : ∀ v' w', w'.ownsRow base 5 1 v' (n + m) ((L ++ M).map byteV) → w.grownBy w' v.ownBlock → wpList Try.prog ops Q rest (act.put o.dst v') w' := by
    intro v' w' h1 h2
    obtain ⟨a', cap, rfl, hm⟩ := mine_of h1
    exact h a' cap w' hm h2
  cases a with
  | none =>
    have hm0 : m = 0 := by
      by_cases hm : 0 < m
      · obtain ⟨b, off, e, _⟩ := hB.at_ hm
        cases e
      · omega
    subst hm0
    have hM : M = [] := List.length_eq_zero_iff.1 hB.size
    subst hM
    have hc := ha rfl
    subst hc
    refine wpList_append_own_none hgd s x 22 ho base 5 i0 1 Try.uB hi0 v n (L.map byteV) hs hown hx (key v w ?_ (World.grownBy.refl w _))
    simpa using hown
  | some ad =>
    by_cases hm : 0 < m
    · obtain ⟨b, off, e, hb, hc⟩ := hB.at_ hm
      injection e with e
      subst e
      refine wpList_append_own w hgd s x 22 ho base 5 i0 _ 1 1 Try.uB hi0 hz0 hz1 hz2 rfl (by omega) v n (L.map byteV) hs hown ⟨b, off, none⟩ m c (M.map byteV) hx (by simp [hB.size]) (bytes_news hB.size hc) (bytes_one M) (by unfold maxLen; omega) (by omega) hbase ?_
      intro v' w' h1 h2 _
      exact key v' w' (by rw [List.map_append]; exact h1) h2
    · have hm0 : m = 0 := by omega
      subst hm0
      have hM : M = [] := List.length_eq_zero_iff.1 hB.size
      subst hM
      refine wpList_append_own w hgd s x 22 ho base 5 i0 _ 1 1 Try.uB hi0 hz0 hz1 hz2 rfl (by omega) v n (L.map byteV) hs hown ad 0 c [] hx (by simp) (fun j u hu => by simp at hu) (fun u hu => by cases hu) (by unfold maxLen; omega) (by omega) hbase ?_
      intro v' w' h1 h2 _
      exact key v' w' (by simpa using h1) h2

/-- What is known of a slice of bytes that came in. -/
structure Come (w : World) (a : Option Addr) (len cap : Nat) (L : List Nat) : Prop where
  by_ : By w a len L
  nil : a = none → cap = 0
  room : len ≤ cap
  max : cap ≤ 9223372036854775807
theorem come_of {w : World} {a : Option Addr} {len cap : Nat} {zs : List Int}
    (h : (a = none ∧ len = 0 ∧ cap = 0 ∧ zs = []) ∨ ∃ x, a = some x ∧ len ≤ cap ∧ cap ≤ maxLen ∧ zs.length = cap ∧ (∀ i, i < zs.length → w.cell? (x.add i) = some (.int .u8 (zs.getD i 0))) ∧ ∀ n ∈ zs, (Lit.int .u8 n).wf = true) :
    Come w a len cap ((zs.take len).map Int.toNat) := by
  have hb := by_of h
  rcases h with ⟨rfl, rfl, rfl, rfl⟩ | ⟨x, rfl, hl, hm, hz, hcell, hwz⟩
  · exact ⟨hb, fun _ => rfl, Nat.le_refl _, by omega⟩
  · unfold maxLen at hm
    exact ⟨hb, fun e => (nomatch e), hl, by omega⟩

end Go.Proofs.Ytabikoipjaggbaa

