/-
  Texts joined: some of those that the proofs of this seat stand on.
-/
import Derived.Test.YtlabjamkaebnjaaCrcJ
import Derived.OwnWalk
import Derived.Deep.DeepAppendRoom
import Derived.Deep.AppendLies
import Derived.Laws.AppendOwnNone
/-
  THE CONTRACT of raw.Small.
-/
namespace Go.Proofs.Ytlabjamkaebnjaa
open Go.RowKit Go.Lib Go.Deep
set_option linter.unusedVariables false
set_option linter.unusedSimpArgs false

/-- A slice of the call's own: its bytes are L. -/
abbrev Own (w : World) (base g n cap : Nat) (L : List Nat) : Prop := w.ownsRow base 5 1 (.slice (some ⟨g, 0, none⟩) n cap) n (L.map byteV)
theorem Own.by {w : World} {base g n cap : Nat} {L : List Nat} (h : Own w base g n cap L) (hn : n ≤ 9223372036854775807) (hb : ∀ x ∈ L, x < 256) : By w (some ⟨g, 0, none⟩) n L := by
  have hl : L.length = n := by have := h.1; simpa using this
  refine ⟨hl, hn, hb, fun hp => ⟨g, 0, rfl, (h.lt g rfl).2, fun i hi => ?_⟩⟩
  have := h.cellAt i (by omega)
  rw [Nat.zero_add]
  rw [this]
  have hi' : i < L.length := by omega
  simp [hi']
theorem own_snoc {w : World} {base g n cap : Nat} {L : List Nat} {x : Nat} (hn : n = L.length) (h : w.ownsRow base 5 1 (.slice (some ⟨g, 0, none⟩) (n + 1) cap) (n + 1) (L.map byteV ++ [.int .u8 (x : Int)])) : Own w base g (L ++ [x]).length cap (L ++ [x]) := by
  subst hn
  unfold Own
  rw [List.length_append, List.map_append]
  exact h
theorem or128 : ∀ x, x < 256 → x ||| 128 = x % 128 + 128 := by decide +kernel
theorem byte_or (n : Nat) : bits .or .u8 ((n : Int) % 256) 128 = ((n % 128 + 128 : Nat) : Int) := by
  have h := u8_or_nat (n % 256) 128 (by omega) (by omega)
  rw [or128 _ (by omega)] at h
  have e : ((n : Int) % 256) = ((n % 256 : Nat) : Int) := by omega
  rw [e]
  refine Eq.trans h ?_
  omega

set_option maxRecDepth 100000 in
set_option maxHeartbeats 1000000 in
theorem small_any (n : Nat) (w : World) (hn : n < 18446744073709551616) :
    Calls Try.prog 41 #[.int .u64 n] w fun e w' => e = .returned (.slice (some ⟨w.heap.size, 0, none⟩) (sml n).length 10) ∧ Own w' w.heap.size w.heap.size (sml n).length 10 (sml n) ∧ Kept w w' none := by
  obtain ⟨i0, hi0, hz0, hz1, hz2⟩ := info_parts Try.info5
  obtain ⟨w1, hmk, hown, hg⟩ := run_make_own (P := Try.prog) w w.heap.size 22 5 i0 _ 1 Try.uB hi0 hz0 hz1 .i64 .i64 10 (by omega) (by unfold maxLen; omega) (Nat.le_refl _)
  rw [show ((10 : Nat) : Int) = 10 from rfl] at hmk
  have hl10 := sml_len10 n hn
  go_enter Try.func41, Try.ntmps41
  go_wp2
  clear hmk
  go_loopw [0, 3] (fun nv lv wr => ∃ (cur : Nat) (pre : List Nat), nv = .int .u64 cur ∧ lv = .slice (some ⟨w.heap.size, 0, none⟩) pre.length 10 ∧ pre ++ sml cur = sml n ∧ cur < 18446744073709551616 ∧ Own wr w.heap.size w.heap.size pre.length 10 pre ∧ Kept w wr none) (fun nv _ _ => (intOf nv).toNat)
  case atStart => exact ⟨n, [], rfl, rfl, rfl, hn, hown, hg⟩
  case round =>
    obtain ⟨cur, pre, rfl, rfl, he, hc, ho, hk⟩ := hrel
    have hpl : pre.length + (sml cur).length = (sml n).length := by rw [← he]; simp
    have hp := sml_pos cur
    by_cases hlt : 128 ≤ cur
    · have hor := byte_or cur
      have HE : Hid (pre ++ sml cur = sml n) := he
      have hroom : pre.length + 1 ≤ 10 := by omega
      clear he hpl
      go_wp2_with (at_builtin; refine wpList_append_own_spare _ (by rfl) _ _ 22 (by rfl) w.heap.size 5 i0 1 Try.uB hi0 hz1 w.heap.size pre.length 10 (pre.map byteV) (by rfl) (ho.alloc _) ⟨wr.heap.size, 0, none⟩ 1 1 [.int .u8 ((cur % 128 + 128 : Nat) : Int)] (by rfl) (by rfl) (World.news_of_block (cs := #[.int .u8 ((cur % 128 + 128 : Nat) : Int)]) (t := 5) (fr := (0, 0)) (heap_alloc_new wr _)) (by simp [Value.oneCell']) hroom ?_; intro w2 hown2 hg2)
      go_roundw
      case rel => exact ⟨cur / 128, pre ++ [cur % 128 + 128], by go_num, by simp, by rw [List.append_assoc, List.singleton_append, ← sml_hi hlt]; exact HE.out, by omega, own_snoc rfl hown2, (hk.tr (Kept.alloc _ _ _ _ _)).newRow hg2 (fun i h => by cases h; exact Nat.le_refl _)⟩
      case measure => simp [intOf]; omega
    · rw [sml_lo (by omega)] at he
      have hroom : pre.length + 1 ≤ 10 := by rw [sml_lo (by omega)] at hpl; simp at hpl; omega
      have HE : Hid (pre ++ [cur] = sml n) := he
      clear he hpl
      go_wp2_with (at_builtin; refine wpList_append_own_spare _ (by rfl) _ _ 22 (by rfl) w.heap.size 5 i0 1 Try.uB hi0 hz1 w.heap.size pre.length 10 (pre.map byteV) (by rfl) (ho.alloc _) ⟨wr.heap.size, 0, none⟩ 1 1 [.int .u8 (cur : Int)] (by rfl) (by rfl) (World.news_of_block (cs := #[.int .u8 (cur : Int)]) (t := 5) (fr := (0, 0)) (heap_alloc_new wr _)) (by simp [Value.oneCell']) hroom ?_; intro w2 hown2 hg2)
      go_ret
      have e : (sml n).length = pre.length + 1 := by rw [← HE.out]; simp
      refine ⟨by rw [e]; rfl, ?_, (hk.tr (Kept.alloc _ _ _ _ _)).newRow hg2 (fun i h => by cases h; exact Nat.le_refl _)⟩
      rw [← HE.out]
      exact own_snoc rfl hown2

end Go.Proofs.Ytlabjamkaebnjaa

/-
  append(own, b...): the bytes of the one, then the bytes of the other, in memory of the call's own.
-/
namespace Go.Proofs.Ytlabjamkaebnjaa
open Go.RowKit Go.Lib Go.Deep
set_option linter.unusedVariables false
set_option linter.unusedSimpArgs false

/-- A slice of the call's own, nil or not: its bytes are L. -/
structure Mine (w : World) (base : Nat) (a : Option Addr) (n cap : Nat) (L : List Nat) : Prop where
  own : w.ownsRow base 5 1 (.slice a n cap) n (L.map byteV)
  nil : a = none → n = 0 ∧ cap = 0
  room : n ≤ cap
  max : cap ≤ 9223372036854775807
theorem mine_of {w : World} {base : Nat} {v : Value} {n : Nat} {L : List Nat} (h : w.ownsRow base 5 1 v n (L.map byteV)) : ∃ a cap, v = .slice a n cap ∧ Mine w base a n cap L := by
  rcases id h.2 with ⟨rfl, rfl⟩ | ⟨g, cap, cur, rfl, _, _, hle, hm, _, _⟩
  · exact ⟨none, 0, rfl, h, fun _ => ⟨rfl, rfl⟩, Nat.le_refl _, by omega⟩
  · unfold maxLen at hm
    exact ⟨some ⟨g, 0, none⟩, cap, rfl, h, fun e => (nomatch e), hle, by omega⟩
theorem Mine.by {w : World} {base : Nat} {a : Option Addr} {n cap : Nat} {L : List Nat} (h : Mine w base a n cap L) (hb : ∀ x ∈ L, x < 256) : By w a n L := by
  have hm := h.max
  have hr := h.room
  rcases id h.own.2 with ⟨e, rfl⟩ | ⟨g, cap', cur, e, _⟩
  · have hl : L = [] := List.length_eq_zero_iff.1 (by have := h.own.1; simpa using this)
    subst hl
    exact By.nil _ _
  · injection e with e1 e2 e3
    subst e1 e3
    exact Own.by h.own (by omega) hb
theorem Mine.new {w : World} {base : Nat} {a : Option Addr} {n cap : Nat} {L : List Nat} (h : Mine w base a n cap L) : ∀ k, (Value.slice a n cap).ownBlock = some k → base ≤ k := fun k hk => (h.own.lt k hk).1

theorem bytes_news {w : World} {b off m : Nat} {M : List Nat} (hl : M.length = m) (hc : ∀ i, i < m → w.cell? ⟨b, off + i, none⟩ = some (.int .u8 ((M.getD i 0 : Nat) : Int))) :
    ∀ j u, (M.map byteV)[j]? = some u → w.cell? ((⟨b, off, none⟩ : Addr).add j) = some u := by
  intro j u hu
  have hj : j < M.length := by have := (List.getElem?_eq_some_iff.1 hu).1; simpa using this
  rw [Addr.add_lit, hc j (by omega), ← hu]
  simp [hj]
theorem bytes_one (M : List Nat) : ∀ u ∈ M.map byteV, u.oneCell' = true := by
  intro u hu
  simp only [List.mem_map] at hu
  obtain ⟨x, _, rfl⟩ := hu
  rfl

theorem wpList_join {ops : Array Oper} {rest : List Oper} {o : Oper} {act : Act} {Q : Exit → Act → World → Prop} {w : World} (hgd : o.guard = none) (s x : Operand)
    (ho : o.op = .call { callee := .builtin .append, args := #[s, x], argTypes := #[22, 22] })
    (base : Nat) (v : Value) (n : Nat) (L : List Nat) (hs : act.eval s = v) (hown : w.ownsRow base 5 1 v n (L.map byteV))
    (a : Option Addr) (m c : Nat) (M : List Nat) (hx : act.eval x = .slice a m c) (hB : By w a m M) (ha : a = none → c = 0)
    (hnm : n + m ≤ 70368744177664) (hbase : base ≤ w.heap.size)
    (h : ∀ a' cap w', Mine w' base a' (n + m) cap (L ++ M) → w.grownBy w' v.ownBlock → wpList Try.prog ops Q rest (act.put o.dst (.slice a' (n + m) cap)) w') : wpList Try.prog ops Q (o :: rest) act w := by
  obtain ⟨i0, hi0, hz0, hz1, hz2⟩ := info_parts Try.info5
  have key : ∀ v' w', w'.ownsRow base 5 1 v' (n + m) ((L ++ M).map byteV) → w.grownBy w' v.ownBlock → wpList Try.prog ops Q rest (act.put o.dst v') w' := by
    intro v' w' h1 h2
    obtain ⟨a', cap, rfl, hm⟩ := mine_of h1
    exact h a' cap w' hm h2
  cases a with
  | none =>
    have hm0 : m = 0 := by
      by_cases hm : 0 < m
      · obtain ⟨b, off, e, _⟩ := hB.at_ hm
        cases e
      · omega
    subst hm0
    have hM : M = [] := List.length_eq_zero_iff.1 hB.size
    subst hM
    have hc := ha rfl
    subst hc
    refine wpList_append_own_none hgd s x 22 ho base 5 i0 1 Try.uB hi0 v n (L.map byteV) hs hown hx (key v w ?_ (World.grownBy.refl w _))
    simpa using hown
  | some ad =>
    by_cases hm : 0 < m
    · obtain ⟨b, off, e, hb, hc⟩ := hB.at_ hm
      injection e with e
      subst e
      refine wpList_append_own w hgd s x 22 ho base 5 i0 _ 1 1 Try.uB hi0 hz0 hz1 hz2 rfl (by omega) v n (L.map byteV) hs hown ⟨b, off, none⟩ m c (M.map byteV) hx (by simp [hB.size]) (bytes_news hB.size hc) (bytes_one M) (by unfold maxLen; omega) (by omega) hbase ?_
      intro v' w' h1 h2 _
      exact key v' w' (by rw [List.map_append]; exact h1) h2
    · have hm0 : m = 0 := by omega
      subst hm0
      have hM : M = [] := List.length_eq_zero_iff.1 hB.size
      subst hM
      refine wpList_append_own w hgd s x 22 ho base 5 i0 _ 1 1 Try.uB hi0 hz0 hz1 hz2 rfl (by omega) v n (L.map byteV) hs hown ad 0 c [] hx (by simp) (fun j u hu => by simp at hu) (fun u hu => by cases hu) (by unfold maxLen; omega) (by omega) hbase ?_
      intro v' w' h1 h2 _
      exact key v' w' (by simpa using h1) h2

/-- What is known of a slice of bytes that came in. -/
structure Come (w : World) (a : Option Addr) (len cap : Nat) (L : List Nat) : Prop where
  by_ : By w a len L
  nil : a = none → cap = 0
  room : len ≤ cap
  max : cap ≤ 9223372036854775807
theorem come_of {w : World} {a : Option Addr} {len cap : Nat} {zs : List Int}
    (h : (a = none ∧ len = 0 ∧ cap = 0 ∧ zs = []) ∨ ∃ x, a = some x ∧ len ≤ cap ∧ cap ≤ maxLen ∧ zs.length = cap ∧ (∀ i, i < zs.length → w.cell? (x.add i) = some (.int .u8 (zs.getD i 0))) ∧ ∀ n ∈ zs, (Lit.int .u8 n).wf = true) :
    Come w a len cap ((zs.take len).map Int.toNat) := by
  have hb := by_of h
  rcases h with ⟨rfl, rfl, rfl, rfl⟩ | ⟨x, rfl, hl, hm, hz, hcell, hwz⟩
  · exact ⟨hb, fun _ => rfl, Nat.le_refl _, by omega⟩
  · unfold maxLen at hm
    exact ⟨hb, fun e => (nomatch e), hl, by omega⟩

end Go.Proofs.Ytlabjamkaebnjaa

/-
  THE CONTRACTS of raw.mayEnd and raw.Read.
-/
namespace Go.Proofs.Ytlabjamkaebnjaa
open Go.RowKit Go.Lib Go.Deep
set_option linter.unusedVariables false
set_option linter.unusedSimpArgs false

theorem may_yes (x i : Nat) (w : World) (hx : x < 256) (hi : i < 10) (h1 : 0 < x ∨ i = 0) (h2 : x < 2 ∨ i < 9) :
    Calls Try.prog 86 #[.int .u8 x, .int .i64 i] w fun e w' => e = .returned (.bool true) ∧ w' = w := by
  by_cases c1 : 0 < x
  · by_cases c2 : x < 2
    · go_enter Try.func86, Try.ntmps86
      go_wp2
      go_ret
      exact ⟨rfl, rfl⟩
    · have c3 : i < 9 := by omega
      go_enter Try.func86, Try.ntmps86
      go_wp2
      go_ret
      refine ⟨show Ending.returned (.bool (decide ((x : Int) < 2) || decide ((i : Int) < 9))) = _ from ret_bool ?_, rfl⟩
      simp
      omega
  · have c2 : x = 0 := by omega
    have c3 : i = 0 := by omega
    subst c2 c3
    go_enter Try.func86, Try.ntmps86
    go_wp2
    go_ret
    exact ⟨rfl, rfl⟩
theorem may_no (x i : Nat) (w : World) (hx : x < 256) (hi : i < 10) (h : (x = 0 ∧ 0 < i) ∨ (2 ≤ x ∧ 9 ≤ i)) :
    Calls Try.prog 86 #[.int .u8 x, .int .i64 i] w fun e w' => e = .returned (.bool false) ∧ w' = w := by
  rcases h with ⟨h1, h2⟩ | ⟨h1, h2⟩
  · subst h1
    have hne : ((i : Int) == 0) = false := by simp; omega
    go_enter Try.func86, Try.ntmps86
    go_wp2
    go_ret
    exact ⟨rfl, rfl⟩
  · go_enter Try.func86, Try.ntmps86
    go_wp2
    go_ret
    refine ⟨show Ending.returned (.bool (decide ((x : Int) < 2) || decide ((i : Int) < 9))) = _ from ret_bool ?_, rfl⟩
    simp
    omega
theorem wrapU64 (n : Int) : IntKind.u64.wrap n = n % 18446744073709551616 := by simp [IntKind.wrap, IntKind.bits, IntKind.signed]
theorem andn128 : ∀ x, x < 256 → x &&& (255 - 128) = x % 128 := by decide +kernel
theorem byte_andn (x : Nat) (hx : x < 256) : bits .andNot .u8 (x : Int) 128 = ((x % 128 : Nat) : Int) := by
  have h := u8_andNot_nat x 128 hx (by omega)
  rw [andn128 x hx] at h
  exact h
/-- Seven bits more. -/
theorem read_or (v x k : Nat) (hv : v < 128 ^ k) (hx : x < 128) (hk : k ≤ 8 ∨ (k = 9 ∧ x < 2)) : bits .or .u64 (v : Int) (IntKind.u64.wrap ((x : Int) * 2 ^ (7 * k))) = ((v + 128 ^ k * x : Nat) : Int) := by
  rw [wrapU64]
  have hp : (2 : Nat) ^ (7 * k) = 128 ^ k := by rw [Nat.pow_mul]
  have hm2 : 128 ^ k * x < 18446744073709551616 := by
    rcases hk with hk | ⟨rfl, hk⟩
    · have h7 : 128 ^ k ≤ 128 ^ 8 := Nat.pow_le_pow_right (by omega) (by omega)
      exact Nat.lt_of_le_of_lt (Nat.mul_le_mul h7 (show x ≤ 127 by omega)) (by decide)
    · exact Nat.lt_of_le_of_lt (Nat.mul_le_mul_left _ (show x ≤ 1 by omega)) (by decide)
  have hv2 : v < 18446744073709551616 := by
    have h9 : 128 ^ k ≤ 128 ^ 9 := Nat.pow_le_pow_right (by omega) (by omega)
    exact Nat.lt_of_lt_of_le hv (Nat.le_trans h9 (by decide))
  have e : ((x : Int) * 2 ^ (7 * k) % 18446744073709551616) = ((128 ^ k * x : Nat) : Int) := by
    have : ((x : Int) * 2 ^ (7 * k)) = ((128 ^ k * x : Nat) : Int) := by rw [← hp]; simp [Int.mul_comm]
    rw [this]
    omega
  rw [e, u64_or_nat v _ hv2 hm2, Nat.or_comm, nat_join (7 * k) (128 ^ k * x) v (by rw [hp]; exact Nat.mul_mod_right _ _) (by rw [hp]; exact hv), Nat.add_comm]

theorem rd_none {L : List Nat} (h : ¬ okR L = true) : rdN L = 0 ∧ rdK L = 0 ∧ rdE L = 8 := by
  unfold rdN rdK rdE; rw [if_neg h, if_neg h, if_neg h]; exact ⟨rfl, rfl, rfl⟩
theorem rd_some {L : List Nat} (h : okR L = true) : rdN L = v7 (L.take (fe L + 1)) ∧ rdK L = fe L + 1 ∧ rdE L = 0 := by
  unfold rdN rdK rdE; rw [if_pos h, if_pos h, if_pos h]; exact ⟨rfl, rfl, rfl⟩
theorem read_empty {a : Option Addr} (c : Nat) (w : World) (ha : a = none → c = 0) (hc : c ≤ 9223372036854775807) :
    Calls Try.prog 81 #[.slice a 0 c] w fun e w' => e = .returned (.tuple #[.int .u64 0, .int .i64 0, .int .i64 8]) ∧ ∃ m, w' = w.drewN m := by
  cases a with
  | none =>
    have := ha rfl
    subst this
    go_enter Try.func81, Try.ntmps81
    go_wp2
    go_loopw [14] (fun i wr => i = .int .i64 0 ∧ ∃ m, wr = w.drewN m) (fun _ _ => 0)
    case atStart => exact ⟨rfl, 0, rfl⟩
    case round =>
      obtain ⟨rfl, m, rfl⟩ := hrel
      go_wp2
      go_ret3
      exact ⟨rfl, _, rfl⟩
  | some x =>
    obtain ⟨b, off, p⟩ := x
    go_enter Try.func81, Try.ntmps81
    go_wp2
    go_loopw [14] (fun i wr => i = .int .i64 0 ∧ ∃ m, wr = w.drewN m) (fun _ _ => 0)
    case atStart => exact ⟨rfl, 0, rfl⟩
    case round =>
      obtain ⟨rfl, m, rfl⟩ := hrel
      go_wp2
      go_ret3
      exact ⟨rfl, _, rfl⟩
set_option maxRecDepth 100000 in
set_option maxHeartbeats 1000000 in
theorem read_short {b off len c : Nat} {L : List Nat} {w : World} (hB : By w (some ⟨b, off, none⟩) len L) (hp : 0 < len) (hc : len ≤ c) (hc2 : c ≤ 9223372036854775807) (hlen : len ≤ 10) :
    Calls Try.prog 81 #[.slice (some ⟨b, off, none⟩) len c] w fun e w' => e = .returned (.tuple #[.int .u64 ((rdN L : Nat) : Int), .int .i64 ((rdK L : Nat) : Int), .int .i64 ((rdE L : Nat) : Int)]) ∧ ∃ m, w' = w.drewN m := by
  obtain ⟨b', off', e, hb, hcell⟩ := hB.at_ hp
  injection e with e
  injection e with e1 e2
  subst e1 e2
  have HL : Hid (L.length = len) := hB.size
  have HG : Hid (∀ i, L.getD i 0 < 256) := hB.getD
  have HC : Hid (∀ i, i < len → w.cell? ⟨b, off + i, none⟩ = some (.int .u8 ((L.getD i 0 : Nat) : Int))) := hcell
  have hl2 := hB.max
  clear hB hcell
  obtain ⟨q, hq⟩ : ∃ q : Nat, q = len := ⟨_, rfl⟩
  have HQ : Hid (q = min len 10) := by show _ = _; omega
  go_enter Try.func81, Try.ntmps81
  go_wp2
  go_loopw [5, 14] (fun n i wr => ∃ k : Nat, ∃ v : Int, k ≤ q ∧ n = .int .u64 v ∧ (k ≤ 9 → v = ((v7 (L.take k) : Nat) : Int)) ∧ i = .int .i64 k ∧ (∀ j, j < k → 128 ≤ L.getD j 0) ∧ ∃ m, wr = w.drewN m) (fun _ i _ => q - (intOf i).toNat)
  case atStart => exact ⟨0, 0, Nat.zero_le _, rfl, fun _ => by simp [v7], rfl, fun j hj => absurd hj (by omega), 0, rfl⟩
  case round =>
    obtain ⟨k, v, hk, rfl, hv, rfl, hge, m, rfl⟩ := hrel
    have HGE : Hid (∀ j, j < k → 128 ≤ L.getD j 0) := hge
    clear hge
    by_cases hlt : k < q
    · have hkl : k < len := by omega
      have hcell := HC.out k hkl
      have hx := HG.out k
      have hv' := hv (by omega)
      subst hv'
      clear hv
      have hand := byte_andn (L.getD k 0) hx
      obtain ⟨V, hV⟩ : ∃ V : Int, V = bits .or .u64 ((v7 (L.take k) : Nat) : Int) (IntKind.u64.wrap (((L.getD k 0 % 128 : Nat) : Int) * 2 ^ (7 * k))) := ⟨_, rfl⟩
      have HV : Hid (k ≤ 8 ∨ (k = 9 ∧ L.getD k 0 % 128 < 2) → V = ((v7 (L.take (k + 1)) : Nat) : Int)) := by
        intro h
        rw [hV, read_or _ _ k (v7_take_lt L k (by rw [HL.out]; omega)) (by omega) h, ← v7_take L k (by rw [HL.out]; exact hkl)]
      have hV' := hV.symm
      clear hV
      obtain ⟨y, hy⟩ : ∃ y, y = L.getD k 0 % 128 := ⟨_, rfl⟩
      rw [← hy] at hand hV' HV
      obtain ⟨x, hxe⟩ : ∃ x, x = L.getD k 0 := ⟨_, rfl⟩
      rw [← hxe] at hcell hx hand hy
      have HY : Hid (y = x % 128) := hy
      have hy2 : y < 128 := by omega
      clear hy
      have HXE : Hid (x = L.getD k 0) := hxe
      clear hxe
      generalize v7 (L.take k) = v0 at hV' ⊢
      by_cases hx2 : x < 128
      · have HF : Hid (fe L = k) := fe_eq L k HGE.out (by rw [← HXE.out]; exact hx2)
        by_cases hok : (0 < x ∨ k = 0) ∧ (x < 2 ∨ k < 9)
        · obtain ⟨g1, g2⟩ := hok
          have HO : Hid (okR L = true) := by
            show _
            rw [okR_iff, HF.out, ← HXE.out, HL.out]
            exact ⟨hkl, by omega, g1, g2⟩
          go_wp2_with (go_at_call 86; refine (may_yes x k _ hx (by omega) g1 g2).mono ?_; rintro e w3 ⟨rfl, rfl⟩)
          go_ret3
          obtain ⟨r1, r2, r3⟩ := rd_some HO.out
          rw [r1, r2, r3, HF.out, ← HV.out (by have := HY.out; omega)]
          exact ⟨by simp, _, rfl⟩
        · have g : (x = 0 ∧ 0 < k) ∨ (2 ≤ x ∧ 9 ≤ k) := by omega
          have HO : Hid (¬ okR L = true) := by
            show _
            rw [okR_iff, HF.out, ← HXE.out, HL.out]
            rintro ⟨_, _, g1, g2⟩
            exact hok ⟨g1, g2⟩
          go_wp2_with (go_at_call 86; refine (may_no x k _ hx (by omega) g).mono ?_; rintro e w3 ⟨rfl, rfl⟩)
          go_ret3
          obtain ⟨r1, r2, r3⟩ := rd_none HO.out
          rw [r1, r2, r3]
          exact ⟨rfl, _, rfl⟩
      · go_wp2
        go_roundw
        case rel =>
          refine ⟨k + 1, V, by omega, rfl, fun h9 => HV.out (by omega), by go_num, fun j hj => ?_, _, rfl⟩
          by_cases hjk : j < k
          · exact HGE.out j hjk
          · have : j = k := by omega
            subst this
            rw [← HXE.out]; omega
        case measure => simp [intOf]; omega
    · have HO : Hid (¬ okR L = true) := by
        show _
        rw [okR_iff]
        have h1 := fe_low L k HGE.out
        have h2 := HL.out
        have h3 := HQ.out
        rintro ⟨a1, a2, _, _⟩
        omega
      go_wp2
      go_ret3
      obtain ⟨r1, r2, r3⟩ := rd_none HO.out
      rw [r1, r2, r3]
      exact ⟨rfl, _, rfl⟩
set_option maxRecDepth 100000 in
set_option maxHeartbeats 1000000 in
theorem read_long {b off len c : Nat} {L : List Nat} {w : World} (hB : By w (some ⟨b, off, none⟩) len L) (hp : 0 < len) (hc : len ≤ c) (hc2 : c ≤ 9223372036854775807) (hlen : 10 < len) :
    Calls Try.prog 81 #[.slice (some ⟨b, off, none⟩) len c] w fun e w' => e = .returned (.tuple #[.int .u64 ((rdN L : Nat) : Int), .int .i64 ((rdK L : Nat) : Int), .int .i64 ((rdE L : Nat) : Int)]) ∧ ∃ m, w' = w.drewN m := by
  obtain ⟨b', off', e, hb, hcell⟩ := hB.at_ hp
  injection e with e
  injection e with e1 e2
  subst e1 e2
  have HL : Hid (L.length = len) := hB.size
  have HG : Hid (∀ i, L.getD i 0 < 256) := hB.getD
  have HC : Hid (∀ i, i < len → w.cell? ⟨b, off + i, none⟩ = some (.int .u8 ((L.getD i 0 : Nat) : Int))) := hcell
  have hl2 := hB.max
  clear hB hcell
  obtain ⟨q, hq⟩ : ∃ q : Nat, q = 10 := ⟨_, rfl⟩
  have HQ : Hid (q = min len 10) := by show _ = _; omega
  go_enter Try.func81, Try.ntmps81
  go_wp2
  go_loopw [5, 14] (fun n i wr => ∃ k : Nat, ∃ v : Int, k ≤ q ∧ n = .int .u64 v ∧ (k ≤ 9 → v = ((v7 (L.take k) : Nat) : Int)) ∧ i = .int .i64 k ∧ (∀ j, j < k → 128 ≤ L.getD j 0) ∧ ∃ m, wr = w.drewN m) (fun _ i _ => q - (intOf i).toNat)
  case atStart => exact ⟨0, 0, Nat.zero_le _, rfl, fun _ => by simp [v7], rfl, fun j hj => absurd hj (by omega), 0, rfl⟩
  case round =>
    obtain ⟨k, v, hk, rfl, hv, rfl, hge, m, rfl⟩ := hrel
    have HGE : Hid (∀ j, j < k → 128 ≤ L.getD j 0) := hge
    clear hge
    by_cases hlt : k < q
    · have hkl : k < len := by omega
      have hcell := HC.out k hkl
      have hx := HG.out k
      have hv' := hv (by omega)
      subst hv'
      clear hv
      have hand := byte_andn (L.getD k 0) hx
      obtain ⟨V, hV⟩ : ∃ V : Int, V = bits .or .u64 ((v7 (L.take k) : Nat) : Int) (IntKind.u64.wrap (((L.getD k 0 % 128 : Nat) : Int) * 2 ^ (7 * k))) := ⟨_, rfl⟩
      have HV : Hid (k ≤ 8 ∨ (k = 9 ∧ L.getD k 0 % 128 < 2) → V = ((v7 (L.take (k + 1)) : Nat) : Int)) := by
        intro h
        rw [hV, read_or _ _ k (v7_take_lt L k (by rw [HL.out]; omega)) (by omega) h, ← v7_take L k (by rw [HL.out]; exact hkl)]
      have hV' := hV.symm
      clear hV
      obtain ⟨y, hy⟩ : ∃ y, y = L.getD k 0 % 128 := ⟨_, rfl⟩
      rw [← hy] at hand hV' HV
      obtain ⟨x, hxe⟩ : ∃ x, x = L.getD k 0 := ⟨_, rfl⟩
      rw [← hxe] at hcell hx hand hy
      have HY : Hid (y = x % 128) := hy
      have hy2 : y < 128 := by omega
      clear hy
      have HXE : Hid (x = L.getD k 0) := hxe
      clear hxe
      generalize v7 (L.take k) = v0 at hV' ⊢
      by_cases hx2 : x < 128
      · have HF : Hid (fe L = k) := fe_eq L k HGE.out (by rw [← HXE.out]; exact hx2)
        by_cases hok : (0 < x ∨ k = 0) ∧ (x < 2 ∨ k < 9)
        · obtain ⟨g1, g2⟩ := hok
          have HO : Hid (okR L = true) := by
            show _
            rw [okR_iff, HF.out, ← HXE.out, HL.out]
            exact ⟨hkl, by omega, g1, g2⟩
          go_wp2_with (go_at_call 86; refine (may_yes x k _ hx (by omega) g1 g2).mono ?_; rintro e w3 ⟨rfl, rfl⟩)
          go_ret3
          obtain ⟨r1, r2, r3⟩ := rd_some HO.out
          rw [r1, r2, r3, HF.out, ← HV.out (by have := HY.out; omega)]
          exact ⟨by simp, _, rfl⟩
        · have g : (x = 0 ∧ 0 < k) ∨ (2 ≤ x ∧ 9 ≤ k) := by omega
          have HO : Hid (¬ okR L = true) := by
            show _
            rw [okR_iff, HF.out, ← HXE.out, HL.out]
            rintro ⟨_, _, g1, g2⟩
            exact hok ⟨g1, g2⟩
          go_wp2_with (go_at_call 86; refine (may_no x k _ hx (by omega) g).mono ?_; rintro e w3 ⟨rfl, rfl⟩)
          go_ret3
          obtain ⟨r1, r2, r3⟩ := rd_none HO.out
          rw [r1, r2, r3]
          exact ⟨rfl, _, rfl⟩
      · go_wp2
        go_roundw
        case rel =>
          refine ⟨k + 1, V, by omega, rfl, fun h9 => HV.out (by omega), by go_num, fun j hj => ?_, _, rfl⟩
          by_cases hjk : j < k
          · exact HGE.out j hjk
          · have : j = k := by omega
            subst this
            rw [← HXE.out]; omega
        case measure => simp [intOf]; omega
    · have HO : Hid (¬ okR L = true) := by
        show _
        rw [okR_iff]
        have h1 := fe_low L k HGE.out
        have h2 := HL.out
        have h3 := HQ.out
        rintro ⟨a1, a2, _, _⟩
        omega
      go_wp2
      go_ret3
      obtain ⟨r1, r2, r3⟩ := rd_none HO.out
      rw [r1, r2, r3]
      exact ⟨rfl, _, rfl⟩
theorem read_any {a : Option Addr} {len c : Nat} {L : List Nat} {w : World} (hB : By w a len L) (ha : a = none → c = 0) (hc : len ≤ c) (hc2 : c ≤ 9223372036854775807) :
    Calls Try.prog 81 #[.slice a len c] w fun e w' => e = .returned (.tuple #[.int .u64 ((rdN L : Nat) : Int), .int .i64 ((rdK L : Nat) : Int), .int .i64 ((rdE L : Nat) : Int)]) ∧ ∃ m, w' = w.drewN m := by
  by_cases h : 0 < len
  · obtain ⟨b, off, rfl, _, _⟩ := hB.at_ h
    by_cases h10 : len ≤ 10
    · exact read_short hB h hc hc2 h10
    · exact read_long hB h hc hc2 (by omega)
  · have e0 : len = 0 := by omega
    subst e0
    have e1 : L = [] := List.length_eq_zero_iff.1 hB.size
    subst e1
    exact read_empty c w ha hc2

end Go.Proofs.Ytlabjamkaebnjaa

