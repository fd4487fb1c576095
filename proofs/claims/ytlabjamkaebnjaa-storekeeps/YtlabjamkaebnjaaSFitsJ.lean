/-
  Texts joined: some of those that the proofs of this seat stand on.
-/
import Derived.Test.YtlabjamkaebnjaaMathsJ
import Derived.Test.YtlabjamkaebnjaaSPhase
import Derived.Deep.RegionHeld2
import Derived.WalkMore
import Derived.Laws.EntriesVeiled
import Derived.Deep.LoopGhost
import Derived.Test.YtlabjamkaebnjaaCrcJ
import Derived.Lib.LaidTab
import Derived.Test.YtlabjamkaebnjaaSmallJ
import Derived.Test.YtlabjamkaebnjaaSep
import Derived.Maps.AppendAt
/-
  Of the text Fits: what this stage needs (culled by a program).
-/
namespace Go.Proofs.Ytlabjamkaebnjaa
open Go.RowKit Go.Lib Go.Deep
set_option linter.unusedVariables false
set_option linter.unusedSimpArgs false

/-- What is asked of a site ahead of sums of times. -/
structure Base (S : St) : Prop where
  sh : Shape S
  mn : ∀ i, i < S.phases.length → 0 ≤ (S.ph i).min ∧ (S.ph i).min ≤ 1048576
  bt : ∀ a b, a < S.groups.length → b < S.groups.length → S.bt a b ≤ 1048576
theorem Base.lies {S : St} (h : Base S) (f t : Nat) : 0 ≤ liesM S f t ∧ liesM S f t ≤ 1048576 :=
  ⟨liesM_ge S f t, (liesM_is S f t).le (by omega) (fun x hx => by
    obtain ⟨a, b, ha, hb, _, _, _, rfl⟩ := hx
    exact h.bt a b ha hb)⟩
theorem Base.part {S : St} (h : Base S) {i : Nat} (hi : i < S.phases.length) : 0 ≤ partM S i ∧ partM S i ≤ 2097152 := by
  have h1 := h.mn i hi
  have h2 := h.lies i ((i + 1) % S.phases.length)
  unfold partM
  omega
theorem Base.round {S : St} (h : Base S) : ∀ k, k ≤ S.phases.length → 0 ≤ roundN S k ∧ roundN S k ≤ 2097152 * k
  | 0, _ => by simp [roundN]
  | k + 1, hk => by
    have h1 := h.round k (by omega)
    have h2 := h.part (i := k) (by omega)
    rw [roundN]
    omega
theorem Kept.drew (w : World) (r : Option Nat) : Kept w w.drew r := Kept.drewN w 1 r
end Go.Proofs.Ytlabjamkaebnjaa

/-
  Of the text Fits2: what this stage needs (culled by a program).
-/
namespace Go.Proofs.Ytlabjamkaebnjaa
open Go.RowKit Go.Lib Go.Deep
set_option linter.unusedVariables false
set_option linter.unusedSimpArgs false

theorem box3 (w : World) (a b c : Value) (t : TypeId) : (w.alloc (.cells #[a, b, c] t)).cell? ⟨w.heap.size, 0, none⟩ = some a ∧ (w.alloc (.cells #[a, b, c] t)).cell? ⟨w.heap.size, 1, none⟩ = some b ∧ (w.alloc (.cells #[a, b, c] t)).cell? ⟨w.heap.size, 2, none⟩ = some c :=
  ⟨by simp [World.cell?_alloc_mark], by simp [World.cell?_alloc_mark], by simp [World.cell?_alloc_mark]⟩
end Go.Proofs.Ytlabjamkaebnjaa

/-
  Of the text Check: what this stage needs (culled by a program).
-/
namespace Go.Proofs.Ytlabjamkaebnjaa
open Go.RowKit Go.Lib Go.Deep
set_option linter.unusedVariables false
set_option linter.unusedSimpArgs false

def manyN (S : St) (o : Nat) : Nat := [1, S.groups.length, S.phases.length, S.eyes.length, S.plans.length].getD o 0
/-- How many parts there are. -/
structure Manys (w : World) (g : Nat) (S : St) : Prop where
  at_ : ∀ o, o < 5 → w.cell? ⟨g, o, none⟩ = some (.int .i64 (manyN S o : Int))
theorem Manys.kept {w w' : World} {g : Nat} {S : St} (h : Manys w g S) (q : Kept w w' none) : Manys w' g S := ⟨fun o ho => cell_kept0 (h.at_ o ho) q⟩
end Go.Proofs.Ytlabjamkaebnjaa

/-
  Of the text Sum: what this stage needs (culled by a program).
-/
namespace Go.Proofs.Ytlabjamkaebnjaa
open Go.RowKit Go.Lib Go.Deep
set_option linter.unusedVariables false
set_option linter.unusedSimpArgs false

/-- The table lies in the program's first variable. -/
def Table (w : World) : Prop := ∀ i, i < 16 → w.cell? ⟨0, i, none⟩ = some (.int .u32 (halfs.getD i 0))
theorem Table.lt {w : World} (h : Table w) : 0 < w.heap.size := by
  by_cases hh : 0 < w.heap.size
  · exact hh
  · have hn : w.heap[0]? = none := Array.getElem?_eq_none (by omega)
    have := h 0 (by omega)
    simp [World.cell?, hn] at this
theorem Table.kept {w w' : World} (h : Table w) (k : Kept w w' none) : Table w' := fun i hi =>
  (World.cell?_of_block (w := w) (a := ⟨0, i, none⟩) (k.block 0 h.lt (by simp))).trans (h i hi)
theorem Table.drewN {w : World} (h : Table w) (m : Nat) : Table (w.drewN m) := h

end Go.Proofs.Ytlabjamkaebnjaa

/-
  Of the text Grow: what this stage needs (culled by a program).
-/
namespace Go.Proofs.Ytlabjamkaebnjaa
open Go.RowKit Go.Lib Go.Deep
set_option linter.unusedVariables false
set_option linter.unusedSimpArgs false

theorem own_lower {w : World} {base b2 e size n : Nat} {v : Value} {xs : List Value} (h : w.ownsRow base e size v n xs) (hb : b2 ≤ base) : w.ownsRow b2 e size v n xs := by
  refine ⟨h.1, ?_⟩
  rcases h.2 with hn | ⟨g, cap, cur, rfl, hbg, rest⟩
  · exact .inl hn
  · exact .inr ⟨g, cap, cur, rfl, Nat.le_trans hb hbg, rest⟩
theorem Mine.lower {w : World} {base b2 : Nat} {a : Option Addr} {n cap : Nat} {L : List Nat} (h : Mine w base a n cap L) (hb : b2 ≤ base) : Mine w b2 a n cap L := ⟨own_lower h.own hb, h.nil, h.room, h.max⟩
theorem own_keptR {w w' : World} {r : Option Nat} {base e size n : Nat} {v : Value} {xs : List Value} (h : w.ownsRow base e size v n xs) (k : Kept w w' r) (hr : ∀ i, v.ownBlock = some i → some i ≠ r) : w'.ownsRow base e size v n xs := by
  refine ⟨h.1, ?_⟩
  rcases h.2 with hn | ⟨g, cap, cur, rfl, hb, hgg, rest⟩
  · exact .inl hn
  · refine .inr ⟨g, cap, cur, rfl, hb, ?_, rest⟩
    rw [k.block g (Array.getElem?_eq_some_iff.1 hgg).1 (hr g rfl)]
    exact hgg
theorem Mine.keptR {w w' : World} {r : Option Nat} {base : Nat} {a : Option Addr} {n cap : Nat} {L : List Nat} (h : Mine w base a n cap L) (k : Kept w w' r) (hr : ∀ i, (Value.slice a n cap).ownBlock = some i → some i ≠ r) : Mine w' base a n cap L := ⟨own_keptR h.own k hr, h.nil, h.room, h.max⟩
theorem Mine.kept {w w' : World} {base : Nat} {a : Option Addr} {n cap : Nat} {L : List Nat} (h : Mine w base a n cap L) (k : Kept w w' none) : Mine w' base a n cap L := h.keptR k (fun _ _ => by simp)
theorem Mine.lt {w : World} {base : Nat} {a : Option Addr} {n cap : Nat} {L : List Nat} (h : Mine w base a n cap L) : ∀ k, (Value.slice a n cap).ownBlock = some k → base ≤ k ∧ k < w.heap.size := fun k hk => h.own.lt k hk
theorem Mine.empty (w : World) (base : Nat) : Mine w base none 0 0 [] := ⟨World.ownsRow_nil _ _ _ _, fun _ => ⟨rfl, rfl⟩, Nat.le_refl _, by omega⟩
theorem cell_keptR {w w' : World} {r : Option Nat} {B j : Nat} {v : Value} (h : w.cell? ⟨B, j, none⟩ = some v) (q : Kept w w' r) (hr : some B ≠ r) : w'.cell? ⟨B, j, none⟩ = some v :=
  (World.cell?_of_block (w := w) (a := ⟨B, j, none⟩) (q.block B (block_lt h) hr)).trans h
theorem Lie.keptR {w w' : World} {r : Option Nat} {a : Option Addr} {n k : Nat} {f : Nat → Nat → Value} (h : Lie w a n k f) (q : Kept w w' r) (hr : 0 < n → ∀ x, a = some x → some x.block ≠ r) : Lie w' a n k f :=
  ⟨fun hp => by
    obtain ⟨b, off, rfl, hb, hc⟩ := h.at_ hp
    exact ⟨b, off, rfl, Nat.lt_of_lt_of_le hb q.size, fun i hi j hj => (World.cell?_of_block (w := w) (a := ⟨b, off + i * k + j, none⟩) (q.block b hb (hr hp _ rfl))).trans (hc i hi j hj)⟩⟩
theorem Ints.keptR {w w' : World} {r : Option Nat} {a : Option Addr} {n c : Nat} {l : List Int} (h : Ints w a n c l) (q : Kept w w' r) (hr : 0 < n → ∀ x, a = some x → some x.block ≠ r) : Ints w' a n c l := ⟨h.lie.keptR q hr, h.size, h.cap, h.rng⟩
theorem Ints.lt {w : World} {a : Option Addr} {n c : Nat} {l : List Int} (h : Ints w a n c l) (hp : 0 < n) : ∀ x, a = some x → x.block < w.heap.size := fun x hx => by
  obtain ⟨b, off, e, hb, _⟩ := h.at_ hp
  rw [e] at hx
  injection hx with hx
  subst hx
  exact hb
/-- Numbers just laid. -/
theorem ints_lit (w : World) (l : List Int) (cs : Array Value) (t : TypeId) (n : Nat) (hn : l.length = n) (hc : ∀ i, i < n → cs[i]? = some (.int .i64 (l.getD i 0))) (hr : ∀ x ∈ l, -9223372036854775808 ≤ x ∧ x ≤ 9223372036854775807) (h2 : n ≤ 9223372036854775807) : Ints (w.alloc (.cells cs t)) (some ⟨w.heap.size, 0, none⟩) n n l :=
  ⟨⟨fun hp => ⟨w.heap.size, 0, rfl, by simp, fun i hi j hj => by
    obtain rfl : j = 0 := by omega
    rw [show 0 + i * 1 + 0 = i by omega, World.cell?_alloc_mark]
    exact hc i hi⟩⟩, hn, ⟨fun e => by simp at e, Nat.le_refl _, h2⟩, hr⟩
theorem ints_of (w : World) (l : List Int) (t : TypeId) (hr : ∀ x ∈ l, -9223372036854775808 ≤ x ∧ x ≤ 9223372036854775807) (h2 : l.length ≤ 9223372036854775807) : Ints (w.alloc (.cells (l.map fun x => Value.int .i64 x).toArray t)) (some ⟨w.heap.size, 0, none⟩) l.length l.length l :=
  ints_lit w l _ t l.length rfl (fun i hi => by simp [hi]) hr h2
theorem ne_own {w : World} {base : Nat} {a : Option Addr} {n cap : Nat} {L : List Nat} (h : Mine w base a n cap L) {q : Nat} (hq : q < base ∨ w.heap.size ≤ q) : some q ≠ (Value.slice a n cap).ownBlock := fun e => by
  have := h.lt q e.symm
  omega
/-- One step more, in the list's own block or in new ones. -/
theorem Kept.step {w w1 w2 : World} {v v1 : Value} (h : Kept w w1 v.ownBlock) (k : Kept w1 w2 v1.ownBlock) (m : Moved w v v1) : Kept w w2 v.ownBlock := by
  refine ⟨k.os.trans h.os, k.tape.trans h.tape, k.output.trans h.output, Nat.le_trans h.size k.size, fun i hi hr => ?_⟩
  refine (k.block i (Nat.lt_of_lt_of_le hi h.size) ?_).trans (h.block i hi hr)
  rcases m with m | ⟨g, m, hg⟩
  · rw [m]; exact hr
  · rw [m]
    intro e
    injection e with e
    omega
theorem Kept.weak {w w' : World} (h : Kept w w' none) (r : Option Nat) : Kept w w' r := ⟨h.os, h.tape, h.output, h.size, fun i hi _ => h.block i hi (by simp)⟩
theorem Kept.base {w w' : World} {r : Option Nat} (h : Kept w w' r) (hr : ∀ i, r = some i → w.heap.size ≤ i) : Kept w w' none := ⟨h.os, h.tape, h.output, h.size, fun i hi _ => h.block i hi (fun e => by have := hr i e.symm; omega)⟩
theorem Moved.tr {w w1 : World} {v v1 v2 : Value} (h : Moved w v v1) (k : Moved w1 v1 v2) (hs : w.heap.size ≤ w1.heap.size) : Moved w v v2 := by
  rcases k with k | ⟨g, k, hg⟩
  · rcases h with h | ⟨g, h, hg⟩
    · exact .inl (k.trans h)
    · exact .inr ⟨g, k.trans h, hg⟩
  · exact .inr ⟨g, k, by omega⟩
theorem wpList_joinA {ops : Array Oper} {rest : List Oper} {o : Oper} {act : Act} {Q : Exit → Act → World → Prop} {w : World} (hgd : o.guard = none) (s x : Operand)
    (ho : o.op = .call { callee := .builtin .append, args := #[s, x], argTypes := #[22, 22] })
    (base : Nat) (v : Value) (n : Nat) (L : List Nat) (hs : act.eval s = v) (hown : w.ownsRow base 5 1 v n (L.map byteV))
    (a : Option Addr) (m c : Nat) (M : List Nat) (hx : act.eval x = .slice a m c) (hB : By w a m M) (ha : a = none → c = 0)
    (hnm : n + m ≤ 70368744177664) (hbase : base ≤ w.heap.size)
    (h : ∀ a' cap w', Mine w' base a' (n + m) cap (L ++ M) → w.grownBy w' v.ownBlock → ((Value.slice a' (n + m) cap).ownBlock = v.ownBlock ∨ (Value.slice a' (n + m) cap).ownBlock = some w.heap.size) → wpList Try.prog ops Q rest (act.put o.dst (.slice a' (n + m) cap)) w') : wpList Try.prog ops Q (o :: rest) act w := by
  obtain ⟨i0, hi0, hz0, hz1, hz2⟩ := info_parts Try.info5
  have key : ∀ v' w', w'.ownsRow base 5 1 v' (n + m) ((L ++ M).map byteV) → w.grownBy w' v.ownBlock → (v'.ownBlock = v.ownBlock ∨ v'.ownBlock = some w.heap.size) → wpList Try.prog ops Q rest (act.put o.dst v') w' := by
    intro v' w' h1 h2 h3
    obtain ⟨a', cap, rfl, hm⟩ := mine_of h1
    exact h a' cap w' hm h2 h3
  cases a with
  | none =>
    have hm0 : m = 0 := by
      by_cases hm : 0 < m
      · obtain ⟨b, off, e, _⟩ := hB.at_ hm
        cases e
      · omega
    subst hm0
    have hM : M = [] := List.length_eq_zero_iff.1 hB.size
    subst hM
    have hc := ha rfl
    subst hc
    refine wpList_append_own_none hgd s x 22 ho base 5 i0 1 Try.uB hi0 v n (L.map byteV) hs hown hx (key v w ?_ (World.grownBy.refl w _) (.inl rfl))
    simpa using hown
  | some ad =>
    by_cases hm : 0 < m
    · obtain ⟨b, off, e, hb, hc⟩ := hB.at_ hm
      injection e with e
      subst e
      refine wpList_append_own_at w hgd s x 22 ho base 5 i0 _ 1 1 Try.uB hi0 hz0 hz1 hz2 rfl (by omega) v n (L.map byteV) hs hown ⟨b, off, none⟩ m c (M.map byteV) hx (by simp [hB.size]) (bytes_news hB.size hc) (bytes_one M) (by unfold maxLen; omega) (by omega) hbase ?_
      intro v' w' h1 h2 _ h4
      exact key v' w' (by rw [List.map_append]; exact h1) h2 h4
    · have hm0 : m = 0 := by omega
      subst hm0
      have hM : M = [] := List.length_eq_zero_iff.1 hB.size
      subst hM
      refine wpList_append_own_at w hgd s x 22 ho base 5 i0 _ 1 1 Try.uB hi0 hz0 hz1 hz2 rfl (by omega) v n (L.map byteV) hs hown ad 0 c [] hx (by simp) (fun j u hu => by simp at hu) (fun u hu => by cases hu) (by unfold maxLen; omega) (by omega) hbase ?_
      intro v' w' h1 h2 _ h4
      exact key v' w' (by simpa using h1) h2 h4

/-- Numbers' small bytes. -/
def smlI (l : List Int) : List Nat := l.flatMap fun x => sml x.toNat
theorem smlI_append (l k : List Int) : smlI (l ++ k) = smlI l ++ smlI k := by simp [smlI]
theorem smlI_snoc (l : List Int) (x : Int) : smlI (l ++ [x]) = smlI l ++ sml x.toNat := by simp [smlI]
theorem smlI_lt (l : List Int) : ∀ x ∈ smlI l, x < 256 := by
  intro x hx
  simp only [smlI, List.mem_flatMap] at hx
  obtain ⟨y, _, hx⟩ := hx
  exact sml_lt _ x hx
theorem smlI_len : ∀ (l : List Int), (∀ x ∈ l, x < 18446744073709551616) → (smlI l).length ≤ 10 * l.length
  | [], _ => by simp [smlI]
  | x :: l, h => by
    have h1 := smlI_len l (fun y hy => h y (List.mem_cons_of_mem _ hy))
    have h2 := h x (List.mem_cons_self ..)
    have h3 := sml_len10 x.toNat (by omega)
    have : smlI (x :: l) = sml x.toNat ++ smlI l := by simp [smlI]
    rw [this, List.length_append, List.length_cons]
    omega
theorem take_snocI {l : List Int} {k : Nat} (h : k < l.length) : l.take (k + 1) = l.take k ++ [l.getD k 0] := by
  rw [List.take_succ_eq_append_getElem h]; simp [h]

set_option maxRecDepth 100000 in
set_option maxHeartbeats 1000000 in
theorem wsmall_any {w : World} {a : Option Addr} {n c : Nat} {L : List Nat} {b : Option Addr} {m d : Nat} {l : List Int} (base : Nat) (hM : Mine w base a n c L) (hbase : base ≤ w.heap.size) (hI : Ints w b m d l)
    (hne : 0 < m → ∀ x, b = some x → some x.block ≠ (Value.slice a n c).ownBlock) (hpos : ∀ x ∈ l, 0 ≤ x) (hlen : n + 10 * m ≤ 1099511627776) :
    Calls Try.prog 80 #[.slice a n c, .slice b m d] w fun e w' => ∃ a' c', e = .returned (.slice a' (n + (smlI l).length) c') ∧ Mine w' base a' (n + (smlI l).length) c' (L ++ smlI l) ∧ Kept w w' (Value.slice a n c).ownBlock ∧ Moved w (.slice a n c) (.slice a' (n + (smlI l).length) c') := by
  have HM := Hid.mk' hM
  have HI := Hid.mk' hI
  have HNE := Hid.mk' hne
  have HPOS := Hid.mk' hpos
  have hsz := hI.size
  have HSZ := Hid.mk' hsz
  have hrng := hI.rng
  have HR := Hid.mk' hrng
  have hml : m ≤ 9223372036854775807 := by have := hI.cap.room; have := hI.cap.max; omega
  clear hM hI hne hpos hsz hrng
  go_enter Try.func80, Try.ntmps80
  go_wp2
  go_loopw [0, 9] (fun s i wr => ∃ k : Nat, k ≤ m ∧ i = .int .i64 k ∧ ∃ a1 n1 c1, s = .slice a1 n1 c1 ∧ n1 = n + (smlI (l.take k)).length ∧ n1 ≤ n + 10 * k ∧ Mine wr base a1 n1 c1 (L ++ smlI (l.take k)) ∧ Kept w wr (Value.slice a n c).ownBlock ∧ Moved w (.slice a n c) (.slice a1 n1 c1)) (fun _ i _ => m - (intOf i).toNat)
  case atStart => exact ⟨0, Nat.zero_le _, rfl, a, n, c, rfl, by simp [smlI], by omega, by simpa [smlI] using HM.out, Kept.refl _ _, .inl rfl⟩
  case round =>
    obtain ⟨k, hk, rfl, a1, n1, c1, rfl, hn1, hle, hMi, hkw, hmv⟩ := hrel
    have HMI := Hid.mk' hMi
    have HN1 := Hid.mk' hn1
    have HKW := Hid.mk' hkw
    have HMV := Hid.mk' hmv
    clear hMi hn1 hmv
    by_cases hlt : k < m
    · obtain ⟨bi, oi, rfl, hbi, hci⟩ := (HI.out.keptR hkw HNE.out).at_ (by omega)
      have kc := hci k hlt
      have hkl : k < l.length := by have := HSZ.out; omega
      have hv0 := HPOS.out (l.getD k 0) (getD_mem hkl)
      have hv1 := (HR.out (l.getD k 0) (getD_mem hkl)).2
      have hst : smlI (l.take (k + 1)) = smlI (l.take k) ++ sml (l.getD k 0).toNat := by rw [take_snocI hkl, smlI_snoc]
      have HST := Hid.mk' hst
      have hs10 := sml_len10 (l.getD k 0).toNat (by omega)
      clear hci hst hkw
      generalize hv : l.getD k 0 = v at *
      clear hv
      obtain ⟨q, rfl⟩ : ∃ q : Nat, v = (q : Int) := ⟨v.toNat, by omega⟩
      rw [Int.toNat_natCast] at *
      go_wp2_with (first
        | (have hgo := O2; clear hgo; at_builtin; refine wpList_joinA (by rfl) _ _ (by rfl) base (.slice a1 n1 c1) n1 (L ++ smlI (l.take k)) (by rfl) (own_keptR HMI.out.own hk2 (fun i _ => by simp)) _ (sml q).length 10 (sml q) (by rfl) (O2.out.by (by omega) (sml_lt q)) (fun e => by cases e) (by omega) (by have := HKW.out.size; have := hk2.size; omega) ?_; intro a3 c3 w3 hm3 hg3 hat3)
        | (go_at_call 41; refine (small_any q _ (by omega)).mono ?_; rintro e w2 ⟨rfl, ho2, hk2⟩; have O2 := Hid.mk' ho2; clear ho2))
      go_roundw
      case rel =>
        refine ⟨k + 1, by omega, by go_num, a3, _, c3, rfl, ?_, by omega, ?_, ?_, ?_⟩
        · rw [HST.out, List.length_append, HN1.out]; omega
        · rw [HST.out, ← List.append_assoc]; exact hm3
        · exact (HKW.out.step (hk2.weak _) HMV.out).step hg3 (HMV.out)
        · refine HMV.out.tr (w1 := wr) ?_ HKW.out.size
          rcases hat3 with e | e
          · exact .inl e
          · exact .inr ⟨_, e, hk2.size⟩
      case measure => simp [intOf]; omega
    · have hkk : l.take k = l := List.take_of_length_le (by have := HSZ.out; omega)
      rw [hkk] at HMI HN1
      have e := HN1.out
      subst e
      go_wp2
      go_ret
      exact ⟨a1, c1, rfl, HMI.out, HKW.out, HMV.out⟩

end Go.Proofs.Ytlabjamkaebnjaa

/-
  Of the text Whole: what this stage needs (culled by a program).
-/
namespace Go.Proofs.Ytlabjamkaebnjaa
open Go.RowKit Go.Lib Go.Deep
set_option linter.unusedVariables false
set_option linter.unusedSimpArgs false

/-- A plan's numbers; those of plans. -/
def plI (p : Pl) : List Int := p.cycle :: p.offset :: (p.splits.length : Int) :: p.splits
def plansI (l : List Pl) : List Int := (l.length : Int) :: l.flatMap plI
/-- Plans whose numbers can be written. -/
structure Wok (l : List Pl) : Prop where
  many : l.length ≤ 8
  one : ∀ p ∈ l, 0 ≤ p.cycle ∧ 0 ≤ p.offset ∧ p.splits.length ≤ 8 ∧ ∀ x ∈ p.splits, 0 ≤ x
theorem pl_take {l : List Pl} {k : Nat} (h : k < l.length) : l.take (k + 1) = l.take k ++ [l.getD k q0] := by
  rw [List.take_succ_eq_append_getElem h]; simp [h]
set_option maxRecDepth 100000 in
set_option maxHeartbeats 1000000 in
theorem planBytes_any {w : World} {a : Option Addr} {n c : Nat} {l : List Pl} (hP : Plans w a n c l) (hW : Wok l) :
    Calls Try.prog 61 #[.slice a n c] w fun e w' => ∃ a' c', e = .returned (.slice a' (smlI (plansI l)).length c') ∧ Mine w' w.heap.size a' (smlI (plansI l)).length c' (smlI (plansI l)) ∧ Kept w w' none := by
  have HP := Hid.mk' hP
  have HW := Hid.mk' hW
  have HSZ := Hid.mk' hP.size
  have hn8 : n ≤ 8 := by have := hW.many; have := hP.size; omega
  have hI1 : Ints (w.alloc (.cells #[.int .i64 (n : Int)] 3)) (some ⟨w.heap.size, 0, none⟩) 1 1 [(n : Int)] := ints_of w [(n : Int)] 3 (fun x hx => by simp at hx; omega) (by simp)
  have HI1 := Hid.mk' hI1
  have hs1 : (smlI [(n : Int)]).length ≤ 10 := smlI_len [(n : Int)] (fun x hx => by simp at hx; omega)
  clear hP hW hI1
  go_enter Try.func61, Try.ntmps61
  go_wp2_with (go_at_call 80; refine (wsmall_any w.heap.size (Mine.empty _ _) (by simp) HI1.out (fun _ x hx => by simp [Value.ownBlock]) (by simp) (by omega)).mono ?_; rintro e w1 ⟨a1, c1, rfl, hm1, hk1, hv1⟩)
  have hk1' : Kept w w1 none := (Kept.alloc w _ _ _ _).newRow hk1 (fun i e => by simp [Value.ownBlock] at e)
  have HK1 := Hid.mk' hk1'
  have HM1 := Hid.mk' hm1
  rw [Nat.zero_add] at *
  clear hk1 hm1 hk1' hv1
  go_loopw [3, 12] (fun s i wr => ∃ k : Nat, k ≤ n ∧ i = .int .i64 k ∧ ∃ a1 n1 c1, s = .slice a1 n1 c1 ∧ n1 = (smlI [(n : Int)] ++ smlI ((l.take k).flatMap plI)).length ∧ n1 ≤ 10 + 110 * k ∧ Mine wr w.heap.size a1 n1 c1 (smlI [(n : Int)] ++ smlI ((l.take k).flatMap plI)) ∧ Kept w wr none) (fun _ i _ => n - (intOf i).toNat)
  case atStart => exact ⟨0, Nat.zero_le _, rfl, a1, _, c1, rfl, by simp [smlI], by omega, by simpa [smlI] using HM1.out, HK1.out⟩
  case round =>
    obtain ⟨k, hk, rfl, a2, n2, c2, rfl, hn2, hle, hMi, hkw⟩ := hrel
    have HMI := Hid.mk' hMi
    have HN2 := Hid.mk' hn2
    have HKW := Hid.mk' hkw
    clear hMi hn2
    by_cases hlt : k < n
    · obtain ⟨b, off, a', c', rfl, k0, k1, k2, hI⟩ := (HP.out.kept hkw).at_ hlt
      have hkl : k < l.length := by have := HSZ.out; omega
      have hin : l.getD k q0 ∈ l := getD_mem hkl
      obtain ⟨p0', p1', p2', p3'⟩ := HW.out.one _ hin
      have hrg := HP.out.rng _ hin
      have hst : smlI [(n : Int)] ++ smlI ((l.take (k + 1)).flatMap plI) = smlI [(n : Int)] ++ smlI ((l.take k).flatMap plI) ++ smlI [(l.getD k q0).cycle, (l.getD k q0).offset, ((l.getD k q0).splits.length : Int)] ++ smlI (l.getD k q0).splits := by
        rw [pl_take hkl, List.flatMap_append, smlI_append, List.flatMap_singleton]
        have : plI (l.getD k q0) = [(l.getD k q0).cycle, (l.getD k q0).offset, ((l.getD k q0).splits.length : Int)] ++ (l.getD k q0).splits := rfl
        rw [this, smlI_append, List.append_assoc, List.append_assoc]
      have HST := Hid.mk' hst
      have hIw : 0 < (l.getD k q0).splits.length → ∀ x, a' = some x → x.block < w.heap.size := fun hp x hx => by
        obtain ⟨b2, off2, a2', c2', e2, _, _, k2', hI'⟩ := HP.out.at_ hlt
        injection e2 with e2
        injection e2 with e3 e4
        subst e3 e4
        have h1 := cell_kept0 k2' hkw
        rw [h1] at k2
        injection k2 with k2
        injection k2 with e5 e6 e7
        subst e5 e7
        exact hI'.lt hp x hx
      have HIW := Hid.mk' hIw
      have HI := Hid.mk' hI
      clear hst hI hIw hkw
      generalize l.getD k q0 = p at *
      have hs3 := smlI_len [p.cycle, p.offset, (p.splits.length : Int)] (fun x hx => by
        simp only [List.mem_cons, List.mem_nil_iff, or_false] at hx
        have := hrg.1
        have := hrg.2
        unfold i64B at *
        rcases hx with rfl | rfl | rfl <;> omega)
      have hs4 := smlI_len p.splits (fun x hx => by have := (HI.out.rng x hx).2; omega)
      have hI3 : Ints ((wr.alloc (.cells #[.int .i64 p.cycle, .int .i64 p.offset, .slice a' p.splits.length c'] 63)).alloc (.cells #[.int .i64 p.cycle, .int .i64 p.offset, .int .i64 (p.splits.length : Int)] 3)) (some ⟨(wr.alloc (.cells #[.int .i64 p.cycle, .int .i64 p.offset, .slice a' p.splits.length c'] 63)).heap.size, 0, none⟩) 3 3 [p.cycle, p.offset, (p.splits.length : Int)] := ints_of _ [p.cycle, p.offset, (p.splits.length : Int)] 3 (fun x hx => by
        simp only [List.mem_cons, List.mem_nil_iff, or_false] at hx
        have h1 := hrg.1
        have h2 := hrg.2
        unfold i64B at h1 h2
        rcases hx with rfl | rfl | rfl
        · exact h1
        · exact h2
        · omega) (by simp)
      rw [World.size_alloc] at hI3
      have HI3 := Hid.mk' hI3
      have hkA : Kept wr ((wr.alloc (.cells #[.int .i64 p.cycle, .int .i64 p.offset, .slice a' p.splits.length c'] 63)).alloc (.cells #[.int .i64 p.cycle, .int .i64 p.offset, .int .i64 (p.splits.length : Int)] 3)) none := (Kept.alloc _ _ _ _ _).tr (Kept.alloc _ _ _ _ _)
      have HKA := Hid.mk' hkA
      have c2b : ((wr.alloc (.cells #[.int .i64 p.cycle, .int .i64 p.offset, .slice a' p.splits.length c'] 63)).alloc (.cells #[.int .i64 p.cycle, .int .i64 p.offset, .int .i64 (p.splits.length : Int)] 3)).cell? ⟨wr.heap.size, 2, none⟩ = some (.slice a' p.splits.length c') := cell_kept0 (box3 wr _ _ _ _).2.2 (Kept.alloc _ _ _ _ _)
      have HC2 := Hid.mk' c2b
      have hpos3 : ∀ x ∈ [p.cycle, p.offset, (p.splits.length : Int)], 0 ≤ x := fun x hx => by
        simp only [List.mem_cons, List.mem_nil_iff, or_false] at hx
        rcases hx with rfl | rfl | rfl <;> omega
      have HP3 := Hid.mk' hpos3
      have HP4 := Hid.mk' p3'
      have hs3' : (smlI [p.cycle, p.offset, (p.splits.length : Int)]).length ≤ 30 := hs3
      clear hI3 hkA c2b hpos3 p3' hs3
      have hne3 : 0 < 3 → ∀ x, some (⟨wr.heap.size + 1, 0, none⟩ : Addr) = some x → some x.block ≠ (Value.slice a2 n2 c2).ownBlock := fun _ x hx => by
        injection hx with hx
        subst hx
        exact ne_own HMI.out (.inr (by show wr.heap.size ≤ wr.heap.size + 1; omega))
      have hcall := wsmall_any w.heap.size (HMI.out.kept HKA.out) (by have := HKW.out.size; have := HKA.out.size; omega) HI3.out hne3 HP3.out (by omega)
      have HCALL := Hid.mk' hcall
      have hwr : w.heap.size ≤ wr.heap.size := HKW.out.size
      have hwa : wr.heap.size ≤ ((wr.alloc (.cells #[.int .i64 p.cycle, .int .i64 p.offset, .slice a' p.splits.length c'] 63)).alloc (.cells #[.int .i64 p.cycle, .int .i64 p.offset, .int .i64 (p.splits.length : Int)] 3)).heap.size := HKA.out.size
      clear hcall hne3
      have hown2 := fun i => HMI.out.lt i
      have HOWN2 := Hid.mk' hown2
      clear hown2
      go_wp2_with (first
        | (have hgo := M3; clear hgo; go_at_call 80; refine (wsmall_any w.heap.size M3.out (by have := K3.out.size; omega) ((HI.out.kept HKA.out).keptR K3.out (fun hp x hx => ne_own (HMI.out.kept HKA.out) (.inl (HIW.out hp x hx)))) (fun hp x hx => ne_own M3.out (.inl (HIW.out hp x hx))) HP4.out (by omega)).mono ?_; rintro e w4 ⟨a4, c4, rfl, hm4, hk4, hv4⟩)
        | (go_at_call 80; refine HCALL.out.mono ?_; rintro e w3 ⟨a3, c3, rfl, hm3, hk3, hv3⟩; have M3 := Hid.mk' hm3; have K3 := Hid.mk' hk3; have V3 := Hid.mk' hv3; have cc := cell_keptR HC2.out hk3 (fun e => (by have := HOWN2.out _ e.symm; omega)); clear hm3 hk3 hv3))
      go_roundw
      case rel =>
        refine ⟨k + 1, by omega, by go_num, a4, _, c4, rfl, ?_, ?_, ?_, ?_⟩
        · rw [HST.out, List.length_append, List.length_append, HN2.out]
        · have hs4' : (smlI p.splits).length ≤ 80 := by omega
          omega
        · rw [HST.out]; exact hm4
        · refine ((HKW.out.tr HKA.out).newRow K3.out (fun i e => (HOWN2.out i e).1)).newRow hk4 (fun i e => (M3.out.lt i e).1)
      case measure => simp [intOf]; omega
    · have hkk : l.take k = l := List.take_of_length_le (by have := HSZ.out; omega)
      rw [hkk] at HMI HN2
      have e2 : smlI [(n : Int)] ++ smlI (l.flatMap plI) = smlI (plansI l) := by
        rw [← smlI_append, ← HSZ.out]; rfl
      rw [e2] at HMI HN2
      have e := HN2.out
      subst e
      go_wp2
      go_ret
      exact ⟨a2, c2, rfl, HMI.out, HKW.out⟩

end Go.Proofs.Ytlabjamkaebnjaa

/-
  Of the text Whole2: what this stage needs (culled by a program).
-/
namespace Go.Proofs.Ytlabjamkaebnjaa
open Go.RowKit Go.Lib Go.Deep
set_option linter.unusedVariables false
set_option linter.unusedSimpArgs false

theorem splits_all {l : List Int} : l.all (fun x => inB x 0 1048576) = allB l.length (fun k => inB (l.getD k 0) 0 1048576) := by
  rw [Bool.eq_iff_iff, List.all_eq_true, allB_iff]
  constructor
  · intro h i hi
    exact h _ (getD_mem hi)
  · intro h x hx
    obtain ⟨i, hi, rfl⟩ := List.getElem_of_mem hx
    have := h i hi
    simpa [hi] using this
set_option maxRecDepth 100000 in
set_option maxHeartbeats 1000000 in
theorem mayBe_any {w : World} (p : Pl) (a : Option Addr) (c : Nat) (hI : Ints w a p.splits.length c p.splits) : Calls Try.prog 79 #[planV p a c] w fun e w' => e = .returned (.bool (mayB p)) ∧ Kept w w' none := by
  have HI := Hid.mk' hI
  have hlm : p.splits.length ≤ 9223372036854775807 := by have := hI.cap.room; have := hI.cap.max; omega
  have hkA : Kept w (w.alloc (.cells #[.int .i64 p.cycle, .int .i64 p.offset, .slice a p.splits.length c] 63)) none := Kept.alloc _ _ _ _ _
  have HK := Hid.mk' hkA
  clear hI hkA
  cases h1 : timeB p.cycle with
  | false =>
    have HE : Hid (mayB p = false) := by show mayB p = false; simp [mayB, h1]
    go_enter Try.func79, Try.ntmps79
    go_wp2_with (go_at_call 84; refine (time_is _ _ _ h1).mono ?_; rintro e w2 ⟨rfl, rfl⟩)
    go_ret
    exact ⟨by rw [HE.out]; rfl, HK.out⟩
  | true =>
    have hcy := inB_iff.1 h1
    cases h2 : inB p.offset 0 (p.cycle - 1) with
    | false =>
      have HE : Hid (mayB p = false) := by show mayB p = false; simp [mayB, h1, h2]
      go_enter Try.func79, Try.ntmps79
      go_wp2_with (first | (go_at_call 84; refine (time_is _ _ _ h1).mono ?_; rintro e w2 ⟨rfl, rfl⟩) | (go_at_call 85; refine (within_is _ _ _ _ _ h2).mono ?_; rintro e w2 ⟨rfl, rfl⟩))
      go_ret
      exact ⟨by rw [HE.out]; rfl, HK.out⟩
    | true =>
      cases h3 : inB (p.splits.length : Int) 1 8 with
      | false =>
        have HE : Hid (mayB p = false) := by show mayB p = false; simp [mayB, h1, h2, h3]
        go_enter Try.func79, Try.ntmps79
        go_wp2_with (first | (have hgo := hdone; clear hgo; go_at_call 85; refine (within_is _ _ _ _ _ h3).mono ?_; rintro e w2 ⟨rfl, rfl⟩) | (go_at_call 84; refine (time_is _ _ _ h1).mono ?_; rintro e w2 ⟨rfl, rfl⟩) | (go_at_call 85; refine (within_is _ _ _ _ _ h2).mono ?_; rintro e w2 ⟨rfl, rfl⟩; have hdone := trivial))
        go_ret
        exact ⟨by rw [HE.out]; rfl, HK.out⟩
      | true =>
        have HE : Hid (mayB p = allB p.splits.length (fun k => inB (p.splits.getD k 0) 0 1048576)) := by show mayB p = _; unfold mayB; rw [h1, h2, h3, splits_all]; rfl
        have hl := inB_iff.1 h3
        obtain ⟨bi, oi, ei, hbi, hci⟩ := HI.out.at_ (by omega)
        subst ei
        have HC := Hid.mk' hci
        clear hci
        go_enter Try.func79, Try.ntmps79
        go_wp2_with (first | (have hgo := hdone; clear hgo; go_at_call 85; refine (within_is _ _ _ _ _ h3).mono ?_; rintro e w2 ⟨rfl, rfl⟩) | (go_at_call 84; refine (time_is _ _ _ h1).mono ?_; rintro e w2 ⟨rfl, rfl⟩) | (go_at_call 85; refine (within_is _ _ _ _ _ h2).mono ?_; rintro e w2 ⟨rfl, rfl⟩; have hdone := trivial))
        go_loop [28] (fun i => ∃ k : Nat, k ≤ p.splits.length ∧ i = .int .i64 k ∧ ∀ j, j < k → inB (p.splits.getD j 0) 0 1048576 = true) (fun i => p.splits.length - (intOf i).toNat)
        case atStart => exact ⟨0, Nat.zero_le _, rfl, fun j hj => by omega⟩
        case round =>
          obtain ⟨k, hk, rfl, hall⟩ := hrel
          have HALL := Hid.mk' hall
          clear hall
          by_cases hlt : k < p.splits.length
          · have kc := cell_kept0 (HC.out k hlt) HK.out
            cases h4 : inB (p.splits.getD k 0) 0 1048576 with
            | true =>
              have HALL2 : Hid (∀ j, j < k + 1 → inB (p.splits.getD j 0) 0 1048576 = true) := fun j hj => by
                by_cases e : j = k
                · subst e; exact h4
                · exact HALL.out j (by omega)
              generalize p.splits.getD k 0 = v at *
              go_wp2_with (go_at_call 85; refine (within_is _ _ _ _ _ h4).mono ?_; rintro e w2 ⟨rfl, rfl⟩)
              exact ⟨⟨k + 1, by omega, by go_num, HALL2.out⟩, by simp [intOf]; omega⟩
            | false =>
              have HF : Hid (mayB p = false) := by show mayB p = false; rw [HE.out]; exact allB_no hlt h4
              generalize p.splits.getD k 0 = v at *
              go_wp2_with (go_at_call 85; refine (within_is _ _ _ _ _ h4).mono ?_; rintro e w2 ⟨rfl, rfl⟩)
              go_ret
              exact ⟨by rw [HF.out]; rfl, HK.out⟩
          · have hkk : k = p.splits.length := by omega
            have HF : Hid (mayB p = true) := by show mayB p = true; rw [HE.out]; exact allB_iff.2 (fun j hj => HALL.out j (by omega))
            go_wp2
            go_ret
            exact ⟨by rw [HF.out]; rfl, HK.out⟩
set_option maxRecDepth 100000 in
set_option maxHeartbeats 1000000 in
theorem allMay_any {w : World} {a : Option Addr} {n c : Nat} {l : List Pl} (hP : Plans w a n c l) : Calls Try.prog 60 #[.slice a n c] w fun e w' => e = .returned (.bool (allB n (fun k => mayB (l.getD k q0)))) ∧ Kept w w' none := by
  have HP := Hid.mk' hP
  have hml : n ≤ 9223372036854775807 := by have := hP.cap.room; have := hP.cap.max; omega
  clear hP
  go_enter Try.func60, Try.ntmps60
  go_wp2
  go_loopw [7] (fun i wr => ∃ k : Nat, k ≤ n ∧ i = .int .i64 k ∧ (∀ j, j < k → mayB (l.getD j q0) = true) ∧ Kept w wr none) (fun i _ => n - (intOf i).toNat)
  case atStart => exact ⟨0, Nat.zero_le _, rfl, fun j hj => by omega, Kept.refl _ _⟩
  case round =>
    obtain ⟨k, hk, rfl, hall, hkw⟩ := hrel
    have HALL := Hid.mk' hall
    clear hall
    by_cases hlt : k < n
    · obtain ⟨b, off, a', c', rfl, k0, k1, k2, hI⟩ := (HP.out.kept hkw).at_ hlt
      have hkA : Kept wr (wr.alloc (.cells #[.int .i64 (l.getD k q0).cycle, .int .i64 (l.getD k q0).offset, .slice a' (l.getD k q0).splits.length c'] 63)) none := Kept.alloc _ _ _ _ _
      have HKA := Hid.mk' hkA
      have HI := Hid.mk' (hI.kept hkA)
      clear hI hkA
      cases h4 : mayB (l.getD k q0) with
      | true =>
        have HV := Hid.mk' h4
        have HALL2 : Hid (∀ j, j < k + 1 → mayB (l.getD j q0) = true) := fun j hj => by
          by_cases e : j = k
          · subst e; exact h4
          · exact HALL.out j (by omega)
        generalize l.getD k q0 = p at *
        go_wp2_with (go_at_call 79; refine (mayBe_any p a' c' HI.out).mono ?_; rintro e w2 ⟨rfl, hk2⟩; rw [h4])
        go_roundw
        case rel => exact ⟨k + 1, by omega, by go_num, HALL2.out, (hkw.tr HKA.out).tr hk2⟩
        case measure => simp [intOf]; omega
      | false =>
        have HF : Hid (allB n (fun k => mayB (l.getD k q0)) = false) := allB_no hlt h4
        generalize l.getD k q0 = p at *
        go_wp2_with (go_at_call 79; refine (mayBe_any p a' c' HI.out).mono ?_; rintro e w2 ⟨rfl, hk2⟩; rw [h4])
        go_ret
        exact ⟨by rw [HF.out]; rfl, (hkw.tr HKA.out).tr hk2⟩
    · have HF : Hid (allB n (fun k => mayB (l.getD k q0)) = true) := allB_iff.2 (fun j hj => HALL.out j (by omega))
      go_wp2
      go_ret
      exact ⟨by rw [HF.out]; rfl, hkw⟩

theorem may_parts {p : Pl} (h : mayB p = true) : (1 ≤ p.cycle ∧ p.cycle ≤ 1048576) ∧ (0 ≤ p.offset ∧ p.offset ≤ p.cycle - 1) ∧ (1 ≤ p.splits.length ∧ p.splits.length ≤ 8) ∧ ∀ x ∈ p.splits, 0 ≤ x ∧ x ≤ 1048576 := by
  unfold mayB timeB at h
  simp only [Bool.and_eq_true, inB_iff, List.all_eq_true] at h
  exact ⟨h.1.1.1, h.1.1.2, by omega, h.2⟩
/-- Plans that may be at all. -/
def mayL (l : List Pl) : Bool := allB l.length (fun k => mayB (l.getD k q0))
theorem mayL_iff {l : List Pl} : mayL l = true ↔ ∀ p ∈ l, mayB p = true := by
  unfold mayL
  rw [allB_iff]
  constructor
  · intro h p hp
    obtain ⟨i, hi, rfl⟩ := List.getElem_of_mem hp
    have := h i hi
    simpa [hi] using this
  · intro h i hi
    exact h _ (getD_mem hi)
theorem wok_may {l : List Pl} (h : mayL l = true) (hn : l.length ≤ 8) : Wok l := ⟨hn, fun p hp => by
  obtain ⟨h1, h2, h3, h4⟩ := may_parts (mayL_iff.1 h p hp)
  exact ⟨by omega, by omega, by omega, fun x hx => (h4 x hx).1⟩⟩
def wholeE (l : List Pl) : Int := if 8 < l.length then 4 else if mayL l = true then 0 else 170
def wholeL (l : List Pl) : List Nat := if wholeE l = 0 then smlI (plansI l) else []
set_option maxRecDepth 100000 in
set_option maxHeartbeats 1000000 in
theorem whole_any {w : World} {a : Option Addr} {n c : Nat} {l : List Pl} (hP : Plans w a n c l) : Calls Try.prog 40 #[.slice a n c] w fun e w' => ∃ a' c', e = .returned (.tuple #[.slice a' (wholeL l).length c', .int .i64 (wholeE l)]) ∧ Mine w' w.heap.size a' (wholeL l).length c' (wholeL l) ∧ Kept w w' none := by
  have HP := Hid.mk' hP
  have hsz := hP.size
  have hml : n ≤ 9223372036854775807 := by have := hP.cap.room; have := hP.cap.max; omega
  by_cases h8 : 8 < n
  · have hE : wholeE l = 4 := by unfold wholeE; rw [if_pos (by omega)]
    have hL : wholeL l = [] := by unfold wholeL; rw [hE]; rfl
    rw [hE, hL]
    clear hP hE hL hsz
    go_enter Try.func40, Try.ntmps40
    go_wp2
    go_ret2
    exact ⟨none, 0, rfl, Mine.empty _ _, Kept.refl _ _⟩
  · have hmy : allB n (fun k => mayB (l.getD k q0)) = mayL l := by unfold mayL; rw [hsz]
    cases hm : mayL l with
    | false =>
      have hE : wholeE l = 170 := by unfold wholeE; rw [if_neg (by omega), if_neg (by rw [hm]; decide)]
      have hL : wholeL l = [] := by unfold wholeL; rw [hE]; rfl
      rw [hE, hL]
      have HMY := Hid.mk' (hmy.trans hm)
      clear hP hE hL hsz hmy
      go_enter Try.func40, Try.ntmps40
      go_wp2_with (go_at_call 60; refine (allMay_any HP.out).mono ?_; rintro e w2 ⟨rfl, hk2⟩; rw [HMY.out])
      go_ret2
      exact ⟨none, 0, rfl, Mine.empty _ _, hk2⟩
    | true =>
      have hE : wholeE l = 0 := by unfold wholeE; rw [if_neg (by omega), if_pos hm]
      have hL : wholeL l = smlI (plansI l) := by unfold wholeL; rw [hE]; rfl
      rw [hE, hL]
      have HMY := Hid.mk' (hmy.trans hm)
      have HWk := Hid.mk' (wok_may hm (by omega))
      clear hP hE hL hsz hmy hm
      go_enter Try.func40, Try.ntmps40
      go_wp2_with (first | (go_at_call 60; refine (allMay_any HP.out).mono ?_; rintro e w2 ⟨rfl, hk2⟩; rw [HMY.out]) | (go_at_call 61; refine (planBytes_any (HP.out.kept hk2) HWk.out).mono ?_; rintro e w3 ⟨a3, c3, rfl, hm3, hk3⟩))
      go_ret2
      exact ⟨a3, c3, rfl, ⟨own_lower hm3.own hk2.size, hm3.nil, hm3.room, hm3.max⟩, hk2.tr hk3⟩

end Go.Proofs.Ytlabjamkaebnjaa

