/-
  Of the text Grow: what this stage needs (culled by a program).
-/
import Derived.Test.YtnmfigcemknjbaaPutJ
import Derived.Test.YtnmfigcemknjbaaWorld
import Derived.Test.YtnmfigcemknjbaaJoin
import Derived.Test.YtnmfigcemknjbaaSep
import Derived.Test.YtnmfigcemknjbaaMaths
import Derived.Test.YtnmfigcemknjbaaSFitsJ
import Derived.Maps.AppendAt
namespace Go.Proofs.Ytnmfigcemknjbaa
open Go.RowKit Go.Lib Go.Deep
set_option linter.unusedVariables false
set_option linter.unusedSimpArgs false

theorem own_lower {w : World} {base b2 e size n : Nat} {v : Value} {xs : List Value} (h : w.ownsRow base e size v n xs) (hb : b2 ≤ base) : w.ownsRow b2 e size v n xs := by
  refine ⟨h.1, ?_⟩
  rcases h.2 with hn | ⟨g, cap, cur, rfl, hbg, rest⟩
  · exact .inl hn
  · exact .inr ⟨g, cap, cur, rfl, Nat.le_trans hb hbg, rest⟩
theorem Mine.lower {w : World} {base b2 : Nat} {a : Option Addr} {n cap : Nat} {L : List Nat} (h : Mine w base a n cap L) (hb : b2 ≤ base) : Mine w b2 a n cap L := ⟨own_lower h.own hb, h.nil, h.room, h.max⟩
theorem own_keptR {w w' : World} {r : Option Nat} {base e size n : Nat} {v : Value} {xs : List Value} (h : w.ownsRow base e size v n xs) (k : Kept w w' r) (hr : ∀ i, v.ownBlock = some i → some i ≠ r) : w'.ownsRow base e size v n xs := by
  refine ⟨h.1, ?_⟩
  rcases h.2 with hn | ⟨g, cap, cur, rfl, hb, hgg, rest⟩
  · exact .inl hn
  · refine .inr ⟨g, cap, cur, rfl, hb, ?_, rest⟩
    rw [k.block g (Array.getElem?_eq_some_iff.1 hgg).1 (hr g rfl)]
    exact hgg
theorem Mine.keptR {w w' : World} {r : Option Nat} {base : Nat} {a : Option Addr} {n cap : Nat} {L : List Nat} (h : Mine w base a n cap L) (k : Kept w w' r) (hr : ∀ i, (Value.slice a n cap).ownBlock = some i → some i ≠ r) : Mine w' base a n cap L := ⟨own_keptR h.own k hr, h.nil, h.room, h.max⟩
theorem Mine.kept {w w' : World} {base : Nat} {a : Option Addr} {n cap : Nat} {L : List Nat} (h : Mine w base a n cap L) (k : Kept w w' none) : Mine w' base a n cap L := h.keptR k (fun _ _ => by simp)
theorem Mine.lt {w : World} {base : Nat} {a : Option Addr} {n cap : Nat} {L : List Nat} (h : Mine w base a n cap L) : ∀ k, (Value.slice a n cap).ownBlock = some k → base ≤ k ∧ k < w.heap.size := fun k hk => h.own.lt k hk
theorem Mine.empty (w : World) (base : Nat) : Mine w base none 0 0 [] := ⟨World.ownsRow_nil _ _ _ _, fun _ => ⟨rfl, rfl⟩, Nat.le_refl _, by omega⟩
theorem cell_keptR {w w' : World} {r : Option Nat} {B j : Nat} {v : Value} (h : w.cell? ⟨B, j, none⟩ = some v) (q : Kept w w' r) (hr : some B ≠ r) : w'.cell? ⟨B, j, none⟩ = some v :=
  (World.cell?_of_block (w := w) (a := ⟨B, j, none⟩) (q.block B (block_lt h) hr)).trans h
theorem Lie.keptR {w w' : World} {r : Option Nat} {a : Option Addr} {n k : Nat} {f : Nat → Nat → Value} (h : Lie w a n k f) (q : Kept w w' r) (hr : 0 < n → ∀ x, a = some x → some x.block ≠ r) : Lie w' a n k f :=
  ⟨fun hp => by
    obtain ⟨b, off, rfl, hb, hc⟩ := h.at_ hp
    exact ⟨b, off, rfl, Nat.lt_of_lt_of_le hb q.size, fun i hi j hj => (World.cell?_of_block (w := w) (a := ⟨b, off + i * k + j, none⟩) (q.block b hb (hr hp _ rfl))).trans (hc i hi j hj)⟩⟩
theorem Ints.keptR {w w' : World} {r : Option Nat} {a : Option Addr} {n c : Nat} {l : List Int} (h : Ints w a n c l) (q : Kept w w' r) (hr : 0 < n → ∀ x, a = some x → some x.block ≠ r) : Ints w' a n c l := ⟨h.lie.keptR q hr, h.size, h.cap, h.rng⟩
theorem Ints.lt {w : World} {a : Option Addr} {n c : Nat} {l : List Int} (h : Ints w a n c l) (hp : 0 < n) : ∀ x, a = some x → x.block < w.heap.size := fun x hx => by
  obtain ⟨b, off, e, hb, _⟩ := h.at_ hp
  rw [e] at hx
  injection hx with hx
  subst hx
  exact hb
/-- Numbers just laid. -/
theorem ints_lit (w : World) (l : List Int) (cs : Array Value) (t : TypeId) (n : Nat) (hn : l.length = n) (hc : ∀ i, i < n → cs[i]? = some (.int .i64 (l.getD i 0))) (hr : ∀ x ∈ l, -9223372036854775808 ≤ x ∧ x ≤ 9223372036854775807) (h2 : n ≤ 9223372036854775807) : Ints (w.alloc (.cells cs t)) (some ⟨w.heap.size, 0, none⟩) n n l :=
  ⟨⟨fun hp => ⟨w.heap.size, 0, rfl, by simp, fun i hi j hj => by
    obtain rfl : j = 0 := by omega
    rw [show 0 + i * 1 + 0 = i by omega, World.cell?_alloc_mark]
    exact hc i hi⟩⟩, hn, ⟨fun e => by simp at e, Nat.le_refl _, h2⟩, hr⟩
theorem ints_of (w : World) (l : List Int) (t : TypeId) (hr : ∀ x ∈ l, -9223372036854775808 ≤ x ∧ x ≤ 9223372036854775807) (h2 : l.length ≤ 9223372036854775807) : Ints (w.alloc (.cells (l.map fun x => Value.int .i64 x).toArray t)) (some ⟨w.heap.size, 0, none⟩) l.length l.length l :=
  ints_lit w l _ t l.length rfl (fun i hi => by simp [hi]) hr h2
theorem ne_own {w : World} {base : Nat} {a : Option Addr} {n cap : Nat} {L : List Nat} (h : Mine w base a n cap L) {q : Nat} (hq : q < base ∨ w.heap.size ≤ q) : some q ≠ (Value.slice a n cap).ownBlock := fun e => by
  have := h.lt q e.symm
  omega
/-- One step more, in the list's own block or in new ones. -/
theorem Kept.step {w w1 w2 : World} {v v1 : Value} (h : Kept w w1 v.ownBlock) (k : Kept w1 w2 v1.ownBlock) (m : Moved w v v1) : Kept w w2 v.ownBlock := by
  refine ⟨k.os.trans h.os, k.tape.trans h.tape, k.output.trans h.output, Nat.le_trans h.size k.size, fun i hi hr => ?_⟩
  refine (k.block i (Nat.lt_of_lt_of_le hi h.size) ?_).trans (h.block i hi hr)
  rcases m with m | ⟨g, m, hg⟩
  · rw [m]; exact hr
  · rw [m]
    intro e
    injection e with e
    omega
theorem Kept.weak {w w' : World} (h : Kept w w' none) (r : Option Nat) : Kept w w' r := ⟨h.os, h.tape, h.output, h.size, fun i hi _ => h.block i hi (by simp)⟩
theorem Kept.base {w w' : World} {r : Option Nat} (h : Kept w w' r) (hr : ∀ i, r = some i → w.heap.size ≤ i) : Kept w w' none := ⟨h.os, h.tape, h.output, h.size, fun i hi _ => h.block i hi (fun e => by have := hr i e.symm; omega)⟩
theorem Moved.tr {w w1 : World} {v v1 v2 : Value} (h : Moved w v v1) (k : Moved w1 v1 v2) (hs : w.heap.size ≤ w1.heap.size) : Moved w v v2 := by
  rcases k with k | ⟨g, k, hg⟩
  · rcases h with h | ⟨g, h, hg⟩
    · exact .inl (k.trans h)
    · exact .inr ⟨g, k.trans h, hg⟩
  · exact .inr ⟨g, k, by omega⟩
theorem wpList_joinA {ops : Array Oper} {rest : List Oper} {o : Oper} {act : Act} {Q : Exit → Act → World → Prop} {w : World} (hgd : o.guard = none) (s x : Operand)
    (ho : o.op = .call { callee := .builtin .append, args := #[s, x], argTypes := #[34, 34] })
    (base : Nat) (v : Value) (n : Nat) (L : List Nat) (hs : act.eval s = v) (hown : w.ownsRow base 5 1 v n (L.map byteV))
    (a : Option Addr) (m c : Nat) (M : List Nat) (hx : act.eval x = .slice a m c) (hB : By w a m M) (ha : a = none → c = 0)
    (hnm : n + m ≤ 70368744177664) (hbase : base ≤ w.heap.size)
    (h : ∀ a' cap w', Mine w' base a' (n + m) cap (L ++ M) → w.grownBy w' v.ownBlock → ((Value.slice a' (n + m) cap).ownBlock = v.ownBlock ∨ (Value.slice a' (n + m) cap).ownBlock = some w.heap.size) → wpList Try.prog ops Q rest (act.put o.dst (.slice a' (n + m) cap)) w') : wpList Try.prog ops Q (o :: rest) act w := by
  obtain ⟨i0, hi0, hz0, hz1, hz2⟩ := info_parts Try.info5
  have key : ∀ v' w', w'.ownsRow base 5 1 v' (n + m) ((L ++ M).map byteV) → w.grownBy w' v.ownBlock → (v'.ownBlock = v.ownBlock ∨ v'.ownBlock = some w.heap.size) → wpList Try.prog ops Q rest (act.put o.dst v') w' := by
    intro v' w' h1 h2 h3
    obtain ⟨a', cap, rfl, hm⟩ := mine_of h1
    exact h a' cap w' hm h2 h3
  cases a with
  | none =>
    have hm0 : m = 0 := by
      by_cases hm : 0 < m
      · obtain ⟨b, off, e, _⟩ := hB.at_ hm
        cases e
      · omega
    subst hm0
    have hM : M = [] := List.length_eq_zero_iff.1 hB.size
    subst hM
    have hc := ha rfl
    subst hc
    refine wpList_append_own_none hgd s x 34 ho base 5 i0 1 Try.uB hi0 v n (L.map byteV) hs hown hx (key v w ?_ (World.grownBy.refl w _) (.inl rfl))
    simpa using hown
  | some ad =>
    by_cases hm : 0 < m
    · obtain ⟨b, off, e, hb, hc⟩ := hB.at_ hm
      injection e with e
      subst e
      refine wpList_append_own_at w hgd s x 34 ho base 5 i0 _ 1 1 Try.uB hi0 hz0 hz1 hz2 rfl (by omega) v n (L.map byteV) hs hown ⟨b, off, none⟩ m c (M.map byteV) hx (by simp [hB.size]) (bytes_news hB.size hc) (bytes_one M) (by unfold maxLen; omega) (by omega) hbase ?_
      intro v' w' h1 h2 _ h4
      exact key v' w' (by rw [List.map_append]; exact h1) h2 h4
    · have hm0 : m = 0 := by omega
      subst hm0
      have hM : M = [] := List.length_eq_zero_iff.1 hB.size
      subst hM
      refine wpList_append_own_at w hgd s x 34 ho base 5 i0 _ 1 1 Try.uB hi0 hz0 hz1 hz2 rfl (by omega) v n (L.map byteV) hs hown ad 0 c [] hx (by simp) (fun j u hu => by simp at hu) (fun u hu => by cases hu) (by unfold maxLen; omega) (by omega) hbase ?_
      intro v' w' h1 h2 _ h4
      exact key v' w' (by simpa using h1) h2 h4

/-- Numbers' small bytes. -/
def smlI (l : List Int) : List Nat := l.flatMap fun x => sml x.toNat
theorem smlI_append (l k : List Int) : smlI (l ++ k) = smlI l ++ smlI k := by simp [smlI]
theorem smlI_snoc (l : List Int) (x : Int) : smlI (l ++ [x]) = smlI l ++ sml x.toNat := by simp [smlI]
theorem smlI_lt (l : List Int) : ∀ x ∈ smlI l, x < 256 := by
  intro x hx
  simp only [smlI, List.mem_flatMap] at hx
  obtain ⟨y, _, hx⟩ := hx
  exact sml_lt _ x hx
theorem smlI_len : ∀ (l : List Int), (∀ x ∈ l, x < 18446744073709551616) → (smlI l).length ≤ 10 * l.length
  | [], _ => by simp [smlI]
  | x :: l, h => by
    have h1 := smlI_len l (fun y hy => h y (List.mem_cons_of_mem _ hy))
    have h2 := h x (List.mem_cons_self ..)
    have h3 := sml_len10 x.toNat (by omega)
    have : smlI (x :: l) = sml x.toNat ++ smlI l := by simp [smlI]
    rw [this, List.length_append, List.length_cons]
    omega
theorem take_snocI {l : List Int} {k : Nat} (h : k < l.length) : l.take (k + 1) = l.take k ++ [l.getD k 0] := by
  rw [List.take_succ_eq_append_getElem h]; simp [h]

set_option maxRecDepth 100000 in
set_option maxHeartbeats 1000000 in
theorem wsmall_any {w : World} {a : Option Addr} {n c : Nat} {L : List Nat} {b : Option Addr} {m d : Nat} {l : List Int} (base : Nat) (hM : Mine w base a n c L) (hbase : base ≤ w.heap.size) (hI : Ints w b m d l)
    (hne : 0 < m → ∀ x, b = some x → some x.block ≠ (Value.slice a n c).ownBlock) (hpos : ∀ x ∈ l, 0 ≤ x) (hlen : n + 10 * m ≤ 1099511627776) :
    Calls Try.prog 35 #[.slice a n c, .slice b m d] w fun e w' => ∃ a' c', e = .returned (.slice a' (n + (smlI l).length) c') ∧ Mine w' base a' (n + (smlI l).length) c' (L ++ smlI l) ∧ Kept w w' (Value.slice a n c).ownBlock ∧ Moved w (.slice a n c) (.slice a' (n + (smlI l).length) c') := by
  have HM := Hid.mk' hM
  have HI := Hid.mk' hI
  have HNE := Hid.mk' hne
  have HPOS := Hid.mk' hpos
  have hsz := hI.size
  have HSZ := Hid.mk' hsz
  have hrng := hI.rng
  have HR := Hid.mk' hrng
  have hml : m ≤ 9223372036854775807 := by have := hI.cap.room; have := hI.cap.max; omega
  clear hM hI hne hpos hsz hrng
  go_enter Try.func35, Try.ntmps35
  go_wp2
  go_loopw [0, 9] (fun s i wr => ∃ k : Nat, k ≤ m ∧ i = .int .i64 k ∧ ∃ a1 n1 c1, s = .slice a1 n1 c1 ∧ n1 = n + (smlI (l.take k)).length ∧ n1 ≤ n + 10 * k ∧ Mine wr base a1 n1 c1 (L ++ smlI (l.take k)) ∧ Kept w wr (Value.slice a n c).ownBlock ∧ Moved w (.slice a n c) (.slice a1 n1 c1)) (fun _ i _ => m - (intOf i).toNat)
  case atStart => exact ⟨0, Nat.zero_le _, rfl, a, n, c, rfl, by simp [smlI], by omega, by simpa [smlI] using HM.out, Kept.refl _ _, .inl rfl⟩
  case round =>
    obtain ⟨k, hk, rfl, a1, n1, c1, rfl, hn1, hle, hMi, hkw, hmv⟩ := hrel
    have HMI := Hid.mk' hMi
    have HN1 := Hid.mk' hn1
    have HKW := Hid.mk' hkw
    have HMV := Hid.mk' hmv
    clear hMi hn1 hmv
    by_cases hlt : k < m
    · obtain ⟨bi, oi, rfl, hbi, hci⟩ := (HI.out.keptR hkw HNE.out).at_ (by omega)
      have kc := hci k hlt
      have hkl : k < l.length := by have := HSZ.out; omega
      have hv0 := HPOS.out (l.getD k 0) (getD_mem hkl)
      have hv1 := (HR.out (l.getD k 0) (getD_mem hkl)).2
      have hst : smlI (l.take (k + 1)) = smlI (l.take k) ++ sml (l.getD k 0).toNat := by rw [take_snocI hkl, smlI_snoc]
      have HST := Hid.mk' hst
      have hs10 := sml_len10 (l.getD k 0).toNat (by omega)
      clear hci hst hkw
      generalize hv : l.getD k 0 = v at *
      clear hv
      obtain ⟨q, rfl⟩ : ∃ q : Nat, v = (q : Int) := ⟨v.toNat, by omega⟩
      rw [Int.toNat_natCast] at *
      go_wp2_with (first
        | (have hgo := O2; clear hgo; at_builtin; refine wpList_joinA (by rfl) _ _ (by rfl) base (.slice a1 n1 c1) n1 (L ++ smlI (l.take k)) (by rfl) (own_keptR HMI.out.own hk2 (fun i _ => by simp)) _ (sml q).length 10 (sml q) (by rfl) (O2.out.by (by omega) (sml_lt q)) (fun e => by cases e) (by omega) (by have := HKW.out.size; have := hk2.size; omega) ?_; intro a3 c3 w3 hm3 hg3 hat3)
        | (go_at_call 54; refine (small_any q _ (by omega)).mono ?_; rintro e w2 ⟨rfl, ho2, hk2⟩; have O2 := Hid.mk' ho2; clear ho2))
      go_roundw
      case rel =>
        refine ⟨k + 1, by omega, by go_num, a3, _, c3, rfl, ?_, by omega, ?_, ?_, ?_⟩
        · rw [HST.out, List.length_append, HN1.out]; omega
        · rw [HST.out, ← List.append_assoc]; exact hm3
        · exact (HKW.out.step (hk2.weak _) HMV.out).step hg3 (HMV.out)
        · refine HMV.out.tr (w1 := wr) ?_ HKW.out.size
          rcases hat3 with e | e
          · exact .inl e
          · exact .inr ⟨_, e, hk2.size⟩
      case measure => simp [intOf]; omega
    · have hkk : l.take k = l := List.take_of_length_le (by have := HSZ.out; omega)
      rw [hkk] at HMI HN1
      have e := HN1.out
      subst e
      go_wp2
      go_ret
      exact ⟨a1, c1, rfl, HMI.out, HKW.out, HMV.out⟩

end Go.Proofs.Ytnmfigcemknjbaa
