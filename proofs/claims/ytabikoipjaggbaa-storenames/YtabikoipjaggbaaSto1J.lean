/-
  Texts joined: some of those that the proofs of this seat stand on.
-/
import Derived.Test.YtabikoipjaggbaaStorM
import Derived.Test.YtabikoipjaggbaaBlkD
import Derived.Test.YtabikoipjaggbaaRefNum
import Derived.Lib.AppendZerosOnto
import Derived.Lib.AppendZeros
/-
  LISTS OF BLOCKS IN MEMORY; the numbers at a block's two ends; two lists held against one another.
-/
namespace Go.Proofs.Ytabikoipjaggbaa
open Go.RowKit Go.Lib Go.Deep
set_option linter.unusedVariables false
set_option linter.unusedSimpArgs false

theorem Try.infoB2 : (Try.prog.info? 22).map (fun i => (i.zero, i.size, i.bytes)) = some (some (.slice none 0 0), 1, 24) := by kernel_rfl
theorem Try.uB2 : Try.prog.underlying 60 = some (.slice 22) := by kernel_rfl
/-- A list of slices of bytes, at block H or behind it. -/
structure Bl (w : World) (H : Nat) (la : Option Addr) (m : Nat) (B : List (List Nat)) : Prop where
  size : B.length = m
  max : m ≤ 1000000
  at_ : 0 < m → ∃ b off, la = some ⟨b, off, none⟩ ∧ H ≤ b ∧ b < w.heap.size ∧ ∀ i p, B[i]? = some p → ∃ a c, w.cell? ⟨b, off + i, none⟩ = some (.slice a p.length c) ∧ Come w a p.length c p ∧ (∀ x, a = some x → H ≤ x.block)
theorem Bl.kept {w w' : World} {H : Nat} {la : Option Addr} {m : Nat} {B : List (List Nat)} (h : Bl w H la m B) (k : Kept w w' none) : Bl w' H la m B := by
  refine ⟨h.size, h.max, fun hp => ?_⟩
  obtain ⟨b, off, rfl, hH, hb, hc⟩ := h.at_ hp
  refine ⟨b, off, rfl, hH, Nat.lt_of_lt_of_le hb k.size, fun i p hp => ?_⟩
  obtain ⟨a, c, h1, h2, h3⟩ := hc i p hp
  exact ⟨a, c, (cell_kpt k hb).trans h1, h2.kpt k, h3⟩
theorem Bl.mono {w : World} {H H' : Nat} {la : Option Addr} {m : Nat} {B : List (List Nat)} (h : Bl w H la m B) (k : H' ≤ H) : Bl w H' la m B := by
  refine ⟨h.size, h.max, fun hp => ?_⟩
  obtain ⟨b, off, rfl, hH, hb, hc⟩ := h.at_ hp
  refine ⟨b, off, rfl, Nat.le_trans k hH, hb, fun i p hp => ?_⟩
  obtain ⟨a, c, h1, h2, h3⟩ := hc i p hp
  exact ⟨a, c, h1, h2, fun x e => Nat.le_trans k (h3 x e)⟩
theorem Bl.nil (w : World) (H : Nat) (la : Option Addr) : Bl w H la 0 [] := ⟨rfl, by omega, fun h => absurd h (by omega)⟩
theorem Bl.lt {w : World} {H : Nat} {la : Option Addr} {m : Nat} {B : List (List Nat)} (h : Bl w H la m B) : ∀ p ∈ B, ∀ x ∈ p, x < 256 := by
  intro p hp
  obtain ⟨i, hi, rfl⟩ := List.mem_iff_getElem.1 hp
  obtain ⟨b, off, _, _, _, hc⟩ := h.at_ (by have := h.size; omega)
  obtain ⟨a, c, _, h4, _⟩ := hc i B[i] (by simp)
  exact h4.by_.lt
/-- The n'th one. -/
theorem Bl.get {w : World} {H : Nat} {la : Option Addr} {m : Nat} {B : List (List Nat)} (h : Bl w H la m B) {i : Nat} (hi : i < m) : ∃ b off a c, la = some ⟨b, off, none⟩ ∧ b < w.heap.size ∧ w.cell? ⟨b, off + i, none⟩ = some (.slice a (B.getD i []).length c) ∧ Come w a (B.getD i []).length c (B.getD i []) := by
  obtain ⟨b, off, e, _, hb, hc⟩ := h.at_ (by omega)
  have hs := h.size
  have hl : i < B.length := by omega
  have e2 : B.getD i [] = B[i] := by simp [hl]
  obtain ⟨a, c, h1, h2, _⟩ := hc i B[i] (by simp)
  exact ⟨b, off, a, c, e, hb, by rw [e2]; exact h1, by rw [e2]; exact h2⟩

theorem By.subN {w : World} {b off n : Nat} {L : List Nat} (h : By w (some ⟨b, off, none⟩) n L) {i k : Nat} (hik : i + k ≤ n) : By w (some ⟨b, off + i, none⟩) k ((L.drop i).take k) := by
  have hs := h.size
  have hm := h.max
  refine ⟨by rw [List.length_take, List.length_drop]; omega, by omega, fun x hx => h.lt x (List.mem_of_mem_drop (List.mem_of_mem_take hx)), fun hp => ?_⟩
  obtain ⟨b', off', e, hb, hc⟩ := h.at_ (by omega)
  injection e with e
  injection e with e1 e2 e3
  subst e1 e2
  refine ⟨b, off + i, rfl, hb, fun j hj => ?_⟩
  rw [Nat.add_assoc, hc (i + j) (by omega)]
  congr 2
  have : ((L.drop i).take k).getD j 0 = L.getD (i + j) 0 := by
    simp [List.getD_eq_getElem?_getD, List.getElem?_take, hj]
  rw [this]
theorem Come.subN {w : World} {b off n c : Nat} {L : List Nat} (h : Come w (some ⟨b, off, none⟩) n c L) {i k : Nat} (hik : i + k ≤ n) : Come w (some ⟨b, off + i, none⟩) k (c - i) ((L.drop i).take k) := by
  have h1 := h.room
  have h2 := h.max
  exact ⟨h.by_.subN hik, fun e => (nomatch e), by omega, by omega⟩
theorem getN_8 {L : List Nat} (h : L.length = 8) : getN L = v256 L := by
  unfold getN
  rw [if_pos ⟨by omega, by omega⟩]
theorem mineCome {w : World} {base : Nat} {a : Option Addr} {n c : Nat} {L : List Nat} (h : Mine w base a n c L) (hl : ∀ x ∈ L, x < 256) : Come w a n c L := ⟨h.by hl, fun e => (h.nil e).2, h.room, h.max⟩
theorem mineAt {w : World} {base : Nat} {a : Option Addr} {n c : Nat} {L : List Nat} (h : Mine w base a n c L) : ∀ x, a = some x → base ≤ x.block := fun x e => by subst e; exact h.new x.block (by simp [Value.ownBlock])
theorem kept_trR {w w1 w2 : World} {r : Option Nat} (h : Kept w w1 r) (k : Kept w1 w2 r) : Kept w w2 r := ⟨k.os.trans h.os, k.tape.trans h.tape, k.output.trans h.output, Nat.le_trans h.size k.size, fun i hi hne => (k.block i (Nat.lt_of_lt_of_le hi h.size) hne).trans (h.block i hi hne)⟩
theorem kept_drwN (w : World) (m : Nat) : Kept w (w.drewN m) none := Kept.drewN _ _ _

theorem first_any {a : Option Addr} {c : Nat} {L : List Nat} {w : World} (h : Come w a 64 c L) :
    Calls Try.prog 48 #[.slice a 64 c] w fun e w' => e = .returned (.int .u64 ((begN L : Nat) : Int)) ∧ Kept w w' none := by
  obtain ⟨b, off, rfl, hb, _⟩ := h.by_.at_ (by omega)
  have HS := Hid.mk' (h.by_.subN (i := 0) (k := 8) (by omega))
  rw [List.drop_zero, Nat.add_zero] at HS
  have hs := h.by_.size
  have HN : Hid (getN (L.take 8) = begN L) := Hid.mk' (by rw [getN_8 (by rw [List.length_take]; omega)]; rfl)
  have hr := h.room
  have hm := h.max
  clear h hs
  go_enter Try.func48, Try.ntmps48
  go_wp2_with (go_at_call 71; refine (get_all HS.out).mono ?_; rintro e w2 ⟨rfl, m, rfl⟩)
  go_ret
  exact ⟨by rw [HN.out]; rfl, kept_drwN _ _⟩
theorem last_any {a : Option Addr} {c : Nat} {L : List Nat} {w : World} (h : Come w a 64 c L) :
    Calls Try.prog 49 #[.slice a 64 c] w fun e w' => e = .returned (.int .u64 ((endN L : Nat) : Int)) ∧ Kept w w' none := by
  obtain ⟨b, off, rfl, hb, _⟩ := h.by_.at_ (by omega)
  have HS := Hid.mk' (h.by_.subN (i := 56) (k := 8) (by omega))
  have hs := h.by_.size
  have HN : Hid (getN ((L.drop 56).take 8) = endN L) := Hid.mk' (by
    rw [List.take_of_length_le (by rw [List.length_drop]; omega), getN_8 (by rw [List.length_drop]; omega)]
    rfl)
  have hr := h.room
  have hm := h.max
  clear h hs
  go_enter Try.func49, Try.ntmps49
  go_wp2_with (go_at_call 71; refine (get_all HS.out).mono ?_; rintro e w2 ⟨rfl, m, rfl⟩)
  go_ret
  exact ⟨by rw [HN.out]; rfl, kept_drwN _ _⟩

/-! ### Two lists held against one another -/
theorem take_eq_snoc {A B : List (List Nat)} {k : Nat} (ha : k < A.length) (hb : k < B.length) : (A.take (k + 1) = B.take (k + 1)) = (A.take k = B.take k ∧ A.getD k [] = B.getD k []) := by
  have e1 : A.getD k [] = A[k] := by simp [ha]
  have e2 : B.getD k [] = B[k] := by simp [hb]
  rw [e1, e2, List.take_succ_eq_append_getElem ha, List.take_succ_eq_append_getElem hb]
  apply propext
  constructor
  · intro h
    have := List.append_inj h (by rw [List.length_take, List.length_take]; omega)
    exact ⟨this.1, by simpa using this.2⟩
  · rintro ⟨h1, h2⟩
    rw [h1, h2]
set_option maxRecDepth 100000 in
set_option maxHeartbeats 1000000 in
theorem equf_any {a b : Option Addr} {m k c d : Nat} {A B : List (List Nat)} {w : World} (hA : Bl w 0 a m A) (hB : Bl w 0 b k B) :
    Calls Try.prog 81 #[.slice a m c, .slice b k d, .func (.func 82) #[] #[]] w fun e w' => e = .returned (.bool (decide (A = B))) ∧ Kept w w' none := by
  have HA := Hid.mk' hA
  have HB := Hid.mk' hB
  have hm := hA.max
  have hk := hB.max
  have hsa := Hid.mk' hA.size
  have hsb := Hid.mk' hB.size
  clear hA hB
  by_cases hmk : m = k
  · subst hmk
    go_enter Try.func81, Try.ntmps81
    go_wp2
    go_loopw [17] (fun i wr => ∃ q : Nat, q ≤ m ∧ i = .int .i64 q ∧ Hid (A.take q = B.take q) ∧ Kept w wr none) (fun i _ => m - (intOf i).toNat)
    case atStart => exact ⟨0, Nat.zero_le _, rfl, Hid.mk' rfl, Kept.refl _ _⟩
    case round =>
      obtain ⟨q, hq, rfl, hE, hkr⟩ := hrel
      have HK := Hid.mk' hkr
      by_cases hlt : q < m
      · obtain ⟨b1, o1, a1, c1, rfl, hb1, p1, hC1⟩ := (HA.out.kept hkr).get hlt
        obtain ⟨b2, o2, a2, c2, rfl, hb2, p2, hC2⟩ := (HB.out.kept hkr).get hlt
        have HQ := Hid.mk' (bequ_any (c := c1) (d := c2) hC1.by_ hC2.by_)
        have HS : Hid ((A.take (q + 1) = B.take (q + 1)) = (A.take q = B.take q ∧ A.getD q [] = B.getD q [])) := Hid.mk' (take_eq_snoc (by rw [hsa.out]; exact hlt) (by rw [hsb.out]; exact hlt))
        have hl1 := hC1.by_.max
        have hl2 := hC2.by_.max
        clear hC1 hC2 hkr
        generalize hx : A.getD q [] = x at *
        generalize hy : B.getD q [] = y at *
        clear hx hy
        by_cases hxy : x = y
        · have HD : Hid (decide (x = y) = true) := decide_eq_true hxy
          have HXY := Hid.mk' hxy
          clear hxy
          go_wp2_with (go_at_call 82; refine HQ.out.mono ?_; rw [HD.out]; rintro e w2 ⟨rfl, rfl⟩)
          go_roundw
          case rel => exact ⟨q + 1, by omega, by go_num, Hid.mk' (by rw [HS.out]; exact ⟨hE.out, HXY.out⟩), HK.out⟩
          case measure => simp [intOf]; omega
        · have HD : Hid (decide (x = y) = false) := decide_eq_false hxy
          have HXY := Hid.mk' hxy
          clear hxy
          go_wp2_with (go_at_call 82; refine HQ.out.mono ?_; rw [HD.out]; rintro e w2 ⟨rfl, rfl⟩)
          go_ret
          have hne : A = B → x = y := fun e => by
            have : A.take (q + 1) = B.take (q + 1) := by rw [e]
            rw [HS.out] at this
            exact this.2
          rw [show decide (A = B) = false from decide_eq_false (fun e => HXY.out (hne e))]
          exact ⟨rfl, HK.out⟩
      · have hqm : q = m := by omega
        subst hqm
        go_wp2
        go_ret
        have e := hE.out
        rw [List.take_of_length_le (by rw [hsa.out]; exact Nat.le_refl _), List.take_of_length_le (by rw [hsb.out]; exact Nat.le_refl _)] at e
        rw [show decide (A = B) = true from decide_eq_true e]
        exact ⟨rfl, HK.out⟩
  · have hmk' : ¬ (m : Int) = (k : Int) := by omega
    go_enter Try.func81, Try.ntmps81
    go_wp2
    go_ret
    rw [show decide (A = B) = false from decide_eq_false (fun e => hmk (by rw [← hsa.out, ← hsb.out, e]))]
    exact ⟨rfl, Kept.refl _ _⟩

end Go.Proofs.Ytabikoipjaggbaa

/-
  THE CONTRACTS of slices.Grow (of nothing) and slices.Concat, over bytes; what stands between the numbers of all blocks, one behind the other (toldBy's loop).
-/
namespace Go.Proofs.Ytabikoipjaggbaa
open Go.RowKit Go.Lib Go.Deep
set_option linter.unusedVariables false
set_option linter.unusedSimpArgs false

theorem grow_zeros (w : World) (n : Nat) (h0 : 0 < n) (hn : n ≤ 100000) : ∃ cap w', (Builtin.append_ #[22, 3] 22 #[.slice none 0 0, .int .i64 (n : Int)]).run Try.prog w = .ok (.slice (some ⟨w.heap.size, 0, none⟩) n cap) w' ∧ n ≤ cap ∧ cap ≤ 9223372036854775807 ∧ Mine w' w.heap.size (some ⟨w.heap.size, 0, none⟩) 0 cap [] ∧ Kept w w' none := by
  obtain ⟨i0, hi0, hz0, hz1, hz2⟩ := info_parts Try.info5
  have hr := run_append_nil_zeros (P := Try.prog) w 22 3 22 5 i0 _ .i64 .i64 Try.uB (by kernel_rfl) hi0 hz0 n h0 (by omega) (by omega) (by rw [hz2]; omega)
  have hge := grownCap_ge w n 0 5
  have hle := grownCap_le_maxLen w n 0 5 (by unfold maxLen; omega)
  refine ⟨_, _, hr, hge, by unfold maxLen at hle; omega, ⟨World.ownsRow_made w.drew _ _ (Nat.le_refl _) hle ?_, fun e => (nomatch e), Nat.zero_le _, by unfold maxLen at hle; omega⟩, (kept_drw w none).tr (Kept.alloc _ _ _ _ _)⟩
  simp [size_zeroCells, Value.cells]
  omega
set_option maxRecDepth 100000 in
set_option maxHeartbeats 1000000 in
theorem grow_any (n : Nat) (w : World) (h0 : 0 < n) (hn : n ≤ 100000) : Calls Try.prog 72 #[.slice none 0 0, .int .i64 (n : Int)] w fun e w' => ∃ cap, e = .returned (.slice (some ⟨w.heap.size, 0, none⟩) 0 cap) ∧ Mine w' w.heap.size (some ⟨w.heap.size, 0, none⟩) 0 cap [] ∧ Kept w w' none := by
  obtain ⟨cap, w', hr, hc1, hc2, hm, hk⟩ := grow_zeros w n h0 hn
  have HM := Hid.mk' hm
  have HR := Hid.mk' hr
  clear hm hr
  go_enter Try.func72, Try.ntmps72
  go_wp2_with (at_builtin; refine Lib.wpList_append_run _ rfl _ _ _ _ rfl _ _ rfl rfl _ _ HR.out ?_)
  go_ret
  exact ⟨cap, rfl, HM.out, hk⟩

theorem flat_succ {B : List (List Nat)} {k : Nat} (h : k < B.length) : (B.take (k + 1)).flatten = (B.take k).flatten ++ B.getD k [] := by
  rw [List.take_succ_eq_append_getElem h, List.flatten_append]
  simp [h]
theorem flat_le {B : List (List Nat)} (k : Nat) : (B.take k).flatten.length ≤ B.flatten.length := by
  conv => rhs; rw [← List.take_append_drop k B, List.flatten_append, List.length_append]
  omega
set_option maxRecDepth 100000 in
set_option maxHeartbeats 1000000 in
theorem conc_any {la : Option Addr} {m c : Nat} {B : List (List Nat)} {w : World} (h : Bl w 0 la m B) (h0 : 0 < B.flatten.length) (h1 : B.flatten.length ≤ 100000) :
    Calls Try.prog 51 #[.slice la m c] w fun e w' => ∃ a cap, e = .returned (.slice a B.flatten.length cap) ∧ Mine w' w.heap.size a B.flatten.length cap B.flatten ∧ Kept w w' none := by
  have HA := Hid.mk' h
  have hm := h.max
  have hsa := Hid.mk' h.size
  have HL := Hid.mk' h.lt
  clear h
  go_enter Try.func51, Try.ntmps51
  go_wp2
  go_loopw [3, 11] (fun s i wr => ∃ k : Nat, k ≤ m ∧ i = .int .i64 k ∧ s = .int .i64 (((B.take k).flatten.length : Nat) : Int) ∧ wr = w) (fun _ i _ => m - (intOf i).toNat)
  case atStart => exact ⟨0, Nat.zero_le _, rfl, rfl, by first | rfl | trivial⟩
  case round =>
    obtain ⟨k, hk, rfl, rfl, hw⟩ := hrel
    have hw2 := hw.symm
    clear hw
    subst hw2
    by_cases hlt : k < m
    · obtain ⟨b1, o1, a1, c1, rfl, hb1, p1, hC1⟩ := HA.out.get hlt
      have HF := Hid.mk' (flat_succ (B := B) (k := k) (by rw [hsa.out]; exact hlt))
      have hle := flat_le (B := B) (k + 1)
      rw [HF.out, List.length_append] at hle
      have hl1 := hC1.by_.max
      clear hC1
      generalize hx : B.getD k [] = x at *
      generalize hy : (B.take k).flatten = y at *
      clear hx hy
      go_wp2
      go_roundw
      case rel => exact ⟨k + 1, by omega, by go_num, by rw [HF.out, List.length_append]; go_num, by first | rfl | trivial⟩
      case measure => simp [intOf]; omega
    · have hkm : k = m := by omega
      subst hkm
      have e : B.take k = B := List.take_of_length_le (by rw [hsa.out]; exact Nat.le_refl _)
      rw [e]
      have HE := Hid.mk' e
      obtain ⟨N, hN⟩ : ∃ N, Hid (B.flatten.length = N) := ⟨_, Hid.mk' rfl⟩
      have HLE := Hid.mk' (fun q => flat_le (B := B) q)
      rw [hN.out] at h0 h1 HLE ⊢
      clear e
      go_wp2_with (go_at_call 72; refine (grow_any _ _ h0 h1).mono ?_; rintro e w2 ⟨cap2, rfl, hm2, hk2⟩; have HM2 := Hid.mk' hm2; clear hm2)
      go_loopw [6, 27] (fun s i wr => ∃ k' : Nat, k' ≤ k ∧ i = .int .i64 k' ∧ ∃ a' n' c', s = .slice a' n' c' ∧ n' = (B.take k').flatten.length ∧ Mine wr w.heap.size a' n' c' (B.take k').flatten ∧ Kept w wr none) (fun _ i _ => k - (intOf i).toNat)
      case atStart => exact ⟨0, Nat.zero_le _, rfl, _, _, _, rfl, by simp, HM2.out, hk2⟩
      case round =>
        obtain ⟨q, hq, rfl, a', n', c', rfl, hn', hMi, hkr⟩ := hrel
        have HN := Hid.mk' hn'
        have HMI := Hid.mk' hMi
        have HK := Hid.mk' hkr
        clear hMi
        by_cases hlt2 : q < k
        · obtain ⟨b1, o1, a1, c1, rfl, hb1, p1, hC1⟩ := (HA.out.kept hkr).get hlt2
          have HF := Hid.mk' (flat_succ (B := B) (k := q) (by rw [hsa.out]; exact hlt2))
          have hle := HLE.out (q + 1)
          rw [HF.out, List.length_append, ← hn'] at hle
          have hl1 := hC1.by_.max
          have HC := Hid.mk' hC1
          clear hC1 hn' hkr
          generalize hx : B.getD q [] = x at *
          generalize hy : (B.take q).flatten = y at *
          clear hx hy
          go_wp2_with (at_builtin; refine wpList_join (by rfl) _ _ (by rfl) w.heap.size (.slice a' n' c') n' y (by rfl) HMI.out.own a1 x.length c1 x (by rfl) HC.out.by_ HC.out.nil (by omega) HK.out.size ?_; intro a3 c3 w3 hm3 hg3)
          go_roundw
          case rel => exact ⟨q + 1, by omega, by go_num, a3, _, c3, rfl, by rw [HF.out, List.length_append, ← HN.out], by rw [HF.out]; exact hm3, HK.out.newRow hg3 (fun i h => HMI.out.new i h)⟩
          case measure => simp [intOf]; omega
        · have hqk : q = k := by omega
          subst hqk
          rw [HE.out] at HN HMI
          have hn2 := HN.out
          rw [hN.out] at hn2
          subst hn2
          clear hn'
          go_wp2
          go_ret
          rw [hN.out]
          exact ⟨a', c', rfl, HMI.out, HK.out⟩

end Go.Proofs.Ytabikoipjaggbaa

