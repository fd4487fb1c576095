/-
  Texts joined: some of those that the proofs of this seat stand on.
-/
import Derived.Test.YtmjkhafifemegabSmallJ
import Derived.Test.YtmjkhafifemegabRead
import Derived.Test.YtmjkhafifemegabStorM
import Derived.Test.YtmjkhafifemegabBlkD
/-
  THE CONTRACTS of the document's Put, Get, Small, Read (stoplineref03), and of the program's own, in one form for all inputs.
-/
namespace Go.Proofs.Ytmjkhafifemegab
open Go.RowKit Go.Lib Go.Deep
set_option linter.unusedVariables false
set_option linter.unusedSimpArgs false

theorem by_one (w : World) (x : Nat) (h : x < 256) : By (w.alloc (.cells #[.int .u8 (x : Int)] 5)) (some ⟨w.heap.size, 0, none⟩) 1 [x] :=
  By.alloc w [x] 5 (0, 0) #[.int .u8 (x : Int)] (fun i hi => by
    have : i = 0 := by simpa using hi
    subst this; rfl) (by simp) (fun y hy => by simp at hy; omega)
theorem mine_nil (w : World) (base : Nat) : Mine w base none 0 0 [] := ⟨World.ownsRow_nil _ _ _ _, fun _ => ⟨rfl, rfl⟩, Nat.le_refl _, by omega⟩

/-! ### Put -/
theorem leb_snoc : ∀ k n, leb (k + 1) n = leb k n ++ [n / 256 ^ k % 256]
  | 0, n => by simp [leb]
  | k + 1, n => by
    rw [leb, leb_snoc k (n / 256), leb, List.cons_append, Nat.div_div_eq_div_mul, Nat.pow_succ, Nat.mul_comm 256]
def putOkB (n : Nat) (width : Int) : Bool := decide (1 ≤ width) && decide (width ≤ 8) && decide (n / 256 ^ width.toNat = 0)
abbrev putOk (n : Nat) (width : Int) : Prop := putOkB n width = true
theorem putOk_iff (n : Nat) (width : Int) : putOk n width ↔ 1 ≤ width ∧ width ≤ 8 ∧ n / 256 ^ width.toNat = 0 := by
  unfold putOk putOkB
  simp [and_assoc]
def putL (n : Nat) (width : Int) : List Nat := if putOk n width then leb width.toNat n else []
def putE (n : Nat) (width : Int) : Int := if putOk n width then 0 else 2
theorem putE_le (n : Nat) (width : Int) : 0 ≤ putE n width ∧ putE n width ≤ 2 := by unfold putE; split <;> omega
theorem put_all (n : Nat) (width : Int) (w : World) (hn : n < 18446744073709551616) :
    Calls Try.prog 35 #[.int .u64 n, .int .i64 width] w fun e w' => ∃ a k c, e = .returned (.tuple #[.slice a k c, .int .i64 (putE n width)]) ∧ By w' a k (putL n width) ∧ Kept w w' none := by
  by_cases hw : width < 1 ∨ 8 < width
  · have ho : ¬ putOk n width := fun h => by obtain ⟨h1, h2, _⟩ := (putOk_iff _ _).1 h; omega
    unfold putE putL
    rw [if_neg ho, if_neg ho]
    refine (put_no_width n width w hw).mono ?_
    rintro e w ⟨rfl, rfl⟩
    exact ⟨none, 0, 0, rfl, By.nil _ _, Kept.refl _ _⟩
  · obtain ⟨q, rfl⟩ : ∃ q : Nat, width = (q : Int) := ⟨width.toNat, by omega⟩
    by_cases hz : n / 256 ^ q = 0
    · have ho : putOk n (q : Int) := (putOk_iff _ _).2 ⟨by omega, by omega, by simpa using hz⟩
      unfold putE putL
      rw [if_pos ho, if_pos ho]
      refine (put_yes n q w (by omega) (by omega) hn hz).mono ?_
      rintro e w' ⟨rfl, h1, h2, _⟩
      exact ⟨_, _, _, rfl, by simpa using h1, h2⟩
    · have ho : ¬ putOk n (q : Int) := fun h => hz (by have := ((putOk_iff _ _).1 h).2.2; simpa using this)
      unfold putE putL
      rw [if_neg ho, if_neg ho]
      refine (put_no n q w (by omega) (by omega) hn hz).mono ?_
      rintro e w ⟨rfl, rfl⟩
      exact ⟨none, 0, 0, rfl, By.nil _ _, Kept.refl _ _⟩

/-! ### Get -/
def getN (L : List Nat) : Nat := if 1 ≤ L.length ∧ L.length ≤ 8 then v256 L else 0
def getE (L : List Nat) : Nat := if 1 ≤ L.length ∧ L.length ≤ 8 then 0 else 8
theorem get_all {a : Option Addr} {len c : Nat} {L : List Nat} {w : World} (hB : By w a len L) :
    Calls Try.prog 51 #[.slice a len c] w fun e w' => e = .returned (.tuple #[.int .u64 ((getN L : Nat) : Int), .int .i64 ((getE L : Nat) : Int)]) ∧ ∃ m, w' = w.drewN m := by
  have hl := hB.size
  unfold getN getE
  by_cases h : 1 ≤ L.length ∧ L.length ≤ 8
  · rw [if_pos h, if_pos h]
    exact get_yes hB (by omega) (by omega)
  · rw [if_neg h, if_neg h]
    refine (get_no w (by omega) hB.max).mono ?_
    rintro e w ⟨rfl, rfl⟩
    exact ⟨rfl, 0, rfl⟩

/-! ### Small -/

end Go.Proofs.Ytmjkhafifemegab

/-
  LISTS OF BLOCKS IN MEMORY; the numbers at a block's two ends; two lists held against one another.
-/
namespace Go.Proofs.Ytmjkhafifemegab
open Go.RowKit Go.Lib Go.Deep
set_option linter.unusedVariables false
set_option linter.unusedSimpArgs false

theorem Try.infoB2 : (Try.prog.info? 22).map (fun i => (i.zero, i.size, i.bytes)) = some (some (.slice none 0 0), 1, 24) := by kernel_rfl
theorem Try.uB2 : Try.prog.underlying 46 = some (.slice 22) := by kernel_rfl
/-- A list of slices of bytes, at block H or behind it. -/
structure Bl (w : World) (H : Nat) (la : Option Addr) (m : Nat) (B : List (List Nat)) : Prop where
  size : B.length = m
  max : m ≤ 1000000
  at_ : 0 < m → ∃ b off, la = some ⟨b, off, none⟩ ∧ H ≤ b ∧ b < w.heap.size ∧ ∀ i p, B[i]? = some p → ∃ a c, w.cell? ⟨b, off + i, none⟩ = some (.slice a p.length c) ∧ Come w a p.length c p ∧ (∀ x, a = some x → H ≤ x.block)
theorem Bl.kept {w w' : World} {H : Nat} {la : Option Addr} {m : Nat} {B : List (List Nat)} (h : Bl w H la m B) (k : Kept w w' none) : Bl w' H la m B := by
  refine ⟨h.size, h.max, fun hp => ?_⟩
  obtain ⟨b, off, rfl, hH, hb, hc⟩ := h.at_ hp
  refine ⟨b, off, rfl, hH, Nat.lt_of_lt_of_le hb k.size, fun i p hp => ?_⟩
  obtain ⟨a, c, h1, h2, h3⟩ := hc i p hp
  exact ⟨a, c, (cell_kpt k hb).trans h1, h2.kpt k, h3⟩
theorem Bl.mono {w : World} {H H' : Nat} {la : Option Addr} {m : Nat} {B : List (List Nat)} (h : Bl w H la m B) (k : H' ≤ H) : Bl w H' la m B := by
  refine ⟨h.size, h.max, fun hp => ?_⟩
  obtain ⟨b, off, rfl, hH, hb, hc⟩ := h.at_ hp
  refine ⟨b, off, rfl, Nat.le_trans k hH, hb, fun i p hp => ?_⟩
  obtain ⟨a, c, h1, h2, h3⟩ := hc i p hp
  exact ⟨a, c, h1, h2, fun x e => Nat.le_trans k (h3 x e)⟩
theorem Bl.nil (w : World) (H : Nat) (la : Option Addr) : Bl w H la 0 [] := ⟨rfl, by omega, fun h => absurd h (by omega)⟩
theorem Bl.lt {w : World} {H : Nat} {la : Option Addr} {m : Nat} {B : List (List Nat)} (h : Bl w H la m B) : ∀ p ∈ B, ∀ x ∈ p, x < 256 := by
  intro p hp
  obtain ⟨i, hi, rfl⟩ := List.mem_iff_getElem.1 hp
  obtain ⟨b, off, _, _, _, hc⟩ := h.at_ (by have := h.size; omega)
  obtain ⟨a, c, _, h4, _⟩ := hc i B[i] (by simp)
  exact h4.by_.lt
/-- The n'th one. -/
theorem Bl.get {w : World} {H : Nat} {la : Option Addr} {m : Nat} {B : List (List Nat)} (h : Bl w H la m B) {i : Nat} (hi : i < m) : ∃ b off a c, la = some ⟨b, off, none⟩ ∧ b < w.heap.size ∧ w.cell? ⟨b, off + i, none⟩ = some (.slice a (B.getD i []).length c) ∧ Come w a (B.getD i []).length c (B.getD i []) := by
  obtain ⟨b, off, e, _, hb, hc⟩ := h.at_ (by omega)
  have hs := h.size
  have hl : i < B.length := by omega
  have e2 : B.getD i [] = B[i] := by simp [hl]
  obtain ⟨a, c, h1, h2, _⟩ := hc i B[i] (by simp)
  exact ⟨b, off, a, c, e, hb, by rw [e2]; exact h1, by rw [e2]; exact h2⟩

theorem By.subN {w : World} {b off n : Nat} {L : List Nat} (h : By w (some ⟨b, off, none⟩) n L) {i k : Nat} (hik : i + k ≤ n) : By w (some ⟨b, off + i, none⟩) k ((L.drop i).take k) := by
  have hs := h.size
  have hm := h.max
  refine ⟨by rw [List.length_take, List.length_drop]; omega, by omega, fun x hx => h.lt x (List.mem_of_mem_drop (List.mem_of_mem_take hx)), fun hp => ?_⟩
  obtain ⟨b', off', e, hb, hc⟩ := h.at_ (by omega)
  injection e with e
  injection e with e1 e2 e3
  subst e1 e2
  refine ⟨b, off + i, rfl, hb, fun j hj => ?_⟩
  rw [Nat.add_assoc, hc (i + j) (by omega)]
  congr 2
  have : ((L.drop i).take k).getD j 0 = L.getD (i + j) 0 := by
    simp [List.getD_eq_getElem?_getD, List.getElem?_take, hj]
  rw [this]
theorem Come.subN {w : World} {b off n c : Nat} {L : List Nat} (h : Come w (some ⟨b, off, none⟩) n c L) {i k : Nat} (hik : i + k ≤ n) : Come w (some ⟨b, off + i, none⟩) k (c - i) ((L.drop i).take k) := by
  have h1 := h.room
  have h2 := h.max
  exact ⟨h.by_.subN hik, fun e => (nomatch e), by omega, by omega⟩
theorem getN_8 {L : List Nat} (h : L.length = 8) : getN L = v256 L := by
  unfold getN
  rw [if_pos ⟨by omega, by omega⟩]
theorem mineCome {w : World} {base : Nat} {a : Option Addr} {n c : Nat} {L : List Nat} (h : Mine w base a n c L) (hl : ∀ x ∈ L, x < 256) : Come w a n c L := ⟨h.by hl, fun e => (h.nil e).2, h.room, h.max⟩
theorem mineAt {w : World} {base : Nat} {a : Option Addr} {n c : Nat} {L : List Nat} (h : Mine w base a n c L) : ∀ x, a = some x → base ≤ x.block := fun x e => by subst e; exact h.new x.block (by simp [Value.ownBlock])
theorem kept_trR {w w1 w2 : World} {r : Option Nat} (h : Kept w w1 r) (k : Kept w1 w2 r) : Kept w w2 r := ⟨k.os.trans h.os, k.tape.trans h.tape, k.output.trans h.output, Nat.le_trans h.size k.size, fun i hi hne => (k.block i (Nat.lt_of_lt_of_le hi h.size) hne).trans (h.block i hi hne)⟩
theorem kept_drwN (w : World) (m : Nat) : Kept w (w.drewN m) none := Kept.drewN _ _ _

theorem first_any {a : Option Addr} {c : Nat} {L : List Nat} {w : World} (h : Come w a 64 c L) :
    Calls Try.prog 33 #[.slice a 64 c] w fun e w' => e = .returned (.int .u64 ((begN L : Nat) : Int)) ∧ Kept w w' none := by
  obtain ⟨b, off, rfl, hb, _⟩ := h.by_.at_ (by omega)
  have HS := Hid.mk' (h.by_.subN (i := 0) (k := 8) (by omega))
  rw [List.drop_zero, Nat.add_zero] at HS
  have hs := h.by_.size
  have HN : Hid (getN (L.take 8) = begN L) := Hid.mk' (by rw [getN_8 (by rw [List.length_take]; omega)]; rfl)
  have hr := h.room
  have hm := h.max
  clear h hs
  go_enter Try.func33, Try.ntmps33
  go_wp2_with (go_at_call 51; refine (get_all HS.out).mono ?_; rintro e w2 ⟨rfl, m, rfl⟩)
  go_ret
  exact ⟨by rw [HN.out]; rfl, kept_drwN _ _⟩
theorem last_any {a : Option Addr} {c : Nat} {L : List Nat} {w : World} (h : Come w a 64 c L) :
    Calls Try.prog 34 #[.slice a 64 c] w fun e w' => e = .returned (.int .u64 ((endN L : Nat) : Int)) ∧ Kept w w' none := by
  obtain ⟨b, off, rfl, hb, _⟩ := h.by_.at_ (by omega)
  have HS := Hid.mk' (h.by_.subN (i := 56) (k := 8) (by omega))
  have hs := h.by_.size
  have HN : Hid (getN ((L.drop 56).take 8) = endN L) := Hid.mk' (by
    rw [List.take_of_length_le (by rw [List.length_drop]; omega), getN_8 (by rw [List.length_drop]; omega)]
    rfl)
  have hr := h.room
  have hm := h.max
  clear h hs
  go_enter Try.func34, Try.ntmps34
  go_wp2_with (go_at_call 51; refine (get_all HS.out).mono ?_; rintro e w2 ⟨rfl, m, rfl⟩)
  go_ret
  exact ⟨by rw [HN.out]; rfl, kept_drwN _ _⟩

/-! ### Two lists held against one another -/
theorem take_eq_snoc {A B : List (List Nat)} {k : Nat} (ha : k < A.length) (hb : k < B.length) : (A.take (k + 1) = B.take (k + 1)) = (A.take k = B.take k ∧ A.getD k [] = B.getD k []) := by
  have e1 : A.getD k [] = A[k] := by simp [ha]
  have e2 : B.getD k [] = B[k] := by simp [hb]
  rw [e1, e2, List.take_succ_eq_append_getElem ha, List.take_succ_eq_append_getElem hb]
  apply propext
  constructor
  · intro h
    have := List.append_inj h (by rw [List.length_take, List.length_take]; omega)
    exact ⟨this.1, by simpa using this.2⟩
  · rintro ⟨h1, h2⟩
    rw [h1, h2]
set_option maxRecDepth 100000 in
set_option maxHeartbeats 1000000 in
theorem equf_any {a b : Option Addr} {m k c d : Nat} {A B : List (List Nat)} {w : World} (hA : Bl w 0 a m A) (hB : Bl w 0 b k B) :
    Calls Try.prog 56 #[.slice a m c, .slice b k d, .func (.func 57) #[] #[]] w fun e w' => e = .returned (.bool (decide (A = B))) ∧ Kept w w' none := by
  have HA := Hid.mk' hA
  have HB := Hid.mk' hB
  have hm := hA.max
  have hk := hB.max
  have hsa := Hid.mk' hA.size
  have hsb := Hid.mk' hB.size
  clear hA hB
  by_cases hmk : m = k
  · subst hmk
    go_enter Try.func56, Try.ntmps56
    go_wp2
    go_loopw [17] (fun i wr => ∃ q : Nat, q ≤ m ∧ i = .int .i64 q ∧ Hid (A.take q = B.take q) ∧ Kept w wr none) (fun i _ => m - (intOf i).toNat)
    case atStart => exact ⟨0, Nat.zero_le _, rfl, Hid.mk' rfl, Kept.refl _ _⟩
    case round =>
      obtain ⟨q, hq, rfl, hE, hkr⟩ := hrel
      have HK := Hid.mk' hkr
      by_cases hlt : q < m
      · obtain ⟨b1, o1, a1, c1, rfl, hb1, p1, hC1⟩ := (HA.out.kept hkr).get hlt
        obtain ⟨b2, o2, a2, c2, rfl, hb2, p2, hC2⟩ := (HB.out.kept hkr).get hlt
        have HQ := Hid.mk' (bequ_any (c := c1) (d := c2) hC1.by_ hC2.by_)
        have HS : Hid ((A.take (q + 1) = B.take (q + 1)) = (A.take q = B.take q ∧ A.getD q [] = B.getD q [])) := Hid.mk' (take_eq_snoc (by rw [hsa.out]; exact hlt) (by rw [hsb.out]; exact hlt))
        have hl1 := hC1.by_.max
        have hl2 := hC2.by_.max
        clear hC1 hC2 hkr
        generalize hx : A.getD q [] = x at *
        generalize hy : B.getD q [] = y at *
        clear hx hy
        by_cases hxy : x = y
        · have HD : Hid (decide (x = y) = true) := decide_eq_true hxy
          have HXY := Hid.mk' hxy
          clear hxy
          go_wp2_with (go_at_call 57; refine HQ.out.mono ?_; rw [HD.out]; rintro e w2 ⟨rfl, rfl⟩)
          go_roundw
          case rel => exact ⟨q + 1, by omega, by go_num, Hid.mk' (by rw [HS.out]; exact ⟨hE.out, HXY.out⟩), HK.out⟩
          case measure => simp [intOf]; omega
        · have HD : Hid (decide (x = y) = false) := decide_eq_false hxy
          have HXY := Hid.mk' hxy
          clear hxy
          go_wp2_with (go_at_call 57; refine HQ.out.mono ?_; rw [HD.out]; rintro e w2 ⟨rfl, rfl⟩)
          go_ret
          have hne : A = B → x = y := fun e => by
            have : A.take (q + 1) = B.take (q + 1) := by rw [e]
            rw [HS.out] at this
            exact this.2
          rw [show decide (A = B) = false from decide_eq_false (fun e => HXY.out (hne e))]
          exact ⟨rfl, HK.out⟩
      · have hqm : q = m := by omega
        subst hqm
        go_wp2
        go_ret
        have e := hE.out
        rw [List.take_of_length_le (by rw [hsa.out]; exact Nat.le_refl _), List.take_of_length_le (by rw [hsb.out]; exact Nat.le_refl _)] at e
        rw [show decide (A = B) = true from decide_eq_true e]
        exact ⟨rfl, HK.out⟩
  · have hmk' : ¬ (m : Int) = (k : Int) := by omega
    go_enter Try.func56, Try.ntmps56
    go_wp2
    go_ret
    rw [show decide (A = B) = false from decide_eq_false (fun e => hmk (by rw [← hsa.out, ← hsb.out, e]))]
    exact ⟨rfl, Kept.refl _ _⟩

end Go.Proofs.Ytmjkhafifemegab

