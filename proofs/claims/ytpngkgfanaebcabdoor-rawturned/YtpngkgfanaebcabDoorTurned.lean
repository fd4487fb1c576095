/-
  THE WALK of RawTurned.
-/
import Derived.Test.YtpngkgfanaebcabDoorTurnM
import Derived.Test.YtpngkgfanaebcabDoorJoin
import Derived.Test.YtpngkgfanaebcabDoorAlive
import Derived.Deep.RegionWith
namespace Go.Proofs.YtpngkgfanaebcabDoor
open Go.RowKit Go.Lib Go.Deep
set_option linter.unusedVariables false
set_option linter.unusedSimpArgs false

theorem turned_out (a : Option Addr) (len cap : Nat) (at_ by_ : Int) (w : World) (h : 10000 < len ∨ at_ < 0 ∨ (len : Int) ≤ at_) (h2 : len ≤ 9223372036854775807) (ht : Table w) :
    Calls Tryd.prog 3 #[.slice a len cap, .int .i64 at_, .int .u32 by_] w fun e w' => e = .returned (.bool true) ∧ Below w.heap.size w w' := by
  have HT : Hid (Table w) := ht
  clear ht
  by_cases c1 : 10000 < len
  · clear h
    go_enter Tryd.func3, Tryd.ntmps3
    go_wp2_with (go_at_call 4; refine (alive_any _ HT.out).mono ?_; rintro e w1 ⟨rfl, hk⟩)
    go_ret
    exact ⟨rfl, hk.below⟩
  · by_cases c2 : at_ < 0
    · clear h
      go_enter Tryd.func3, Tryd.ntmps3
      go_wp2_with (go_at_call 4; refine (alive_any _ HT.out).mono ?_; rintro e w1 ⟨rfl, hk⟩)
      go_ret
      exact ⟨rfl, hk.below⟩
    · have c3 : (len : Int) ≤ at_ := by omega
      clear h
      go_enter Tryd.func3, Tryd.ntmps3
      go_wp2_with (go_at_call 4; refine (alive_any _ HT.out).mono ?_; rintro e w1 ⟨rfl, hk⟩)
      go_ret
      exact ⟨rfl, hk.below⟩

/-- The changed bytes, i of them. -/
def cv (L : List Nat) (p : Nat) (x : Nat → Nat) (i j : Nat) : Nat := if p ≤ j ∧ j < p + i then L.getD j 0 ^^^ x (j - p) else L.getD j 0
def cl (L : List Nat) (p : Nat) (x : Nat → Nat) (i : Nat) : List Nat := (List.range L.length).map (cv L p x i)
theorem cl_length (L : List Nat) (p : Nat) (x : Nat → Nat) (i : Nat) : (cl L p x i).length = L.length := by simp [cl]
theorem cl_getD (L : List Nat) (p : Nat) (x : Nat → Nat) (i j : Nat) (h : j < L.length) : (cl L p x i).getD j 0 = cv L p x i j := by simp [cl, h]
theorem xor256 {a b : Nat} (h : a < 256) (k : b < 256) : a ^^^ b < 256 := Nat.xor_lt_two_pow (n := 8) h k
theorem cv_lt (L : List Nat) (p : Nat) (x : Nat → Nat) (i j : Nat) (hL : ∀ j, L.getD j 0 < 256) (hx : ∀ t, x t < 256) : cv L p x i j < 256 := by
  unfold cv
  split
  · exact xor256 (hL j) (hx _)
  · exact hL j
theorem cl_lt (L : List Nat) (p : Nat) (x : Nat → Nat) (i : Nat) (hL : ∀ j, L.getD j 0 < 256) (hx : ∀ t, x t < 256) : ∀ y ∈ cl L p x i, y < 256 := by
  intro y hy
  simp only [cl, List.mem_map] at hy
  obtain ⟨j, _, rfl⟩ := hy
  exact cv_lt L p x i j hL hx
theorem cv_zero (L : List Nat) (p : Nat) (x : Nat → Nat) (j : Nat) : cv L p x 0 j = L.getD j 0 := by unfold cv; rw [if_neg (by omega)]
theorem cv_next (L : List Nat) (p : Nat) (x : Nat → Nat) (i : Nat) : cv L p x i (p + i) = L.getD (p + i) 0 := by unfold cv; rw [if_neg (by omega)]
theorem cv_step (L : List Nat) (p : Nat) (x : Nat → Nat) (i j : Nat) : cv L p x (i + 1) j = if j = p + i then L.getD (p + i) 0 ^^^ x i else cv L p x i j := by
  unfold cv
  by_cases e : j = p + i
  · subst e; rw [if_pos (by omega), if_pos rfl, Nat.add_sub_cancel_left]
  · rw [if_neg e]
    by_cases h : p ≤ j ∧ j < p + i
    · rw [if_pos (by omega), if_pos h]
    · rw [if_neg (by omega), if_neg h]

theorem own_row {w : World} {base g n cap : Nat} {L : List Nat} (h : Own w base g n cap L) : n ≤ cap ∧ ∃ f : Nat → Value, w.rowIs g 5 cap (fun j => if j < n then .int .u8 ((L.getD j 0 : Nat) : Int) else f j) := by
  have hl : L.length = n := by have := h.1; simpa using this
  obtain ⟨_, ⟨e, _⟩ | ⟨g', cap', cur, e, hb, hh, hle, hmx, hsz, htk⟩⟩ := h
  · cases e
  · injection e with e1 e2 e3
    subst e3
    injection e1 with e1
    injection e1 with e1 _
    subst e1
    refine ⟨hle, fun j => (cur[j]?).getD (.bool false), cur, hh, by omega, fun i hi => ?_⟩
    show cur[i]? = some (if i < n then _ else _)
    by_cases hin : i < n
    · rw [if_pos hin]
      have : (cur.toList.take (n * 1))[i]? = (L.map byteV)[i]? := by rw [htk]
      rw [List.getElem?_take_of_lt (by omega)] at this
      have hiL : i < L.length := by omega
      simp [hiL] at this
      simp [this, hiL]
    · rw [if_neg hin]
      have : i < cur.size := by omega
      simp [this]
theorem row_step {w : World} {g n cap p i : Nat} {L : List Nat} {x : Nat → Nat} {f : Nat → Value} (h : w.rowIs g 5 cap (fun j => if j < n then .int .u8 ((cv L p x i j : Nat) : Int) else f j)) (hin : p + i < n) :
    (w.setCell ⟨g, p + i, none⟩ (.int .u8 ((L.getD (p + i) 0 ^^^ x i : Nat) : Int))).rowIs g 5 cap (fun j => if j < n then .int .u8 ((cv L p x (i + 1) j : Nat) : Int) else f j) := by
  refine World.rowIs.congr (World.rowIs.set h (p + i) _) (fun j hj => ?_)
  rw [cv_step]
  by_cases e : j = p + i
  · subst e; rw [if_pos rfl, if_pos hin, if_pos rfl]
  · rw [if_neg e, if_neg e]

theorem Kept.setRow {a b : World} {g : Nat} (h : Kept a b (some g)) (o : Nat) (v : Value) : Kept a (b.setCell ⟨g, o, none⟩ v) (some g) :=
  ⟨h.os, h.tape, h.output, by simpa [World.setCell] using h.size, fun k hk hr => (Below.heap_setCell _ _ _ _ (fun e => hr (by rw [e]))).trans (h.block k hk hr)⟩
theorem By.keptR {w w' : World} {b off len g : Nat} {L : List Nat} (h : By w (some ⟨b, off, none⟩) len L) (k : Kept w w' (some g)) (hne : b ≠ g) : By w' (some ⟨b, off, none⟩) len L := by
  obtain ⟨h1, h2, h3, h4⟩ := h
  refine ⟨h1, h2, h3, fun hp => ?_⟩
  obtain ⟨b', off', e, hb, hc⟩ := h4 hp
  injection e with e
  injection e with e1 e2
  subst e1 e2
  exact ⟨b, off, rfl, Nat.lt_of_lt_of_le hb k.size, fun i hi => (World.cell?_of_block (w := w) (a := ⟨b, off + i, none⟩) (k.block b hb (by simp [hne]))).trans (hc i hi)⟩
theorem Table.keptR {w w' : World} {g : Nat} (h : Table w) (k : Kept w w' (some g)) (hne : 0 < g) : Table w' := fun i hi =>
  (World.cell?_of_block (w := w) (a := ⟨0, i, none⟩) (k.block 0 h.lt (by simp; omega))).trans (h i hi)

/-- The byte i of a change. -/
def xb (n i : Nat) : Nat := n / 256 ^ i % 256
theorem xb_lt (n i : Nat) : xb n i < 256 := by unfold xb; omega

set_option maxRecDepth 100000 in
set_option maxHeartbeats 2000000 in
theorem turned_main (b off len cap p n : Nat) (L : List Nat) (w : World) (h : len ≤ 10000) (hp : p < len) (hn : n < 4294967296) (hC : Come w (some ⟨b, off, none⟩) len cap L) (ht : Table w) :
    Calls Tryd.prog 3 #[.slice (some ⟨b, off, none⟩) len cap, .int .i64 p, .int .u32 n] w fun e w' => e = .returned (.bool true) ∧ Below w.heap.size w w' := by
  obtain ⟨i0, hi0, hz0, hz1, hz2⟩ := info_parts Tryd.info5
  have HT : Hid (Table w) := ht
  have HC : Hid (Come w (some ⟨b, off, none⟩) len cap L) := hC
  have HG : Hid (∀ j, L.getD j 0 < 256) := hC.by_.getD
  have HL : Hid (L.length = len) := hC.by_.size
  have HA : Hid (∀ i, i < len → w.cell? ⟨b, off + i, none⟩ = some (.int .u8 ((L.getD i 0 : Nat) : Int))) := by
    obtain ⟨b', off', e, _, hc⟩ := hC.by_.at_ (by omega)
    injection e with e
    injection e with e1 e2
    subst e1 e2
    exact hc
  clear ht hC
  go_enter Tryd.func3, Tryd.ntmps3
  go_wp2_with (first
    | (go_at_call 4; refine (alive_any _ HT.out).mono ?_; rintro e w1 ⟨rfl, hk1⟩; have hB1 := HC.out.by_.kept hk1)
    | (at_builtin; refine wpList_append_lies w1 (by rfl) _ _ 22 (by rfl) w1.heap.size 5 i0 _ 1 1 Tryd.uB hi0 hz0 hz1 hz2 rfl (by omega) (.slice none 0 0) 0 [] (by rfl) (World.ownsRow_nil _ _ _ _) ⟨b, off, none⟩ len cap (L.map byteV) (by rfl) (by simp [HL.out]) (bytes_news HL.out (fun i hi => by
        obtain ⟨b', off', e, _, hc⟩ := hB1.at_ (by omega)
        injection e with e
        injection e with e1 e2
        subst e1 e2
        exact hc i hi)) (bytes_one L) (by omega) (by unfold maxLen; omega) (by omega) (Nat.le_refl _) w1.heap.size rfl ?_; intro g c' w2 hO hg2 hat hlt; rw [Nat.zero_add, List.nil_append] at hO; rw [Nat.zero_add]))
  have hB2 : By w2 (some ⟨b, off, none⟩) len L := hB1.kept hg2
  have hk2 : Kept w w2 none := hk1.tr hg2
  have hgB : w.heap.size ≤ g := by
    rcases hat with h | h
    · simp [Value.ownBlock] at h
    · rw [h]; exact hk1.size
  have hbg : b < g := by
    rcases hat with h | h
    · simp [Value.ownBlock] at h
    · obtain ⟨b', off', e, hb, _⟩ := hB1.at_ (by omega)
      injection e with e
      injection e with e1 e2
      omega
  obtain ⟨hcap, f, hrow⟩ := own_row hO
  clear hO hg2 hat hlt hB1 hk1
  go_loopw [9, 10] (fun tv iv wr => ∃ i : Nat, i ≤ 4 ∧ p + i ≤ len ∧ tv = .bool (tb (xb n) i) ∧ iv = .int .i64 i ∧ wr.rowIs g 5 c' (fun j => if j < len then .int .u8 ((cv L p (xb n) i j : Nat) : Int) else f j) ∧ Kept w2 wr (some g)) (fun _ iv _ => 4 - (intOf iv).toNat)
  case atStart => exact ⟨0, by omega, by omega, rfl, rfl, hrow.congr (fun j hj => by rw [cv_zero]), Kept.refl _ _⟩
  case round =>
    obtain ⟨i, hi4, hil, rfl, rfl, hr, hk⟩ := hrel
    by_cases hgo : i < 4 ∧ p + i < len
    · obtain ⟨g1, g2⟩ := hgo
      have hcell := hr.cell (i := p + i) (by omega)
      rw [if_pos g2, cv_next] at hcell
      have hfz := hr.frozen (p + i)
      have hv : ((n : Int) / 2 ^ (8 * i)) % 256 = ((xb n i : Nat) : Int) := by rw [pow_byte]; unfold xb; simp
      have hx := xb_lt n i
      have hy := HG.out (p + i)
      have hxor := u8_xor_nat (L.getD (p + i) 0) (xb n i) hy hx
      have hst := row_step hr g2
      obtain ⟨y, hye⟩ : ∃ y, y = L.getD (p + i) 0 := ⟨_, rfl⟩
      obtain ⟨z, hze⟩ : ∃ z, z = L.getD (p + i) 0 ^^^ xb n i := ⟨_, rfl⟩
      rw [← hze] at hxor hst
      rw [← hye] at hcell hy hxor
      have HR : Hid ((wr.setCell ⟨g, p + i, none⟩ (.int .u8 (z : Int))).rowIs g 5 c' (fun j => if j < len then .int .u8 ((cv L p (xb n) (i + 1) j : Nat) : Int) else f j)) := hst
      have HTB : Hid (tb (xb n) (i + 1) = (tb (xb n) i || decide (xb n i ≠ 0))) := rfl
      clear hze hye hst hr
      generalize xb n i = x at *
      have hxn : ((x : Int) != 0) = decide (x ≠ 0) := by rw [Bool.eq_iff_iff]; simp
      obtain ⟨T, hT⟩ : ∃ T, T = tb (xb n) i := ⟨_, rfl⟩
      rw [← hT] at HTB ⊢
      clear hT
      cases T with
      | true =>
        go_wp2
        go_roundw
        case rel => exact ⟨i + 1, by omega, by omega, by rw [HTB.out]; rfl, by go_num, HR.out, hk.setRow _ _⟩
        case measure => simp [intOf]; omega
      | false =>
        go_wp2
        go_roundw
        case rel => exact ⟨i + 1, by omega, by omega, by rw [HTB.out]; simp [hxn], by go_num, HR.out, hk.setRow _ _⟩
        case measure => simp [intOf]; omega
    · have HX : Hid (∀ y ∈ L, y < 256) := HC.out.by_.lt
      have HLl := HL.out
      have hM : By wr (some ⟨g, 0, none⟩) len (cl L p (xb n) i) :=
        By.row hr _ len hcap (by rw [cl_length]; exact HLl) (by omega) (cl_lt L p _ i HG.out (xb_lt n)) (fun j hj => by rw [if_pos hj, cl_getD _ _ _ _ _ (by omega)])
      have hB : By wr (some ⟨b, off, none⟩) len L := hB2.keptR hk (by omega)
      have hTw : Table wr := (HT.out.kept hk2).keptR hk (by have := HT.out.lt; omega)
      have heq := turned_tb L (cl L p (xb n) i) p i (xb n) (cl_length _ _ _ _) hi4 (by omega) HX.out (cl_lt L p _ i HG.out (xb_lt n)) (fun j hj => cl_getD _ _ _ _ _ hj)
      have hend : Kept w wr none := hk2.newRow hk (fun i h => by cases h; exact hgB)
      have HM : Hid (By wr (some ⟨g, 0, none⟩) len (cl L p (xb n) i)) := hM
      have HBb : Hid (By wr (some ⟨b, off, none⟩) len L) := hB
      have HTT : Hid (Table wr) := hTw
      clear hM hB hTw HLl hB2 hk2 hrow hr hk
      generalize cl L p (xb n) i = M at *
      by_cases hi : i < 4
      · have hpl : p + i = len := by omega
        go_wp2_with (first
          | (go_at_call_of 5 b; refine (sum_any HBb.out HTT.out).mono ?_; rintro e w4 ⟨rfl, m4, rfl⟩)
          | (go_at_call_of 5 g; refine (sum_any (HM.out.drewN m4) (HTT.out.drewN m4)).mono ?_; rintro e w5 ⟨rfl, m5, rfl⟩))
        go_ret
        exact ⟨rfl, (hend.tr (Kept.drewN _ _ _)).below⟩
      · go_wp2_with (first
          | (go_at_call_of 5 b; refine (sum_any HBb.out HTT.out).mono ?_; rintro e w4 ⟨rfl, m4, rfl⟩)
          | (go_at_call_of 5 g; refine (sum_any (HM.out.drewN m4) (HTT.out.drewN m4)).mono ?_; rintro e w5 ⟨rfl, m5, rfl⟩))
        go_ret
        exact ⟨rfl, (hend.tr (Kept.drewN _ _ _)).below⟩

end Go.Proofs.YtpngkgfanaebcabDoor
