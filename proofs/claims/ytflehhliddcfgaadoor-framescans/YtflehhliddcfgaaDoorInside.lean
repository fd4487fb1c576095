/-
  THE CONTRACTS of frame.four, frame.Inside.
-/
import Derived.Test.YtflehhliddcfgaaDoorSep
import Derived.Test.YtflehhliddcfgaaDoorSum
import Derived.Deep.RegionHeld3
import Derived.Laws.MakeOwn
namespace Go.Proofs.YtflehhliddcfgaaDoor
open Go.RowKit Go.Lib Go.Deep
set_option linter.unusedVariables false
set_option linter.unusedSimpArgs false

theorem four_any (n : Nat) (w : World) (hn : n < 4294967296) :
    Calls Tryd.prog 33 #[.int .u32 n] w fun e w' => e = .returned (.slice (some ⟨w.heap.size, 0, none⟩) 4 4) ∧ By w' (some ⟨w.heap.size, 0, none⟩) 4 (leb 4 n) ∧ Kept w w' none := by
  go_enter Tryd.func33, Tryd.ntmps33
  go_wp2_with (go_at_call 43; refine (put_yes n 4 _ (by omega) (by omega) (by omega) (by omega)).mono ?_; rintro e w1 ⟨rfl, hB, hk, -⟩)
  go_ret
  exact ⟨rfl, hB, hk⟩
/-- make([]byte, 0, c). -/
theorem mk_room (c : Nat) (hc : c ≤ 1000000) (w : World) : (Instr.makeSlice 22 (.int .i64 0) (.int .i64 (c : Int))).run Tryd.prog w = .ok (.slice (some ⟨w.heap.size, 0, none⟩) 0 c) (w.alloc (.cells (madeCells #[.int .u8 0] c) 5)) := by
  obtain ⟨i0, hi0, hz0, hz1, hz2⟩ := info_parts Tryd.info5
  have hr := run_make (P := Tryd.prog) w 22 5 i0 _ Tryd.uB hi0 hz0 .i64 .i64 0 c (Int.le_refl _) (by omega) (by rw [hz2]; omega) (by omega)
  simp only [Int.toNat_zero, Int.toNat_natCast] at hr
  rw [hz1, Nat.mul_one] at hr
  exact hr
theorem Kept.drew (w : World) (r : Option Nat) : Kept w w.drew r := ⟨rfl, rfl, rfl, Nat.le_refl _, fun _ _ _ => rfl⟩
theorem own_kept {w w' : World} {base e size n : Nat} {v : Value} {xs : List Value} (h : w.ownsRow base e size v n xs) (k : Kept w w' none) : w'.ownsRow base e size v n xs := own_sep (S := fun _ => False) h (Sep.kept k) (fun _ _ x => x)
theorem cell_kept {w w' : World} {x : Addr} (h : Kept w w' none) (hb : x.block < w.heap.size) : w'.cell? x = w.cell? x := World.cell?_of_block (h.block _ hb (by simp))
theorem frozen_kept {w w' : World} {x : Addr} (h : Kept w w' none) (hb : x.block < w.heap.size) : w'.frozen? x = w.frozen? x := World.frozen?_of_block (h.block _ hb (by simp))
theorem own_first (w : World) (Z : Array Value) (x n base : Nat) (hZ : Z.size = n) (h1 : 1 ≤ n) (hn : n ≤ 1000000) (hb : base ≤ w.heap.size) : (w.alloc (.cells (Z.setIfInBounds 0 (.int .u8 (x : Int))) 5)).ownsRow base 5 1 (.slice (some ⟨w.heap.size, 0, none⟩) 1 n) 1 ([x].map byteV) := by
  refine ⟨by simp, .inr ⟨w.heap.size, n, Z.setIfInBounds 0 (.int .u8 (x : Int)), rfl, hb, heap_alloc_new w _, h1, by unfold maxLen; omega, by simp; omega, ?_⟩⟩
  obtain ⟨l⟩ := Z
  cases l with
  | nil => simp at hZ; omega
  | cons y l => simp
theorem own_lower {w : World} {base b2 e size n : Nat} {v : Value} {xs : List Value} (h : w.ownsRow base e size v n xs) (hb : b2 ≤ base) : w.ownsRow b2 e size v n xs := by
  refine ⟨h.1, ?_⟩
  rcases h.2 with hn | ⟨g, cap, cur, rfl, hbg, rest⟩
  · exact .inl hn
  · exact .inr ⟨g, cap, cur, rfl, Nat.le_trans hb hbg, rest⟩
theorem Mine.lower {w : World} {base b2 : Nat} {a : Option Addr} {n cap : Nat} {L : List Nat} (h : Mine w base a n cap L) (hb : b2 ≤ base) : Mine w b2 a n cap L := ⟨own_lower h.own hb, h.nil, h.room, h.max⟩
theorem Mine.kept {w w' : World} {base : Nat} {a : Option Addr} {n cap : Nat} {L : List Nat} (h : Mine w base a n cap L) (k : Kept w w' none) : Mine w' base a n cap L := ⟨own_kept h.own k, h.nil, h.room, h.max⟩
theorem Mine.come {w : World} {base : Nat} {a : Option Addr} {n cap : Nat} {L : List Nat} (h : Mine w base a n cap L) (hb : ∀ x ∈ L, x < 256) : Come w a n cap L := ⟨h.by hb, fun e => (h.nil e).2, h.room, h.max⟩
theorem Come.kept {w w' : World} {a : Option Addr} {len cap : Nat} {L : List Nat} (h : Come w a len cap L) (k : Kept w w' none) : Come w' a len cap L := ⟨h.by_.kept k, h.nil, h.room, h.max⟩
/-- A message as a value. -/
abbrev msgV (m : Msg) (a : Option Addr) (len cap : Nat) : Value := .agg #[.int .u8 (m.1 : Int), .int .u32 (m.2.1 : Int), .slice a len cap]
def insL (m : Msg) : List Nat := if m.2.2.length ≤ 512 then inside m else []
def insE (m : Msg) : Int := if m.2.2.length ≤ 512 then 0 else 3
set_option maxRecDepth 100000 in
set_option maxHeartbeats 1000000 in
theorem inside_no (m : Msg) (a : Option Addr) (len cap : Nat) (w : World) (hl : m.2.2.length = len) (h : 512 < len) (h2 : len ≤ 9223372036854775807) :
    Calls Tryd.prog 16 #[msgV m a len cap] w fun e w' => e = .returned (.tuple #[.slice none 0 0, .int .i64 3]) ∧ Kept w w' none := by
  go_enter Tryd.func16, Tryd.ntmps16
  go_wp2
  go_ret2
  exact ⟨rfl, Kept.alloc _ _ _ _ _⟩
set_option maxRecDepth 100000 in
set_option maxHeartbeats 1000000 in
theorem inside_yes (m : Msg) (a : Option Addr) (len cap : Nat) (w : World) (hB : By w a len m.2.2) (ha : a = none → cap = 0) (hm : Mok m) (h : len ≤ 512) (ht : Table w) :
    Calls Tryd.prog 16 #[msgV m a len cap] w fun e w' => ∃ a' c', e = .returned (.tuple #[.slice a' (9 + len) c', .int .i64 0]) ∧ Mine w' w.heap.size a' (9 + len) c' (inside m) ∧ Kept w w' none := by
  obtain ⟨i0, hi0, hz0, hz1, hz2⟩ := info_parts Tryd.info5
  have HB : Hid (By w a len m.2.2) := hB
  have HT : Hid (Table w) := ht
  have hk := hm.kind
  have hq := hm.seq
  have HM : Hid (Mok m) := hm
  have hmk := mk_room 521 (by omega)
  rw [show ((521 : Nat) : Int) = 521 from rfl] at hmk
  obtain ⟨Z, hZ⟩ : ∃ Z, Z = madeCells #[Value.int .u8 0] 521 := ⟨_, rfl⟩
  have hZs : Z.size = 521 := by rw [hZ]; exact size_madeCells _ _
  rw [← hZ] at hmk
  clear hZ hB ht hm
  obtain ⟨k, q, L⟩ := m
  go_enter Tryd.func16, Tryd.ntmps16
  go_wp2
  obtain ⟨W, hW⟩ : ∃ W, W = w.alloc (.cells #[.int .u8 (k : Int), .int .u32 (q : Int), .slice a len cap] 30) := ⟨_, rfl⟩
  have hc0 : W.cell? ⟨w.heap.size, 0, none⟩ = some (.int .u8 (k : Int)) := by rw [hW]; exact World.cell?_alloc_mark ..
  have hc1 : W.cell? ⟨w.heap.size, 1, none⟩ = some (.int .u32 (q : Int)) := by rw [hW]; exact World.cell?_alloc_mark ..
  have hc2 : W.cell? ⟨w.heap.size, 2, none⟩ = some (.slice a len cap) := by rw [hW]; exact World.cell?_alloc_mark ..
  have hkW : Kept w W none := by rw [hW]; exact Kept.alloc _ _ _ _ _
  have HW : Hid (W.heap.size = w.heap.size + 1) := by rw [hW]; exact World.size_alloc ..
  have hWl : w.heap.size < W.heap.size := by rw [HW.out]; omega
  rw [← hW]
  clear hW
  go_region_held3 (fun w' => w'.cell? ⟨w.heap.size, 0, none⟩ = some (.int .u8 (k : Int)))
    (go_keep)
    (fail)
  all_goals
    first
      | (obtain ⟨w1, hw1⟩ : ∃ w1, w1 = ((W.alloc (.cells (Z.setIfInBounds 0 (.int .u8 (k : Int))) 5)).alloc (.cells #[.int .u8 (k : Int)] 5)).drew := ⟨_, rfl⟩
         obtain ⟨g, hg⟩ : ∃ g, g = W.heap.size := ⟨_, rfl⟩
         have hO1 : w1.ownsRow W.heap.size 5 1 (.slice (some ⟨g, 0, none⟩) 1 521) 1 ([k].map byteV) := by rw [hg];  rw [hw1]; exact (own_first W Z k 521 W.heap.size hZs (by omega) (by omega) (Nat.le_refl _)).alloc _
         have hk1 : Kept W w1 none := by rw [hw1]; exact ((Kept.alloc W _ _ _ _).tr (Kept.alloc _ _ _ _ _)).tr (Kept.drew _ _)
         rw [← hw1]
         clear hw1
         rw [← hg])
      | (obtain ⟨w1, hw1⟩ : ∃ w1, w1 = ((W.alloc (.cells #[.int .u8 (k : Int)] 5)).alloc (.cells (Z.setIfInBounds 0 (.int .u8 (k : Int))) 5)).drew := ⟨_, rfl⟩
         obtain ⟨g, hg⟩ : ∃ g, g = W.heap.size + 1 := ⟨_, rfl⟩
         have hO1 : w1.ownsRow W.heap.size 5 1 (.slice (some ⟨g, 0, none⟩) 1 521) 1 ([k].map byteV) := by
           rw [hg, hw1]
           have := own_first (W.alloc (.cells #[.int .u8 (k : Int)] 5)) Z k 521 W.heap.size hZs (by omega) (by omega) (by simp)
           rw [World.size_alloc] at this
           exact this
         have hk1 : Kept W w1 none := by rw [hw1]; exact ((Kept.alloc W _ _ _ _).tr (Kept.alloc _ _ _ _ _)).tr (Kept.drew _ _)
         rw [← hw1]
         clear hw1
         rw [← hg])
  all_goals
    have hd1 : w1.cell? ⟨w.heap.size, 1, none⟩ = some (.int .u32 (q : Int)) := (cell_kept hk1 hWl).trans hc1
    clear hmk hc0 hc1 hg
    go_wp2_with (first
      | (have hgo := hk6; clear hgo; at_builtin; refine wpList_join (by rfl) _ _ (by rfl) W.heap.size (.slice a4 (5 + len) c4) (5 + len) (headB (k, q, L)) (by rfl) (own_kept M4.out.own (hk5.tr hk6)) (some ⟨w5.heap.size, 0, none⟩) 4 4 (leb 4 (sumB (headB (k, q, L)))) (by rfl) hB6 (fun e => nomatch e) (by omega) (by exact Nat.le_trans hK4.size (hk5.tr hk6).size) ?_; intro a7 c7 w7 hm7 hg7; have hK7 : Kept W w7 none := ((hK4.tr hk5).tr hk6).newRow hg7 (fun i h => M4.out.new i h))
      | (have hgo := hk5; clear hgo; go_at_call 33; refine (four_any (sumB (headB (k, q, L))) _ (sumB_lt _ (headB_lt HM.out))).mono ?_; rintro e w6 ⟨rfl, hB6, hk6⟩)
      | (have hgo := hK4; clear hgo; go_at_call 34; refine (sum_any (M4.out.by (headB_lt HM.out)) ((HT.out.kept hkW).kept hK4)).mono ?_; rintro e w5 ⟨rfl, hk5'⟩; have hk5 : Kept w4 w5 none := by obtain ⟨mm, rfl⟩ := hk5'; exact Kept.drewN _ _ _)
      | (have hgo := hK3; clear hgo; at_builtin; refine wpList_join (by rfl) _ _ (by rfl) W.heap.size (.slice a3 5 c3) 5 ([k] ++ leb 4 q) (by rfl) M3.out.own a len cap L (by rfl) (HB.out.kept (hkW.tr hK3)) ha (by omega) hK3.size ?_; intro a4 c4 w4 hm4 hg4; have hK4 : Kept W w4 none := hK3.newRow hg4 (fun i h => M3.out.new i h); have M4 : Hid (Mine w4 W.heap.size a4 (5 + len) c4 (headB (k, q, L))) := hm4)
      | (at_builtin; refine wpList_join (by rfl) _ _ (by rfl) W.heap.size (.slice (some ⟨g, 0, none⟩) 1 521) 1 [k] (by rfl) (own_kept hO1 hk2) (some ⟨w1.heap.size, 0, none⟩) 4 4 (leb 4 q) (by rfl) hB2 (fun e => nomatch e) (by omega) (hk1.tr hk2).size ?_; intro a3 c3 w3 hm3 hg3; have hK3 : Kept W w3 none := (hk1.tr hk2).newRow hg3 (fun i h => (hO1.lt i h).1); have M3 : Hid (Mine w3 W.heap.size a3 5 c3 ([k] ++ leb 4 q)) := hm3; have hd3 : w3.cell? ⟨w.heap.size, 2, none⟩ = some (.slice a len cap) := (cell_kept hK3 hWl).trans hc2)
      | (go_at_call 33; refine (four_any q _ hq).mono ?_; rintro e w2 ⟨rfl, hB2, hk2⟩))
    go_ret2
    rw [show 9 + len = 5 + len + 4 by omega]
    exact ⟨a7, c7, rfl, hm7.lower hkW.size, hkW.tr hK7⟩
theorem insL_len (m : Msg) : (insL m).length ≤ 521 := by
  unfold insL
  split
  · rw [inside_len]; omega
  · simp
theorem insL_lt {m : Msg} (h : Mok m) : ∀ x ∈ insL m, x < 256 := by
  unfold insL
  split
  · exact inside_lt h
  · simp
theorem inside_any (m : Msg) (a : Option Addr) (len cap : Nat) (w : World) (hC : Come w a len cap m.2.2) (hm : Mok m) (ht : Table w) :
    Calls Tryd.prog 16 #[msgV m a len cap] w fun e w' => ∃ a' c', e = .returned (.tuple #[.slice a' (insL m).length c', .int .i64 (insE m)]) ∧ Mine w' w.heap.size a' (insL m).length c' (insL m) ∧ Kept w w' none := by
  have hl := hC.by_.size
  unfold insL insE
  rw [hl]
  by_cases h : len ≤ 512
  · rw [if_pos h, if_pos h, inside_len, hl]
    exact inside_yes m a len cap w hC.by_ hC.nil hm h ht
  · rw [if_neg h, if_neg h]
    refine (inside_no m a len cap w hl (by omega) (by have := hC.room; have := hC.max; omega)).mono ?_
    rintro e w' ⟨rfl, hk⟩
    exact ⟨none, 0, rfl, ⟨World.ownsRow_nil _ _ _ _, fun _ => ⟨rfl, rfl⟩, Nat.le_refl _, by omega⟩, hk⟩

end Go.Proofs.YtflehhliddcfgaaDoor
