/-
  THE WALK of RawNumbers.
-/
import Derived.Test.YtpngkgfanaebcaaRefNum
import Derived.Test.YtpngkgfanaebcaaRefRead
import Derived.Deep.RegionWith
namespace Go.Proofs.Ytpngkgfanaebcaa
open Go.RowKit Go.Lib Go.Deep
set_option linter.unusedVariables false
set_option linter.unusedSimpArgs false

theorem numbers_long (n width : Int) (a : Option Addr) (len cap : Nat) (w : World) (h : 100000 < len) (h2 : len ≤ 9223372036854775807) :
    Calls Try.prog 3 #[.int .u64 n, .int .i64 width, .slice a len cap] w fun e w' => e = .returned (.bool true) ∧ Below w.heap.size w w' := by
  go_enter Try.func3, Try.ntmps3
  go_wp2_with fail
  go_ret
  exact ⟨rfl, Below.refl _ _⟩
theorem read_allK {a : Option Addr} {len c : Nat} {L : List Nat} {w : World} (hC : Come w a len c L) :
    Calls Try.prog 8 #[.slice a len c] w fun e w' => e = .returned (.tuple #[.int .u64 ((rdN L : Nat) : Int), .int .i64 ((rdK L : Nat) : Int), .int .i64 ((rdE L : Nat) : Int)]) ∧ Kept w w' none :=
  (read_any hC.by_ hC.nil hC.room hC.max).mono (by rintro e w' ⟨rfl, m, rfl⟩; exact ⟨rfl, Kept.drewN _ _ _⟩)
theorem rread_allK {a : Option Addr} {len c : Nat} {L : List Nat} {w : World} (hB : By w a len L) :
    Calls Try.prog 9 #[.slice a len c] w fun e w' => e = .returned (.tuple #[.int .u64 ((rdN L : Nat) : Int), .int .i64 ((rdK L : Nat) : Int), .int .i64 ((rdE L : Nat) : Int)]) ∧ Kept w w' none :=
  (rread_any hB).mono (by rintro e w' ⟨rfl, m, rfl⟩; exact ⟨rfl, Kept.drewN _ _ _⟩)
theorem get_allK {a : Option Addr} {len c : Nat} {L : List Nat} {w : World} (hB : By w a len L) :
    Calls Try.prog 6 #[.slice a len c] w fun e w' => e = .returned (.tuple #[.int .u64 ((getN L : Nat) : Int), .int .i64 ((getE L : Nat) : Int)]) ∧ Kept w w' none :=
  (get_all hB).mono (by rintro e w' ⟨rfl, m, rfl⟩; exact ⟨rfl, Kept.drewN _ _ _⟩)
theorem rget_allK {a : Option Addr} {len c : Nat} {L : List Nat} {w : World} (hB : By w a len L) :
    Calls Try.prog 7 #[.slice a len c] w fun e w' => e = .returned (.tuple #[.int .u64 ((getN L : Nat) : Int), .int .i64 ((getE L : Nat) : Int)]) ∧ Kept w w' none :=
  (rget_all hB).mono (by rintro e w' ⟨rfl, m, rfl⟩; exact ⟨rfl, Kept.drewN _ _ _⟩)
theorem rsame_K {w : World} {a b : Option Addr} {n m c d : Nat} {L : List Nat} (h : By w a n L) (k : By w b m L) :
    Calls Try.prog 11 #[.slice a n c, .slice b m d] w fun e w' => e = .returned (.bool true) ∧ Kept w w' none :=
  (rsame_yes h k rfl).mono (by rintro e w' ⟨rfl, m, rfl⟩; exact ⟨rfl, Kept.drewN _ _ _⟩)
theorem Come.kept {w w' : World} {a : Option Addr} {len c : Nat} {L : List Nat} (h : Come w a len c L) (k : Kept w w' none) : Come w' a len c L := ⟨h.by_.kept k, h.nil, h.room, h.max⟩
theorem Mine.come {w : World} {base : Nat} {a : Option Addr} {n cap : Nat} {L : List Nat} (h : Mine w base a n cap L) (hb : ∀ x ∈ L, x < 256) : Come w a n cap L := ⟨h.by hb, fun e => (h.nil e).2, h.room, h.max⟩
theorem Kept.setRow {a b : World} {g : Nat} (h : Kept a b (some g)) (o : Nat) (v : Value) : Kept a (b.setCell ⟨g, o, none⟩ v) (some g) :=
  ⟨h.os, h.tape, h.output, by simpa [World.setCell] using h.size, fun k hk hr => (Below.heap_setCell _ _ _ _ (fun e => hr (by rw [e]))).trans (h.block k hk hr)⟩
/-- A row of the call's own, whatever lies in it. -/
theorem own_any {w : World} {base g n cap : Nat} {L : List Nat} (h : Own w base g n cap L) : n ≤ cap ∧ ∃ f : Nat → Value, w.rowIs g 5 cap f := by
  obtain ⟨_, ⟨e, _⟩ | ⟨g', cap', cur, e, hb, hh, hle, hmx, hsz, htk⟩⟩ := h
  · cases e
  · injection e with e1 e2 e3
    subst e3
    injection e1 with e1
    injection e1 with e1 _
    subst e1
    refine ⟨hle, fun j => (cur[j]?).getD (.bool false), cur, hh, by omega, fun i hi => ?_⟩
    have : i < cur.size := by omega
    simp [this]

set_option maxRecDepth 100000 in
set_option maxHeartbeats 4000000 in
theorem numbers_main (n : Nat) (width : Int) (a : Option Addr) (len cap : Nat) (L : List Nat) (w : World) (h : len ≤ 100000) (hn : n < 18446744073709551616) (hC : Come w a len cap L) :
    Calls Try.prog 3 #[.int .u64 n, .int .i64 width, .slice a len cap] w fun e w' => e = .returned (.bool true) ∧ Below w.heap.size w w' := by
  have HC : Hid (Come w a len cap L) := hC
  have HX : Hid (∀ x ∈ L, x < 256) := hC.by_.lt
  clear hC
  have hl10 := sml_len10 n hn
  go_enter Try.func3, Try.ntmps3
  go_wp2_with (at_builtin; refine wpList_join (by rfl) _ _ (by rfl) w.heap.size (.slice none 0 0) 0 [] (by rfl) (World.ownsRow_nil _ _ _ _) a len cap L (by rfl) HC.out.by_ HC.out.nil (by omega) (Nat.le_refl _) ?_; intro a1 c1 w1 hm hg; rw [Nat.zero_add] at hm ⊢; rw [List.nil_append] at hm)
  have hK1 : Kept w w1 none := hg
  have hI1 : Come w1 a1 len c1 L := hm.come HX.out
  clear hg hm
  go_wp2_with (go_at_call 4; refine (put_all n width _ hn).mono ?_; rintro e w2 ⟨pa, pk, pc, rfl, hP2, hk2⟩)
  have hK2 := hK1.tr hk2
  have hI2 := hI1.kept hk2
  clear hK1 hI1 hk2
  go_wp2_with (go_at_call 5; refine (rput_all n width _ hn).mono ?_; rintro e w3 ⟨qa, qk, qc, rfl, hQ3, hk3⟩)
  have hK3 := hK2.tr hk3
  have hI3 := hI2.kept hk3
  have hP3 := hP2.kept hk3
  clear hK2 hI2 hk3 hP2
  go_wp2_with (go_at_call 6; refine (get_allK hI3.by_).mono ?_; rintro e w4 ⟨rfl, hk4⟩)
  have hK4 := hK3.tr hk4
  have hI4 := hI3.kept hk4
  have hP4 := hP3.kept hk4
  have hQ4 := hQ3.kept hk4
  clear hK3 hI3 hk4 hP3 hQ3
  go_wp2_with (go_at_call 7; refine (rget_allK (HC.out.by_.kept hK4)).mono ?_; rintro e w5 ⟨rfl, hk5⟩)
  have hK5 := hK4.tr hk5
  have hI5 := hI4.kept hk5
  have hP5 := hP4.kept hk5
  have hQ5 := hQ4.kept hk5
  clear hK4 hI4 hk5 hP4 hQ4
  go_wp2_with (go_at_call 8; refine (read_allK hI5).mono ?_; rintro e w6 ⟨rfl, hk6⟩)
  have hK6 := hK5.tr hk6
  have hI6 := hI5.kept hk6
  have hP6 := hP5.kept hk6
  have hQ6 := hQ5.kept hk6
  clear hK5 hI5 hk6 hP5 hQ5
  go_wp2_with (go_at_call 9; refine (rread_allK (HC.out.by_.kept hK6)).mono ?_; rintro e w7 ⟨rfl, hk7⟩)
  have hK7 := hK6.tr hk7
  have hI7 := hI6.kept hk7
  have hP7 := hP6.kept hk7
  have hQ7 := hQ6.kept hk7
  clear hK6 hI6 hk7 hP6 hQ6
  go_wp2_with (go_at_call 10; refine (small_any n _ hn).mono ?_; rintro e w8 ⟨rfl, hO8, hk8⟩)
  have hK8 := hK7.tr hk8
  have hI8 := hI7.kept hk8
  have hP8 := hP7.kept hk8
  have hQ8 := hQ7.kept hk8
  have hgB : w.heap.size ≤ w7.heap.size := hK7.size
  clear hK7 hI7 hk8 hP7 hQ7
  generalize w7.heap.size = g at *
  have e1 : (putE n width != putE n width) = false := by simp
  have e2 : (((getN L : Nat) : Int) != ((getN L : Nat) : Int)) = false := by simp
  have e3 : (((getE L : Nat) : Int) != ((getE L : Nat) : Int)) = false := by simp
  have e4 : (((rdN L : Nat) : Int) != ((rdN L : Nat) : Int)) = false := by simp
  have e5 : (((rdK L : Nat) : Int) != ((rdK L : Nat) : Int)) = false := by simp
  have e6 : (((rdE L : Nat) : Int) != ((rdE L : Nat) : Int)) = false := by simp
  generalize putE n width = PE at *
  generalize ((getN L : Nat) : Int) = GN at *
  generalize ((getE L : Nat) : Int) = GE at *
  generalize ((rdN L : Nat) : Int) = RN at *
  generalize ((rdK L : Nat) : Int) = RK at *
  generalize ((rdE L : Nat) : Int) = RE at *
  go_wp2_with (go_at_call 11; refine (rsame_K hP8 hQ8).mono ?_; rintro e w9 ⟨rfl, hk9⟩; clear hP8 hQ8)
  have hK9 := hK8.tr hk9
  have hI9 := hI8.kept hk9
  have hO9 : Own w9 g g (sml n).length 10 (sml n) := hO8.kept hk9 (by simp [Value.ownBlock])
  clear hK8 hI8 hO8 hk9
  go_wp2_with (go_at_call 12; refine (rsmall_any n _ hn).mono ?_; rintro e w10 ⟨ra, rk, rc, rfl, hR10, hk10⟩)
  have hK10 := hK9.tr hk10
  have hI10 := hI9.kept hk10
  have hO10 : Own w10 g g (sml n).length 10 (sml n) := hO9.kept hk10 (by simp [Value.ownBlock])
  clear hK9 hI9 hO9 hk10
  go_wp2_with (go_at_call_of 11 g; refine (rsame_K (Own.by hO10 (by omega) (sml_lt n)) hR10).mono ?_; rintro e w11 ⟨rfl, hk11⟩; clear hR10)
  have hK11 := hK10.tr hk11
  have hI11 := hI10.kept hk11
  have hO11 : Own w11 g g (sml n).length 10 (sml n) := hO10.kept hk11 (by simp [Value.ownBlock])
  clear hK10 hI10 hO10 hk11
  go_wp2_with (go_at_call 11; refine (rsame_K hI11.by_ (HC.out.by_.kept hK11)).mono ?_; rintro e w12 ⟨rfl, hk12⟩; clear hI11)
  have hK12 := hK11.tr hk12
  have hO12 : Own w12 g g (sml n).length 10 (sml n) := hO11.kept hk12 (by simp [Value.ownBlock])
  clear hK11 hO11 hk12
  obtain ⟨hle, f, hrow⟩ := own_any hO12
  clear hO12
  obtain ⟨ls, hls⟩ : ∃ ls, ls = (sml n).length := ⟨_, rfl⟩
  rw [← hls]
  have hls10 : ls ≤ 10 := by omega
  clear hls
  go_loopw [23] (fun iv wr => ∃ z : Nat, z ≤ ls ∧ iv = .int .i64 z ∧ (∃ f, wr.rowIs g 5 10 f) ∧ Kept w12 wr (some g)) (fun iv _ => ls - (intOf iv).toNat)
  case atStart => exact ⟨0, Nat.zero_le _, rfl, ⟨f, hrow⟩, Kept.refl _ _⟩
  case round =>
    obtain ⟨z, hz, rfl, ⟨f2, hr⟩, hk⟩ := hrel
    by_cases hlt : z < ls
    · have hcell := hr.cell (i := z) (by omega)
      have hfz := hr.frozen z
      have HS : Hid (∃ f, (wr.setCell ⟨g, z, none⟩ (.int .u8 77)).rowIs g 5 10 f) := ⟨_, hr.set z _⟩
      clear hr
      generalize f2 z = v at *
      go_wp2
      go_roundw
      case rel => exact ⟨z + 1, by omega, by go_num, HS.out, hk.setRow _ _⟩
      case measure => simp [intOf]; omega
    · have hKr : Kept w wr none := hK12.newRow hk (fun i h => by cases h; exact hgB)
      clear hr hk hK12 hrow
      go_wp2_with (go_at_call 10; refine (small_any n _ hn).mono ?_; rintro e w13 ⟨rfl, hO13, hk13⟩)
      go_wp2_with (go_at_call 12; refine (rsmall_any n _ hn).mono ?_; rintro e w14 ⟨ta, tk, tc, rfl, hR14, hk14⟩)
      go_wp2_with (go_at_call 11; refine (rsame_K ((Own.by hO13 (by have := sml_len10 n hn; omega) (sml_lt n)).kept hk14) hR14).mono ?_; rintro e w15 ⟨rfl, hk15⟩)
      go_ret
      exact ⟨rfl, (((hKr.tr hk13).tr hk14).tr hk15).below⟩

end Go.Proofs.Ytpngkgfanaebcaa
