/-
  THE WALK of RawOnly.
-/
import Derived.Test.YtpngkgfanaebcaaDoorJoin
import Derived.Test.YtpngkgfanaebcaaDoorRead
import Derived.Test.YtpngkgfanaebcaaDoorAlive
import Derived.Deep.RegionHeld3
import Derived.Deep.RegionWith
namespace Go.Proofs.YtpngkgfanaebcaaDoor
open Go.RowKit Go.Lib Go.Deep
set_option linter.unusedVariables false
set_option linter.unusedSimpArgs false

theorem only_long (a : Option Addr) (len cap : Nat) (w : World) (h : 10000 < len) (h2 : len ≤ 9223372036854775807) (ht : Table w) :
    Calls Tryd.prog 6 #[.slice a len cap] w fun e w' => e = .returned (.bool true) ∧ Below w.heap.size w w' := by
  have HT : Hid (Table w) := ht
  clear ht
  go_enter Tryd.func6, Tryd.ntmps6
  go_wp2_with (go_at_call 12; refine (alive_any _ HT.out).mono ?_; rintro e w1 ⟨rfl, hk⟩)
  go_ret
  exact ⟨rfl, hk.below⟩
theorem read_bad {a : Option Addr} {len c : Nat} {L : List Nat} {w : World} (hC : Come w a len c L) (h : ¬ okR L = true) :
    Calls Tryd.prog 9 #[.slice a len c] w fun e w' => e = .returned (.tuple #[.int .u64 0, .int .i64 0, .int .i64 8]) ∧ ∃ m, w' = w.drewN m := by
  have := read_any hC.by_ hC.nil hC.room hC.max
  obtain ⟨r1, r2, r3⟩ := rd_none h
  rw [r1, r2, r3] at this
  exact this
theorem read_ok {a : Option Addr} {len c : Nat} {L : List Nat} {w : World} (hC : Come w a len c L) (h : okR L = true) (n k : Nat) (hn : rdN L = n) (hk : rdK L = k) :
    Calls Tryd.prog 9 #[.slice a len c] w fun e w' => e = .returned (.tuple #[.int .u64 (n : Int), .int .i64 (k : Int), .int .i64 0]) ∧ ∃ m, w' = w.drewN m := by
  have := read_any hC.by_ hC.nil hC.room hC.max
  obtain ⟨r1, r2, r3⟩ := rd_some h
  rw [hn, hk, r3] at this
  exact this
theorem Come.kept {w w' : World} {a : Option Addr} {len c : Nat} {L : List Nat} (h : Come w a len c L) (k : Kept w w' none) : Come w' a len c L := ⟨h.by_.kept k, h.nil, h.room, h.max⟩
theorem only_bad (a : Option Addr) (len cap : Nat) (L : List Nat) (w : World) (h : len ≤ 10000) (hC : Come w a len cap L) (hb : ¬ okR L = true) (ht : Table w) :
    Calls Tryd.prog 6 #[.slice a len cap] w fun e w' => e = .returned (.bool true) ∧ Below w.heap.size w w' := by
  have HT : Hid (Table w) := ht
  have HC : Hid (Come w a len cap L) := hC
  have HB : Hid (¬ okR L = true) := hb
  clear ht hC hb
  go_enter Tryd.func6, Tryd.ntmps6
  go_wp2_with (first
    | (go_at_call 12; refine (alive_any _ HT.out).mono ?_; rintro e w1 ⟨rfl, hk⟩)
    | (go_at_call 9; refine (read_bad (HC.out.kept hk) HB.out).mono ?_; rintro e w2 ⟨rfl, m, rfl⟩))
  go_ret
  exact ⟨rfl, (hk.tr (Kept.drewN _ _ _)).below⟩

set_option maxRecDepth 100000 in
set_option maxHeartbeats 1000000 in
theorem only_main (b off len cap : Nat) (L : List Nat) (w : World) (h : len ≤ 10000) (hC : Come w (some ⟨b, off, none⟩) len cap L) (hb : okR L = true) (ht : Table w) :
    Calls Tryd.prog 6 #[.slice (some ⟨b, off, none⟩) len cap] w fun e w' => e = .returned (.bool true) ∧ Below w.heap.size w w' := by
  obtain ⟨n, hn⟩ : ∃ n, rdN L = n := ⟨_, rfl⟩
  obtain ⟨k, hk⟩ : ∃ k, rdK L = k := ⟨_, rfl⟩
  have hn64 := rdN_lt L
  obtain ⟨o1, o2, o3, o4⟩ := read_only L hC.by_.lt hb
  rw [hn, hk] at o1
  rw [hk] at o2 o3 o4
  rw [hn] at hn64
  rw [hC.by_.size] at o3
  have HN : Hid (rdN L = n) := hn
  have HK : Hid (rdK L = k) := hk
  have HO : Hid (sml n = L.take k) := o1
  have HT : Hid (Table w) := ht
  have HC : Hid (Come w (some ⟨b, off, none⟩) len cap L) := hC
  have HB : Hid (okR L = true) := hb
  have hc1 := hC.room
  have hc2 := hC.max
  have hkc : k ≤ cap := by omega
  have hkc' : (k : Int) ≤ (cap : Int) := by omega
  have hk0 : (0 : Int) ≤ (k : Int) := by omega
  have hl10 := sml_len10 n hn64
  clear ht hC hb hn hk o1
  go_enter Tryd.func6, Tryd.ntmps6
  go_wp2_with (first
    | (go_at_call 12; refine (alive_any _ HT.out).mono ?_; rintro e w1 ⟨rfl, hk⟩)
    | (go_at_call 9; refine (read_ok (HC.out.kept hk) HB.out n k HN.out HK.out).mono ?_; rintro e w2 ⟨rfl, m, rfl⟩))
  have hkW : Kept w (w1.drewN m) none := hk.tr (Kept.drewN _ _ _)
  clear hk
  generalize w1.drewN m = W at *
  have d1 : decide ((1 : Int) ≤ (k : Int)) = true := decide_eq_true (by omega)
  have d2 : decide ((k : Int) ≤ (len : Int)) = true := decide_eq_true (by omega)
  have d3 : decide ((k : Int) ≤ 10) = true := decide_eq_true (by omega)
  go_region_held3 (fun w' => Kept W w' none)
    ((first | assumption | exact Kept.refl _ _ | exact Kept.drewN _ _ _ | exact Kept.tr (by assumption) (Kept.drewN _ 1 _) | exact Kept.tr (by assumption) (Kept.drewN _ _ _)))
    (first
      | (go_at_call 13; refine (small_any n _ hn64).mono ?_; rintro e w3 ⟨rfl, hO, hk3⟩; have hk3' : Kept W w3 none := Kept.tr (by assumption) hk3)
      | (go_at_call 11; refine (same_yes (Own.by hO (by omega) (sml_lt n)) ((HC.out.by_.take k o3).kept (hkW.tr hk3')) HO.out).mono ?_; rintro e w4 ⟨rfl, m4, rfl⟩))
  go_wp2
  go_ret
  exact ⟨rfl, ((hkW.tr hk3').tr (Kept.drewN _ _ _)).below⟩

end Go.Proofs.YtpngkgfanaebcaaDoor
