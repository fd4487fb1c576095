/-
  THE CONTRACT of raw.Sum, over the table that the program's text lays.
-/
import Derived.Test.YtflehhliddcfgaaDoorWorld
import Derived.Test.YtflehhliddcfgaaDoorCrc
import Derived.Lib.LaidTab
namespace Go.Proofs.YtflehhliddcfgaaDoor
open Go.RowKit Go.Lib Go.Deep
set_option linter.unusedVariables false
set_option linter.unusedSimpArgs false

/-- The table lies in the program's first variable. -/
def Table (w : World) : Prop := ∀ i, i < 16 → w.cell? ⟨0, i, none⟩ = some (.int .u32 (halfs.getD i 0))
theorem Table.lt {w : World} (h : Table w) : 0 < w.heap.size := by
  by_cases hh : 0 < w.heap.size
  · exact hh
  · have hn : w.heap[0]? = none := Array.getElem?_eq_none (by omega)
    have := h 0 (by omega)
    simp [World.cell?, hn] at this
theorem Table.kept {w w' : World} (h : Table w) (k : Kept w w' none) : Table w' := fun i hi =>
  (World.cell?_of_block (w := w) (a := ⟨0, i, none⟩) (k.block 0 h.lt (by simp))).trans (h i hi)
theorem Table.drewN {w : World} (h : Table w) (m : Nat) : Table (w.drewN m) := h

theorem low4 (r : Nat) (h : r < 4294967296) : bits .and .u32 (r : Int) 15 = ((r % 16 : Nat) : Int) := by
  have e := u32_and_nat r 15 h (by omega)
  rw [nat_mask4] at e
  exact e
theorem half_xor (r : Nat) (h : r < 4294967296) : bits .xor .u32 ((r / 16 : Nat) : Int) ((st4 (r % 16) : Nat) : Int) = ((st4 r : Nat) : Int) := by
  rw [u32_xor_nat _ _ (by omega) (st4_lt (by omega)), st4_half]

theorem turn32 (r : Nat) (h : r < 4294967296) : bits .xor .u32 IntKind.u32.max (r : Int) = ((4294967295 ^^^ r : Nat) : Int) := by
  have e : IntKind.u32.max = ((4294967295 : Nat) : Int) := by decide
  rw [e, u32_xor_nat _ _ (by omega) h]
set_option maxRecDepth 100000 in
set_option maxHeartbeats 1000000 in
theorem sum_main {b off len c : Nat} {L : List Nat} {w : World} (hB : By w (some ⟨b, off, none⟩) len L) (hp : 0 < len) (ht : Table w) :
    Calls Tryd.prog 34 #[.slice (some ⟨b, off, none⟩) len c] w fun e w' => e = .returned (.int .u32 ((sumB L : Nat) : Int)) ∧ ∃ m, w' = w.drewN m := by
  obtain ⟨b', off', e, hb, hcell⟩ := hB.at_ hp
  injection e with e
  injection e with e1 e2
  subst e1 e2
  have HL : Hid (L.length = len) := hB.size
  have HG : Hid (∀ i, L.getD i 0 < 256) := hB.getD
  have HX : Hid (∀ x ∈ L, x < 256) := hB.lt
  have HC : Hid (∀ i, i < len → w.cell? ⟨b, off + i, none⟩ = some (.int .u8 ((L.getD i 0 : Nat) : Int))) := hcell
  have HT : Hid (Table w) := ht
  have hl2 := hB.max
  clear hB hcell ht
  go_enter Tryd.func34, Tryd.ntmps34
  go_wp2
  go_loopw [3, 8] (fun r i wr => ∃ k : Nat, k ≤ len ∧ r = .int .u32 ((crc (L.take k) : Nat) : Int) ∧ i = .int .i64 k ∧ ∃ m, wr = w.drewN m) (fun _ i _ => len - (intOf i).toNat)
  case atStart => exact ⟨0, Nat.zero_le _, by simp [crc], rfl, 0, rfl⟩
  case round =>
    obtain ⟨k, hk, rfl, rfl, m, rfl⟩ := hrel
    have hr := crc_lt (L.take k) (fun x hx => HX.out x (List.mem_of_mem_take hx))
    by_cases hlt : k < len
    · have hcell := HC.out k hlt
      have hx := HG.out k
      have HN : Hid (crc (L.take (k + 1)) = up (crc (L.take k)) (L.getD k 0)) := crc_take L k (by rw [HL.out]; exact hlt)
      generalize L.getD k 0 = x at *
      generalize crc (L.take k) = r at *
      have hxor := u32_xor_nat r x hr (by omega)
      have hA := xor32 hr (show x < 4294967296 by omega)
      have HU : Hid (up r x = st4 (st4 (r ^^^ x))) := rfl
      generalize r ^^^ x = A at *
      have hB := st4_lt hA
      have h1 := low4 A hA
      have h2 := half_xor A hA
      have hc1 := HT.out (A % 16) (by omega)
      rw [halfs_st4 _ (by omega)] at hc1
      have hD := st4_lt hB
      have h3 := low4 (st4 A) hB
      have h4 := half_xor (st4 A) hB
      have hc2 := HT.out (st4 A % 16) (by omega)
      rw [halfs_st4 _ (by omega)] at hc2
      generalize st4 (st4 A) = D at *
      generalize st4 (st4 A % 16) = S2 at *
      generalize st4 (A % 16) = S1 at *
      generalize st4 A = B at *
      have e1 : ((A / 16 : Nat) : Int) = (A : Int) / 16 := by omega
      have e2 : ((B / 16 : Nat) : Int) = (B : Int) / 16 := by omega
      rw [e1] at h2
      rw [e2] at h4
      clear e1 e2
      have a1 : A % 16 < 16 := by omega
      have a2 : B % 16 < 16 := by omega
      generalize A % 16 = P1 at *
      generalize B % 16 = P2 at *
      go_wp2
      go_roundw
      case rel => exact ⟨k + 1, by omega, by rw [HN.out, HU.out], by go_num, _, rfl⟩
      case measure => simp [intOf]; omega
    · have hkq : k = len := by omega
      subst hkq
      rw [List.take_of_length_le (by rw [HL.out]; exact Nat.le_refl _)] at hr ⊢
      have hs := turn32 (crc L) hr
      have HS : Hid (4294967295 ^^^ crc L = sumB L) := rfl
      rw [HS.out] at hs
      go_wp2
      go_ret
      exact ⟨rfl, m, rfl⟩
theorem sum_empty {a : Option Addr} (c : Nat) (w : World) :
    Calls Tryd.prog 34 #[.slice a 0 c] w fun e w' => e = .returned (.int .u32 0) ∧ ∃ m, w' = w.drewN m := by
  have hs : bits .xor .u32 IntKind.u32.max 4294967295 = 0 := by decide +kernel
  go_enter Tryd.func34, Tryd.ntmps34
  go_wp2
  go_loopw [3, 8] (fun r i wr => r = .int .u32 4294967295 ∧ i = .int .i64 0 ∧ ∃ m, wr = w.drewN m) (fun _ _ _ => 0)
  case atStart => exact ⟨rfl, rfl, 0, rfl⟩
  case round =>
    obtain ⟨rfl, rfl, m, rfl⟩ := hrel
    go_wp2
    go_ret
    exact ⟨rfl, m, rfl⟩
theorem sum_any {a : Option Addr} {len c : Nat} {L : List Nat} {w : World} (hB : By w a len L) (ht : Table w) :
    Calls Tryd.prog 34 #[.slice a len c] w fun e w' => e = .returned (.int .u32 ((sumB L : Nat) : Int)) ∧ ∃ m, w' = w.drewN m := by
  by_cases h : 0 < len
  · obtain ⟨b, off, rfl, _, _⟩ := hB.at_ h
    exact sum_main hB h ht
  · have e0 : len = 0 := by omega
    subst e0
    have e1 : L = [] := List.length_eq_zero_iff.1 hB.size
    subst e1
    exact sum_empty c w

end Go.Proofs.YtflehhliddcfgaaDoor
