/-
  THE CONTRACTS of raw.Put and raw.Get.
-/
import Derived.Test.YtflehhliddcfgaaDoorWorld
namespace Go.Proofs.YtflehhliddcfgaaDoor
open Go.RowKit Go.Lib Go.Deep
set_option linter.unusedVariables false
set_option linter.unusedSimpArgs false

theorem Tryd.info5 : (Tryd.prog.info? 5).map (fun i => (i.zero, i.size, i.bytes)) = some (some (.int .u8 0), 1, 1) := by kernel_rfl

theorem put_step {w : World} {g q k : Nat} {l : List Nat} (h : w.rowIs g 5 q (fun j => .int .u8 ((if j < k then l.getD j 0 else 0 : Nat) : Int))) :
    (w.setCell ⟨g, k, none⟩ (.int .u8 ((l.getD k 0 : Nat) : Int))).rowIs g 5 q (fun j => .int .u8 ((if j < k + 1 then l.getD j 0 else 0 : Nat) : Int)) := by
  refine World.rowIs.congr (World.rowIs.set h k _) (fun i hi => ?_)
  by_cases a : i = k
  · subst a; rw [if_pos rfl, if_pos (by omega)]
  · rw [if_neg a]
    by_cases c : i < k
    · rw [if_pos c, if_pos (by omega)]
    · rw [if_neg c, if_neg (by omega)]

theorem put_no_width (n width : Int) (w : World) (h : width < 1 ∨ 8 < width) :
    Calls Tryd.prog 43 #[.int .u64 n, .int .i64 width] w fun e w' => e = .returned (.tuple #[.slice none 0 0, .int .i64 2]) ∧ w' = w := by
  rcases h with h | h
  · go_enter Tryd.func43, Tryd.ntmps43
    go_wp2
    go_ret2
    exact ⟨rfl, rfl⟩
  · go_enter Tryd.func43, Tryd.ntmps43
    go_wp2
    go_ret2
    exact ⟨rfl, rfl⟩

theorem pow_byte (n i : Nat) : ((n : Int) / 2 ^ (8 * i)) = ((n / 256 ^ i : Nat) : Int) := by
  have : (256 : Nat) ^ i = 2 ^ (8 * i) := by rw [Nat.pow_mul]
  rw [this]
  simp
theorem put_no (n q : Nat) (w : World) (h1 : 1 ≤ q) (h2 : q ≤ 8) (hn : n < 18446744073709551616) (h : n / 256 ^ q ≠ 0) :
    Calls Tryd.prog 43 #[.int .u64 n, .int .i64 q] w fun e w' => e = .returned (.tuple #[.slice none 0 0, .int .i64 2]) ∧ w' = w := by
  have hne : (((n : Int) / 2 ^ (8 * q)) != 0) = true := by rw [pow_byte]; generalize n / 256 ^ q = z at h; simp; omega
  clear h
  go_enter Tryd.func43, Tryd.ntmps43
  go_wp2
  go_ret2
  exact ⟨rfl, rfl⟩
theorem put_yes (n q : Nat) (w : World) (h1 : 1 ≤ q) (h2 : q ≤ 8) (hn : n < 18446744073709551616) (h : n / 256 ^ q = 0) :
    Calls Tryd.prog 43 #[.int .u64 n, .int .i64 q] w fun e w' => e = .returned (.tuple #[.slice (some ⟨w.heap.size, 0, none⟩) q q, .int .i64 0]) ∧ By w' (some ⟨w.heap.size, 0, none⟩) q (leb q n) ∧ Kept w w' none ∧ w'.heap.size = w.heap.size + 1 := by
  have hne : (((n : Int) / 2 ^ (8 * q)) != 0) = false := by rw [pow_byte, h]; rfl
  clear h
  have hmk := run_make_row' (P := Tryd.prog) 22 5 (.int .u8 0) 1 Tryd.uB Tryd.info5 rfl .i64 .i64 q (by omega) (by omega)
  go_enter Tryd.func43, Tryd.ntmps43
  go_wp2
  clear hmk hne
  go_loopw [25] (fun i wr => ∃ k : Nat, k ≤ q ∧ i = .int .i64 k ∧ wr.rowIs w.heap.size 5 q (fun j => .int .u8 ((if j < k then (leb q n).getD j 0 else 0 : Nat) : Int)) ∧ Kept w wr none ∧ wr.heap.size = w.heap.size + 1) (fun i _ => q - (intOf i).toNat)
  case atStart => exact ⟨0, Nat.zero_le _, rfl, World.rowIs.congr (World.rowIs_made _ _ _ _) (fun i hi => by simp), Kept.alloc _ _ _ _ _, by simp⟩
  case round =>
    obtain ⟨k, hk, rfl, hrow, hkept, hsz⟩ := hrel
    by_cases hlt : k < q
    · have hcell := hrow.cell hlt
      have hfz := hrow.frozen k
      have hv : ((n : Int) / 2 ^ (8 * k)) % 256 = (((leb q n).getD k 0 : Nat) : Int) := by rw [pow_byte, leb_getD q n k hlt]; simp
      go_wp2
      go_roundw
      case rel => exact ⟨k + 1, by omega, by go_num, by first | exact put_step hrow | (rw [← hv]; exact put_step hrow) | (rw [hv]; exact put_step hrow), hkept.setNew (Nat.le_refl _) _, by simpa [World.setCell] using hsz⟩
      case measure => simp [intOf]; omega
    · have hkq : k = q := by omega
      subst hkq
      go_wp2
      go_ret2
      exact ⟨rfl, By.row hrow _ k (Nat.le_refl _) (leb_length _ _) (by omega) (leb_lt _ _) (fun i hi => by rw [if_pos hi]), hkept, hsz⟩

/-! ### Get -/
theorem get_no {a : Option Addr} {len c : Nat} (w : World) (h : len < 1 ∨ 8 < len) (h2 : len ≤ 9223372036854775807) :
    Calls Tryd.prog 35 #[.slice a len c] w fun e w' => e = .returned (.tuple #[.int .u64 0, .int .i64 8]) ∧ w' = w := by
  rcases h with h | h
  · go_enter Tryd.func35, Tryd.ntmps35
    go_wp2
    go_ret2
    exact ⟨rfl, rfl⟩
  · go_enter Tryd.func35, Tryd.ntmps35
    go_wp2
    go_ret2
    exact ⟨rfl, rfl⟩
theorem wrap64 (n : Int) : IntKind.u64.wrap n = n % 18446744073709551616 := by simp [IntKind.wrap, IntKind.bits, IntKind.signed]
/-- One byte more. -/
theorem get_or (v x k : Nat) (hv : v < 256 ^ k) (hx : x < 256) (hk : k < 8) : bits .or .u64 (v : Int) (IntKind.u64.wrap ((x : Int) * 2 ^ (8 * k))) = ((v + 256 ^ k * x : Nat) : Int) := by
  rw [wrap64]
  have hp : (2 : Nat) ^ (8 * k) = 256 ^ k := by rw [Nat.pow_mul]
  have h7 : 256 ^ k ≤ 256 ^ 7 := Nat.pow_le_pow_right (by omega) (by omega)
  have hm : 256 ^ k * x ≤ 256 ^ 7 * 255 := Nat.mul_le_mul h7 (by omega)
  have hm2 : 256 ^ k * x < 18446744073709551616 := Nat.lt_of_le_of_lt hm (by decide)
  have e : ((x : Int) * 2 ^ (8 * k) % 18446744073709551616) = ((256 ^ k * x : Nat) : Int) := by
    have : ((x : Int) * 2 ^ (8 * k)) = ((256 ^ k * x : Nat) : Int) := by rw [← hp]; simp [Int.mul_comm]
    rw [this]
    omega
  rw [e, u64_or_nat v _ (by omega) hm2, Nat.or_comm, nat_join (8 * k) (256 ^ k * x) v (by rw [hp]; exact Nat.mul_mod_right _ _) (by rw [hp]; exact hv), Nat.add_comm]
theorem get_yes {a : Option Addr} {len c : Nat} {L : List Nat} {w : World} (hB : By w a len L) (h1 : 1 ≤ len) (h2 : len ≤ 8) :
    Calls Tryd.prog 35 #[.slice a len c] w fun e w' => e = .returned (.tuple #[.int .u64 ((v256 L : Nat) : Int), .int .i64 0]) ∧ ∃ m, w' = w.drewN m := by
  obtain ⟨b, off, rfl, hb, hc⟩ := hB.at_ (by omega)
  have HL : Hid (L.length = len) := hB.size
  have HG : Hid (∀ i, L.getD i 0 < 256) := hB.getD
  have HX : Hid (∀ x ∈ L, x < 256) := hB.lt
  have HC : Hid (∀ i, i < len → w.cell? ⟨b, off + i, none⟩ = some (.int .u8 ((L.getD i 0 : Nat) : Int))) := hc
  clear hB hc
  go_enter Tryd.func35, Tryd.ntmps35
  go_wp2
  go_loopw [4, 17] (fun n i wr => ∃ k : Nat, k ≤ len ∧ n = .int .u64 ((v256 (L.take k) : Nat) : Int) ∧ i = .int .i64 k ∧ ∃ m, wr = w.drewN m) (fun _ i _ => len - (intOf i).toNat)
  case atStart => exact ⟨0, Nat.zero_le _, by simp [v256], rfl, 0, rfl⟩
  case round =>
    obtain ⟨k, hk, rfl, rfl, m, rfl⟩ := hrel
    by_cases hlt : k < len
    · have hcell := HC.out k hlt
      have hor := get_or (v256 (L.take k)) (L.getD k 0) k (v256_take_lt L k (by rw [HL.out]; exact hk) HX.out) (HG.out k) (by omega)
      rw [← v256_take L k (by rw [HL.out]; exact hlt)] at hor
      have hx := HG.out k
      obtain ⟨v', hv'⟩ : ∃ v', v' = v256 (L.take (k + 1)) := ⟨_, rfl⟩
      rw [← hv'] at hor
      have HV : Hid (v' = v256 (L.take (k + 1))) := hv'
      clear hv'
      generalize L.getD k 0 = x at *
      generalize v256 (L.take k) = v at *
      go_wp2
      go_roundw
      case rel => exact ⟨k + 1, by omega, by rw [← HV.out], by go_num, _, rfl⟩
      case measure => simp [intOf]; omega
    · have hkq : k = len := by omega
      subst hkq
      rw [List.take_of_length_le (by rw [HL.out]; exact Nat.le_refl _)]
      go_wp2
      go_ret2
      exact ⟨rfl, m, rfl⟩

end Go.Proofs.YtflehhliddcfgaaDoor
