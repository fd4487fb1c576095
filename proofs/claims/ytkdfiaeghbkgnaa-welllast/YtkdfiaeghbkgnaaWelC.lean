/-
  THE CONTRACTS of package well (ones, Next, Share, Poor) and the document's (Next, Share, Poor).
-/
import Derived.Test.YtkdfiaeghbkgnaaWelN
import Derived.Test.YtkdfiaeghbkgnaaFixC
import Derived.Test.YtkdfiaeghbkgnaaFixR
import Derived.Test.YtkdfiaeghbkgnaaRows
import Derived.DeepKeys
import Derived.Deep.QuietTactic
import Derived.BigQuiet
import Derived.Laws.StructEq
import Derived.Deep.RegionWith
import Derived.Deep.RegionHeld
namespace Go.Proofs.Ytkdfiaeghbkgnaa
open Go.RowKit Go.Lib Go.Deep
set_option linter.unusedVariables false
set_option linter.unusedSimpArgs false

theorem held_take {P : Program} {ops : Array Oper} {Q : Exit → Act → World → Prop} {md : Region.Mode} {S : World → Prop} {i d : Nat} {oi : Oper} {v : Value} {fuel : Nat} {listed : Array Bool} {a : Act} {w : World} (hi : ops[i]? = some oi) (hd : oi.dst = some d)
    (hs : Region.noSelect ops = true) (hf : Region.free md ops listed i = true) (hr : (Region.ready md ops listed).contains i = true)
    (hQ : ∀ c a w, Q (.panic c) (a.put oi.dst v) w → Q (.panic c) a w) (hy : YieldsIf P ops S oi v a) (hS : S w)
    (h : wpAnyH P md ops Q S fuel (listed.setIfInBounds i true) { tmps := a.tmps.setIfInBounds d v, defers := a.defers } w) : wpAnyH P md ops Q S (fuel + 1) listed a w :=
  wpAnyH_take hi hs hf hr hQ hy hS (by rw [hd]; exact h)
def RgW (A : Act) (W : World) (e : Exit) (a : Act) (w : World) : Prop := match e with
  | .normal => a = A ∧ Kept W w none
  | _ => False
theorem RgW.out {A : Act} {W : World} {e : Exit} {a : Act} {w : World} (h : RgW A W e a w) : e = .normal ∧ a = A ∧ Kept W w none := by
  cases e with
  | normal => exact ⟨rfl, h⟩
  | _ => exact h.elim
abbrev weV (b : Nat) : Value := .agg #[.int .u64 (b : Int)]
/-- A link's last ticks in a box. -/
structure Wb (w : World) (k : Nat) (b : Nat) : Prop where
  c0 : w.cell? ⟨k, 0, none⟩ = some (.int .u64 (b : Int))
  f0 : w.frozen? ⟨k, 0, none⟩ = false
  lt : k < w.heap.size
theorem wb_alloc (w : World) (b : Nat) : Wb (w.alloc (.cells #[.int .u64 (b : Int)] 24)) w.heap.size b := by
  have h := heap_alloc_new w (.cells #[.int .u64 (b : Int)] 24)
  exact ⟨World.cell?_alloc_mark .., by simp only [World.frozen?, h]; rfl, by simp⟩
theorem Wb.kept {w w' : World} {k b : Nat} (h : Wb w k b) (q : Kept w w' none) : Wb w' k b :=
  ⟨(cell_kept' q h.lt).trans h.c0, (frozen_kept' q h.lt).trans h.f0, Nat.lt_of_lt_of_le h.lt q.size⟩
theorem Wb.set {w : World} {k b : Nat} (h : Wb w k b) (d : Nat) : Wb (w.setCell ⟨k, 0, none⟩ (.int .u64 (d : Int))) k d :=
  ⟨World.cell?_setCell_same _ _ _ h.c0, by rw [World.frozen?_setCell]; exact h.f0, by simpa [World.setCell] using h.lt⟩
theorem Wb.far {w : World} {k b : Nat} (h : Wb w k b) {g i : Nat} (hne : g ≠ k) (v : Value) : Wb (w.setCell ⟨g, i, none⟩ v) k b :=
  ⟨(World.cell?_setCell_other _ _ _ _ (by simp [hne])).trans h.c0, by rw [World.frozen?_setCell]; exact h.f0, by simpa [World.setCell] using h.lt⟩

theorem ker_bits {x : Nat} (h0 : 0 < x) (h1 : x < 18446744073709551616) : bits BinOp.and IntKind.u64 (x : Int) ((x : Int) - 1) = ((x &&& (x - 1) : Nat) : Int) := by
  have h := bits_and_u64_nat x (x - 1) h1 (by omega)
  rw [show (((x - 1 : Nat)) : Int) = (x : Int) - 1 by omega] at h
  exact h
theorem wones_any (b : Nat) (w : World) (hb : b < 18446744073709551616) : Calls Try.prog 17 #[.int .u64 (b : Int)] w fun e w' => e = .returned (.int .i64 (cnt b 64 : Nat)) ∧ w' = w := by
  have hc := cnt_le b 64
  go_enter Try.func17, Try.ntmps17
  go_wp2
  go_loopw [0, 3] (fun xv nv wr => ∃ (x n : Nat), xv = .int .u64 (x : Int) ∧ nv = .int .i64 (n : Int) ∧ x < 18446744073709551616 ∧ n + cnt x 64 = cnt b 64 ∧ wr = w) (fun _ nv _ => 64 - (intOf nv).toNat)
  case atStart => exact ⟨b, 0, rfl, rfl, hb, by omega, rfl⟩
  case round =>
    obtain ⟨x, n, rfl, rfl, hx, hn, rfl⟩ := hrel
    by_cases h0 : x = 0
    · subst h0
      rw [cnt_none] at hn
      go_wp2
      go_ret
      exact ⟨ret_int (by omega), rfl⟩
    · have hk := cnt_ker 64 x (by omega) hx
      have hl := ker_lt x
      have hbt := ker_bits (x := x) (by omega) hx
      have hcx := cnt_le x 64
      generalize hy : (x &&& (x - 1)) = y at *
      have HK := Hid.mk' hk
      clear hk hy
      have hz : ((x : Int) == 0) = false := by simp; omega
      go_wp2
      go_roundw
      case rel => exact ⟨y, n + 1, by rw [← hbt], by go_num, by omega, by have := HK.out; omega, by first | trivial | rfl⟩
      case measure => have := HK.out; simp [intOf]; omega
theorem nx_or {b : Nat} (hb : b < 18446744073709551616) : bits BinOp.or IntKind.u64 ((b : Int) * 2 % 18446744073709551616) 1 = ((nxW b true : Nat) : Int) := by
  have h := bits_or_u64_nat (2 * b % 18446744073709551616) 1 (by omega) (by omega)
  have e3 := Nat.two_pow_add_eq_or_of_lt (i := 1) (b := 1) (by omega) (2 * b % 18446744073709551616 / 2)
  have e4 : 2 ^ 1 * (2 * b % 18446744073709551616 / 2) = 2 * b % 18446744073709551616 := by omega
  rw [e4] at e3
  rw [← e3] at h
  have e5 : (b : Int) * 2 % 18446744073709551616 = ((2 * b % 18446744073709551616 : Nat) : Int) := by omega
  rw [e5]
  exact h.trans (by unfold nxW; rw [if_pos rfl])
theorem nx_no (b : Nat) : ((nxW b false : Nat) : Int) = (b : Int) * 2 % 18446744073709551616 := by
  unfold nxW
  rw [if_neg (by decide)]
  omega
theorem nx_yes (b : Nat) : ((nxW b true : Nat) : Int) = (b : Int) * 2 % 18446744073709551616 + 1 := by
  unfold nxW
  rw [if_pos rfl]
  omega
theorem wnext_any (b : Nat) (g : Bool) (w : World) (hb : b < 18446744073709551616) : Calls Try.prog 12 #[weV b, .bool g] w fun e w' => e = .returned (weV (nxW b g)) ∧ Kept w w' none := by
  have ho := nx_or hb
  have hn := nx_no b
  have hl := nxW_lt b false
  have hl2 := nxW_lt b true
  generalize hx : nxW b true = x at *
  generalize hy : nxW b false = y at *
  cases g with
  | true =>
    rw [hx]
    have HO := Hid.mk' ho
    clear ho hn hx hy
    go_enter Try.func12, Try.ntmps12
    go_wp2
    refine bodyPost_ret (v := weV x) (by simp [results, Try.results12, go_sem, IntKind.wrap_u64, HO.out, *]; done) rfl ⟨rfl, ?_⟩
    exact (((Kept.alloc _ _ _ _ _).tr (Kept.alloc _ _ _ _ _)).tr (Kept.alloc _ _ _ _ _))
  | false =>
    rw [hy]
    have HN := Hid.mk' hn
    clear ho hn hx hy
    go_enter Try.func12, Try.ntmps12
    go_wp2
    refine bodyPost_ret (v := weV y) (by simp [results, Try.results12, go_sem, IntKind.wrap_u64, HN.out, *]; done) rfl ⟨rfl, ?_⟩
    exact (((Kept.alloc _ _ _ _ _).tr (Kept.alloc _ _ _ _ _)).tr (Kept.alloc _ _ _ _ _))
theorem rwnext_any (b : Nat) (g : Bool) (w : World) (hb : b < 18446744073709551616) : Calls Try.prog 13 #[weV b, .bool g] w fun e w' => e = .returned (weV (nxW b g)) ∧ Kept w w' none := by
  have ho := nx_yes b
  have hn := nx_no b
  have hl := nxW_lt b false
  have hl2 := nxW_lt b true
  generalize hx : nxW b true = x at *
  generalize hy : nxW b false = y at *
  cases g with
  | true =>
    rw [hx]
    have HO := Hid.mk' ho
    have HL := Hid.mk' hl2
    clear ho hn hx hy hl2
    go_enter Try.func13, Try.ntmps13
    go_wp2
    refine bodyPost_ret (v := weV x) (by simp [results, Try.results13, go_sem, IntKind.wrap_u64]; have := HO.out; have := HL.out; omega) rfl ⟨rfl, ?_⟩
    exact (((Kept.alloc _ _ _ _ _).tr (Kept.alloc _ _ _ _ _)).tr (Kept.alloc _ _ _ _ _))
  | false =>
    rw [hy]
    have HN := Hid.mk' hn
    clear ho hn hx hy
    go_enter Try.func13, Try.ntmps13
    go_wp2
    refine bodyPost_ret (v := weV y) (by simp [results, Try.results13, go_sem, IntKind.wrap_u64]; have := HN.out; omega) rfl ⟨rfl, ?_⟩
    exact (((Kept.alloc _ _ _ _ _).tr (Kept.alloc _ _ _ _ _)).tr (Kept.alloc _ _ _ _ _))
/-- What is older than the window is shifted out. -/
theorem moved {b m : Nat} (h2 : m ≤ 64) : IntKind.u64.wrap ((b : Int) * 2 ^ (64 - m)) = ((b * 2 ^ (64 - m) % 18446744073709551616 : Nat) : Int) := by
  rw [IntKind.wrap_u64]
  simp
theorem wshare_no (b : Nat) (m : Int) (w : World) (h : ¬ (1 ≤ m ∧ m ≤ 64)) : Calls Try.prog 7 #[weV b, .int .i64 m] w fun e w' => e = .returned (.tuple #[.int .i64 0, .int .i64 2]) ∧ Kept w w' none := by
  by_cases h1 : m < 1
  · go_enter Try.func7, Try.ntmps7
    go_wp2
    go_ret2
    exact ⟨rfl, Kept.alloc _ _ _ _ _⟩
  · have h2 : 64 < m := by omega
    go_enter Try.func7, Try.ntmps7
    go_wp2
    go_ret2
    exact ⟨rfl, Kept.alloc _ _ _ _ _⟩
theorem wshare_ok (b m : Nat) (w : World) (hb : b < 18446744073709551616) (h1 : 1 ≤ m) (h2 : m ≤ 64) : Calls Try.prog 7 #[weV b, .int .i64 (m : Int)] w fun e w' => e = .returned (.tuple #[.int .i64 (quo (cnt b m : Nat) (m : Int)), .int .i64 0]) ∧ Kept w w' none := by
  have hm := cnt_moved b m h2
  have hc := cnt_le b m
  have hq := share_quo (s := (cnt b m : Nat)) (m := (m : Int)) (by omega) (by omega) (by omega) (by omega)
  have hne := fOf_ne (n := (m : Int)) (by omega)
  have HM := Hid.mk' (moved (b := b) h2)
  have HC := Hid.mk' hm
  have HQ := Hid.mk' hq
  have HN := Hid.mk' hne
  clear hm hq hne
  go_enter Try.func7, Try.ntmps7
  go_wp2_with (first
    | (go_at_call 15; refine (div_any _ _ _ HN.out).mono ?_; rintro e w2 ⟨rfl, rfl⟩)
    | (go_at_call 16; have hgo := HH; clear hgo; refine (of_any (m : Int) _ (by omega) (by omega)).mono ?_; rintro e w2 ⟨rfl, rfl⟩)
    | (go_at_call 16; refine (of_any ((cnt b m : Nat) : Int) _ (by omega) (by omega)).mono ?_; rintro e w2 ⟨rfl, rfl⟩; have HH := Hid.mk' trivial)
    | (go_at_call 17; rw [HM.out]; refine (wones_any _ _ (by omega)).mono ?_; rintro e w1 ⟨rfl, rfl⟩; rw [HC.out]))
  go_ret2
  exact ⟨by simp [HQ.out], Kept.alloc _ _ _ _ _⟩
theorem wshare_any (b : Nat) (m : Int) (w : World) (hb : b < 18446744073709551616) : Calls Try.prog 7 #[weV b, .int .i64 m] w fun e w' => e = .returned (.tuple #[.int .i64 (shQ b m), .int .i64 (shF m)]) ∧ Kept w w' none := by
  by_cases h : 1 ≤ m ∧ m ≤ 64
  · obtain ⟨k, rfl⟩ : ∃ k : Nat, m = k := ⟨m.toNat, by omega⟩
    rw [shF_ok h, shQ_nat b k (by omega) (by omega)]
    exact wshare_ok b k w hb (by omega) (by omega)
  · rw [shF_no h, shQ_no h]
    exact wshare_no b m w h
theorem rwshare_no (b : Nat) (m : Int) (w : World) (h : ¬ (1 ≤ m ∧ m ≤ 64)) : Calls Try.prog 10 #[weV b, .int .i64 m] w fun e w' => e = .returned (.tuple #[.int .i64 0, .int .i64 2]) ∧ Kept w w' none := by
  by_cases h1 : m < 1
  · go_enter Try.func10, Try.ntmps10
    go_wp2
    go_ret2
    exact ⟨rfl, Kept.alloc _ _ _ _ _⟩
  · have h2 : 64 < m := by omega
    go_enter Try.func10, Try.ntmps10
    go_wp2
    go_ret2
    exact ⟨rfl, Kept.alloc _ _ _ _ _⟩
set_option maxHeartbeats 2000000 in
theorem rwshare_ok (b m : Nat) (w : World) (hb : b < 18446744073709551616) (h1 : 1 ≤ m) (h2 : m ≤ 64) : Calls Try.prog 10 #[weV b, .int .i64 (m : Int)] w fun e w' => e = .returned (.tuple #[.int .i64 (quo (cnt b m : Nat) (m : Int)), .int .i64 0]) ∧ Kept w w' none := by
  have hc := cnt_le b m
  have hq := share_quo (s := (cnt b m : Nat)) (m := (m : Int)) (by omega) (by omega) (by omega) (by omega)
  have hne := fOf_ne (n := (m : Int)) (by omega)
  have HQ := Hid.mk' hq
  have HN := Hid.mk' hne
  clear hq hne
  go_enter Try.func10, Try.ntmps10
  have hB := wb_alloc w b
  go_wp2
  have hc0 : ∀ w', Kept (w.alloc (.cells #[.int .u64 (b : Int)] 24)) w' none → w'.cell? ⟨w.heap.size, 0, none⟩ = some (.int .u64 (b : Int)) := fun w' q => (hB.kept q).c0
  refine Code.wp_mono (Q := RgW ?A1 (w.alloc (.cells #[.int .u64 (b : Int)] 24))) ?cont1 ?reg1
  case reg1 =>
    repeat (rename_i hh; clear hh)
    refine wp_region_held_drew (S := fun w' => Kept (w.alloc (.cells #[.int .u64 (b : Int)] 24)) w' none) (by kernel_rfl) (Kept.drew _ _) (fun hHeld => ?_)
    refine held_take (i := 0) (v := ?hv0q1) rfl rfl (by kernel_rfl) (by kernel_rfl) (by kernel_rfl) (fun _ _ _ h => h) (Or.inl ⟨by rfl, ?hy0q1⟩) hHeld ?hr0q1
    case hy0q1 => first | (intro w hSw; (try dsimp only at hSw); go_simp; done) | (intro w hSw; (try dsimp only at hSw); go_simp; with_reducible rfl)
    try simp only [List.setIfInBounds_toArray, List.set_cons_zero, List.set_cons_succ]
    refine held_take (i := 1) (v := ?hv1q2) rfl rfl (by kernel_rfl) (by kernel_rfl) (by kernel_rfl) (fun _ _ _ h => h) (Or.inl ⟨by rfl, ?hy1q2⟩) hHeld ?hr1q2
    case hy1q2 => first | (intro w hSw; (try dsimp only at hSw); go_simp; done) | (intro w hSw; (try dsimp only at hSw); go_simp; with_reducible rfl)
    try simp only [List.setIfInBounds_toArray, List.set_cons_zero, List.set_cons_succ]
    refine held_take (i := 2) (v := ?hv2q3) rfl rfl (by kernel_rfl) (by kernel_rfl) (by kernel_rfl) (fun _ _ _ h => h) (Or.inl ⟨by rfl, ?hy2q3⟩) hHeld ?hr2q3
    case hy2q3 => first | (intro w hSw; (try dsimp only at hSw); go_simp; done) | (intro w hSw; (try dsimp only at hSw); go_simp; with_reducible rfl)
    try simp only [List.setIfInBounds_toArray, List.set_cons_zero, List.set_cons_succ]
    refine held_take (i := 3) (v := ?hv3q4) rfl rfl (by kernel_rfl) (by kernel_rfl) (by kernel_rfl) (fun _ _ _ h => h) (Or.inl ⟨by rfl, ?hy3q4⟩) hHeld ?hr3q4
    case hy3q4 => first | (intro w hSw; (try dsimp only at hSw); go_simp; done) | (intro w hSw; (try dsimp only at hSw); go_simp; with_reducible rfl)
    try simp only [List.setIfInBounds_toArray, List.set_cons_zero, List.set_cons_succ]
    refine wpAnyH_done (by kernel_rfl) ?_ _
    refine And.intro ?_ hHeld
    with_reducible rfl
  case cont1 =>
  intro e a' w1 hq
  obtain ⟨rfl, rfl, hkq⟩ := hq.out
  clear hq hc0 hB
  have HK := Hid.mk' ((Kept.alloc w #[.int .u64 (b : Int)] 24 (0, 0) none).tr hkq)
  clear hkq
  go_wp2
  go_loopw [6, 7, 8] (fun nv lv iv wr => ∃ (i : Nat), nv = .int .i64 ((cnt b i : Nat) : Int) ∧ lv = .int .u64 (lasI b i) ∧ iv = .int .i64 i ∧ i ≤ m ∧ wr = w1) (fun _ _ iv _ => m - (intOf iv).toNat)
  case atStart => exact ⟨0, by rfl, by rw [lasI_zero], rfl, by omega, rfl⟩
  case round =>
    obtain ⟨i, rfl, rfl, rfl, him, rfl⟩ := hrel
    have t := cnt_le b i
    have l := lasI_bd hb i
    have s1 := cntI_succ b i
    have s2 := lasI_succ b i
    obtain ⟨l0, l1⟩ := l
    have S1 := Hid.mk' s1
    have S2 := Hid.mk' s2
    clear s1 s2
    by_cases hlt : i < m
    · by_cases ho : lasI b i % 2 = 1
      · go_wp2
        go_roundw
        case rel => exact ⟨i + 1, by rw [S1.out, ho], by rw [S2.out], by go_num, by omega, by first | trivial | rfl⟩
        case measure => simp [intOf]; omega
      · have ho0 : lasI b i % 2 = 0 := by omega
        go_wp2
        go_roundw
        case rel => exact ⟨i + 1, by rw [S1.out, ho0, Int.add_zero], by rw [S2.out], by go_num, by omega, by first | trivial | rfl⟩
        case measure => simp [intOf]; omega
    · have him' : i = m := by omega
      subst him'
      go_wp2_with (first | (go_at_call 18; refine (rdiv_any _ _ _ HN.out).mono ?_; rintro e w2 ⟨rfl, rfl⟩) | (go_at_call 19; have hgo := HH; clear hgo; refine (rof_any (i : Int) _).mono ?_; rintro e w2 ⟨rfl, rfl⟩) | (go_at_call 19; refine (rof_any ((cnt b i : Nat) : Int) _).mono ?_; rintro e w2 ⟨rfl, rfl⟩; have HH := Hid.mk' trivial))
      go_ret2
      exact ⟨by simp [HQ.out], HK.out⟩
theorem rwshare_any (b : Nat) (m : Int) (w : World) (hb : b < 18446744073709551616) : Calls Try.prog 10 #[weV b, .int .i64 m] w fun e w' => e = .returned (.tuple #[.int .i64 (shQ b m), .int .i64 (shF m)]) ∧ Kept w w' none := by
  by_cases h : 1 ≤ m ∧ m ≤ 64
  · obtain ⟨k, rfl⟩ : ∃ k : Nat, m = k := ⟨m.toNat, by omega⟩
    rw [shF_ok h, shQ_nat b k (by omega) (by omega)]
    exact rwshare_ok b k w hb (by omega) (by omega)
  · rw [shF_no h, shQ_no h]
    exact rwshare_no b m w h
theorem wpoor_no (b : Nat) (m h : Int) (w : World) (hb : b < 18446744073709551616) (h1 : ¬ (1 ≤ m ∧ m ≤ 64)) : Calls Try.prog 8 #[weV b, .int .i64 m, .int .i64 h] w fun e w' => e = .returned (.tuple #[.bool false, .int .i64 2]) ∧ Kept w w' none := by
  have HS := Hid.mk' (fun w' => wshare_no b m w' h1)
  go_enter Try.func8, Try.ntmps8
  go_wp2_with (go_at_call 7; refine (HS.out _).mono ?_; rintro e w2 ⟨rfl, hk⟩)
  go_ret2
  exact ⟨rfl, (Kept.alloc _ _ _ _ _).tr hk⟩
theorem wpoor_bad (b : Nat) (m h : Int) (w : World) (hb : b < 18446744073709551616) (h1 : 1 ≤ m ∧ m ≤ 64) (h2 : ¬ (0 ≤ h ∧ h ≤ 65536)) : Calls Try.prog 8 #[weV b, .int .i64 m, .int .i64 h] w fun e w' => e = .returned (.tuple #[.bool false, .int .i64 2]) ∧ Kept w w' none := by
  have hs := fun w' => wshare_any b m w' hb
  rw [shF_ok h1] at hs
  have HS := Hid.mk' hs
  clear hs
  by_cases h3 : h < 0
  · go_enter Try.func8, Try.ntmps8
    go_wp2_with (go_at_call 7; refine (HS.out _).mono ?_; rintro e w2 ⟨rfl, hk⟩)
    go_ret2
    exact ⟨rfl, (Kept.alloc _ _ _ _ _).tr hk⟩
  · have h4 : 65536 < h := by omega
    go_enter Try.func8, Try.ntmps8
    go_wp2_with (go_at_call 7; refine (HS.out _).mono ?_; rintro e w2 ⟨rfl, hk⟩)
    go_ret2
    exact ⟨rfl, (Kept.alloc _ _ _ _ _).tr hk⟩
theorem wpoor_ok (b : Nat) (m h : Int) (w : World) (hb : b < 18446744073709551616) (h1 : 1 ≤ m ∧ m ≤ 64) (h2 : 0 ≤ h ∧ h ≤ 65536) : Calls Try.prog 8 #[weV b, .int .i64 m, .int .i64 h] w fun e w' => e = .returned (.tuple #[.bool (decide (shQ b m < h)), .int .i64 0]) ∧ Kept w w' none := by
  have hs := fun w' => wshare_any b m w' hb
  rw [shF_ok h1] at hs
  have HS := Hid.mk' hs
  clear hs
  generalize shQ b m = x at *
  go_enter Try.func8, Try.ntmps8
  go_wp2_with (go_at_call 7; refine (HS.out _).mono ?_; rintro e w2 ⟨rfl, hk⟩)
  go_ret2
  exact ⟨rfl, (Kept.alloc _ _ _ _ _).tr hk⟩
theorem wpoor_any (b : Nat) (m h : Int) (w : World) (hb : b < 18446744073709551616) : Calls Try.prog 8 #[weV b, .int .i64 m, .int .i64 h] w fun e w' => e = .returned (.tuple #[.bool (poQ b m h), .int .i64 (poF m h)]) ∧ Kept w w' none := by
  by_cases h1 : 1 ≤ m ∧ m ≤ 64
  · by_cases h2 : 0 ≤ h ∧ h ≤ 65536
    · rw [poF_ok h1 h2, poQ_ok h1 h2]
      exact wpoor_ok b m h w hb h1 h2
    · rw [poF_bad h2, poQ_bad h2]
      exact wpoor_bad b m h w hb h1 h2
  · rw [poF_no h1, poQ_no h1]
    exact wpoor_no b m h w hb h1
theorem rwpoor_no (b : Nat) (m h : Int) (w : World) (hb : b < 18446744073709551616) (h1 : ¬ (1 ≤ m ∧ m ≤ 64)) : Calls Try.prog 11 #[weV b, .int .i64 m, .int .i64 h] w fun e w' => e = .returned (.tuple #[.bool false, .int .i64 2]) ∧ Kept w w' none := by
  have HS := Hid.mk' (fun w' => rwshare_no b m w' h1)
  go_enter Try.func11, Try.ntmps11
  go_wp2_with (go_at_call 10; refine (HS.out _).mono ?_; rintro e w2 ⟨rfl, hk⟩)
  go_ret2
  exact ⟨rfl, (Kept.alloc _ _ _ _ _).tr hk⟩
theorem rwpoor_bad (b : Nat) (m h : Int) (w : World) (hb : b < 18446744073709551616) (h1 : 1 ≤ m ∧ m ≤ 64) (h2 : ¬ (0 ≤ h ∧ h ≤ 65536)) : Calls Try.prog 11 #[weV b, .int .i64 m, .int .i64 h] w fun e w' => e = .returned (.tuple #[.bool false, .int .i64 2]) ∧ Kept w w' none := by
  have hs := fun w' => rwshare_any b m w' hb
  rw [shF_ok h1] at hs
  have HS := Hid.mk' hs
  clear hs
  by_cases h3 : h < 0
  · go_enter Try.func11, Try.ntmps11
    go_wp2_with (go_at_call 10; refine (HS.out _).mono ?_; rintro e w2 ⟨rfl, hk⟩)
    go_ret2
    exact ⟨rfl, (Kept.alloc _ _ _ _ _).tr hk⟩
  · have h4 : 65536 < h := by omega
    go_enter Try.func11, Try.ntmps11
    go_wp2_with (go_at_call 10; refine (HS.out _).mono ?_; rintro e w2 ⟨rfl, hk⟩)
    go_ret2
    exact ⟨rfl, (Kept.alloc _ _ _ _ _).tr hk⟩
theorem rwpoor_ok (b : Nat) (m h : Int) (w : World) (hb : b < 18446744073709551616) (h1 : 1 ≤ m ∧ m ≤ 64) (h2 : 0 ≤ h ∧ h ≤ 65536) : Calls Try.prog 11 #[weV b, .int .i64 m, .int .i64 h] w fun e w' => e = .returned (.tuple #[.bool (decide (shQ b m < h)), .int .i64 0]) ∧ Kept w w' none := by
  have hs := fun w' => rwshare_any b m w' hb
  rw [shF_ok h1] at hs
  have HS := Hid.mk' hs
  clear hs
  generalize shQ b m = x at *
  go_enter Try.func11, Try.ntmps11
  go_wp2_with (go_at_call 10; refine (HS.out _).mono ?_; rintro e w2 ⟨rfl, hk⟩)
  go_ret2
  exact ⟨rfl, (Kept.alloc _ _ _ _ _).tr hk⟩
theorem rwpoor_any (b : Nat) (m h : Int) (w : World) (hb : b < 18446744073709551616) : Calls Try.prog 11 #[weV b, .int .i64 m, .int .i64 h] w fun e w' => e = .returned (.tuple #[.bool (poQ b m h), .int .i64 (poF m h)]) ∧ Kept w w' none := by
  by_cases h1 : 1 ≤ m ∧ m ≤ 64
  · by_cases h2 : 0 ≤ h ∧ h ≤ 65536
    · rw [poF_ok h1 h2, poQ_ok h1 h2]
      exact rwpoor_ok b m h w hb h1 h2
    · rw [poF_bad h2, poQ_bad h2]
      exact rwpoor_bad b m h w hb h1 h2
  · rw [poF_no h1, poQ_no h1]
    exact rwpoor_no b m h w hb h1

end Go.Proofs.Ytkdfiaeghbkgnaa
