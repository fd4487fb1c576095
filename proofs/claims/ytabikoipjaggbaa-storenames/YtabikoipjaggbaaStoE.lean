/-
  THE CONTRACT of a slot's puts.
-/
import Derived.Test.YtabikoipjaggbaaStoB
import Derived.Test.YtabikoipjaggbaaSPlanLJ
namespace Go.Proofs.Ytabikoipjaggbaa
open Go.RowKit Go.Lib Go.Deep
set_option linter.unusedVariables false
set_option linter.unusedSimpArgs false

/-- A list of writes, at block H or behind it. -/
structure PwF (w : World) (H : Nat) (la : Option Addr) (m : Nat) (l : List Pw) : Prop where
  size : l.length = m
  max : m ≤ 9223372036854775807
  at_ : 0 < m → ∃ b off, la = some ⟨b, off, none⟩ ∧ H ≤ b ∧ b < w.heap.size ∧ ∀ i p, l[i]? = some p → ∃ a c, w.cell? ⟨b, off + i * 2, none⟩ = some (.int .i64 p.n) ∧ w.cell? ⟨b, off + i * 2 + 1, none⟩ = some (.slice a p.data.length c) ∧ Come w a p.data.length c p.data ∧ ∀ x, a = some x → H ≤ x.block
theorem PwF.plw {w : World} {H : Nat} {la : Option Addr} {m : Nat} {l : List Pw} (h : PwF w H la m l) : Plw w la m l := by
  refine ⟨h.size, h.max, fun hp => ?_⟩
  obtain ⟨b, off, e, _, hb, hc⟩ := h.at_ hp
  refine ⟨b, off, e, hb, fun i p hi => ?_⟩
  obtain ⟨a, c, h1, h2, h3, _⟩ := hc i p hi
  exact ⟨a, c, h1, h2, h3⟩
theorem PwF.kept {w w' : World} {H : Nat} {la : Option Addr} {m : Nat} {l : List Pw} (h : PwF w H la m l) (k : Kept w w' none) : PwF w' H la m l := by
  refine ⟨h.size, h.max, fun hp => ?_⟩
  obtain ⟨b, off, rfl, hH, hb, hc⟩ := h.at_ hp
  refine ⟨b, off, rfl, hH, Nat.lt_of_lt_of_le hb k.size, fun i p hp => ?_⟩
  obtain ⟨a, c, h1, h2, h4, h5⟩ := hc i p hp
  exact ⟨a, c, (cell_kpt k hb).trans h1, (cell_kpt k hb).trans h2, h4.kpt k, h5⟩
theorem PwF.mono {w : World} {H H' : Nat} {la : Option Addr} {m : Nat} {l : List Pw} (h : PwF w H la m l) (k : H' ≤ H) : PwF w H' la m l := by
  refine ⟨h.size, h.max, fun hp => ?_⟩
  obtain ⟨b, off, rfl, hH, hb, hc⟩ := h.at_ hp
  refine ⟨b, off, rfl, Nat.le_trans k hH, hb, fun i p hp => ?_⟩
  obtain ⟨a, c, h1, h2, h4, h5⟩ := hc i p hp
  exact ⟨a, c, h1, h2, h4, fun x e => Nat.le_trans k (h5 x e)⟩
theorem PwF.nil (w : World) (H : Nat) : PwF w H none 0 [] := ⟨rfl, by omega, fun h => absurd h (by omega)⟩
def pwL (F : Int) (B : List (List Nat)) : List Pw := (List.range B.length).map fun (i : Nat) => ⟨F + (i : Int), B.getD i []⟩
theorem pw_len (F : Int) (B : List (List Nat)) : (pwL F B).length = B.length := by unfold pwL; simp
theorem Bl.skol {w : World} {H : Nat} {la : Option Addr} {m : Nat} {B : List (List Nat)} (h : Bl w H la m B) (h64 : ∀ p ∈ B, p.length = 64) (hp : 0 < m) : ∃ b off, la = some ⟨b, off, none⟩ ∧ b < w.heap.size ∧ ∃ r : Nat → Option Addr × Nat, ∀ i, i < m → w.cell? ⟨b, off + i, none⟩ = some (.slice (r i).1 64 (r i).2) ∧ Come w (r i).1 64 (r i).2 (B.getD i []) ∧ ∀ x, (r i).1 = some x → H ≤ x.block := by
  obtain ⟨b, off, e, hH, hb, hc⟩ := h.at_ hp
  have hs := h.size
  have hall : ∀ i, ∃ q : Option Addr × Nat, i < m → w.cell? ⟨b, off + i, none⟩ = some (.slice q.1 64 q.2) ∧ Come w q.1 64 q.2 (B.getD i []) ∧ ∀ x, q.1 = some x → H ≤ x.block := fun i => by
    by_cases hi : i < m
    · have hl : i < B.length := by omega
      have e2 : B.getD i [] = B[i] := by simp [hl]
      obtain ⟨a, c, h1, h2, h3⟩ := hc i B[i] (by simp)
      have h6 := h64 _ (List.getElem_mem hl)
      rw [h6] at h1 h2
      exact ⟨(a, c), fun _ => ⟨h1, by rw [e2]; exact h2, h3⟩⟩
    · exact ⟨(none, 0), fun hh => absurd hh hi⟩
  obtain ⟨r, hr⟩ := Classical.skolem.1 hall
  exact ⟨b, off, e, hb, r, hr⟩
set_option maxRecDepth 100000 in
set_option maxHeartbeats 4000000 in
theorem puts_any {g : Int} {md : Nat} {pa : Option Addr} {pn pc : Nat} {F : Int} {ba : Option Addr} {bn bc : Nat} {la : Option Addr} {m c H : Nat} {B : List (List Nat)} {w : World} (hB : Bl w H la m B) (h64 : ∀ p ∈ B, p.length = 64) (h1 : 1 ≤ m) (h2 : m ≤ 40) (hH : H ≤ w.heap.size) (hF0 : 0 ≤ F) (hF1 : F ≤ 1000) :
    Calls Try.prog 27 #[slV g md pa pn pc F ba bn bc, .slice la m c] w fun e w' => ∃ b, e = .returned (.slice (some ⟨b, 0, none⟩) m m) ∧ PwF w' H (some ⟨b, 0, none⟩) m (pwL F B) ∧ Kept w w' none := by
  obtain ⟨b0, o0, rfl, hb0, r, hr⟩ := hB.skol h64 h1
  have hsz := hB.size
  have H64 := Hid.mk' h64
  obtain ⟨WA, hWA⟩ : ∃ WA, w.alloc (.cells #[.int .i64 g, .int .u8 (md : Int), .slice pa pn pc, .int .i64 F, .slice ba bn bc] 62) = WA := ⟨_, rfl⟩
  have hkA : Kept w WA none := by rw [← hWA]; exact Kept.alloc _ _ _ _ _
  have hzA : WA.heap.size = w.heap.size + 1 := by rw [← hWA]; simp
  have hRA : WA.rowIs w.heap.size 62 5 (f5 (.int .i64 g) (.int .u8 (md : Int)) (.slice pa pn pc) (.int .i64 F) (.slice ba bn bc)) := by rw [← hWA]; exact row5 _ _ _ _ _ _ _
  obtain ⟨i0, hi0, hz0, hz1, hz2⟩ := info_parts (show (Try.prog.info? 39).map (fun i => (i.zero, i.size, i.bytes)) = some (some (.agg #[.int .i64 0, .slice none 0 0]), 2, 32) from by kernel_rfl)
  have hmk := run_make (P := Try.prog) WA 33 39 i0 _ (by kernel_rfl) hi0 hz0 .i64 .i64 m m (by omega) (Int.le_refl _) (by rw [hz2]; omega) (by omega)
  rw [hz1, Int.toNat_natCast] at hmk
  have hrow0 := madeRow WA (Value.cells (.agg #[.int .i64 0, .slice none 0 0])) (m * 2) 39
  have hk0 : Kept WA (WA.alloc (.cells (madeCells (Value.cells (.agg #[.int .i64 0, .slice none 0 0])) (m * 2)) 39)) none := Kept.alloc _ _ _ _ _
  generalize hW0 : WA.alloc (.cells (madeCells (Value.cells (.agg #[.int .i64 0, .slice none 0 0])) (m * 2)) 39) = W0 at *
  have HR := Hid.mk' hr
  have HRow := Hid.mk' hrow0
  have HK0 := Hid.mk' hk0
  have HKA := Hid.mk' hkA
  have HRA := Hid.mk' hRA
  have HZ := Hid.mk' hzA
  have HSZ := Hid.mk' hsz
  have HWA := Hid.mk' hWA
  clear hr hrow0 hk0 hkA hRA hzA hsz hWA hB h64 hW0
  go_enter Try.func27, Try.ntmps27
  rw [← HWA.out] at hmk
  go_wp2
  go_loopw [13] (fun i wr => ∃ k : Nat, k ≤ m ∧ i = .int .i64 k ∧ (∃ f, wr.rowIs (w.heap.size + 1) 39 (m * 2) f ∧ ∀ i : Nat, i < k → f (i * 2) = .int .i64 (F + (i : Int)) ∧ f (i * 2 + 1) = .slice (r i).1 64 (r i).2) ∧ Kept W0 wr (some (w.heap.size + 1))) (fun i _ => m - (intOf i).toNat)
  case atStart => exact ⟨0, Nat.zero_le _, rfl, ⟨_, by rw [← HZ.out]; exact HRow.out, fun i hi => absurd hi (by omega)⟩, Kept.refl _ _⟩
  case round =>
    obtain ⟨k, hk, rfl, ⟨f, hrow, hf⟩, hkr⟩ := hrel
    have hkw : Kept w wr none := (HKA.out.tr HK0.out).newRow hkr (fun i e => by cases e; omega)
    have HROW := Hid.mk' hrow
    have HF := Hid.mk' hf
    have HK := Hid.mk' hkr
    have HKW := Hid.mk' hkw
    have hX := HRA.out.of_block ((hkr.block _ (by have := HK0.out.size; have := HZ.out; omega) (fun e => by injection e with e; omega)).trans (HK0.out.block _ HRA.out.lt (by simp)))
    have x3 := hX.cell (i := 3) (by omega)
    simp [f5] at x3
    clear hf hX
    by_cases hlt : k < m
    · obtain ⟨p1, _, _⟩ := HR.out k hlt
      have p2 := (cell_kpt hkw hb0).trans p1
      have k0 := hrow.cell (i := k * 2) (by omega)
      have z0 := hrow.frozen (k * 2)
      have k1 := hrow.cell (i := k * 2 + 1) (by omega)
      have z1 := hrow.frozen (k * 2 + 1)
      clear p1 hkw hkr hrow
      generalize hra : (r k).1 = ra at *
      generalize hrb : (r k).2 = rb at *
      have HRR := Hid.mk' (And.intro hra hrb)
      clear hra hrb
      go_wp2
      go_roundw
      case rel =>
        refine ⟨k + 1, by omega, by go_num, ⟨_, (HROW.out.set (k * 2) _).set (k * 2 + 1) _, fun i hi => ?_⟩, kept_trR (kept_trR HK.out (dkept_set _ _ _ _)) (dkept_set _ _ _ _)⟩
        by_cases hik : i = k
        · subst hik
          simp [HRR.out.1, HRR.out.2]
        · obtain ⟨q1, q2⟩ := HF.out i (by omega)
          have e1 : ¬ i * 2 = k * 2 + 1 := by omega
          have e2 : ¬ i * 2 = k * 2 := by omega
          have e3 : ¬ i * 2 + 1 = k * 2 := by omega
          have e4 : ¬ i * 2 + 1 = k * 2 + 1 := by omega
          simp only [if_neg e1, if_neg e2, if_neg e3, if_neg e4]
          exact ⟨q1, q2⟩
      case measure => simp [intOf]; omega
    · obtain rfl : k = m := by omega
      go_wp2
      go_ret
      refine ⟨w.heap.size + 1, rfl, ⟨by rw [pw_len, HSZ.out], by omega, fun _ => ⟨_, 0, rfl, by omega, HROW.out.lt, fun i p hp => ?_⟩⟩, HKW.out⟩
      have hi : i < k := by
        have := (List.getElem?_eq_some_iff.1 hp).1
        rw [pw_len, HSZ.out] at this
        exact this
      have hil : i < B.length := by rw [HSZ.out]; exact hi
      have e : p = ⟨F + (i : Int), B.getD i []⟩ := by
        unfold pwL at hp
        simp [hil] at hp
        rw [← hp]
        simp [hil]
      subst e
      obtain ⟨f1, f2⟩ := HF.out i hi
      obtain ⟨_, c1, c2⟩ := HR.out i hi
      have hl : (B.getD i []).length = 64 := by
        have e2 : B.getD i [] = B[i] := by simp [hil]
        rw [e2]
        exact H64.out _ (List.getElem_mem hil)
      have g0 := HROW.out.cell (i := i * 2) (by omega)
      have g1 := HROW.out.cell (i := i * 2 + 1) (by omega)
      rw [f1] at g0
      rw [f2] at g1
      dsimp only
      rw [hl, Nat.zero_add]
      exact ⟨_, _, g0, g1, c1.kpt HKW.out, c2⟩

end Go.Proofs.Ytabikoipjaggbaa
