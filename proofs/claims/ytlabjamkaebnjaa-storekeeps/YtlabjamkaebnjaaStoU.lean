/-
  THE WRITES THAT store.Put TELLS LIE IN MEMORY THAT MAY BE WRITTEN (made by a program).
-/
import Derived.Test.YtlabjamkaebnjaaStoH
import Derived.Test.YtlabjamkaebnjaaSBlkR
namespace Go.Proofs.Ytlabjamkaebnjaa
open Go.RowKit Go.Lib Go.Deep
set_option linter.unusedVariables false
set_option linter.unusedSimpArgs false

theorem frozU {w w' : World} {r : Option Nat} (k : Kept w w' r) {b i : Nat} (hb : b < w.heap.size) (hr : some b ≠ r) : w'.frozen? ⟨b, i, none⟩ = w.frozen? ⟨b, i, none⟩ := frozen_block (k.block b hb hr)
/-- Lists of bytes that may be written. -/
structure BlU (w : World) (H : Nat) (la : Option Addr) (m : Nat) (B : List (List Nat)) : Prop where
  bl : Bl w H la m B
  un : ∀ b off, la = some ⟨b, off, none⟩ → ∀ i, i < m → ∀ a n c, w.cell? ⟨b, off + i, none⟩ = some (.slice a n c) → ∀ x, a = some x → x.block < w.heap.size ∧ ∀ j, w.frozen? ⟨x.block, j, none⟩ = false
theorem BlU.kept {w w' : World} {H : Nat} {la : Option Addr} {m : Nat} {B : List (List Nat)} (h : BlU w H la m B) (k : Kept w w' none) : BlU w' H la m B := by
  refine ⟨h.bl.kept k, fun b off e i hi a n c hc x hx => ?_⟩
  obtain ⟨b', off', e', _, hb, _⟩ := h.bl.at_ (by omega)
  rw [e] at e'
  injection e' with e'
  injection e' with e1 e2
  subst e1 e2
  rw [cell_kpt k hb] at hc
  obtain ⟨q1, q2⟩ := h.un b off e i hi a n c hc x hx
  exact ⟨Nat.lt_of_lt_of_le q1 k.size, fun j => (frozU k q1 (by simp)).trans (q2 j)⟩
theorem BlU.mono {w : World} {H H' : Nat} {la : Option Addr} {m : Nat} {B : List (List Nat)} (h : BlU w H la m B) (k : H' ≤ H) : BlU w H' la m B := ⟨h.bl.mono k, h.un⟩
theorem BlU.size {w : World} {H : Nat} {la : Option Addr} {m : Nat} {B : List (List Nat)} (h : BlU w H la m B) : B.length = m := h.bl.size
theorem BlU.skol {w : World} {H : Nat} {la : Option Addr} {m : Nat} {B : List (List Nat)} (h : BlU w H la m B) (h64 : ∀ p ∈ B, p.length = 64) (hp : 0 < m) : ∃ b off, la = some ⟨b, off, none⟩ ∧ b < w.heap.size ∧ ∃ r : Nat → Option Addr × Nat, ∀ i, i < m → w.cell? ⟨b, off + i, none⟩ = some (.slice (r i).1 64 (r i).2) ∧ Come w (r i).1 64 (r i).2 (B.getD i []) ∧ ∀ x, (r i).1 = some x → H ≤ x.block ∧ x.block < w.heap.size ∧ ∀ j, w.frozen? ⟨x.block, j, none⟩ = false := by
  obtain ⟨b, off, e, hb, r, hr⟩ := h.bl.skol h64 hp
  refine ⟨b, off, e, hb, r, fun i hi => ?_⟩
  obtain ⟨q1, q2, q3⟩ := hr i hi
  exact ⟨q1, q2, fun x hx => ⟨q3 x hx, h.un b off e i hi _ _ _ q1 x hx⟩⟩
theorem mine_un {w : World} {base : Nat} {a : Option Addr} {n c : Nat} {L : List Nat} (h : Mine w base a n c L) (hb : ∀ x ∈ L, x < 256) : ∀ x, a = some x → x.block < w.heap.size ∧ ∀ j, w.frozen? ⟨x.block, j, none⟩ = false := by
  intro x hx
  rcases (mine_rv (w0 := { w with heap := #[] }) h hb (by simp)).at_ with ⟨q, _⟩ | ⟨g, q, _, hr⟩
  · rw [q] at hx; cases hx
  · rw [q] at hx; cases hx
    exact ⟨hr.lt, fun j => hr.frozen j⟩
structure FlU (w0 w : World) (G m k : Nat) (B : List (List Nat)) : Prop where
  fl : Fl w0 w G m k B
  un : ∀ i, i < k → ∀ a n c, w.cell? ⟨G, i, none⟩ = some (.slice a n c) → ∀ x, a = some x → x.block < w.heap.size ∧ ∀ j, w.frozen? ⟨x.block, j, none⟩ = false
theorem FlU.put {w0 w w3 : World} {G m k : Nat} {B : List (List Nat)} {a : Option Addr} {cap : Nat} (h : FlU w0 w G m k B) (hk : Kept w w3 none) (hC : Come w3 a 64 cap (B.getD k [])) (ha : ∀ x, a = some x → G < x.block) (hu : ∀ x, a = some x → x.block < w3.heap.size ∧ ∀ j, w3.frozen? ⟨x.block, j, none⟩ = false) (hm : k < m) : FlU w0 (w3.setCell ⟨G, k, none⟩ (.slice a 64 cap)) G m (k + 1) B := by
  obtain ⟨r, h1, h2⟩ := h.fl.ex
  have h4 := h.fl.put hk hC ha
  refine ⟨h4, fun i hi a' n c hc x hx => ?_⟩
  have hsz : (w3.setCell ⟨G, k, none⟩ (.slice a 64 cap)).heap.size = w3.heap.size := by simp [World.setCell]
  have key : x.block < w3.heap.size ∧ ∀ j, w3.frozen? ⟨x.block, j, none⟩ = false := by
    by_cases e : i = k
    · subst e
      have h5 := ((h1.of_block (hk.block G h1.lt (by simp))).set i (.slice a 64 cap)).cell hm
      rw [hc] at h5
      simp at h5
      exact hu x (by rw [← h5.1]; exact hx)
    · have h6 : (w3.setCell ⟨G, k, none⟩ (.slice a 64 cap)).cell? ⟨G, i, none⟩ = w.cell? ⟨G, i, none⟩ := (World.cell?_setCell_other _ _ _ _ (fun q => e (by injection q with _ q2; exact q2.symm))).trans (cell_kpt hk h1.lt)
      rw [h6] at hc
      obtain ⟨q1, q2⟩ := h.un i (by omega) a' n c hc x hx
      exact ⟨Nat.lt_of_lt_of_le q1 hk.size, fun j => (frozU hk q1 (by simp)).trans (q2 j)⟩
  exact ⟨by rw [hsz]; exact key.1, fun j => (frozen_set _ _ _ _).trans (key.2 j)⟩
theorem FlU.blU {w0 w : World} {G m : Nat} {B : List (List Nat)} (h : FlU w0 w G m m B) (hB : B.length = m) (h64 : ∀ p ∈ B, p.length = 64) (hm : m ≤ 1000) : BlU w w0.heap.size (some ⟨G, 0, none⟩) m B := by
  refine ⟨h.fl.bl hB h64 hm, fun b off e i hi a n c hc x hx => ?_⟩
  injection e with e
  injection e with e1 e2
  subst e1 e2
  rw [Nat.zero_add] at hc
  exact h.un i hi a n c hc x hx
set_option maxRecDepth 100000 in
set_option maxHeartbeats 4000000 in
theorem blocksOfU_any {la : Option Addr} {m c g : Nat} {P : List (List Nat)} {w : World} (hP : Bl w 0 la m P) (h48 : ∀ p ∈ P, p.length = 48) (hg : g < gtop) (hm : m ≤ 1000) :
    Calls Try.prog 28 #[.int .i64 (g : Int), .slice la m c] w fun e w' => ∃ a cap, e = .returned (.slice a m cap) ∧ BlU w' w.heap.size a m (bkL g P) ∧ Kept w w' none := by
  have HB := Hid.mk' hP
  have HS := Hid.mk' hP.size
  have H48 := Hid.mk' h48
  have hg2 : g < 4611686018427387904 := hg
  have HPU := Hid.mk' (fun w' => put_yes g 8 w' (by omega) (by omega) (by omega) (by show g / 256 ^ 8 = 0; omega))
  have HLB := Hid.mk' (leb_length 8 g)
  have hmk := run_make_row' (P := Try.prog) 64 22 (.slice none 0 0) 24 Try.uB2 Try.infoB2 rfl .i64 .i64 m (by omega) (by omega)
  have HBL : Hid (∀ k, k < m → (bkL g P).getD k [] = bkK g (P.getD k [])) := Hid.mk' (fun k hk => by unfold bkL; simp [HS.out, hk])
  have HP8 : Hid (∀ k, k < m → (P.getD k []).length = 48) := Hid.mk' (fun k hk => by
    have hk' : k < P.length := by rw [HS.out]; exact hk
    have : P.getD k [] = P[k] := by simp [hk']
    rw [this]
    exact H48.out _ (List.getElem_mem hk'))
  clear hP h48 hg
  go_enter Try.func28, Try.ntmps28
  go_wp2_with (go_at_call 46; refine (HPU.out _).mono ?_; rintro e w1 ⟨rfl, hb1, hk1, hz1⟩; have B1 := Hid.mk' hb1; have K1 := Hid.mk' hk1; have HGn : Hid (w.heap.size < w1.heap.size) := Hid.mk' (by omega); clear hb1 hk1 hz1)
  have hF0 : FlU w (w1.alloc (.cells (madeCells #[.slice none 0 0] m) 22)) w1.heap.size m 0 (bkL g P) := ⟨⟨⟨fun _ => (none, 0), (World.rowIs_made w1 (.slice none 0 0) m 22).congr (fun i hi => by simp), fun i hi => absurd hi (by omega)⟩, K1.out.tr (Kept.alloc _ _ _ _ _), K1.out.size⟩, fun i hi => absurd hi (by omega)⟩
  have hN0 : Come (w1.alloc (.cells (madeCells #[.slice none 0 0] m) 22)) (some ⟨w.heap.size, 0, none⟩) 8 8 (leb 8 g) := ⟨B1.out.kept (Kept.alloc _ _ _ _ _), fun e => (nomatch e), Nat.le_refl _, by omega⟩
  have F0 := Hid.mk' hF0
  have N0 := Hid.mk' hN0
  clear hF0 hN0 hmk
  obtain ⟨WA, hWA⟩ : ∃ WA, (w1.alloc (.cells (madeCells #[.slice none 0 0] m) 22)) = WA := ⟨_, rfl⟩
  rw [hWA] at F0 N0 ⊢
  clear hWA
  obtain ⟨G, hG⟩ : ∃ G, w1.heap.size = G := ⟨_, rfl⟩
  rw [hG] at F0 HGn ⊢
  clear hG
  go_loopw [21] (fun i wr => ∃ k : Nat, k ≤ m ∧ i = .int .i64 k ∧ FlU w wr G m k (bkL g P) ∧ Kept WA wr (some G)) (fun i _ => m - (intOf i).toNat)
  case atStart => exact ⟨0, Nat.zero_le _, rfl, F0.out, Kept.refl _ _⟩
  case round =>
    obtain ⟨k, hk, rfl, hF, hkr⟩ := hrel
    have HF := Hid.mk' hF
    have HK := Hid.mk' hkr
    clear hF hkr
    by_cases hlt : k < m
    · obtain ⟨b1, o1, a1, c1, rfl, hb1, p1, hC1⟩ := (HB.out.kept HF.out.fl.kept).get hlt
      rw [HP8.out k hlt] at p1 hC1
      have hNr : Come wr (some ⟨w.heap.size, 0, none⟩) 8 8 (leb 8 g) := N0.out.kptR HK.out (fun x hx => by cases hx; have := HGn.out; show w.heap.size ≠ G; omega)
      have HC := Hid.mk' (conc3_any hNr hC1)
      have HBk := Hid.mk' (HBL.out k hlt)
      have HPL := Hid.mk' hC1.by_.lt
      clear hC1 hNr
      generalize P.getD k [] = p at *
      obtain ⟨r, hr1, hr2⟩ := HF.out.fl.ex
      have HR1 := Hid.mk' hr1
      clear hr1 hr2
      go_wp2_with (go_at_call 47; refine HC.out.mono ?_; rintro e w3 ⟨a3, cap3, rfl, hm3, hk3⟩; have M3 := Hid.mk' hm3; have K3 := Hid.mk' hk3; have hrow := HR1.out.of_block (hk3.block G HR1.out.lt (by simp)); have hcl := hrow.cell hlt; have hfr := hrow.frozen k; rw [if_neg (Nat.lt_irrefl k)] at hcl; clear hm3 hk3 hrow)
      go_roundw
      case rel =>
        have hz := HK.out.size
        refine ⟨k + 1, by omega, by go_num, HF.out.put K3.out (by rw [HBk.out]; exact mineCome M3.out (bk_lt HPL.out)) (fun x hx => ?_) (mine_un M3.out (bk_lt HPL.out)) hlt, ?_⟩
        · have := mineAt M3.out x hx
          have := HR1.out.lt
          omega
        · exact kept_trR (kept_trR HK.out (K3.out.sm _)) (dkept_set _ _ _ _)
      case measure => simp [intOf]; omega
    · obtain rfl : k = m := by omega
      go_wp2
      go_ret
      refine ⟨_, _, rfl, HF.out.blU (by unfold bkL; rw [List.length_map, HS.out]) (fun p hp => ?_) hm, HF.out.fl.kept⟩
      obtain ⟨q, hq, rfl⟩ := List.mem_map.1 hp
      exact bk_len (H48.out q hq)

theorem blocksOfU_anyI {la : Option Addr} {m c : Nat} {g : Int} {P : List (List Nat)} {w : World} (hP : Bl w 0 la m P) (h48 : ∀ p ∈ P, p.length = 48) (h0 : 0 ≤ g) (hg : g < 4611686018427387904) (hm : m ≤ 1000) :
    Calls Try.prog 28 #[.int .i64 g, .slice la m c] w fun e w' => ∃ a cap, e = .returned (.slice a m cap) ∧ BlU w' w.heap.size a m (bkL g.toNat P) ∧ Kept w w' none := by
  obtain ⟨k, rfl⟩ := Int.eq_ofNat_of_zero_le h0
  exact blocksOfU_any hP h48 (by unfold gtop; omega) hm
/-- A list of writes, at block H or behind it, that may be written. -/
structure PwU (w : World) (H : Nat) (la : Option Addr) (m : Nat) (l : List Pw) : Prop where
  size : l.length = m
  max : m ≤ 9223372036854775807
  at_ : 0 < m → ∃ b off, la = some ⟨b, off, none⟩ ∧ H ≤ b ∧ b < w.heap.size ∧ ∀ i p, l[i]? = some p → ∃ a c, w.cell? ⟨b, off + i * 2, none⟩ = some (.int .i64 p.n) ∧ w.cell? ⟨b, off + i * 2 + 1, none⟩ = some (.slice a p.data.length c) ∧ Come w a p.data.length c p.data ∧ ∀ x, a = some x → H ≤ x.block ∧ x.block < w.heap.size ∧ x.block ≠ b ∧ ∀ j, w.frozen? ⟨x.block, j, none⟩ = false
theorem PwU.pwF {w : World} {H : Nat} {la : Option Addr} {m : Nat} {l : List Pw} (h : PwU w H la m l) : PwF w H la m l := by
  refine ⟨h.size, h.max, fun hp => ?_⟩
  obtain ⟨b, off, e, h1, h2, hc⟩ := h.at_ hp
  refine ⟨b, off, e, h1, h2, fun i p hi => ?_⟩
  obtain ⟨a, c, q1, q2, q3, q4⟩ := hc i p hi
  exact ⟨a, c, q1, q2, q3, fun x hx => (q4 x hx).1⟩
theorem PwU.nil (w : World) (H : Nat) (la : Option Addr) : PwU w H la 0 [] := ⟨rfl, by omega, fun h => absurd h (by omega)⟩
theorem PwU.kept {w w' : World} {H : Nat} {la : Option Addr} {m : Nat} {l : List Pw} (h : PwU w H la m l) (k : Kept w w' none) : PwU w' H la m l := by
  refine ⟨h.size, h.max, fun hp => ?_⟩
  obtain ⟨b, off, rfl, hH, hb, hc⟩ := h.at_ hp
  refine ⟨b, off, rfl, hH, Nat.lt_of_lt_of_le hb k.size, fun i p hp => ?_⟩
  obtain ⟨a, c, h1, h2, h4, h5⟩ := hc i p hp
  exact ⟨a, c, (cell_kpt k hb).trans h1, (cell_kpt k hb).trans h2, h4.kpt k, fun x hx => ⟨(h5 x hx).1, Nat.lt_of_lt_of_le (h5 x hx).2.1 k.size, (h5 x hx).2.2.1, fun j => (frozU k (h5 x hx).2.1 (by simp)).trans ((h5 x hx).2.2.2 j)⟩⟩
set_option maxRecDepth 100000 in
set_option maxHeartbeats 4000000 in
theorem putsU_any {g : Int} {md : Nat} {pa : Option Addr} {pn pc : Nat} {F : Int} {ba : Option Addr} {bn bc : Nat} {la : Option Addr} {m c H : Nat} {B : List (List Nat)} {w : World} (hB : BlU w H la m B) (h64 : ∀ p ∈ B, p.length = 64) (h1 : 1 ≤ m) (h2 : m ≤ 40) (hH : H ≤ w.heap.size) (hF0 : 0 ≤ F) (hF1 : F ≤ 1000) :
    Calls Try.prog 27 #[slV g md pa pn pc F ba bn bc, .slice la m c] w fun e w' => ∃ b, e = .returned (.slice (some ⟨b, 0, none⟩) m m) ∧ PwU w' H (some ⟨b, 0, none⟩) m (pwL F B) ∧ Kept w w' none := by
  obtain ⟨b0, o0, rfl, hb0, r, hr⟩ := hB.skol h64 h1
  have hsz := hB.size
  have H64 := Hid.mk' h64
  obtain ⟨WA, hWA⟩ : ∃ WA, w.alloc (.cells #[.int .i64 g, .int .u8 (md : Int), .slice pa pn pc, .int .i64 F, .slice ba bn bc] 66) = WA := ⟨_, rfl⟩
  have hkA : Kept w WA none := by rw [← hWA]; exact Kept.alloc _ _ _ _ _
  have hzA : WA.heap.size = w.heap.size + 1 := by rw [← hWA]; simp
  have hRA : WA.rowIs w.heap.size 66 5 (f5 (.int .i64 g) (.int .u8 (md : Int)) (.slice pa pn pc) (.int .i64 F) (.slice ba bn bc)) := by rw [← hWA]; exact row5 _ _ _ _ _ _ _
  obtain ⟨i0, hi0, hz0, hz1, hz2⟩ := info_parts (show (Try.prog.info? 50).map (fun i => (i.zero, i.size, i.bytes)) = some (some (.agg #[.int .i64 0, .slice none 0 0]), 2, 32) from by kernel_rfl)
  have hmk := run_make (P := Try.prog) WA 40 50 i0 _ (by kernel_rfl) hi0 hz0 .i64 .i64 m m (by omega) (Int.le_refl _) (by rw [hz2]; omega) (by omega)
  rw [hz1, Int.toNat_natCast] at hmk
  have hrow0 := madeRow WA (Value.cells (.agg #[.int .i64 0, .slice none 0 0])) (m * 2) 50
  have hk0 : Kept WA (WA.alloc (.cells (madeCells (Value.cells (.agg #[.int .i64 0, .slice none 0 0])) (m * 2)) 50)) none := Kept.alloc _ _ _ _ _
  generalize hW0 : WA.alloc (.cells (madeCells (Value.cells (.agg #[.int .i64 0, .slice none 0 0])) (m * 2)) 50) = W0 at *
  have HR := Hid.mk' hr
  have HRow := Hid.mk' hrow0
  have HK0 := Hid.mk' hk0
  have HKA := Hid.mk' hkA
  have HRA := Hid.mk' hRA
  have HZ := Hid.mk' hzA
  have HSZ := Hid.mk' hsz
  have HWA := Hid.mk' hWA
  clear hr hrow0 hk0 hkA hRA hzA hsz hWA hB h64 hW0
  go_enter Try.func27, Try.ntmps27
  rw [← HWA.out] at hmk
  go_wp2
  go_loopw [13] (fun i wr => ∃ k : Nat, k ≤ m ∧ i = .int .i64 k ∧ (∃ f, wr.rowIs (w.heap.size + 1) 50 (m * 2) f ∧ ∀ i : Nat, i < k → f (i * 2) = .int .i64 (F + (i : Int)) ∧ f (i * 2 + 1) = .slice (r i).1 64 (r i).2) ∧ Kept W0 wr (some (w.heap.size + 1))) (fun i _ => m - (intOf i).toNat)
  case atStart => exact ⟨0, Nat.zero_le _, rfl, ⟨_, by rw [← HZ.out]; exact HRow.out, fun i hi => absurd hi (by omega)⟩, Kept.refl _ _⟩
  case round =>
    obtain ⟨k, hk, rfl, ⟨f, hrow, hf⟩, hkr⟩ := hrel
    have hkw : Kept w wr none := (HKA.out.tr HK0.out).newRow hkr (fun i e => by cases e; omega)
    have HROW := Hid.mk' hrow
    have HF := Hid.mk' hf
    have HK := Hid.mk' hkr
    have HKW := Hid.mk' hkw
    have hX := HRA.out.of_block ((hkr.block _ (by have := HK0.out.size; have := HZ.out; omega) (fun e => by injection e with e; omega)).trans (HK0.out.block _ HRA.out.lt (by simp)))
    have x3 := hX.cell (i := 3) (by omega)
    simp [f5] at x3
    clear hf hX
    by_cases hlt : k < m
    · obtain ⟨p1, _, _⟩ := HR.out k hlt
      have p2 := (cell_kpt hkw hb0).trans p1
      have k0 := hrow.cell (i := k * 2) (by omega)
      have z0 := hrow.frozen (k * 2)
      have k1 := hrow.cell (i := k * 2 + 1) (by omega)
      have z1 := hrow.frozen (k * 2 + 1)
      clear p1 hkw hkr hrow
      generalize hra : (r k).1 = ra at *
      generalize hrb : (r k).2 = rb at *
      have HRR := Hid.mk' (And.intro hra hrb)
      clear hra hrb
      go_wp2
      go_roundw
      case rel =>
        refine ⟨k + 1, by omega, by go_num, ⟨_, (HROW.out.set (k * 2) _).set (k * 2 + 1) _, fun i hi => ?_⟩, kept_trR (kept_trR HK.out (dkept_set _ _ _ _)) (dkept_set _ _ _ _)⟩
        by_cases hik : i = k
        · subst hik
          simp [HRR.out.1, HRR.out.2]
        · obtain ⟨q1, q2⟩ := HF.out i (by omega)
          have e1 : ¬ i * 2 = k * 2 + 1 := by omega
          have e2 : ¬ i * 2 = k * 2 := by omega
          have e3 : ¬ i * 2 + 1 = k * 2 := by omega
          have e4 : ¬ i * 2 + 1 = k * 2 + 1 := by omega
          simp only [if_neg e1, if_neg e2, if_neg e3, if_neg e4]
          exact ⟨q1, q2⟩
      case measure => simp [intOf]; omega
    · obtain rfl : k = m := by omega
      go_wp2
      go_ret
      refine ⟨w.heap.size + 1, rfl, ⟨by rw [pw_len, HSZ.out], by omega, fun _ => ⟨_, 0, rfl, by omega, HROW.out.lt, fun i p hp => ?_⟩⟩, HKW.out⟩
      have hi : i < k := by
        have := (List.getElem?_eq_some_iff.1 hp).1
        rw [pw_len, HSZ.out] at this
        exact this
      have hil : i < B.length := by rw [HSZ.out]; exact hi
      have e : p = ⟨F + (i : Int), B.getD i []⟩ := by
        unfold pwL at hp
        simp [hil] at hp
        rw [← hp]
        simp [hil]
      subst e
      obtain ⟨f1, f2⟩ := HF.out i hi
      obtain ⟨_, c1, c2⟩ := HR.out i hi
      have hl : (B.getD i []).length = 64 := by
        have e2 : B.getD i [] = B[i] := by simp [hil]
        rw [e2]
        exact H64.out _ (List.getElem_mem hil)
      have g0 := HROW.out.cell (i := i * 2) (by omega)
      have g1 := HROW.out.cell (i := i * 2 + 1) (by omega)
      rw [f1] at g0
      rw [f2] at g1
      dsimp only
      rw [hl, Nat.zero_add]
      exact ⟨_, _, g0, g1, c1.kpt HKW.out, fun x hx => ⟨(c2 x hx).1, Nat.lt_of_lt_of_le (c2 x hx).2.1 HKW.out.size, by have := (c2 x hx).2.1; omega, fun j => (frozU HKW.out (c2 x hx).2.1 (by simp)).trans ((c2 x hx).2.2 j)⟩⟩

/-- What Put answers, in memory that may be written. -/
def PtU (w : World) (L : List Nat) (md : Nat) (l : List Pl) (e : Ending) (w' : World) : Prop := ∃ pa cap, e = .returned (.tuple #[.slice pa (ptL L md l).length cap, .int .i64 (ptE L md l)]) ∧ PwU w' w.heap.size pa (ptL L md l).length (ptL L md l) ∧ Kept w w' none
theorem pt_u {w w' : World} {L : List Nat} {md : Nat} {l : List Pl} {e : Ending} (h0 : ptE L md l ≠ 0) (h : PtP w L md l e w') : PtU w L md l e w' := by
  obtain ⟨pa, cap, he, hp, hk⟩ := h
  refine ⟨pa, cap, he, ?_, hk⟩
  have e : ptL L md l = [] := by unfold ptL; rw [if_neg h0]
  rw [e]
  exact PwU.nil _ _ _
set_option maxRecDepth 100000 in
set_option maxHeartbeats 2000000 in
theorem put_okU {a : Option Addr} {n c : Nat} {L : List Nat} {md : Nat} {la : Option Addr} {ln lc : Nat} {l : List Pl} {w : World} (hC : Come w a n c L) (hask : askE n = 0) (hP : Plans w la ln lc l) (hm : md ≤ 3) (hp : pieE md l (manK L.length) = 0) (hgt : ptN L < gtop) : Calls Try.prog 11 #[dvV a n c, .int .u8 (md : Int), .slice la ln lc] w (PtU w L md l) := by
  have hs := hC.by_.size
  have HS := Hid.mk' (fun w' (hk : Kept w w' none) => slots_ok (hC.kpt hk) hask)
  obtain ⟨qa1, qa2, qa3, qa4, qa5, qa6, qa7⟩ := ask_ok hask
  unfold SlsP at HS
  have hwle : wrI L ≤ 1 := by unfold wrI; split <;> omega
  have hH64 : ∀ p ∈ ptB L, p.length = 64 := slt_64 (by rw [hs]; exact hask) hwle
  have HGE := Hid.mk' (fun (w' : World) (g' : Int) (m' : Nat) (pa' : Option Addr) (pn' pc' : Nat) (ba' : Option Addr) (bc' : Nat) (hb : Bl w' 0 ba' (manK L.length) (ptB L)) => gen_any (w := w') (g := g') (m' := 0) (m := m') (pa := pa') (pn := pn') (pc := pc') (f := ((wrI L * manK L.length : Nat) : Int)) (bc := bc') hb hH64 (by rw [hs]; exact qa5) (g0 := (ctK L).gen) (by unfold ctK; split <;> exact kep_lt _))
  have hwi0 : ((wrI L * manK L.length : Nat) : Int) ≤ 1000 := by
    have : wrI L * manK L.length ≤ 1 * 32 := Nat.mul_le_mul hwle (by rw [hs]; exact qa5)
    omega
  have hwi1 : (0 : Int) ≤ ((wrI L * manK L.length : Nat) : Int) := by omega
  have hpE : ptE L md l = if md ≤ 3 then (if pieE md l (manK L.length) = 0 then (if ptN L < gtop then 0 else 190) else pieE md l (manK L.length)) else 2 := by unfold ptE; rw [hs, if_pos hask]
  rw [if_pos hm, if_pos hp, if_pos hgt] at hpE
  have hWE := ptW_eq hp
  obtain ⟨g, hg⟩ : ∃ g : Int, ((ctK L).gen : Int) = g := ⟨_, rfl⟩
  obtain ⟨gm, hgm⟩ : ∃ gm, (ctK L).mode = gm := ⟨_, rfl⟩
  obtain ⟨wi, hwi⟩ : ∃ wi : Int, ((wrI L * manK L.length : Nat) : Int) = wi := ⟨_, rfl⟩
  obtain ⟨many, hmy⟩ : ∃ many, manK L.length = many := ⟨_, rfl⟩
  rw [hwi] at HS HGE hwi0 hwi1
  rw [hmy, hg, hgm] at HS
  rw [hmy, hg] at HGE
  rw [← hs, hmy] at qa4 qa5
  rw [hwi, hmy] at hWE
  rw [hmy] at hp
  have HPI := Hid.mk' (fun (w' : World) (hk : Kept w w' none) => pieces_any (m := md) (many := many) (hP.kept hk) hm qa4 qa5)
  have HPE := Hid.mk' hp
  have HPL : Hid ((pieL md l many).length = many) := Hid.mk' (pie_len hp)
  obtain ⟨N, hN⟩ : ∃ N : Int, (ptN L : Int) = N := ⟨_, rfl⟩
  have HGR : Hid (gnR (ctK L).gen (ptB L) = N) := Hid.mk' ((if_pos hgt).trans hN)
  have HGX : Hid (gnE (ctK L).gen (ptB L) = 0) := Hid.mk' (if_pos hgt)
  have HPT := Hid.mk' hpE
  have hNt : N.toNat = ptN L := by omega
  have hN0 : 0 ≤ N := by omega
  have hN1 : N < 4611686018427387904 := by unfold gtop at hgt; omega
  have HNN := Hid.mk' (And.intro hN0 hN1)
  have HNT := Hid.mk' hNt
  have HWE := Hid.mk' hWE
  have HMY := Hid.mk' hmy
  have HWI := Hid.mk' (And.intro hwi1 hwi0)
  clear hC hs hg hgm hwi hmy hpE hH64 qa1 qa2 qa3 qa6 qa7 hask hP hp hgt hN hNt hN0 hN1 hWE hwi0 hwi1
  have hm' : (md : Int) ≤ 3 := by omega
  go_enter Try.func11, Try.ntmps11
  go_wp2_with (first
    | (have hgo := TR3; clear hgo; go_at_call 26; refine (HGE.out w3 g' m' pa' pn' pc' ba' bc' ((B2.out.kept K3.out).mono (Nat.zero_le _))).mono ?_; rw [HGR.out, HGX.out]; rintro e w4 ⟨rfl, hk4⟩; have K4 := Hid.mk' (K3.out.tr hk4); have TR4 := Hid.mk' (rowK TR3.out.2 hk4); have B4 := Hid.mk' (B3.out.kept hk4); clear hk4 TR3)
    | (have hgo := TR; clear hgo; go_at_call 25; refine (HPI.out _ (K2.out.tr KV.out)).mono ?_; unfold PieP; rw [HPE.out, HPL.out]; rintro e w3 ⟨a3, c3, rfl, hb3, hk3⟩; have B3 := Hid.mk' hb3; have K3 := Hid.mk' (KV.out.tr hk3); have TR3 := Hid.mk' (And.intro (rowK TR.out.1 hk3) (rowK TR.out.2 hk3)); have tt0 : w3.cell? ⟨w2.heap.size, 0, none⟩ = some (.int .i64 g) := TR3.out.1.cell (i := 0) (by omega); have tt1 : w3.cell? ⟨w2.heap.size, 1, none⟩ = some (.int .u8 (gm : Int)) := TR3.out.1.cell (i := 1) (by omega); have tt2 : w3.cell? ⟨w2.heap.size, 2, none⟩ = some (.slice pa pn pc) := TR3.out.1.cell (i := 2) (by omega); have tt3 : w3.cell? ⟨w2.heap.size, 3, none⟩ = some (.int .i64 fc) := TR3.out.1.cell (i := 3) (by omega); have tt4 : w3.cell? ⟨w2.heap.size, 4, none⟩ = some (.slice ba bn bc) := TR3.out.1.cell (i := 4) (by omega); have ss0 : w3.cell? ⟨w2.heap.size + 1, 0, none⟩ = some (.int .i64 g') := TR3.out.2.cell (i := 0) (by omega); have ss1 : w3.cell? ⟨w2.heap.size + 1, 1, none⟩ = some (.int .u8 (m' : Int)) := TR3.out.2.cell (i := 1) (by omega); have ss2 : w3.cell? ⟨w2.heap.size + 1, 2, none⟩ = some (.slice pa' pn' pc') := TR3.out.2.cell (i := 2) (by omega); have ss3 : w3.cell? ⟨w2.heap.size + 1, 3, none⟩ = some (.int .i64 wi) := TR3.out.2.cell (i := 3) (by omega); have ss4 : w3.cell? ⟨w2.heap.size + 1, 4, none⟩ = some (.slice ba' many bc') := TR3.out.2.cell (i := 4) (by omega); clear hb3 hk3 TR)
    | (go_at_call 21; refine (HS.out _ (Kept.alloc _ _ _ _ _)).mono ?_; rintro e w2 ⟨pa, pn, pc, fc, ba, bn, bc, g', m', pa', pn', pc', ba', bc', rfl, hp2, hb2, hk2⟩; have B2 := Hid.mk' hb2; have K2 : Hid (Kept w w2 none) := Hid.mk' ((Kept.alloc _ _ _ _ _).tr hk2); have KV : Hid (Kept w2 ((w2.alloc (.cells #[(.int .i64 g), (.int .u8 (gm : Int)), (.slice pa pn pc), (.int .i64 fc), (.slice ba bn bc)] 66)).alloc (.cells #[(.int .i64 g'), (.int .u8 (m' : Int)), (.slice pa' pn' pc'), (.int .i64 wi), (.slice ba' many bc')] 66)) none) := Hid.mk' ((Kept.alloc _ _ _ _ _).tr (Kept.alloc _ _ _ _ _)); have TR := Hid.mk' (two_rowsV w2 (.int .i64 g) (.int .u8 (gm : Int)) (.slice pa pn pc) (.int .i64 fc) (.slice ba bn bc) (.int .i64 g') (.int .u8 (m' : Int)) (.slice pa' pn' pc') (.int .i64 wi) (.slice ba' many bc')); have t0 : ((w2.alloc (.cells #[(.int .i64 g), (.int .u8 (gm : Int)), (.slice pa pn pc), (.int .i64 fc), (.slice ba bn bc)] 66)).alloc (.cells #[(.int .i64 g'), (.int .u8 (m' : Int)), (.slice pa' pn' pc'), (.int .i64 wi), (.slice ba' many bc')] 66)).cell? ⟨w2.heap.size, 0, none⟩ = some (.int .i64 g) := TR.out.1.cell (i := 0) (by omega); have t1 : ((w2.alloc (.cells #[(.int .i64 g), (.int .u8 (gm : Int)), (.slice pa pn pc), (.int .i64 fc), (.slice ba bn bc)] 66)).alloc (.cells #[(.int .i64 g'), (.int .u8 (m' : Int)), (.slice pa' pn' pc'), (.int .i64 wi), (.slice ba' many bc')] 66)).cell? ⟨w2.heap.size, 1, none⟩ = some (.int .u8 (gm : Int)) := TR.out.1.cell (i := 1) (by omega); have t2 : ((w2.alloc (.cells #[(.int .i64 g), (.int .u8 (gm : Int)), (.slice pa pn pc), (.int .i64 fc), (.slice ba bn bc)] 66)).alloc (.cells #[(.int .i64 g'), (.int .u8 (m' : Int)), (.slice pa' pn' pc'), (.int .i64 wi), (.slice ba' many bc')] 66)).cell? ⟨w2.heap.size, 2, none⟩ = some (.slice pa pn pc) := TR.out.1.cell (i := 2) (by omega); have t3 : ((w2.alloc (.cells #[(.int .i64 g), (.int .u8 (gm : Int)), (.slice pa pn pc), (.int .i64 fc), (.slice ba bn bc)] 66)).alloc (.cells #[(.int .i64 g'), (.int .u8 (m' : Int)), (.slice pa' pn' pc'), (.int .i64 wi), (.slice ba' many bc')] 66)).cell? ⟨w2.heap.size, 3, none⟩ = some (.int .i64 fc) := TR.out.1.cell (i := 3) (by omega); have t4 : ((w2.alloc (.cells #[(.int .i64 g), (.int .u8 (gm : Int)), (.slice pa pn pc), (.int .i64 fc), (.slice ba bn bc)] 66)).alloc (.cells #[(.int .i64 g'), (.int .u8 (m' : Int)), (.slice pa' pn' pc'), (.int .i64 wi), (.slice ba' many bc')] 66)).cell? ⟨w2.heap.size, 4, none⟩ = some (.slice ba bn bc) := TR.out.1.cell (i := 4) (by omega); have s0 : ((w2.alloc (.cells #[(.int .i64 g), (.int .u8 (gm : Int)), (.slice pa pn pc), (.int .i64 fc), (.slice ba bn bc)] 66)).alloc (.cells #[(.int .i64 g'), (.int .u8 (m' : Int)), (.slice pa' pn' pc'), (.int .i64 wi), (.slice ba' many bc')] 66)).cell? ⟨w2.heap.size + 1, 0, none⟩ = some (.int .i64 g') := TR.out.2.cell (i := 0) (by omega); have s1 : ((w2.alloc (.cells #[(.int .i64 g), (.int .u8 (gm : Int)), (.slice pa pn pc), (.int .i64 fc), (.slice ba bn bc)] 66)).alloc (.cells #[(.int .i64 g'), (.int .u8 (m' : Int)), (.slice pa' pn' pc'), (.int .i64 wi), (.slice ba' many bc')] 66)).cell? ⟨w2.heap.size + 1, 1, none⟩ = some (.int .u8 (m' : Int)) := TR.out.2.cell (i := 1) (by omega); have s2 : ((w2.alloc (.cells #[(.int .i64 g), (.int .u8 (gm : Int)), (.slice pa pn pc), (.int .i64 fc), (.slice ba bn bc)] 66)).alloc (.cells #[(.int .i64 g'), (.int .u8 (m' : Int)), (.slice pa' pn' pc'), (.int .i64 wi), (.slice ba' many bc')] 66)).cell? ⟨w2.heap.size + 1, 2, none⟩ = some (.slice pa' pn' pc') := TR.out.2.cell (i := 2) (by omega); have s3 : ((w2.alloc (.cells #[(.int .i64 g), (.int .u8 (gm : Int)), (.slice pa pn pc), (.int .i64 fc), (.slice ba bn bc)] 66)).alloc (.cells #[(.int .i64 g'), (.int .u8 (m' : Int)), (.slice pa' pn' pc'), (.int .i64 wi), (.slice ba' many bc')] 66)).cell? ⟨w2.heap.size + 1, 3, none⟩ = some (.int .i64 wi) := TR.out.2.cell (i := 3) (by omega); have s4 : ((w2.alloc (.cells #[(.int .i64 g), (.int .u8 (gm : Int)), (.slice pa pn pc), (.int .i64 fc), (.slice ba bn bc)] 66)).alloc (.cells #[(.int .i64 g'), (.int .u8 (m' : Int)), (.slice pa' pn' pc'), (.int .i64 wi), (.slice ba' many bc')] 66)).cell? ⟨w2.heap.size + 1, 4, none⟩ = some (.slice ba' many bc') := TR.out.2.cell (i := 4) (by omega); clear hp2 hb2 hk2))
  have hTR := rowK TR4.out (kept_drw w4 none)
  refine wp_region_held_drew (S := fun w' => w'.rowIs (w2.heap.size + 1) 66 5 (f5 (.int .i64 g') (.int .u8 (m' : Int)) (.slice pa' pn' pc') (.int .i64 wi) (.slice ba' many bc'))) (by kernel_rfl) hTR (fun hHeld => ?_)
  have K5 := Hid.mk' (K4.out.tr (kept_drw w4 none))
  have B5 := Hid.mk' (B4.out.kept (kept_drw w4 none))
  obtain ⟨w5, hw5⟩ : ∃ v, w4.drew = v := ⟨_, rfl⟩
  rw [hw5] at hHeld K5 B5 ⊢
  clear hw5 hTR
  refine hold_take (i := 0) (v := ?rv101) rfl rfl (by kernel_rfl) (by kernel_rfl) (by kernel_rfl) (fun _ _ _ h => h) (Or.inl ⟨by rfl, ?rhy101⟩) hHeld ?rrest101
  case rhy101 => (intro w hSw; have p0 := hSw.cell (i := 0) (by omega); have p1 := hSw.cell (i := 1) (by omega); have p2 := hSw.cell (i := 2) (by omega); have p3 := hSw.cell (i := 3) (by omega); have p4 := hSw.cell (i := 4) (by omega); clear hSw; simp [f5] at p0 p1 p2 p3 p4; first | (go_simp; done) | (go_simp; with_reducible rfl))
  try simp only [List.setIfInBounds_toArray, List.set_cons_zero, List.set_cons_succ]
  refine hold_take (i := 1) (v := ?rv102) rfl rfl (by kernel_rfl) (by kernel_rfl) (by kernel_rfl) (fun _ _ _ h => h) (Or.inl ⟨by rfl, ?rhy102⟩) hHeld ?rrest102
  case rhy102 => (intro w hSw; clear hSw; first | (go_simp; done) | (go_simp; with_reducible rfl))
  try simp only [List.setIfInBounds_toArray, List.set_cons_zero, List.set_cons_succ]
  refine hold_take (i := 2) (v := ?rv103) rfl rfl (by kernel_rfl) (by kernel_rfl) (by kernel_rfl) (fun _ _ _ h => h) (Or.inl ⟨by rfl, ?rhy103⟩) hHeld ?rrest103
  case rhy103 => (intro w hSw; clear hSw; first | (go_simp; done) | (go_simp; with_reducible rfl))
  try simp only [List.setIfInBounds_toArray, List.set_cons_zero, List.set_cons_succ]
  refine wpAnyH_ready (rs := [3]) (by kernel_rfl) (by simp) ?_
  refine AllReadyH.cons rfl (fun K hK => ?_) AllReadyH.nil
  go_simp
  go_wp2_with (go_at_call 28; refine (blocksOfU_anyI (B5.out.mono (Nat.zero_le _)) pie_48 HNN.out.1 HNN.out.2 (by omega)).mono ?_; rintro e w6 ⟨a6, c6, rfl, hb6, hk6⟩)
  have hnew := rowK hHeld hk6
  have K6 := Hid.mk' (K5.out.tr hk6)
  have B6 := Hid.mk' hb6
  have Z5 := Hid.mk' K5.out.size
  have hkk := hk6.size
  have Z6 := Hid.mk' hkk
  refine hK.out _ _ hnew (fun hHeld => ?_)
  clear hK K hnew hk6 hb6 hkk
  refine wpAnyH_ready (rs := [4]) (by kernel_rfl) (by simp) ?_
  refine AllReadyH.cons rfl (fun K hK => ?_) AllReadyH.nil
  go_simp
  go_wp2_with (go_at_call 27; refine (putsU_any (H := w.heap.size) (B6.out.mono (by have := K2.out.size; have := Z5.out; omega)) (fun p hp => by (obtain ⟨q, hq, rfl⟩ := List.mem_map.1 hp; exact bk_len (pie_48 q hq))) qa4 (by omega) (by have := K2.out.size; have := Z5.out; have := Z6.out; omega) HWI.out.1 HWI.out.2).mono ?_; rintro e w7 ⟨b7, rfl, hp7, hk7⟩)
  have hnew := rowK hHeld hk7
  have K7 := Hid.mk' (K6.out.tr hk7)
  have P7 := Hid.mk' hp7
  refine hK.out _ _ hnew (fun hHeld => ?_)
  clear hK K hnew hk7 hp7
  refine hold_take (i := 5) (v := ?rv104) rfl rfl (by kernel_rfl) (by kernel_rfl) (by kernel_rfl) (fun _ _ _ h => h) (Or.inl ⟨by rfl, ?rhy104⟩) hHeld ?rrest104
  case rhy104 => (intro w hSw; clear hSw; first | (go_simp; done) | (go_simp; with_reducible rfl))
  try simp only [List.setIfInBounds_toArray, List.set_cons_zero, List.set_cons_succ]
  refine hold_take (i := 6) (v := ?rv105) rfl rfl (by kernel_rfl) (by kernel_rfl) (by kernel_rfl) (fun _ _ _ h => h) (Or.inl ⟨by rfl, ?rhy105⟩) hHeld ?rrest105
  case rhy105 => (intro w hSw; clear hSw; first | (go_simp; done) | (go_simp; with_reducible rfl))
  try simp only [List.setIfInBounds_toArray, List.set_cons_zero, List.set_cons_succ]
  refine wpAnyH_done (by kernel_rfl) ?_ _
  go_wp2
  go_ret2
  have hP7 := P7.out
  rw [HNT.out, HWE.out] at hP7
  have hL : ptL L md l = ptW L md l := by unfold ptL; rw [HPT.out, if_pos rfl]
  refine ⟨some ⟨b7, 0, none⟩, many, ?_, ?_, K2.out.tr K7.out⟩
  · rw [hL, ptW_len, HMY.out, HPT.out]; rfl
  · rw [hL, ptW_len, HMY.out]
    exact hP7
theorem sputU_any {a : Option Addr} {n c : Nat} {L : List Nat} {md : Nat} {la : Option Addr} {ln lc : Nat} {l : List Pl} {w : World} (hC : Come w a n c L) (hP : Plans w la ln lc l) : Calls Try.prog 11 #[dvV a n c, .int .u8 (md : Int), .slice la ln lc] w (PtU w L md l) := by
  by_cases h0 : ptE L md l = 0
  · have h : askE n = 0 := by
      cases Decidable.em (askE n = 0) with
      | inl q => exact q
      | inr q => unfold ptE at h0; rw [hC.by_.size, if_neg q] at h0; exact absurd h0 q
    have h2 := h0
    unfold ptE at h2
    rw [hC.by_.size, if_pos h] at h2
    by_cases hm : md ≤ 3
    · rw [if_pos hm] at h2
      by_cases hp : pieE md l (manK n) = 0
      · rw [if_pos hp] at h2
        by_cases hg : ptN L < gtop
        · exact put_okU hC h hP hm (by rw [hC.by_.size]; exact hp) hg
        · rw [if_neg hg] at h2; exact absurd h2 (by decide)
      · rw [if_neg hp] at h2; exact absurd h2 hp
    · rw [if_neg hm] at h2; exact absurd h2 (by decide)
  · exact (sput_any hC hP).mono (fun e w' h => pt_u h0 h)

end Go.Proofs.Ytlabjamkaebnjaa
