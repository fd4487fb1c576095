/-
  THE CONTRACT of store's slotsOf (made by a program).
-/
import Derived.Test.YtlabjamkaebnjaaStoB
import Derived.Test.YtlabjamkaebnjaaSPlanLJ
import Derived.Test.YtlabjamkaebnjaaBlkBJ
namespace Go.Proofs.Ytlabjamkaebnjaa
open Go.RowKit Go.Lib Go.Deep
set_option linter.unusedVariables false
set_option linter.unusedSimpArgs false

theorem Kept.toLtr {H : Nat} {w w' : World} (h : Kept w w' none) : Ltr H w w' := ⟨h.size, fun k hk hl => h.block k hl (by simp)⟩
theorem Ltr.refl (H : Nat) (w : World) : Ltr H w w := ⟨Nat.le_refl _, fun _ _ _ => rfl⟩
theorem Ltr.setO {H : Nat} {v w : World} {g : Nat} (h : Ltr H v w) (hx : g < H ∨ v.heap.size ≤ g) (j : Nat) (u : Value) : Ltr H v (w.setCell ⟨g, j, none⟩ u) :=
  ⟨Nat.le_trans h.size (dkept_set w g j u).size, fun k hk hl => ((dkept_set w g j u).block k (Nat.lt_of_lt_of_le hl h.size) (fun e => by have := Option.some.inj e; omega)).trans (h.block k hk hl)⟩
theorem Ltr.at_ {lo : Nat} {w w' : World} {b j : Nat} (q : Ltr lo w w') (hb : lo ≤ b) (hl : b < w.heap.size) : w'.cell? ⟨b, j, none⟩ = w.cell? ⟨b, j, none⟩ := World.cell?_of_block (w := w) (a := ⟨b, j, none⟩) (q.block b hb hl)
theorem lie_ltrO {lo : Nat} {w w' : World} {a : Option Addr} {n k : Nat} {f : Nat → Nat → Value} (h : Lie w a n k f) (q : Ltr lo w w') (hl : ∀ x, a = some x → lo ≤ x.block) : Lie w' a n k f :=
  ⟨fun hp => by
    obtain ⟨b, off, e, hb, hc⟩ := h.at_ hp
    exact ⟨b, off, e, Nat.lt_of_lt_of_le hb q.size, fun i hi j hj => (q.at_ (hl _ e) hb).trans (hc i hi j hj)⟩⟩
theorem PlF.ltr {w w' : World} {H : Nat} {a : Option Addr} {n c : Nat} {l : List Pl} (h : PlF w H a n c l) (q : Ltr H w w') : PlF w' H a n c l := by
  obtain ⟨⟨r, h1, h2⟩, h3, h4, h5, h6⟩ := h
  exact ⟨⟨r, lie_ltrO h1 q h6, fun i hi => ⟨⟨lie_ltrO (h2 i hi).1.lie q (h2 i hi).2, (h2 i hi).1.size, (h2 i hi).1.cap, (h2 i hi).1.rng⟩, (h2 i hi).2⟩⟩, h3, h4, h5, h6⟩
theorem Bl.ltr {w w' : World} {H : Nat} {la : Option Addr} {m : Nat} {B : List (List Nat)} (h : Bl w H la m B) (q : Ltr H w w') : Bl w' H la m B := by
  refine ⟨h.size, h.max, fun hp => ?_⟩
  obtain ⟨b, off, rfl, hH, hb, hc⟩ := h.at_ hp
  refine ⟨b, off, rfl, hH, Nat.lt_of_lt_of_le hb q.size, fun i p hp => ?_⟩
  obtain ⟨a, c, h1, h2, h3⟩ := hc i p hp
  refine ⟨a, c, (q.at_ hH hb).trans h1, ⟨⟨h2.by_.size, h2.by_.max, h2.by_.lt, fun hp => ?_⟩, h2.nil, h2.room, h2.max⟩, h3⟩
  obtain ⟨b', off', e, hb', hc'⟩ := h2.by_.at_ hp
  exact ⟨b', off', e, Nat.lt_of_lt_of_le hb' q.size, fun j hj => (q.at_ (h3 _ e) hb').trans (hc' j hj)⟩
abbrev st5 (w : World) (g : Nat) (a b c d e : Value) : World := ((((w.setCell ⟨g, 0, none⟩ a).setCell ⟨g, 1, none⟩ b).setCell ⟨g, 2, none⟩ c).setCell ⟨g, 3, none⟩ d).setCell ⟨g, 4, none⟩ e
theorem st5_kept {x w : World} {g : Nat} (h : Kept x w none) (hg : x.heap.size ≤ g) (a b c d e : Value) : Kept x (st5 w g a b c d e) none :=
  ((((h.setNew (p := ⟨g, 0, none⟩) hg _).setNew (p := ⟨g, 1, none⟩) hg _).setNew (p := ⟨g, 2, none⟩) hg _).setNew (p := ⟨g, 3, none⟩) hg _).setNew (p := ⟨g, 4, none⟩) hg _
theorem st5_row {w : World} {g b' n : Nat} {t : TypeId} {f : Nat → Value} (h : w.rowIs b' t n f) (hne : b' ≠ g) (a b c d e : Value) : (st5 w g a b c d e).rowIs b' t n f :=
  ((((h.setOther (a := ⟨g, 0, none⟩) hne _).setOther (a := ⟨g, 1, none⟩) hne _).setOther (a := ⟨g, 2, none⟩) hne _).setOther (a := ⟨g, 3, none⟩) hne _).setOther (a := ⟨g, 4, none⟩) hne _
theorem st5_ltr {H : Nat} {v w : World} {g : Nat} (h : Ltr H v w) (hx : g < H ∨ v.heap.size ≤ g) (a b c d e : Value) : Ltr H v (st5 w g a b c d e) :=
  ((((h.setO hx 0 a).setO hx 1 b).setO hx 2 c).setO hx 3 d).setO hx 4 e
theorem st5_size (w : World) (g : Nat) (a b c d e : Value) : (st5 w g a b c d e).heap.size = w.heap.size := by simp [st5, World.setCell]
/-- What stands behind the region that makes both slots. -/
def SLQ (w : World) (a : Option Addr) (n c many : Nat) (B0 B1 : List (List Nat)) (g0 g1 : Int) (m0 m1 : Nat) (e : Exit) (act : Act) (w' : World) : Prop := match e with
  | .normal => ∃ b6 b7 pa0 pn0 pc0 ba0 bc0 pa1 pn1 pc1 ba1 bc1, act = { tmps := #[dvV a n c, .pointer (some ⟨w.heap.size, 0, none⟩), .pointer (some ⟨w.heap.size + 1, 0, none⟩), .pointer (some ⟨w.heap.size + 1 + 1, 0, none⟩), .int .i64 0, .int .i64 (many : Int), .pointer (some ⟨b6, 0, none⟩), .pointer (some ⟨b7, 0, none⟩), .tuple #[.int .i64 (many : Int), .int .i64 0], dvV a n c, .tuple #[.int .i64 (many : Int), .int .i64 0], .int .i64 (many : Int), .int .i64 0, .int .i64 0, .bool false, undef, undef, undef, dvV a n c, .int .i64 (many : Int), slV g0 m0 pa0 pn0 pc0 0 ba0 many bc0, dvV a n c, .int .i64 (many : Int), slV g1 m1 pa1 pn1 pc1 (many : Int) ba1 many bc1, undef, undef, undef, undef, undef, undef, undef], defers := [] } ∧
      Hid (w'.rowIs b6 66 5 (f5 (.int .i64 g0) (.int .u8 (m0 : Int)) (.slice pa0 pn0 pc0) (.int .i64 0) (.slice ba0 many bc0))) ∧ Hid (w'.rowIs b7 66 5 (f5 (.int .i64 g1) (.int .u8 (m1 : Int)) (.slice pa1 pn1 pc1) (.int .i64 (many : Int)) (.slice ba1 many bc1))) ∧
      Hid (PlF w' (w.heap.size + 3) pa0 pn0 pc0 (kepK B0).plans) ∧ Hid (PlF w' (w.heap.size + 3) pa1 pn1 pc1 (kepK B1).plans) ∧ Hid (Bl w' (w.heap.size + 3) ba0 many B0) ∧ Hid (Bl w' (w.heap.size + 3) ba1 many B1) ∧ Hid (w.heap.size + 3 ≤ b6 ∧ w.heap.size + 3 ≤ b7) ∧ Hid (Kept w w' none) ∧
      Hid (w'.rowIs (w.heap.size + 1) 66 5 (f5 (.int .i64 0) (.int .u8 0) (.slice none 0 0) (.int .i64 0) (.slice none 0 0))) ∧ Hid (w'.rowIs (w.heap.size + 2) 66 5 (f5 (.int .i64 0) (.int .u8 0) (.slice none 0 0) (.int .i64 0) (.slice none 0 0)))
  | _ => False
theorem SLQ.out {w : World} {a : Option Addr} {n c many : Nat} {B0 B1 : List (List Nat)} {g0 g1 : Int} {m0 m1 : Nat} {e : Exit} {act : Act} {w' : World} (h : SLQ w a n c many B0 B1 g0 g1 m0 m1 e act w') : e = .normal ∧ SLQ w a n c many B0 B1 g0 g1 m0 m1 .normal act w' := by
  cases e with
  | normal => exact ⟨rfl, h⟩
  | _ => exact h.elim
/-- What slotsOf answers, where there are slots. -/
def SlsP (w : World) (L : List Nat) (e : Ending) (w' : World) : Prop := ∃ pa pn pc fc ba bn bc g' m' pa' pn' pc' ba' bc', e = .returned (.tuple #[slV ((ctK L).gen : Int) (ctK L).mode pa pn pc fc ba bn bc, slV g' m' pa' pn' pc' ((wrI L * manK L.length : Nat) : Int) ba' (manK L.length) bc', .int .i64 0]) ∧ PlF w' w.heap.size pa pn pc (ctK L).plans ∧ Bl w' w.heap.size ba' (manK L.length) (ptB L) ∧ Kept w w' none
theorem st5_cell {w : World} {g b' i : Nat} (hne : b' ≠ g) (a b c d e : Value) : (st5 w g a b c d e).cell? ⟨b', i, none⟩ = w.cell? ⟨b', i, none⟩ := by
  have hx : ∀ (w : World) (j : Nat) (v : Value), (w.setCell ⟨g, j, none⟩ v).cell? ⟨b', i, none⟩ = w.cell? ⟨b', i, none⟩ := fun w j v => World.cell?_setCell_other _ _ _ _ (by simp [hne])
  unfold st5
  rw [hx, hx, hx, hx, hx]
set_option maxRecDepth 100000 in
set_option maxHeartbeats 4000000 in
theorem slots_ok {a : Option Addr} {n c : Nat} {L : List Nat} {w : World} (hC : Come w a n c L) (hask : askE n = 0) :
    Calls Try.prog 21 #[dvV a n c] w (SlsP w L) := by
  have hs := hC.by_.size
  have HC0 := Hid.mk' (fun w' (hk : Kept w w' none) => slotOf0_any (hC.kpt hk) hask)
  have HC1 := Hid.mk' (fun w' (hk : Kept w w' none) => slotOf1_any (hC.kpt hk) hask)
  have HBS := Hid.mk' (fun w' => bslot_any a n c w' hC.by_.max)
  have hmE : manE n = (manK n : Int) := by unfold manE; rw [if_pos hask]
  rw [hask, hmE] at HBS
  have hct : ctK L = kepK (sltB L (if cnt0 L = true then 0 else 1)) := by unfold ctK; split <;> rfl
  have hpt : ptB L = sltB L (if cnt0 L = true then 1 else 0) := rfl
  have hwi : wrI L = (if cnt0 L = true then 1 else 0) := rfl
  have hc0 : cnt0 L = (decide (0 < ((kepK (sltB L 0)).gen : Int)) && decide (((kepK (sltB L 1)).gen : Int) ≤ ((kepK (sltB L 0)).gen : Int))) := by
    unfold cnt0
    simp
  have hl0 : (sltB L 0).length = manK n := by rw [sl_len, hs]
  have hl1 : (sltB L 1).length = manK n := by rw [sl_len, hs]
  unfold SlsP
  rw [hs]
  unfold SloP at HC0 HC1
  have HCT := Hid.mk' hct
  have HPT := Hid.mk' hpt
  have HWI := Hid.mk' hwi
  have HE0 := Hid.mk' hl0
  have HE1 := Hid.mk' hl1
  clear hct hpt hwi hC hs hmE
  rw [hl0] at HC0
  rw [hl1] at HC1
  generalize hB0 : sltB L 0 = B0 at *
  generalize hB1 : sltB L 1 = B1 at *
  obtain ⟨many, hmany⟩ : ∃ many, manK n = many := ⟨_, rfl⟩
  rw [hmany] at HC0 HC1 HBS HE0 HE1 ⊢
  obtain ⟨g0, hg0⟩ : ∃ g : Int, ((kepK B0).gen : Int) = g := ⟨_, rfl⟩
  obtain ⟨g1, hg1⟩ : ∃ g : Int, ((kepK B1).gen : Int) = g := ⟨_, rfl⟩
  obtain ⟨m0, hm0⟩ : ∃ g, (kepK B0).mode = g := ⟨_, rfl⟩
  obtain ⟨m1, hm1⟩ : ∃ g, (kepK B1).mode = g := ⟨_, rfl⟩
  rw [hg0, hm0] at HC0
  rw [hg1, hm1] at HC1
  rw [hg0, hg1] at hc0
  have HG := Hid.mk' (And.intro (And.intro hg0 hm0) (And.intro hg1 hm1))
  have HCN := Hid.mk' hc0
  have HBB := Hid.mk' (And.intro hB0 hB1)
  clear hg0 hg1 hm0 hm1 hmany hl0 hl1 hc0 hB0 hB1
  obtain ⟨WA, hWA⟩ : ∃ WA, ((w.alloc (.cells #[.slice a n c] 24)).alloc (.cells #[.int .i64 0, .int .u8 0, .slice none 0 0, .int .i64 0, .slice none 0 0] 66)).alloc (.cells #[.int .i64 0, .int .u8 0, .slice none 0 0, .int .i64 0, .slice none 0 0] 66) = WA := ⟨_, rfl⟩
  have hkA0 : Kept w WA none := by rw [← hWA]; exact ((Kept.alloc _ _ _ _ _).tr (Kept.alloc _ _ _ _ _)).tr (Kept.alloc _ _ _ _ _)
  have hzA0 : WA.heap.size = w.heap.size + 3 := by rw [← hWA]; simp
  have RA1 : WA.rowIs (w.heap.size + 1) 66 5 (f5 (.int .i64 0) (.int .u8 0) (.slice none 0 0) (.int .i64 0) (.slice none 0 0)) := by
    have h := (row5 (w.alloc (.cells #[.slice a n c] 24)) (.int .i64 0) (.int .u8 0) (.slice none 0 0) (.int .i64 0) (.slice none 0 0) 66).alloc (.cells #[.int .i64 0, .int .u8 0, .slice none 0 0, .int .i64 0, .slice none 0 0] 66)
    rw [World.size_alloc] at h
    rw [← hWA]
    exact h
  have RA2 : WA.rowIs (w.heap.size + 2) 66 5 (f5 (.int .i64 0) (.int .u8 0) (.slice none 0 0) (.int .i64 0) (.slice none 0 0)) := by
    have h := row5 ((w.alloc (.cells #[.slice a n c] 24)).alloc (.cells #[.int .i64 0, .int .u8 0, .slice none 0 0, .int .i64 0, .slice none 0 0] 66)) (.int .i64 0) (.int .u8 0) (.slice none 0 0) (.int .i64 0) (.slice none 0 0) 66
    simp only [World.size_alloc] at h
    rw [← hWA]
    exact h
  have DbA : Db WA w.heap.size a n c := by
    rw [← hWA]
    exact ((db_alloc w a n c 24).kept (Kept.alloc _ _ _ _ _)).kept (Kept.alloc _ _ _ _ _)
  have RA1 := Hid.mk' RA1
  have RA2 := Hid.mk' RA2
  have HDA := Hid.mk' DbA
  have HWA := Hid.mk' hWA
  clear hWA DbA
  go_enter Try.func21, Try.ntmps21
  have HKA := Hid.mk' hkA0
  have HZA := Hid.mk' hzA0
  clear hkA0 hzA0
  go_wp2_with (go_at_call 33; rw [HWA.out]; refine (HBS.out _).mono ?_; rintro e w1 ⟨rfl, hk1⟩; have K1 := Hid.mk' hk1; clear hk1)
  refine Code.wp_mono (Q := SLQ w a n c many B0 B1 g0 g1 m0 m1) ?cont1 ?reg1
  case reg1 =>
    have hd1 := (HDA.out.kept K1.out).c0
    obtain ⟨WB, hWB⟩ : ∃ v, WA = v := ⟨_, rfl⟩
    have hkA : Kept w w1 none := HKA.out.tr K1.out
    have HZA : Hid (w.heap.size + 3 ≤ w1.heap.size) := Hid.mk' (by have h7 := K1.out.size; have h8 := HZA.out; omega)
    have HLA : Hid (w.heap.size < w1.heap.size) := Hid.mk' (by have h8 := HZA.out; omega)
    have RA1 := Hid.mk' (rowK RA1.out K1.out)
    have RA2 := Hid.mk' (rowK RA2.out K1.out)
    clear hWB
    repeat (rename_i hh; clear hh)
    refine wp_region_held_drew (S := fun w' => Kept w1 w' none ∧ w'.cell? ⟨w.heap.size, 0, none⟩ = some (.slice a n c)) (by kernel_rfl) ⟨kept_drw _ _, hd1⟩ (fun hHeld => ?_)
    obtain ⟨w0, hw0⟩ : ∃ v, w1.drew = v := ⟨_, rfl⟩
    rw [hw0] at hHeld ⊢
    clear hw0
    refine hold_take (i := 0) (v := ?rv1) rfl rfl (by kernel_rfl) (by kernel_rfl) (by kernel_rfl) (fun _ _ _ h => h) (Or.inl ⟨by rfl, ?rhy1⟩) hHeld ?rrest1
    case rhy1 => (intro w hSw; have q0 := hSw.2; clear hSw; first | (go_simp; done) | (go_simp; with_reducible rfl))
    try simp only [List.setIfInBounds_toArray, List.set_cons_zero, List.set_cons_succ]
    refine hold_take (i := 1) (v := ?rv2) rfl rfl (by kernel_rfl) (by kernel_rfl) (by kernel_rfl) (fun _ _ _ h => h) (Or.inl ⟨by rfl, ?rhy2⟩) hHeld ?rrest2
    case rhy2 => (intro w hSw; have q0 := hSw.2; clear hSw; first | (go_simp; done) | (go_simp; with_reducible rfl))
    try simp only [List.setIfInBounds_toArray, List.set_cons_zero, List.set_cons_succ]
    refine hold_take (i := 3) (v := ?rv3) rfl rfl (by kernel_rfl) (by kernel_rfl) (by kernel_rfl) (fun _ _ _ h => h) (Or.inl ⟨by rfl, ?rhy3⟩) hHeld ?rrest3
    case rhy3 => (intro w hSw; have q0 := hSw.2; clear hSw; first | (go_simp; done) | (go_simp; with_reducible rfl))
    try simp only [List.setIfInBounds_toArray, List.set_cons_zero, List.set_cons_succ]
    refine hold_take (i := 4) (v := ?rv4) rfl rfl (by kernel_rfl) (by kernel_rfl) (by kernel_rfl) (fun _ _ _ h => h) (Or.inl ⟨by rfl, ?rhy4⟩) hHeld ?rrest4
    case rhy4 => (intro w hSw; have q0 := hSw.2; clear hSw; first | (go_simp; done) | (go_simp; with_reducible rfl))
    try simp only [List.setIfInBounds_toArray, List.set_cons_zero, List.set_cons_succ]
    refine wpAnyH_ready (rs := [2, 6, 7]) (by kernel_rfl) (by simp) ?_
    refine (AllReadyH.cons rfl (fun K hK => ?rz5x2) (AllReadyH.cons rfl (fun K hK => ?rz5x6) (AllReadyH.cons rfl (fun K hK => ?rz5x7) AllReadyH.nil)))
    case rz5x2 =>
      go_simp
      go_wp2_with (go_at_call 34; refine (HC0.out w0 (hkA.tr hHeld.1)).mono ?_; rintro e wv6 ⟨pa0, pn0, pc0, ba0, bc0, rfl, hp, hb, hk⟩)
      have P0 := Hid.mk' hp
      have BB0 := Hid.mk' hb
      have hz0 := hHeld.1.size
      have hs0 := hk.size
      have L0 := Hid.mk' (Ltr.refl w0.heap.size wv6)
      have hnew : Kept w1 wv6 none ∧ wv6.cell? ⟨w.heap.size, 0, none⟩ = some (.slice a n c) := ⟨hHeld.1.tr hk, (cell_kpt hk (Nat.lt_of_lt_of_le HLA.out hHeld.1.size)).trans hHeld.2⟩
      have V0 : Hid (w1.heap.size ≤ w0.heap.size ∧ w0.heap.size ≤ wv6.heap.size) := Hid.mk' ⟨hz0, hs0⟩
      clear hp hb hk hz0 hs0
      refine hK.out _ _ hnew (fun hHeld => ?_)
      clear hK K hnew
      refine wpAnyH_ready (rs := [5, 6, 7]) (by kernel_rfl) (by simp) ?_
      refine (AllReadyH.cons rfl (fun K hK => ?rz7x5) (AllReadyH.cons rfl (fun K hK => ?rz7x6) (AllReadyH.cons rfl (fun K hK => ?rz7x7) AllReadyH.nil)))
      case rz7x5 =>
        go_simp
        go_wp2_with (go_at_call 34; refine (HC1.out wv6 (hkA.tr hHeld.1)).mono ?_; rintro e wv8 ⟨pa1, pn1, pc1, ba1, bc1, rfl, hp, hb, hk⟩)
        have P1 := Hid.mk' hp
        have BB1 := Hid.mk' hb
        have hz1 := hHeld.1.size
        have hs1 := hk.size
        have L0 := Hid.mk' (L0.out.tr hk.toLtr)
        have L1 := Hid.mk' (Ltr.refl wv6.heap.size wv8)
        have hnew : Kept w1 wv8 none ∧ wv8.cell? ⟨w.heap.size, 0, none⟩ = some (.slice a n c) := ⟨hHeld.1.tr hk, (cell_kpt hk (Nat.lt_of_lt_of_le HLA.out hHeld.1.size)).trans hHeld.2⟩
        have V1 : Hid (w1.heap.size ≤ wv6.heap.size ∧ wv6.heap.size ≤ wv8.heap.size) := Hid.mk' ⟨hz1, hs1⟩
        clear hp hb hk hz1 hs1
        refine hK.out _ _ hnew (fun hHeld => ?_)
        clear hK K hnew
        refine wpAnyH_ready (rs := [6, 7]) (by kernel_rfl) (by simp) ?_
        refine (AllReadyH.cons rfl (fun K hK => ?rz9x6) (AllReadyH.cons rfl (fun K hK => ?rz9x7) AllReadyH.nil))
        case rz9x6 =>
          have L0b := L0
          have L1b := L1
          go_simp
          have hk : Kept wv8 (wv8.alloc (.cells #[.int .i64 0, .int .u8 0, .slice none 0 0, .int .i64 0, .slice none 0 0] 66)) none := Kept.alloc _ _ _ _ _
          have L0 := Hid.mk' (L0.out.tr hk.toLtr)
          have L1 := Hid.mk' (L1.out.tr hk.toLtr)
          have R6 := Hid.mk' (row5 wv8 (.int .i64 0) (.int .u8 0) (.slice none 0 0) (.int .i64 0) (.slice none 0 0) 66)
          have hz := hHeld.1.size
          have Z6 : Hid (w1.heap.size ≤ wv8.heap.size) := Hid.mk' hz
          have SZ60 := L0b.out.size
          have SZ61 := L1b.out.size
          clear L0b
          clear L1b
          have hnew : Kept w1 (wv8.alloc (.cells #[.int .i64 0, .int .u8 0, .slice none 0 0, .int .i64 0, .slice none 0 0] 66)) none ∧ (wv8.alloc (.cells #[.int .i64 0, .int .u8 0, .slice none 0 0, .int .i64 0, .slice none 0 0] 66)).cell? ⟨w.heap.size, 0, none⟩ = some (.slice a n c) := ⟨hHeld.1.tr hk, (cell_kpt hk (Nat.lt_of_lt_of_le HLA.out hHeld.1.size)).trans hHeld.2⟩
          refine hK.out _ _ hnew (fun hHeld => ?_)
          clear hK K hnew hk hz
          obtain ⟨wv10, hwv10⟩ : ∃ v, (wv8.alloc (.cells #[.int .i64 0, .int .u8 0, .slice none 0 0, .int .i64 0, .slice none 0 0] 66)) = v := ⟨_, rfl⟩
          rw [hwv10] at hHeld R6 L0 L1 ⊢
          clear hwv10
          obtain ⟨b6, hb6⟩ : ∃ v, wv8.heap.size = v := ⟨_, rfl⟩
          have HB6 := Hid.mk' hb6
          try rw [hb6] at R6
          try rw [hb6] at Z6
          have E60 : Hid (b6 < w0.heap.size ∨ wv6.heap.size ≤ b6) := Hid.mk' (.inr (by rw [← hb6]; exact SZ60))
          clear SZ60
          have E61 : Hid (b6 < wv6.heap.size ∨ wv8.heap.size ≤ b6) := Hid.mk' (.inr (by rw [← hb6]; exact SZ61))
          clear SZ61
          rw [hb6]
          clear hb6
          refine wpAnyH_ready (rs := [7]) (by kernel_rfl) (by simp) ?_
          refine (AllReadyH.cons rfl (fun K hK => ?rz11x7) AllReadyH.nil)
          case rz11x7 =>
            have L0b := L0
            have L1b := L1
            have R6b := R6
            go_simp
            have hk : Kept wv10 (wv10.alloc (.cells #[.int .i64 0, .int .u8 0, .slice none 0 0, .int .i64 0, .slice none 0 0] 66)) none := Kept.alloc _ _ _ _ _
            have R6 := Hid.mk' (rowK R6.out hk)
            have L0 := Hid.mk' (L0.out.tr hk.toLtr)
            have L1 := Hid.mk' (L1.out.tr hk.toLtr)
            have R7 := Hid.mk' (row5 wv10 (.int .i64 0) (.int .u8 0) (.slice none 0 0) (.int .i64 0) (.slice none 0 0) 66)
            have hz := hHeld.1.size
            have Z7 : Hid (w1.heap.size ≤ wv10.heap.size) := Hid.mk' hz
            have SZ70 := L0b.out.size
            have SZ71 := L1b.out.size
            have N67 : Hid (b6 < wv10.heap.size) := Hid.mk' R6b.out.lt
            clear L0b
            clear L1b
            clear R6b
            have hnew : Kept w1 (wv10.alloc (.cells #[.int .i64 0, .int .u8 0, .slice none 0 0, .int .i64 0, .slice none 0 0] 66)) none ∧ (wv10.alloc (.cells #[.int .i64 0, .int .u8 0, .slice none 0 0, .int .i64 0, .slice none 0 0] 66)).cell? ⟨w.heap.size, 0, none⟩ = some (.slice a n c) := ⟨hHeld.1.tr hk, (cell_kpt hk (Nat.lt_of_lt_of_le HLA.out hHeld.1.size)).trans hHeld.2⟩
            refine hK.out _ _ hnew (fun hHeld => ?_)
            clear hK K hnew hk hz
            obtain ⟨wv12, hwv12⟩ : ∃ v, (wv10.alloc (.cells #[.int .i64 0, .int .u8 0, .slice none 0 0, .int .i64 0, .slice none 0 0] 66)) = v := ⟨_, rfl⟩
            rw [hwv12] at hHeld R6 R7 L0 L1 ⊢
            clear hwv12
            obtain ⟨b7, hb7⟩ : ∃ v, wv10.heap.size = v := ⟨_, rfl⟩
            have HB7 := Hid.mk' hb7
            try rw [hb7] at R7
            try rw [hb7] at Z7
            try rw [hb7] at N67
            have E70 : Hid (b7 < w0.heap.size ∨ wv6.heap.size ≤ b7) := Hid.mk' (.inr (by rw [← hb7]; exact SZ70))
            clear SZ70
            have E71 : Hid (b7 < wv6.heap.size ∨ wv8.heap.size ≤ b7) := Hid.mk' (.inr (by rw [← hb7]; exact SZ71))
            clear SZ71
            rw [hb7]
            clear hb7
            refine wpAnyH_ready (rs := [8]) (by kernel_rfl) (by simp) ?_
            refine (AllReadyH.cons rfl (fun K hK => ?rz13x8) AllReadyH.nil)
            case rz13x8 =>
              have t0 := R6.out.cell (i := 0) (by omega)
              have y0 := R6.out.frozen 0
              have t1 := R6.out.cell (i := 1) (by omega)
              have y1 := R6.out.frozen 1
              have t2 := R6.out.cell (i := 2) (by omega)
              have y2 := R6.out.frozen 2
              have t3 := R6.out.cell (i := 3) (by omega)
              have y3 := R6.out.frozen 3
              have t4 := R6.out.cell (i := 4) (by omega)
              have y4 := R6.out.frozen 4
              simp [f5] at t0 t1 t2 t3 t4
              go_simp
              have hne : b6 ≠ b7 := by have := N67.out; omega
              have R7n := Hid.mk' (st5_row R7.out (show b7 ≠ b6 by omega) (.int .i64 g0) (.int .u8 (m0 : Int)) (.slice pa0 pn0 pc0) (.int .i64 0) (.slice ba0 many bc0))
              have R6n := Hid.mk' (row5_set5 R6.out (.int .i64 g0) (.int .u8 (m0 : Int)) (.slice pa0 pn0 pc0) (.int .i64 0) (.slice ba0 many bc0))
              have L0n := Hid.mk' (st5_ltr L0.out E60.out (.int .i64 g0) (.int .u8 (m0 : Int)) (.slice pa0 pn0 pc0) (.int .i64 0) (.slice ba0 many bc0))
              have L1n := Hid.mk' (st5_ltr L1.out E61.out (.int .i64 g0) (.int .u8 (m0 : Int)) (.slice pa0 pn0 pc0) (.int .i64 0) (.slice ba0 many bc0))
              have hnew : Kept w1 (st5 wv12 b6 (.int .i64 g0) (.int .u8 (m0 : Int)) (.slice pa0 pn0 pc0) (.int .i64 0) (.slice ba0 many bc0)) none ∧ (st5 wv12 b6 (.int .i64 g0) (.int .u8 (m0 : Int)) (.slice pa0 pn0 pc0) (.int .i64 0) (.slice ba0 many bc0)).cell? ⟨w.heap.size, 0, none⟩ = some (.slice a n c) := ⟨st5_kept hHeld.1 Z6.out (.int .i64 g0) (.int .u8 (m0 : Int)) (.slice pa0 pn0 pc0) (.int .i64 0) (.slice ba0 many bc0), by (have h7 := HLA.out; have h8 := Z6.out; exact (st5_cell (show w.heap.size ≠ b6 by omega) (.int .i64 g0) (.int .u8 (m0 : Int)) (.slice pa0 pn0 pc0) (.int .i64 0) (.slice ba0 many bc0)).trans hHeld.2)⟩
              refine hK.out _ _ hnew (fun hHeld => ?_)
              clear hK K hnew t0 t1 t2 t3 t4 y0 y1 y2 y3 y4 R6 R7 L0 L1 hne
              have R6 := R6n
              have R7 := R7n
              have L0 := L0n
              have L1 := L1n
              clear R6n R7n L0n L1n
              dsimp only [st5] at hHeld R6 R7 L0 L1
              obtain ⟨wv14, hwv14⟩ : ∃ v, (((((wv12.setCell ⟨b6, 0, none⟩ (.int .i64 g0)).setCell ⟨b6, 1, none⟩ (.int .u8 (m0 : Int))).setCell ⟨b6, 2, none⟩ (.slice pa0 pn0 pc0)).setCell ⟨b6, 3, none⟩ (.int .i64 0)).setCell ⟨b6, 4, none⟩ (.slice ba0 many bc0)) = v := ⟨_, rfl⟩
              rw [hwv14] at hHeld R6 R7 L0 L1 ⊢
              clear hwv14
              refine wpAnyH_ready (rs := [9]) (by kernel_rfl) (by simp) ?_
              refine (AllReadyH.cons rfl (fun K hK => ?rz15x9) AllReadyH.nil)
              case rz15x9 =>
                have t0 := R7.out.cell (i := 0) (by omega)
                have y0 := R7.out.frozen 0
                have t1 := R7.out.cell (i := 1) (by omega)
                have y1 := R7.out.frozen 1
                have t2 := R7.out.cell (i := 2) (by omega)
                have y2 := R7.out.frozen 2
                have t3 := R7.out.cell (i := 3) (by omega)
                have y3 := R7.out.frozen 3
                have t4 := R7.out.cell (i := 4) (by omega)
                have y4 := R7.out.frozen 4
                simp [f5] at t0 t1 t2 t3 t4
                go_simp
                have hne : b6 ≠ b7 := by have := N67.out; omega
                have R6n := Hid.mk' (st5_row R6.out (show b6 ≠ b7 by omega) (.int .i64 g1) (.int .u8 (m1 : Int)) (.slice pa1 pn1 pc1) (.int .i64 (many : Int)) (.slice ba1 many bc1))
                have R7n := Hid.mk' (row5_set5 R7.out (.int .i64 g1) (.int .u8 (m1 : Int)) (.slice pa1 pn1 pc1) (.int .i64 (many : Int)) (.slice ba1 many bc1))
                have L0n := Hid.mk' (st5_ltr L0.out E70.out (.int .i64 g1) (.int .u8 (m1 : Int)) (.slice pa1 pn1 pc1) (.int .i64 (many : Int)) (.slice ba1 many bc1))
                have L1n := Hid.mk' (st5_ltr L1.out E71.out (.int .i64 g1) (.int .u8 (m1 : Int)) (.slice pa1 pn1 pc1) (.int .i64 (many : Int)) (.slice ba1 many bc1))
                have hnew : Kept w1 (st5 wv14 b7 (.int .i64 g1) (.int .u8 (m1 : Int)) (.slice pa1 pn1 pc1) (.int .i64 (many : Int)) (.slice ba1 many bc1)) none ∧ (st5 wv14 b7 (.int .i64 g1) (.int .u8 (m1 : Int)) (.slice pa1 pn1 pc1) (.int .i64 (many : Int)) (.slice ba1 many bc1)).cell? ⟨w.heap.size, 0, none⟩ = some (.slice a n c) := ⟨st5_kept hHeld.1 Z7.out (.int .i64 g1) (.int .u8 (m1 : Int)) (.slice pa1 pn1 pc1) (.int .i64 (many : Int)) (.slice ba1 many bc1), by (have h7 := HLA.out; have h8 := Z7.out; exact (st5_cell (show w.heap.size ≠ b7 by omega) (.int .i64 g1) (.int .u8 (m1 : Int)) (.slice pa1 pn1 pc1) (.int .i64 (many : Int)) (.slice ba1 many bc1)).trans hHeld.2)⟩
                refine hK.out _ _ hnew (fun hHeld => ?_)
                clear hK K hnew t0 t1 t2 t3 t4 y0 y1 y2 y3 y4 R6 R7 L0 L1 hne
                have R6 := R6n
                have R7 := R7n
                have L0 := L0n
                have L1 := L1n
                clear R6n R7n L0n L1n
                dsimp only [st5] at hHeld R6 R7 L0 L1
                obtain ⟨wv16, hwv16⟩ : ∃ v, (((((wv14.setCell ⟨b7, 0, none⟩ (.int .i64 g1)).setCell ⟨b7, 1, none⟩ (.int .u8 (m1 : Int))).setCell ⟨b7, 2, none⟩ (.slice pa1 pn1 pc1)).setCell ⟨b7, 3, none⟩ (.int .i64 (many : Int))).setCell ⟨b7, 4, none⟩ (.slice ba1 many bc1)) = v := ⟨_, rfl⟩
                rw [hwv16] at hHeld R6 R7 L0 L1 ⊢
                clear hwv16
                refine wpAnyH_done (by kernel_rfl) ?_ _
                with_unfolding_all exact ⟨b6, b7, pa0, pn0, pc0, ba0, bc0, pa1, pn1, pc1, ba1, bc1, rfl, R6, R7, Hid.mk' ((P0.out.ltr L0.out).mono (by have := V0.out.1; have := HZA.out; omega)), Hid.mk' ((P1.out.ltr L1.out).mono (by have := V1.out.1; have := HZA.out; omega)), Hid.mk' ((BB0.out.ltr L0.out).mono (by have := V0.out.1; have := HZA.out; omega)), Hid.mk' ((BB1.out.ltr L1.out).mono (by have := V1.out.1; have := HZA.out; omega)), Hid.mk' ⟨by have := Z6.out; have := HZA.out; omega, by have := Z7.out; have := HZA.out; omega⟩, Hid.mk' (hkA.tr hHeld.1), Hid.mk' (rowK RA1.out hHeld.1), Hid.mk' (rowK RA2.out hHeld.1)⟩
        case rz9x7 =>
          have L0b := L0
          have L1b := L1
          go_simp
          have hk : Kept wv8 (wv8.alloc (.cells #[.int .i64 0, .int .u8 0, .slice none 0 0, .int .i64 0, .slice none 0 0] 66)) none := Kept.alloc _ _ _ _ _
          have L0 := Hid.mk' (L0.out.tr hk.toLtr)
          have L1 := Hid.mk' (L1.out.tr hk.toLtr)
          have R7 := Hid.mk' (row5 wv8 (.int .i64 0) (.int .u8 0) (.slice none 0 0) (.int .i64 0) (.slice none 0 0) 66)
          have hz := hHeld.1.size
          have Z7 : Hid (w1.heap.size ≤ wv8.heap.size) := Hid.mk' hz
          have SZ70 := L0b.out.size
          have SZ71 := L1b.out.size
          clear L0b
          clear L1b
          have hnew : Kept w1 (wv8.alloc (.cells #[.int .i64 0, .int .u8 0, .slice none 0 0, .int .i64 0, .slice none 0 0] 66)) none ∧ (wv8.alloc (.cells #[.int .i64 0, .int .u8 0, .slice none 0 0, .int .i64 0, .slice none 0 0] 66)).cell? ⟨w.heap.size, 0, none⟩ = some (.slice a n c) := ⟨hHeld.1.tr hk, (cell_kpt hk (Nat.lt_of_lt_of_le HLA.out hHeld.1.size)).trans hHeld.2⟩
          refine hK.out _ _ hnew (fun hHeld => ?_)
          clear hK K hnew hk hz
          obtain ⟨wv17, hwv17⟩ : ∃ v, (wv8.alloc (.cells #[.int .i64 0, .int .u8 0, .slice none 0 0, .int .i64 0, .slice none 0 0] 66)) = v := ⟨_, rfl⟩
          rw [hwv17] at hHeld R7 L0 L1 ⊢
          clear hwv17
          obtain ⟨b7, hb7⟩ : ∃ v, wv8.heap.size = v := ⟨_, rfl⟩
          have HB7 := Hid.mk' hb7
          try rw [hb7] at R7
          try rw [hb7] at Z7
          have E70 : Hid (b7 < w0.heap.size ∨ wv6.heap.size ≤ b7) := Hid.mk' (.inr (by rw [← hb7]; exact SZ70))
          clear SZ70
          have E71 : Hid (b7 < wv6.heap.size ∨ wv8.heap.size ≤ b7) := Hid.mk' (.inr (by rw [← hb7]; exact SZ71))
          clear SZ71
          rw [hb7]
          clear hb7
          refine wpAnyH_ready (rs := [6]) (by kernel_rfl) (by simp) ?_
          refine (AllReadyH.cons rfl (fun K hK => ?rz18x6) AllReadyH.nil)
          case rz18x6 =>
            have L0b := L0
            have L1b := L1
            have R7b := R7
            go_simp
            have hk : Kept wv17 (wv17.alloc (.cells #[.int .i64 0, .int .u8 0, .slice none 0 0, .int .i64 0, .slice none 0 0] 66)) none := Kept.alloc _ _ _ _ _
            have R7 := Hid.mk' (rowK R7.out hk)
            have L0 := Hid.mk' (L0.out.tr hk.toLtr)
            have L1 := Hid.mk' (L1.out.tr hk.toLtr)
            have R6 := Hid.mk' (row5 wv17 (.int .i64 0) (.int .u8 0) (.slice none 0 0) (.int .i64 0) (.slice none 0 0) 66)
            have hz := hHeld.1.size
            have Z6 : Hid (w1.heap.size ≤ wv17.heap.size) := Hid.mk' hz
            have SZ60 := L0b.out.size
            have SZ61 := L1b.out.size
            have N67 : Hid (b7 < wv17.heap.size) := Hid.mk' R7b.out.lt
            clear L0b
            clear L1b
            clear R7b
            have hnew : Kept w1 (wv17.alloc (.cells #[.int .i64 0, .int .u8 0, .slice none 0 0, .int .i64 0, .slice none 0 0] 66)) none ∧ (wv17.alloc (.cells #[.int .i64 0, .int .u8 0, .slice none 0 0, .int .i64 0, .slice none 0 0] 66)).cell? ⟨w.heap.size, 0, none⟩ = some (.slice a n c) := ⟨hHeld.1.tr hk, (cell_kpt hk (Nat.lt_of_lt_of_le HLA.out hHeld.1.size)).trans hHeld.2⟩
            refine hK.out _ _ hnew (fun hHeld => ?_)
            clear hK K hnew hk hz
            obtain ⟨wv19, hwv19⟩ : ∃ v, (wv17.alloc (.cells #[.int .i64 0, .int .u8 0, .slice none 0 0, .int .i64 0, .slice none 0 0] 66)) = v := ⟨_, rfl⟩
            rw [hwv19] at hHeld R7 R6 L0 L1 ⊢
            clear hwv19
            obtain ⟨b6, hb6⟩ : ∃ v, wv17.heap.size = v := ⟨_, rfl⟩
            have HB6 := Hid.mk' hb6
            try rw [hb6] at R6
            try rw [hb6] at Z6
            try rw [hb6] at N67
            have E60 : Hid (b6 < w0.heap.size ∨ wv6.heap.size ≤ b6) := Hid.mk' (.inr (by rw [← hb6]; exact SZ60))
            clear SZ60
            have E61 : Hid (b6 < wv6.heap.size ∨ wv8.heap.size ≤ b6) := Hid.mk' (.inr (by rw [← hb6]; exact SZ61))
            clear SZ61
            rw [hb6]
            clear hb6
            refine wpAnyH_ready (rs := [8]) (by kernel_rfl) (by simp) ?_
            refine (AllReadyH.cons rfl (fun K hK => ?rz20x8) AllReadyH.nil)
            case rz20x8 =>
              have t0 := R6.out.cell (i := 0) (by omega)
              have y0 := R6.out.frozen 0
              have t1 := R6.out.cell (i := 1) (by omega)
              have y1 := R6.out.frozen 1
              have t2 := R6.out.cell (i := 2) (by omega)
              have y2 := R6.out.frozen 2
              have t3 := R6.out.cell (i := 3) (by omega)
              have y3 := R6.out.frozen 3
              have t4 := R6.out.cell (i := 4) (by omega)
              have y4 := R6.out.frozen 4
              simp [f5] at t0 t1 t2 t3 t4
              go_simp
              have hne : b6 ≠ b7 := by have := N67.out; omega
              have R7n := Hid.mk' (st5_row R7.out (show b7 ≠ b6 by omega) (.int .i64 g0) (.int .u8 (m0 : Int)) (.slice pa0 pn0 pc0) (.int .i64 0) (.slice ba0 many bc0))
              have R6n := Hid.mk' (row5_set5 R6.out (.int .i64 g0) (.int .u8 (m0 : Int)) (.slice pa0 pn0 pc0) (.int .i64 0) (.slice ba0 many bc0))
              have L0n := Hid.mk' (st5_ltr L0.out E60.out (.int .i64 g0) (.int .u8 (m0 : Int)) (.slice pa0 pn0 pc0) (.int .i64 0) (.slice ba0 many bc0))
              have L1n := Hid.mk' (st5_ltr L1.out E61.out (.int .i64 g0) (.int .u8 (m0 : Int)) (.slice pa0 pn0 pc0) (.int .i64 0) (.slice ba0 many bc0))
              have hnew : Kept w1 (st5 wv19 b6 (.int .i64 g0) (.int .u8 (m0 : Int)) (.slice pa0 pn0 pc0) (.int .i64 0) (.slice ba0 many bc0)) none ∧ (st5 wv19 b6 (.int .i64 g0) (.int .u8 (m0 : Int)) (.slice pa0 pn0 pc0) (.int .i64 0) (.slice ba0 many bc0)).cell? ⟨w.heap.size, 0, none⟩ = some (.slice a n c) := ⟨st5_kept hHeld.1 Z6.out (.int .i64 g0) (.int .u8 (m0 : Int)) (.slice pa0 pn0 pc0) (.int .i64 0) (.slice ba0 many bc0), by (have h7 := HLA.out; have h8 := Z6.out; exact (st5_cell (show w.heap.size ≠ b6 by omega) (.int .i64 g0) (.int .u8 (m0 : Int)) (.slice pa0 pn0 pc0) (.int .i64 0) (.slice ba0 many bc0)).trans hHeld.2)⟩
              refine hK.out _ _ hnew (fun hHeld => ?_)
              clear hK K hnew t0 t1 t2 t3 t4 y0 y1 y2 y3 y4 R6 R7 L0 L1 hne
              have R6 := R6n
              have R7 := R7n
              have L0 := L0n
              have L1 := L1n
              clear R6n R7n L0n L1n
              dsimp only [st5] at hHeld R6 R7 L0 L1
              obtain ⟨wv21, hwv21⟩ : ∃ v, (((((wv19.setCell ⟨b6, 0, none⟩ (.int .i64 g0)).setCell ⟨b6, 1, none⟩ (.int .u8 (m0 : Int))).setCell ⟨b6, 2, none⟩ (.slice pa0 pn0 pc0)).setCell ⟨b6, 3, none⟩ (.int .i64 0)).setCell ⟨b6, 4, none⟩ (.slice ba0 many bc0)) = v := ⟨_, rfl⟩
              rw [hwv21] at hHeld R6 R7 L0 L1 ⊢
              clear hwv21
              refine wpAnyH_ready (rs := [9]) (by kernel_rfl) (by simp) ?_
              refine (AllReadyH.cons rfl (fun K hK => ?rz22x9) AllReadyH.nil)
              case rz22x9 =>
                have t0 := R7.out.cell (i := 0) (by omega)
                have y0 := R7.out.frozen 0
                have t1 := R7.out.cell (i := 1) (by omega)
                have y1 := R7.out.frozen 1
                have t2 := R7.out.cell (i := 2) (by omega)
                have y2 := R7.out.frozen 2
                have t3 := R7.out.cell (i := 3) (by omega)
                have y3 := R7.out.frozen 3
                have t4 := R7.out.cell (i := 4) (by omega)
                have y4 := R7.out.frozen 4
                simp [f5] at t0 t1 t2 t3 t4
                go_simp
                have hne : b6 ≠ b7 := by have := N67.out; omega
                have R6n := Hid.mk' (st5_row R6.out (show b6 ≠ b7 by omega) (.int .i64 g1) (.int .u8 (m1 : Int)) (.slice pa1 pn1 pc1) (.int .i64 (many : Int)) (.slice ba1 many bc1))
                have R7n := Hid.mk' (row5_set5 R7.out (.int .i64 g1) (.int .u8 (m1 : Int)) (.slice pa1 pn1 pc1) (.int .i64 (many : Int)) (.slice ba1 many bc1))
                have L0n := Hid.mk' (st5_ltr L0.out E70.out (.int .i64 g1) (.int .u8 (m1 : Int)) (.slice pa1 pn1 pc1) (.int .i64 (many : Int)) (.slice ba1 many bc1))
                have L1n := Hid.mk' (st5_ltr L1.out E71.out (.int .i64 g1) (.int .u8 (m1 : Int)) (.slice pa1 pn1 pc1) (.int .i64 (many : Int)) (.slice ba1 many bc1))
                have hnew : Kept w1 (st5 wv21 b7 (.int .i64 g1) (.int .u8 (m1 : Int)) (.slice pa1 pn1 pc1) (.int .i64 (many : Int)) (.slice ba1 many bc1)) none ∧ (st5 wv21 b7 (.int .i64 g1) (.int .u8 (m1 : Int)) (.slice pa1 pn1 pc1) (.int .i64 (many : Int)) (.slice ba1 many bc1)).cell? ⟨w.heap.size, 0, none⟩ = some (.slice a n c) := ⟨st5_kept hHeld.1 Z7.out (.int .i64 g1) (.int .u8 (m1 : Int)) (.slice pa1 pn1 pc1) (.int .i64 (many : Int)) (.slice ba1 many bc1), by (have h7 := HLA.out; have h8 := Z7.out; exact (st5_cell (show w.heap.size ≠ b7 by omega) (.int .i64 g1) (.int .u8 (m1 : Int)) (.slice pa1 pn1 pc1) (.int .i64 (many : Int)) (.slice ba1 many bc1)).trans hHeld.2)⟩
                refine hK.out _ _ hnew (fun hHeld => ?_)
                clear hK K hnew t0 t1 t2 t3 t4 y0 y1 y2 y3 y4 R6 R7 L0 L1 hne
                have R6 := R6n
                have R7 := R7n
                have L0 := L0n
                have L1 := L1n
                clear R6n R7n L0n L1n
                dsimp only [st5] at hHeld R6 R7 L0 L1
                obtain ⟨wv23, hwv23⟩ : ∃ v, (((((wv21.setCell ⟨b7, 0, none⟩ (.int .i64 g1)).setCell ⟨b7, 1, none⟩ (.int .u8 (m1 : Int))).setCell ⟨b7, 2, none⟩ (.slice pa1 pn1 pc1)).setCell ⟨b7, 3, none⟩ (.int .i64 (many : Int))).setCell ⟨b7, 4, none⟩ (.slice ba1 many bc1)) = v := ⟨_, rfl⟩
                rw [hwv23] at hHeld R6 R7 L0 L1 ⊢
                clear hwv23
                refine wpAnyH_done (by kernel_rfl) ?_ _
                with_unfolding_all exact ⟨b6, b7, pa0, pn0, pc0, ba0, bc0, pa1, pn1, pc1, ba1, bc1, rfl, R6, R7, Hid.mk' ((P0.out.ltr L0.out).mono (by have := V0.out.1; have := HZA.out; omega)), Hid.mk' ((P1.out.ltr L1.out).mono (by have := V1.out.1; have := HZA.out; omega)), Hid.mk' ((BB0.out.ltr L0.out).mono (by have := V0.out.1; have := HZA.out; omega)), Hid.mk' ((BB1.out.ltr L1.out).mono (by have := V1.out.1; have := HZA.out; omega)), Hid.mk' ⟨by have := Z6.out; have := HZA.out; omega, by have := Z7.out; have := HZA.out; omega⟩, Hid.mk' (hkA.tr hHeld.1), Hid.mk' (rowK RA1.out hHeld.1), Hid.mk' (rowK RA2.out hHeld.1)⟩
      case rz7x6 =>
        have L0b := L0
        go_simp
        have hk : Kept wv6 (wv6.alloc (.cells #[.int .i64 0, .int .u8 0, .slice none 0 0, .int .i64 0, .slice none 0 0] 66)) none := Kept.alloc _ _ _ _ _
        have L0 := Hid.mk' (L0.out.tr hk.toLtr)
        have R6 := Hid.mk' (row5 wv6 (.int .i64 0) (.int .u8 0) (.slice none 0 0) (.int .i64 0) (.slice none 0 0) 66)
        have hz := hHeld.1.size
        have Z6 : Hid (w1.heap.size ≤ wv6.heap.size) := Hid.mk' hz
        have SZ60 := L0b.out.size
        clear L0b
        have hnew : Kept w1 (wv6.alloc (.cells #[.int .i64 0, .int .u8 0, .slice none 0 0, .int .i64 0, .slice none 0 0] 66)) none ∧ (wv6.alloc (.cells #[.int .i64 0, .int .u8 0, .slice none 0 0, .int .i64 0, .slice none 0 0] 66)).cell? ⟨w.heap.size, 0, none⟩ = some (.slice a n c) := ⟨hHeld.1.tr hk, (cell_kpt hk (Nat.lt_of_lt_of_le HLA.out hHeld.1.size)).trans hHeld.2⟩
        refine hK.out _ _ hnew (fun hHeld => ?_)
        clear hK K hnew hk hz
        obtain ⟨wv24, hwv24⟩ : ∃ v, (wv6.alloc (.cells #[.int .i64 0, .int .u8 0, .slice none 0 0, .int .i64 0, .slice none 0 0] 66)) = v := ⟨_, rfl⟩
        rw [hwv24] at hHeld R6 L0 ⊢
        clear hwv24
        obtain ⟨b6, hb6⟩ : ∃ v, wv6.heap.size = v := ⟨_, rfl⟩
        have HB6 := Hid.mk' hb6
        try rw [hb6] at R6
        try rw [hb6] at Z6
        have E60 : Hid (b6 < w0.heap.size ∨ wv6.heap.size ≤ b6) := Hid.mk' (.inr (by rw [← hb6]; exact SZ60))
        clear SZ60
        rw [hb6]
        clear hb6
        refine wpAnyH_ready (rs := [5, 7]) (by kernel_rfl) (by simp) ?_
        refine (AllReadyH.cons rfl (fun K hK => ?rz25x5) (AllReadyH.cons rfl (fun K hK => ?rz25x7) AllReadyH.nil))
        case rz25x5 =>
          go_simp
          go_wp2_with (go_at_call 34; refine (HC1.out wv24 (hkA.tr hHeld.1)).mono ?_; rintro e wv26 ⟨pa1, pn1, pc1, ba1, bc1, rfl, hp, hb, hk⟩)
          have P1 := Hid.mk' hp
          have BB1 := Hid.mk' hb
          have hz1 := hHeld.1.size
          have hs1 := hk.size
          have E61 : Hid (b6 < wv24.heap.size ∨ wv26.heap.size ≤ b6) := Hid.mk' (.inl R6.out.lt)
          have R6 := Hid.mk' (rowK R6.out hk)
          have L0 := Hid.mk' (L0.out.tr hk.toLtr)
          have L1 := Hid.mk' (Ltr.refl wv24.heap.size wv26)
          have hnew : Kept w1 wv26 none ∧ wv26.cell? ⟨w.heap.size, 0, none⟩ = some (.slice a n c) := ⟨hHeld.1.tr hk, (cell_kpt hk (Nat.lt_of_lt_of_le HLA.out hHeld.1.size)).trans hHeld.2⟩
          have V1 : Hid (w1.heap.size ≤ wv24.heap.size ∧ wv24.heap.size ≤ wv26.heap.size) := Hid.mk' ⟨hz1, hs1⟩
          clear hp hb hk hz1 hs1
          refine hK.out _ _ hnew (fun hHeld => ?_)
          clear hK K hnew
          refine wpAnyH_ready (rs := [7]) (by kernel_rfl) (by simp) ?_
          refine (AllReadyH.cons rfl (fun K hK => ?rz27x7) AllReadyH.nil)
          case rz27x7 =>
            have L0b := L0
            have L1b := L1
            have R6b := R6
            go_simp
            have hk : Kept wv26 (wv26.alloc (.cells #[.int .i64 0, .int .u8 0, .slice none 0 0, .int .i64 0, .slice none 0 0] 66)) none := Kept.alloc _ _ _ _ _
            have R6 := Hid.mk' (rowK R6.out hk)
            have L0 := Hid.mk' (L0.out.tr hk.toLtr)
            have L1 := Hid.mk' (L1.out.tr hk.toLtr)
            have R7 := Hid.mk' (row5 wv26 (.int .i64 0) (.int .u8 0) (.slice none 0 0) (.int .i64 0) (.slice none 0 0) 66)
            have hz := hHeld.1.size
            have Z7 : Hid (w1.heap.size ≤ wv26.heap.size) := Hid.mk' hz
            have SZ70 := L0b.out.size
            have SZ71 := L1b.out.size
            have N67 : Hid (b6 < wv26.heap.size) := Hid.mk' R6b.out.lt
            clear L0b
            clear L1b
            clear R6b
            have hnew : Kept w1 (wv26.alloc (.cells #[.int .i64 0, .int .u8 0, .slice none 0 0, .int .i64 0, .slice none 0 0] 66)) none ∧ (wv26.alloc (.cells #[.int .i64 0, .int .u8 0, .slice none 0 0, .int .i64 0, .slice none 0 0] 66)).cell? ⟨w.heap.size, 0, none⟩ = some (.slice a n c) := ⟨hHeld.1.tr hk, (cell_kpt hk (Nat.lt_of_lt_of_le HLA.out hHeld.1.size)).trans hHeld.2⟩
            refine hK.out _ _ hnew (fun hHeld => ?_)
            clear hK K hnew hk hz
            obtain ⟨wv28, hwv28⟩ : ∃ v, (wv26.alloc (.cells #[.int .i64 0, .int .u8 0, .slice none 0 0, .int .i64 0, .slice none 0 0] 66)) = v := ⟨_, rfl⟩
            rw [hwv28] at hHeld R6 R7 L0 L1 ⊢
            clear hwv28
            obtain ⟨b7, hb7⟩ : ∃ v, wv26.heap.size = v := ⟨_, rfl⟩
            have HB7 := Hid.mk' hb7
            try rw [hb7] at R7
            try rw [hb7] at Z7
            try rw [hb7] at N67
            have E70 : Hid (b7 < w0.heap.size ∨ wv6.heap.size ≤ b7) := Hid.mk' (.inr (by rw [← hb7]; exact SZ70))
            clear SZ70
            have E71 : Hid (b7 < wv24.heap.size ∨ wv26.heap.size ≤ b7) := Hid.mk' (.inr (by rw [← hb7]; exact SZ71))
            clear SZ71
            rw [hb7]
            clear hb7
            refine wpAnyH_ready (rs := [8]) (by kernel_rfl) (by simp) ?_
            refine (AllReadyH.cons rfl (fun K hK => ?rz29x8) AllReadyH.nil)
            case rz29x8 =>
              have t0 := R6.out.cell (i := 0) (by omega)
              have y0 := R6.out.frozen 0
              have t1 := R6.out.cell (i := 1) (by omega)
              have y1 := R6.out.frozen 1
              have t2 := R6.out.cell (i := 2) (by omega)
              have y2 := R6.out.frozen 2
              have t3 := R6.out.cell (i := 3) (by omega)
              have y3 := R6.out.frozen 3
              have t4 := R6.out.cell (i := 4) (by omega)
              have y4 := R6.out.frozen 4
              simp [f5] at t0 t1 t2 t3 t4
              go_simp
              have hne : b6 ≠ b7 := by have := N67.out; omega
              have R7n := Hid.mk' (st5_row R7.out (show b7 ≠ b6 by omega) (.int .i64 g0) (.int .u8 (m0 : Int)) (.slice pa0 pn0 pc0) (.int .i64 0) (.slice ba0 many bc0))
              have R6n := Hid.mk' (row5_set5 R6.out (.int .i64 g0) (.int .u8 (m0 : Int)) (.slice pa0 pn0 pc0) (.int .i64 0) (.slice ba0 many bc0))
              have L0n := Hid.mk' (st5_ltr L0.out E60.out (.int .i64 g0) (.int .u8 (m0 : Int)) (.slice pa0 pn0 pc0) (.int .i64 0) (.slice ba0 many bc0))
              have L1n := Hid.mk' (st5_ltr L1.out E61.out (.int .i64 g0) (.int .u8 (m0 : Int)) (.slice pa0 pn0 pc0) (.int .i64 0) (.slice ba0 many bc0))
              have hnew : Kept w1 (st5 wv28 b6 (.int .i64 g0) (.int .u8 (m0 : Int)) (.slice pa0 pn0 pc0) (.int .i64 0) (.slice ba0 many bc0)) none ∧ (st5 wv28 b6 (.int .i64 g0) (.int .u8 (m0 : Int)) (.slice pa0 pn0 pc0) (.int .i64 0) (.slice ba0 many bc0)).cell? ⟨w.heap.size, 0, none⟩ = some (.slice a n c) := ⟨st5_kept hHeld.1 Z6.out (.int .i64 g0) (.int .u8 (m0 : Int)) (.slice pa0 pn0 pc0) (.int .i64 0) (.slice ba0 many bc0), by (have h7 := HLA.out; have h8 := Z6.out; exact (st5_cell (show w.heap.size ≠ b6 by omega) (.int .i64 g0) (.int .u8 (m0 : Int)) (.slice pa0 pn0 pc0) (.int .i64 0) (.slice ba0 many bc0)).trans hHeld.2)⟩
              refine hK.out _ _ hnew (fun hHeld => ?_)
              clear hK K hnew t0 t1 t2 t3 t4 y0 y1 y2 y3 y4 R6 R7 L0 L1 hne
              have R6 := R6n
              have R7 := R7n
              have L0 := L0n
              have L1 := L1n
              clear R6n R7n L0n L1n
              dsimp only [st5] at hHeld R6 R7 L0 L1
              obtain ⟨wv30, hwv30⟩ : ∃ v, (((((wv28.setCell ⟨b6, 0, none⟩ (.int .i64 g0)).setCell ⟨b6, 1, none⟩ (.int .u8 (m0 : Int))).setCell ⟨b6, 2, none⟩ (.slice pa0 pn0 pc0)).setCell ⟨b6, 3, none⟩ (.int .i64 0)).setCell ⟨b6, 4, none⟩ (.slice ba0 many bc0)) = v := ⟨_, rfl⟩
              rw [hwv30] at hHeld R6 R7 L0 L1 ⊢
              clear hwv30
              refine wpAnyH_ready (rs := [9]) (by kernel_rfl) (by simp) ?_
              refine (AllReadyH.cons rfl (fun K hK => ?rz31x9) AllReadyH.nil)
              case rz31x9 =>
                have t0 := R7.out.cell (i := 0) (by omega)
                have y0 := R7.out.frozen 0
                have t1 := R7.out.cell (i := 1) (by omega)
                have y1 := R7.out.frozen 1
                have t2 := R7.out.cell (i := 2) (by omega)
                have y2 := R7.out.frozen 2
                have t3 := R7.out.cell (i := 3) (by omega)
                have y3 := R7.out.frozen 3
                have t4 := R7.out.cell (i := 4) (by omega)
                have y4 := R7.out.frozen 4
                simp [f5] at t0 t1 t2 t3 t4
                go_simp
                have hne : b6 ≠ b7 := by have := N67.out; omega
                have R6n := Hid.mk' (st5_row R6.out (show b6 ≠ b7 by omega) (.int .i64 g1) (.int .u8 (m1 : Int)) (.slice pa1 pn1 pc1) (.int .i64 (many : Int)) (.slice ba1 many bc1))
                have R7n := Hid.mk' (row5_set5 R7.out (.int .i64 g1) (.int .u8 (m1 : Int)) (.slice pa1 pn1 pc1) (.int .i64 (many : Int)) (.slice ba1 many bc1))
                have L0n := Hid.mk' (st5_ltr L0.out E70.out (.int .i64 g1) (.int .u8 (m1 : Int)) (.slice pa1 pn1 pc1) (.int .i64 (many : Int)) (.slice ba1 many bc1))
                have L1n := Hid.mk' (st5_ltr L1.out E71.out (.int .i64 g1) (.int .u8 (m1 : Int)) (.slice pa1 pn1 pc1) (.int .i64 (many : Int)) (.slice ba1 many bc1))
                have hnew : Kept w1 (st5 wv30 b7 (.int .i64 g1) (.int .u8 (m1 : Int)) (.slice pa1 pn1 pc1) (.int .i64 (many : Int)) (.slice ba1 many bc1)) none ∧ (st5 wv30 b7 (.int .i64 g1) (.int .u8 (m1 : Int)) (.slice pa1 pn1 pc1) (.int .i64 (many : Int)) (.slice ba1 many bc1)).cell? ⟨w.heap.size, 0, none⟩ = some (.slice a n c) := ⟨st5_kept hHeld.1 Z7.out (.int .i64 g1) (.int .u8 (m1 : Int)) (.slice pa1 pn1 pc1) (.int .i64 (many : Int)) (.slice ba1 many bc1), by (have h7 := HLA.out; have h8 := Z7.out; exact (st5_cell (show w.heap.size ≠ b7 by omega) (.int .i64 g1) (.int .u8 (m1 : Int)) (.slice pa1 pn1 pc1) (.int .i64 (many : Int)) (.slice ba1 many bc1)).trans hHeld.2)⟩
                refine hK.out _ _ hnew (fun hHeld => ?_)
                clear hK K hnew t0 t1 t2 t3 t4 y0 y1 y2 y3 y4 R6 R7 L0 L1 hne
                have R6 := R6n
                have R7 := R7n
                have L0 := L0n
                have L1 := L1n
                clear R6n R7n L0n L1n
                dsimp only [st5] at hHeld R6 R7 L0 L1
                obtain ⟨wv32, hwv32⟩ : ∃ v, (((((wv30.setCell ⟨b7, 0, none⟩ (.int .i64 g1)).setCell ⟨b7, 1, none⟩ (.int .u8 (m1 : Int))).setCell ⟨b7, 2, none⟩ (.slice pa1 pn1 pc1)).setCell ⟨b7, 3, none⟩ (.int .i64 (many : Int))).setCell ⟨b7, 4, none⟩ (.slice ba1 many bc1)) = v := ⟨_, rfl⟩
                rw [hwv32] at hHeld R6 R7 L0 L1 ⊢
                clear hwv32
                refine wpAnyH_done (by kernel_rfl) ?_ _
                with_unfolding_all exact ⟨b6, b7, pa0, pn0, pc0, ba0, bc0, pa1, pn1, pc1, ba1, bc1, rfl, R6, R7, Hid.mk' ((P0.out.ltr L0.out).mono (by have := V0.out.1; have := HZA.out; omega)), Hid.mk' ((P1.out.ltr L1.out).mono (by have := V1.out.1; have := HZA.out; omega)), Hid.mk' ((BB0.out.ltr L0.out).mono (by have := V0.out.1; have := HZA.out; omega)), Hid.mk' ((BB1.out.ltr L1.out).mono (by have := V1.out.1; have := HZA.out; omega)), Hid.mk' ⟨by have := Z6.out; have := HZA.out; omega, by have := Z7.out; have := HZA.out; omega⟩, Hid.mk' (hkA.tr hHeld.1), Hid.mk' (rowK RA1.out hHeld.1), Hid.mk' (rowK RA2.out hHeld.1)⟩
        case rz25x7 =>
          have L0b := L0
          have R6b := R6
          go_simp
          have hk : Kept wv24 (wv24.alloc (.cells #[.int .i64 0, .int .u8 0, .slice none 0 0, .int .i64 0, .slice none 0 0] 66)) none := Kept.alloc _ _ _ _ _
          have R6 := Hid.mk' (rowK R6.out hk)
          have L0 := Hid.mk' (L0.out.tr hk.toLtr)
          have R7 := Hid.mk' (row5 wv24 (.int .i64 0) (.int .u8 0) (.slice none 0 0) (.int .i64 0) (.slice none 0 0) 66)
          have hz := hHeld.1.size
          have Z7 : Hid (w1.heap.size ≤ wv24.heap.size) := Hid.mk' hz
          have SZ70 := L0b.out.size
          have N67 : Hid (b6 < wv24.heap.size) := Hid.mk' R6b.out.lt
          clear L0b
          clear R6b
          have hnew : Kept w1 (wv24.alloc (.cells #[.int .i64 0, .int .u8 0, .slice none 0 0, .int .i64 0, .slice none 0 0] 66)) none ∧ (wv24.alloc (.cells #[.int .i64 0, .int .u8 0, .slice none 0 0, .int .i64 0, .slice none 0 0] 66)).cell? ⟨w.heap.size, 0, none⟩ = some (.slice a n c) := ⟨hHeld.1.tr hk, (cell_kpt hk (Nat.lt_of_lt_of_le HLA.out hHeld.1.size)).trans hHeld.2⟩
          refine hK.out _ _ hnew (fun hHeld => ?_)
          clear hK K hnew hk hz
          obtain ⟨wv33, hwv33⟩ : ∃ v, (wv24.alloc (.cells #[.int .i64 0, .int .u8 0, .slice none 0 0, .int .i64 0, .slice none 0 0] 66)) = v := ⟨_, rfl⟩
          rw [hwv33] at hHeld R6 R7 L0 ⊢
          clear hwv33
          obtain ⟨b7, hb7⟩ : ∃ v, wv24.heap.size = v := ⟨_, rfl⟩
          have HB7 := Hid.mk' hb7
          try rw [hb7] at R7
          try rw [hb7] at Z7
          try rw [hb7] at N67
          have E70 : Hid (b7 < w0.heap.size ∨ wv6.heap.size ≤ b7) := Hid.mk' (.inr (by rw [← hb7]; exact SZ70))
          clear SZ70
          rw [hb7]
          clear hb7
          refine wpAnyH_ready (rs := [5]) (by kernel_rfl) (by simp) ?_
          refine (AllReadyH.cons rfl (fun K hK => ?rz34x5) AllReadyH.nil)
          case rz34x5 =>
            go_simp
            go_wp2_with (go_at_call 34; refine (HC1.out wv33 (hkA.tr hHeld.1)).mono ?_; rintro e wv35 ⟨pa1, pn1, pc1, ba1, bc1, rfl, hp, hb, hk⟩)
            have P1 := Hid.mk' hp
            have BB1 := Hid.mk' hb
            have hz1 := hHeld.1.size
            have hs1 := hk.size
            have E61 : Hid (b6 < wv33.heap.size ∨ wv35.heap.size ≤ b6) := Hid.mk' (.inl R6.out.lt)
            have E71 : Hid (b7 < wv33.heap.size ∨ wv35.heap.size ≤ b7) := Hid.mk' (.inl R7.out.lt)
            have R6 := Hid.mk' (rowK R6.out hk)
            have R7 := Hid.mk' (rowK R7.out hk)
            have L0 := Hid.mk' (L0.out.tr hk.toLtr)
            have L1 := Hid.mk' (Ltr.refl wv33.heap.size wv35)
            have hnew : Kept w1 wv35 none ∧ wv35.cell? ⟨w.heap.size, 0, none⟩ = some (.slice a n c) := ⟨hHeld.1.tr hk, (cell_kpt hk (Nat.lt_of_lt_of_le HLA.out hHeld.1.size)).trans hHeld.2⟩
            have V1 : Hid (w1.heap.size ≤ wv33.heap.size ∧ wv33.heap.size ≤ wv35.heap.size) := Hid.mk' ⟨hz1, hs1⟩
            clear hp hb hk hz1 hs1
            refine hK.out _ _ hnew (fun hHeld => ?_)
            clear hK K hnew
            refine wpAnyH_ready (rs := [8]) (by kernel_rfl) (by simp) ?_
            refine (AllReadyH.cons rfl (fun K hK => ?rz36x8) AllReadyH.nil)
            case rz36x8 =>
              have t0 := R6.out.cell (i := 0) (by omega)
              have y0 := R6.out.frozen 0
              have t1 := R6.out.cell (i := 1) (by omega)
              have y1 := R6.out.frozen 1
              have t2 := R6.out.cell (i := 2) (by omega)
              have y2 := R6.out.frozen 2
              have t3 := R6.out.cell (i := 3) (by omega)
              have y3 := R6.out.frozen 3
              have t4 := R6.out.cell (i := 4) (by omega)
              have y4 := R6.out.frozen 4
              simp [f5] at t0 t1 t2 t3 t4
              go_simp
              have hne : b6 ≠ b7 := by have := N67.out; omega
              have R7n := Hid.mk' (st5_row R7.out (show b7 ≠ b6 by omega) (.int .i64 g0) (.int .u8 (m0 : Int)) (.slice pa0 pn0 pc0) (.int .i64 0) (.slice ba0 many bc0))
              have R6n := Hid.mk' (row5_set5 R6.out (.int .i64 g0) (.int .u8 (m0 : Int)) (.slice pa0 pn0 pc0) (.int .i64 0) (.slice ba0 many bc0))
              have L0n := Hid.mk' (st5_ltr L0.out E60.out (.int .i64 g0) (.int .u8 (m0 : Int)) (.slice pa0 pn0 pc0) (.int .i64 0) (.slice ba0 many bc0))
              have L1n := Hid.mk' (st5_ltr L1.out E61.out (.int .i64 g0) (.int .u8 (m0 : Int)) (.slice pa0 pn0 pc0) (.int .i64 0) (.slice ba0 many bc0))
              have hnew : Kept w1 (st5 wv35 b6 (.int .i64 g0) (.int .u8 (m0 : Int)) (.slice pa0 pn0 pc0) (.int .i64 0) (.slice ba0 many bc0)) none ∧ (st5 wv35 b6 (.int .i64 g0) (.int .u8 (m0 : Int)) (.slice pa0 pn0 pc0) (.int .i64 0) (.slice ba0 many bc0)).cell? ⟨w.heap.size, 0, none⟩ = some (.slice a n c) := ⟨st5_kept hHeld.1 Z6.out (.int .i64 g0) (.int .u8 (m0 : Int)) (.slice pa0 pn0 pc0) (.int .i64 0) (.slice ba0 many bc0), by (have h7 := HLA.out; have h8 := Z6.out; exact (st5_cell (show w.heap.size ≠ b6 by omega) (.int .i64 g0) (.int .u8 (m0 : Int)) (.slice pa0 pn0 pc0) (.int .i64 0) (.slice ba0 many bc0)).trans hHeld.2)⟩
              refine hK.out _ _ hnew (fun hHeld => ?_)
              clear hK K hnew t0 t1 t2 t3 t4 y0 y1 y2 y3 y4 R6 R7 L0 L1 hne
              have R6 := R6n
              have R7 := R7n
              have L0 := L0n
              have L1 := L1n
              clear R6n R7n L0n L1n
              dsimp only [st5] at hHeld R6 R7 L0 L1
              obtain ⟨wv37, hwv37⟩ : ∃ v, (((((wv35.setCell ⟨b6, 0, none⟩ (.int .i64 g0)).setCell ⟨b6, 1, none⟩ (.int .u8 (m0 : Int))).setCell ⟨b6, 2, none⟩ (.slice pa0 pn0 pc0)).setCell ⟨b6, 3, none⟩ (.int .i64 0)).setCell ⟨b6, 4, none⟩ (.slice ba0 many bc0)) = v := ⟨_, rfl⟩
              rw [hwv37] at hHeld R6 R7 L0 L1 ⊢
              clear hwv37
              refine wpAnyH_ready (rs := [9]) (by kernel_rfl) (by simp) ?_
              refine (AllReadyH.cons rfl (fun K hK => ?rz38x9) AllReadyH.nil)
              case rz38x9 =>
                have t0 := R7.out.cell (i := 0) (by omega)
                have y0 := R7.out.frozen 0
                have t1 := R7.out.cell (i := 1) (by omega)
                have y1 := R7.out.frozen 1
                have t2 := R7.out.cell (i := 2) (by omega)
                have y2 := R7.out.frozen 2
                have t3 := R7.out.cell (i := 3) (by omega)
                have y3 := R7.out.frozen 3
                have t4 := R7.out.cell (i := 4) (by omega)
                have y4 := R7.out.frozen 4
                simp [f5] at t0 t1 t2 t3 t4
                go_simp
                have hne : b6 ≠ b7 := by have := N67.out; omega
                have R6n := Hid.mk' (st5_row R6.out (show b6 ≠ b7 by omega) (.int .i64 g1) (.int .u8 (m1 : Int)) (.slice pa1 pn1 pc1) (.int .i64 (many : Int)) (.slice ba1 many bc1))
                have R7n := Hid.mk' (row5_set5 R7.out (.int .i64 g1) (.int .u8 (m1 : Int)) (.slice pa1 pn1 pc1) (.int .i64 (many : Int)) (.slice ba1 many bc1))
                have L0n := Hid.mk' (st5_ltr L0.out E70.out (.int .i64 g1) (.int .u8 (m1 : Int)) (.slice pa1 pn1 pc1) (.int .i64 (many : Int)) (.slice ba1 many bc1))
                have L1n := Hid.mk' (st5_ltr L1.out E71.out (.int .i64 g1) (.int .u8 (m1 : Int)) (.slice pa1 pn1 pc1) (.int .i64 (many : Int)) (.slice ba1 many bc1))
                have hnew : Kept w1 (st5 wv37 b7 (.int .i64 g1) (.int .u8 (m1 : Int)) (.slice pa1 pn1 pc1) (.int .i64 (many : Int)) (.slice ba1 many bc1)) none ∧ (st5 wv37 b7 (.int .i64 g1) (.int .u8 (m1 : Int)) (.slice pa1 pn1 pc1) (.int .i64 (many : Int)) (.slice ba1 many bc1)).cell? ⟨w.heap.size, 0, none⟩ = some (.slice a n c) := ⟨st5_kept hHeld.1 Z7.out (.int .i64 g1) (.int .u8 (m1 : Int)) (.slice pa1 pn1 pc1) (.int .i64 (many : Int)) (.slice ba1 many bc1), by (have h7 := HLA.out; have h8 := Z7.out; exact (st5_cell (show w.heap.size ≠ b7 by omega) (.int .i64 g1) (.int .u8 (m1 : Int)) (.slice pa1 pn1 pc1) (.int .i64 (many : Int)) (.slice ba1 many bc1)).trans hHeld.2)⟩
                refine hK.out _ _ hnew (fun hHeld => ?_)
                clear hK K hnew t0 t1 t2 t3 t4 y0 y1 y2 y3 y4 R6 R7 L0 L1 hne
                have R6 := R6n
                have R7 := R7n
                have L0 := L0n
                have L1 := L1n
                clear R6n R7n L0n L1n
                dsimp only [st5] at hHeld R6 R7 L0 L1
                obtain ⟨wv39, hwv39⟩ : ∃ v, (((((wv37.setCell ⟨b7, 0, none⟩ (.int .i64 g1)).setCell ⟨b7, 1, none⟩ (.int .u8 (m1 : Int))).setCell ⟨b7, 2, none⟩ (.slice pa1 pn1 pc1)).setCell ⟨b7, 3, none⟩ (.int .i64 (many : Int))).setCell ⟨b7, 4, none⟩ (.slice ba1 many bc1)) = v := ⟨_, rfl⟩
                rw [hwv39] at hHeld R6 R7 L0 L1 ⊢
                clear hwv39
                refine wpAnyH_done (by kernel_rfl) ?_ _
                with_unfolding_all exact ⟨b6, b7, pa0, pn0, pc0, ba0, bc0, pa1, pn1, pc1, ba1, bc1, rfl, R6, R7, Hid.mk' ((P0.out.ltr L0.out).mono (by have := V0.out.1; have := HZA.out; omega)), Hid.mk' ((P1.out.ltr L1.out).mono (by have := V1.out.1; have := HZA.out; omega)), Hid.mk' ((BB0.out.ltr L0.out).mono (by have := V0.out.1; have := HZA.out; omega)), Hid.mk' ((BB1.out.ltr L1.out).mono (by have := V1.out.1; have := HZA.out; omega)), Hid.mk' ⟨by have := Z6.out; have := HZA.out; omega, by have := Z7.out; have := HZA.out; omega⟩, Hid.mk' (hkA.tr hHeld.1), Hid.mk' (rowK RA1.out hHeld.1), Hid.mk' (rowK RA2.out hHeld.1)⟩
      case rz7x7 =>
        have L0b := L0
        go_simp
        have hk : Kept wv6 (wv6.alloc (.cells #[.int .i64 0, .int .u8 0, .slice none 0 0, .int .i64 0, .slice none 0 0] 66)) none := Kept.alloc _ _ _ _ _
        have L0 := Hid.mk' (L0.out.tr hk.toLtr)
        have R7 := Hid.mk' (row5 wv6 (.int .i64 0) (.int .u8 0) (.slice none 0 0) (.int .i64 0) (.slice none 0 0) 66)
        have hz := hHeld.1.size
        have Z7 : Hid (w1.heap.size ≤ wv6.heap.size) := Hid.mk' hz
        have SZ70 := L0b.out.size
        clear L0b
        have hnew : Kept w1 (wv6.alloc (.cells #[.int .i64 0, .int .u8 0, .slice none 0 0, .int .i64 0, .slice none 0 0] 66)) none ∧ (wv6.alloc (.cells #[.int .i64 0, .int .u8 0, .slice none 0 0, .int .i64 0, .slice none 0 0] 66)).cell? ⟨w.heap.size, 0, none⟩ = some (.slice a n c) := ⟨hHeld.1.tr hk, (cell_kpt hk (Nat.lt_of_lt_of_le HLA.out hHeld.1.size)).trans hHeld.2⟩
        refine hK.out _ _ hnew (fun hHeld => ?_)
        clear hK K hnew hk hz
        obtain ⟨wv40, hwv40⟩ : ∃ v, (wv6.alloc (.cells #[.int .i64 0, .int .u8 0, .slice none 0 0, .int .i64 0, .slice none 0 0] 66)) = v := ⟨_, rfl⟩
        rw [hwv40] at hHeld R7 L0 ⊢
        clear hwv40
        obtain ⟨b7, hb7⟩ : ∃ v, wv6.heap.size = v := ⟨_, rfl⟩
        have HB7 := Hid.mk' hb7
        try rw [hb7] at R7
        try rw [hb7] at Z7
        have E70 : Hid (b7 < w0.heap.size ∨ wv6.heap.size ≤ b7) := Hid.mk' (.inr (by rw [← hb7]; exact SZ70))
        clear SZ70
        rw [hb7]
        clear hb7
        refine wpAnyH_ready (rs := [5, 6]) (by kernel_rfl) (by simp) ?_
        refine (AllReadyH.cons rfl (fun K hK => ?rz41x5) (AllReadyH.cons rfl (fun K hK => ?rz41x6) AllReadyH.nil))
        case rz41x5 =>
          go_simp
          go_wp2_with (go_at_call 34; refine (HC1.out wv40 (hkA.tr hHeld.1)).mono ?_; rintro e wv42 ⟨pa1, pn1, pc1, ba1, bc1, rfl, hp, hb, hk⟩)
          have P1 := Hid.mk' hp
          have BB1 := Hid.mk' hb
          have hz1 := hHeld.1.size
          have hs1 := hk.size
          have E71 : Hid (b7 < wv40.heap.size ∨ wv42.heap.size ≤ b7) := Hid.mk' (.inl R7.out.lt)
          have R7 := Hid.mk' (rowK R7.out hk)
          have L0 := Hid.mk' (L0.out.tr hk.toLtr)
          have L1 := Hid.mk' (Ltr.refl wv40.heap.size wv42)
          have hnew : Kept w1 wv42 none ∧ wv42.cell? ⟨w.heap.size, 0, none⟩ = some (.slice a n c) := ⟨hHeld.1.tr hk, (cell_kpt hk (Nat.lt_of_lt_of_le HLA.out hHeld.1.size)).trans hHeld.2⟩
          have V1 : Hid (w1.heap.size ≤ wv40.heap.size ∧ wv40.heap.size ≤ wv42.heap.size) := Hid.mk' ⟨hz1, hs1⟩
          clear hp hb hk hz1 hs1
          refine hK.out _ _ hnew (fun hHeld => ?_)
          clear hK K hnew
          refine wpAnyH_ready (rs := [6]) (by kernel_rfl) (by simp) ?_
          refine (AllReadyH.cons rfl (fun K hK => ?rz43x6) AllReadyH.nil)
          case rz43x6 =>
            have L0b := L0
            have L1b := L1
            have R7b := R7
            go_simp
            have hk : Kept wv42 (wv42.alloc (.cells #[.int .i64 0, .int .u8 0, .slice none 0 0, .int .i64 0, .slice none 0 0] 66)) none := Kept.alloc _ _ _ _ _
            have R7 := Hid.mk' (rowK R7.out hk)
            have L0 := Hid.mk' (L0.out.tr hk.toLtr)
            have L1 := Hid.mk' (L1.out.tr hk.toLtr)
            have R6 := Hid.mk' (row5 wv42 (.int .i64 0) (.int .u8 0) (.slice none 0 0) (.int .i64 0) (.slice none 0 0) 66)
            have hz := hHeld.1.size
            have Z6 : Hid (w1.heap.size ≤ wv42.heap.size) := Hid.mk' hz
            have SZ60 := L0b.out.size
            have SZ61 := L1b.out.size
            have N67 : Hid (b7 < wv42.heap.size) := Hid.mk' R7b.out.lt
            clear L0b
            clear L1b
            clear R7b
            have hnew : Kept w1 (wv42.alloc (.cells #[.int .i64 0, .int .u8 0, .slice none 0 0, .int .i64 0, .slice none 0 0] 66)) none ∧ (wv42.alloc (.cells #[.int .i64 0, .int .u8 0, .slice none 0 0, .int .i64 0, .slice none 0 0] 66)).cell? ⟨w.heap.size, 0, none⟩ = some (.slice a n c) := ⟨hHeld.1.tr hk, (cell_kpt hk (Nat.lt_of_lt_of_le HLA.out hHeld.1.size)).trans hHeld.2⟩
            refine hK.out _ _ hnew (fun hHeld => ?_)
            clear hK K hnew hk hz
            obtain ⟨wv44, hwv44⟩ : ∃ v, (wv42.alloc (.cells #[.int .i64 0, .int .u8 0, .slice none 0 0, .int .i64 0, .slice none 0 0] 66)) = v := ⟨_, rfl⟩
            rw [hwv44] at hHeld R7 R6 L0 L1 ⊢
            clear hwv44
            obtain ⟨b6, hb6⟩ : ∃ v, wv42.heap.size = v := ⟨_, rfl⟩
            have HB6 := Hid.mk' hb6
            try rw [hb6] at R6
            try rw [hb6] at Z6
            try rw [hb6] at N67
            have E60 : Hid (b6 < w0.heap.size ∨ wv6.heap.size ≤ b6) := Hid.mk' (.inr (by rw [← hb6]; exact SZ60))
            clear SZ60
            have E61 : Hid (b6 < wv40.heap.size ∨ wv42.heap.size ≤ b6) := Hid.mk' (.inr (by rw [← hb6]; exact SZ61))
            clear SZ61
            rw [hb6]
            clear hb6
            refine wpAnyH_ready (rs := [8]) (by kernel_rfl) (by simp) ?_
            refine (AllReadyH.cons rfl (fun K hK => ?rz45x8) AllReadyH.nil)
            case rz45x8 =>
              have t0 := R6.out.cell (i := 0) (by omega)
              have y0 := R6.out.frozen 0
              have t1 := R6.out.cell (i := 1) (by omega)
              have y1 := R6.out.frozen 1
              have t2 := R6.out.cell (i := 2) (by omega)
              have y2 := R6.out.frozen 2
              have t3 := R6.out.cell (i := 3) (by omega)
              have y3 := R6.out.frozen 3
              have t4 := R6.out.cell (i := 4) (by omega)
              have y4 := R6.out.frozen 4
              simp [f5] at t0 t1 t2 t3 t4
              go_simp
              have hne : b6 ≠ b7 := by have := N67.out; omega
              have R7n := Hid.mk' (st5_row R7.out (show b7 ≠ b6 by omega) (.int .i64 g0) (.int .u8 (m0 : Int)) (.slice pa0 pn0 pc0) (.int .i64 0) (.slice ba0 many bc0))
              have R6n := Hid.mk' (row5_set5 R6.out (.int .i64 g0) (.int .u8 (m0 : Int)) (.slice pa0 pn0 pc0) (.int .i64 0) (.slice ba0 many bc0))
              have L0n := Hid.mk' (st5_ltr L0.out E60.out (.int .i64 g0) (.int .u8 (m0 : Int)) (.slice pa0 pn0 pc0) (.int .i64 0) (.slice ba0 many bc0))
              have L1n := Hid.mk' (st5_ltr L1.out E61.out (.int .i64 g0) (.int .u8 (m0 : Int)) (.slice pa0 pn0 pc0) (.int .i64 0) (.slice ba0 many bc0))
              have hnew : Kept w1 (st5 wv44 b6 (.int .i64 g0) (.int .u8 (m0 : Int)) (.slice pa0 pn0 pc0) (.int .i64 0) (.slice ba0 many bc0)) none ∧ (st5 wv44 b6 (.int .i64 g0) (.int .u8 (m0 : Int)) (.slice pa0 pn0 pc0) (.int .i64 0) (.slice ba0 many bc0)).cell? ⟨w.heap.size, 0, none⟩ = some (.slice a n c) := ⟨st5_kept hHeld.1 Z6.out (.int .i64 g0) (.int .u8 (m0 : Int)) (.slice pa0 pn0 pc0) (.int .i64 0) (.slice ba0 many bc0), by (have h7 := HLA.out; have h8 := Z6.out; exact (st5_cell (show w.heap.size ≠ b6 by omega) (.int .i64 g0) (.int .u8 (m0 : Int)) (.slice pa0 pn0 pc0) (.int .i64 0) (.slice ba0 many bc0)).trans hHeld.2)⟩
              refine hK.out _ _ hnew (fun hHeld => ?_)
              clear hK K hnew t0 t1 t2 t3 t4 y0 y1 y2 y3 y4 R6 R7 L0 L1 hne
              have R6 := R6n
              have R7 := R7n
              have L0 := L0n
              have L1 := L1n
              clear R6n R7n L0n L1n
              dsimp only [st5] at hHeld R6 R7 L0 L1
              obtain ⟨wv46, hwv46⟩ : ∃ v, (((((wv44.setCell ⟨b6, 0, none⟩ (.int .i64 g0)).setCell ⟨b6, 1, none⟩ (.int .u8 (m0 : Int))).setCell ⟨b6, 2, none⟩ (.slice pa0 pn0 pc0)).setCell ⟨b6, 3, none⟩ (.int .i64 0)).setCell ⟨b6, 4, none⟩ (.slice ba0 many bc0)) = v := ⟨_, rfl⟩
              rw [hwv46] at hHeld R6 R7 L0 L1 ⊢
              clear hwv46
              refine wpAnyH_ready (rs := [9]) (by kernel_rfl) (by simp) ?_
              refine (AllReadyH.cons rfl (fun K hK => ?rz47x9) AllReadyH.nil)
              case rz47x9 =>
                have t0 := R7.out.cell (i := 0) (by omega)
                have y0 := R7.out.frozen 0
                have t1 := R7.out.cell (i := 1) (by omega)
                have y1 := R7.out.frozen 1
                have t2 := R7.out.cell (i := 2) (by omega)
                have y2 := R7.out.frozen 2
                have t3 := R7.out.cell (i := 3) (by omega)
                have y3 := R7.out.frozen 3
                have t4 := R7.out.cell (i := 4) (by omega)
                have y4 := R7.out.frozen 4
                simp [f5] at t0 t1 t2 t3 t4
                go_simp
                have hne : b6 ≠ b7 := by have := N67.out; omega
                have R6n := Hid.mk' (st5_row R6.out (show b6 ≠ b7 by omega) (.int .i64 g1) (.int .u8 (m1 : Int)) (.slice pa1 pn1 pc1) (.int .i64 (many : Int)) (.slice ba1 many bc1))
                have R7n := Hid.mk' (row5_set5 R7.out (.int .i64 g1) (.int .u8 (m1 : Int)) (.slice pa1 pn1 pc1) (.int .i64 (many : Int)) (.slice ba1 many bc1))
                have L0n := Hid.mk' (st5_ltr L0.out E70.out (.int .i64 g1) (.int .u8 (m1 : Int)) (.slice pa1 pn1 pc1) (.int .i64 (many : Int)) (.slice ba1 many bc1))
                have L1n := Hid.mk' (st5_ltr L1.out E71.out (.int .i64 g1) (.int .u8 (m1 : Int)) (.slice pa1 pn1 pc1) (.int .i64 (many : Int)) (.slice ba1 many bc1))
                have hnew : Kept w1 (st5 wv46 b7 (.int .i64 g1) (.int .u8 (m1 : Int)) (.slice pa1 pn1 pc1) (.int .i64 (many : Int)) (.slice ba1 many bc1)) none ∧ (st5 wv46 b7 (.int .i64 g1) (.int .u8 (m1 : Int)) (.slice pa1 pn1 pc1) (.int .i64 (many : Int)) (.slice ba1 many bc1)).cell? ⟨w.heap.size, 0, none⟩ = some (.slice a n c) := ⟨st5_kept hHeld.1 Z7.out (.int .i64 g1) (.int .u8 (m1 : Int)) (.slice pa1 pn1 pc1) (.int .i64 (many : Int)) (.slice ba1 many bc1), by (have h7 := HLA.out; have h8 := Z7.out; exact (st5_cell (show w.heap.size ≠ b7 by omega) (.int .i64 g1) (.int .u8 (m1 : Int)) (.slice pa1 pn1 pc1) (.int .i64 (many : Int)) (.slice ba1 many bc1)).trans hHeld.2)⟩
                refine hK.out _ _ hnew (fun hHeld => ?_)
                clear hK K hnew t0 t1 t2 t3 t4 y0 y1 y2 y3 y4 R6 R7 L0 L1 hne
                have R6 := R6n
                have R7 := R7n
                have L0 := L0n
                have L1 := L1n
                clear R6n R7n L0n L1n
                dsimp only [st5] at hHeld R6 R7 L0 L1
                obtain ⟨wv48, hwv48⟩ : ∃ v, (((((wv46.setCell ⟨b7, 0, none⟩ (.int .i64 g1)).setCell ⟨b7, 1, none⟩ (.int .u8 (m1 : Int))).setCell ⟨b7, 2, none⟩ (.slice pa1 pn1 pc1)).setCell ⟨b7, 3, none⟩ (.int .i64 (many : Int))).setCell ⟨b7, 4, none⟩ (.slice ba1 many bc1)) = v := ⟨_, rfl⟩
                rw [hwv48] at hHeld R6 R7 L0 L1 ⊢
                clear hwv48
                refine wpAnyH_done (by kernel_rfl) ?_ _
                with_unfolding_all exact ⟨b6, b7, pa0, pn0, pc0, ba0, bc0, pa1, pn1, pc1, ba1, bc1, rfl, R6, R7, Hid.mk' ((P0.out.ltr L0.out).mono (by have := V0.out.1; have := HZA.out; omega)), Hid.mk' ((P1.out.ltr L1.out).mono (by have := V1.out.1; have := HZA.out; omega)), Hid.mk' ((BB0.out.ltr L0.out).mono (by have := V0.out.1; have := HZA.out; omega)), Hid.mk' ((BB1.out.ltr L1.out).mono (by have := V1.out.1; have := HZA.out; omega)), Hid.mk' ⟨by have := Z6.out; have := HZA.out; omega, by have := Z7.out; have := HZA.out; omega⟩, Hid.mk' (hkA.tr hHeld.1), Hid.mk' (rowK RA1.out hHeld.1), Hid.mk' (rowK RA2.out hHeld.1)⟩
        case rz41x6 =>
          have L0b := L0
          have R7b := R7
          go_simp
          have hk : Kept wv40 (wv40.alloc (.cells #[.int .i64 0, .int .u8 0, .slice none 0 0, .int .i64 0, .slice none 0 0] 66)) none := Kept.alloc _ _ _ _ _
          have R7 := Hid.mk' (rowK R7.out hk)
          have L0 := Hid.mk' (L0.out.tr hk.toLtr)
          have R6 := Hid.mk' (row5 wv40 (.int .i64 0) (.int .u8 0) (.slice none 0 0) (.int .i64 0) (.slice none 0 0) 66)
          have hz := hHeld.1.size
          have Z6 : Hid (w1.heap.size ≤ wv40.heap.size) := Hid.mk' hz
          have SZ60 := L0b.out.size
          have N67 : Hid (b7 < wv40.heap.size) := Hid.mk' R7b.out.lt
          clear L0b
          clear R7b
          have hnew : Kept w1 (wv40.alloc (.cells #[.int .i64 0, .int .u8 0, .slice none 0 0, .int .i64 0, .slice none 0 0] 66)) none ∧ (wv40.alloc (.cells #[.int .i64 0, .int .u8 0, .slice none 0 0, .int .i64 0, .slice none 0 0] 66)).cell? ⟨w.heap.size, 0, none⟩ = some (.slice a n c) := ⟨hHeld.1.tr hk, (cell_kpt hk (Nat.lt_of_lt_of_le HLA.out hHeld.1.size)).trans hHeld.2⟩
          refine hK.out _ _ hnew (fun hHeld => ?_)
          clear hK K hnew hk hz
          obtain ⟨wv49, hwv49⟩ : ∃ v, (wv40.alloc (.cells #[.int .i64 0, .int .u8 0, .slice none 0 0, .int .i64 0, .slice none 0 0] 66)) = v := ⟨_, rfl⟩
          rw [hwv49] at hHeld R7 R6 L0 ⊢
          clear hwv49
          obtain ⟨b6, hb6⟩ : ∃ v, wv40.heap.size = v := ⟨_, rfl⟩
          have HB6 := Hid.mk' hb6
          try rw [hb6] at R6
          try rw [hb6] at Z6
          try rw [hb6] at N67
          have E60 : Hid (b6 < w0.heap.size ∨ wv6.heap.size ≤ b6) := Hid.mk' (.inr (by rw [← hb6]; exact SZ60))
          clear SZ60
          rw [hb6]
          clear hb6
          refine wpAnyH_ready (rs := [5]) (by kernel_rfl) (by simp) ?_
          refine (AllReadyH.cons rfl (fun K hK => ?rz50x5) AllReadyH.nil)
          case rz50x5 =>
            go_simp
            go_wp2_with (go_at_call 34; refine (HC1.out wv49 (hkA.tr hHeld.1)).mono ?_; rintro e wv51 ⟨pa1, pn1, pc1, ba1, bc1, rfl, hp, hb, hk⟩)
            have P1 := Hid.mk' hp
            have BB1 := Hid.mk' hb
            have hz1 := hHeld.1.size
            have hs1 := hk.size
            have E61 : Hid (b6 < wv49.heap.size ∨ wv51.heap.size ≤ b6) := Hid.mk' (.inl R6.out.lt)
            have E71 : Hid (b7 < wv49.heap.size ∨ wv51.heap.size ≤ b7) := Hid.mk' (.inl R7.out.lt)
            have R6 := Hid.mk' (rowK R6.out hk)
            have R7 := Hid.mk' (rowK R7.out hk)
            have L0 := Hid.mk' (L0.out.tr hk.toLtr)
            have L1 := Hid.mk' (Ltr.refl wv49.heap.size wv51)
            have hnew : Kept w1 wv51 none ∧ wv51.cell? ⟨w.heap.size, 0, none⟩ = some (.slice a n c) := ⟨hHeld.1.tr hk, (cell_kpt hk (Nat.lt_of_lt_of_le HLA.out hHeld.1.size)).trans hHeld.2⟩
            have V1 : Hid (w1.heap.size ≤ wv49.heap.size ∧ wv49.heap.size ≤ wv51.heap.size) := Hid.mk' ⟨hz1, hs1⟩
            clear hp hb hk hz1 hs1
            refine hK.out _ _ hnew (fun hHeld => ?_)
            clear hK K hnew
            refine wpAnyH_ready (rs := [8]) (by kernel_rfl) (by simp) ?_
            refine (AllReadyH.cons rfl (fun K hK => ?rz52x8) AllReadyH.nil)
            case rz52x8 =>
              have t0 := R6.out.cell (i := 0) (by omega)
              have y0 := R6.out.frozen 0
              have t1 := R6.out.cell (i := 1) (by omega)
              have y1 := R6.out.frozen 1
              have t2 := R6.out.cell (i := 2) (by omega)
              have y2 := R6.out.frozen 2
              have t3 := R6.out.cell (i := 3) (by omega)
              have y3 := R6.out.frozen 3
              have t4 := R6.out.cell (i := 4) (by omega)
              have y4 := R6.out.frozen 4
              simp [f5] at t0 t1 t2 t3 t4
              go_simp
              have hne : b6 ≠ b7 := by have := N67.out; omega
              have R7n := Hid.mk' (st5_row R7.out (show b7 ≠ b6 by omega) (.int .i64 g0) (.int .u8 (m0 : Int)) (.slice pa0 pn0 pc0) (.int .i64 0) (.slice ba0 many bc0))
              have R6n := Hid.mk' (row5_set5 R6.out (.int .i64 g0) (.int .u8 (m0 : Int)) (.slice pa0 pn0 pc0) (.int .i64 0) (.slice ba0 many bc0))
              have L0n := Hid.mk' (st5_ltr L0.out E60.out (.int .i64 g0) (.int .u8 (m0 : Int)) (.slice pa0 pn0 pc0) (.int .i64 0) (.slice ba0 many bc0))
              have L1n := Hid.mk' (st5_ltr L1.out E61.out (.int .i64 g0) (.int .u8 (m0 : Int)) (.slice pa0 pn0 pc0) (.int .i64 0) (.slice ba0 many bc0))
              have hnew : Kept w1 (st5 wv51 b6 (.int .i64 g0) (.int .u8 (m0 : Int)) (.slice pa0 pn0 pc0) (.int .i64 0) (.slice ba0 many bc0)) none ∧ (st5 wv51 b6 (.int .i64 g0) (.int .u8 (m0 : Int)) (.slice pa0 pn0 pc0) (.int .i64 0) (.slice ba0 many bc0)).cell? ⟨w.heap.size, 0, none⟩ = some (.slice a n c) := ⟨st5_kept hHeld.1 Z6.out (.int .i64 g0) (.int .u8 (m0 : Int)) (.slice pa0 pn0 pc0) (.int .i64 0) (.slice ba0 many bc0), by (have h7 := HLA.out; have h8 := Z6.out; exact (st5_cell (show w.heap.size ≠ b6 by omega) (.int .i64 g0) (.int .u8 (m0 : Int)) (.slice pa0 pn0 pc0) (.int .i64 0) (.slice ba0 many bc0)).trans hHeld.2)⟩
              refine hK.out _ _ hnew (fun hHeld => ?_)
              clear hK K hnew t0 t1 t2 t3 t4 y0 y1 y2 y3 y4 R6 R7 L0 L1 hne
              have R6 := R6n
              have R7 := R7n
              have L0 := L0n
              have L1 := L1n
              clear R6n R7n L0n L1n
              dsimp only [st5] at hHeld R6 R7 L0 L1
              obtain ⟨wv53, hwv53⟩ : ∃ v, (((((wv51.setCell ⟨b6, 0, none⟩ (.int .i64 g0)).setCell ⟨b6, 1, none⟩ (.int .u8 (m0 : Int))).setCell ⟨b6, 2, none⟩ (.slice pa0 pn0 pc0)).setCell ⟨b6, 3, none⟩ (.int .i64 0)).setCell ⟨b6, 4, none⟩ (.slice ba0 many bc0)) = v := ⟨_, rfl⟩
              rw [hwv53] at hHeld R6 R7 L0 L1 ⊢
              clear hwv53
              refine wpAnyH_ready (rs := [9]) (by kernel_rfl) (by simp) ?_
              refine (AllReadyH.cons rfl (fun K hK => ?rz54x9) AllReadyH.nil)
              case rz54x9 =>
                have t0 := R7.out.cell (i := 0) (by omega)
                have y0 := R7.out.frozen 0
                have t1 := R7.out.cell (i := 1) (by omega)
                have y1 := R7.out.frozen 1
                have t2 := R7.out.cell (i := 2) (by omega)
                have y2 := R7.out.frozen 2
                have t3 := R7.out.cell (i := 3) (by omega)
                have y3 := R7.out.frozen 3
                have t4 := R7.out.cell (i := 4) (by omega)
                have y4 := R7.out.frozen 4
                simp [f5] at t0 t1 t2 t3 t4
                go_simp
                have hne : b6 ≠ b7 := by have := N67.out; omega
                have R6n := Hid.mk' (st5_row R6.out (show b6 ≠ b7 by omega) (.int .i64 g1) (.int .u8 (m1 : Int)) (.slice pa1 pn1 pc1) (.int .i64 (many : Int)) (.slice ba1 many bc1))
                have R7n := Hid.mk' (row5_set5 R7.out (.int .i64 g1) (.int .u8 (m1 : Int)) (.slice pa1 pn1 pc1) (.int .i64 (many : Int)) (.slice ba1 many bc1))
                have L0n := Hid.mk' (st5_ltr L0.out E70.out (.int .i64 g1) (.int .u8 (m1 : Int)) (.slice pa1 pn1 pc1) (.int .i64 (many : Int)) (.slice ba1 many bc1))
                have L1n := Hid.mk' (st5_ltr L1.out E71.out (.int .i64 g1) (.int .u8 (m1 : Int)) (.slice pa1 pn1 pc1) (.int .i64 (many : Int)) (.slice ba1 many bc1))
                have hnew : Kept w1 (st5 wv53 b7 (.int .i64 g1) (.int .u8 (m1 : Int)) (.slice pa1 pn1 pc1) (.int .i64 (many : Int)) (.slice ba1 many bc1)) none ∧ (st5 wv53 b7 (.int .i64 g1) (.int .u8 (m1 : Int)) (.slice pa1 pn1 pc1) (.int .i64 (many : Int)) (.slice ba1 many bc1)).cell? ⟨w.heap.size, 0, none⟩ = some (.slice a n c) := ⟨st5_kept hHeld.1 Z7.out (.int .i64 g1) (.int .u8 (m1 : Int)) (.slice pa1 pn1 pc1) (.int .i64 (many : Int)) (.slice ba1 many bc1), by (have h7 := HLA.out; have h8 := Z7.out; exact (st5_cell (show w.heap.size ≠ b7 by omega) (.int .i64 g1) (.int .u8 (m1 : Int)) (.slice pa1 pn1 pc1) (.int .i64 (many : Int)) (.slice ba1 many bc1)).trans hHeld.2)⟩
                refine hK.out _ _ hnew (fun hHeld => ?_)
                clear hK K hnew t0 t1 t2 t3 t4 y0 y1 y2 y3 y4 R6 R7 L0 L1 hne
                have R6 := R6n
                have R7 := R7n
                have L0 := L0n
                have L1 := L1n
                clear R6n R7n L0n L1n
                dsimp only [st5] at hHeld R6 R7 L0 L1
                obtain ⟨wv55, hwv55⟩ : ∃ v, (((((wv53.setCell ⟨b7, 0, none⟩ (.int .i64 g1)).setCell ⟨b7, 1, none⟩ (.int .u8 (m1 : Int))).setCell ⟨b7, 2, none⟩ (.slice pa1 pn1 pc1)).setCell ⟨b7, 3, none⟩ (.int .i64 (many : Int))).setCell ⟨b7, 4, none⟩ (.slice ba1 many bc1)) = v := ⟨_, rfl⟩
                rw [hwv55] at hHeld R6 R7 L0 L1 ⊢
                clear hwv55
                refine wpAnyH_done (by kernel_rfl) ?_ _
                with_unfolding_all exact ⟨b6, b7, pa0, pn0, pc0, ba0, bc0, pa1, pn1, pc1, ba1, bc1, rfl, R6, R7, Hid.mk' ((P0.out.ltr L0.out).mono (by have := V0.out.1; have := HZA.out; omega)), Hid.mk' ((P1.out.ltr L1.out).mono (by have := V1.out.1; have := HZA.out; omega)), Hid.mk' ((BB0.out.ltr L0.out).mono (by have := V0.out.1; have := HZA.out; omega)), Hid.mk' ((BB1.out.ltr L1.out).mono (by have := V1.out.1; have := HZA.out; omega)), Hid.mk' ⟨by have := Z6.out; have := HZA.out; omega, by have := Z7.out; have := HZA.out; omega⟩, Hid.mk' (hkA.tr hHeld.1), Hid.mk' (rowK RA1.out hHeld.1), Hid.mk' (rowK RA2.out hHeld.1)⟩
    case rz5x6 =>
      go_simp
      have hk : Kept w0 (w0.alloc (.cells #[.int .i64 0, .int .u8 0, .slice none 0 0, .int .i64 0, .slice none 0 0] 66)) none := Kept.alloc _ _ _ _ _
      have R6 := Hid.mk' (row5 w0 (.int .i64 0) (.int .u8 0) (.slice none 0 0) (.int .i64 0) (.slice none 0 0) 66)
      have hz := hHeld.1.size
      have Z6 : Hid (w1.heap.size ≤ w0.heap.size) := Hid.mk' hz
      have hnew : Kept w1 (w0.alloc (.cells #[.int .i64 0, .int .u8 0, .slice none 0 0, .int .i64 0, .slice none 0 0] 66)) none ∧ (w0.alloc (.cells #[.int .i64 0, .int .u8 0, .slice none 0 0, .int .i64 0, .slice none 0 0] 66)).cell? ⟨w.heap.size, 0, none⟩ = some (.slice a n c) := ⟨hHeld.1.tr hk, (cell_kpt hk (Nat.lt_of_lt_of_le HLA.out hHeld.1.size)).trans hHeld.2⟩
      refine hK.out _ _ hnew (fun hHeld => ?_)
      clear hK K hnew hk hz
      obtain ⟨wv56, hwv56⟩ : ∃ v, (w0.alloc (.cells #[.int .i64 0, .int .u8 0, .slice none 0 0, .int .i64 0, .slice none 0 0] 66)) = v := ⟨_, rfl⟩
      rw [hwv56] at hHeld R6 ⊢
      clear hwv56
      obtain ⟨b6, hb6⟩ : ∃ v, w0.heap.size = v := ⟨_, rfl⟩
      have HB6 := Hid.mk' hb6
      try rw [hb6] at R6
      try rw [hb6] at Z6
      rw [hb6]
      clear hb6
      refine wpAnyH_ready (rs := [2, 7]) (by kernel_rfl) (by simp) ?_
      refine (AllReadyH.cons rfl (fun K hK => ?rz57x2) (AllReadyH.cons rfl (fun K hK => ?rz57x7) AllReadyH.nil))
      case rz57x2 =>
        go_simp
        go_wp2_with (go_at_call 34; refine (HC0.out wv56 (hkA.tr hHeld.1)).mono ?_; rintro e wv58 ⟨pa0, pn0, pc0, ba0, bc0, rfl, hp, hb, hk⟩)
        have P0 := Hid.mk' hp
        have BB0 := Hid.mk' hb
        have hz0 := hHeld.1.size
        have hs0 := hk.size
        have E60 : Hid (b6 < wv56.heap.size ∨ wv58.heap.size ≤ b6) := Hid.mk' (.inl R6.out.lt)
        have R6 := Hid.mk' (rowK R6.out hk)
        have L0 := Hid.mk' (Ltr.refl wv56.heap.size wv58)
        have hnew : Kept w1 wv58 none ∧ wv58.cell? ⟨w.heap.size, 0, none⟩ = some (.slice a n c) := ⟨hHeld.1.tr hk, (cell_kpt hk (Nat.lt_of_lt_of_le HLA.out hHeld.1.size)).trans hHeld.2⟩
        have V0 : Hid (w1.heap.size ≤ wv56.heap.size ∧ wv56.heap.size ≤ wv58.heap.size) := Hid.mk' ⟨hz0, hs0⟩
        clear hp hb hk hz0 hs0
        refine hK.out _ _ hnew (fun hHeld => ?_)
        clear hK K hnew
        refine wpAnyH_ready (rs := [5, 7]) (by kernel_rfl) (by simp) ?_
        refine (AllReadyH.cons rfl (fun K hK => ?rz59x5) (AllReadyH.cons rfl (fun K hK => ?rz59x7) AllReadyH.nil))
        case rz59x5 =>
          go_simp
          go_wp2_with (go_at_call 34; refine (HC1.out wv58 (hkA.tr hHeld.1)).mono ?_; rintro e wv60 ⟨pa1, pn1, pc1, ba1, bc1, rfl, hp, hb, hk⟩)
          have P1 := Hid.mk' hp
          have BB1 := Hid.mk' hb
          have hz1 := hHeld.1.size
          have hs1 := hk.size
          have E61 : Hid (b6 < wv58.heap.size ∨ wv60.heap.size ≤ b6) := Hid.mk' (.inl R6.out.lt)
          have R6 := Hid.mk' (rowK R6.out hk)
          have L0 := Hid.mk' (L0.out.tr hk.toLtr)
          have L1 := Hid.mk' (Ltr.refl wv58.heap.size wv60)
          have hnew : Kept w1 wv60 none ∧ wv60.cell? ⟨w.heap.size, 0, none⟩ = some (.slice a n c) := ⟨hHeld.1.tr hk, (cell_kpt hk (Nat.lt_of_lt_of_le HLA.out hHeld.1.size)).trans hHeld.2⟩
          have V1 : Hid (w1.heap.size ≤ wv58.heap.size ∧ wv58.heap.size ≤ wv60.heap.size) := Hid.mk' ⟨hz1, hs1⟩
          clear hp hb hk hz1 hs1
          refine hK.out _ _ hnew (fun hHeld => ?_)
          clear hK K hnew
          refine wpAnyH_ready (rs := [7]) (by kernel_rfl) (by simp) ?_
          refine (AllReadyH.cons rfl (fun K hK => ?rz61x7) AllReadyH.nil)
          case rz61x7 =>
            have L0b := L0
            have L1b := L1
            have R6b := R6
            go_simp
            have hk : Kept wv60 (wv60.alloc (.cells #[.int .i64 0, .int .u8 0, .slice none 0 0, .int .i64 0, .slice none 0 0] 66)) none := Kept.alloc _ _ _ _ _
            have R6 := Hid.mk' (rowK R6.out hk)
            have L0 := Hid.mk' (L0.out.tr hk.toLtr)
            have L1 := Hid.mk' (L1.out.tr hk.toLtr)
            have R7 := Hid.mk' (row5 wv60 (.int .i64 0) (.int .u8 0) (.slice none 0 0) (.int .i64 0) (.slice none 0 0) 66)
            have hz := hHeld.1.size
            have Z7 : Hid (w1.heap.size ≤ wv60.heap.size) := Hid.mk' hz
            have SZ70 := L0b.out.size
            have SZ71 := L1b.out.size
            have N67 : Hid (b6 < wv60.heap.size) := Hid.mk' R6b.out.lt
            clear L0b
            clear L1b
            clear R6b
            have hnew : Kept w1 (wv60.alloc (.cells #[.int .i64 0, .int .u8 0, .slice none 0 0, .int .i64 0, .slice none 0 0] 66)) none ∧ (wv60.alloc (.cells #[.int .i64 0, .int .u8 0, .slice none 0 0, .int .i64 0, .slice none 0 0] 66)).cell? ⟨w.heap.size, 0, none⟩ = some (.slice a n c) := ⟨hHeld.1.tr hk, (cell_kpt hk (Nat.lt_of_lt_of_le HLA.out hHeld.1.size)).trans hHeld.2⟩
            refine hK.out _ _ hnew (fun hHeld => ?_)
            clear hK K hnew hk hz
            obtain ⟨wv62, hwv62⟩ : ∃ v, (wv60.alloc (.cells #[.int .i64 0, .int .u8 0, .slice none 0 0, .int .i64 0, .slice none 0 0] 66)) = v := ⟨_, rfl⟩
            rw [hwv62] at hHeld R6 R7 L0 L1 ⊢
            clear hwv62
            obtain ⟨b7, hb7⟩ : ∃ v, wv60.heap.size = v := ⟨_, rfl⟩
            have HB7 := Hid.mk' hb7
            try rw [hb7] at R7
            try rw [hb7] at Z7
            try rw [hb7] at N67
            have E70 : Hid (b7 < wv56.heap.size ∨ wv58.heap.size ≤ b7) := Hid.mk' (.inr (by rw [← hb7]; exact SZ70))
            clear SZ70
            have E71 : Hid (b7 < wv58.heap.size ∨ wv60.heap.size ≤ b7) := Hid.mk' (.inr (by rw [← hb7]; exact SZ71))
            clear SZ71
            rw [hb7]
            clear hb7
            refine wpAnyH_ready (rs := [8]) (by kernel_rfl) (by simp) ?_
            refine (AllReadyH.cons rfl (fun K hK => ?rz63x8) AllReadyH.nil)
            case rz63x8 =>
              have t0 := R6.out.cell (i := 0) (by omega)
              have y0 := R6.out.frozen 0
              have t1 := R6.out.cell (i := 1) (by omega)
              have y1 := R6.out.frozen 1
              have t2 := R6.out.cell (i := 2) (by omega)
              have y2 := R6.out.frozen 2
              have t3 := R6.out.cell (i := 3) (by omega)
              have y3 := R6.out.frozen 3
              have t4 := R6.out.cell (i := 4) (by omega)
              have y4 := R6.out.frozen 4
              simp [f5] at t0 t1 t2 t3 t4
              go_simp
              have hne : b6 ≠ b7 := by have := N67.out; omega
              have R7n := Hid.mk' (st5_row R7.out (show b7 ≠ b6 by omega) (.int .i64 g0) (.int .u8 (m0 : Int)) (.slice pa0 pn0 pc0) (.int .i64 0) (.slice ba0 many bc0))
              have R6n := Hid.mk' (row5_set5 R6.out (.int .i64 g0) (.int .u8 (m0 : Int)) (.slice pa0 pn0 pc0) (.int .i64 0) (.slice ba0 many bc0))
              have L0n := Hid.mk' (st5_ltr L0.out E60.out (.int .i64 g0) (.int .u8 (m0 : Int)) (.slice pa0 pn0 pc0) (.int .i64 0) (.slice ba0 many bc0))
              have L1n := Hid.mk' (st5_ltr L1.out E61.out (.int .i64 g0) (.int .u8 (m0 : Int)) (.slice pa0 pn0 pc0) (.int .i64 0) (.slice ba0 many bc0))
              have hnew : Kept w1 (st5 wv62 b6 (.int .i64 g0) (.int .u8 (m0 : Int)) (.slice pa0 pn0 pc0) (.int .i64 0) (.slice ba0 many bc0)) none ∧ (st5 wv62 b6 (.int .i64 g0) (.int .u8 (m0 : Int)) (.slice pa0 pn0 pc0) (.int .i64 0) (.slice ba0 many bc0)).cell? ⟨w.heap.size, 0, none⟩ = some (.slice a n c) := ⟨st5_kept hHeld.1 Z6.out (.int .i64 g0) (.int .u8 (m0 : Int)) (.slice pa0 pn0 pc0) (.int .i64 0) (.slice ba0 many bc0), by (have h7 := HLA.out; have h8 := Z6.out; exact (st5_cell (show w.heap.size ≠ b6 by omega) (.int .i64 g0) (.int .u8 (m0 : Int)) (.slice pa0 pn0 pc0) (.int .i64 0) (.slice ba0 many bc0)).trans hHeld.2)⟩
              refine hK.out _ _ hnew (fun hHeld => ?_)
              clear hK K hnew t0 t1 t2 t3 t4 y0 y1 y2 y3 y4 R6 R7 L0 L1 hne
              have R6 := R6n
              have R7 := R7n
              have L0 := L0n
              have L1 := L1n
              clear R6n R7n L0n L1n
              dsimp only [st5] at hHeld R6 R7 L0 L1
              obtain ⟨wv64, hwv64⟩ : ∃ v, (((((wv62.setCell ⟨b6, 0, none⟩ (.int .i64 g0)).setCell ⟨b6, 1, none⟩ (.int .u8 (m0 : Int))).setCell ⟨b6, 2, none⟩ (.slice pa0 pn0 pc0)).setCell ⟨b6, 3, none⟩ (.int .i64 0)).setCell ⟨b6, 4, none⟩ (.slice ba0 many bc0)) = v := ⟨_, rfl⟩
              rw [hwv64] at hHeld R6 R7 L0 L1 ⊢
              clear hwv64
              refine wpAnyH_ready (rs := [9]) (by kernel_rfl) (by simp) ?_
              refine (AllReadyH.cons rfl (fun K hK => ?rz65x9) AllReadyH.nil)
              case rz65x9 =>
                have t0 := R7.out.cell (i := 0) (by omega)
                have y0 := R7.out.frozen 0
                have t1 := R7.out.cell (i := 1) (by omega)
                have y1 := R7.out.frozen 1
                have t2 := R7.out.cell (i := 2) (by omega)
                have y2 := R7.out.frozen 2
                have t3 := R7.out.cell (i := 3) (by omega)
                have y3 := R7.out.frozen 3
                have t4 := R7.out.cell (i := 4) (by omega)
                have y4 := R7.out.frozen 4
                simp [f5] at t0 t1 t2 t3 t4
                go_simp
                have hne : b6 ≠ b7 := by have := N67.out; omega
                have R6n := Hid.mk' (st5_row R6.out (show b6 ≠ b7 by omega) (.int .i64 g1) (.int .u8 (m1 : Int)) (.slice pa1 pn1 pc1) (.int .i64 (many : Int)) (.slice ba1 many bc1))
                have R7n := Hid.mk' (row5_set5 R7.out (.int .i64 g1) (.int .u8 (m1 : Int)) (.slice pa1 pn1 pc1) (.int .i64 (many : Int)) (.slice ba1 many bc1))
                have L0n := Hid.mk' (st5_ltr L0.out E70.out (.int .i64 g1) (.int .u8 (m1 : Int)) (.slice pa1 pn1 pc1) (.int .i64 (many : Int)) (.slice ba1 many bc1))
                have L1n := Hid.mk' (st5_ltr L1.out E71.out (.int .i64 g1) (.int .u8 (m1 : Int)) (.slice pa1 pn1 pc1) (.int .i64 (many : Int)) (.slice ba1 many bc1))
                have hnew : Kept w1 (st5 wv64 b7 (.int .i64 g1) (.int .u8 (m1 : Int)) (.slice pa1 pn1 pc1) (.int .i64 (many : Int)) (.slice ba1 many bc1)) none ∧ (st5 wv64 b7 (.int .i64 g1) (.int .u8 (m1 : Int)) (.slice pa1 pn1 pc1) (.int .i64 (many : Int)) (.slice ba1 many bc1)).cell? ⟨w.heap.size, 0, none⟩ = some (.slice a n c) := ⟨st5_kept hHeld.1 Z7.out (.int .i64 g1) (.int .u8 (m1 : Int)) (.slice pa1 pn1 pc1) (.int .i64 (many : Int)) (.slice ba1 many bc1), by (have h7 := HLA.out; have h8 := Z7.out; exact (st5_cell (show w.heap.size ≠ b7 by omega) (.int .i64 g1) (.int .u8 (m1 : Int)) (.slice pa1 pn1 pc1) (.int .i64 (many : Int)) (.slice ba1 many bc1)).trans hHeld.2)⟩
                refine hK.out _ _ hnew (fun hHeld => ?_)
                clear hK K hnew t0 t1 t2 t3 t4 y0 y1 y2 y3 y4 R6 R7 L0 L1 hne
                have R6 := R6n
                have R7 := R7n
                have L0 := L0n
                have L1 := L1n
                clear R6n R7n L0n L1n
                dsimp only [st5] at hHeld R6 R7 L0 L1
                obtain ⟨wv66, hwv66⟩ : ∃ v, (((((wv64.setCell ⟨b7, 0, none⟩ (.int .i64 g1)).setCell ⟨b7, 1, none⟩ (.int .u8 (m1 : Int))).setCell ⟨b7, 2, none⟩ (.slice pa1 pn1 pc1)).setCell ⟨b7, 3, none⟩ (.int .i64 (many : Int))).setCell ⟨b7, 4, none⟩ (.slice ba1 many bc1)) = v := ⟨_, rfl⟩
                rw [hwv66] at hHeld R6 R7 L0 L1 ⊢
                clear hwv66
                refine wpAnyH_done (by kernel_rfl) ?_ _
                with_unfolding_all exact ⟨b6, b7, pa0, pn0, pc0, ba0, bc0, pa1, pn1, pc1, ba1, bc1, rfl, R6, R7, Hid.mk' ((P0.out.ltr L0.out).mono (by have := V0.out.1; have := HZA.out; omega)), Hid.mk' ((P1.out.ltr L1.out).mono (by have := V1.out.1; have := HZA.out; omega)), Hid.mk' ((BB0.out.ltr L0.out).mono (by have := V0.out.1; have := HZA.out; omega)), Hid.mk' ((BB1.out.ltr L1.out).mono (by have := V1.out.1; have := HZA.out; omega)), Hid.mk' ⟨by have := Z6.out; have := HZA.out; omega, by have := Z7.out; have := HZA.out; omega⟩, Hid.mk' (hkA.tr hHeld.1), Hid.mk' (rowK RA1.out hHeld.1), Hid.mk' (rowK RA2.out hHeld.1)⟩
        case rz59x7 =>
          have L0b := L0
          have R6b := R6
          go_simp
          have hk : Kept wv58 (wv58.alloc (.cells #[.int .i64 0, .int .u8 0, .slice none 0 0, .int .i64 0, .slice none 0 0] 66)) none := Kept.alloc _ _ _ _ _
          have R6 := Hid.mk' (rowK R6.out hk)
          have L0 := Hid.mk' (L0.out.tr hk.toLtr)
          have R7 := Hid.mk' (row5 wv58 (.int .i64 0) (.int .u8 0) (.slice none 0 0) (.int .i64 0) (.slice none 0 0) 66)
          have hz := hHeld.1.size
          have Z7 : Hid (w1.heap.size ≤ wv58.heap.size) := Hid.mk' hz
          have SZ70 := L0b.out.size
          have N67 : Hid (b6 < wv58.heap.size) := Hid.mk' R6b.out.lt
          clear L0b
          clear R6b
          have hnew : Kept w1 (wv58.alloc (.cells #[.int .i64 0, .int .u8 0, .slice none 0 0, .int .i64 0, .slice none 0 0] 66)) none ∧ (wv58.alloc (.cells #[.int .i64 0, .int .u8 0, .slice none 0 0, .int .i64 0, .slice none 0 0] 66)).cell? ⟨w.heap.size, 0, none⟩ = some (.slice a n c) := ⟨hHeld.1.tr hk, (cell_kpt hk (Nat.lt_of_lt_of_le HLA.out hHeld.1.size)).trans hHeld.2⟩
          refine hK.out _ _ hnew (fun hHeld => ?_)
          clear hK K hnew hk hz
          obtain ⟨wv67, hwv67⟩ : ∃ v, (wv58.alloc (.cells #[.int .i64 0, .int .u8 0, .slice none 0 0, .int .i64 0, .slice none 0 0] 66)) = v := ⟨_, rfl⟩
          rw [hwv67] at hHeld R6 R7 L0 ⊢
          clear hwv67
          obtain ⟨b7, hb7⟩ : ∃ v, wv58.heap.size = v := ⟨_, rfl⟩
          have HB7 := Hid.mk' hb7
          try rw [hb7] at R7
          try rw [hb7] at Z7
          try rw [hb7] at N67
          have E70 : Hid (b7 < wv56.heap.size ∨ wv58.heap.size ≤ b7) := Hid.mk' (.inr (by rw [← hb7]; exact SZ70))
          clear SZ70
          rw [hb7]
          clear hb7
          refine wpAnyH_ready (rs := [5]) (by kernel_rfl) (by simp) ?_
          refine (AllReadyH.cons rfl (fun K hK => ?rz68x5) AllReadyH.nil)
          case rz68x5 =>
            go_simp
            go_wp2_with (go_at_call 34; refine (HC1.out wv67 (hkA.tr hHeld.1)).mono ?_; rintro e wv69 ⟨pa1, pn1, pc1, ba1, bc1, rfl, hp, hb, hk⟩)
            have P1 := Hid.mk' hp
            have BB1 := Hid.mk' hb
            have hz1 := hHeld.1.size
            have hs1 := hk.size
            have E61 : Hid (b6 < wv67.heap.size ∨ wv69.heap.size ≤ b6) := Hid.mk' (.inl R6.out.lt)
            have E71 : Hid (b7 < wv67.heap.size ∨ wv69.heap.size ≤ b7) := Hid.mk' (.inl R7.out.lt)
            have R6 := Hid.mk' (rowK R6.out hk)
            have R7 := Hid.mk' (rowK R7.out hk)
            have L0 := Hid.mk' (L0.out.tr hk.toLtr)
            have L1 := Hid.mk' (Ltr.refl wv67.heap.size wv69)
            have hnew : Kept w1 wv69 none ∧ wv69.cell? ⟨w.heap.size, 0, none⟩ = some (.slice a n c) := ⟨hHeld.1.tr hk, (cell_kpt hk (Nat.lt_of_lt_of_le HLA.out hHeld.1.size)).trans hHeld.2⟩
            have V1 : Hid (w1.heap.size ≤ wv67.heap.size ∧ wv67.heap.size ≤ wv69.heap.size) := Hid.mk' ⟨hz1, hs1⟩
            clear hp hb hk hz1 hs1
            refine hK.out _ _ hnew (fun hHeld => ?_)
            clear hK K hnew
            refine wpAnyH_ready (rs := [8]) (by kernel_rfl) (by simp) ?_
            refine (AllReadyH.cons rfl (fun K hK => ?rz70x8) AllReadyH.nil)
            case rz70x8 =>
              have t0 := R6.out.cell (i := 0) (by omega)
              have y0 := R6.out.frozen 0
              have t1 := R6.out.cell (i := 1) (by omega)
              have y1 := R6.out.frozen 1
              have t2 := R6.out.cell (i := 2) (by omega)
              have y2 := R6.out.frozen 2
              have t3 := R6.out.cell (i := 3) (by omega)
              have y3 := R6.out.frozen 3
              have t4 := R6.out.cell (i := 4) (by omega)
              have y4 := R6.out.frozen 4
              simp [f5] at t0 t1 t2 t3 t4
              go_simp
              have hne : b6 ≠ b7 := by have := N67.out; omega
              have R7n := Hid.mk' (st5_row R7.out (show b7 ≠ b6 by omega) (.int .i64 g0) (.int .u8 (m0 : Int)) (.slice pa0 pn0 pc0) (.int .i64 0) (.slice ba0 many bc0))
              have R6n := Hid.mk' (row5_set5 R6.out (.int .i64 g0) (.int .u8 (m0 : Int)) (.slice pa0 pn0 pc0) (.int .i64 0) (.slice ba0 many bc0))
              have L0n := Hid.mk' (st5_ltr L0.out E60.out (.int .i64 g0) (.int .u8 (m0 : Int)) (.slice pa0 pn0 pc0) (.int .i64 0) (.slice ba0 many bc0))
              have L1n := Hid.mk' (st5_ltr L1.out E61.out (.int .i64 g0) (.int .u8 (m0 : Int)) (.slice pa0 pn0 pc0) (.int .i64 0) (.slice ba0 many bc0))
              have hnew : Kept w1 (st5 wv69 b6 (.int .i64 g0) (.int .u8 (m0 : Int)) (.slice pa0 pn0 pc0) (.int .i64 0) (.slice ba0 many bc0)) none ∧ (st5 wv69 b6 (.int .i64 g0) (.int .u8 (m0 : Int)) (.slice pa0 pn0 pc0) (.int .i64 0) (.slice ba0 many bc0)).cell? ⟨w.heap.size, 0, none⟩ = some (.slice a n c) := ⟨st5_kept hHeld.1 Z6.out (.int .i64 g0) (.int .u8 (m0 : Int)) (.slice pa0 pn0 pc0) (.int .i64 0) (.slice ba0 many bc0), by (have h7 := HLA.out; have h8 := Z6.out; exact (st5_cell (show w.heap.size ≠ b6 by omega) (.int .i64 g0) (.int .u8 (m0 : Int)) (.slice pa0 pn0 pc0) (.int .i64 0) (.slice ba0 many bc0)).trans hHeld.2)⟩
              refine hK.out _ _ hnew (fun hHeld => ?_)
              clear hK K hnew t0 t1 t2 t3 t4 y0 y1 y2 y3 y4 R6 R7 L0 L1 hne
              have R6 := R6n
              have R7 := R7n
              have L0 := L0n
              have L1 := L1n
              clear R6n R7n L0n L1n
              dsimp only [st5] at hHeld R6 R7 L0 L1
              obtain ⟨wv71, hwv71⟩ : ∃ v, (((((wv69.setCell ⟨b6, 0, none⟩ (.int .i64 g0)).setCell ⟨b6, 1, none⟩ (.int .u8 (m0 : Int))).setCell ⟨b6, 2, none⟩ (.slice pa0 pn0 pc0)).setCell ⟨b6, 3, none⟩ (.int .i64 0)).setCell ⟨b6, 4, none⟩ (.slice ba0 many bc0)) = v := ⟨_, rfl⟩
              rw [hwv71] at hHeld R6 R7 L0 L1 ⊢
              clear hwv71
              refine wpAnyH_ready (rs := [9]) (by kernel_rfl) (by simp) ?_
              refine (AllReadyH.cons rfl (fun K hK => ?rz72x9) AllReadyH.nil)
              case rz72x9 =>
                have t0 := R7.out.cell (i := 0) (by omega)
                have y0 := R7.out.frozen 0
                have t1 := R7.out.cell (i := 1) (by omega)
                have y1 := R7.out.frozen 1
                have t2 := R7.out.cell (i := 2) (by omega)
                have y2 := R7.out.frozen 2
                have t3 := R7.out.cell (i := 3) (by omega)
                have y3 := R7.out.frozen 3
                have t4 := R7.out.cell (i := 4) (by omega)
                have y4 := R7.out.frozen 4
                simp [f5] at t0 t1 t2 t3 t4
                go_simp
                have hne : b6 ≠ b7 := by have := N67.out; omega
                have R6n := Hid.mk' (st5_row R6.out (show b6 ≠ b7 by omega) (.int .i64 g1) (.int .u8 (m1 : Int)) (.slice pa1 pn1 pc1) (.int .i64 (many : Int)) (.slice ba1 many bc1))
                have R7n := Hid.mk' (row5_set5 R7.out (.int .i64 g1) (.int .u8 (m1 : Int)) (.slice pa1 pn1 pc1) (.int .i64 (many : Int)) (.slice ba1 many bc1))
                have L0n := Hid.mk' (st5_ltr L0.out E70.out (.int .i64 g1) (.int .u8 (m1 : Int)) (.slice pa1 pn1 pc1) (.int .i64 (many : Int)) (.slice ba1 many bc1))
                have L1n := Hid.mk' (st5_ltr L1.out E71.out (.int .i64 g1) (.int .u8 (m1 : Int)) (.slice pa1 pn1 pc1) (.int .i64 (many : Int)) (.slice ba1 many bc1))
                have hnew : Kept w1 (st5 wv71 b7 (.int .i64 g1) (.int .u8 (m1 : Int)) (.slice pa1 pn1 pc1) (.int .i64 (many : Int)) (.slice ba1 many bc1)) none ∧ (st5 wv71 b7 (.int .i64 g1) (.int .u8 (m1 : Int)) (.slice pa1 pn1 pc1) (.int .i64 (many : Int)) (.slice ba1 many bc1)).cell? ⟨w.heap.size, 0, none⟩ = some (.slice a n c) := ⟨st5_kept hHeld.1 Z7.out (.int .i64 g1) (.int .u8 (m1 : Int)) (.slice pa1 pn1 pc1) (.int .i64 (many : Int)) (.slice ba1 many bc1), by (have h7 := HLA.out; have h8 := Z7.out; exact (st5_cell (show w.heap.size ≠ b7 by omega) (.int .i64 g1) (.int .u8 (m1 : Int)) (.slice pa1 pn1 pc1) (.int .i64 (many : Int)) (.slice ba1 many bc1)).trans hHeld.2)⟩
                refine hK.out _ _ hnew (fun hHeld => ?_)
                clear hK K hnew t0 t1 t2 t3 t4 y0 y1 y2 y3 y4 R6 R7 L0 L1 hne
                have R6 := R6n
                have R7 := R7n
                have L0 := L0n
                have L1 := L1n
                clear R6n R7n L0n L1n
                dsimp only [st5] at hHeld R6 R7 L0 L1
                obtain ⟨wv73, hwv73⟩ : ∃ v, (((((wv71.setCell ⟨b7, 0, none⟩ (.int .i64 g1)).setCell ⟨b7, 1, none⟩ (.int .u8 (m1 : Int))).setCell ⟨b7, 2, none⟩ (.slice pa1 pn1 pc1)).setCell ⟨b7, 3, none⟩ (.int .i64 (many : Int))).setCell ⟨b7, 4, none⟩ (.slice ba1 many bc1)) = v := ⟨_, rfl⟩
                rw [hwv73] at hHeld R6 R7 L0 L1 ⊢
                clear hwv73
                refine wpAnyH_done (by kernel_rfl) ?_ _
                with_unfolding_all exact ⟨b6, b7, pa0, pn0, pc0, ba0, bc0, pa1, pn1, pc1, ba1, bc1, rfl, R6, R7, Hid.mk' ((P0.out.ltr L0.out).mono (by have := V0.out.1; have := HZA.out; omega)), Hid.mk' ((P1.out.ltr L1.out).mono (by have := V1.out.1; have := HZA.out; omega)), Hid.mk' ((BB0.out.ltr L0.out).mono (by have := V0.out.1; have := HZA.out; omega)), Hid.mk' ((BB1.out.ltr L1.out).mono (by have := V1.out.1; have := HZA.out; omega)), Hid.mk' ⟨by have := Z6.out; have := HZA.out; omega, by have := Z7.out; have := HZA.out; omega⟩, Hid.mk' (hkA.tr hHeld.1), Hid.mk' (rowK RA1.out hHeld.1), Hid.mk' (rowK RA2.out hHeld.1)⟩
      case rz57x7 =>
        have R6b := R6
        go_simp
        have hk : Kept wv56 (wv56.alloc (.cells #[.int .i64 0, .int .u8 0, .slice none 0 0, .int .i64 0, .slice none 0 0] 66)) none := Kept.alloc _ _ _ _ _
        have R6 := Hid.mk' (rowK R6.out hk)
        have R7 := Hid.mk' (row5 wv56 (.int .i64 0) (.int .u8 0) (.slice none 0 0) (.int .i64 0) (.slice none 0 0) 66)
        have hz := hHeld.1.size
        have Z7 : Hid (w1.heap.size ≤ wv56.heap.size) := Hid.mk' hz
        have N67 : Hid (b6 < wv56.heap.size) := Hid.mk' R6b.out.lt
        clear R6b
        have hnew : Kept w1 (wv56.alloc (.cells #[.int .i64 0, .int .u8 0, .slice none 0 0, .int .i64 0, .slice none 0 0] 66)) none ∧ (wv56.alloc (.cells #[.int .i64 0, .int .u8 0, .slice none 0 0, .int .i64 0, .slice none 0 0] 66)).cell? ⟨w.heap.size, 0, none⟩ = some (.slice a n c) := ⟨hHeld.1.tr hk, (cell_kpt hk (Nat.lt_of_lt_of_le HLA.out hHeld.1.size)).trans hHeld.2⟩
        refine hK.out _ _ hnew (fun hHeld => ?_)
        clear hK K hnew hk hz
        obtain ⟨wv74, hwv74⟩ : ∃ v, (wv56.alloc (.cells #[.int .i64 0, .int .u8 0, .slice none 0 0, .int .i64 0, .slice none 0 0] 66)) = v := ⟨_, rfl⟩
        rw [hwv74] at hHeld R6 R7 ⊢
        clear hwv74
        obtain ⟨b7, hb7⟩ : ∃ v, wv56.heap.size = v := ⟨_, rfl⟩
        have HB7 := Hid.mk' hb7
        try rw [hb7] at R7
        try rw [hb7] at Z7
        try rw [hb7] at N67
        rw [hb7]
        clear hb7
        refine wpAnyH_ready (rs := [2]) (by kernel_rfl) (by simp) ?_
        refine (AllReadyH.cons rfl (fun K hK => ?rz75x2) AllReadyH.nil)
        case rz75x2 =>
          go_simp
          go_wp2_with (go_at_call 34; refine (HC0.out wv74 (hkA.tr hHeld.1)).mono ?_; rintro e wv76 ⟨pa0, pn0, pc0, ba0, bc0, rfl, hp, hb, hk⟩)
          have P0 := Hid.mk' hp
          have BB0 := Hid.mk' hb
          have hz0 := hHeld.1.size
          have hs0 := hk.size
          have E60 : Hid (b6 < wv74.heap.size ∨ wv76.heap.size ≤ b6) := Hid.mk' (.inl R6.out.lt)
          have E70 : Hid (b7 < wv74.heap.size ∨ wv76.heap.size ≤ b7) := Hid.mk' (.inl R7.out.lt)
          have R6 := Hid.mk' (rowK R6.out hk)
          have R7 := Hid.mk' (rowK R7.out hk)
          have L0 := Hid.mk' (Ltr.refl wv74.heap.size wv76)
          have hnew : Kept w1 wv76 none ∧ wv76.cell? ⟨w.heap.size, 0, none⟩ = some (.slice a n c) := ⟨hHeld.1.tr hk, (cell_kpt hk (Nat.lt_of_lt_of_le HLA.out hHeld.1.size)).trans hHeld.2⟩
          have V0 : Hid (w1.heap.size ≤ wv74.heap.size ∧ wv74.heap.size ≤ wv76.heap.size) := Hid.mk' ⟨hz0, hs0⟩
          clear hp hb hk hz0 hs0
          refine hK.out _ _ hnew (fun hHeld => ?_)
          clear hK K hnew
          refine wpAnyH_ready (rs := [5]) (by kernel_rfl) (by simp) ?_
          refine (AllReadyH.cons rfl (fun K hK => ?rz77x5) AllReadyH.nil)
          case rz77x5 =>
            go_simp
            go_wp2_with (go_at_call 34; refine (HC1.out wv76 (hkA.tr hHeld.1)).mono ?_; rintro e wv78 ⟨pa1, pn1, pc1, ba1, bc1, rfl, hp, hb, hk⟩)
            have P1 := Hid.mk' hp
            have BB1 := Hid.mk' hb
            have hz1 := hHeld.1.size
            have hs1 := hk.size
            have E61 : Hid (b6 < wv76.heap.size ∨ wv78.heap.size ≤ b6) := Hid.mk' (.inl R6.out.lt)
            have E71 : Hid (b7 < wv76.heap.size ∨ wv78.heap.size ≤ b7) := Hid.mk' (.inl R7.out.lt)
            have R6 := Hid.mk' (rowK R6.out hk)
            have R7 := Hid.mk' (rowK R7.out hk)
            have L0 := Hid.mk' (L0.out.tr hk.toLtr)
            have L1 := Hid.mk' (Ltr.refl wv76.heap.size wv78)
            have hnew : Kept w1 wv78 none ∧ wv78.cell? ⟨w.heap.size, 0, none⟩ = some (.slice a n c) := ⟨hHeld.1.tr hk, (cell_kpt hk (Nat.lt_of_lt_of_le HLA.out hHeld.1.size)).trans hHeld.2⟩
            have V1 : Hid (w1.heap.size ≤ wv76.heap.size ∧ wv76.heap.size ≤ wv78.heap.size) := Hid.mk' ⟨hz1, hs1⟩
            clear hp hb hk hz1 hs1
            refine hK.out _ _ hnew (fun hHeld => ?_)
            clear hK K hnew
            refine wpAnyH_ready (rs := [8]) (by kernel_rfl) (by simp) ?_
            refine (AllReadyH.cons rfl (fun K hK => ?rz79x8) AllReadyH.nil)
            case rz79x8 =>
              have t0 := R6.out.cell (i := 0) (by omega)
              have y0 := R6.out.frozen 0
              have t1 := R6.out.cell (i := 1) (by omega)
              have y1 := R6.out.frozen 1
              have t2 := R6.out.cell (i := 2) (by omega)
              have y2 := R6.out.frozen 2
              have t3 := R6.out.cell (i := 3) (by omega)
              have y3 := R6.out.frozen 3
              have t4 := R6.out.cell (i := 4) (by omega)
              have y4 := R6.out.frozen 4
              simp [f5] at t0 t1 t2 t3 t4
              go_simp
              have hne : b6 ≠ b7 := by have := N67.out; omega
              have R7n := Hid.mk' (st5_row R7.out (show b7 ≠ b6 by omega) (.int .i64 g0) (.int .u8 (m0 : Int)) (.slice pa0 pn0 pc0) (.int .i64 0) (.slice ba0 many bc0))
              have R6n := Hid.mk' (row5_set5 R6.out (.int .i64 g0) (.int .u8 (m0 : Int)) (.slice pa0 pn0 pc0) (.int .i64 0) (.slice ba0 many bc0))
              have L0n := Hid.mk' (st5_ltr L0.out E60.out (.int .i64 g0) (.int .u8 (m0 : Int)) (.slice pa0 pn0 pc0) (.int .i64 0) (.slice ba0 many bc0))
              have L1n := Hid.mk' (st5_ltr L1.out E61.out (.int .i64 g0) (.int .u8 (m0 : Int)) (.slice pa0 pn0 pc0) (.int .i64 0) (.slice ba0 many bc0))
              have hnew : Kept w1 (st5 wv78 b6 (.int .i64 g0) (.int .u8 (m0 : Int)) (.slice pa0 pn0 pc0) (.int .i64 0) (.slice ba0 many bc0)) none ∧ (st5 wv78 b6 (.int .i64 g0) (.int .u8 (m0 : Int)) (.slice pa0 pn0 pc0) (.int .i64 0) (.slice ba0 many bc0)).cell? ⟨w.heap.size, 0, none⟩ = some (.slice a n c) := ⟨st5_kept hHeld.1 Z6.out (.int .i64 g0) (.int .u8 (m0 : Int)) (.slice pa0 pn0 pc0) (.int .i64 0) (.slice ba0 many bc0), by (have h7 := HLA.out; have h8 := Z6.out; exact (st5_cell (show w.heap.size ≠ b6 by omega) (.int .i64 g0) (.int .u8 (m0 : Int)) (.slice pa0 pn0 pc0) (.int .i64 0) (.slice ba0 many bc0)).trans hHeld.2)⟩
              refine hK.out _ _ hnew (fun hHeld => ?_)
              clear hK K hnew t0 t1 t2 t3 t4 y0 y1 y2 y3 y4 R6 R7 L0 L1 hne
              have R6 := R6n
              have R7 := R7n
              have L0 := L0n
              have L1 := L1n
              clear R6n R7n L0n L1n
              dsimp only [st5] at hHeld R6 R7 L0 L1
              obtain ⟨wv80, hwv80⟩ : ∃ v, (((((wv78.setCell ⟨b6, 0, none⟩ (.int .i64 g0)).setCell ⟨b6, 1, none⟩ (.int .u8 (m0 : Int))).setCell ⟨b6, 2, none⟩ (.slice pa0 pn0 pc0)).setCell ⟨b6, 3, none⟩ (.int .i64 0)).setCell ⟨b6, 4, none⟩ (.slice ba0 many bc0)) = v := ⟨_, rfl⟩
              rw [hwv80] at hHeld R6 R7 L0 L1 ⊢
              clear hwv80
              refine wpAnyH_ready (rs := [9]) (by kernel_rfl) (by simp) ?_
              refine (AllReadyH.cons rfl (fun K hK => ?rz81x9) AllReadyH.nil)
              case rz81x9 =>
                have t0 := R7.out.cell (i := 0) (by omega)
                have y0 := R7.out.frozen 0
                have t1 := R7.out.cell (i := 1) (by omega)
                have y1 := R7.out.frozen 1
                have t2 := R7.out.cell (i := 2) (by omega)
                have y2 := R7.out.frozen 2
                have t3 := R7.out.cell (i := 3) (by omega)
                have y3 := R7.out.frozen 3
                have t4 := R7.out.cell (i := 4) (by omega)
                have y4 := R7.out.frozen 4
                simp [f5] at t0 t1 t2 t3 t4
                go_simp
                have hne : b6 ≠ b7 := by have := N67.out; omega
                have R6n := Hid.mk' (st5_row R6.out (show b6 ≠ b7 by omega) (.int .i64 g1) (.int .u8 (m1 : Int)) (.slice pa1 pn1 pc1) (.int .i64 (many : Int)) (.slice ba1 many bc1))
                have R7n := Hid.mk' (row5_set5 R7.out (.int .i64 g1) (.int .u8 (m1 : Int)) (.slice pa1 pn1 pc1) (.int .i64 (many : Int)) (.slice ba1 many bc1))
                have L0n := Hid.mk' (st5_ltr L0.out E70.out (.int .i64 g1) (.int .u8 (m1 : Int)) (.slice pa1 pn1 pc1) (.int .i64 (many : Int)) (.slice ba1 many bc1))
                have L1n := Hid.mk' (st5_ltr L1.out E71.out (.int .i64 g1) (.int .u8 (m1 : Int)) (.slice pa1 pn1 pc1) (.int .i64 (many : Int)) (.slice ba1 many bc1))
                have hnew : Kept w1 (st5 wv80 b7 (.int .i64 g1) (.int .u8 (m1 : Int)) (.slice pa1 pn1 pc1) (.int .i64 (many : Int)) (.slice ba1 many bc1)) none ∧ (st5 wv80 b7 (.int .i64 g1) (.int .u8 (m1 : Int)) (.slice pa1 pn1 pc1) (.int .i64 (many : Int)) (.slice ba1 many bc1)).cell? ⟨w.heap.size, 0, none⟩ = some (.slice a n c) := ⟨st5_kept hHeld.1 Z7.out (.int .i64 g1) (.int .u8 (m1 : Int)) (.slice pa1 pn1 pc1) (.int .i64 (many : Int)) (.slice ba1 many bc1), by (have h7 := HLA.out; have h8 := Z7.out; exact (st5_cell (show w.heap.size ≠ b7 by omega) (.int .i64 g1) (.int .u8 (m1 : Int)) (.slice pa1 pn1 pc1) (.int .i64 (many : Int)) (.slice ba1 many bc1)).trans hHeld.2)⟩
                refine hK.out _ _ hnew (fun hHeld => ?_)
                clear hK K hnew t0 t1 t2 t3 t4 y0 y1 y2 y3 y4 R6 R7 L0 L1 hne
                have R6 := R6n
                have R7 := R7n
                have L0 := L0n
                have L1 := L1n
                clear R6n R7n L0n L1n
                dsimp only [st5] at hHeld R6 R7 L0 L1
                obtain ⟨wv82, hwv82⟩ : ∃ v, (((((wv80.setCell ⟨b7, 0, none⟩ (.int .i64 g1)).setCell ⟨b7, 1, none⟩ (.int .u8 (m1 : Int))).setCell ⟨b7, 2, none⟩ (.slice pa1 pn1 pc1)).setCell ⟨b7, 3, none⟩ (.int .i64 (many : Int))).setCell ⟨b7, 4, none⟩ (.slice ba1 many bc1)) = v := ⟨_, rfl⟩
                rw [hwv82] at hHeld R6 R7 L0 L1 ⊢
                clear hwv82
                refine wpAnyH_done (by kernel_rfl) ?_ _
                with_unfolding_all exact ⟨b6, b7, pa0, pn0, pc0, ba0, bc0, pa1, pn1, pc1, ba1, bc1, rfl, R6, R7, Hid.mk' ((P0.out.ltr L0.out).mono (by have := V0.out.1; have := HZA.out; omega)), Hid.mk' ((P1.out.ltr L1.out).mono (by have := V1.out.1; have := HZA.out; omega)), Hid.mk' ((BB0.out.ltr L0.out).mono (by have := V0.out.1; have := HZA.out; omega)), Hid.mk' ((BB1.out.ltr L1.out).mono (by have := V1.out.1; have := HZA.out; omega)), Hid.mk' ⟨by have := Z6.out; have := HZA.out; omega, by have := Z7.out; have := HZA.out; omega⟩, Hid.mk' (hkA.tr hHeld.1), Hid.mk' (rowK RA1.out hHeld.1), Hid.mk' (rowK RA2.out hHeld.1)⟩
    case rz5x7 =>
      go_simp
      have hk : Kept w0 (w0.alloc (.cells #[.int .i64 0, .int .u8 0, .slice none 0 0, .int .i64 0, .slice none 0 0] 66)) none := Kept.alloc _ _ _ _ _
      have R7 := Hid.mk' (row5 w0 (.int .i64 0) (.int .u8 0) (.slice none 0 0) (.int .i64 0) (.slice none 0 0) 66)
      have hz := hHeld.1.size
      have Z7 : Hid (w1.heap.size ≤ w0.heap.size) := Hid.mk' hz
      have hnew : Kept w1 (w0.alloc (.cells #[.int .i64 0, .int .u8 0, .slice none 0 0, .int .i64 0, .slice none 0 0] 66)) none ∧ (w0.alloc (.cells #[.int .i64 0, .int .u8 0, .slice none 0 0, .int .i64 0, .slice none 0 0] 66)).cell? ⟨w.heap.size, 0, none⟩ = some (.slice a n c) := ⟨hHeld.1.tr hk, (cell_kpt hk (Nat.lt_of_lt_of_le HLA.out hHeld.1.size)).trans hHeld.2⟩
      refine hK.out _ _ hnew (fun hHeld => ?_)
      clear hK K hnew hk hz
      obtain ⟨wv83, hwv83⟩ : ∃ v, (w0.alloc (.cells #[.int .i64 0, .int .u8 0, .slice none 0 0, .int .i64 0, .slice none 0 0] 66)) = v := ⟨_, rfl⟩
      rw [hwv83] at hHeld R7 ⊢
      clear hwv83
      obtain ⟨b7, hb7⟩ : ∃ v, w0.heap.size = v := ⟨_, rfl⟩
      have HB7 := Hid.mk' hb7
      try rw [hb7] at R7
      try rw [hb7] at Z7
      rw [hb7]
      clear hb7
      refine wpAnyH_ready (rs := [2, 6]) (by kernel_rfl) (by simp) ?_
      refine (AllReadyH.cons rfl (fun K hK => ?rz84x2) (AllReadyH.cons rfl (fun K hK => ?rz84x6) AllReadyH.nil))
      case rz84x2 =>
        go_simp
        go_wp2_with (go_at_call 34; refine (HC0.out wv83 (hkA.tr hHeld.1)).mono ?_; rintro e wv85 ⟨pa0, pn0, pc0, ba0, bc0, rfl, hp, hb, hk⟩)
        have P0 := Hid.mk' hp
        have BB0 := Hid.mk' hb
        have hz0 := hHeld.1.size
        have hs0 := hk.size
        have E70 : Hid (b7 < wv83.heap.size ∨ wv85.heap.size ≤ b7) := Hid.mk' (.inl R7.out.lt)
        have R7 := Hid.mk' (rowK R7.out hk)
        have L0 := Hid.mk' (Ltr.refl wv83.heap.size wv85)
        have hnew : Kept w1 wv85 none ∧ wv85.cell? ⟨w.heap.size, 0, none⟩ = some (.slice a n c) := ⟨hHeld.1.tr hk, (cell_kpt hk (Nat.lt_of_lt_of_le HLA.out hHeld.1.size)).trans hHeld.2⟩
        have V0 : Hid (w1.heap.size ≤ wv83.heap.size ∧ wv83.heap.size ≤ wv85.heap.size) := Hid.mk' ⟨hz0, hs0⟩
        clear hp hb hk hz0 hs0
        refine hK.out _ _ hnew (fun hHeld => ?_)
        clear hK K hnew
        refine wpAnyH_ready (rs := [5, 6]) (by kernel_rfl) (by simp) ?_
        refine (AllReadyH.cons rfl (fun K hK => ?rz86x5) (AllReadyH.cons rfl (fun K hK => ?rz86x6) AllReadyH.nil))
        case rz86x5 =>
          go_simp
          go_wp2_with (go_at_call 34; refine (HC1.out wv85 (hkA.tr hHeld.1)).mono ?_; rintro e wv87 ⟨pa1, pn1, pc1, ba1, bc1, rfl, hp, hb, hk⟩)
          have P1 := Hid.mk' hp
          have BB1 := Hid.mk' hb
          have hz1 := hHeld.1.size
          have hs1 := hk.size
          have E71 : Hid (b7 < wv85.heap.size ∨ wv87.heap.size ≤ b7) := Hid.mk' (.inl R7.out.lt)
          have R7 := Hid.mk' (rowK R7.out hk)
          have L0 := Hid.mk' (L0.out.tr hk.toLtr)
          have L1 := Hid.mk' (Ltr.refl wv85.heap.size wv87)
          have hnew : Kept w1 wv87 none ∧ wv87.cell? ⟨w.heap.size, 0, none⟩ = some (.slice a n c) := ⟨hHeld.1.tr hk, (cell_kpt hk (Nat.lt_of_lt_of_le HLA.out hHeld.1.size)).trans hHeld.2⟩
          have V1 : Hid (w1.heap.size ≤ wv85.heap.size ∧ wv85.heap.size ≤ wv87.heap.size) := Hid.mk' ⟨hz1, hs1⟩
          clear hp hb hk hz1 hs1
          refine hK.out _ _ hnew (fun hHeld => ?_)
          clear hK K hnew
          refine wpAnyH_ready (rs := [6]) (by kernel_rfl) (by simp) ?_
          refine (AllReadyH.cons rfl (fun K hK => ?rz88x6) AllReadyH.nil)
          case rz88x6 =>
            have L0b := L0
            have L1b := L1
            have R7b := R7
            go_simp
            have hk : Kept wv87 (wv87.alloc (.cells #[.int .i64 0, .int .u8 0, .slice none 0 0, .int .i64 0, .slice none 0 0] 66)) none := Kept.alloc _ _ _ _ _
            have R7 := Hid.mk' (rowK R7.out hk)
            have L0 := Hid.mk' (L0.out.tr hk.toLtr)
            have L1 := Hid.mk' (L1.out.tr hk.toLtr)
            have R6 := Hid.mk' (row5 wv87 (.int .i64 0) (.int .u8 0) (.slice none 0 0) (.int .i64 0) (.slice none 0 0) 66)
            have hz := hHeld.1.size
            have Z6 : Hid (w1.heap.size ≤ wv87.heap.size) := Hid.mk' hz
            have SZ60 := L0b.out.size
            have SZ61 := L1b.out.size
            have N67 : Hid (b7 < wv87.heap.size) := Hid.mk' R7b.out.lt
            clear L0b
            clear L1b
            clear R7b
            have hnew : Kept w1 (wv87.alloc (.cells #[.int .i64 0, .int .u8 0, .slice none 0 0, .int .i64 0, .slice none 0 0] 66)) none ∧ (wv87.alloc (.cells #[.int .i64 0, .int .u8 0, .slice none 0 0, .int .i64 0, .slice none 0 0] 66)).cell? ⟨w.heap.size, 0, none⟩ = some (.slice a n c) := ⟨hHeld.1.tr hk, (cell_kpt hk (Nat.lt_of_lt_of_le HLA.out hHeld.1.size)).trans hHeld.2⟩
            refine hK.out _ _ hnew (fun hHeld => ?_)
            clear hK K hnew hk hz
            obtain ⟨wv89, hwv89⟩ : ∃ v, (wv87.alloc (.cells #[.int .i64 0, .int .u8 0, .slice none 0 0, .int .i64 0, .slice none 0 0] 66)) = v := ⟨_, rfl⟩
            rw [hwv89] at hHeld R7 R6 L0 L1 ⊢
            clear hwv89
            obtain ⟨b6, hb6⟩ : ∃ v, wv87.heap.size = v := ⟨_, rfl⟩
            have HB6 := Hid.mk' hb6
            try rw [hb6] at R6
            try rw [hb6] at Z6
            try rw [hb6] at N67
            have E60 : Hid (b6 < wv83.heap.size ∨ wv85.heap.size ≤ b6) := Hid.mk' (.inr (by rw [← hb6]; exact SZ60))
            clear SZ60
            have E61 : Hid (b6 < wv85.heap.size ∨ wv87.heap.size ≤ b6) := Hid.mk' (.inr (by rw [← hb6]; exact SZ61))
            clear SZ61
            rw [hb6]
            clear hb6
            refine wpAnyH_ready (rs := [8]) (by kernel_rfl) (by simp) ?_
            refine (AllReadyH.cons rfl (fun K hK => ?rz90x8) AllReadyH.nil)
            case rz90x8 =>
              have t0 := R6.out.cell (i := 0) (by omega)
              have y0 := R6.out.frozen 0
              have t1 := R6.out.cell (i := 1) (by omega)
              have y1 := R6.out.frozen 1
              have t2 := R6.out.cell (i := 2) (by omega)
              have y2 := R6.out.frozen 2
              have t3 := R6.out.cell (i := 3) (by omega)
              have y3 := R6.out.frozen 3
              have t4 := R6.out.cell (i := 4) (by omega)
              have y4 := R6.out.frozen 4
              simp [f5] at t0 t1 t2 t3 t4
              go_simp
              have hne : b6 ≠ b7 := by have := N67.out; omega
              have R7n := Hid.mk' (st5_row R7.out (show b7 ≠ b6 by omega) (.int .i64 g0) (.int .u8 (m0 : Int)) (.slice pa0 pn0 pc0) (.int .i64 0) (.slice ba0 many bc0))
              have R6n := Hid.mk' (row5_set5 R6.out (.int .i64 g0) (.int .u8 (m0 : Int)) (.slice pa0 pn0 pc0) (.int .i64 0) (.slice ba0 many bc0))
              have L0n := Hid.mk' (st5_ltr L0.out E60.out (.int .i64 g0) (.int .u8 (m0 : Int)) (.slice pa0 pn0 pc0) (.int .i64 0) (.slice ba0 many bc0))
              have L1n := Hid.mk' (st5_ltr L1.out E61.out (.int .i64 g0) (.int .u8 (m0 : Int)) (.slice pa0 pn0 pc0) (.int .i64 0) (.slice ba0 many bc0))
              have hnew : Kept w1 (st5 wv89 b6 (.int .i64 g0) (.int .u8 (m0 : Int)) (.slice pa0 pn0 pc0) (.int .i64 0) (.slice ba0 many bc0)) none ∧ (st5 wv89 b6 (.int .i64 g0) (.int .u8 (m0 : Int)) (.slice pa0 pn0 pc0) (.int .i64 0) (.slice ba0 many bc0)).cell? ⟨w.heap.size, 0, none⟩ = some (.slice a n c) := ⟨st5_kept hHeld.1 Z6.out (.int .i64 g0) (.int .u8 (m0 : Int)) (.slice pa0 pn0 pc0) (.int .i64 0) (.slice ba0 many bc0), by (have h7 := HLA.out; have h8 := Z6.out; exact (st5_cell (show w.heap.size ≠ b6 by omega) (.int .i64 g0) (.int .u8 (m0 : Int)) (.slice pa0 pn0 pc0) (.int .i64 0) (.slice ba0 many bc0)).trans hHeld.2)⟩
              refine hK.out _ _ hnew (fun hHeld => ?_)
              clear hK K hnew t0 t1 t2 t3 t4 y0 y1 y2 y3 y4 R6 R7 L0 L1 hne
              have R6 := R6n
              have R7 := R7n
              have L0 := L0n
              have L1 := L1n
              clear R6n R7n L0n L1n
              dsimp only [st5] at hHeld R6 R7 L0 L1
              obtain ⟨wv91, hwv91⟩ : ∃ v, (((((wv89.setCell ⟨b6, 0, none⟩ (.int .i64 g0)).setCell ⟨b6, 1, none⟩ (.int .u8 (m0 : Int))).setCell ⟨b6, 2, none⟩ (.slice pa0 pn0 pc0)).setCell ⟨b6, 3, none⟩ (.int .i64 0)).setCell ⟨b6, 4, none⟩ (.slice ba0 many bc0)) = v := ⟨_, rfl⟩
              rw [hwv91] at hHeld R6 R7 L0 L1 ⊢
              clear hwv91
              refine wpAnyH_ready (rs := [9]) (by kernel_rfl) (by simp) ?_
              refine (AllReadyH.cons rfl (fun K hK => ?rz92x9) AllReadyH.nil)
              case rz92x9 =>
                have t0 := R7.out.cell (i := 0) (by omega)
                have y0 := R7.out.frozen 0
                have t1 := R7.out.cell (i := 1) (by omega)
                have y1 := R7.out.frozen 1
                have t2 := R7.out.cell (i := 2) (by omega)
                have y2 := R7.out.frozen 2
                have t3 := R7.out.cell (i := 3) (by omega)
                have y3 := R7.out.frozen 3
                have t4 := R7.out.cell (i := 4) (by omega)
                have y4 := R7.out.frozen 4
                simp [f5] at t0 t1 t2 t3 t4
                go_simp
                have hne : b6 ≠ b7 := by have := N67.out; omega
                have R6n := Hid.mk' (st5_row R6.out (show b6 ≠ b7 by omega) (.int .i64 g1) (.int .u8 (m1 : Int)) (.slice pa1 pn1 pc1) (.int .i64 (many : Int)) (.slice ba1 many bc1))
                have R7n := Hid.mk' (row5_set5 R7.out (.int .i64 g1) (.int .u8 (m1 : Int)) (.slice pa1 pn1 pc1) (.int .i64 (many : Int)) (.slice ba1 many bc1))
                have L0n := Hid.mk' (st5_ltr L0.out E70.out (.int .i64 g1) (.int .u8 (m1 : Int)) (.slice pa1 pn1 pc1) (.int .i64 (many : Int)) (.slice ba1 many bc1))
                have L1n := Hid.mk' (st5_ltr L1.out E71.out (.int .i64 g1) (.int .u8 (m1 : Int)) (.slice pa1 pn1 pc1) (.int .i64 (many : Int)) (.slice ba1 many bc1))
                have hnew : Kept w1 (st5 wv91 b7 (.int .i64 g1) (.int .u8 (m1 : Int)) (.slice pa1 pn1 pc1) (.int .i64 (many : Int)) (.slice ba1 many bc1)) none ∧ (st5 wv91 b7 (.int .i64 g1) (.int .u8 (m1 : Int)) (.slice pa1 pn1 pc1) (.int .i64 (many : Int)) (.slice ba1 many bc1)).cell? ⟨w.heap.size, 0, none⟩ = some (.slice a n c) := ⟨st5_kept hHeld.1 Z7.out (.int .i64 g1) (.int .u8 (m1 : Int)) (.slice pa1 pn1 pc1) (.int .i64 (many : Int)) (.slice ba1 many bc1), by (have h7 := HLA.out; have h8 := Z7.out; exact (st5_cell (show w.heap.size ≠ b7 by omega) (.int .i64 g1) (.int .u8 (m1 : Int)) (.slice pa1 pn1 pc1) (.int .i64 (many : Int)) (.slice ba1 many bc1)).trans hHeld.2)⟩
                refine hK.out _ _ hnew (fun hHeld => ?_)
                clear hK K hnew t0 t1 t2 t3 t4 y0 y1 y2 y3 y4 R6 R7 L0 L1 hne
                have R6 := R6n
                have R7 := R7n
                have L0 := L0n
                have L1 := L1n
                clear R6n R7n L0n L1n
                dsimp only [st5] at hHeld R6 R7 L0 L1
                obtain ⟨wv93, hwv93⟩ : ∃ v, (((((wv91.setCell ⟨b7, 0, none⟩ (.int .i64 g1)).setCell ⟨b7, 1, none⟩ (.int .u8 (m1 : Int))).setCell ⟨b7, 2, none⟩ (.slice pa1 pn1 pc1)).setCell ⟨b7, 3, none⟩ (.int .i64 (many : Int))).setCell ⟨b7, 4, none⟩ (.slice ba1 many bc1)) = v := ⟨_, rfl⟩
                rw [hwv93] at hHeld R6 R7 L0 L1 ⊢
                clear hwv93
                refine wpAnyH_done (by kernel_rfl) ?_ _
                with_unfolding_all exact ⟨b6, b7, pa0, pn0, pc0, ba0, bc0, pa1, pn1, pc1, ba1, bc1, rfl, R6, R7, Hid.mk' ((P0.out.ltr L0.out).mono (by have := V0.out.1; have := HZA.out; omega)), Hid.mk' ((P1.out.ltr L1.out).mono (by have := V1.out.1; have := HZA.out; omega)), Hid.mk' ((BB0.out.ltr L0.out).mono (by have := V0.out.1; have := HZA.out; omega)), Hid.mk' ((BB1.out.ltr L1.out).mono (by have := V1.out.1; have := HZA.out; omega)), Hid.mk' ⟨by have := Z6.out; have := HZA.out; omega, by have := Z7.out; have := HZA.out; omega⟩, Hid.mk' (hkA.tr hHeld.1), Hid.mk' (rowK RA1.out hHeld.1), Hid.mk' (rowK RA2.out hHeld.1)⟩
        case rz86x6 =>
          have L0b := L0
          have R7b := R7
          go_simp
          have hk : Kept wv85 (wv85.alloc (.cells #[.int .i64 0, .int .u8 0, .slice none 0 0, .int .i64 0, .slice none 0 0] 66)) none := Kept.alloc _ _ _ _ _
          have R7 := Hid.mk' (rowK R7.out hk)
          have L0 := Hid.mk' (L0.out.tr hk.toLtr)
          have R6 := Hid.mk' (row5 wv85 (.int .i64 0) (.int .u8 0) (.slice none 0 0) (.int .i64 0) (.slice none 0 0) 66)
          have hz := hHeld.1.size
          have Z6 : Hid (w1.heap.size ≤ wv85.heap.size) := Hid.mk' hz
          have SZ60 := L0b.out.size
          have N67 : Hid (b7 < wv85.heap.size) := Hid.mk' R7b.out.lt
          clear L0b
          clear R7b
          have hnew : Kept w1 (wv85.alloc (.cells #[.int .i64 0, .int .u8 0, .slice none 0 0, .int .i64 0, .slice none 0 0] 66)) none ∧ (wv85.alloc (.cells #[.int .i64 0, .int .u8 0, .slice none 0 0, .int .i64 0, .slice none 0 0] 66)).cell? ⟨w.heap.size, 0, none⟩ = some (.slice a n c) := ⟨hHeld.1.tr hk, (cell_kpt hk (Nat.lt_of_lt_of_le HLA.out hHeld.1.size)).trans hHeld.2⟩
          refine hK.out _ _ hnew (fun hHeld => ?_)
          clear hK K hnew hk hz
          obtain ⟨wv94, hwv94⟩ : ∃ v, (wv85.alloc (.cells #[.int .i64 0, .int .u8 0, .slice none 0 0, .int .i64 0, .slice none 0 0] 66)) = v := ⟨_, rfl⟩
          rw [hwv94] at hHeld R7 R6 L0 ⊢
          clear hwv94
          obtain ⟨b6, hb6⟩ : ∃ v, wv85.heap.size = v := ⟨_, rfl⟩
          have HB6 := Hid.mk' hb6
          try rw [hb6] at R6
          try rw [hb6] at Z6
          try rw [hb6] at N67
          have E60 : Hid (b6 < wv83.heap.size ∨ wv85.heap.size ≤ b6) := Hid.mk' (.inr (by rw [← hb6]; exact SZ60))
          clear SZ60
          rw [hb6]
          clear hb6
          refine wpAnyH_ready (rs := [5]) (by kernel_rfl) (by simp) ?_
          refine (AllReadyH.cons rfl (fun K hK => ?rz95x5) AllReadyH.nil)
          case rz95x5 =>
            go_simp
            go_wp2_with (go_at_call 34; refine (HC1.out wv94 (hkA.tr hHeld.1)).mono ?_; rintro e wv96 ⟨pa1, pn1, pc1, ba1, bc1, rfl, hp, hb, hk⟩)
            have P1 := Hid.mk' hp
            have BB1 := Hid.mk' hb
            have hz1 := hHeld.1.size
            have hs1 := hk.size
            have E61 : Hid (b6 < wv94.heap.size ∨ wv96.heap.size ≤ b6) := Hid.mk' (.inl R6.out.lt)
            have E71 : Hid (b7 < wv94.heap.size ∨ wv96.heap.size ≤ b7) := Hid.mk' (.inl R7.out.lt)
            have R6 := Hid.mk' (rowK R6.out hk)
            have R7 := Hid.mk' (rowK R7.out hk)
            have L0 := Hid.mk' (L0.out.tr hk.toLtr)
            have L1 := Hid.mk' (Ltr.refl wv94.heap.size wv96)
            have hnew : Kept w1 wv96 none ∧ wv96.cell? ⟨w.heap.size, 0, none⟩ = some (.slice a n c) := ⟨hHeld.1.tr hk, (cell_kpt hk (Nat.lt_of_lt_of_le HLA.out hHeld.1.size)).trans hHeld.2⟩
            have V1 : Hid (w1.heap.size ≤ wv94.heap.size ∧ wv94.heap.size ≤ wv96.heap.size) := Hid.mk' ⟨hz1, hs1⟩
            clear hp hb hk hz1 hs1
            refine hK.out _ _ hnew (fun hHeld => ?_)
            clear hK K hnew
            refine wpAnyH_ready (rs := [8]) (by kernel_rfl) (by simp) ?_
            refine (AllReadyH.cons rfl (fun K hK => ?rz97x8) AllReadyH.nil)
            case rz97x8 =>
              have t0 := R6.out.cell (i := 0) (by omega)
              have y0 := R6.out.frozen 0
              have t1 := R6.out.cell (i := 1) (by omega)
              have y1 := R6.out.frozen 1
              have t2 := R6.out.cell (i := 2) (by omega)
              have y2 := R6.out.frozen 2
              have t3 := R6.out.cell (i := 3) (by omega)
              have y3 := R6.out.frozen 3
              have t4 := R6.out.cell (i := 4) (by omega)
              have y4 := R6.out.frozen 4
              simp [f5] at t0 t1 t2 t3 t4
              go_simp
              have hne : b6 ≠ b7 := by have := N67.out; omega
              have R7n := Hid.mk' (st5_row R7.out (show b7 ≠ b6 by omega) (.int .i64 g0) (.int .u8 (m0 : Int)) (.slice pa0 pn0 pc0) (.int .i64 0) (.slice ba0 many bc0))
              have R6n := Hid.mk' (row5_set5 R6.out (.int .i64 g0) (.int .u8 (m0 : Int)) (.slice pa0 pn0 pc0) (.int .i64 0) (.slice ba0 many bc0))
              have L0n := Hid.mk' (st5_ltr L0.out E60.out (.int .i64 g0) (.int .u8 (m0 : Int)) (.slice pa0 pn0 pc0) (.int .i64 0) (.slice ba0 many bc0))
              have L1n := Hid.mk' (st5_ltr L1.out E61.out (.int .i64 g0) (.int .u8 (m0 : Int)) (.slice pa0 pn0 pc0) (.int .i64 0) (.slice ba0 many bc0))
              have hnew : Kept w1 (st5 wv96 b6 (.int .i64 g0) (.int .u8 (m0 : Int)) (.slice pa0 pn0 pc0) (.int .i64 0) (.slice ba0 many bc0)) none ∧ (st5 wv96 b6 (.int .i64 g0) (.int .u8 (m0 : Int)) (.slice pa0 pn0 pc0) (.int .i64 0) (.slice ba0 many bc0)).cell? ⟨w.heap.size, 0, none⟩ = some (.slice a n c) := ⟨st5_kept hHeld.1 Z6.out (.int .i64 g0) (.int .u8 (m0 : Int)) (.slice pa0 pn0 pc0) (.int .i64 0) (.slice ba0 many bc0), by (have h7 := HLA.out; have h8 := Z6.out; exact (st5_cell (show w.heap.size ≠ b6 by omega) (.int .i64 g0) (.int .u8 (m0 : Int)) (.slice pa0 pn0 pc0) (.int .i64 0) (.slice ba0 many bc0)).trans hHeld.2)⟩
              refine hK.out _ _ hnew (fun hHeld => ?_)
              clear hK K hnew t0 t1 t2 t3 t4 y0 y1 y2 y3 y4 R6 R7 L0 L1 hne
              have R6 := R6n
              have R7 := R7n
              have L0 := L0n
              have L1 := L1n
              clear R6n R7n L0n L1n
              dsimp only [st5] at hHeld R6 R7 L0 L1
              obtain ⟨wv98, hwv98⟩ : ∃ v, (((((wv96.setCell ⟨b6, 0, none⟩ (.int .i64 g0)).setCell ⟨b6, 1, none⟩ (.int .u8 (m0 : Int))).setCell ⟨b6, 2, none⟩ (.slice pa0 pn0 pc0)).setCell ⟨b6, 3, none⟩ (.int .i64 0)).setCell ⟨b6, 4, none⟩ (.slice ba0 many bc0)) = v := ⟨_, rfl⟩
              rw [hwv98] at hHeld R6 R7 L0 L1 ⊢
              clear hwv98
              refine wpAnyH_ready (rs := [9]) (by kernel_rfl) (by simp) ?_
              refine (AllReadyH.cons rfl (fun K hK => ?rz99x9) AllReadyH.nil)
              case rz99x9 =>
                have t0 := R7.out.cell (i := 0) (by omega)
                have y0 := R7.out.frozen 0
                have t1 := R7.out.cell (i := 1) (by omega)
                have y1 := R7.out.frozen 1
                have t2 := R7.out.cell (i := 2) (by omega)
                have y2 := R7.out.frozen 2
                have t3 := R7.out.cell (i := 3) (by omega)
                have y3 := R7.out.frozen 3
                have t4 := R7.out.cell (i := 4) (by omega)
                have y4 := R7.out.frozen 4
                simp [f5] at t0 t1 t2 t3 t4
                go_simp
                have hne : b6 ≠ b7 := by have := N67.out; omega
                have R6n := Hid.mk' (st5_row R6.out (show b6 ≠ b7 by omega) (.int .i64 g1) (.int .u8 (m1 : Int)) (.slice pa1 pn1 pc1) (.int .i64 (many : Int)) (.slice ba1 many bc1))
                have R7n := Hid.mk' (row5_set5 R7.out (.int .i64 g1) (.int .u8 (m1 : Int)) (.slice pa1 pn1 pc1) (.int .i64 (many : Int)) (.slice ba1 many bc1))
                have L0n := Hid.mk' (st5_ltr L0.out E70.out (.int .i64 g1) (.int .u8 (m1 : Int)) (.slice pa1 pn1 pc1) (.int .i64 (many : Int)) (.slice ba1 many bc1))
                have L1n := Hid.mk' (st5_ltr L1.out E71.out (.int .i64 g1) (.int .u8 (m1 : Int)) (.slice pa1 pn1 pc1) (.int .i64 (many : Int)) (.slice ba1 many bc1))
                have hnew : Kept w1 (st5 wv98 b7 (.int .i64 g1) (.int .u8 (m1 : Int)) (.slice pa1 pn1 pc1) (.int .i64 (many : Int)) (.slice ba1 many bc1)) none ∧ (st5 wv98 b7 (.int .i64 g1) (.int .u8 (m1 : Int)) (.slice pa1 pn1 pc1) (.int .i64 (many : Int)) (.slice ba1 many bc1)).cell? ⟨w.heap.size, 0, none⟩ = some (.slice a n c) := ⟨st5_kept hHeld.1 Z7.out (.int .i64 g1) (.int .u8 (m1 : Int)) (.slice pa1 pn1 pc1) (.int .i64 (many : Int)) (.slice ba1 many bc1), by (have h7 := HLA.out; have h8 := Z7.out; exact (st5_cell (show w.heap.size ≠ b7 by omega) (.int .i64 g1) (.int .u8 (m1 : Int)) (.slice pa1 pn1 pc1) (.int .i64 (many : Int)) (.slice ba1 many bc1)).trans hHeld.2)⟩
                refine hK.out _ _ hnew (fun hHeld => ?_)
                clear hK K hnew t0 t1 t2 t3 t4 y0 y1 y2 y3 y4 R6 R7 L0 L1 hne
                have R6 := R6n
                have R7 := R7n
                have L0 := L0n
                have L1 := L1n
                clear R6n R7n L0n L1n
                dsimp only [st5] at hHeld R6 R7 L0 L1
                obtain ⟨wv100, hwv100⟩ : ∃ v, (((((wv98.setCell ⟨b7, 0, none⟩ (.int .i64 g1)).setCell ⟨b7, 1, none⟩ (.int .u8 (m1 : Int))).setCell ⟨b7, 2, none⟩ (.slice pa1 pn1 pc1)).setCell ⟨b7, 3, none⟩ (.int .i64 (many : Int))).setCell ⟨b7, 4, none⟩ (.slice ba1 many bc1)) = v := ⟨_, rfl⟩
                rw [hwv100] at hHeld R6 R7 L0 L1 ⊢
                clear hwv100
                refine wpAnyH_done (by kernel_rfl) ?_ _
                with_unfolding_all exact ⟨b6, b7, pa0, pn0, pc0, ba0, bc0, pa1, pn1, pc1, ba1, bc1, rfl, R6, R7, Hid.mk' ((P0.out.ltr L0.out).mono (by have := V0.out.1; have := HZA.out; omega)), Hid.mk' ((P1.out.ltr L1.out).mono (by have := V1.out.1; have := HZA.out; omega)), Hid.mk' ((BB0.out.ltr L0.out).mono (by have := V0.out.1; have := HZA.out; omega)), Hid.mk' ((BB1.out.ltr L1.out).mono (by have := V1.out.1; have := HZA.out; omega)), Hid.mk' ⟨by have := Z6.out; have := HZA.out; omega, by have := Z7.out; have := HZA.out; omega⟩, Hid.mk' (hkA.tr hHeld.1), Hid.mk' (rowK RA1.out hHeld.1), Hid.mk' (rowK RA2.out hHeld.1)⟩
      case rz84x6 =>
        have R7b := R7
        go_simp
        have hk : Kept wv83 (wv83.alloc (.cells #[.int .i64 0, .int .u8 0, .slice none 0 0, .int .i64 0, .slice none 0 0] 66)) none := Kept.alloc _ _ _ _ _
        have R7 := Hid.mk' (rowK R7.out hk)
        have R6 := Hid.mk' (row5 wv83 (.int .i64 0) (.int .u8 0) (.slice none 0 0) (.int .i64 0) (.slice none 0 0) 66)
        have hz := hHeld.1.size
        have Z6 : Hid (w1.heap.size ≤ wv83.heap.size) := Hid.mk' hz
        have N67 : Hid (b7 < wv83.heap.size) := Hid.mk' R7b.out.lt
        clear R7b
        have hnew : Kept w1 (wv83.alloc (.cells #[.int .i64 0, .int .u8 0, .slice none 0 0, .int .i64 0, .slice none 0 0] 66)) none ∧ (wv83.alloc (.cells #[.int .i64 0, .int .u8 0, .slice none 0 0, .int .i64 0, .slice none 0 0] 66)).cell? ⟨w.heap.size, 0, none⟩ = some (.slice a n c) := ⟨hHeld.1.tr hk, (cell_kpt hk (Nat.lt_of_lt_of_le HLA.out hHeld.1.size)).trans hHeld.2⟩
        refine hK.out _ _ hnew (fun hHeld => ?_)
        clear hK K hnew hk hz
        obtain ⟨wv101, hwv101⟩ : ∃ v, (wv83.alloc (.cells #[.int .i64 0, .int .u8 0, .slice none 0 0, .int .i64 0, .slice none 0 0] 66)) = v := ⟨_, rfl⟩
        rw [hwv101] at hHeld R7 R6 ⊢
        clear hwv101
        obtain ⟨b6, hb6⟩ : ∃ v, wv83.heap.size = v := ⟨_, rfl⟩
        have HB6 := Hid.mk' hb6
        try rw [hb6] at R6
        try rw [hb6] at Z6
        try rw [hb6] at N67
        rw [hb6]
        clear hb6
        refine wpAnyH_ready (rs := [2]) (by kernel_rfl) (by simp) ?_
        refine (AllReadyH.cons rfl (fun K hK => ?rz102x2) AllReadyH.nil)
        case rz102x2 =>
          go_simp
          go_wp2_with (go_at_call 34; refine (HC0.out wv101 (hkA.tr hHeld.1)).mono ?_; rintro e wv103 ⟨pa0, pn0, pc0, ba0, bc0, rfl, hp, hb, hk⟩)
          have P0 := Hid.mk' hp
          have BB0 := Hid.mk' hb
          have hz0 := hHeld.1.size
          have hs0 := hk.size
          have E60 : Hid (b6 < wv101.heap.size ∨ wv103.heap.size ≤ b6) := Hid.mk' (.inl R6.out.lt)
          have E70 : Hid (b7 < wv101.heap.size ∨ wv103.heap.size ≤ b7) := Hid.mk' (.inl R7.out.lt)
          have R6 := Hid.mk' (rowK R6.out hk)
          have R7 := Hid.mk' (rowK R7.out hk)
          have L0 := Hid.mk' (Ltr.refl wv101.heap.size wv103)
          have hnew : Kept w1 wv103 none ∧ wv103.cell? ⟨w.heap.size, 0, none⟩ = some (.slice a n c) := ⟨hHeld.1.tr hk, (cell_kpt hk (Nat.lt_of_lt_of_le HLA.out hHeld.1.size)).trans hHeld.2⟩
          have V0 : Hid (w1.heap.size ≤ wv101.heap.size ∧ wv101.heap.size ≤ wv103.heap.size) := Hid.mk' ⟨hz0, hs0⟩
          clear hp hb hk hz0 hs0
          refine hK.out _ _ hnew (fun hHeld => ?_)
          clear hK K hnew
          refine wpAnyH_ready (rs := [5]) (by kernel_rfl) (by simp) ?_
          refine (AllReadyH.cons rfl (fun K hK => ?rz104x5) AllReadyH.nil)
          case rz104x5 =>
            go_simp
            go_wp2_with (go_at_call 34; refine (HC1.out wv103 (hkA.tr hHeld.1)).mono ?_; rintro e wv105 ⟨pa1, pn1, pc1, ba1, bc1, rfl, hp, hb, hk⟩)
            have P1 := Hid.mk' hp
            have BB1 := Hid.mk' hb
            have hz1 := hHeld.1.size
            have hs1 := hk.size
            have E61 : Hid (b6 < wv103.heap.size ∨ wv105.heap.size ≤ b6) := Hid.mk' (.inl R6.out.lt)
            have E71 : Hid (b7 < wv103.heap.size ∨ wv105.heap.size ≤ b7) := Hid.mk' (.inl R7.out.lt)
            have R6 := Hid.mk' (rowK R6.out hk)
            have R7 := Hid.mk' (rowK R7.out hk)
            have L0 := Hid.mk' (L0.out.tr hk.toLtr)
            have L1 := Hid.mk' (Ltr.refl wv103.heap.size wv105)
            have hnew : Kept w1 wv105 none ∧ wv105.cell? ⟨w.heap.size, 0, none⟩ = some (.slice a n c) := ⟨hHeld.1.tr hk, (cell_kpt hk (Nat.lt_of_lt_of_le HLA.out hHeld.1.size)).trans hHeld.2⟩
            have V1 : Hid (w1.heap.size ≤ wv103.heap.size ∧ wv103.heap.size ≤ wv105.heap.size) := Hid.mk' ⟨hz1, hs1⟩
            clear hp hb hk hz1 hs1
            refine hK.out _ _ hnew (fun hHeld => ?_)
            clear hK K hnew
            refine wpAnyH_ready (rs := [8]) (by kernel_rfl) (by simp) ?_
            refine (AllReadyH.cons rfl (fun K hK => ?rz106x8) AllReadyH.nil)
            case rz106x8 =>
              have t0 := R6.out.cell (i := 0) (by omega)
              have y0 := R6.out.frozen 0
              have t1 := R6.out.cell (i := 1) (by omega)
              have y1 := R6.out.frozen 1
              have t2 := R6.out.cell (i := 2) (by omega)
              have y2 := R6.out.frozen 2
              have t3 := R6.out.cell (i := 3) (by omega)
              have y3 := R6.out.frozen 3
              have t4 := R6.out.cell (i := 4) (by omega)
              have y4 := R6.out.frozen 4
              simp [f5] at t0 t1 t2 t3 t4
              go_simp
              have hne : b6 ≠ b7 := by have := N67.out; omega
              have R7n := Hid.mk' (st5_row R7.out (show b7 ≠ b6 by omega) (.int .i64 g0) (.int .u8 (m0 : Int)) (.slice pa0 pn0 pc0) (.int .i64 0) (.slice ba0 many bc0))
              have R6n := Hid.mk' (row5_set5 R6.out (.int .i64 g0) (.int .u8 (m0 : Int)) (.slice pa0 pn0 pc0) (.int .i64 0) (.slice ba0 many bc0))
              have L0n := Hid.mk' (st5_ltr L0.out E60.out (.int .i64 g0) (.int .u8 (m0 : Int)) (.slice pa0 pn0 pc0) (.int .i64 0) (.slice ba0 many bc0))
              have L1n := Hid.mk' (st5_ltr L1.out E61.out (.int .i64 g0) (.int .u8 (m0 : Int)) (.slice pa0 pn0 pc0) (.int .i64 0) (.slice ba0 many bc0))
              have hnew : Kept w1 (st5 wv105 b6 (.int .i64 g0) (.int .u8 (m0 : Int)) (.slice pa0 pn0 pc0) (.int .i64 0) (.slice ba0 many bc0)) none ∧ (st5 wv105 b6 (.int .i64 g0) (.int .u8 (m0 : Int)) (.slice pa0 pn0 pc0) (.int .i64 0) (.slice ba0 many bc0)).cell? ⟨w.heap.size, 0, none⟩ = some (.slice a n c) := ⟨st5_kept hHeld.1 Z6.out (.int .i64 g0) (.int .u8 (m0 : Int)) (.slice pa0 pn0 pc0) (.int .i64 0) (.slice ba0 many bc0), by (have h7 := HLA.out; have h8 := Z6.out; exact (st5_cell (show w.heap.size ≠ b6 by omega) (.int .i64 g0) (.int .u8 (m0 : Int)) (.slice pa0 pn0 pc0) (.int .i64 0) (.slice ba0 many bc0)).trans hHeld.2)⟩
              refine hK.out _ _ hnew (fun hHeld => ?_)
              clear hK K hnew t0 t1 t2 t3 t4 y0 y1 y2 y3 y4 R6 R7 L0 L1 hne
              have R6 := R6n
              have R7 := R7n
              have L0 := L0n
              have L1 := L1n
              clear R6n R7n L0n L1n
              dsimp only [st5] at hHeld R6 R7 L0 L1
              obtain ⟨wv107, hwv107⟩ : ∃ v, (((((wv105.setCell ⟨b6, 0, none⟩ (.int .i64 g0)).setCell ⟨b6, 1, none⟩ (.int .u8 (m0 : Int))).setCell ⟨b6, 2, none⟩ (.slice pa0 pn0 pc0)).setCell ⟨b6, 3, none⟩ (.int .i64 0)).setCell ⟨b6, 4, none⟩ (.slice ba0 many bc0)) = v := ⟨_, rfl⟩
              rw [hwv107] at hHeld R6 R7 L0 L1 ⊢
              clear hwv107
              refine wpAnyH_ready (rs := [9]) (by kernel_rfl) (by simp) ?_
              refine (AllReadyH.cons rfl (fun K hK => ?rz108x9) AllReadyH.nil)
              case rz108x9 =>
                have t0 := R7.out.cell (i := 0) (by omega)
                have y0 := R7.out.frozen 0
                have t1 := R7.out.cell (i := 1) (by omega)
                have y1 := R7.out.frozen 1
                have t2 := R7.out.cell (i := 2) (by omega)
                have y2 := R7.out.frozen 2
                have t3 := R7.out.cell (i := 3) (by omega)
                have y3 := R7.out.frozen 3
                have t4 := R7.out.cell (i := 4) (by omega)
                have y4 := R7.out.frozen 4
                simp [f5] at t0 t1 t2 t3 t4
                go_simp
                have hne : b6 ≠ b7 := by have := N67.out; omega
                have R6n := Hid.mk' (st5_row R6.out (show b6 ≠ b7 by omega) (.int .i64 g1) (.int .u8 (m1 : Int)) (.slice pa1 pn1 pc1) (.int .i64 (many : Int)) (.slice ba1 many bc1))
                have R7n := Hid.mk' (row5_set5 R7.out (.int .i64 g1) (.int .u8 (m1 : Int)) (.slice pa1 pn1 pc1) (.int .i64 (many : Int)) (.slice ba1 many bc1))
                have L0n := Hid.mk' (st5_ltr L0.out E70.out (.int .i64 g1) (.int .u8 (m1 : Int)) (.slice pa1 pn1 pc1) (.int .i64 (many : Int)) (.slice ba1 many bc1))
                have L1n := Hid.mk' (st5_ltr L1.out E71.out (.int .i64 g1) (.int .u8 (m1 : Int)) (.slice pa1 pn1 pc1) (.int .i64 (many : Int)) (.slice ba1 many bc1))
                have hnew : Kept w1 (st5 wv107 b7 (.int .i64 g1) (.int .u8 (m1 : Int)) (.slice pa1 pn1 pc1) (.int .i64 (many : Int)) (.slice ba1 many bc1)) none ∧ (st5 wv107 b7 (.int .i64 g1) (.int .u8 (m1 : Int)) (.slice pa1 pn1 pc1) (.int .i64 (many : Int)) (.slice ba1 many bc1)).cell? ⟨w.heap.size, 0, none⟩ = some (.slice a n c) := ⟨st5_kept hHeld.1 Z7.out (.int .i64 g1) (.int .u8 (m1 : Int)) (.slice pa1 pn1 pc1) (.int .i64 (many : Int)) (.slice ba1 many bc1), by (have h7 := HLA.out; have h8 := Z7.out; exact (st5_cell (show w.heap.size ≠ b7 by omega) (.int .i64 g1) (.int .u8 (m1 : Int)) (.slice pa1 pn1 pc1) (.int .i64 (many : Int)) (.slice ba1 many bc1)).trans hHeld.2)⟩
                refine hK.out _ _ hnew (fun hHeld => ?_)
                clear hK K hnew t0 t1 t2 t3 t4 y0 y1 y2 y3 y4 R6 R7 L0 L1 hne
                have R6 := R6n
                have R7 := R7n
                have L0 := L0n
                have L1 := L1n
                clear R6n R7n L0n L1n
                dsimp only [st5] at hHeld R6 R7 L0 L1
                obtain ⟨wv109, hwv109⟩ : ∃ v, (((((wv107.setCell ⟨b7, 0, none⟩ (.int .i64 g1)).setCell ⟨b7, 1, none⟩ (.int .u8 (m1 : Int))).setCell ⟨b7, 2, none⟩ (.slice pa1 pn1 pc1)).setCell ⟨b7, 3, none⟩ (.int .i64 (many : Int))).setCell ⟨b7, 4, none⟩ (.slice ba1 many bc1)) = v := ⟨_, rfl⟩
                rw [hwv109] at hHeld R6 R7 L0 L1 ⊢
                clear hwv109
                refine wpAnyH_done (by kernel_rfl) ?_ _
                with_unfolding_all exact ⟨b6, b7, pa0, pn0, pc0, ba0, bc0, pa1, pn1, pc1, ba1, bc1, rfl, R6, R7, Hid.mk' ((P0.out.ltr L0.out).mono (by have := V0.out.1; have := HZA.out; omega)), Hid.mk' ((P1.out.ltr L1.out).mono (by have := V1.out.1; have := HZA.out; omega)), Hid.mk' ((BB0.out.ltr L0.out).mono (by have := V0.out.1; have := HZA.out; omega)), Hid.mk' ((BB1.out.ltr L1.out).mono (by have := V1.out.1; have := HZA.out; omega)), Hid.mk' ⟨by have := Z6.out; have := HZA.out; omega, by have := Z7.out; have := HZA.out; omega⟩, Hid.mk' (hkA.tr hHeld.1), Hid.mk' (rowK RA1.out hHeld.1), Hid.mk' (rowK RA2.out hHeld.1)⟩
  case cont1 =>
    intro e act w2 hq
    obtain ⟨rfl, b6, b7, pa0, pn0, pc0, ba0, bc0, pa1, pn1, pc1, ba1, bc1, rfl, R6, R7, P0, P1, BB0, BB1, ZZ, K2, S1, S2⟩ := hq.out
    have t0 := R6.out.cell (i := 0) (by omega)
    have s0 := R7.out.cell (i := 0) (by omega)
    have t1 := R6.out.cell (i := 1) (by omega)
    have s1 := R7.out.cell (i := 1) (by omega)
    have t2 := R6.out.cell (i := 2) (by omega)
    have s2 := R7.out.cell (i := 2) (by omega)
    have t3 := R6.out.cell (i := 3) (by omega)
    have s3 := R7.out.cell (i := 3) (by omega)
    have t4 := R6.out.cell (i := 4) (by omega)
    have s4 := R7.out.cell (i := 4) (by omega)
    simp [f5] at t0 t1 t2 t3 t4 s0 s1 s2 s3 s4
    cases hbb : (decide (0 < g0) && decide (g1 ≤ g0)) with
    | true =>
      have hcn : cnt0 L = true := HCN.out.trans hbb
      go_wp2_with (go_at_call 38; refine (over_any _ _ _ _ _ _ _ _ _ _ _ _ _ _ _ _ _ _ _).mono ?_; rw [hbb]; rintro e w3 ⟨rfl, hk3⟩)
      have hk3d := Hid.mk' (hk3.tr (kept_drw w3 none))
      have hH := And.intro (rowK R6.out hk3d.out) (rowK R7.out hk3d.out)
      have LL : Hid (Ltr (w.heap.size + 3) w2 w3.drew) := Hid.mk' hk3d.out.toLtr
      have KK : Hid (Kept w w3.drew none) := Hid.mk' (K2.out.tr hk3d.out)
      have S1 := Hid.mk' (rowK S1.out hk3d.out)
      have S2 := Hid.mk' (rowK S2.out hk3d.out)
      refine wp_region_held_drew (S := fun w' => w'.rowIs b6 66 5 (f5 (.int .i64 g0) (.int .u8 (m0 : Int)) (.slice pa0 pn0 pc0) (.int .i64 0) (.slice ba0 many bc0)) ∧ w'.rowIs b7 66 5 (f5 (.int .i64 g1) (.int .u8 (m1 : Int)) (.slice pa1 pn1 pc1) (.int .i64 (many : Int)) (.slice ba1 many bc1))) (by kernel_rfl) hH (fun hHeld => ?_)
      obtain ⟨wX, hwX⟩ : ∃ v, w3.drew = v := ⟨_, rfl⟩
      rw [hwX] at hHeld LL KK S1 S2 ⊢
      clear hwX hH hk3d
      refine hold_take (i := 0) (v := ?rv110) rfl rfl (by kernel_rfl) (by kernel_rfl) (by kernel_rfl) (fun _ _ _ h => h) (Or.inl ⟨by rfl, ?rhy110⟩) hHeld ?rrest110
      case rhy110 => (intro w hSw; have p0 := hSw.1.cell (i := 0) (by omega); have p1 := hSw.1.cell (i := 1) (by omega); have p2 := hSw.1.cell (i := 2) (by omega); have p3 := hSw.1.cell (i := 3) (by omega); have p4 := hSw.1.cell (i := 4) (by omega); have q0 := hSw.2.cell (i := 0) (by omega); have q1 := hSw.2.cell (i := 1) (by omega); have q2 := hSw.2.cell (i := 2) (by omega); have q3 := hSw.2.cell (i := 3) (by omega); have q4 := hSw.2.cell (i := 4) (by omega); clear hSw; simp [f5] at p0 p1 p2 p3 p4 q0 q1 q2 q3 q4; first | (go_simp; done) | (go_simp; with_reducible rfl))
      try simp only [List.setIfInBounds_toArray, List.set_cons_zero, List.set_cons_succ]
      refine hold_take (i := 1) (v := ?rv111) rfl rfl (by kernel_rfl) (by kernel_rfl) (by kernel_rfl) (fun _ _ _ h => h) (Or.inl ⟨by rfl, ?rhy111⟩) hHeld ?rrest111
      case rhy111 => (intro w hSw; have p0 := hSw.1.cell (i := 0) (by omega); have p1 := hSw.1.cell (i := 1) (by omega); have p2 := hSw.1.cell (i := 2) (by omega); have p3 := hSw.1.cell (i := 3) (by omega); have p4 := hSw.1.cell (i := 4) (by omega); have q0 := hSw.2.cell (i := 0) (by omega); have q1 := hSw.2.cell (i := 1) (by omega); have q2 := hSw.2.cell (i := 2) (by omega); have q3 := hSw.2.cell (i := 3) (by omega); have q4 := hSw.2.cell (i := 4) (by omega); clear hSw; simp [f5] at p0 p1 p2 p3 p4 q0 q1 q2 q3 q4; first | (go_simp; done) | (go_simp; with_reducible rfl))
      try simp only [List.setIfInBounds_toArray, List.set_cons_zero, List.set_cons_succ]
      have t0 := S1.out.cell (i := 0) (by omega)
      have y0 := S1.out.frozen 0
      have t1 := S1.out.cell (i := 1) (by omega)
      have y1 := S1.out.frozen 1
      have t2 := S1.out.cell (i := 2) (by omega)
      have y2 := S1.out.frozen 2
      have t3 := S1.out.cell (i := 3) (by omega)
      have y3 := S1.out.frozen 3
      have t4 := S1.out.cell (i := 4) (by omega)
      have y4 := S1.out.frozen 4
      simp [f5] at t0 t1 t2 t3 t4
      refine wpAnyH_ready (rs := [2]) (by kernel_rfl) (by simp) ?_
      refine AllReadyH.cons rfl (fun K hK => ?_) AllReadyH.nil
      go_simp
      have hnew := And.intro (st5_row hHeld.1 (show b6 ≠ (w.heap.size + 1) by have := ZZ.out.1; omega) (.int .i64 g0) (.int .u8 (m0 : Int)) (.slice pa0 pn0 pc0) (.int .i64 0) (.slice ba0 many bc0)) (st5_row hHeld.2 (show b7 ≠ (w.heap.size + 1) by have := ZZ.out.2; omega) (.int .i64 g0) (.int .u8 (m0 : Int)) (.slice pa0 pn0 pc0) (.int .i64 0) (.slice ba0 many bc0))
      have S1n := Hid.mk' (row5_set5 S1.out (.int .i64 g0) (.int .u8 (m0 : Int)) (.slice pa0 pn0 pc0) (.int .i64 0) (.slice ba0 many bc0))
      have S2n := Hid.mk' (st5_row S2.out (show w.heap.size + 2 ≠ w.heap.size + 1 by omega) (.int .i64 g0) (.int .u8 (m0 : Int)) (.slice pa0 pn0 pc0) (.int .i64 0) (.slice ba0 many bc0))
      have LLn := Hid.mk' (st5_ltr LL.out (g := (w.heap.size + 1)) (.inl (by omega)) (.int .i64 g0) (.int .u8 (m0 : Int)) (.slice pa0 pn0 pc0) (.int .i64 0) (.slice ba0 many bc0))
      have KKn := Hid.mk' (st5_kept KK.out (g := (w.heap.size + 1)) (by omega) (.int .i64 g0) (.int .u8 (m0 : Int)) (.slice pa0 pn0 pc0) (.int .i64 0) (.slice ba0 many bc0))
      refine hK.out _ _ hnew (fun hHeld => ?_)
      clear hK K hnew t0 t1 t2 t3 t4 y0 y1 y2 y3 y4 S1 S2 LL KK
      have S1 := S1n
      have S2 := S2n
      have LL := LLn
      have KK := KKn
      clear S1n S2n LLn KKn
      dsimp only [st5] at hHeld S1 S2 LL KK
      obtain ⟨wY, hwY⟩ : ∃ v, (((((wX.setCell ⟨w.heap.size + 1, 0, none⟩ (.int .i64 g0)).setCell ⟨w.heap.size + 1, 1, none⟩ (.int .u8 (m0 : Int))).setCell ⟨w.heap.size + 1, 2, none⟩ (.slice pa0 pn0 pc0)).setCell ⟨w.heap.size + 1, 3, none⟩ (.int .i64 0)).setCell ⟨w.heap.size + 1, 4, none⟩ (.slice ba0 many bc0)) = v := ⟨_, rfl⟩
      rw [hwY] at hHeld S1 S2 LL KK ⊢
      clear hwY
      have t0 := S2.out.cell (i := 0) (by omega)
      have y0 := S2.out.frozen 0
      have t1 := S2.out.cell (i := 1) (by omega)
      have y1 := S2.out.frozen 1
      have t2 := S2.out.cell (i := 2) (by omega)
      have y2 := S2.out.frozen 2
      have t3 := S2.out.cell (i := 3) (by omega)
      have y3 := S2.out.frozen 3
      have t4 := S2.out.cell (i := 4) (by omega)
      have y4 := S2.out.frozen 4
      simp [f5] at t0 t1 t2 t3 t4
      refine wpAnyH_ready (rs := [3]) (by kernel_rfl) (by simp) ?_
      refine AllReadyH.cons rfl (fun K hK => ?_) AllReadyH.nil
      go_simp
      have hnew := And.intro (st5_row hHeld.1 (show b6 ≠ (w.heap.size + 2) by have := ZZ.out.1; omega) (.int .i64 g1) (.int .u8 (m1 : Int)) (.slice pa1 pn1 pc1) (.int .i64 (many : Int)) (.slice ba1 many bc1)) (st5_row hHeld.2 (show b7 ≠ (w.heap.size + 2) by have := ZZ.out.2; omega) (.int .i64 g1) (.int .u8 (m1 : Int)) (.slice pa1 pn1 pc1) (.int .i64 (many : Int)) (.slice ba1 many bc1))
      have S1n := Hid.mk' (st5_row S1.out (show w.heap.size + 1 ≠ w.heap.size + 2 by omega) (.int .i64 g1) (.int .u8 (m1 : Int)) (.slice pa1 pn1 pc1) (.int .i64 (many : Int)) (.slice ba1 many bc1))
      have S2n := Hid.mk' (row5_set5 S2.out (.int .i64 g1) (.int .u8 (m1 : Int)) (.slice pa1 pn1 pc1) (.int .i64 (many : Int)) (.slice ba1 many bc1))
      have LLn := Hid.mk' (st5_ltr LL.out (g := (w.heap.size + 2)) (.inl (by omega)) (.int .i64 g1) (.int .u8 (m1 : Int)) (.slice pa1 pn1 pc1) (.int .i64 (many : Int)) (.slice ba1 many bc1))
      have KKn := Hid.mk' (st5_kept KK.out (g := (w.heap.size + 2)) (by omega) (.int .i64 g1) (.int .u8 (m1 : Int)) (.slice pa1 pn1 pc1) (.int .i64 (many : Int)) (.slice ba1 many bc1))
      refine hK.out _ _ hnew (fun hHeld => ?_)
      clear hK K hnew t0 t1 t2 t3 t4 y0 y1 y2 y3 y4 S1 S2 LL KK
      have S1 := S1n
      have S2 := S2n
      have LL := LLn
      have KK := KKn
      clear S1n S2n LLn KKn
      dsimp only [st5] at hHeld S1 S2 LL KK
      obtain ⟨wZ, hwZ⟩ : ∃ v, (((((wY.setCell ⟨w.heap.size + 1 + 1, 0, none⟩ (.int .i64 g1)).setCell ⟨w.heap.size + 1 + 1, 1, none⟩ (.int .u8 (m1 : Int))).setCell ⟨w.heap.size + 1 + 1, 2, none⟩ (.slice pa1 pn1 pc1)).setCell ⟨w.heap.size + 1 + 1, 3, none⟩ (.int .i64 (many : Int))).setCell ⟨w.heap.size + 1 + 1, 4, none⟩ (.slice ba1 many bc1)) = v := ⟨_, rfl⟩
      rw [hwZ] at hHeld S1 S2 LL KK ⊢
      clear hwZ
      refine hold_take (i := 4) (v := ?rv112) rfl rfl (by kernel_rfl) (by kernel_rfl) (by kernel_rfl) (fun _ _ _ h => h) (Or.inl ⟨by rfl, ?rhy112⟩) hHeld ?rrest112
      case rhy112 => (intro w hSw; clear hSw; first | (go_simp; done) | (go_simp; with_reducible rfl))
      try simp only [List.setIfInBounds_toArray, List.set_cons_zero, List.set_cons_succ]
      refine wpAnyH_done (by kernel_rfl) ?_ _
      go_wp2
      have v0 := S1.out.cell (i := 0) (by omega)
      have u0 := S2.out.cell (i := 0) (by omega)
      have v1 := S1.out.cell (i := 1) (by omega)
      have u1 := S2.out.cell (i := 1) (by omega)
      have v2 := S1.out.cell (i := 2) (by omega)
      have u2 := S2.out.cell (i := 2) (by omega)
      have v3 := S1.out.cell (i := 3) (by omega)
      have u3 := S2.out.cell (i := 3) (by omega)
      have v4 := S1.out.cell (i := 4) (by omega)
      have u4 := S2.out.cell (i := 4) (by omega)
      simp [f5] at v0 v1 v2 v3 v4 u0 u1 u2 u3 u4
      refine bodyPost_ret (v := .tuple #[slV g0 m0 pa0 pn0 pc0 0 ba0 many bc0, slV g1 m1 pa1 pn1 pc1 (many : Int) ba1 many bc1, .int .i64 0]) (by simp [results, Try.results21, go_sem, v0, v1, v2, v3, v4, u0, u1, u2, u3, u4]) rfl ⟨pa0, pn0, pc0, 0, ba0, many, bc0, g1, m1, pa1, pn1, pc1, ba1, bc1, ?_, ?_, ?_, KK.out⟩
      · rw [HCT.out, HWI.out, hcn, if_pos rfl, if_pos rfl, HBB.out.1, HG.out.1.1, HG.out.1.2]
        rw [Nat.one_mul]
      · rw [HCT.out, hcn, if_pos rfl, HBB.out.1]
        exact (P0.out.ltr LL.out).mono (by omega)
      · rw [HPT.out, hcn, if_pos rfl, HBB.out.2]
        exact (BB1.out.ltr LL.out).mono (by omega)
    | false =>
      have hcn : cnt0 L = false := HCN.out.trans hbb
      go_wp2_with (go_at_call 38; refine (over_any _ _ _ _ _ _ _ _ _ _ _ _ _ _ _ _ _ _ _).mono ?_; rw [hbb]; rintro e w3 ⟨rfl, hk3⟩)
      have hk3d := Hid.mk' (hk3.tr (kept_drw w3 none))
      have hH := And.intro (rowK R6.out hk3d.out) (rowK R7.out hk3d.out)
      have LL : Hid (Ltr (w.heap.size + 3) w2 w3.drew) := Hid.mk' hk3d.out.toLtr
      have KK : Hid (Kept w w3.drew none) := Hid.mk' (K2.out.tr hk3d.out)
      have S1 := Hid.mk' (rowK S1.out hk3d.out)
      have S2 := Hid.mk' (rowK S2.out hk3d.out)
      refine wp_region_held_drew (S := fun w' => w'.rowIs b6 66 5 (f5 (.int .i64 g0) (.int .u8 (m0 : Int)) (.slice pa0 pn0 pc0) (.int .i64 0) (.slice ba0 many bc0)) ∧ w'.rowIs b7 66 5 (f5 (.int .i64 g1) (.int .u8 (m1 : Int)) (.slice pa1 pn1 pc1) (.int .i64 (many : Int)) (.slice ba1 many bc1))) (by kernel_rfl) hH (fun hHeld => ?_)
      obtain ⟨wX, hwX⟩ : ∃ v, w3.drew = v := ⟨_, rfl⟩
      rw [hwX] at hHeld LL KK S1 S2 ⊢
      clear hwX hH hk3d
      refine hold_take (i := 0) (v := ?rv113) rfl rfl (by kernel_rfl) (by kernel_rfl) (by kernel_rfl) (fun _ _ _ h => h) (Or.inl ⟨by rfl, ?rhy113⟩) hHeld ?rrest113
      case rhy113 => (intro w hSw; have p0 := hSw.1.cell (i := 0) (by omega); have p1 := hSw.1.cell (i := 1) (by omega); have p2 := hSw.1.cell (i := 2) (by omega); have p3 := hSw.1.cell (i := 3) (by omega); have p4 := hSw.1.cell (i := 4) (by omega); have q0 := hSw.2.cell (i := 0) (by omega); have q1 := hSw.2.cell (i := 1) (by omega); have q2 := hSw.2.cell (i := 2) (by omega); have q3 := hSw.2.cell (i := 3) (by omega); have q4 := hSw.2.cell (i := 4) (by omega); clear hSw; simp [f5] at p0 p1 p2 p3 p4 q0 q1 q2 q3 q4; first | (go_simp; done) | (go_simp; with_reducible rfl))
      try simp only [List.setIfInBounds_toArray, List.set_cons_zero, List.set_cons_succ]
      refine hold_take (i := 1) (v := ?rv114) rfl rfl (by kernel_rfl) (by kernel_rfl) (by kernel_rfl) (fun _ _ _ h => h) (Or.inl ⟨by rfl, ?rhy114⟩) hHeld ?rrest114
      case rhy114 => (intro w hSw; have p0 := hSw.1.cell (i := 0) (by omega); have p1 := hSw.1.cell (i := 1) (by omega); have p2 := hSw.1.cell (i := 2) (by omega); have p3 := hSw.1.cell (i := 3) (by omega); have p4 := hSw.1.cell (i := 4) (by omega); have q0 := hSw.2.cell (i := 0) (by omega); have q1 := hSw.2.cell (i := 1) (by omega); have q2 := hSw.2.cell (i := 2) (by omega); have q3 := hSw.2.cell (i := 3) (by omega); have q4 := hSw.2.cell (i := 4) (by omega); clear hSw; simp [f5] at p0 p1 p2 p3 p4 q0 q1 q2 q3 q4; first | (go_simp; done) | (go_simp; with_reducible rfl))
      try simp only [List.setIfInBounds_toArray, List.set_cons_zero, List.set_cons_succ]
      have t0 := S1.out.cell (i := 0) (by omega)
      have y0 := S1.out.frozen 0
      have t1 := S1.out.cell (i := 1) (by omega)
      have y1 := S1.out.frozen 1
      have t2 := S1.out.cell (i := 2) (by omega)
      have y2 := S1.out.frozen 2
      have t3 := S1.out.cell (i := 3) (by omega)
      have y3 := S1.out.frozen 3
      have t4 := S1.out.cell (i := 4) (by omega)
      have y4 := S1.out.frozen 4
      simp [f5] at t0 t1 t2 t3 t4
      refine wpAnyH_ready (rs := [2]) (by kernel_rfl) (by simp) ?_
      refine AllReadyH.cons rfl (fun K hK => ?_) AllReadyH.nil
      go_simp
      have hnew := And.intro (st5_row hHeld.1 (show b6 ≠ (w.heap.size + 1) by have := ZZ.out.1; omega) (.int .i64 g1) (.int .u8 (m1 : Int)) (.slice pa1 pn1 pc1) (.int .i64 (many : Int)) (.slice ba1 many bc1)) (st5_row hHeld.2 (show b7 ≠ (w.heap.size + 1) by have := ZZ.out.2; omega) (.int .i64 g1) (.int .u8 (m1 : Int)) (.slice pa1 pn1 pc1) (.int .i64 (many : Int)) (.slice ba1 many bc1))
      have S1n := Hid.mk' (row5_set5 S1.out (.int .i64 g1) (.int .u8 (m1 : Int)) (.slice pa1 pn1 pc1) (.int .i64 (many : Int)) (.slice ba1 many bc1))
      have S2n := Hid.mk' (st5_row S2.out (show w.heap.size + 2 ≠ w.heap.size + 1 by omega) (.int .i64 g1) (.int .u8 (m1 : Int)) (.slice pa1 pn1 pc1) (.int .i64 (many : Int)) (.slice ba1 many bc1))
      have LLn := Hid.mk' (st5_ltr LL.out (g := (w.heap.size + 1)) (.inl (by omega)) (.int .i64 g1) (.int .u8 (m1 : Int)) (.slice pa1 pn1 pc1) (.int .i64 (many : Int)) (.slice ba1 many bc1))
      have KKn := Hid.mk' (st5_kept KK.out (g := (w.heap.size + 1)) (by omega) (.int .i64 g1) (.int .u8 (m1 : Int)) (.slice pa1 pn1 pc1) (.int .i64 (many : Int)) (.slice ba1 many bc1))
      refine hK.out _ _ hnew (fun hHeld => ?_)
      clear hK K hnew t0 t1 t2 t3 t4 y0 y1 y2 y3 y4 S1 S2 LL KK
      have S1 := S1n
      have S2 := S2n
      have LL := LLn
      have KK := KKn
      clear S1n S2n LLn KKn
      dsimp only [st5] at hHeld S1 S2 LL KK
      obtain ⟨wY, hwY⟩ : ∃ v, (((((wX.setCell ⟨w.heap.size + 1, 0, none⟩ (.int .i64 g1)).setCell ⟨w.heap.size + 1, 1, none⟩ (.int .u8 (m1 : Int))).setCell ⟨w.heap.size + 1, 2, none⟩ (.slice pa1 pn1 pc1)).setCell ⟨w.heap.size + 1, 3, none⟩ (.int .i64 (many : Int))).setCell ⟨w.heap.size + 1, 4, none⟩ (.slice ba1 many bc1)) = v := ⟨_, rfl⟩
      rw [hwY] at hHeld S1 S2 LL KK ⊢
      clear hwY
      have t0 := S2.out.cell (i := 0) (by omega)
      have y0 := S2.out.frozen 0
      have t1 := S2.out.cell (i := 1) (by omega)
      have y1 := S2.out.frozen 1
      have t2 := S2.out.cell (i := 2) (by omega)
      have y2 := S2.out.frozen 2
      have t3 := S2.out.cell (i := 3) (by omega)
      have y3 := S2.out.frozen 3
      have t4 := S2.out.cell (i := 4) (by omega)
      have y4 := S2.out.frozen 4
      simp [f5] at t0 t1 t2 t3 t4
      refine wpAnyH_ready (rs := [3]) (by kernel_rfl) (by simp) ?_
      refine AllReadyH.cons rfl (fun K hK => ?_) AllReadyH.nil
      go_simp
      have hnew := And.intro (st5_row hHeld.1 (show b6 ≠ (w.heap.size + 2) by have := ZZ.out.1; omega) (.int .i64 g0) (.int .u8 (m0 : Int)) (.slice pa0 pn0 pc0) (.int .i64 0) (.slice ba0 many bc0)) (st5_row hHeld.2 (show b7 ≠ (w.heap.size + 2) by have := ZZ.out.2; omega) (.int .i64 g0) (.int .u8 (m0 : Int)) (.slice pa0 pn0 pc0) (.int .i64 0) (.slice ba0 many bc0))
      have S1n := Hid.mk' (st5_row S1.out (show w.heap.size + 1 ≠ w.heap.size + 2 by omega) (.int .i64 g0) (.int .u8 (m0 : Int)) (.slice pa0 pn0 pc0) (.int .i64 0) (.slice ba0 many bc0))
      have S2n := Hid.mk' (row5_set5 S2.out (.int .i64 g0) (.int .u8 (m0 : Int)) (.slice pa0 pn0 pc0) (.int .i64 0) (.slice ba0 many bc0))
      have LLn := Hid.mk' (st5_ltr LL.out (g := (w.heap.size + 2)) (.inl (by omega)) (.int .i64 g0) (.int .u8 (m0 : Int)) (.slice pa0 pn0 pc0) (.int .i64 0) (.slice ba0 many bc0))
      have KKn := Hid.mk' (st5_kept KK.out (g := (w.heap.size + 2)) (by omega) (.int .i64 g0) (.int .u8 (m0 : Int)) (.slice pa0 pn0 pc0) (.int .i64 0) (.slice ba0 many bc0))
      refine hK.out _ _ hnew (fun hHeld => ?_)
      clear hK K hnew t0 t1 t2 t3 t4 y0 y1 y2 y3 y4 S1 S2 LL KK
      have S1 := S1n
      have S2 := S2n
      have LL := LLn
      have KK := KKn
      clear S1n S2n LLn KKn
      dsimp only [st5] at hHeld S1 S2 LL KK
      obtain ⟨wZ, hwZ⟩ : ∃ v, (((((wY.setCell ⟨w.heap.size + 1 + 1, 0, none⟩ (.int .i64 g0)).setCell ⟨w.heap.size + 1 + 1, 1, none⟩ (.int .u8 (m0 : Int))).setCell ⟨w.heap.size + 1 + 1, 2, none⟩ (.slice pa0 pn0 pc0)).setCell ⟨w.heap.size + 1 + 1, 3, none⟩ (.int .i64 0)).setCell ⟨w.heap.size + 1 + 1, 4, none⟩ (.slice ba0 many bc0)) = v := ⟨_, rfl⟩
      rw [hwZ] at hHeld S1 S2 LL KK ⊢
      clear hwZ
      refine hold_take (i := 4) (v := ?rv115) rfl rfl (by kernel_rfl) (by kernel_rfl) (by kernel_rfl) (fun _ _ _ h => h) (Or.inl ⟨by rfl, ?rhy115⟩) hHeld ?rrest115
      case rhy115 => (intro w hSw; clear hSw; first | (go_simp; done) | (go_simp; with_reducible rfl))
      try simp only [List.setIfInBounds_toArray, List.set_cons_zero, List.set_cons_succ]
      refine wpAnyH_done (by kernel_rfl) ?_ _
      go_wp2
      have v0 := S1.out.cell (i := 0) (by omega)
      have u0 := S2.out.cell (i := 0) (by omega)
      have v1 := S1.out.cell (i := 1) (by omega)
      have u1 := S2.out.cell (i := 1) (by omega)
      have v2 := S1.out.cell (i := 2) (by omega)
      have u2 := S2.out.cell (i := 2) (by omega)
      have v3 := S1.out.cell (i := 3) (by omega)
      have u3 := S2.out.cell (i := 3) (by omega)
      have v4 := S1.out.cell (i := 4) (by omega)
      have u4 := S2.out.cell (i := 4) (by omega)
      simp [f5] at v0 v1 v2 v3 v4 u0 u1 u2 u3 u4
      refine bodyPost_ret (v := .tuple #[slV g1 m1 pa1 pn1 pc1 (many : Int) ba1 many bc1, slV g0 m0 pa0 pn0 pc0 0 ba0 many bc0, .int .i64 0]) (by simp [results, Try.results21, go_sem, v0, v1, v2, v3, v4, u0, u1, u2, u3, u4]) rfl ⟨pa1, pn1, pc1, (many : Int), ba1, many, bc1, g0, m0, pa0, pn0, pc0, ba0, bc0, ?_, ?_, ?_, KK.out⟩
      · rw [HCT.out, HWI.out, hcn, if_neg (by decide), if_neg (by decide), HBB.out.2, HG.out.2.1, HG.out.2.2]
        rw [Nat.zero_mul]; rfl
      · rw [HCT.out, hcn, if_neg (by decide), HBB.out.2]
        exact (P1.out.ltr LL.out).mono (by omega)
      · rw [HPT.out, hcn, if_neg (by decide), HBB.out.1]
        exact (BB0.out.ltr LL.out).mono (by omega)

end Go.Proofs.Ytlabjamkaebnjaa
