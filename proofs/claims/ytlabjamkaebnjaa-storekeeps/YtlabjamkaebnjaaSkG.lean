/-
  THE DOCUMENT's Put (made by a program).
-/
import Derived.Test.YtlabjamkaebnjaaSkE
import Derived.Test.YtlabjamkaebnjaaSkF
import Derived.Test.YtlabjamkaebnjaaStoDJ
import Derived.Test.YtlabjamkaebnjaaStoH
namespace Go.Proofs.Ytlabjamkaebnjaa
open Go.RowKit Go.Lib Go.Deep
set_option linter.unusedVariables false
set_option linter.unusedSimpArgs false

theorem Try.uPut19 : Try.prog.underlying 40 = some (.slice 50) := by kernel_rfl
theorem Try.infoPut19 : (Try.prog.info? 50).map (fun i => (i.zero, i.size, i.bytes)) = some (some (.agg #[.int .i64 0, .slice none 0 0]), 2, 32) := by kernel_rfl
def Ro (A : Option Addr → Nat → Act) (P : World → Prop) (e : Exit) (a : Act) (w : World) : Prop := match e with
  | .normal => ∃ o c, a = A o c ∧ P w
  | _ => False
theorem Ro.out {A : Option Addr → Nat → Act} {P : World → Prop} {e : Exit} {a : Act} {w : World} (h : Ro A P e a w) : e = .normal ∧ ∃ o c, a = A o c ∧ P w := by
  cases e with
  | normal => exact ⟨rfl, h⟩
  | _ => exact h.elim
/-- The cells of writes. -/
def pwC (F : Int) (r : Nat → Option Addr × Nat) (i j : Nat) : Value := if j = 0 then .int .i64 (F + (i : Int)) else .slice (r i).1 64 (r i).2
theorem cellsL_step (n k : Nat) (hk : 0 < k) (f : Nat → Nat → Value) : cellsL (n + 1) k f = cellsL n k f ++ (List.range k).map (f n) := by
  rw [cellsL_snoc hk]
  congr 1
  funext i j
  by_cases h : i = n
  · rw [if_pos h, h]
  · rw [if_neg h]
theorem plw_own {w : World} {base k : Nat} {v : Value} {F : Int} {B : List (List Nat)} {r : Nat → Option Addr × Nat} (h : w.ownsRow base 50 2 v k (cellsL k 2 (pwC F r))) (hr : ∀ i, i < k → Come w (r i).1 64 (r i).2 (B.getD i [])) (hB : B.length = k) (h64 : ∀ p ∈ B, p.length = 64) (hk : k ≤ 1000) : ∃ a c, v = .slice a k c ∧ Plw w a k (pwL F B) := by
  obtain ⟨a, c, e, hl, _, _⟩ := lie_own (by omega) h
  refine ⟨a, c, e, by rw [pw_len, hB], by omega, fun hp => ?_⟩
  obtain ⟨b, off, ea, hb, hc⟩ := hl.at_ hp
  refine ⟨b, off, ea, hb, fun i p hi => ?_⟩
  have hi2 : i < k := by
    have := (List.getElem?_eq_some_iff.1 hi).1
    rw [pw_len, hB] at this
    exact this
  have ep : p = ⟨F + (i : Int), B.getD i []⟩ := by
    unfold pwL at hi
    rw [List.getElem?_map, List.getElem?_range (by omega)] at hi
    exact (Option.some.inj hi).symm
  subst ep
  have g0 := hc i hi2 0 (by omega)
  have g1 := hc i hi2 1 (by omega)
  have hlen : (B.getD i []).length = 64 := by
    have hil : i < B.length := by omega
    have : B.getD i [] = B[i] := by simp [hil]
    rw [this]
    exact h64 _ (List.getElem_mem hil)
  refine ⟨(r i).1, (r i).2, by simpa [pwC] using g0, ?_, ?_⟩
  · dsimp only
    rw [hlen]
    simpa [pwC] using g1
  · dsimp only
    rw [hlen]
    exact hr i hi2
theorem cell_two_new (w : World) (x y : Value) (t : TypeId) : ∀ j u, ([x, y] : List Value)[j]? = some u → (w.alloc (.cells #[x, y] t)).cell? ((⟨w.heap.size, 0, none⟩ : Addr).add j) = some u := by
  intro j u hu
  rw [Addr.add_lit, Nat.zero_add]
  refine alloc_at2 _ _ _ rfl ?_
  match j, hu with
  | 0, hu => simpa using hu
  | 1, hu => simpa using hu
  | j + 2, hu => simp at hu
theorem sto_pie {g : Nat} {m k : Nat} {l : List Pl} (h1 : 1 ≤ g) (h2 : g < gtop) (hm : m ≤ 3) (hk1 : 1 ≤ k) (hk2 : k ≤ 32) : stoE (g : Int) m l (k : Int) = pieE m l k := by
  unfold stoE
  rw [if_pos (by omega), if_pos (by omega), Int.toNat_natCast]
/-- What the document's Put answers. -/
def RptP (w : World) (L : List Nat) (md : Nat) (l : List Pl) (e : Ending) (w' : World) : Prop := ∃ pa cap, e = .returned (.tuple #[.slice pa (ptL L md l).length cap, .int .i64 (ptE L md l)]) ∧ Plw w' pa (ptL L md l).length (ptL L md l) ∧ Kept w w' none
theorem RptP.no {w w' : World} {L : List Nat} {md : Nat} {l : List Pl} {e : Ending} {E : Int} (hE : ptE L md l = E) (h0 : E ≠ 0) (h : ∃ pa cap, e = .returned (.tuple #[.slice pa 0 cap, .int .i64 E]) ∧ Plw w' pa 0 [] ∧ Kept w w' none) : RptP w L md l e w' := by
  have hL : ptL L md l = [] := by unfold ptL; rw [hE, if_neg h0]
  unfold RptP
  rw [hL, hE]
  exact h
theorem ct_wr (L : List Nat) : wrI L = if ctAt L = 0 then 1 else 0 := by
  unfold wrI ctAt
  cases cnt0 L with
  | true => rfl
  | false =>
    cases kepB (sltB L 1) <;> simp
theorem ct_lt (L : List Nat) : (ctK L).gen < gtop := by
  unfold ctK
  split
  · exact kep_lt _
  · exact kep_lt _
set_option maxRecDepth 100000 in
set_option maxHeartbeats 4000000 in
theorem rput19_any {a : Option Addr} {n c : Nat} {L : List Nat} {md : Nat} {pa : Option Addr} {pn pc : Nat} {l : List Pl} {w : World} (hC : Come w a n c L) (hP : Plans w pa pn pc l) : Calls Try.prog 12 #[dvV a n c, .int .u8 (md : Int), .slice pa pn pc] w (RptP w L md l) := by
  have hn : n ≤ 9223372036854775807 := by have := hC.room; have := hC.max; omega
  have hl := hC.by_.size
  have HAS := Hid.mk' (fun w' => rasked19_any a n c w' hn)
  obtain ⟨WA, hWA⟩ : ∃ WA, w.alloc (.cells #[.slice a n c] 24) = WA := ⟨_, rfl⟩
  have hkA : Kept w WA none := by rw [← hWA]; exact Kept.alloc _ _ _ _ _
  have RD : Hid (WA.rowIs w.heap.size 24 1 (fun _ => .slice a n c)) := Hid.mk' (by
    rw [← hWA]
    exact row1k w (.slice a n c) 24)
  have HWA := Hid.mk' hWA
  have HKA := Hid.mk' hkA
  have M0 := Hid.mk' True.intro
  by_cases hA : askE n = 0
  rotate_left
  · refine Calls.mono ?_ (fun e w' h => RptP.no (show ptE L md l = askE n by unfold ptE; rw [hl, if_neg hA]) hA h)
    obtain ⟨E, hE⟩ : ∃ E, askE n = E := ⟨_, rfl⟩
    rw [hE] at HAS hA ⊢
    clear hC hP hkA hWA hE hl
    go_enter Try.func12, Try.ntmps12
    go_wp2_with (first
      | (have hgo := M0; clear hgo; go_at_call 23; rw [HWA.out]; refine (HAS.out _).mono ?_; rintro e w1 ⟨rfl, hk⟩; have K := Hid.mk' (HKA.out.tr hk); replace RD := Hid.mk' (rowK RD.out hk); have d1 : w1.cell? ⟨w.heap.size, 0, none⟩ = some (.slice _ n c) := RD.out.cell (i := 0) (by omega); clear hk; have M1 := Hid.mk' True.intro; clear M0))
    go_ret2
    exact ⟨none, 0, rfl, Plw.zero, K.out⟩
  have hAL : askE L.length = 0 := by rw [hl]; exact hA
  by_cases hm : md ≤ 3
  rotate_left
  · refine Calls.mono ?_ (fun e w' h => RptP.no (show ptE L md l = 2 by unfold ptE; rw [if_pos hAL, if_neg hm]) (by decide) h)
    have hm3 : 3 < (md : Int) := by omega
    rw [hA] at HAS
    clear hC hP hkA hWA hl hAL hA hm
    go_enter Try.func12, Try.ntmps12
    go_wp2_with (first
      | (have hgo := M0; clear hgo; go_at_call 23; rw [HWA.out]; refine (HAS.out _).mono ?_; rintro e w1 ⟨rfl, hk⟩; have K := Hid.mk' (HKA.out.tr hk); replace RD := Hid.mk' (rowK RD.out hk); have d1 : w1.cell? ⟨w.heap.size, 0, none⟩ = some (.slice _ n c) := RD.out.cell (i := 0) (by omega); clear hk; have M1 := Hid.mk' True.intro; clear M0))
    go_ret2
    exact ⟨none, 0, rfl, Plw.zero, K.out⟩
  have hm3 : ¬ 3 < (md : Int) := by omega
  obtain ⟨k1, k2, k3, k4, k5, k6, k7⟩ := ask_ok hA
  obtain ⟨b, off, rfl⟩ := come_addr hC (by omega)
  have HMN := Hid.mk' (fun w' => rman_any (some ⟨b, off, none⟩) n c w' hn)
  have hpt : ptE L md l = if pieE md l (manK n) = 0 then (if ptN L < gtop then 0 else 190) else pieE md l (manK n) := by unfold ptE; rw [if_pos hAL, if_pos hm, hl]
  have hst1 := sto_pie (g := 1) (m := md) (k := manK n) (l := l) (by omega) (by decide) hm k4 k5
  have HB1 : Hid (∀ w', Kept w w' none → Calls Try.prog 30 #[kpV 1 md pa pn pc, .int .i64 (manK n : Int)] w' fun e w2 => ∃ a' c', e = .returned (.tuple #[.slice a' (stoL 1 md l (manK n : Int)).length c', .int .i64 (pieE md l (manK n))]) ∧ Kept w' w2 none) := Hid.mk' (fun w' hk => by
    refine (rblocks19_any (g := 1) (m := md) (many := (manK n : Int)) (hP.kept hk)).mono ?_
    rintro e w2 ⟨a', c', rfl, _, hk2⟩
    exact ⟨a', c', by rw [← hst1]; rfl, hk2⟩)
  have hdef : n / 64 / 2 = manK n := rfl
  have hq2 : n / 64 ≤ 64 := by omega
  by_cases hE1 : pieE md l (manK n) = 0
  rotate_left
  · refine Calls.mono ?_ (fun e w' h => RptP.no (hpt.trans (if_neg hE1)) hE1 h)
    rw [hA] at HAS
    clear hpt hst1 k1 k2 k3 k6 k7 hAL hA hm hl
    generalize pieE md l (manK n) = E at *
    generalize manK n = mn at *
    generalize n / 64 = q at *
    generalize (stoL 1 md l (mn : Int)).length = q3 at *
    have hqm : (q : Int) / 2 = (mn : Int) := by omega
    clear hC hP hkA hWA hdef hq2
    go_enter Try.func12, Try.ntmps12
    go_wp2_with (first
      | (have hgo := M2; clear hgo; go_at_call 30; refine (HB1.out _ K.out).mono ?_; rintro e w3 ⟨pa3, pc3, rfl, hk⟩; replace K := Hid.mk' (K.out.tr hk); replace RD := Hid.mk' (rowK RD.out hk); have d3 : w3.cell? ⟨w.heap.size, 0, none⟩ = some (.slice _ n c) := RD.out.cell (i := 0) (by omega); clear hk; have M3 := Hid.mk' True.intro; clear M2)
      | (have hgo := M1; clear hgo; go_at_call 29; refine (HMN.out _).mono ?_; rintro e w2 ⟨rfl, hk⟩; replace K := Hid.mk' (K.out.tr hk); replace RD := Hid.mk' (rowK RD.out hk); have d2 : w2.cell? ⟨w.heap.size, 0, none⟩ = some (.slice _ n c) := RD.out.cell (i := 0) (by omega); clear hk; have M2 := Hid.mk' True.intro; clear M1)
      | (have hgo := M0; clear hgo; go_at_call 23; rw [HWA.out]; refine (HAS.out _).mono ?_; rintro e w1 ⟨rfl, hk⟩; have K := Hid.mk' (HKA.out.tr hk); replace RD := Hid.mk' (rowK RD.out hk); have d1 : w1.cell? ⟨w.heap.size, 0, none⟩ = some (.slice _ n c) := RD.out.cell (i := 0) (by omega); clear hk; have M1 := Hid.mk' True.intro; clear M0))
    go_ret2
    exact ⟨none, 0, rfl, Plw.zero, K.out⟩
  rw [if_pos hE1] at hpt
  rw [hE1] at HB1
  have HCT := Hid.mk' (fun w' (hk : Kept w w' none) => rcounts_any (hC.kpt hk) hA)
  unfold RctP at HCT
  have hwr := ct_wr L
  have hgl := ct_lt L
  have HCC : Hid (∀ w', Kept w w' none → Come w' (some ⟨b, off, none⟩) n c L) := Hid.mk' (fun w' hk => hC.kpt hk)
  have HPP : Hid (∀ w', Kept w w' none → Plans w' pa pn pc l) := Hid.mk' (fun w' hk => hP.kept hk)
  have HNW : Hid (∀ (w' : World) (a' : Option Addr) (c' : Nat), Bl w' 0 a' (manK n) (ptB L) → Calls Try.prog 31 #[.int .i64 ((ctK L).gen : Int), .slice a' (manK n) c'] w' fun e w2 => e = .returned (.int .i64 ((ptN L : Nat) : Int)) ∧ Kept w' w2 none) := Hid.mk' (fun w' a' c' h => rnewest_any h (slt_64 hAL (by unfold wrI; split <;> omega)) k5 hgl)
  have HSLT : Hid (∀ w', Kept w w' none → Calls Try.prog 32 #[dvV (some ⟨b, off, none⟩) n c, .int .i64 ((wrI L : Nat) : Int)] w' fun e w2 => ∃ a' c', e = .returned (.slice a' (manK n) c') ∧ Bl w2 w'.heap.size a' (manK n) (ptB L) ∧ Kept w' w2 none) := Hid.mk' (fun w' hk => rslot_any (i := wrI L) w' (hC.kpt hk) hA (by unfold wrI; split <;> omega))
  have hN1 : 1 ≤ ptN L := by
    obtain ⟨j, _, h2, _⟩ := new_is (g := (ctK L).gen) (B := ptB L) (by unfold ptB; rw [sl_len, hl]; exact k5)
    have : ptN L = newN (ctK L).gen (ptB L) := rfl
    omega
  have hptW : ptW L md l = pwL ((wrI L : Nat) * (manK n : Nat) : Int) (blsK (ptN L) md l (manK n)) := by
    have e1 : (blsK (ptN L) md l (manK n)).length = manK n := by simp [blsK]
    unfold ptW pwL
    rw [e1, hl]
    refine List.map_congr_left (fun i hi => ?_)
    have hi2 := List.mem_range.1 hi
    have e2 : (blsK (ptN L) md l (manK n)).getD i [] = bkK (ptN L) (pcK (filK md l (manK n)) i) := by rw [List.getD_eq_getElem?_getD]; unfold blsK; simp [hi2]
    rw [e2]
    simp
  have hpl : ptL L md l = if ptE L md l = 0 then ptW L md l else [] := rfl
  have hst2 : ptN L < gtop → stoE ((ptN L : Nat) : Int) md l (manK n : Int) = 0 := fun h => (sto_pie hN1 h hm k4 k5).trans hE1
  have HB2' : ptN L < gtop → ∀ w', Kept w w' none → Calls Try.prog 30 #[kpV ((ptN L : Nat) : Int) md pa pn pc, .int .i64 (manK n : Int)] w' fun e w2 => ∃ a' c', e = .returned (.tuple #[.slice a' (manK n) c', .int .i64 0]) ∧ Bl w2 w'.heap.size a' (manK n) (blsK (ptN L) md l (manK n)) ∧ Kept w' w2 none := fun h w' hk => by
    have hs := hst2 h
    have hL : stoL ((ptN L : Nat) : Int) md l (manK n : Int) = blsK (ptN L) md l (manK n) := by unfold stoL; rw [if_pos hs, Int.toNat_natCast, Int.toNat_natCast]
    have hLen : (blsK (ptN L) md l (manK n)).length = manK n := by simp [blsK]
    refine (rblocks19_any (g := ((ptN L : Nat) : Int)) (m := md) (many := (manK n : Int)) (hP.kept hk)).mono ?_
    rintro e w2 ⟨a', c', rfl, hb, hk2⟩
    rw [hL] at hb ⊢
    rw [hs]
    rw [hLen] at hb ⊢
    exact ⟨a', c', rfl, hb, hk2⟩
  have H64 := Hid.mk' (bls_64 (g := ptN L) hE1)
  have HBL := Hid.mk' (bls_len (ptN L) md l (manK n))
  rw [hA] at HAS
  clear hst1 k1 k3 k6 k7 hAL hA hl hC hP hE1 hst2
  generalize hBB : blsK (ptN L) md l (manK n) = BB at *
  generalize ptB L = PB at *
  generalize manK n = mn at *
  generalize n / 64 = q at *
  obtain ⟨q3, hq3⟩ : ∃ q3, (stoL 1 md l (mn : Int)).length = q3 := ⟨_, rfl⟩
  rw [hq3] at HB1
  have hqm : (q : Int) / 2 = (mn : Int) := by omega
  generalize ctAt L = AT at *
  generalize ctK L = CT at *
  obtain ⟨G, m0, l0⟩ := CT
  dsimp only at HCT HNW
  obtain ⟨g, hg⟩ : ∃ g : Int, (G : Int) = g := ⟨_, rfl⟩
  rw [hg] at HCT HNW
  obtain ⟨NW, hNW⟩ : ∃ x : Int, ((ptN L : Nat) : Int) = x := ⟨_, rfl⟩
  rw [hNW] at HNW HB2'
  have hgt : ptN L < gtop ↔ NW < 4611686018427387904 := by unfold gtop; omega
  have HB2 := Hid.mk' HB2'
  have HPT := Hid.mk' hpt
  have HPL := Hid.mk' hpl
  have HGT := Hid.mk' hgt
  have HPW := Hid.mk' hptW
  clear hdef hq2 hg hgl hBB HB2' hpt hpl hgt hptW hN1 hNW hq3 hkA hWA k2
  by_cases hat : AT = 0
  · rw [if_pos hat] at hwr
    subst hat
    have HSL : Hid (∀ w', Kept w w' none → Calls Try.prog 32 #[dvV (some ⟨b, off, none⟩) n c, .int .i64 1] w' fun e w2 => ∃ a' c', e = .returned (.slice a' mn c') ∧ Bl w2 w'.heap.size a' mn PB ∧ Kept w' w2 none) := Hid.mk' (by have h := HSLT.out; rw [hwr] at h; exact h)
    rw [hwr] at HPW
    clear HSLT hwr
    go_enter Try.func12, Try.ntmps12
    go_wp2_with (first
      | (have hgo := M3; clear hgo; go_at_call 24; refine (HCT.out _ K.out).mono ?_; rintro e w4 ⟨ka, kn, kc, rfl, hp, hk⟩; replace K := Hid.mk' (K.out.tr (hk.tr (Kept.alloc w4 #[.int .i64 g, .int .u8 (m0 : Int), .slice ka kn kc] 35 (0, 0) none))); replace RD := Hid.mk' (rowK (rowK RD.out hk) (Kept.alloc w4 #[.int .i64 g, .int .u8 (m0 : Int), .slice ka kn kc] 35 (0, 0) none)); have d4 : (w4.alloc (.cells #[.int .i64 g, .int .u8 (m0 : Int), .slice ka kn kc] 35)).cell? ⟨w.heap.size, 0, none⟩ = some (.slice _ n c) := RD.out.cell (i := 0) (by omega); have RK := Hid.mk' (row3 w4 (.int .i64 g) (.int .u8 (m0 : Int)) (.slice ka kn kc) 35); have kz0 : (w4.alloc (.cells #[.int .i64 g, .int .u8 (m0 : Int), .slice ka kn kc] 35)).cell? ⟨w4.heap.size, 0, none⟩ = some (.int .i64 g) := RK.out.cell (i := 0) (by omega); clear hp hk; have M4 := Hid.mk' True.intro; clear M3)
      | (have hgo := M2; clear hgo; go_at_call 30; refine (HB1.out _ K.out).mono ?_; rintro e w3 ⟨pa3, pc3, rfl, hk⟩; replace K := Hid.mk' (K.out.tr hk); replace RD := Hid.mk' (rowK RD.out hk); have d3 : w3.cell? ⟨w.heap.size, 0, none⟩ = some (.slice _ n c) := RD.out.cell (i := 0) (by omega); clear hk; have M3 := Hid.mk' True.intro; clear M2)
      | (have hgo := M1; clear hgo; go_at_call 29; refine (HMN.out _).mono ?_; rintro e w2 ⟨rfl, hk⟩; replace K := Hid.mk' (K.out.tr hk); replace RD := Hid.mk' (rowK RD.out hk); have d2 : w2.cell? ⟨w.heap.size, 0, none⟩ = some (.slice _ n c) := RD.out.cell (i := 0) (by omega); clear hk; have M2 := Hid.mk' True.intro; clear M1)
      | (have hgo := M0; clear hgo; go_at_call 23; rw [HWA.out]; refine (HAS.out _).mono ?_; rintro e w1 ⟨rfl, hk⟩; have K := Hid.mk' (HKA.out.tr hk); replace RD := Hid.mk' (rowK RD.out hk); have d1 : w1.cell? ⟨w.heap.size, 0, none⟩ = some (.slice _ n c) := RD.out.cell (i := 0) (by omega); clear hk; have M1 := Hid.mk' True.intro; clear M0))
    generalize hWB : (w4.alloc (.cells #[.int .i64 g, .int .u8 (m0 : Int), .slice ka kn kc] 35)) = WB at *
    have KB := K
    have d4' : ∀ w', Kept WB w' none → w'.cell? ⟨w.heap.size, 0, none⟩ = some (.slice (some ⟨b, off, none⟩) n c) := fun w' hk => (rowK RD.out hk).cell (i := 0) (by omega)
    have k4' : ∀ w', Kept WB w' none → w'.cell? ⟨w4.heap.size, 0, none⟩ = some (.int .i64 g) := fun w' hk => (rowK RK.out hk).cell (i := 0) (by omega)
    clear kz0 hWB d4
    refine Code.wp_mono (Q := Ro ?A14x1 (fun w' => Kept WB w' none)) ?cont14x1 ?reg14x1
    case reg14x1 =>
      refine wp_region_held_drew (S := fun w' => Kept WB w' none) (by kernel_rfl) (Kept.drew _ _) (fun hHeld => ?_)
      repeat (rename_i hh; clear hh)
      refine held_take (i := 0) (v := ?rv1) rfl rfl (by kernel_rfl) (by kernel_rfl) (by kernel_rfl) (fun _ _ _ h => h) (Or.inl ⟨by rfl, ?rhy1⟩) hHeld ?rrest1
      case rhy1 => first | (intro w hSw; (try dsimp only at hSw); go_simp; done) | (intro w hSw; (try dsimp only at hSw); go_simp; with_reducible rfl)
      try simp only [List.setIfInBounds_toArray, List.set_cons_zero, List.set_cons_succ]
      refine held_take (i := 1) (v := ?rv2) rfl rfl (by kernel_rfl) (by kernel_rfl) (by kernel_rfl) (fun _ _ _ h => h) (Or.inl ⟨by rfl, ?rhy2⟩) hHeld ?rrest2
      case rhy2 => first | (intro w hSw; (try dsimp only at hSw); go_simp; done) | (intro w hSw; (try dsimp only at hSw); go_simp; with_reducible rfl)
      try simp only [List.setIfInBounds_toArray, List.set_cons_zero, List.set_cons_succ]
      refine held_take (i := 2) (v := ?rv3) rfl rfl (by kernel_rfl) (by kernel_rfl) (by kernel_rfl) (fun _ _ _ h => h) (Or.inl ⟨by rfl, ?rhy3⟩) hHeld ?rrest3
      case rhy3 => first | (intro w hSw; (try dsimp only at hSw); go_simp; done) | (intro w hSw; (try dsimp only at hSw); go_simp; with_reducible rfl)
      try simp only [List.setIfInBounds_toArray, List.set_cons_zero, List.set_cons_succ]
      refine held_take (i := 3) (v := ?rv4) rfl rfl (by kernel_rfl) (by kernel_rfl) (by kernel_rfl) (fun _ _ _ h => h) (Or.inl ⟨by rfl, ?rhy4⟩) hHeld ?rrest4
      case rhy4 => first | (intro w hSw; (try dsimp only at hSw); go_simp; done) | (intro w hSw; (try dsimp only at hSw); go_simp; with_reducible rfl)
      try simp only [List.setIfInBounds_toArray, List.set_cons_zero, List.set_cons_succ]
      refine wpAnyH_ready (rs := [4]) (by kernel_rfl) (by simp) ?_
      refine (AllReadyH.cons rfl (fun K hK => ?rz5x4) AllReadyH.nil)
      case rz5x4 =>
        go_simp
        go_wp2_with (go_at_call 32; refine (HSL.out _ (KB.out.tr hHeld)).mono ?_; rintro e wv6 ⟨b3, c3, rfl, hb, hk⟩)
        have hnew := hHeld.tr hk
        have B3 := Hid.mk' (hb.mono (Nat.zero_le _))
        clear hb
        refine hK.out _ _ hnew (fun hHeld => ?_)
        clear hK K hk hnew
        refine wpAnyH_ready (rs := [5]) (by kernel_rfl) (by simp) ?_
        refine (AllReadyH.cons rfl (fun K hK => ?rz7x5) AllReadyH.nil)
        case rz7x5 =>
          go_simp
          go_wp2_with (go_at_call 31; refine (HNW.out _ _ _ B3.out).mono ?_; rintro e wv8 ⟨rfl, hk⟩)
          have hnew := hHeld.tr hk
          refine hK.out _ _ hnew (fun hHeld => ?_)
          clear hK K hk hnew
          refine held_take (i := 6) (v := ?rv9) rfl rfl (by kernel_rfl) (by kernel_rfl) (by kernel_rfl) (fun _ _ _ h => h) (Or.inl ⟨by rfl, ?rhy9⟩) hHeld ?rrest9
          case rhy9 => first | (intro w hSw; (try dsimp only at hSw); go_simp; done) | (intro w hSw; (try dsimp only at hSw); go_simp; with_reducible rfl)
          try simp only [List.setIfInBounds_toArray, List.set_cons_zero, List.set_cons_succ]
          refine wpAnyH_done (by kernel_rfl) ?_ _
          exact ⟨b3, c3, by with_reducible rfl, hHeld⟩
    case cont14x1 =>
    intro e14 act14 w14 hq14
    obtain ⟨rfl, b3, c3, rfl, hk14⟩ := hq14.out
    have KP := Hid.mk' (KB.out.tr hk14)
    clear d4' k4'
    by_cases hnw : NW < 4611686018427387904
    rotate_left
    · have hnw2 : 4611686018427387904 ≤ NW := by omega
      have HE : Hid (ptE L md l = 190) := Hid.mk' (by rw [HPT.out, if_neg (fun h => hnw (HGT.out.1 h))])
      go_wp2
      go_ret2
      exact RptP.no HE.out (by decide) ⟨none, 0, rfl, Plw.zero, KP.out⟩
    have hnw2 : ¬ 4611686018427387904 ≤ NW := by omega
    have HE : Hid (ptE L md l = 0) := Hid.mk' (by rw [HPT.out, if_pos (HGT.out.2 hnw)])
    replace HB2 := Hid.mk' (HB2.out (HGT.out.2 hnw))
    have M5 := Hid.mk' True.intro
    go_wp2_with (first
      | (have hgo := M5; clear hgo; go_at_call 30; refine (HB2.out _ KP.out).mono ?_; rintro e w8 ⟨b8, c8, rfl, hb, hk⟩; have B8 := Hid.mk' hb; have K8 := Hid.mk' (KP.out.tr hk); clear hb hk; have M6 := Hid.mk' True.intro; clear M5))
    obtain ⟨bb, ob, rfl, hbb, r, hr⟩ := B8.out.skol H64.out (by omega)
    have HR := Hid.mk' hr
    obtain ⟨i0, hi0, hz0, hz1, hz2⟩ := info_parts Try.infoPut19
    clear hr
    go_loopw [16, 17] (fun ov iv wr => ∃ k : Nat, k ≤ mn ∧ iv = .int .i64 (k : Int) ∧ wr.ownsRow w8.heap.size 50 2 ov k (cellsL k 2 (pwC (1 * (mn : Int)) r)) ∧ Kept w8 wr none) (fun _ iv _ => mn - (intOf iv).toNat)
    case atStart => exact ⟨0, Nat.zero_le _, rfl, World.ownsRow_nil _ _ _ _, Kept.refl _ _⟩
    case round =>
      obtain ⟨k, hk, rfl, how, hkw⟩ := hrel
      have HOW := Hid.mk' how
      have KI := Hid.mk' hkw
      clear how hkw
      by_cases hlt : k < mn
      · obtain ⟨p1, _, _⟩ := HR.out k hlt
        have p2 := (cell_kpt KI.out hbb).trans p1
        have hs1 := KI.out.size
        clear p1
        generalize hra : (r k).1 = ra at *
        generalize hrb : (r k).2 = rb at *
        have HRR := Hid.mk' (And.intro hra hrb)
        clear hra hrb
        have t1 := own_keptR HOW.out (Kept.alloc wr #[.int .i64 ((mn : Int) + (k : Int)), .slice ra 64 rb] 50 (0, 0) none) (fun i _ => by simp)
        have t2 := cell_two_new wr (.int .i64 ((mn : Int) + (k : Int))) (.slice ra 64 rb) 50
        have T1 := Hid.mk' t1
        have T2 := Hid.mk' t2
        clear t1 t2
        go_wp2_with (at_builtin; refine wpList_append_own_at _ (by rfl) _ _ 40 (by rfl) w8.heap.size 50 i0 (.agg #[.int .i64 0, .slice none 0 0]) 2 32 Try.uPut19 hi0 hz0 hz1 hz2 rfl (by decide) u16 k _ (by rfl) T1.out ⟨wr.heap.size, 0, none⟩ 1 1 [.int .i64 ((mn : Int) + (k : Int)), .slice ra 64 rb] (by rfl) rfl T2.out (by simp [Value.oneCell']) (by unfold maxLen; omega) (by omega) (by rw [World.size_alloc]; omega) ?_; intro v' wo hown' hgo' _ hblk; have HO := Hid.mk' hown'; have HG := Hid.mk' hgo'; have HBK := Hid.mk' hblk; clear hown' hgo' hblk)
        refine ⟨⟨k + 1, by omega, by go_num, ?_, ?_⟩, by simp [intOf]; omega⟩
        · rw [cellsL_step k 2 (by omega)]
          have e : (List.range 2).map (pwC (1 * (mn : Int)) r k) = [.int .i64 ((mn : Int) + (k : Int)), .slice ra 64 rb] := by
            rw [← HRR.out.1, ← HRR.out.2]
            have e2 : (1 * (mn : Int) + (k : Int)) = ((mn : Int) + (k : Int)) := by omega
            rw [← e2]
            rfl
          rw [e]
          exact HO.out
        · exact (KI.out.tr (Kept.alloc _ _ _ _ _)).newRow HG.out (fun q hq => (own_lt HOW.out q hq).1)
      · obtain rfl : k = mn := by omega
        obtain ⟨ao, co, rfl, hpw⟩ := plw_own HOW.out (fun i hi => (HR.out i hi).2.1.kpt KI.out) HBL.out H64.out (by omega)
        have HPWL := Hid.mk' hpw
        clear hpw
        go_wp2
        go_ret2
        have hL : ptL L md l = pwL (1 * (k : Int)) BB := by
          rw [HPL.out, HE.out, if_pos rfl, HPW.out]
          rfl
        unfold RptP
        rw [hL, HE.out]
        have hlen : (pwL (1 * (k : Int)) BB).length = k := by rw [pw_len, HBL.out]
        rw [hlen]
        exact ⟨ao, co, rfl, HPWL.out, K8.out.tr KI.out⟩
  · rw [if_neg hat] at hwr
    have HSL : Hid (∀ w', Kept w w' none → Calls Try.prog 32 #[dvV (some ⟨b, off, none⟩) n c, .int .i64 0] w' fun e w2 => ∃ a' c', e = .returned (.slice a' mn c') ∧ Bl w2 w'.heap.size a' mn PB ∧ Kept w' w2 none) := Hid.mk' (by have h := HSLT.out; rw [hwr] at h; exact h)
    rw [hwr] at HPW
    clear HSLT hwr
    go_enter Try.func12, Try.ntmps12
    go_wp2_with (first
      | (have hgo := M3; clear hgo; go_at_call 24; refine (HCT.out _ K.out).mono ?_; rintro e w4 ⟨ka, kn, kc, rfl, hp, hk⟩; replace K := Hid.mk' (K.out.tr (hk.tr (Kept.alloc w4 #[.int .i64 g, .int .u8 (m0 : Int), .slice ka kn kc] 35 (0, 0) none))); replace RD := Hid.mk' (rowK (rowK RD.out hk) (Kept.alloc w4 #[.int .i64 g, .int .u8 (m0 : Int), .slice ka kn kc] 35 (0, 0) none)); have d4 : (w4.alloc (.cells #[.int .i64 g, .int .u8 (m0 : Int), .slice ka kn kc] 35)).cell? ⟨w.heap.size, 0, none⟩ = some (.slice _ n c) := RD.out.cell (i := 0) (by omega); have RK := Hid.mk' (row3 w4 (.int .i64 g) (.int .u8 (m0 : Int)) (.slice ka kn kc) 35); have kz0 : (w4.alloc (.cells #[.int .i64 g, .int .u8 (m0 : Int), .slice ka kn kc] 35)).cell? ⟨w4.heap.size, 0, none⟩ = some (.int .i64 g) := RK.out.cell (i := 0) (by omega); clear hp hk; have M4 := Hid.mk' True.intro; clear M3)
      | (have hgo := M2; clear hgo; go_at_call 30; refine (HB1.out _ K.out).mono ?_; rintro e w3 ⟨pa3, pc3, rfl, hk⟩; replace K := Hid.mk' (K.out.tr hk); replace RD := Hid.mk' (rowK RD.out hk); have d3 : w3.cell? ⟨w.heap.size, 0, none⟩ = some (.slice _ n c) := RD.out.cell (i := 0) (by omega); clear hk; have M3 := Hid.mk' True.intro; clear M2)
      | (have hgo := M1; clear hgo; go_at_call 29; refine (HMN.out _).mono ?_; rintro e w2 ⟨rfl, hk⟩; replace K := Hid.mk' (K.out.tr hk); replace RD := Hid.mk' (rowK RD.out hk); have d2 : w2.cell? ⟨w.heap.size, 0, none⟩ = some (.slice _ n c) := RD.out.cell (i := 0) (by omega); clear hk; have M2 := Hid.mk' True.intro; clear M1)
      | (have hgo := M0; clear hgo; go_at_call 23; rw [HWA.out]; refine (HAS.out _).mono ?_; rintro e w1 ⟨rfl, hk⟩; have K := Hid.mk' (HKA.out.tr hk); replace RD := Hid.mk' (rowK RD.out hk); have d1 : w1.cell? ⟨w.heap.size, 0, none⟩ = some (.slice _ n c) := RD.out.cell (i := 0) (by omega); clear hk; have M1 := Hid.mk' True.intro; clear M0))
    generalize hWB : (w4.alloc (.cells #[.int .i64 g, .int .u8 (m0 : Int), .slice ka kn kc] 35)) = WB at *
    have KB := K
    have d4' : ∀ w', Kept WB w' none → w'.cell? ⟨w.heap.size, 0, none⟩ = some (.slice (some ⟨b, off, none⟩) n c) := fun w' hk => (rowK RD.out hk).cell (i := 0) (by omega)
    have k4' : ∀ w', Kept WB w' none → w'.cell? ⟨w4.heap.size, 0, none⟩ = some (.int .i64 g) := fun w' hk => (rowK RK.out hk).cell (i := 0) (by omega)
    clear kz0 hWB d4
    refine Code.wp_mono (Q := Ro ?A14x0 (fun w' => Kept WB w' none)) ?cont14x0 ?reg14x0
    case reg14x0 =>
      refine wp_region_held_drew (S := fun w' => Kept WB w' none) (by kernel_rfl) (Kept.drew _ _) (fun hHeld => ?_)
      repeat (rename_i hh; clear hh)
      refine held_take (i := 0) (v := ?rv10) rfl rfl (by kernel_rfl) (by kernel_rfl) (by kernel_rfl) (fun _ _ _ h => h) (Or.inl ⟨by rfl, ?rhy10⟩) hHeld ?rrest10
      case rhy10 => first | (intro w hSw; (try dsimp only at hSw); go_simp; done) | (intro w hSw; (try dsimp only at hSw); go_simp; with_reducible rfl)
      try simp only [List.setIfInBounds_toArray, List.set_cons_zero, List.set_cons_succ]
      refine held_take (i := 1) (v := ?rv11) rfl rfl (by kernel_rfl) (by kernel_rfl) (by kernel_rfl) (fun _ _ _ h => h) (Or.inl ⟨by rfl, ?rhy11⟩) hHeld ?rrest11
      case rhy11 => first | (intro w hSw; (try dsimp only at hSw); go_simp; done) | (intro w hSw; (try dsimp only at hSw); go_simp; with_reducible rfl)
      try simp only [List.setIfInBounds_toArray, List.set_cons_zero, List.set_cons_succ]
      refine held_take (i := 2) (v := ?rv12) rfl rfl (by kernel_rfl) (by kernel_rfl) (by kernel_rfl) (fun _ _ _ h => h) (Or.inl ⟨by rfl, ?rhy12⟩) hHeld ?rrest12
      case rhy12 => first | (intro w hSw; (try dsimp only at hSw); go_simp; done) | (intro w hSw; (try dsimp only at hSw); go_simp; with_reducible rfl)
      try simp only [List.setIfInBounds_toArray, List.set_cons_zero, List.set_cons_succ]
      refine held_take (i := 3) (v := ?rv13) rfl rfl (by kernel_rfl) (by kernel_rfl) (by kernel_rfl) (fun _ _ _ h => h) (Or.inl ⟨by rfl, ?rhy13⟩) hHeld ?rrest13
      case rhy13 => first | (intro w hSw; (try dsimp only at hSw); go_simp; done) | (intro w hSw; (try dsimp only at hSw); go_simp; with_reducible rfl)
      try simp only [List.setIfInBounds_toArray, List.set_cons_zero, List.set_cons_succ]
      refine wpAnyH_ready (rs := [4]) (by kernel_rfl) (by simp) ?_
      refine (AllReadyH.cons rfl (fun K hK => ?rz14x4) AllReadyH.nil)
      case rz14x4 =>
        go_simp
        go_wp2_with (go_at_call 32; refine (HSL.out _ (KB.out.tr hHeld)).mono ?_; rintro e wv15 ⟨b3, c3, rfl, hb, hk⟩)
        have hnew := hHeld.tr hk
        have B3 := Hid.mk' (hb.mono (Nat.zero_le _))
        clear hb
        refine hK.out _ _ hnew (fun hHeld => ?_)
        clear hK K hk hnew
        refine wpAnyH_ready (rs := [5]) (by kernel_rfl) (by simp) ?_
        refine (AllReadyH.cons rfl (fun K hK => ?rz16x5) AllReadyH.nil)
        case rz16x5 =>
          go_simp
          go_wp2_with (go_at_call 31; refine (HNW.out _ _ _ B3.out).mono ?_; rintro e wv17 ⟨rfl, hk⟩)
          have hnew := hHeld.tr hk
          refine hK.out _ _ hnew (fun hHeld => ?_)
          clear hK K hk hnew
          refine held_take (i := 6) (v := ?rv18) rfl rfl (by kernel_rfl) (by kernel_rfl) (by kernel_rfl) (fun _ _ _ h => h) (Or.inl ⟨by rfl, ?rhy18⟩) hHeld ?rrest18
          case rhy18 => first | (intro w hSw; (try dsimp only at hSw); go_simp; done) | (intro w hSw; (try dsimp only at hSw); go_simp; with_reducible rfl)
          try simp only [List.setIfInBounds_toArray, List.set_cons_zero, List.set_cons_succ]
          refine wpAnyH_done (by kernel_rfl) ?_ _
          exact ⟨b3, c3, by with_reducible rfl, hHeld⟩
    case cont14x0 =>
    intro e14 act14 w14 hq14
    obtain ⟨rfl, b3, c3, rfl, hk14⟩ := hq14.out
    have KP := Hid.mk' (KB.out.tr hk14)
    clear d4' k4'
    by_cases hnw : NW < 4611686018427387904
    rotate_left
    · have hnw2 : 4611686018427387904 ≤ NW := by omega
      have HE : Hid (ptE L md l = 190) := Hid.mk' (by rw [HPT.out, if_neg (fun h => hnw (HGT.out.1 h))])
      go_wp2
      go_ret2
      exact RptP.no HE.out (by decide) ⟨none, 0, rfl, Plw.zero, KP.out⟩
    have hnw2 : ¬ 4611686018427387904 ≤ NW := by omega
    have HE : Hid (ptE L md l = 0) := Hid.mk' (by rw [HPT.out, if_pos (HGT.out.2 hnw)])
    replace HB2 := Hid.mk' (HB2.out (HGT.out.2 hnw))
    have M5 := Hid.mk' True.intro
    go_wp2_with (first
      | (have hgo := M5; clear hgo; go_at_call 30; refine (HB2.out _ KP.out).mono ?_; rintro e w8 ⟨b8, c8, rfl, hb, hk⟩; have B8 := Hid.mk' hb; have K8 := Hid.mk' (KP.out.tr hk); clear hb hk; have M6 := Hid.mk' True.intro; clear M5))
    obtain ⟨bb, ob, rfl, hbb, r, hr⟩ := B8.out.skol H64.out (by omega)
    have HR := Hid.mk' hr
    obtain ⟨i0, hi0, hz0, hz1, hz2⟩ := info_parts Try.infoPut19
    clear hr
    go_loopw [16, 17] (fun ov iv wr => ∃ k : Nat, k ≤ mn ∧ iv = .int .i64 (k : Int) ∧ wr.ownsRow w8.heap.size 50 2 ov k (cellsL k 2 (pwC (0 * (mn : Int)) r)) ∧ Kept w8 wr none) (fun _ iv _ => mn - (intOf iv).toNat)
    case atStart => exact ⟨0, Nat.zero_le _, rfl, World.ownsRow_nil _ _ _ _, Kept.refl _ _⟩
    case round =>
      obtain ⟨k, hk, rfl, how, hkw⟩ := hrel
      have HOW := Hid.mk' how
      have KI := Hid.mk' hkw
      clear how hkw
      by_cases hlt : k < mn
      · obtain ⟨p1, _, _⟩ := HR.out k hlt
        have p2 := (cell_kpt KI.out hbb).trans p1
        have hs1 := KI.out.size
        clear p1
        generalize hra : (r k).1 = ra at *
        generalize hrb : (r k).2 = rb at *
        have HRR := Hid.mk' (And.intro hra hrb)
        clear hra hrb
        have t1 := own_keptR HOW.out (Kept.alloc wr #[.int .i64 (k : Int), .slice ra 64 rb] 50 (0, 0) none) (fun i _ => by simp)
        have t2 := cell_two_new wr (.int .i64 (k : Int)) (.slice ra 64 rb) 50
        have T1 := Hid.mk' t1
        have T2 := Hid.mk' t2
        clear t1 t2
        go_wp2_with (at_builtin; refine wpList_append_own_at _ (by rfl) _ _ 40 (by rfl) w8.heap.size 50 i0 (.agg #[.int .i64 0, .slice none 0 0]) 2 32 Try.uPut19 hi0 hz0 hz1 hz2 rfl (by decide) u16 k _ (by rfl) T1.out ⟨wr.heap.size, 0, none⟩ 1 1 [.int .i64 (k : Int), .slice ra 64 rb] (by rfl) rfl T2.out (by simp [Value.oneCell']) (by unfold maxLen; omega) (by omega) (by rw [World.size_alloc]; omega) ?_; intro v' wo hown' hgo' _ hblk; have HO := Hid.mk' hown'; have HG := Hid.mk' hgo'; have HBK := Hid.mk' hblk; clear hown' hgo' hblk)
        refine ⟨⟨k + 1, by omega, by go_num, ?_, ?_⟩, by simp [intOf]; omega⟩
        · rw [cellsL_step k 2 (by omega)]
          have e : (List.range 2).map (pwC (0 * (mn : Int)) r k) = [.int .i64 (k : Int), .slice ra 64 rb] := by
            rw [← HRR.out.1, ← HRR.out.2]
            have e2 : (0 * (mn : Int) + (k : Int)) = (k : Int) := by omega
            rw [← e2]
            rfl
          rw [e]
          exact HO.out
        · exact (KI.out.tr (Kept.alloc _ _ _ _ _)).newRow HG.out (fun q hq => (own_lt HOW.out q hq).1)
      · obtain rfl : k = mn := by omega
        obtain ⟨ao, co, rfl, hpw⟩ := plw_own HOW.out (fun i hi => (HR.out i hi).2.1.kpt KI.out) HBL.out H64.out (by omega)
        have HPWL := Hid.mk' hpw
        clear hpw
        go_wp2
        go_ret2
        have hL : ptL L md l = pwL (0 * (k : Int)) BB := by
          rw [HPL.out, HE.out, if_pos rfl, HPW.out]
          rfl
        unfold RptP
        rw [hL, HE.out]
        have hlen : (pwL (0 * (k : Int)) BB).length = k := by rw [pw_len, HBL.out]
        rw [hlen]
        exact ⟨ao, co, rfl, HPWL.out, K8.out.tr KI.out⟩

end Go.Proofs.Ytlabjamkaebnjaa
