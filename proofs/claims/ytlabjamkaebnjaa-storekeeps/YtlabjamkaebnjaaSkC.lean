/-
  THE DOCUMENT's kept (made by a program).
-/
import Derived.Test.YtlabjamkaebnjaaSkA
import Derived.Test.YtlabjamkaebnjaaSkB
import Derived.Test.YtlabjamkaebnjaaStoR4
import Derived.Test.YtlabjamkaebnjaaSto9J
namespace Go.Proofs.Ytlabjamkaebnjaa
open Go.RowKit Go.Lib Go.Deep
set_option linter.unusedVariables false
set_option linter.unusedSimpArgs false

theorem kep_pass {B : List (List Nat)} (h : kepB B = true) : fstN B < gtop ∧ okR (tldB B) = true ∧ 1 ≤ rdN (tldB B) ∧ rdN (tldB B) ≤ (tldB B).length - rdK (tldB B) ∧ okR (insT (tldB B)) = true ∧ rdN (insT (tldB B)) ≤ 3 ∧ partsB ((insT (tldB B)).drop (rdK (insT (tldB B)))) = true := by
  have hk := kep_is h
  have e : kepK B = tolM B := by unfold kepK; rw [if_pos h]
  rw [e] at hk
  have g1 := hk.g1
  have g2 := hk.g2
  have h1 : lenOk (tldB B) = true := by
    cases q : lenOk (tldB B) with
    | true => rfl
    | false => simp [tolM, q, k00] at g1
  have h2 : modOk (insT (tldB B)) = true := by
    cases q : modOk (insT (tldB B)) with
    | true => rfl
    | false => simp [tolM, q, k00] at g1
  have h3 : partsB ((insT (tldB B)).drop (rdK (insT (tldB B)))) = true := by
    cases q : partsB ((insT (tldB B)).drop (rdK (insT (tldB B)))) with
    | true => rfl
    | false => simp [tolM, q, k00] at g1
  have hm : tolM B = ⟨min (fstN B) gtop, rdN (insT (tldB B)), (plansM ((insT (tldB B)).drop (rdK (insT (tldB B))), false)).1⟩ := by unfold tolM; rw [h1, h2, h3, if_pos rfl, if_pos rfl, if_pos rfl]
  rw [hm] at g2
  dsimp only at g2
  unfold lenOk at h1
  unfold modOk at h2
  simp only [Bool.and_eq_true, decide_eq_true_eq] at h1 h2
  have h4 : 1 ≤ rdN (tldB B) := by
    by_cases q : 1 ≤ rdN (tldB B)
    · exact q
    · exfalso
      have q0 : rdN (tldB B) = 0 := by omega
      have hh := ((okR_iff _).1 h2.1).1
      unfold insT at hh
      rw [q0, List.take_zero] at hh
      simp at hh
  exact ⟨by omega, h1.1, h4, h1.2, h2.1, h2.2, h3⟩
theorem kep_all {B : List (List Nat)} (hg : fstN B < gtop) (h1 : lenOk (tldB B) = true) (h2 : modOk (insT (tldB B)) = true) (h3 : partsB ((insT (tldB B)).drop (rdK (insT (tldB B)))) = true) : tolM B = ⟨fstN B, rdN (insT (tldB B)), (plansM ((insT (tldB B)).drop (rdK (insT (tldB B))), false)).1⟩ := by
  unfold tolM
  rw [h1, h2, h3, if_pos rfl, if_pos rfl, if_pos rfl, Nat.min_eq_left (by omega)]
/-- What the document's kept answers. -/
def RkP (w : World) (B : List (List Nat)) (e : Ending) (w' : World) : Prop := ∃ pa n c, e = .returned (.tuple #[kpV ((kepK B).gen : Int) (kepK B).mode pa n c, .bool (kepB B)]) ∧ PlF w' w.heap.size pa n c (kepK B).plans ∧ Kept w w' none
set_option maxRecDepth 100000 in
set_option maxHeartbeats 4000000 in
theorem rkept_any {la : Option Addr} {m c : Nat} {B : List (List Nat)} {w : World} (hB : Bl w 0 la m B) (h64 : ∀ p ∈ B, p.length = 64) (h1 : 1 ≤ m) (h2 : m ≤ 32) :
    Calls Try.prog 35 #[.slice la m c] w (RkP w B) := by
  have HB := Hid.mk' hB
  have HS := Hid.mk' hB.size
  have HLT := Hid.mk' (tld_lt hB.lt)
  have HBLT := Hid.mk' hB.lt
  have HTL := Hid.mk' (fun k (hk : k ≤ m) => (by rw [tld_len (fun p hp => h64 p (List.mem_of_mem_take hp)), List.length_take, hB.size]; omega : (tldB (B.take k)).length = 48 * k))
  have H64 := Hid.mk' (fun k (hk : k < m) => (by
    have hk' : k < B.length := by rw [hB.size]; exact hk
    have : B.getD k [] = B[k] := by simp [hk']
    rw [this]
    exact h64 _ (List.getElem_mem hk') : (B.getD k []).length = 64))
  have HSU := Hid.mk' (fun k (hk : k < m) => tld_succ (B := B) (k := k) (by rw [hB.size]; exact hk))
  have HPASS := Hid.mk' (kep_pass (B := B))
  have HKSTO := Hid.mk' (kep_sto (B := B) (by rw [hB.size]; exact h1) (by rw [hB.size]; exact h2))
  have hkA : Kept w (w.alloc (.cells #[.int .i64 0, .int .u8 0, .slice none 0 0] 35)) none := Kept.alloc _ _ _ _ _
  have R0 := Hid.mk' (row3 w (.int .i64 0) (.int .u8 0) (.slice none 0 0) 35)
  obtain ⟨b3, o3, a3, c3, e3, _, p3, hC3⟩ := (hB.kept hkA).get (i := 0) h1
  subst e3
  rw [H64.out 0 h1] at p3 hC3
  rw [Nat.add_zero] at p3
  have HE := Hid.mk' (rends_any hC3)
  have hfb : fstN B = begN (B.getD 0 []) := rfl
  obtain ⟨x, hx⟩ : ∃ x : Int, ((begN (B.getD 0 []) : Nat) : Int) = x := ⟨_, rfl⟩
  have hx0 : 0 ≤ x := by omega
  have hxg : (fstN B : Int) = x := by rw [hfb]; exact hx
  rw [hx] at HE
  have M0 := Hid.mk' True.intro
  clear hB h64 hfb hx hC3
  by_cases hxt : x < 4611686018427387904
  rotate_left
  · have hxt2 : 4611686018427387904 ≤ x := by omega
    have HK2 : Hid (kepB B = false) := Hid.mk' (by
      cases hq : kepB B with
      | false => rfl
      | true =>
        exfalso
        have hp := HPASS.out hq
        have := hp.1; unfold gtop at this; omega)
    have HK1 : Hid (kepK B = k00) := Hid.mk' (kep_no HK2.out)
    clear hxg
    go_enter Try.func35, Try.ntmps35
    go_wp2_with (first
      | (have hgo := M0; clear hgo; go_at_call 52; refine (HE.out).mono ?_; rintro e w1 ⟨rfl, hk⟩; have K := Hid.mk' hk; have T := Hid.mk' (rowK R0.out hk); have t0 := T.out.cell (i := 0) (by omega); have t1 := T.out.cell (i := 1) (by omega); have t2 := T.out.cell (i := 2) (by omega); have y0 := T.out.frozen 0; have y1 := T.out.frozen 1; have y2 := T.out.frozen 2; simp [f3] at t0 t1 t2; clear hk; have M1 := Hid.mk' True.intro; clear M0))
    have hrw := row3_set T.out (.int .i64 0) (.int .u8 0) (.slice none 0 0)
    have q0 := hrw.cell (i := 0) (by omega)
    have q1 := hrw.cell (i := 1) (by omega)
    have q2 := hrw.cell (i := 2) (by omega)
    simp [f3] at q0 q1 q2
    refine bodyPost_ret (v := .tuple #[.agg #[.int .i64 0, .int .u8 0, .slice none 0 0], .bool false]) (by simp [results, Try.results35, go_sem, q0, q1, q2]) rfl ⟨none, 0, 0, by rw [HK1.out, HK2.out]; rfl, by rw [HK1.out]; exact PlF.nil _ _, ?_⟩
    exact (((hkA.tr K.out).setNew (p := ⟨w.heap.size, 0, none⟩) (Nat.le_refl _) _).setNew (p := ⟨w.heap.size, 1, none⟩) (Nat.le_refl _) _).setNew (p := ⟨w.heap.size, 2, none⟩) (Nat.le_refl _) _
  have HXG := Hid.mk' hxg
  have hxt' : ¬ 4611686018427387904 ≤ x := by omega
  clear hxg
  go_enter Try.func35, Try.ntmps35
  go_wp2_with (first
    | (have hgo := M0; clear hgo; go_at_call 52; refine (HE.out).mono ?_; rintro e w1 ⟨rfl, hk⟩; have K := Hid.mk' hk; have T := Hid.mk' (rowK R0.out hk); have t0 := T.out.cell (i := 0) (by omega); have t1 := T.out.cell (i := 1) (by omega); have t2 := T.out.cell (i := 2) (by omega); have y0 := T.out.frozen 0; have y1 := T.out.frozen 1; have y2 := T.out.frozen 2; simp [f3] at t0 t1 t2; clear hk; have M1 := Hid.mk' True.intro; clear M0))
  have hw1 := K.out.size
  rw [World.size_alloc] at hw1
  go_loopw [6, 7] (fun t i wr => ∃ k : Nat, k ≤ m ∧ i = .int .i64 k ∧ ∃ a' c', t = .slice a' (48 * k) c' ∧ Mine wr (w.heap.size + 1) a' (48 * k) c' (tldB (B.take k)) ∧ Kept (w.alloc (.cells #[.int .i64 0, .int .u8 0, .slice none 0 0] 35)) wr none) (fun _ i _ => m - (intOf i).toNat)
  case atStart => exact ⟨0, Nat.zero_le _, rfl, _, _, rfl, Mine.empty _ _, K.out⟩
  case round =>
    obtain ⟨k, hk, rfl, a', c', rfl, hMi, hkr⟩ := hrel
    have HMI := Hid.mk' hMi
    have HK := Hid.mk' hkr
    clear hMi hkr
    by_cases hlt : k < m
    · obtain ⟨b1, o1, a1, c1, e1, hb1, p1, hC1⟩ := (HB.out.kept (hkA.tr HK.out)).get hlt
      injection e1 with e1
      injection e1 with e1 e2
      subst e1 e2
      have hsu := HSU.out k hlt
      rw [H64.out k hlt] at p1 hC1
      obtain ⟨b2, o2, rfl, hb2, _⟩ := hC1.by_.at_ (by omega)
      have HC := Hid.mk' (hC1.by_.subN (i := 8) (k := 48) (by omega))
      have hr1 := hC1.room
      have hm1 := hC1.max
      have HSU1 := Hid.mk' hsu
      clear hC1 hsu
      generalize ((B.getD k []).drop 8).take 48 = x at *
      generalize hy : tldB (B.take k) = y at *
      clear hy
      have hz := HK.out.size
      rw [World.size_alloc] at hz
      go_wp2_with (at_builtin; refine wpList_join (by rfl) _ _ (by rfl) (w.heap.size + 1) (.slice a' (48 * k) c') (48 * k) y (by rfl) HMI.out.own (some ⟨b2, o2 + 8, none⟩) 48 (c1 - 8) x (by rfl) HC.out (fun e => (nomatch e)) (by omega) hz ?_; intro a3 c3 w3 hm3 hg3)
      go_roundw
      case rel => exact ⟨k + 1, by omega, by go_num, a3, c3, by rw [Nat.mul_add], by rw [HSU1.out, Nat.mul_add]; exact hm3, HK.out.newRow hg3 (fun i h => by rw [World.size_alloc]; exact HMI.out.new i h)⟩
      case measure => simp [intOf]; omega
    · obtain rfl : k = m := by omega
      have e : B.take k = B := List.take_of_length_le (by rw [HS.out]; exact Nat.le_refl _)
      have htl := HTL.out k (Nat.le_refl _)
      rw [e] at HMI htl
      have hcr := HMI.out.room
      have hcm := HMI.out.max
      obtain ⟨b, off, rfl, _, _⟩ := (HMI.out.by HLT.out).at_ (by omega)
      have HBT := Hid.mk' (HMI.out.by HLT.out)
      clear K p3
      have K := HK
      clear HK t0 t1 t2 y0 y1 y2 T
      have T := Hid.mk' (rowK R0.out K.out)
      have t0 := T.out.cell (i := 0) (by omega)
      have t1 := T.out.cell (i := 1) (by omega)
      have t2 := T.out.cell (i := 2) (by omega)
      have y0 := T.out.frozen 0
      have y1 := T.out.frozen 1
      have y2 := T.out.frozen 2
      simp [f3] at t0 t1 t2
      have HINS : Hid (insT (tldB B) = ((tldB B).drop (rdK (tldB B))).take (rdN (tldB B))) := Hid.mk' rfl
      have hlo : lenOk (tldB B) = (okR (tldB B) && decide (rdN (tldB B) ≤ (tldB B).length - rdK (tldB B))) := rfl
      have HALL := Hid.mk' (kep_all (B := B))
      clear HTL e
      generalize tldB B = T' at *
      by_cases hok : okR T' = true
      rotate_left
      · have hr := rd_none hok
        have HK2 : Hid (kepB B = false) := Hid.mk' (by
          cases hq : kepB B with
          | false => rfl
          | true =>
            exfalso
            have hp := HPASS.out hq
            exact hok hp.2.1)
        have HK1 : Hid (kepK B = k00) := Hid.mk' (kep_no HK2.out)
        have HR1 : Hid (∀ w', Kept (w.alloc (.cells #[.int .i64 0, .int .u8 0, .slice none 0 0] 35)) w' none → Kept wr w' none → Calls Try.prog 57 #[.slice (some ⟨b, off, none⟩) (48 * k) c'] w' fun e w2 => e = .returned (.tuple #[.int .u64 0, .int .i64 0, .int .i64 8]) ∧ Kept w' w2 none) := Hid.mk' (fun w' _ hk => by
          refine (rread_any (HBT.out.kept hk)).mono ?_
          rintro e w2 ⟨rfl, mm, rfl⟩
          rw [hr.1, hr.2.1, hr.2.2]
          exact ⟨rfl, kept_drwN _ _⟩)
        clear hr hok hlo
        have M1 := Hid.mk' True.intro
        go_wp2_with (first
          | (have hgo := M1; clear hgo; go_at_call 57; refine (HR1.out _ K.out (Kept.refl _ _)).mono ?_; rintro e w3 ⟨rfl, hk⟩; replace K := Hid.mk' (K.out.tr hk); replace T := Hid.mk' (rowK T.out hk); replace t0 := T.out.cell (i := 0) (by omega); replace t1 := T.out.cell (i := 1) (by omega); replace t2 := T.out.cell (i := 2) (by omega); replace y0 := T.out.frozen 0; replace y1 := T.out.frozen 1; replace y2 := T.out.frozen 2; simp [f3] at t0 t1 t2; clear hk; have M2 := Hid.mk' True.intro; clear M1))
        have hrw := row3_set T.out (.int .i64 0) (.int .u8 0) (.slice none 0 0)
        have q0 := hrw.cell (i := 0) (by omega)
        have q1 := hrw.cell (i := 1) (by omega)
        have q2 := hrw.cell (i := 2) (by omega)
        simp [f3] at q0 q1 q2
        refine bodyPost_ret (v := .tuple #[.agg #[.int .i64 0, .int .u8 0, .slice none 0 0], .bool false]) (by simp [results, Try.results35, go_sem, q0, q1, q2]) rfl ⟨none, 0, 0, by rw [HK1.out, HK2.out]; rfl, by rw [HK1.out]; exact PlF.nil _ _, ?_⟩
        exact (((hkA.tr K.out).setNew (p := ⟨w.heap.size, 0, none⟩) (Nat.le_refl _) _).setNew (p := ⟨w.heap.size, 1, none⟩) (Nat.le_refl _) _).setNew (p := ⟨w.heap.size, 2, none⟩) (Nat.le_refl _) _
      have hkT := okR_k hok
      have hnT := rdN_lt T'
      have HRE := Hid.mk' (rd_some hok).2.2
      rw [htl] at hlo hkT
      have HPASS2 : Hid (kepB B = true → 1 ≤ rdN T' ∧ rdN T' ≤ 48 * k - rdK T' ∧ okR (insT T') = true ∧ rdN (insT T') ≤ 3 ∧ partsB ((insT T').drop (rdK (insT T'))) = true) := Hid.mk' (fun hq => by have h := HPASS.out hq; rw [htl] at h; exact h.2.2)
      obtain ⟨n0, hn0⟩ : ∃ n0, rdN T' = n0 := ⟨_, rfl⟩
      obtain ⟨k0, hk0⟩ : ∃ k0, rdK T' = k0 := ⟨_, rfl⟩
      rw [hn0] at hnT hlo HINS HPASS2
      rw [hk0] at hkT hlo HINS HPASS2
      have HR1 : Hid (∀ w', Kept (w.alloc (.cells #[.int .i64 0, .int .u8 0, .slice none 0 0] 35)) w' none → Kept wr w' none → Calls Try.prog 57 #[.slice (some ⟨b, off, none⟩) (48 * k) c'] w' fun e w2 => e = .returned (.tuple #[.int .u64 (n0 : Int), .int .i64 (k0 : Int), .int .i64 0]) ∧ Kept w' w2 none) := Hid.mk' (fun w' _ hk => by
        refine (rread_any (HBT.out.kept hk)).mono ?_
        rintro e w2 ⟨rfl, mm, rfl⟩
        rw [hn0, hk0, HRE.out]
        exact ⟨rfl, kept_drwN _ _⟩)
      clear HPASS
      have HPASS := HPASS2
      have M1 := Hid.mk' True.intro
      clear hn0 hk0 HRE HPASS2
      by_cases hn1 : n0 < 1
      · have HK2 : Hid (kepB B = false) := Hid.mk' (by
          cases hq : kepB B with
          | false => rfl
          | true =>
            exfalso
            have hp := HPASS.out hq
            omega)
        have HK1 : Hid (kepK B = k00) := Hid.mk' (kep_no HK2.out)
        have hn1' : (n0 : Int) < 1 := by omega
        clear hlo hok
        go_wp2_with (first
          | (have hgo := M1; clear hgo; go_at_call 57; refine (HR1.out _ K.out (Kept.refl _ _)).mono ?_; rintro e w3 ⟨rfl, hk⟩; replace K := Hid.mk' (K.out.tr hk); replace T := Hid.mk' (rowK T.out hk); replace t0 := T.out.cell (i := 0) (by omega); replace t1 := T.out.cell (i := 1) (by omega); replace t2 := T.out.cell (i := 2) (by omega); replace y0 := T.out.frozen 0; replace y1 := T.out.frozen 1; replace y2 := T.out.frozen 2; simp [f3] at t0 t1 t2; clear hk; have M2 := Hid.mk' True.intro; clear M1))
        have hrw := row3_set T.out (.int .i64 0) (.int .u8 0) (.slice none 0 0)
        have q0 := hrw.cell (i := 0) (by omega)
        have q1 := hrw.cell (i := 1) (by omega)
        have q2 := hrw.cell (i := 2) (by omega)
        simp [f3] at q0 q1 q2
        refine bodyPost_ret (v := .tuple #[.agg #[.int .i64 0, .int .u8 0, .slice none 0 0], .bool false]) (by simp [results, Try.results35, go_sem, q0, q1, q2]) rfl ⟨none, 0, 0, by rw [HK1.out, HK2.out]; rfl, by rw [HK1.out]; exact PlF.nil _ _, ?_⟩
        exact (((hkA.tr K.out).setNew (p := ⟨w.heap.size, 0, none⟩) (Nat.le_refl _) _).setNew (p := ⟨w.heap.size, 1, none⟩) (Nat.le_refl _) _).setNew (p := ⟨w.heap.size, 2, none⟩) (Nat.le_refl _) _
      have hn1' : ¬ (n0 : Int) < 1 := by omega
      by_cases hle : n0 ≤ 48 * k - k0
      rotate_left
      · have HK2 : Hid (kepB B = false) := Hid.mk' (by
          cases hq : kepB B with
          | false => rfl
          | true =>
            exfalso
            have hp := HPASS.out hq
            omega)
        have HK1 : Hid (kepK B = k00) := Hid.mk' (kep_no HK2.out)
        have hle' : (48 * (k : Int) - k0) < (n0 : Int) := by omega
        have hkT' : 0 ≤ 48 * (k : Int) - k0 := by omega
        have hkT2 : 48 * (k : Int) - k0 < 18446744073709551616 := by omega
        clear hlo hok
        go_wp2_with (first
          | (have hgo := M1; clear hgo; go_at_call 57; refine (HR1.out _ K.out (Kept.refl _ _)).mono ?_; rintro e w3 ⟨rfl, hk⟩; replace K := Hid.mk' (K.out.tr hk); replace T := Hid.mk' (rowK T.out hk); replace t0 := T.out.cell (i := 0) (by omega); replace t1 := T.out.cell (i := 1) (by omega); replace t2 := T.out.cell (i := 2) (by omega); replace y0 := T.out.frozen 0; replace y1 := T.out.frozen 1; replace y2 := T.out.frozen 2; simp [f3] at t0 t1 t2; clear hk; have M2 := Hid.mk' True.intro; clear M1))
        have hrw := row3_set T.out (.int .i64 0) (.int .u8 0) (.slice none 0 0)
        have q0 := hrw.cell (i := 0) (by omega)
        have q1 := hrw.cell (i := 1) (by omega)
        have q2 := hrw.cell (i := 2) (by omega)
        simp [f3] at q0 q1 q2
        refine bodyPost_ret (v := .tuple #[.agg #[.int .i64 0, .int .u8 0, .slice none 0 0], .bool false]) (by simp [results, Try.results35, go_sem, q0, q1, q2]) rfl ⟨none, 0, 0, by rw [HK1.out, HK2.out]; rfl, by rw [HK1.out]; exact PlF.nil _ _, ?_⟩
        exact (((hkA.tr K.out).setNew (p := ⟨w.heap.size, 0, none⟩) (Nat.le_refl _) _).setNew (p := ⟨w.heap.size, 1, none⟩) (Nat.le_refl _) _).setNew (p := ⟨w.heap.size, 2, none⟩) (Nat.le_refl _) _
      have hle' : ¬ (48 * (k : Int) - k0) < (n0 : Int) := by omega
      have hkT' : 0 ≤ 48 * (k : Int) - k0 := by omega
      have hkT2 : 48 * (k : Int) - k0 < 18446744073709551616 := by omega
      have HLO : Hid (lenOk T' = true) := Hid.mk' (by rw [hlo, hok, decide_eq_true hle]; rfl)
      have hbi := HBT.out.subN (i := k0) (k := n0) (by omega)
      rw [← HINS.out] at hbi
      have hI := hbi.size
      have HBI := Hid.mk' hbi
      have hci : n0 ≤ c' - k0 := by omega
      have hcj : c' - k0 ≤ 9223372036854775807 := by omega
      have hck : ¬ c' = k0 := by omega
      clear hbi hlo HINS hok
      generalize insT T' = I at *
      have hmo : modOk I = (okR I && decide (rdN I ≤ 3)) := rfl
      by_cases hok2 : okR I = true
      rotate_left
      · have hr := rd_none hok2
        have HK2 : Hid (kepB B = false) := Hid.mk' (by
          cases hq : kepB B with
          | false => rfl
          | true =>
            exfalso
            have hp := HPASS.out hq
            exact hok2 hp.2.2.1)
        have HK1 : Hid (kepK B = k00) := Hid.mk' (kep_no HK2.out)
        have HR2 : Hid (∀ w', Kept wr w' none → Calls Try.prog 57 #[.slice (some ⟨b, off + k0, none⟩) n0 (c' - k0)] w' fun e w2 => e = .returned (.tuple #[.int .u64 0, .int .i64 0, .int .i64 8]) ∧ Kept w' w2 none) := Hid.mk' (fun w' hk => by
          refine (rread_any (HBI.out.kept hk)).mono ?_
          rintro e w2 ⟨rfl, mm, rfl⟩
          rw [hr.1, hr.2.1, hr.2.2]
          exact ⟨rfl, kept_drwN _ _⟩)
        clear hr hok2 hmo
        go_wp2_with (first
          | (have hgo := M2; clear hgo; go_at_call 57; refine (HR2.out _ KR.out).mono ?_; rintro e w4 ⟨rfl, hk⟩; replace K := Hid.mk' (K.out.tr hk); replace KR := Hid.mk' (KR.out.tr hk); replace T := Hid.mk' (rowK T.out hk); replace t0 := T.out.cell (i := 0) (by omega); replace t1 := T.out.cell (i := 1) (by omega); replace t2 := T.out.cell (i := 2) (by omega); replace y0 := T.out.frozen 0; replace y1 := T.out.frozen 1; replace y2 := T.out.frozen 2; simp [f3] at t0 t1 t2; clear hk; have M3 := Hid.mk' True.intro; clear M2)
          | (have hgo := M1; clear hgo; go_at_call 57; refine (HR1.out _ K.out (Kept.refl _ _)).mono ?_; rintro e w3 ⟨rfl, hk⟩; replace K := Hid.mk' (K.out.tr hk); have KR := Hid.mk' hk; replace T := Hid.mk' (rowK T.out hk); replace t0 := T.out.cell (i := 0) (by omega); replace t1 := T.out.cell (i := 1) (by omega); replace t2 := T.out.cell (i := 2) (by omega); replace y0 := T.out.frozen 0; replace y1 := T.out.frozen 1; replace y2 := T.out.frozen 2; simp [f3] at t0 t1 t2; clear hk; have M2 := Hid.mk' True.intro; clear M1))
        have hrw := row3_set T.out (.int .i64 0) (.int .u8 0) (.slice none 0 0)
        have q0 := hrw.cell (i := 0) (by omega)
        have q1 := hrw.cell (i := 1) (by omega)
        have q2 := hrw.cell (i := 2) (by omega)
        simp [f3] at q0 q1 q2
        refine bodyPost_ret (v := .tuple #[.agg #[.int .i64 0, .int .u8 0, .slice none 0 0], .bool false]) (by simp [results, Try.results35, go_sem, q0, q1, q2]) rfl ⟨none, 0, 0, by rw [HK1.out, HK2.out]; rfl, by rw [HK1.out]; exact PlF.nil _ _, ?_⟩
        exact (((hkA.tr K.out).setNew (p := ⟨w.heap.size, 0, none⟩) (Nat.le_refl _) _).setNew (p := ⟨w.heap.size, 1, none⟩) (Nat.le_refl _) _).setNew (p := ⟨w.heap.size, 2, none⟩) (Nat.le_refl _) _
      have hkI := okR_k hok2
      have hnI := rdN_lt I
      rw [hI] at hkI
      have HRI0 := Hid.mk' (rd_some hok2).2.2
      obtain ⟨n1, hn1e⟩ : ∃ n1, rdN I = n1 := ⟨_, rfl⟩
      obtain ⟨k1, hk1e⟩ : ∃ k1, rdK I = k1 := ⟨_, rfl⟩
      rw [hn1e] at hnI hmo HPASS HALL
      rw [hk1e] at hkI HPASS HALL
      have HR2 : Hid (∀ w', Kept wr w' none → Calls Try.prog 57 #[.slice (some ⟨b, off + k0, none⟩) n0 (c' - k0)] w' fun e w2 => e = .returned (.tuple #[.int .u64 (n1 : Int), .int .i64 (k1 : Int), .int .i64 0]) ∧ Kept w' w2 none) := Hid.mk' (fun w' hk => by
        refine (rread_any (HBI.out.kept hk)).mono ?_
        rintro e w2 ⟨rfl, mm, rfl⟩
        rw [hn1e, hk1e, HRI0.out]
        exact ⟨rfl, kept_drwN _ _⟩)
      have HCI0 := HBI.out.subN (i := k1) (k := n0 - k1) (by omega)
      have htk : (I.drop k1).take (n0 - k1) = I.drop k1 := List.take_of_length_le (by rw [List.length_drop, hI]; omega)
      rw [htk] at HCI0
      have HC2 : Hid (Come wr (if c' - k0 = k1 then some ⟨b, off + k0, none⟩ else some ⟨b, off + k0 + k1, none⟩) (n0 - k1) (c' - k0 - k1) (I.drop k1)) := Hid.mk' (by
        by_cases hcc : c' - k0 = k1
        · rw [if_pos hcc]
          refine ⟨⟨HCI0.size, HCI0.max, HCI0.lt, fun hp => absurd hp (by omega)⟩, fun e => (nomatch e), by omega, by omega⟩
        · rw [if_neg hcc]
          exact ⟨HCI0, fun e => (nomatch e), by omega, by omega⟩)
      clear hn1e hk1e htk HCI0 HRI0
      by_cases h3 : n1 ≤ 3
      rotate_left
      · have HK2 : Hid (kepB B = false) := Hid.mk' (by
          cases hq : kepB B with
          | false => rfl
          | true =>
            exfalso
            have hp := HPASS.out hq
            omega)
        have HK1 : Hid (kepK B = k00) := Hid.mk' (kep_no HK2.out)
        have h3' : 3 < (n1 : Int) := by omega
        clear hmo hok2
        go_wp2_with (first
          | (have hgo := M2; clear hgo; go_at_call 57; refine (HR2.out _ KR.out).mono ?_; rintro e w4 ⟨rfl, hk⟩; replace K := Hid.mk' (K.out.tr hk); replace KR := Hid.mk' (KR.out.tr hk); replace T := Hid.mk' (rowK T.out hk); replace t0 := T.out.cell (i := 0) (by omega); replace t1 := T.out.cell (i := 1) (by omega); replace t2 := T.out.cell (i := 2) (by omega); replace y0 := T.out.frozen 0; replace y1 := T.out.frozen 1; replace y2 := T.out.frozen 2; simp [f3] at t0 t1 t2; clear hk; have M3 := Hid.mk' True.intro; clear M2)
          | (have hgo := M1; clear hgo; go_at_call 57; refine (HR1.out _ K.out (Kept.refl _ _)).mono ?_; rintro e w3 ⟨rfl, hk⟩; replace K := Hid.mk' (K.out.tr hk); have KR := Hid.mk' hk; replace T := Hid.mk' (rowK T.out hk); replace t0 := T.out.cell (i := 0) (by omega); replace t1 := T.out.cell (i := 1) (by omega); replace t2 := T.out.cell (i := 2) (by omega); replace y0 := T.out.frozen 0; replace y1 := T.out.frozen 1; replace y2 := T.out.frozen 2; simp [f3] at t0 t1 t2; clear hk; have M2 := Hid.mk' True.intro; clear M1))
        have hrw := row3_set T.out (.int .i64 0) (.int .u8 0) (.slice none 0 0)
        have q0 := hrw.cell (i := 0) (by omega)
        have q1 := hrw.cell (i := 1) (by omega)
        have q2 := hrw.cell (i := 2) (by omega)
        simp [f3] at q0 q1 q2
        refine bodyPost_ret (v := .tuple #[.agg #[.int .i64 0, .int .u8 0, .slice none 0 0], .bool false]) (by simp [results, Try.results35, go_sem, q0, q1, q2]) rfl ⟨none, 0, 0, by rw [HK1.out, HK2.out]; rfl, by rw [HK1.out]; exact PlF.nil _ _, ?_⟩
        exact (((hkA.tr K.out).setNew (p := ⟨w.heap.size, 0, none⟩) (Nat.le_refl _) _).setNew (p := ⟨w.heap.size, 1, none⟩) (Nat.le_refl _) _).setNew (p := ⟨w.heap.size, 2, none⟩) (Nat.le_refl _) _
      have h3' : ¬ 3 < (n1 : Int) := by omega
      have HMO : Hid (modOk I = true) := Hid.mk' (by rw [hmo, hok2, decide_eq_true h3]; rfl)
      clear hmo hok2
      obtain ⟨L2, hL2⟩ : ∃ L2, I.drop k1 = L2 := ⟨_, rfl⟩
      rw [hL2] at HC2 HALL HPASS
      clear hL2
      cases hpb : partsB L2 with
      | false =>
        have HK2 : Hid (kepB B = false) := Hid.mk' (by
          cases hq : kepB B with
          | false => rfl
          | true =>
            exfalso
            have hp := HPASS.out hq
            rw [hp.2.2.2.2] at hpb; cases hpb)
        have HK1 : Hid (kepK B = k00) := Hid.mk' (kep_no HK2.out)
        have HPT : Hid (∀ w', Kept wr w' none → Calls Try.prog 58 #[.slice (if c' - k0 = k1 then some ⟨b, off + k0, none⟩ else some ⟨b, off + k0 + k1, none⟩) (n0 - k1) (c' - k0 - k1)] w' fun e w2 => e = .returned (.tuple #[.slice none 0 0, .int .i64 8]) ∧ Kept w' w2 none) := Hid.mk' (fun w' hk => by
          refine (dpartsF_any (HC2.out.kpt hk)).mono ?_
          rintro e w2 ⟨hk2, ⟨q, _⟩ | ⟨_, rfl⟩⟩
          · rw [hpb] at q; cases q
          · exact ⟨rfl, hk2⟩)
        clear hpb
        go_wp2_with (first
          | (have hgo := M3; clear hgo; go_at_call 58; refine (HPT.out _ KR.out).mono ?_; rintro e w5 ⟨rfl, hk⟩; replace K := Hid.mk' (K.out.tr hk); replace T := Hid.mk' (rowK T.out hk); replace t0 := T.out.cell (i := 0) (by omega); replace t1 := T.out.cell (i := 1) (by omega); replace t2 := T.out.cell (i := 2) (by omega); replace y0 := T.out.frozen 0; replace y1 := T.out.frozen 1; replace y2 := T.out.frozen 2; simp [f3] at t0 t1 t2; clear hk; have M4 := Hid.mk' True.intro; clear M3)
          | (have hgo := M2; clear hgo; go_at_call 57; refine (HR2.out _ KR.out).mono ?_; rintro e w4 ⟨rfl, hk⟩; replace K := Hid.mk' (K.out.tr hk); replace KR := Hid.mk' (KR.out.tr hk); replace T := Hid.mk' (rowK T.out hk); replace t0 := T.out.cell (i := 0) (by omega); replace t1 := T.out.cell (i := 1) (by omega); replace t2 := T.out.cell (i := 2) (by omega); replace y0 := T.out.frozen 0; replace y1 := T.out.frozen 1; replace y2 := T.out.frozen 2; simp [f3] at t0 t1 t2; clear hk; have M3 := Hid.mk' True.intro; clear M2)
          | (have hgo := M1; clear hgo; go_at_call 57; refine (HR1.out _ K.out (Kept.refl _ _)).mono ?_; rintro e w3 ⟨rfl, hk⟩; replace K := Hid.mk' (K.out.tr hk); have KR := Hid.mk' hk; replace T := Hid.mk' (rowK T.out hk); replace t0 := T.out.cell (i := 0) (by omega); replace t1 := T.out.cell (i := 1) (by omega); replace t2 := T.out.cell (i := 2) (by omega); replace y0 := T.out.frozen 0; replace y1 := T.out.frozen 1; replace y2 := T.out.frozen 2; simp [f3] at t0 t1 t2; clear hk; have M2 := Hid.mk' True.intro; clear M1))
        all_goals (
          have hrw := row3_set T.out (.int .i64 0) (.int .u8 0) (.slice none 0 0)
          have q0 := hrw.cell (i := 0) (by omega)
          have q1 := hrw.cell (i := 1) (by omega)
          have q2 := hrw.cell (i := 2) (by omega)
          simp [f3] at q0 q1 q2
          refine bodyPost_ret (v := .tuple #[.agg #[.int .i64 0, .int .u8 0, .slice none 0 0], .bool false]) (by simp [results, Try.results35, go_sem, q0, q1, q2]) rfl ⟨none, 0, 0, by rw [HK1.out, HK2.out]; rfl, by rw [HK1.out]; exact PlF.nil _ _, ?_⟩
          exact (((hkA.tr K.out).setNew (p := ⟨w.heap.size, 0, none⟩) (Nat.le_refl _) _).setNew (p := ⟨w.heap.size, 1, none⟩) (Nat.le_refl _) _).setNew (p := ⟨w.heap.size, 2, none⟩) (Nat.le_refl _) _)
      | true =>
        have hcc : ¬ c' - k0 = k1 := fun q => by
          have h0 := HC2.out.by_.size
          have : L2 = [] := List.length_eq_zero_iff.1 (by omega)
          rw [this] at hpb
          have : partsB [] = false := by decide
          rw [this] at hpb
          cases hpb
        rw [if_neg hcc] at HC2
        have HT0 : Hid (tolM B = ⟨fstN B, n1, (plansM (L2, false)).1⟩) := Hid.mk' (HALL.out (by have := HXG.out; unfold gtop; omega) HLO.out HMO.out hpb)
        obtain ⟨l, hl⟩ : ∃ l, (plansM (L2, false)).1 = l := ⟨_, rfl⟩
        have hq8 : l.length ≤ 8 := by rw [← hl]; exact (plansM_r (L2, false)).1
        rw [hl] at HT0
        obtain ⟨q, hq⟩ : ∃ q, l.length = q := ⟨_, rfl⟩
        have HPT : Hid (∀ w', Kept wr w' none → Calls Try.prog 58 #[.slice (some ⟨b, off + k0 + k1, none⟩) (n0 - k1) (c' - k0 - k1)] w' fun e w2 => ∃ pa pc, e = .returned (.tuple #[.slice pa q pc, .int .i64 0]) ∧ PlF w2 w'.heap.size pa q pc l ∧ Kept w' w2 none) := Hid.mk' (fun w' hk => by
          refine (dpartsF_any (HC2.out.kpt hk)).mono ?_
          rintro e w2 ⟨hk2, ⟨_, pa, pc, rfl, hP⟩ | ⟨q, _⟩⟩
          · rw [hl, hq] at hP ⊢
            exact ⟨pa, pc, rfl, hP, hk2⟩
          · rw [hpb] at q; cases q)
        have HKS := HKSTO.out
        rw [HT0.out, HS.out] at HKS
        dsimp only at HKS
        rw [HXG.out] at HKS
        obtain ⟨E, hE⟩ : ∃ E, stoE x n1 l (k : Int) = E := ⟨_, rfl⟩
        obtain ⟨A, hA⟩ : ∃ A, stoL x n1 l (k : Int) = A := ⟨_, rfl⟩
        have HSTO : Hid (∀ w' e w2, StoP w' x n1 l (k : Int) e w2 → ∃ a cap, e = .returned (.tuple #[.slice a A.length cap, .int .i64 E]) ∧ Bl w2 w'.heap.size a A.length A ∧ Kept w' w2 none) := Hid.mk' (fun w' e w2 h => by unfold StoP at h; rw [hE, hA] at h; exact h)
        rw [hE, hA] at HKS
        have HAE : Hid (E = 0 → A.length = k) := Hid.mk' (fun h => by rw [← hA]; unfold stoL; rw [if_pos (hE.trans h)]; simp [blsK])
        have HKS2 := Hid.mk' HKS
        have hn3 : (n1 : Int) ≤ 3 := by omega
        clear hpb hl hE hA HKS HALL HPASS hq
        by_cases hE0 : E = 0
        rotate_left
        · have HK2 : Hid (kepB B = false) := Hid.mk' (by rw [HKS2.out, decide_eq_false hE0]; rfl)
          have HK1 : Hid (kepK B = k00) := Hid.mk' (kep_no HK2.out)
          go_wp2_with (first
            | (have hgo := M4; clear hgo; go_at_call 30; refine ((rblocks19_any (P5.out.kept KA5.out).plans)).mono ?_; rintro e w6 h6; obtain ⟨a6, c6, rfl, hb6, hk⟩ := HSTO.out _ _ _ h6; have B6 := Hid.mk' hb6; have K56 := Hid.mk' (KA5.out.tr hk); replace K := Hid.mk' (K.out.tr K56.out); replace T := Hid.mk' (rowK T.out K56.out); replace t0 := T.out.cell (i := 0) (by omega); replace t1 := T.out.cell (i := 1) (by omega); replace t2 := T.out.cell (i := 2) (by omega); replace y0 := T.out.frozen 0; replace y1 := T.out.frozen 1; replace y2 := T.out.frozen 2; simp [f3] at t0 t1 t2; have Q6 := Hid.mk' (rowK Q5.out hk); have u0 := Q6.out.cell (i := 0) (by omega); have u1 := Q6.out.cell (i := 1) (by omega); have u2 := Q6.out.cell (i := 2) (by omega); simp [f3] at u0 u1 u2; clear hk hb6 h6; have M5 := Hid.mk' True.intro; clear M4)
            | (have hgo := M3; clear hgo; go_at_call 58; refine (HPT.out _ KR.out).mono ?_; rintro e w5 ⟨pa, pc, rfl, hp5, hk⟩; have hz5 := K.out.size; rw [World.size_alloc] at hz5; have P5 := Hid.mk' (hp5.mono (by omega : w.heap.size + 1 ≤ _)); replace K := Hid.mk' (K.out.tr hk); replace T := Hid.mk' (rowK T.out hk); replace t0 := T.out.cell (i := 0) (by omega); replace t1 := T.out.cell (i := 1) (by omega); replace t2 := T.out.cell (i := 2) (by omega); replace y0 := T.out.frozen 0; replace y1 := T.out.frozen 1; replace y2 := T.out.frozen 2; simp [f3] at t0 t1 t2; have Q5 := Hid.mk' (row3 w5 (.int .i64 x) (.int .u8 (n1 : Int)) (.slice pa q pc) 35); have s0 := Q5.out.cell (i := 0) (by omega); have s1 := Q5.out.cell (i := 1) (by omega); have s2 := Q5.out.cell (i := 2) (by omega); simp [f3] at s0 s1 s2; have KA5 : Hid (Kept w5 (w5.alloc (.cells #[.int .i64 x, .int .u8 (n1 : Int), .slice pa q pc] 35)) none) := Hid.mk' (Kept.alloc _ _ _ _ _); clear hp5 hk hz5; have M4 := Hid.mk' True.intro; clear M3)
            | (have hgo := M2; clear hgo; go_at_call 57; refine (HR2.out _ KR.out).mono ?_; rintro e w4 ⟨rfl, hk⟩; replace K := Hid.mk' (K.out.tr hk); replace KR := Hid.mk' (KR.out.tr hk); replace T := Hid.mk' (rowK T.out hk); replace t0 := T.out.cell (i := 0) (by omega); replace t1 := T.out.cell (i := 1) (by omega); replace t2 := T.out.cell (i := 2) (by omega); replace y0 := T.out.frozen 0; replace y1 := T.out.frozen 1; replace y2 := T.out.frozen 2; simp [f3] at t0 t1 t2; clear hk; have M3 := Hid.mk' True.intro; clear M2)
            | (have hgo := M1; clear hgo; go_at_call 57; refine (HR1.out _ K.out (Kept.refl _ _)).mono ?_; rintro e w3 ⟨rfl, hk⟩; replace K := Hid.mk' (K.out.tr hk); have KR := Hid.mk' hk; replace T := Hid.mk' (rowK T.out hk); replace t0 := T.out.cell (i := 0) (by omega); replace t1 := T.out.cell (i := 1) (by omega); replace t2 := T.out.cell (i := 2) (by omega); replace y0 := T.out.frozen 0; replace y1 := T.out.frozen 1; replace y2 := T.out.frozen 2; simp [f3] at t0 t1 t2; clear hk; have M2 := Hid.mk' True.intro; clear M1))
          have hrw := row3_set T.out (.int .i64 0) (.int .u8 0) (.slice none 0 0)
          have q0 := hrw.cell (i := 0) (by omega)
          have q1 := hrw.cell (i := 1) (by omega)
          have q2 := hrw.cell (i := 2) (by omega)
          simp [f3] at q0 q1 q2
          refine bodyPost_ret (v := .tuple #[.agg #[.int .i64 0, .int .u8 0, .slice none 0 0], .bool false]) (by simp [results, Try.results35, go_sem, q0, q1, q2]) rfl ⟨none, 0, 0, by rw [HK1.out, HK2.out]; rfl, by rw [HK1.out]; exact PlF.nil _ _, ?_⟩
          exact (((hkA.tr K.out).setNew (p := ⟨w.heap.size, 0, none⟩) (Nat.le_refl _) _).setNew (p := ⟨w.heap.size, 1, none⟩) (Nat.le_refl _) _).setNew (p := ⟨w.heap.size, 2, none⟩) (Nat.le_refl _) _
        · subst hE0
          have hAl := HAE.out rfl
          rw [hAl] at HSTO
          go_wp2_with (first
            | (have hgo := M4; clear hgo; go_at_call 30; refine ((rblocks19_any (P5.out.kept KA5.out).plans)).mono ?_; rintro e w6 h6; obtain ⟨a6, c6, rfl, hb6, hk⟩ := HSTO.out _ _ _ h6; have B6 := Hid.mk' hb6; have BW := Hid.mk' (HB.out.kept (hkA.tr (K.out.tr (KA5.out.tr hk)))); have K56 := Hid.mk' (KA5.out.tr hk); replace K := Hid.mk' (K.out.tr K56.out); replace T := Hid.mk' (rowK T.out K56.out); replace t0 := T.out.cell (i := 0) (by omega); replace t1 := T.out.cell (i := 1) (by omega); replace t2 := T.out.cell (i := 2) (by omega); replace y0 := T.out.frozen 0; replace y1 := T.out.frozen 1; replace y2 := T.out.frozen 2; simp [f3] at t0 t1 t2; have Q6 := Hid.mk' (rowK Q5.out hk); have u0 := Q6.out.cell (i := 0) (by omega); have u1 := Q6.out.cell (i := 1) (by omega); have u2 := Q6.out.cell (i := 2) (by omega); simp [f3] at u0 u1 u2; clear hk hb6 h6; have M5 := Hid.mk' True.intro; clear M4)
            | (have hgo := M3; clear hgo; go_at_call 58; refine (HPT.out _ KR.out).mono ?_; rintro e w5 ⟨pa, pc, rfl, hp5, hk⟩; have hz5 := K.out.size; rw [World.size_alloc] at hz5; have P5 := Hid.mk' (hp5.mono (by omega : w.heap.size + 1 ≤ _)); replace K := Hid.mk' (K.out.tr hk); replace T := Hid.mk' (rowK T.out hk); replace t0 := T.out.cell (i := 0) (by omega); replace t1 := T.out.cell (i := 1) (by omega); replace t2 := T.out.cell (i := 2) (by omega); replace y0 := T.out.frozen 0; replace y1 := T.out.frozen 1; replace y2 := T.out.frozen 2; simp [f3] at t0 t1 t2; have Q5 := Hid.mk' (row3 w5 (.int .i64 x) (.int .u8 (n1 : Int)) (.slice pa q pc) 35); have s0 := Q5.out.cell (i := 0) (by omega); have s1 := Q5.out.cell (i := 1) (by omega); have s2 := Q5.out.cell (i := 2) (by omega); simp [f3] at s0 s1 s2; have KA5 : Hid (Kept w5 (w5.alloc (.cells #[.int .i64 x, .int .u8 (n1 : Int), .slice pa q pc] 35)) none) := Hid.mk' (Kept.alloc _ _ _ _ _); clear hp5 hk hz5; have M4 := Hid.mk' True.intro; clear M3)
            | (have hgo := M2; clear hgo; go_at_call 57; refine (HR2.out _ KR.out).mono ?_; rintro e w4 ⟨rfl, hk⟩; replace K := Hid.mk' (K.out.tr hk); replace KR := Hid.mk' (KR.out.tr hk); replace T := Hid.mk' (rowK T.out hk); replace t0 := T.out.cell (i := 0) (by omega); replace t1 := T.out.cell (i := 1) (by omega); replace t2 := T.out.cell (i := 2) (by omega); replace y0 := T.out.frozen 0; replace y1 := T.out.frozen 1; replace y2 := T.out.frozen 2; simp [f3] at t0 t1 t2; clear hk; have M3 := Hid.mk' True.intro; clear M2)
            | (have hgo := M1; clear hgo; go_at_call 57; refine (HR1.out _ K.out (Kept.refl _ _)).mono ?_; rintro e w3 ⟨rfl, hk⟩; replace K := Hid.mk' (K.out.tr hk); have KR := Hid.mk' hk; replace T := Hid.mk' (rowK T.out hk); replace t0 := T.out.cell (i := 0) (by omega); replace t1 := T.out.cell (i := 1) (by omega); replace t2 := T.out.cell (i := 2) (by omega); replace y0 := T.out.frozen 0; replace y1 := T.out.frozen 1; replace y2 := T.out.frozen 2; simp [f3] at t0 t1 t2; clear hk; have M2 := Hid.mk' True.intro; clear M1))
          have hw6 := K56.out.size
          go_loopw [16] (fun iv wr => ∃ j : Nat, j ≤ k ∧ iv = .int .i64 j ∧ A.take j = B.take j ∧ Kept w6 wr none) (fun iv _ => k - (intOf iv).toNat)
          case atStart => exact ⟨0, Nat.zero_le _, rfl, rfl, Kept.refl _ _⟩
          case round =>
            obtain ⟨j, hj, rfl, hjt, hkw⟩ := hrel
            have HJT := Hid.mk' hjt
            clear hjt
            by_cases hlt2 : j < k
            · obtain ⟨b7, o7, a7, c7, e7, _, p7, C7⟩ := B6.out.get hlt2
              subst e7
              obtain ⟨b8, o8, a8, c8, e8, _, p8, C8⟩ := BW.out.get hlt2
              injection e8 with e8
              injection e8 with e8 e9
              subst e8 e9
              have hsn := take_eq_snoc (A := A) (B := B) (k := j) (by omega) (by rw [HS.out]; exact hlt2)
              have HSN := Hid.mk' hsn
              have HTX := Hid.mk' (textOf_eq C7.by_.lt C8.by_.lt)
              clear hsn
              generalize A.getD j [] = X at *
              generalize B.getD j [] = Y at *
              have g0 : ∀ w', Kept w6 w' none → w'.cell? ⟨b7, o7 + j, none⟩ = some (.slice a7 X.length c7) := fun w' q => cell_kept0 p7 q
              have g1 : ∀ w', Kept w6 w' none → w'.cell? ⟨b3, o3 + j, none⟩ = some (.slice a8 Y.length c8) := fun w' q => cell_kept0 p8 q
              have tx1 : ∀ w', Kept w6 w' none → (convert 22 9 (.slice a7 X.length c7)).run Try.prog w' = .ok (.string (textOf X)) w' := fun w' hk => run_text (C7.kpt hk).by_ c7
              have tx2 : ∀ w', Kept w6 w' none → (convert 22 9 (.slice a8 Y.length c8)).run Try.prog w' = .ok (.string (textOf Y)) w' := fun w' hk => run_text (C8.kpt hk).by_ c8
              clear p7 p8 C7 C8
              obtain ⟨TX, hTX⟩ : ∃ T, textOf X = T := ⟨_, rfl⟩
              obtain ⟨TY, hTY⟩ : ∃ T, textOf Y = T := ⟨_, rfl⟩
              rw [hTX, hTY] at HTX
              simp only [hTX] at tx1
              simp only [hTY] at tx2
              clear hTX hTY
              go_wp2
              refine Code.wp_mono (Q := Rg ?A26 w6) ?cont26 ?reg26
              case reg26 =>
                refine wp_region_held_drew (S := fun w' => Kept w6 w' none) (by kernel_rfl) (Kept.tr hkw (Kept.drew _ _)) (fun hHeld => ?_)
                repeat (rename_i hh; clear hh)
                refine held_take (i := 0) (v := ?rv1) rfl rfl (by kernel_rfl) (by kernel_rfl) (by kernel_rfl) (fun _ _ _ h => h) (Or.inl ⟨by rfl, ?rhy1⟩) hHeld ?rrest1
                case rhy1 => first | (intro w hSw; (try dsimp only at hSw); go_simp; done) | (intro w hSw; (try dsimp only at hSw); go_simp; with_reducible rfl)
                try simp only [List.setIfInBounds_toArray, List.set_cons_zero, List.set_cons_succ]
                refine held_take (i := 1) (v := ?rv2) rfl rfl (by kernel_rfl) (by kernel_rfl) (by kernel_rfl) (fun _ _ _ h => h) (Or.inl ⟨by rfl, ?rhy2⟩) hHeld ?rrest2
                case rhy2 => first | (intro w hSw; (try dsimp only at hSw); go_simp; done) | (intro w hSw; (try dsimp only at hSw); go_simp; with_reducible rfl)
                try simp only [List.setIfInBounds_toArray, List.set_cons_zero, List.set_cons_succ]
                refine held_take (i := 2) (v := ?rv3) rfl rfl (by kernel_rfl) (by kernel_rfl) (by kernel_rfl) (fun _ _ _ h => h) (Or.inl ⟨by rfl, ?rhy3⟩) hHeld ?rrest3
                case rhy3 => first | (intro w hSw; (try dsimp only at hSw); go_simp; done) | (intro w hSw; (try dsimp only at hSw); go_simp; with_reducible rfl)
                try simp only [List.setIfInBounds_toArray, List.set_cons_zero, List.set_cons_succ]
                refine held_take (i := 3) (v := ?rv4) rfl rfl (by kernel_rfl) (by kernel_rfl) (by kernel_rfl) (fun _ _ _ h => h) (Or.inl ⟨by rfl, ?rhy4⟩) hHeld ?rrest4
                case rhy4 => first | (intro w hSw; (try dsimp only at hSw); go_simp; done) | (intro w hSw; (try dsimp only at hSw); go_simp; with_reducible rfl)
                try simp only [List.setIfInBounds_toArray, List.set_cons_zero, List.set_cons_succ]
                refine held_take (i := 4) (v := ?rv5) rfl rfl (by kernel_rfl) (by kernel_rfl) (by kernel_rfl) (fun _ _ _ h => h) (Or.inl ⟨by rfl, ?rhy5⟩) hHeld ?rrest5
                case rhy5 => first | (intro w hSw; (try dsimp only at hSw); go_simp; done) | (intro w hSw; (try dsimp only at hSw); go_simp; with_reducible rfl)
                try simp only [List.setIfInBounds_toArray, List.set_cons_zero, List.set_cons_succ]
                refine held_take (i := 5) (v := ?rv6) rfl rfl (by kernel_rfl) (by kernel_rfl) (by kernel_rfl) (fun _ _ _ h => h) (Or.inl ⟨by rfl, ?rhy6⟩) hHeld ?rrest6
                case rhy6 => first | (intro w hSw; (try dsimp only at hSw); go_simp; done) | (intro w hSw; (try dsimp only at hSw); go_simp; with_reducible rfl)
                try simp only [List.setIfInBounds_toArray, List.set_cons_zero, List.set_cons_succ]
                refine held_take (i := 6) (v := ?rv7) rfl rfl (by kernel_rfl) (by kernel_rfl) (by kernel_rfl) (fun _ _ _ h => h) (Or.inl ⟨by rfl, ?rhy7⟩) hHeld ?rrest7
                case rhy7 => first | (intro w hSw; (try dsimp only at hSw); go_simp; done) | (intro w hSw; (try dsimp only at hSw); go_simp; with_reducible rfl)
                try simp only [List.setIfInBounds_toArray, List.set_cons_zero, List.set_cons_succ]
                refine held_take (i := 7) (v := ?rv8) rfl rfl (by kernel_rfl) (by kernel_rfl) (by kernel_rfl) (fun _ _ _ h => h) (Or.inl ⟨by rfl, ?rhy8⟩) hHeld ?rrest8
                case rhy8 => first | (intro w hSw; (try dsimp only at hSw); go_simp; done) | (intro w hSw; (try dsimp only at hSw); go_simp; with_reducible rfl)
                try simp only [List.setIfInBounds_toArray, List.set_cons_zero, List.set_cons_succ]
                refine held_take (i := 8) (v := ?rv9) rfl rfl (by kernel_rfl) (by kernel_rfl) (by kernel_rfl) (fun _ _ _ h => h) (Or.inl ⟨by rfl, ?rhy9⟩) hHeld ?rrest9
                case rhy9 => first | (intro w hSw; (try dsimp only at hSw); go_simp; done) | (intro w hSw; (try dsimp only at hSw); go_simp; with_reducible rfl)
                try simp only [List.setIfInBounds_toArray, List.set_cons_zero, List.set_cons_succ]
                refine held_take (i := 9) (v := ?rv10) rfl rfl (by kernel_rfl) (by kernel_rfl) (by kernel_rfl) (fun _ _ _ h => h) (Or.inl ⟨by rfl, ?rhy10⟩) hHeld ?rrest10
                case rhy10 => first | (intro w hSw; (try dsimp only at hSw); go_simp; done) | (intro w hSw; (try dsimp only at hSw); go_simp; with_reducible rfl)
                try simp only [List.setIfInBounds_toArray, List.set_cons_zero, List.set_cons_succ]
                refine held_take (i := 10) (v := ?rv11) rfl rfl (by kernel_rfl) (by kernel_rfl) (by kernel_rfl) (fun _ _ _ h => h) (Or.inl ⟨by rfl, ?rhy11⟩) hHeld ?rrest11
                case rhy11 => first | (intro w hSw; (try dsimp only at hSw); go_simp; done) | (intro w hSw; (try dsimp only at hSw); go_simp; with_reducible rfl)
                try simp only [List.setIfInBounds_toArray, List.set_cons_zero, List.set_cons_succ]
                refine wpAnyH_done (by kernel_rfl) ?_ _
                refine And.intro ?_ hHeld
                with_reducible rfl
              case cont26 =>
              intro e26 act26 w26 hq26
              obtain ⟨rfl, rfl, hkq⟩ := hq26.out
              by_cases hXY : X = Y
              · have ht := HTX.out
                rw [decide_eq_true hXY] at ht
                have hbb : (!(TX.toList == TY.toList)) = false := by rw [ht]; rfl
                rw [hbb]
                clear ht
                have HST : Hid (A.take (j + 1) = B.take (j + 1)) := Hid.mk' (by rw [HSN.out]; exact ⟨HJT.out, hXY⟩)
                clear hXY
                go_wp2
                go_roundw
                case rel => exact ⟨j + 1, by omega, by go_num, HST.out, hkq⟩
                case measure => simp [intOf]; omega
              · have ht := HTX.out
                rw [decide_eq_false hXY] at ht
                have hbb : (!(TX.toList == TY.toList)) = true := by rw [ht]; rfl
                rw [hbb]
                clear ht
                have HK2 : Hid (kepB B = false) := Hid.mk' (by
                  rw [HKS2.out]
                  have : ¬ A = B := fun q => hXY (by
                    have h := HSN.out
                    rw [q] at h
                    have := h.mp rfl
                    exact this.2)
                  rw [decide_eq_false this]
                  simp)
                have HK1 : Hid (kepK B = k00) := Hid.mk' (kep_no HK2.out)
                clear hXY
                have KJ := Hid.mk' (K.out.tr hkq)
                replace T := Hid.mk' (rowK T.out hkq)
                replace t0 := T.out.cell (i := 0) (by omega)
                replace t1 := T.out.cell (i := 1) (by omega)
                replace t2 := T.out.cell (i := 2) (by omega)
                replace y0 := T.out.frozen 0
                replace y1 := T.out.frozen 1
                replace y2 := T.out.frozen 2
                simp [f3] at t0 t1 t2
                go_wp2
                have hrw := row3_set T.out (.int .i64 0) (.int .u8 0) (.slice none 0 0)
                have q0 := hrw.cell (i := 0) (by omega)
                have q1 := hrw.cell (i := 1) (by omega)
                have q2 := hrw.cell (i := 2) (by omega)
                simp [f3] at q0 q1 q2
                refine bodyPost_ret (v := .tuple #[.agg #[.int .i64 0, .int .u8 0, .slice none 0 0], .bool false]) (by simp [results, Try.results35, go_sem, q0, q1, q2]) rfl ⟨none, 0, 0, by rw [HK1.out, HK2.out]; rfl, by rw [HK1.out]; exact PlF.nil _ _, ?_⟩
                exact (((hkA.tr KJ.out).setNew (p := ⟨w.heap.size, 0, none⟩) (Nat.le_refl _) _).setNew (p := ⟨w.heap.size, 1, none⟩) (Nat.le_refl _) _).setNew (p := ⟨w.heap.size, 2, none⟩) (Nat.le_refl _) _
            · obtain rfl : j = k := by omega
              have hAB : A = B := by
                have h := HJT.out
                rw [List.take_of_length_le (by omega), List.take_of_length_le (by rw [HS.out]; exact Nat.le_refl _)] at h
                exact h
              have HK2 : Hid (kepB B = true) := Hid.mk' (by rw [HKS2.out, decide_eq_true hAB]; rfl)
              have HK1 : Hid (kepK B = ⟨fstN B, n1, l⟩) := Hid.mk' (by unfold kepK; rw [if_pos HK2.out]; exact HT0.out)
              clear hAB
              have KJ := Hid.mk' (K.out.tr hkw)
              have PJ := Hid.mk' ((P5.out.kept K56.out).kept hkw)
              replace T := Hid.mk' (rowK T.out hkw)
              replace t0 := T.out.cell (i := 0) (by omega)
              replace t1 := T.out.cell (i := 1) (by omega)
              replace t2 := T.out.cell (i := 2) (by omega)
              replace y0 := T.out.frozen 0
              replace y1 := T.out.frozen 1
              replace y2 := T.out.frozen 2
              simp [f3] at t0 t1 t2
              have QJ := Hid.mk' (rowK Q6.out hkw)
              have z0 := QJ.out.cell (i := 0) (by omega)
              have z1 := QJ.out.cell (i := 1) (by omega)
              have z2 := QJ.out.cell (i := 2) (by omega)
              simp [f3] at z0 z1 z2
              go_wp2
              have hrw := row3_set T.out (.int .i64 x) (.int .u8 (n1 : Int)) (.slice pa q pc)
              have q0 := hrw.cell (i := 0) (by omega)
              have q1 := hrw.cell (i := 1) (by omega)
              have q2 := hrw.cell (i := 2) (by omega)
              simp [f3] at q0 q1 q2
              refine bodyPost_ret (v := .tuple #[.agg #[.int .i64 x, .int .u8 (n1 : Int), .slice pa q pc], .bool true]) (by simp [results, Try.results35, go_sem, q0, q1, q2]) rfl ⟨pa, q, pc, ?_, ?_, ?_⟩
              · rw [HK1.out, HK2.out]
                dsimp only
                rw [HXG.out]
              · rw [HK1.out]
                exact (((PJ.out.set (by omega) 0 _).set (by omega) 1 _).set (by omega) 2 _).mono (by omega)
              · exact (((hkA.tr KJ.out).setNew (p := ⟨w.heap.size, 0, none⟩) (Nat.le_refl _) _).setNew (p := ⟨w.heap.size, 1, none⟩) (Nat.le_refl _) _).setNew (p := ⟨w.heap.size, 2, none⟩) (Nat.le_refl _) _

end Go.Proofs.Ytlabjamkaebnjaa
