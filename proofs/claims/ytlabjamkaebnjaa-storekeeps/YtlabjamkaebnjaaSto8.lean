/-
  THE CONTRACT of store's toldBy.
-/
import Derived.Test.YtlabjamkaebnjaaSto4J
namespace Go.Proofs.Ytlabjamkaebnjaa
open Go.RowKit Go.Lib Go.Deep
set_option linter.unusedVariables false
set_option linter.unusedSimpArgs false

/-- Something kept, answered. -/
def KepP (w : World) (K : Kp) (e : Ending) (w' : World) : Prop := ∃ pa n c, e = .returned (kpV (K.gen : Int) K.mode pa n c) ∧ PlF w' w.heap.size pa n c K.plans ∧ Kept w w' none
theorem rowK {w w' : World} {b n : Nat} {t : TypeId} {f : Nat → Value} (h : w.rowIs b t n f) (k : Kept w w' none) : w'.rowIs b t n f := h.of_block (k.block b h.lt (by simp))
theorem tld_succ {B : List (List Nat)} {k : Nat} (h : k < B.length) : tldB (B.take (k + 1)) = tldB (B.take k) ++ ((B.getD k []).drop 8).take 48 := by
  unfold tldB
  rw [List.take_succ_eq_append_getElem h, List.flatMap_append]
  simp [h]
theorem tld_len : ∀ {B : List (List Nat)}, (∀ p ∈ B, p.length = 64) → (tldB B).length = 48 * B.length
  | [], _ => rfl
  | b :: B, h => by
    have h1 := tld_len (B := B) (fun p hp => h p (List.mem_cons_of_mem _ hp))
    have h2 := h b (List.mem_cons_self ..)
    have e : tldB (b :: B) = (b.drop 8).take 48 ++ tldB B := by unfold tldB; rw [List.flatMap_cons]
    rw [e, List.length_append, h1, List.length_take, List.length_drop, h2]
    simp only [List.length_cons]
    omega
theorem tld_lt {B : List (List Nat)} (h : ∀ p ∈ B, ∀ x ∈ p, x < 256) : ∀ x ∈ tldB B, x < 256 := by
  intro x hx
  unfold tldB at hx
  obtain ⟨p, hp, hx⟩ := List.mem_flatMap.1 hx
  exact h p hp x (List.mem_of_mem_drop (List.mem_of_mem_take hx))
theorem okR_k {L : List Nat} (h : okR L = true) : rdK L ≤ L.length := by
  have := (okR_iff L).1 h
  rw [(rd_some h).2.1]
  omega
theorem kep_zero {w w1 : World} (hk : Kept w w1 none) : PlF w1 w.heap.size none 0 0 k00.plans := PlF.nil _ _
/-- The gen that blocks tell. -/
theorem gen_min {x : Int} (n : Nat) (hx : (n : Int) = x) : (x < 4611686018427387904 → ((min n gtop : Nat) : Int) = x) ∧ (4611686018427387904 ≤ x → ((min n gtop : Nat) : Int) = 4611686018427387904) := by
  unfold gtop
  constructor
  · intro h; omega
  · intro h; omega
set_option maxRecDepth 100000 in
set_option maxHeartbeats 4000000 in
theorem told_any {la : Option Addr} {m c : Nat} {B : List (List Nat)} {w : World} (hB : Bl w 0 la m B) (h64 : ∀ p ∈ B, p.length = 64) (h1 : 1 ≤ m) (h2 : m ≤ 32) :
    Calls Try.prog 74 #[.slice la m c] w (KepP w (tolM B)) := by
  have HB := Hid.mk' hB
  have HS := Hid.mk' hB.size
  have HLT := Hid.mk' (tld_lt hB.lt)
  have HTK := Hid.mk' (fun k => tld_lt (B := B.take k) (fun p hp => hB.lt p (List.mem_of_mem_take hp)))
  have HTL := Hid.mk' (fun k (hk : k ≤ m) => (by rw [tld_len (fun p hp => h64 p (List.mem_of_mem_take hp)), List.length_take, hB.size]; omega : (tldB (B.take k)).length = 48 * k))
  have H64 := Hid.mk' (fun k (hk : k < m) => (by
    have hk' : k < B.length := by rw [hB.size]; exact hk
    have : B.getD k [] = B[k] := by simp [hk']
    rw [this]
    exact h64 _ (List.getElem_mem hk') : (B.getD k []).length = 64))
  have HSU := Hid.mk' (fun k (hk : k < m) => tld_succ (B := B) (k := k) (by rw [hB.size]; exact hk))
  clear hB h64
  have R0 := Hid.mk' (row3 w (.int .i64 0) (.int .u8 0) (.slice none 0 0) 35)
  go_enter Try.func74, Try.ntmps74
  go_wp2
  go_loopw [3, 14] (fun t i wr => ∃ k : Nat, k ≤ m ∧ i = .int .i64 k ∧ ∃ a c', t = .slice a (48 * k) c' ∧ Mine wr (w.heap.size + 1) a (48 * k) c' (tldB (B.take k)) ∧ Kept (w.alloc (.cells #[.int .i64 0, .int .u8 0, .slice none 0 0] 35)) wr none) (fun _ i _ => m - (intOf i).toNat)
  case atStart => exact ⟨0, Nat.zero_le _, rfl, _, _, rfl, Mine.empty _ _, Kept.refl _ _⟩
  case round =>
    obtain ⟨k, hk, rfl, a', c', rfl, hMi, hkr⟩ := hrel
    have HMI := Hid.mk' hMi
    have HK := Hid.mk' hkr
    clear hMi hkr
    by_cases hlt : k < m
    · obtain ⟨b1, o1, a1, c1, rfl, hb1, p1, hC1⟩ := (HB.out.kept ((Kept.alloc w #[.int .i64 0, .int .u8 0, .slice none 0 0] 35 (0, 0) none).tr HK.out)).get hlt
      have hsu := HSU.out k hlt
      rw [H64.out k hlt] at p1 hC1
      obtain ⟨b2, o2, rfl, hb2, _⟩ := hC1.by_.at_ (by omega)
      have HC := Hid.mk' (hC1.by_.subN (i := 8) (k := 48) (by omega))
      have hr1 := hC1.room
      have hm1 := hC1.max
      have HSU1 := Hid.mk' hsu
      clear hC1 hsu
      generalize ((B.getD k []).drop 8).take 48 = x at *
      generalize hy : tldB (B.take k) = y at *
      clear hy
      have hz := HK.out.size
      rw [World.size_alloc] at hz
      go_wp2_with (at_builtin; refine wpList_join (by rfl) _ _ (by rfl) (w.heap.size + 1) (.slice a' (48 * k) c') (48 * k) y (by rfl) HMI.out.own (some ⟨b2, o2 + 8, none⟩) 48 (c1 - 8) x (by rfl) HC.out (fun e => (nomatch e)) (by omega) hz ?_; intro a3 c3 w3 hm3 hg3)
      go_roundw
      case rel => exact ⟨k + 1, by omega, by go_num, a3, c3, by rw [Nat.mul_add], by rw [HSU1.out, Nat.mul_add]; exact hm3, HK.out.newRow hg3 (fun i h => by rw [World.size_alloc]; exact HMI.out.new i h)⟩
      case measure => simp [intOf]; omega
    · obtain rfl : k = m := by omega
      have e : B.take k = B := List.take_of_length_le (by rw [HS.out]; exact Nat.le_refl _)
      have htl := HTL.out k (Nat.le_refl _)
      rw [e] at HMI htl
      have hcr := HMI.out.room
      have hcm := HMI.out.max
      obtain ⟨b, off, rfl, _, _⟩ := (HMI.out.by HLT.out).at_ (by omega)
      obtain ⟨b3, o3, hla, _, _, _⟩ := HB.out.at_ h1
      subst hla
      have HG0 : Hid (∀ w', Kept w w' none → ∃ a3 c3, w'.cell? ⟨b3, o3, none⟩ = some (.slice a3 64 c3) ∧ Come w' a3 64 c3 (B.getD 0 [])) := Hid.mk' (fun w' hk => by
        obtain ⟨b4, o4, a3, c3, e4, _, p4, hC4⟩ := (HB.out.kept hk).get (i := 0) h1
        injection e4 with e4
        injection e4 with e5 e6
        subst e5 e6
        rw [H64.out 0 h1] at p4 hC4
        exact ⟨a3, c3, by simpa using p4, hC4⟩)
      have HBT := Hid.mk' (HMI.out.by HLT.out)
      have hkA : Kept w (w.alloc (.cells #[.int .i64 0, .int .u8 0, .slice none 0 0] 35)) none := Kept.alloc _ _ _ _ _
      have hT0a : lenOk (tldB B) = false → tolM B = k00 := fun h => by unfold tolM; rw [h]; rfl
      have hT0b : modOk (insT (tldB B)) = false → tolM B = k00 := fun h => by unfold tolM; rw [h]; split <;> rfl
      have hT0c : partsB ((insT (tldB B)).drop (rdK (insT (tldB B)))) = false → tolM B = k00 := fun h => by unfold tolM; rw [h]; split <;> (try split) <;> rfl
      have hT1 : lenOk (tldB B) = true → modOk (insT (tldB B)) = true → partsB ((insT (tldB B)).drop (rdK (insT (tldB B)))) = true → tolM B = ⟨min (fstN B) gtop, rdN (insT (tldB B)), (plansM ((insT (tldB B)).drop (rdK (insT (tldB B))), false)).1⟩ := fun h1 h2 h3 => by unfold tolM; rw [h1, h2, h3, if_pos rfl, if_pos rfl, if_pos rfl]
      have HINS : Hid (insT (tldB B) = ((tldB B).drop (rdK (tldB B))).take (rdN (tldB B))) := Hid.mk' rfl
      have hlo : lenOk (tldB B) = (okR (tldB B) && decide (rdN (tldB B) ≤ (tldB B).length - rdK (tldB B))) := rfl
      clear HTL e
      generalize tldB B = T at *
      by_cases hok : okR T = true
      · have hkT := okR_k hok
        have hnT := rdN_lt T
        have HRE : Hid (rdE T = 0) := Hid.mk' (rd_some hok).2.2
        rw [htl] at hlo hkT
        obtain ⟨n0, hn0⟩ : ∃ n0, rdN T = n0 := ⟨_, rfl⟩
        obtain ⟨k0, hk0⟩ : ∃ k0, rdK T = k0 := ⟨_, rfl⟩
        rw [hn0] at hnT hlo HINS
        rw [hk0] at hkT hlo HINS
        have HRE2 : Hid (rdN T = n0 ∧ rdK T = k0) := Hid.mk' ⟨hn0, hk0⟩
        by_cases hle : n0 ≤ 48 * k - k0
        · have HLO : Hid (lenOk T = true) := Hid.mk' (by rw [hlo, hok, decide_eq_true hle]; rfl)
          have hbi := HBT.out.subN (i := k0) (k := n0) (by omega)
          rw [← HINS.out] at hbi
          have hI := hbi.size
          have hBI : By wr (if c' = k0 then some ⟨b, off, none⟩ else some ⟨b, off + k0, none⟩) n0 (insT T) := by
            by_cases hck : c' = k0
            · rw [if_pos hck]
              exact ⟨hbi.size, hbi.max, hbi.lt, fun hp => absurd hp (by omega)⟩
            · rw [if_neg hck]
              exact hbi
          have HBI := Hid.mk' hBI
          have HNI : Hid ((if c' = k0 then some (⟨b, off, none⟩ : Addr) else some ⟨b, off + k0, none⟩) = none → c' - k0 = 0) := Hid.mk' (fun e => by split at e <;> cases e)
          have hci : n0 ≤ c' - k0 := by omega
          have hcj : c' - k0 ≤ 9223372036854775807 := by omega
          have HT0B := Hid.mk' hT0b
          have HT0C := Hid.mk' hT0c
          have HT1 := Hid.mk' hT1
          have HBJ := Hid.mk' hbi
          clear hT0a hT0b hT0c hT1 hbi hlo HINS hok hn0 hk0 hBI
          generalize insT T = I at *
          have hmo : modOk I = (okR I && decide (rdN I ≤ 3)) := rfl
          by_cases hok2 : okR I = true
          · have hkI := okR_k hok2
            have hnI := rdN_lt I
            rw [hI] at hkI
            have HRI0 : Hid (rdE I = 0) := Hid.mk' (rd_some hok2).2.2
            have HCI0 := HBJ.out.subN (i := rdK I) (k := n0 - rdK I) (by omega)
            have htk : (I.drop (rdK I)).take (n0 - rdK I) = I.drop (rdK I) := List.take_of_length_le (by rw [List.length_drop, hI]; omega)
            rw [htk] at HCI0
            have hn0p : 1 ≤ n0 := by have := ((okR_iff I).1 hok2).1; omega
            have hck : ¬ c' = k0 := by omega
            rw [if_neg hck] at HBI HNI
            have HC2 : Hid (Come wr (if c' - k0 = rdK I then some ⟨b, off + k0, none⟩ else some ⟨b, off + k0 + rdK I, none⟩) (n0 - rdK I) (c' - k0 - rdK I) (I.drop (rdK I))) := Hid.mk' (by
              by_cases hcc : c' - k0 = rdK I
              · rw [if_pos hcc]
                refine ⟨⟨HCI0.size, HCI0.max, HCI0.lt, fun hp => absurd hp (by omega)⟩, fun e => (nomatch e), by omega, by omega⟩
              · rw [if_neg hcc]
                exact ⟨HCI0, fun e => (nomatch e), by omega, by omega⟩)
            obtain ⟨L2, hL2⟩ : ∃ L2, I.drop (rdK I) = L2 := ⟨_, rfl⟩
            rw [hL2] at HC2 HT0C HT1
            clear hL2 htk HCI0
            obtain ⟨n1, hn1⟩ : ∃ n1, rdN I = n1 := ⟨_, rfl⟩
            obtain ⟨k1, hk1⟩ : ∃ k1, rdK I = k1 := ⟨_, rfl⟩
            rw [hn1] at hnI hmo HT1
            rw [hk1] at hkI HC2
            have HRI2 : Hid (rdN I = n1 ∧ rdK I = k1) := Hid.mk' ⟨hn1, hk1⟩
            clear hn1 hk1
            by_cases h3 : n1 ≤ 3
            · have HMO : Hid (modOk I = true) := Hid.mk' (by rw [hmo, hok2, decide_eq_true h3]; rfl)
              clear hmo hok2
              cases hpb : partsB L2 with
              | true =>
                have HT0 := Hid.mk' (HT1.out HLO.out HMO.out hpb)
                have HPB := Hid.mk' hpb
                obtain ⟨q, hq⟩ : ∃ q, (plansM (L2, false)).1.length = q := ⟨_, rfl⟩
                have HPL := Hid.mk' hq
                have hq8 : q ≤ 8 := by rw [← hq]; exact (plansM_r (L2, false)).1
                obtain ⟨x, hx⟩ : ∃ x : Int, ((begN (B.getD 0 []) : Nat) : Int) = x := ⟨_, rfl⟩
                have HX := Hid.mk' hx
                have hx0 : 0 ≤ x := by omega
                have hx1 : x < 18446744073709551616 := by
                  have hlb := (HG0.out w (Kept.refl _ _))
                  obtain ⟨_, _, _, hcc⟩ := hlb
                  have h8 := v256_lt (L := (B.getD 0 []).take 8) (fun y hy => hcc.by_.lt y (List.mem_of_mem_take hy))
                  have h9 : ((B.getD 0 []).take 8).length ≤ 8 := by rw [List.length_take]; omega
                  have h10 : (256 : Nat) ^ ((B.getD 0 []).take 8).length ≤ 256 ^ 8 := Nat.pow_le_pow_right (by omega) h9
                  have h11 : begN (B.getD 0 []) < 256 ^ 8 := Nat.lt_of_lt_of_le h8 h10
                  have : (256 : Nat) ^ 8 = 18446744073709551616 := by decide
                  omega
                have HGM := Hid.mk' (gen_min (fstN B) (show ((fstN B : Nat) : Int) = x from hx))
                clear hpb HT0B HT0C HT1 hx hq
                by_cases hxt : x < 4611686018427387904
                · have hxt' : ¬ 4611686018427387904 ≤ x := by omega
                  go_wp2_with (first | (have hgo := HC5; clear hgo; go_at_call 44; refine (first_any HC5.out).mono ?_; rw [HX.out]; rintro e w5 ⟨rfl, hk5⟩; have K5 := Hid.mk' (K4.out.tr hk5); have P5 := Hid.mk' (P4.out.kept hk5); clear hk5; have T5 := Hid.mk' (rowK R0.out K5.out); have t0 := T5.out.cell (i := 0) (by omega); have t1 := T5.out.cell (i := 1) (by omega); have t2 := T5.out.cell (i := 2) (by omega); have y0 := T5.out.frozen 0; have y1 := T5.out.frozen 1; have y2 := T5.out.frozen 2; simp [f3] at t0 t1 t2; clear HC5) | (have hgo := HC3; clear hgo; go_at_call 82; refine (partsF_any HC3.out).mono ?_; rintro e w4 ⟨hk4, ⟨_, g4, rfl, hp4⟩ | ⟨hno, _⟩⟩; rotate_left; (rw [HPB.out] at hno; exact absurd hno (by decide)); rw [HPL.out] at hp4 ⊢; have P4 := Hid.mk' hp4; have K4 := Hid.mk' (K3.out.tr hk4); obtain ⟨a5, c5, p5, hC5⟩ := HG0.out _ (hkA.tr K4.out); have HC5 := Hid.mk' hC5; clear hp4 hk4 HC3 hC5) | (have hgo := HBI2; clear hgo; go_at_call 81; refine (read_any HBI2.out HNI.out hci hcj).mono ?_; rw [HRI2.out.1, HRI2.out.2, HRI0.out]; rintro e w3 ⟨rfl, m3, rfl⟩; have K3 := Hid.mk' (HK.out.tr (kept_drwN wr (m2 + m3))); have HC3 := Hid.mk' (HC2.out.kpt (kept_drwN wr (m2 + m3))); clear HBI2) | (have hgo := HBT; clear hgo; go_at_call 81; refine (read_any HBT.out (fun e => (nomatch e)) hcr hcm).mono ?_; rw [HRE2.out.1, HRE2.out.2, HRE.out]; rintro e w2 ⟨rfl, m2, rfl⟩; have K2 := Hid.mk' (HK.out.tr (kept_drwN wr m2)); have HBI2 := Hid.mk' (HBI.out.kept (kept_drwN wr m2)); clear HBT))
                  all_goals (
                    have hrw := row3_set T5.out (.int .i64 x) (.int .u8 (n1 : Int)) (.slice (some ⟨g4, 0, none⟩) q q)
                    have q0 := hrw.cell (i := 0) (by omega)
                    have q1 := hrw.cell (i := 1) (by omega)
                    have q2 := hrw.cell (i := 2) (by omega)
                    simp [f3] at q0 q1 q2
                    have hz := HK.out.size
                    rw [World.size_alloc] at hz
                    refine bodyPost_ret (v := .agg #[.int .i64 x, .int .u8 (n1 : Int), .slice (some ⟨g4, 0, none⟩) q q]) (by simp [results, Try.results74, go_sem, q0, q1, q2]) rfl ⟨some ⟨g4, 0, none⟩, q, q, ?_, ?_, ?_⟩
                    · rw [HT0.out]
                      dsimp only
                      rw [(HGM.out.1 hxt)]
                    · rw [HT0.out]
                      exact (((P5.out.set (by simp; omega) 0 _).set (by simp; omega) 1 _).set (by simp; omega) 2 _).mono (by simp; omega)
                    · exact (((hkA.tr K5.out).setNew (p := ⟨w.heap.size, 0, none⟩) (Nat.le_refl _) _).setNew (p := ⟨w.heap.size, 1, none⟩) (Nat.le_refl _) _).setNew (p := ⟨w.heap.size, 2, none⟩) (Nat.le_refl _) _)
                · by_cases hxe : x = 4611686018427387904
                  · subst hxe
                    go_wp2_with (first | (have hgo := HC5; clear hgo; go_at_call 44; refine (first_any HC5.out).mono ?_; rw [HX.out]; rintro e w5 ⟨rfl, hk5⟩; have K5 := Hid.mk' (K4.out.tr hk5); have P5 := Hid.mk' (P4.out.kept hk5); clear hk5; have T5 := Hid.mk' (rowK R0.out K5.out); have t0 := T5.out.cell (i := 0) (by omega); have t1 := T5.out.cell (i := 1) (by omega); have t2 := T5.out.cell (i := 2) (by omega); have y0 := T5.out.frozen 0; have y1 := T5.out.frozen 1; have y2 := T5.out.frozen 2; simp [f3] at t0 t1 t2; clear HC5) | (have hgo := HC3; clear hgo; go_at_call 82; refine (partsF_any HC3.out).mono ?_; rintro e w4 ⟨hk4, ⟨_, g4, rfl, hp4⟩ | ⟨hno, _⟩⟩; rotate_left; (rw [HPB.out] at hno; exact absurd hno (by decide)); rw [HPL.out] at hp4 ⊢; have P4 := Hid.mk' hp4; have K4 := Hid.mk' (K3.out.tr hk4); obtain ⟨a5, c5, p5, hC5⟩ := HG0.out _ (hkA.tr K4.out); have HC5 := Hid.mk' hC5; clear hp4 hk4 HC3 hC5) | (have hgo := HBI2; clear hgo; go_at_call 81; refine (read_any HBI2.out HNI.out hci hcj).mono ?_; rw [HRI2.out.1, HRI2.out.2, HRI0.out]; rintro e w3 ⟨rfl, m3, rfl⟩; have K3 := Hid.mk' (HK.out.tr (kept_drwN wr (m2 + m3))); have HC3 := Hid.mk' (HC2.out.kpt (kept_drwN wr (m2 + m3))); clear HBI2) | (have hgo := HBT; clear hgo; go_at_call 81; refine (read_any HBT.out (fun e => (nomatch e)) hcr hcm).mono ?_; rw [HRE2.out.1, HRE2.out.2, HRE.out]; rintro e w2 ⟨rfl, m2, rfl⟩; have K2 := Hid.mk' (HK.out.tr (kept_drwN wr m2)); have HBI2 := Hid.mk' (HBI.out.kept (kept_drwN wr m2)); clear HBT))
                    all_goals (
                      have hrw := row3_set T5.out (.int .i64 4611686018427387904) (.int .u8 (n1 : Int)) (.slice (some ⟨g4, 0, none⟩) q q)
                      have q0 := hrw.cell (i := 0) (by omega)
                      have q1 := hrw.cell (i := 1) (by omega)
                      have q2 := hrw.cell (i := 2) (by omega)
                      simp [f3] at q0 q1 q2
                      have hz := HK.out.size
                      rw [World.size_alloc] at hz
                      refine bodyPost_ret (v := .agg #[.int .i64 4611686018427387904, .int .u8 (n1 : Int), .slice (some ⟨g4, 0, none⟩) q q]) (by simp [results, Try.results74, go_sem, q0, q1, q2]) rfl ⟨some ⟨g4, 0, none⟩, q, q, ?_, ?_, ?_⟩
                      · rw [HT0.out]
                        dsimp only
                        rw [(HGM.out.2 (by omega))]
                      · rw [HT0.out]
                        exact (((P5.out.set (by simp; omega) 0 _).set (by simp; omega) 1 _).set (by simp; omega) 2 _).mono (by simp; omega)
                      · exact (((hkA.tr K5.out).setNew (p := ⟨w.heap.size, 0, none⟩) (Nat.le_refl _) _).setNew (p := ⟨w.heap.size, 1, none⟩) (Nat.le_refl _) _).setNew (p := ⟨w.heap.size, 2, none⟩) (Nat.le_refl _) _)
                  · have hxt' : 4611686018427387904 < x := by omega
                    go_wp2_with (first | (have hgo := HC5; clear hgo; go_at_call 44; refine (first_any HC5.out).mono ?_; rw [HX.out]; rintro e w5 ⟨rfl, hk5⟩; have K5 := Hid.mk' (K4.out.tr hk5); have P5 := Hid.mk' (P4.out.kept hk5); clear hk5; have T5 := Hid.mk' (rowK R0.out K5.out); have t0 := T5.out.cell (i := 0) (by omega); have t1 := T5.out.cell (i := 1) (by omega); have t2 := T5.out.cell (i := 2) (by omega); have y0 := T5.out.frozen 0; have y1 := T5.out.frozen 1; have y2 := T5.out.frozen 2; simp [f3] at t0 t1 t2; clear HC5) | (have hgo := HC3; clear hgo; go_at_call 82; refine (partsF_any HC3.out).mono ?_; rintro e w4 ⟨hk4, ⟨_, g4, rfl, hp4⟩ | ⟨hno, _⟩⟩; rotate_left; (rw [HPB.out] at hno; exact absurd hno (by decide)); rw [HPL.out] at hp4 ⊢; have P4 := Hid.mk' hp4; have K4 := Hid.mk' (K3.out.tr hk4); obtain ⟨a5, c5, p5, hC5⟩ := HG0.out _ (hkA.tr K4.out); have HC5 := Hid.mk' hC5; clear hp4 hk4 HC3 hC5) | (have hgo := HBI2; clear hgo; go_at_call 81; refine (read_any HBI2.out HNI.out hci hcj).mono ?_; rw [HRI2.out.1, HRI2.out.2, HRI0.out]; rintro e w3 ⟨rfl, m3, rfl⟩; have K3 := Hid.mk' (HK.out.tr (kept_drwN wr (m2 + m3))); have HC3 := Hid.mk' (HC2.out.kpt (kept_drwN wr (m2 + m3))); clear HBI2) | (have hgo := HBT; clear hgo; go_at_call 81; refine (read_any HBT.out (fun e => (nomatch e)) hcr hcm).mono ?_; rw [HRE2.out.1, HRE2.out.2, HRE.out]; rintro e w2 ⟨rfl, m2, rfl⟩; have K2 := Hid.mk' (HK.out.tr (kept_drwN wr m2)); have HBI2 := Hid.mk' (HBI.out.kept (kept_drwN wr m2)); clear HBT))
                    all_goals (
                      have hrw := row3_set T5.out (.int .i64 4611686018427387904) (.int .u8 (n1 : Int)) (.slice (some ⟨g4, 0, none⟩) q q)
                      have q0 := hrw.cell (i := 0) (by omega)
                      have q1 := hrw.cell (i := 1) (by omega)
                      have q2 := hrw.cell (i := 2) (by omega)
                      simp [f3] at q0 q1 q2
                      have hz := HK.out.size
                      rw [World.size_alloc] at hz
                      refine bodyPost_ret (v := .agg #[.int .i64 4611686018427387904, .int .u8 (n1 : Int), .slice (some ⟨g4, 0, none⟩) q q]) (by simp [results, Try.results74, go_sem, q0, q1, q2]) rfl ⟨some ⟨g4, 0, none⟩, q, q, ?_, ?_, ?_⟩
                      · rw [HT0.out]
                        dsimp only
                        rw [(HGM.out.2 (by omega))]
                      · rw [HT0.out]
                        exact (((P5.out.set (by simp; omega) 0 _).set (by simp; omega) 1 _).set (by simp; omega) 2 _).mono (by simp; omega)
                      · exact (((hkA.tr K5.out).setNew (p := ⟨w.heap.size, 0, none⟩) (Nat.le_refl _) _).setNew (p := ⟨w.heap.size, 1, none⟩) (Nat.le_refl _) _).setNew (p := ⟨w.heap.size, 2, none⟩) (Nat.le_refl _) _)
              | false =>
                have HT0 := Hid.mk' (HT0C.out hpb)
                have HPB := Hid.mk' hpb
                clear hpb HT0B HT0C HT1
                go_wp2_with (first | (have hgo := HC3; clear hgo; go_at_call 82; refine (partsF_any HC3.out).mono ?_; rintro e w4 ⟨hk4, ⟨hno, _⟩ | ⟨_, rfl⟩⟩; (rw [HPB.out] at hno; exact absurd hno (by decide)); have K4 := Hid.mk' (K3.out.tr hk4); clear hk4; have T4 := Hid.mk' (rowK R0.out K4.out); have t0 := T4.out.cell (i := 0) (by omega); have t1 := T4.out.cell (i := 1) (by omega); have t2 := T4.out.cell (i := 2) (by omega); have y0 := T4.out.frozen 0; have y1 := T4.out.frozen 1; have y2 := T4.out.frozen 2; simp [f3] at t0 t1 t2; clear HC3) | (have hgo := HBI2; clear hgo; go_at_call 81; refine (read_any HBI2.out HNI.out hci hcj).mono ?_; rw [HRI2.out.1, HRI2.out.2, HRI0.out]; rintro e w3 ⟨rfl, m3, rfl⟩; have K3 := Hid.mk' (HK.out.tr (kept_drwN wr (m2 + m3))); have HC3 := Hid.mk' (HC2.out.kpt (kept_drwN wr (m2 + m3))); clear HBI2) | (have hgo := HBT; clear hgo; go_at_call 81; refine (read_any HBT.out (fun e => (nomatch e)) hcr hcm).mono ?_; rw [HRE2.out.1, HRE2.out.2, HRE.out]; rintro e w2 ⟨rfl, m2, rfl⟩; have K2 := Hid.mk' (HK.out.tr (kept_drwN wr m2)); have HBI2 := Hid.mk' (HBI.out.kept (kept_drwN wr m2)); clear HBT))
                all_goals (
                  have hrw := row3_set T4.out (.int .i64 0) (.int .u8 0) (.slice none 0 0)
                  have q0 := hrw.cell (i := 0) (by omega)
                  have q1 := hrw.cell (i := 1) (by omega)
                  have q2 := hrw.cell (i := 2) (by omega)
                  simp [f3] at q0 q1 q2
                  refine bodyPost_ret (v := .agg #[.int .i64 0, .int .u8 0, .slice none 0 0]) (by simp [results, Try.results74, go_sem, q0, q1, q2]) rfl ⟨none, 0, 0, by rw [HT0.out]; rfl, by rw [HT0.out]; exact PlF.nil _ _, ?_⟩
                  exact (((hkA.tr K4.out).setNew (p := ⟨w.heap.size, 0, none⟩) (Nat.le_refl _) _).setNew (p := ⟨w.heap.size, 1, none⟩) (Nat.le_refl _) _).setNew (p := ⟨w.heap.size, 2, none⟩) (Nat.le_refl _) _)
            · have HT0 := Hid.mk' (HT0B.out (by rw [hmo, decide_eq_false h3, Bool.and_false]))
              clear hmo HT0B HT0C HT1 hok2
              go_wp2_with (first | (have hgo := HBI2; clear hgo; go_at_call 81; refine (read_any HBI2.out HNI.out hci hcj).mono ?_; rw [HRI2.out.1, HRI2.out.2, HRI0.out]; rintro e w3 ⟨rfl, m3, rfl⟩; have K3 := Hid.mk' (HK.out.tr (kept_drwN wr (m2 + m3))); have T3 := Hid.mk' (rowK R0.out K3.out); have t0 := T3.out.cell (i := 0) (by omega); have t1 := T3.out.cell (i := 1) (by omega); have t2 := T3.out.cell (i := 2) (by omega); have y0 := T3.out.frozen 0; have y1 := T3.out.frozen 1; have y2 := T3.out.frozen 2; simp [f3] at t0 t1 t2; clear HBI2) | (have hgo := HBT; clear hgo; go_at_call 81; refine (read_any HBT.out (fun e => (nomatch e)) hcr hcm).mono ?_; rw [HRE2.out.1, HRE2.out.2, HRE.out]; rintro e w2 ⟨rfl, m2, rfl⟩; have K2 := Hid.mk' (HK.out.tr (kept_drwN wr m2)); have HBI2 := Hid.mk' (HBI.out.kept (kept_drwN wr m2)); clear HBT))
              all_goals (
                have hrw := row3_set T3.out (.int .i64 0) (.int .u8 0) (.slice none 0 0)
                have q0 := hrw.cell (i := 0) (by omega)
                have q1 := hrw.cell (i := 1) (by omega)
                have q2 := hrw.cell (i := 2) (by omega)
                simp [f3] at q0 q1 q2
                refine bodyPost_ret (v := .agg #[.int .i64 0, .int .u8 0, .slice none 0 0]) (by simp [results, Try.results74, go_sem, q0, q1, q2]) rfl ⟨none, 0, 0, by rw [HT0.out]; rfl, by rw [HT0.out]; exact PlF.nil _ _, ?_⟩
                exact (((hkA.tr K3.out).setNew (p := ⟨w.heap.size, 0, none⟩) (Nat.le_refl _) _).setNew (p := ⟨w.heap.size, 1, none⟩) (Nat.le_refl _) _).setNew (p := ⟨w.heap.size, 2, none⟩) (Nat.le_refl _) _)
          · have hok2' : okR I = false := by cases h : okR I with | true => exact absurd h hok2 | false => rfl
            have HT0 := Hid.mk' (HT0B.out (by rw [hmo, hok2']; rfl))
            have HRN := Hid.mk' (rd_none hok2)
            clear hmo HT0B HT0C HT1 hok2' hok2
            go_wp2_with (first | (have hgo := HBI2; clear hgo; go_at_call 81; refine (read_any HBI2.out HNI.out hci hcj).mono ?_; rw [HRN.out.1, HRN.out.2.1, HRN.out.2.2]; rintro e w3 ⟨rfl, m3, rfl⟩; have K3 := Hid.mk' (HK.out.tr (kept_drwN wr (m2 + m3))); have T3 := Hid.mk' (rowK R0.out K3.out); have t0 := T3.out.cell (i := 0) (by omega); have t1 := T3.out.cell (i := 1) (by omega); have t2 := T3.out.cell (i := 2) (by omega); have y0 := T3.out.frozen 0; have y1 := T3.out.frozen 1; have y2 := T3.out.frozen 2; simp [f3] at t0 t1 t2; clear HBI2) | (have hgo := HBT; clear hgo; go_at_call 81; refine (read_any HBT.out (fun e => (nomatch e)) hcr hcm).mono ?_; rw [HRE2.out.1, HRE2.out.2, HRE.out]; rintro e w2 ⟨rfl, m2, rfl⟩; have K2 := Hid.mk' (HK.out.tr (kept_drwN wr m2)); have HBI2 := Hid.mk' (HBI.out.kept (kept_drwN wr m2)); clear HBT))
            all_goals (
              have hrw := row3_set T3.out (.int .i64 0) (.int .u8 0) (.slice none 0 0)
              have q0 := hrw.cell (i := 0) (by omega)
              have q1 := hrw.cell (i := 1) (by omega)
              have q2 := hrw.cell (i := 2) (by omega)
              simp [f3] at q0 q1 q2
              refine bodyPost_ret (v := .agg #[.int .i64 0, .int .u8 0, .slice none 0 0]) (by simp [results, Try.results74, go_sem, q0, q1, q2]) rfl ⟨none, 0, 0, by rw [HT0.out]; rfl, by rw [HT0.out]; exact PlF.nil _ _, ?_⟩
              exact (((hkA.tr K3.out).setNew (p := ⟨w.heap.size, 0, none⟩) (Nat.le_refl _) _).setNew (p := ⟨w.heap.size, 1, none⟩) (Nat.le_refl _) _).setNew (p := ⟨w.heap.size, 2, none⟩) (Nat.le_refl _) _)
        · have HT0 := Hid.mk' (hT0a (by rw [hlo, decide_eq_false hle, Bool.and_false]))
          clear hT0a hT0b hT0c hT1 hlo HINS hok hn0 hk0
          go_wp2_with (first | (have hgo := HBT; clear hgo; go_at_call 81; refine (read_any HBT.out (fun e => (nomatch e)) hcr hcm).mono ?_; rw [HRE2.out.1, HRE2.out.2, HRE.out]; rintro e w2 ⟨rfl, m2, rfl⟩; have K2 := Hid.mk' (HK.out.tr (kept_drwN wr m2)); have T2 := Hid.mk' (rowK R0.out K2.out); have t0 := T2.out.cell (i := 0) (by omega); have t1 := T2.out.cell (i := 1) (by omega); have t2 := T2.out.cell (i := 2) (by omega); have y0 := T2.out.frozen 0; have y1 := T2.out.frozen 1; have y2 := T2.out.frozen 2; simp [f3] at t0 t1 t2; clear HBT))
          all_goals (
            have hrw := row3_set T2.out (.int .i64 0) (.int .u8 0) (.slice none 0 0)
            have q0 := hrw.cell (i := 0) (by omega)
            have q1 := hrw.cell (i := 1) (by omega)
            have q2 := hrw.cell (i := 2) (by omega)
            simp [f3] at q0 q1 q2
            refine bodyPost_ret (v := .agg #[.int .i64 0, .int .u8 0, .slice none 0 0]) (by simp [results, Try.results74, go_sem, q0, q1, q2]) rfl ⟨none, 0, 0, by rw [HT0.out]; rfl, by rw [HT0.out]; exact PlF.nil _ _, ?_⟩
            exact (((hkA.tr K2.out).setNew (p := ⟨w.heap.size, 0, none⟩) (Nat.le_refl _) _).setNew (p := ⟨w.heap.size, 1, none⟩) (Nat.le_refl _) _).setNew (p := ⟨w.heap.size, 2, none⟩) (Nat.le_refl _) _)
      · have hok2 : okR T = false := by cases h : okR T with | true => exact absurd h hok | false => rfl
        have HT0 := Hid.mk' (hT0a (by rw [hlo, hok2]; rfl))
        have HRN := Hid.mk' (rd_none hok)
        clear hT0a hT0b hT0c hT1 hlo HINS hok2 hok
        go_wp2_with (first | (have hgo := HBT; clear hgo; go_at_call 81; refine (read_any HBT.out (fun e => (nomatch e)) hcr hcm).mono ?_; rw [HRN.out.1, HRN.out.2.1, HRN.out.2.2]; rintro e w2 ⟨rfl, m2, rfl⟩; have K2 := Hid.mk' (HK.out.tr (kept_drwN wr m2)); have T2 := Hid.mk' (rowK R0.out K2.out); have t0 := T2.out.cell (i := 0) (by omega); have t1 := T2.out.cell (i := 1) (by omega); have t2 := T2.out.cell (i := 2) (by omega); have y0 := T2.out.frozen 0; have y1 := T2.out.frozen 1; have y2 := T2.out.frozen 2; simp [f3] at t0 t1 t2; clear HBT))
        all_goals (
          have hrw := row3_set T2.out (.int .i64 0) (.int .u8 0) (.slice none 0 0)
          have q0 := hrw.cell (i := 0) (by omega)
          have q1 := hrw.cell (i := 1) (by omega)
          have q2 := hrw.cell (i := 2) (by omega)
          simp [f3] at q0 q1 q2
          refine bodyPost_ret (v := .agg #[.int .i64 0, .int .u8 0, .slice none 0 0]) (by simp [results, Try.results74, go_sem, q0, q1, q2]) rfl ⟨none, 0, 0, by rw [HT0.out]; rfl, by rw [HT0.out]; exact PlF.nil _ _, ?_⟩
          exact (((hkA.tr K2.out).setNew (p := ⟨w.heap.size, 0, none⟩) (Nat.le_refl _) _).setNew (p := ⟨w.heap.size, 1, none⟩) (Nat.le_refl _) _).setNew (p := ⟨w.heap.size, 2, none⟩) (Nat.le_refl _) _)

end Go.Proofs.Ytlabjamkaebnjaa
