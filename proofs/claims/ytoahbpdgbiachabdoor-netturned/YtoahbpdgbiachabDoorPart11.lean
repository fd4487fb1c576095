/-
  Part 11 of the texts that the proof of NetTurned stands on.
-/
import Derived.Test.YtoahbpdgbiachabDoorPart10
/-
  THE WALK of NetTurned.
-/
namespace Go.Proofs.YtoahbpdgbiachabDoor
open Go.RowKit Go.Lib Go.Deep
set_option linter.unusedVariables false
set_option linter.unusedSimpArgs false

theorem xor_ne {a x : Nat} (h : x ≠ 0) : a ^^^ x ≠ a := by
  intro e
  have : a ^^^ (a ^^^ x) = a ^^^ a := by rw [e]
  rw [← Nat.xor_assoc, Nat.xor_self, Nat.zero_xor] at this
  exact h this
theorem set_parts (L : List Nat) (p y : Nat) (hp : p < L.length) : L.set p y = L.take p ++ [y] ++ L.drop (p + 1) := by
  rw [List.set_eq_take_append_cons_drop, if_pos hp]
  simp
theorem self_parts (L : List Nat) (p : Nat) (hp : p < L.length) : L = L.take p ++ [L.getD p 0] ++ L.drop (p + 1) := by
  have := set_parts L p (L.getD p 0) hp
  rw [← this]
  apply List.ext_getElem
  · simp
  · intro j h1 h2
    rw [List.getElem_set]
    split
    · rename_i e; subst e; simp [h1]
    · rfl
/-- Bytes whose sum stands behind them, one of which is another one: their sum does not. -/
theorem sum_turned (L : List Nat) (hb : ∀ x ∈ L, x < 256) (h9 : 4 ≤ L.length) (h : sumOk L = true) (p y : Nat) (hp : p < L.length) (hy : y < 256) (hne : y ≠ L.getD p 0) : sumOk (L.set p y) = false := by
  cases e : sumOk (L.set p y) with
  | false => rfl
  | true =>
    exfalso
    unfold sumOk sum4 at h e
    have hs := of_decide_eq_true h
    have hs2 := of_decide_eq_true e
    rw [List.length_set] at hs2
    by_cases hc : p < L.length - 4
    · rw [List.drop_set_of_lt hc, hs, List.take_set] at hs2
      have l1 := congrArg v256 hs2
      have hbt : ∀ x ∈ L.take (L.length - 4), x < 256 := fun x hx => hb x (List.mem_of_mem_take hx)
      have hT := self_parts (L.take (L.length - 4)) p (by simp; omega)
      have hS := set_parts (L.take (L.length - 4)) p y (by simp; omega)
      have hg : (L.take (L.length - 4)).getD p 0 = L.getD p 0 := by
        simp only [List.getD_eq_getElem?_getD]
        rw [List.getElem?_take_of_lt hc]
      generalize L.take (L.length - 4) = T at *
      have hbs : ∀ x ∈ T.set p y, x < 256 := fun x hx => by
        rcases List.mem_or_eq_of_mem_set hx with h | h
        · exact hbt x h
        · omega
      rw [v256_leb, v256_leb] at l1
      have b1 := sumB_lt T hbt
      have b2 := sumB_lt (T.set p y) hbs
      have l2 : sumB T = sumB (T.set p y) := by
        rw [Nat.mod_eq_of_lt (by omega), Nat.mod_eq_of_lt (by omega)] at l1
        exact l1
      have l3 := sumB_inj l2
      rw [hS] at l3
      rw [show crc T = crc (T.take p ++ [T.getD p 0] ++ T.drop (p + 1)) from congrArg crc hT] at l3
      have hgl : T.getD p 0 < 256 := by
        by_cases hpT : p < T.length
        · have : T.getD p 0 = T[p] := by simp [hpT]
          rw [this]; exact hbt _ (List.getElem_mem hpT)
        · simp [show T.length ≤ p by omega]
      have := crc_turned (T.take p) [T.getD p 0] [y] (T.drop (p + 1)) rfl (by simp) (fun x hx => hbt x (List.mem_of_mem_take hx)) (by simpa using hgl) (by simpa using hy) (fun x hx => hbt x (List.mem_of_mem_drop hx)) l3
      have e2 : T.getD p 0 = y := by simpa using this
      exact hne (by rw [← e2, hg])
    · rw [List.take_set_of_le (by omega), ← hs, List.drop_set, if_neg (by omega)] at hs2
      have hj : p - (L.length - 4) < (L.drop (L.length - 4)).length := by simp; omega
      have e2 := congrArg (fun l => l[p - (L.length - 4)]?) hs2
      simp only [List.getElem?_set_self hj] at e2
      rw [List.getElem?_drop, show L.length - 4 + (p - (L.length - 4)) = p by omega] at e2
      exact hne (by simp [← e2])
theorem nread_turned {N : Nt} (hr : NRok N) (hs : netB N = true) {M : List Nat} (hM : nwriteL N = M) (p y : Nat) (hp : p < M.length) (hy : y < 256) (hne : y ≠ M.getD p 0) : nreadB (M.set p y) = false := by
  subst hM
  have h1 := (nread_write hs hr).1
  have h2 : sumOk (nwriteL N) = true := by
    unfold nreadB at h1
    simp only [Bool.and_eq_true] at h1
    exact h1.2.1
  have h3 : 4 ≤ (nwriteL N).length := by rw [nwriteL_yes hs, List.length_append, sum4_len]; omega
  unfold nreadB
  rw [sum_turned _ (nwriteL_lt N) h3 h2 p y hp hy hne]
  simp
theorem Mine.row {w : World} {base g n cap : Nat} {L : List Nat} (h : Mine w base (some ⟨g, 0, none⟩) n cap L) : n ≤ cap ∧ ∃ f : Nat → Value, w.rowIs g 5 cap (fun j => if j < n then .int .u8 ((L.getD j 0 : Nat) : Int) else f j) := by
  have hl : L.length = n := by have := h.own.1; simpa using this
  obtain ⟨_, ⟨e, _⟩ | ⟨g', cap', cur, e, hb, hh, hle, hmx, hsz, htk⟩⟩ := h.own
  · cases e
  · injection e with e1 e2 e3
    subst e3
    injection e1 with e1
    injection e1 with e1 _
    subst e1
    refine ⟨hle, fun j => (cur[j]?).getD (.bool false), cur, hh, by omega, fun i hi => ?_⟩
    show cur[i]? = some (if i < n then _ else _)
    by_cases hin : i < n
    · rw [if_pos hin]
      have : (cur.toList.take (n * 1))[i]? = (L.map byteV)[i]? := by rw [htk]
      rw [List.getElem?_take_of_lt (by omega)] at this
      have hiL : i < L.length := by omega
      simp [hiL] at this
      simp [this, hiL]
    · rw [if_neg hin]
      have : i < cur.size := by omega
      simp [this]
/-- A byte of one's own is another one. -/
theorem Mine.setByte {w : World} {base g n cap : Nat} {L : List Nat} (h : Mine w base (some ⟨g, 0, none⟩) n cap L) (hb : ∀ x ∈ L, x < 256) (p y : Nat) (hp : p < n) (hy : y < 256) : Come (w.setCell ⟨g, p, none⟩ (.int .u8 (y : Int))) (some ⟨g, 0, none⟩) n cap (L.set p y) := by
  obtain ⟨hcap, f, hrow⟩ := h.row
  have hl : L.length = n := by have := h.own.1; simpa using this
  have hmx := h.max
  refine ⟨By.row (hrow.set p _) _ n hcap (by simp [hl]) (by omega) (fun x hx => ?_) (fun i hi => ?_), (fun e => nomatch e), h.room, h.max⟩
  · rcases List.mem_or_eq_of_mem_set hx with h | h
    · exact hb x h
    · omega
  · by_cases e : i = p
    · subst e; rw [if_pos rfl]; simp [hl, hi]
    · rw [if_neg e, if_pos hi]
      simp [List.getElem?_set_ne (Ne.symm e)]
set_option maxRecDepth 100000 in
set_option maxHeartbeats 4000000 in
theorem nturn_no {Y : Na} {N : Nt} {w : World} {at_ : Int} {x : Nat} (h : NetAt w Y N) (hT : Tabb w ∧ Table w) (hs : netB N = false) : Calls Tryd.prog 3 #[netV Y N, .int .i64 at_, .int .u8 x] w fun e w' => e = .returned (.bool true) ∧ Below w.heap.size w w' := by
  have hkA : Kept w (w.alloc (.cells #[.slice Y.s N.sites.length Y.sc, .slice Y.u N.subs.length Y.uc, .slice Y.d N.weds.length Y.dc, .int .i64 N.low, .int .i64 N.high, .int .i64 N.step] 26)) none := Kept.alloc _ _ _ _ _
  have HNB := Hid.mk' (nbx_alloc h 26)
  have HK := Hid.mk' hkA
  have HTW := Hid.mk' hT
  have HT := Hid.mk' (hT.1.kept hkA)
  have HTb := Hid.mk' (hT.2.kept hkA)
  have HRK : Hid (netB N = true → NRok N) := fun hs => nrok_may h hs
  clear h hT hkA
  have HE := Hid.mk' (netE_no hs)
  have HM : Hid (nwriteL N = []) := by show nwriteL N = []; unfold nwriteL; rw [if_neg (by rw [hs]; decide)]
  go_enter Tryd.func3, Tryd.ntmps3
  go_wp2_with (go_at_call 4; refine (nalive_any HT.out HTb.out).mono ?_; rintro e w1 ⟨rfl, hk1⟩; obtain ⟨c0, c1, c2, c3, c4, c5, _⟩ := HNB.out.kept hk1)
  go_at_call 5
  refine (ngreat_any (HNB.out.net.kept hk1)).mono ?_
  rintro e w2 ⟨g, rfl, _, hk2⟩
  clear c0 c1 c2 c3 c4 c5
  have K2 := Hid.mk' (hk1.tr hk2)
  clear hk1 hk2
  cases g
  case true =>
    go_wp2
    go_ret
    exact ⟨rfl, (HK.out.tr K2.out).below⟩
  obtain ⟨c0, c1, c2, c3, c4, c5, _⟩ := HNB.out.kept K2.out
  go_wp2_with (go_at_call 6; have hn := nwrite_any (HNB.out.net.kept K2.out) npos_may (HT.out.kept K2.out) (HTb.out.kept K2.out); rw [HE.out, HM.out] at hn; refine hn.mono ?_; rintro e w3 ⟨a3, p3, rfl, hm3, hk3⟩; have K3 := Hid.mk' (HK.out.tr (K2.out.tr hk3)))
  go_ret
  exact ⟨rfl, K3.out.below⟩
set_option maxRecDepth 100000 in
set_option maxHeartbeats 4000000 in
theorem nturn_way {Y : Na} {N : Nt} {w : World} {at_ : Int} {x : Nat} {M : List Nat} (h : NetAt w Y N) (hT : Tabb w ∧ Table w) (hs : netB N = true) (hM : nwriteL N = M) (ho : at_ < 0 ∨ (0 ≤ at_ ∧ (M.length : Int) ≤ at_) ∨ (0 ≤ at_ ∧ at_ < (M.length : Int) ∧ x = 0)) : Calls Tryd.prog 3 #[netV Y N, .int .i64 at_, .int .u8 x] w fun e w' => e = .returned (.bool true) ∧ Below w.heap.size w w' := by
  have hkA : Kept w (w.alloc (.cells #[.slice Y.s N.sites.length Y.sc, .slice Y.u N.subs.length Y.uc, .slice Y.d N.weds.length Y.dc, .int .i64 N.low, .int .i64 N.high, .int .i64 N.step] 26)) none := Kept.alloc _ _ _ _ _
  have HNB := Hid.mk' (nbx_alloc h 26)
  have HK := Hid.mk' hkA
  have HTW := Hid.mk' hT
  have HT := Hid.mk' (hT.1.kept hkA)
  have HTb := Hid.mk' (hT.2.kept hkA)
  have HRK : Hid (netB N = true → NRok N) := fun hs => nrok_may h hs
  clear h hT hkA
  have HE := Hid.mk' (netE_yes hs)
  have HM := Hid.mk' hM
  clear hM
  go_enter Tryd.func3, Tryd.ntmps3
  go_wp2_with (go_at_call 4; refine (nalive_any HT.out HTb.out).mono ?_; rintro e w1 ⟨rfl, hk1⟩; obtain ⟨c0, c1, c2, c3, c4, c5, _⟩ := HNB.out.kept hk1)
  go_at_call 5
  refine (ngreat_any (HNB.out.net.kept hk1)).mono ?_
  rintro e w2 ⟨g, rfl, _, hk2⟩
  clear c0 c1 c2 c3 c4 c5
  have K2 := Hid.mk' (hk1.tr hk2)
  clear hk1 hk2
  cases g
  case true =>
    go_wp2
    go_ret
    exact ⟨rfl, (HK.out.tr K2.out).below⟩
  obtain ⟨c0, c1, c2, c3, c4, c5, _⟩ := HNB.out.kept K2.out
  rcases ho with ho | ⟨ho, ho2⟩ | ⟨ho, ho2, rfl⟩
  all_goals
    go_wp2_with (go_at_call 6; have hn := nwrite_any (HNB.out.net.kept K2.out) npos_may (HT.out.kept K2.out) (HTb.out.kept K2.out); rw [HE.out, HM.out] at hn; refine hn.mono ?_; rintro e w3 ⟨a3, p3, rfl, hm3, hk3⟩; have K3 := Hid.mk' (HK.out.tr (K2.out.tr hk3)))
    go_ret
    exact ⟨rfl, K3.out.below⟩
set_option maxRecDepth 100000 in
set_option maxHeartbeats 4000000 in
theorem nturn_main {Y : Na} {N : Nt} {w : World} {p x : Nat} {M : List Nat} (h : NetAt w Y N) (hT : Tabb w ∧ Table w) (hs : netB N = true) (hM : nwriteL N = M) (hp : p < M.length) (hx : x < 256) (hx0 : x ≠ 0) : Calls Tryd.prog 3 #[netV Y N, .int .i64 p, .int .u8 x] w fun e w' => e = .returned (.bool true) ∧ Below w.heap.size w w' := by
  have hkA : Kept w (w.alloc (.cells #[.slice Y.s N.sites.length Y.sc, .slice Y.u N.subs.length Y.uc, .slice Y.d N.weds.length Y.dc, .int .i64 N.low, .int .i64 N.high, .int .i64 N.step] 26)) none := Kept.alloc _ _ _ _ _
  have HNB := Hid.mk' (nbx_alloc h 26)
  have HK := Hid.mk' hkA
  have HTW := Hid.mk' hT
  have HT := Hid.mk' (hT.1.kept hkA)
  have HTb := Hid.mk' (hT.2.kept hkA)
  have HRK : Hid (netB N = true → NRok N) := fun hs => nrok_may h hs
  clear h hT hkA
  have HE := Hid.mk' (netE_yes hs)
  have HM := Hid.mk' hM
  have HML : Hid (∀ x ∈ M, x < 256) := by show ∀ x ∈ M, x < 256; rw [← hM]; exact nwriteL_lt N
  have hyl : M.getD p 0 < 256 := by
    have : M.getD p 0 = M[p] := by simp [hp]
    rw [this]; exact HML.out _ (List.getElem_mem hp)
  have hxor := u8_xor_nat (M.getD p 0) x hyl hx
  have hz : M.getD p 0 ^^^ x < 256 := Nat.xor_lt_two_pow (n := 8) hyl hx
  have HR : Hid (nreadB (M.set p (M.getD p 0 ^^^ x)) = false) := nread_turned (HRK.out hs) hs hM p _ hp hz (xor_ne hx0)
  obtain ⟨y, hy⟩ : ∃ y, y = M.getD p 0 := ⟨_, rfl⟩
  obtain ⟨z, hze⟩ : ∃ z, z = M.getD p 0 ^^^ x := ⟨_, rfl⟩
  rw [← hze] at hz hxor HR
  rw [← hy] at hxor hyl
  have HY := Hid.mk' hy
  clear hy hze hM hs
  have hp' : (p : Int) < (M.length : Int) := by omega
  have e1 : ((x : Int) == 0) = false := by simp; omega
  have e2 : decide ((p : Int) < 0) = false := decide_eq_false (by omega)
  have e3 : decide ((M.length : Int) ≤ (p : Int)) = false := decide_eq_false (by omega)
  go_enter Tryd.func3, Tryd.ntmps3
  go_wp2_with (go_at_call 4; refine (nalive_any HT.out HTb.out).mono ?_; rintro e w1 ⟨rfl, hk1⟩; obtain ⟨c0, c1, c2, c3, c4, c5, _⟩ := HNB.out.kept hk1)
  go_at_call 5
  refine (ngreat_any (HNB.out.net.kept hk1)).mono ?_
  rintro e w2 ⟨g, rfl, _, hk2⟩
  clear c0 c1 c2 c3 c4 c5
  have K2 := Hid.mk' (hk1.tr hk2)
  clear hk1 hk2
  cases g
  case true =>
    go_wp2
    go_ret
    exact ⟨rfl, (HK.out.tr K2.out).below⟩
  obtain ⟨c0, c1, c2, c3, c4, c5, _⟩ := HNB.out.kept K2.out
  go_wp2_with (first
    | (have hgo := hO3; clear hgo; go_at_call 7; refine (nread_any hO3 (HTW.out.1.kept K4.out) (HTW.out.2.kept K4.out)).mono ?_; rintro e w5 hc; obtain ⟨hk5, rfl⟩ := nreadP_no hc HR.out; have K5 := Hid.mk' (K4.out.tr hk5))
    | (go_at_call 6; have hn := nwrite_any (HNB.out.net.kept K2.out) npos_may (HT.out.kept K2.out) (HTb.out.kept K2.out); rw [HE.out, HM.out] at hn; refine hn.mono ?_; rintro e w3 ⟨a3, p3, rfl, hm3, hk3⟩; have K3 := Hid.mk' (HK.out.tr (K2.out.tr hk3)); obtain ⟨g, off, hae, _, _⟩ := (hm3.by HML.out).at_ (by omega); obtain ⟨g0, cp0, hv0, hb0, _⟩ := hm3.own.form (by omega); injection hv0 with hv0 hv1 hv2; subst hv2; rw [hv0] at hae; injection hae with hae; injection hae with hae1 hae2; subst hae1 hae2; subst hv0; obtain ⟨hcap, f, hrow⟩ := hm3.row; have hcl := hrow.cell (i := p) (by omega); rw [if_pos hp, ← HY.out] at hcl; have hfz := hrow.frozen p; have hO3 := hm3.setByte HML.out p z hp hz; have K4 := Hid.mk' (K3.out.setNew (p := ⟨g0, p, none⟩) (Nat.le_trans (HK.out.tr K2.out).size hb0) (.int .u8 (z : Int)))))
  go_ret
  exact ⟨rfl, (K5.out.tr (Kept.alloc _ _ _ _ _)).below⟩
theorem nturn_any {Y : Na} {N : Nt} {w : World} {at_ by_ : Int} (h : NetAt w Y N) (h1 : (Lit.int .i64 at_).wf = true) (h2 : (Lit.int .u8 by_).wf = true) (hT : Tabb w ∧ Table w) : Calls Tryd.prog 3 #[netV Y N, .int .i64 at_, .int .u8 by_] w fun e w' => e = .returned (.bool true) ∧ Below w.heap.size w w' := by
  have hb := bounds_u8 h2
  obtain ⟨x, rfl⟩ : ∃ x : Nat, by_ = (x : Int) := ⟨by_.toNat, by omega⟩
  cases hs : netB N with
  | false => exact nturn_no h hT hs
  | true =>
    by_cases ho : at_ < 0 ∨ (0 ≤ at_ ∧ ((nwriteL N).length : Int) ≤ at_) ∨ (0 ≤ at_ ∧ at_ < ((nwriteL N).length : Int) ∧ x = 0)
    · exact nturn_way h hT hs rfl ho
    · obtain ⟨p, rfl⟩ : ∃ p : Nat, at_ = (p : Int) := ⟨at_.toNat, by omega⟩
      exact nturn_main h hT hs rfl (by omega) (by omega) (by omega)

end Go.Proofs.YtoahbpdgbiachabDoor

