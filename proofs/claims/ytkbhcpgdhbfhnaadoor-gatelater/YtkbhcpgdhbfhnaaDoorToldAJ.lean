/-
  Texts joined: some of those that the proofs of this seat stand on.
-/
import Derived.Test.YtkbhcpgdhbfhnaaDoorGateD
import Derived.Test.YtkbhcpgdhbfhnaaDoorLightsB
import Derived.Test.YtkbhcpgdhbfhnaaDoorJoin
/-
  THE CONTRACTS of told, runs and alive, of the statements (made by a program).
-/
namespace Go.Proofs.YtkbhcpgdhbfhnaaDoor
open Go.RowKit Go.Lib Go.Deep
set_option linter.unusedVariables false
set_option linter.unusedSimpArgs false

def toldN (x : Nat) : Nat := if x = 0 then 68 else if x = 1 then 82 else if x = 2 then 71 else if x = 3 then 89 else if x = 4 then 70 else 63
def toldL (T : List (List Nat)) : List Nat := T.flatMap (fun l => l.map toldN)
theorem toldN_big {x : Nat} (h : 5 ≤ x) : toldN x = 63 := by unfold toldN; rw [if_neg (by omega), if_neg (by omega), if_neg (by omega), if_neg (by omega), if_neg (by omega)]
theorem toldL_succ {T : List (List Nat)} {k : Nat} (h : k < T.length) : toldL (T.take (k + 1)) = toldL (T.take k) ++ (tk T k).map toldN := by
  unfold toldL tk
  rw [List.take_add_one, List.flatMap_append]
  simp [h]
theorem take_snoc9 {l : List Nat} {q : Nat} (h : q < l.length) : (l.take (q + 1)).map toldN = (l.take q).map toldN ++ [toldN (lg l q)] := by
  rw [List.take_add_one, List.map_append]
  simp [h, lg]
theorem told_step {w wr w2 : World} {v : Value} {n : Nat} {xs : List Value} {c : Array Value} {t : TypeId} (hk : Kept w wr none) (ho : wr.ownsRow w.heap.size 5 1 v n xs) (hg : (wr.alloc (.cells c t)).grownBy w2 v.ownBlock) : Kept w w2 none :=
  (hk.tr (Kept.alloc _ _ _ _ _)).newRow hg (fun i h => (own_lt8 ho i h).1)
theorem by_one9 (w : World) (x : Nat) (h : x < 256) : By (w.alloc (.cells #[.int .u8 (x : Int)] 5)) (some ⟨w.heap.size, 0, none⟩) 1 [x] :=
  By.alloc w [x] 5 (0, 0) #[.int .u8 (x : Int)] (fun i hi => by
    obtain rfl : i = 0 := by simpa using hi
    rfl) (by simp) (by simpa using h)
theorem toldN_lt (x : Nat) : toldN x < 256 := by
  unfold toldN
  split
  · omega
  · split
    · omega
    · split
      · omega
      · split
        · omega
        · split <;> omega
set_option maxRecDepth 100000 in
set_option maxHeartbeats 4000000 in
theorem told_any {w : World} {pa : Option Addr} {n cp : Nat} {T : List (List Nat)} (hP : Trc w pa n T) (hn : n ≤ 100) (hw : ∀ k, (tk T k).length ≤ 100) : Calls Tryd.prog 27 #[.slice pa n cp] w fun e w' => e = .returned (.string (textOf (toldL T))) ∧ Kept w w' none := by
  have HP0 := Hid.mk' hP
  have HW := Hid.mk' hw
  have HSZ := Hid.mk' hP.size
  clear hP hw
  go_enter Tryd.func27, Tryd.ntmps27
  go_wp2
  go_loopw [3, 4] (fun o i wr => ∃ k : Nat, k ≤ n ∧ i = .int .i64 k ∧ Kept w wr none ∧ ∃ P : List Nat, P = toldL (T.take k) ∧ P.length ≤ 100 * k ∧ wr.ownsRow w.heap.size 5 1 o P.length (P.map byteV)) (fun _ i _ => n - (intOf i).toNat)
  case atStart => exact ⟨0, by omega, rfl, Kept.refl _ _, [], rfl, by simp, World.ownsRow_nil _ _ _ _⟩
  case round =>
    obtain ⟨k, hk, rfl, hkw, P0, hP0, hl0, ho0⟩ := hrel
    obtain ⟨a0, c0, rfl, hm0⟩ := mine_of ho0
    have HM0 := Hid.mk' ho0
    have HKW0 := Hid.mk' hkw
    have HP00 := Hid.mk' hP0
    have hr0 := hm0.room
    have hx0 := hm0.max
    by_cases hlt : k < n
    · obtain ⟨bp, op, rfl, hbp, hcp⟩ := HP0.out.at_ (by omega)
      obtain ⟨al, cl, kc0, hB0⟩ := hcp k hlt
      have HKC := Hid.mk' kc0
      have HBB := Hid.mk' hB0
      have HNX : Hid (toldL (T.take (k + 1)) = toldL (T.take k) ++ (tk T k).map toldN) := toldL_succ (by have := HSZ.out; omega)
      have hm100 := HW.out k
      have hBm := hB0.max
      clear hcp kc0 hB0 ho0 hm0 hkw hP0
      generalize tk T k = A at *
      go_wp2
      go_loopw [3, 5] (fun o i wr => ∃ q : Nat, q ≤ A.length ∧ i = .int .i64 q ∧ Kept w wr none ∧ ∃ P : List Nat, P = P0 ++ (A.take q).map toldN ∧ P.length ≤ 100 * k + q ∧ wr.ownsRow w.heap.size 5 1 o P.length (P.map byteV)) (fun _ i _ => A.length - (intOf i).toNat)
      case atStart => exact ⟨0, by omega, rfl, HKW0.out, P0, by simp, by omega, HM0.out⟩
      case round =>
        obtain ⟨q, hq, rfl, hkw, P, hP, hl, ho⟩ := hrel
        obtain ⟨a1, c1, rfl, hm1⟩ := mine_of ho
        have HOW := Hid.mk' ho
        have HKW := Hid.mk' hkw
        have HP := Hid.mk' hP
        have kc := cell_kept0 HKC.out hkw
        have hr1 := hm1.room
        have hx1 := hm1.max
        by_cases hql : q < A.length
        · obtain ⟨ba, oa, rfl, hba, hca⟩ := HBB.out.at_ (by omega)
          have l0 := cell_kept0 (hca q hql) hkw
          rw [show A.getD q 0 = lg A q from rfl] at l0
          have HTAK : Hid ((A.take (q + 1)).map toldN = (A.take q).map toldN ++ [toldN (lg A q)]) := take_snoc9 hql
          clear hca hkw hP ho hm1
          generalize lg A q = y at *
          rcases (show y = 0 ∨ y = 1 ∨ y = 2 ∨ y = 3 ∨ y = 4 ∨ 5 ≤ y by omega) with hy0 | hy1 | hy2 | hy3 | hy4 | hy5
          · subst hy0
            have HTN : Hid ([toldN 0] = [68]) := rfl
            have hst : ∀ h : 0 < (ByteArray.mk #[68, 82, 71, 89, 70, 63]).size, ((ByteArray.mk #[68, 82, 71, 89, 70, 63])[0]'h).toNat = 68 := fun _ => rfl
            go_wp2_with (at_builtin; refine wpList_join (by rfl) _ _ (by rfl) w.heap.size _ P.length P (by rfl) (own_kept8 HOW.out (Kept.alloc _ _ _ _ none) (fun g _ => by simp)) _ 1 1 [68] (by rfl) (by_one9 wr 68 (by omega)) (fun e => (nomatch e)) (by omega) (by have := HKW.out.size; simp; omega) ?_; intro a2 c2 w2 hm2 hg2)
            go_roundw
            case rel => exact ⟨q + 1, by omega, by go_num, told_step HKW.out HOW.out hg2, P ++ [68], by rw [HP.out, HTAK.out, HTN.out, List.append_assoc], by simp; omega, by rw [List.length_append]; exact hm2.own⟩
            case measure => simp [intOf]; omega
          · subst hy1
            have HTN : Hid ([toldN 1] = [82]) := rfl
            have hst : ∀ h : 1 < (ByteArray.mk #[68, 82, 71, 89, 70, 63]).size, ((ByteArray.mk #[68, 82, 71, 89, 70, 63])[1]'h).toNat = 82 := fun _ => rfl
            go_wp2_with (at_builtin; refine wpList_join (by rfl) _ _ (by rfl) w.heap.size _ P.length P (by rfl) (own_kept8 HOW.out (Kept.alloc _ _ _ _ none) (fun g _ => by simp)) _ 1 1 [82] (by rfl) (by_one9 wr 82 (by omega)) (fun e => (nomatch e)) (by omega) (by have := HKW.out.size; simp; omega) ?_; intro a2 c2 w2 hm2 hg2)
            go_roundw
            case rel => exact ⟨q + 1, by omega, by go_num, told_step HKW.out HOW.out hg2, P ++ [82], by rw [HP.out, HTAK.out, HTN.out, List.append_assoc], by simp; omega, by rw [List.length_append]; exact hm2.own⟩
            case measure => simp [intOf]; omega
          · subst hy2
            have HTN : Hid ([toldN 2] = [71]) := rfl
            have hst : ∀ h : 2 < (ByteArray.mk #[68, 82, 71, 89, 70, 63]).size, ((ByteArray.mk #[68, 82, 71, 89, 70, 63])[2]'h).toNat = 71 := fun _ => rfl
            go_wp2_with (at_builtin; refine wpList_join (by rfl) _ _ (by rfl) w.heap.size _ P.length P (by rfl) (own_kept8 HOW.out (Kept.alloc _ _ _ _ none) (fun g _ => by simp)) _ 1 1 [71] (by rfl) (by_one9 wr 71 (by omega)) (fun e => (nomatch e)) (by omega) (by have := HKW.out.size; simp; omega) ?_; intro a2 c2 w2 hm2 hg2)
            go_roundw
            case rel => exact ⟨q + 1, by omega, by go_num, told_step HKW.out HOW.out hg2, P ++ [71], by rw [HP.out, HTAK.out, HTN.out, List.append_assoc], by simp; omega, by rw [List.length_append]; exact hm2.own⟩
            case measure => simp [intOf]; omega
          · subst hy3
            have HTN : Hid ([toldN 3] = [89]) := rfl
            have hst : ∀ h : 3 < (ByteArray.mk #[68, 82, 71, 89, 70, 63]).size, ((ByteArray.mk #[68, 82, 71, 89, 70, 63])[3]'h).toNat = 89 := fun _ => rfl
            go_wp2_with (at_builtin; refine wpList_join (by rfl) _ _ (by rfl) w.heap.size _ P.length P (by rfl) (own_kept8 HOW.out (Kept.alloc _ _ _ _ none) (fun g _ => by simp)) _ 1 1 [89] (by rfl) (by_one9 wr 89 (by omega)) (fun e => (nomatch e)) (by omega) (by have := HKW.out.size; simp; omega) ?_; intro a2 c2 w2 hm2 hg2)
            go_roundw
            case rel => exact ⟨q + 1, by omega, by go_num, told_step HKW.out HOW.out hg2, P ++ [89], by rw [HP.out, HTAK.out, HTN.out, List.append_assoc], by simp; omega, by rw [List.length_append]; exact hm2.own⟩
            case measure => simp [intOf]; omega
          · subst hy4
            have HTN : Hid ([toldN 4] = [70]) := rfl
            have hst : ∀ h : 4 < (ByteArray.mk #[68, 82, 71, 89, 70, 63]).size, ((ByteArray.mk #[68, 82, 71, 89, 70, 63])[4]'h).toNat = 70 := fun _ => rfl
            go_wp2_with (at_builtin; refine wpList_join (by rfl) _ _ (by rfl) w.heap.size _ P.length P (by rfl) (own_kept8 HOW.out (Kept.alloc _ _ _ _ none) (fun g _ => by simp)) _ 1 1 [70] (by rfl) (by_one9 wr 70 (by omega)) (fun e => (nomatch e)) (by omega) (by have := HKW.out.size; simp; omega) ?_; intro a2 c2 w2 hm2 hg2)
            go_roundw
            case rel => exact ⟨q + 1, by omega, by go_num, told_step HKW.out HOW.out hg2, P ++ [70], by rw [HP.out, HTAK.out, HTN.out, List.append_assoc], by simp; omega, by rw [List.length_append]; exact hm2.own⟩
            case measure => simp [intOf]; omega
          · have HTN : Hid ([toldN y] = [63]) := by show _ = _; rw [toldN_big hy5]
            have hst : ∀ h : 5 < (ByteArray.mk #[68, 82, 71, 89, 70, 63]).size, ((ByteArray.mk #[68, 82, 71, 89, 70, 63])[5]'h).toNat = 63 := fun _ => rfl
            have h5 : (5 : Int) ≤ (y : Int) := by omega
            have hmin : min (5 : Int) (y : Int) = 5 := by omega
            go_wp2_with (at_builtin; refine wpList_join (by rfl) _ _ (by rfl) w.heap.size _ P.length P (by rfl) (own_kept8 HOW.out (Kept.alloc _ _ _ _ none) (fun g _ => by simp)) _ 1 1 [63] (by rfl) (by_one9 wr 63 (by omega)) (fun e => (nomatch e)) (by omega) (by have := HKW.out.size; simp; omega) ?_; intro a2 c2 w2 hm2 hg2)
            go_roundw
            case rel => exact ⟨q + 1, by omega, by go_num, told_step HKW.out HOW.out hg2, P ++ [63], by rw [HP.out, HTAK.out, HTN.out, List.append_assoc], by simp; omega, by rw [List.length_append]; exact hm2.own⟩
            case measure => simp [intOf]; omega
        · have e : q = A.length := by omega
          have HPE : Hid (P = toldL (T.take (k + 1))) := by show _ = _; rw [HP.out, HNX.out, HP00.out, e, List.take_length]
          clear hkw hP ho hm1
          go_wp2
          exact ⟨⟨k + 1, by omega, by go_num, HKW.out, P, HPE.out, by omega, HOW.out⟩, by simp [intOf]; omega⟩
    · have e : k = n := by omega
      have HPE : Hid (P0 = toldL T) := by show _ = _; rw [HP00.out, e, ← HSZ.out, List.take_length]
      have hb : ∀ x ∈ P0, x < 256 := by
        rw [HPE.out]
        intro x hx
        unfold toldL at hx
        simp only [List.mem_flatMap, List.mem_map] at hx
        obtain ⟨_, _, z, _, rfl⟩ := hx
        exact toldN_lt z
      have ht := run_text (hm0.by hb) c0
      clear ho0 hm0 hkw hP0
      go_wp2
      go_ret
      exact ⟨by rw [HPE.out]; rfl, HKW0.out⟩

end Go.Proofs.YtkbhcpgdhbfhnaaDoor

/-
  THE CONTRACTS of runs and alive, of the statements (made by a program).
-/
namespace Go.Proofs.YtkbhcpgdhbfhnaaDoor
open Go.RowKit Go.Lib Go.Deep
set_option linter.unusedVariables false
set_option linter.unusedSimpArgs false

theorem lights_len (cs : List Nat) : ∀ k, k < cs.length / 2 → (tk (lightsL cs) k).length = S8.groups.length := by
  intro k hk
  have : tk (lightsL cs) k = pairL cs k := by unfold lightsL tk; simp [hk]
  rw [this]
  rfl
theorem run8_len (cs : List Nat) : ∀ k, (tk (runV S8 (lightsL cs)) k).length ≤ 100 := by
  intro k
  have hl : (lightsL cs).length = cs.length / 2 := by simp [lightsL]
  by_cases hk : k < (lightsL cs).length
  · rw [runV_tk hk]
    unfold runL
    rw [letV_len, lights_len cs k (by omega)]
    decide
  · have : tk (runV S8 (lightsL cs)) k = [] := by unfold tk; rw [List.getD_eq_getElem?_getD, List.getElem?_eq_none (by rw [runV_len]; omega)]; rfl
    rw [this]; simp
set_option maxRecDepth 100000 in
set_option maxHeartbeats 1000000 in
theorem runs_yes {w : World} (hT : Tabb w) (cs ws : List Nat) (hl : cs.length ≤ 200) (hb : ∀ x ∈ cs, x < 256) (h1 : toldL (runV S8 (lightsL cs)) = ws) : Calls Tryd.prog 9 #[.string (textOf cs), .string (textOf ws)] w fun e w' => e = .returned (.bool true) ∧ Kept w w' none := by
  have HT := Hid.mk' hT
  clear hT
  have HL := Hid.mk' (fun w' => lights_any (w := w') cs hl hb)
  have H1 := Hid.mk' h1
  have HLL := Hid.mk' (lights_len cs)
  have HRL := Hid.mk' (run8_len cs)
  have hn : cs.length / 2 ≤ 100 := by omega
  have HN := Hid.mk' hn
  clear h1 hn hb hl
  generalize cs.length / 2 = n at *
  generalize textOf cs = Sx at *
  generalize lightsL cs = T at *
  obtain ⟨Wx, hWx⟩ : ∃ Wx, textOf ws = Wx := ⟨_, rfl⟩
  have HWX := Hid.mk' hWx
  rw [hWx]
  clear hWx
  go_enter Tryd.func9, Tryd.ntmps9
  go_wp2_with (first
    | (go_at_call 27; have hn := told_any (cp := n) RT.out HN.out HRL.out; rw [H1.out, HWX.out] at hn; refine hn.mono ?_; rintro e w4 ⟨rfl, hk4⟩)
    | (go_at_call 10; refine (grun_go (cp := cL) (SA.out.kept K12.out) (HT.out.kept (K1.out.tr K12.out)) TR.out s8_may (Nat.le_trans HN.out (by omega)) HLL.out).mono ?_; rintro e w3 ⟨b, rfl, hb3, hr3, hk3⟩; have RT := Hid.mk' hr3)
    | (go_at_call 26; refine (HL.out _).mono ?_; rintro e w2 ⟨aL, cL, rfl, hTr, hk2⟩; have TR := Hid.mk' hTr; have K12 := Hid.mk' hk2; clear hTr hk2)
    | (go_at_call 11; refine two_any.mono ?_; rintro e w1 ⟨X, rfl, hsat, hk1⟩; have SA := Hid.mk' hsat; have K1 := Hid.mk' hk1; clear hsat hk1))
  go_ret
  exact ⟨rfl, ((K1.out.tr K12.out).tr hk3).tr hk4⟩
theorem tx_alive1 : (ByteArray.mk #[71, 71, 71, 71, 71, 71, 82, 71, 82, 71, 82, 71, 82, 71, 82, 71]) = textOf [71, 71, 71, 71, 71, 71, 82, 71, 82, 71, 82, 71, 82, 71, 82, 71] := by rfl
theorem tx_alive2 : (ByteArray.mk #[82, 82, 82, 82, 71, 82, 71, 82, 89, 82, 82, 82, 82, 71, 82, 71]) = textOf [82, 82, 82, 82, 71, 82, 71, 82, 89, 82, 82, 82, 82, 71, 82, 71] := by rfl
set_option maxRecDepth 100000 in
set_option maxHeartbeats 1000000 in
theorem galive_any {w : World} (hT : Tabb w) : Calls Tryd.prog 15 #[] w fun e w' => e = .returned (.bool true) ∧ Kept w w' none := by
  have HI := Hid.mk' (runs_yes hT [71, 71, 71, 71, 71, 71, 82, 71, 82, 71, 82, 71, 82, 71, 82, 71] [82, 82, 82, 82, 71, 82, 71, 82, 89, 82, 82, 82, 82, 71, 82, 71] (by decide) (by decide) (by decide +kernel))
  rw [← tx_alive1, ← tx_alive2] at HI
  clear hT
  go_enter Tryd.func15, Tryd.ntmps15
  go_wp2_with (go_at_call 9; refine HI.out.mono ?_; rintro e w1 ⟨rfl, hk1⟩)
  go_ret
  exact ⟨rfl, hk1⟩

end Go.Proofs.YtkbhcpgdhbfhnaaDoor

