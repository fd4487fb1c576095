/-
  THE DOCUMENT's ends, asked, slot.
-/
import Derived.Test.YtlabjamkaebnjaaStoR3
import Derived.Test.YtlabjamkaebnjaaStoB
import Derived.Test.YtlabjamkaebnjaaSBlkR
namespace Go.Proofs.Ytlabjamkaebnjaa
open Go.RowKit Go.Lib Go.Deep
set_option linter.unusedVariables false
set_option linter.unusedSimpArgs false

theorem row1k (w : World) (v : Value) (t : TypeId) : (w.alloc (.cells #[v] t)).rowIs w.heap.size t 1 (fun _ => v) := World.rowIs_alloc w #[v] t _ (fun i hi => by simp at hi; subst hi; rfl)
theorem rends_any {a : Option Addr} {c : Nat} {L : List Nat} {w : World} (h : Come w a 64 c L) :
    Calls Try.prog 52 #[.slice a 64 c] w fun e w' => e = .returned (.tuple #[.int .u64 ((begN L : Nat) : Int), .int .u64 ((endN L : Nat) : Int)]) ∧ Kept w w' none := by
  obtain ⟨b, off, rfl, hb, _⟩ := h.by_.at_ (by omega)
  have HS := Hid.mk' (h.by_.subN (i := 0) (k := 8) (by omega))
  have HT := Hid.mk' (h.by_.subN (i := 56) (k := 8) (by omega))
  rw [List.drop_zero, Nat.add_zero] at HS
  have hs := h.by_.size
  have HN : Hid (getN (L.take 8) = begN L) := Hid.mk' (by rw [getN_8 (by rw [List.length_take]; omega)]; rfl)
  have HN2 : Hid (getN ((L.drop 56).take 8) = endN L) := Hid.mk' (by
    rw [List.take_of_length_le (by rw [List.length_drop]; omega), getN_8 (by rw [List.length_drop]; omega)]
    rfl)
  have HE : Hid (getE (L.take 8) = 0) := Hid.mk' (by unfold getE; rw [if_pos (by rw [List.length_take]; omega)])
  have HE2 : Hid (getE ((L.drop 56).take 8) = 0) := Hid.mk' (by unfold getE; rw [if_pos (by rw [List.length_take, List.length_drop]; omega)])
  have hr := h.room
  have hm := h.max
  have M0 := Hid.mk' True.intro
  clear h hs
  go_enter Try.func52, Try.ntmps52
  go_wp2_with (first
    | (have hgo := M1; clear hgo; go_at_call 68; refine (rget_all HB2.out).mono ?_; rintro e w3 ⟨rfl, m3, rfl⟩; clear M1)
    | (have hgo := M0; clear hgo; go_at_call 68; refine (rget_all HS.out).mono ?_; rintro e w2 ⟨rfl, m, rfl⟩; have HB2 := Hid.mk' (HT.out.kept (kept_drwN w m)); have M1 := Hid.mk' True.intro; clear M0))
  go_ret2
  exact ⟨by rw [HN.out, HN2.out]; rfl, kept_drwN _ _⟩

theorem rasked19_any (a : Option Addr) (n c : Nat) (w : World) (hn : n ≤ 9223372036854775807) : Calls Try.prog 23 #[dvV a n c] w fun e w' => e = .returned (.int .i64 (askE n)) ∧ Kept w w' none := by
  have HC := Hid.mk' (fun w' => rchk_any a n c w' hn)
  have HM := Hid.mk' (fun w' => rman_any a n c w' hn)
  have RK := Hid.mk' (row1k w (.slice a n c) 24)
  have M0 := Hid.mk' True.intro
  rcases chk_cases n with ⟨h, h1, h2, h3⟩ | h
  · rw [h] at HC
    by_cases hq : n / 64 = 1
    · have hE : askE n = 190 := by unfold askE; rw [if_pos h, if_pos hq]
      rw [hE]
      rw [hq] at HM
      clear h hE h1 h2 h3 hq
      go_enter Try.func23, Try.ntmps23
      go_wp2_with (first
        | (have hgo := M1; clear hgo; go_at_call 29; refine (HM.out _).mono ?_; rintro e w3 ⟨rfl, hk3⟩; have K3 := Hid.mk' (K2.out.tr hk3); clear hk3 M1)
        | (have hgo := M0; clear hgo; go_at_call 39; refine (HC.out _).mono ?_; rintro e w2 ⟨rfl, hk2⟩; have K2 := Hid.mk' ((Kept.alloc w #[.slice a n c] 24 (0, 0) none).tr hk2); replace RK := Hid.mk' (rowK RK.out hk2); have k0 : w2.cell? ⟨w.heap.size, 0, none⟩ = some (.slice a n c) := RK.out.cell (i := 0) (by omega); have M1 := Hid.mk' True.intro; clear hk2 M0))
      go_ret
      exact ⟨rfl, K3.out⟩
    · have hE : askE n = 0 := by unfold askE; rw [if_pos h, if_neg hq]
      rw [hE]
      have hq2 : n / 64 ≤ 64 := by omega
      have hq1 : 2 ≤ n / 64 := by omega
      generalize n / 64 = q at *
      have hq' : ¬ (q : Int) < 2 := by omega
      clear h hE h1 h2 h3 hq
      go_enter Try.func23, Try.ntmps23
      go_wp2_with (first
        | (have hgo := M1; clear hgo; go_at_call 29; refine (HM.out _).mono ?_; rintro e w3 ⟨rfl, hk3⟩; have K3 := Hid.mk' (K2.out.tr hk3); clear hk3 M1)
        | (have hgo := M0; clear hgo; go_at_call 39; refine (HC.out _).mono ?_; rintro e w2 ⟨rfl, hk2⟩; have K2 := Hid.mk' ((Kept.alloc w #[.slice a n c] 24 (0, 0) none).tr hk2); replace RK := Hid.mk' (rowK RK.out hk2); have k0 : w2.cell? ⟨w.heap.size, 0, none⟩ = some (.slice a n c) := RK.out.cell (i := 0) (by omega); have M1 := Hid.mk' True.intro; clear hk2 M0))
      go_ret
      exact ⟨rfl, K3.out⟩
  · have hE : askE n = 180 := by unfold askE; rw [h]; rfl
    rw [h] at HC
    rw [hE]
    clear h hE HM
    go_enter Try.func23, Try.ntmps23
    go_wp2_with (have hgo := M0; clear hgo; go_at_call 39; refine (HC.out _).mono ?_; rintro e w2 ⟨rfl, hk2⟩; have K2 := Hid.mk' ((Kept.alloc w #[.slice a n c] 24 (0, 0) none).tr hk2); replace RK := Hid.mk' (rowK RK.out hk2); have k0 : w2.cell? ⟨w.heap.size, 0, none⟩ = some (.slice a n c) := RK.out.cell (i := 0) (by omega); clear hk2 M0)
    go_ret
    exact ⟨rfl, K2.out⟩

set_option maxRecDepth 100000 in
theorem rblockF_any {b off n c : Nat} {i : Int} {L : List Nat} (w : World) (hC : Come w (some ⟨b, off, none⟩) n c L) (h0 : 0 ≤ i) (h1 : 64 * i + 64 ≤ (n : Int)) (hn : n ≤ 4096) : Calls Try.prog 53 #[dvV (some ⟨b, off, none⟩) n c, .int .i64 i] w fun e w' => ∃ a' c', e = .returned (.slice a' 64 c') ∧ Rv w w' a' 64 c' (blD L i.toNat) ∧ Kept w w' none := by
  obtain ⟨k, rfl⟩ := Int.eq_ofNat_of_zero_le h0
  have hk : 64 * k + 64 ≤ n := by omega
  have hr := hC.room
  have hm := hC.max
  have hl := hC.by_.size
  have hck : ¬ c = k * 64 := by omega
  have HB : Hid (By (w.alloc (.cells (dvC (some ⟨b, off, none⟩) n c) 24)) (some ⟨b, off + k * 64, none⟩) 64 (blD L k)) := Hid.mk' (by
    obtain ⟨q1, q2, q3, q4⟩ := hC.by_.kept (Kept.alloc w (dvC (some ⟨b, off, none⟩) n c) 24 (0, 0) none)
    obtain ⟨b', off', e, q5, q6⟩ := q4 (by omega)
    injection e with e
    injection e with e1 e2 e3
    subst e1 e2
    refine ⟨by rw [blD_len (by omega)], by omega, fun x hx => q3 x (List.mem_of_mem_drop (List.mem_of_mem_take hx)), fun _ => ⟨b, off + k * 64, rfl, q5, fun j hj => ?_⟩⟩
    rw [blD_get hj, Nat.add_assoc, q6 _ (by omega), Nat.mul_comm k 64])
  have HB2 : Hid (By (w.alloc (.cells (dvC (some ⟨b, off, none⟩) n c) 24)) (some ⟨b, off + k * 64, none⟩) (k * 64 + 64 - k * 64) (blD L k)) := Hid.mk' (by rw [Nat.add_sub_cancel_left]; exact HB.out)
  have hle : (k : Int) * 64 ≤ (k : Int) * 64 + 64 := by omega
  have hlc : (k : Int) * 64 + 64 ≤ c := by omega
  have hlcn : k * 64 + 64 ≤ c := by omega
  clear h0 h1 hl hC
  go_enter Try.func53, Try.ntmps53
  go_wp2_with (at_builtin; refine wpList_ap0 (by rfl) _ _ (by rfl) w.heap.size (by rfl) (some ⟨b, off + k * 64, none⟩) (k * 64 + 64 - k * 64) (c - k * 64) (blD L k) (by rfl) HB2.out (fun e => (nomatch e)) (by omega) (by simp) ?_; intro a' cap w2 hm2 hk2; rw [Nat.add_sub_cancel_left] at hm2 ⊢; have HM := Hid.mk' hm2; clear hm2)
  go_ret
  refine ⟨a', cap, rfl, ?_, (Kept.alloc _ _ _ _ _).tr hk2⟩
  exact mine_rv (w0 := w) HM.out HB.out.lt (Nat.le_refl _)
theorem Rv.fresh {w0 w : World} {a : Option Addr} {n c : Nat} {L : List Nat} (h : Rv w0 w a n c L) : ∀ x, a = some x → w0.heap.size ≤ x.block := by
  intro x e
  rcases h.at_ with ⟨q, _⟩ | ⟨g, q, hg, _⟩
  · rw [q] at e; cases e
  · rw [q] at e; cases e; exact hg

set_option maxRecDepth 100000 in
set_option maxHeartbeats 2000000 in
theorem rslot_any {b off n c : Nat} {L : List Nat} {i : Nat} (w : World) (hC : Come w (some ⟨b, off, none⟩) n c L) (hA : askE n = 0) (hi : i ≤ 1) : Calls Try.prog 32 #[dvV (some ⟨b, off, none⟩) n c, .int .i64 (i : Int)] w fun e w' => ∃ a' c', e = .returned (.slice a' (manK n) c') ∧ Bl w' w.heap.size a' (manK n) (sltB L i) ∧ Kept w w' none := by
  obtain ⟨k1, k2, k3, k4, k5, k6, k7⟩ := ask_ok hA
  have hn : n ≤ 9223372036854775807 := by omega
  have hl := hC.by_.size
  have HM := Hid.mk' (fun w' => rman_any (some ⟨b, off, none⟩) n c w' hn)
  have HC := Hid.mk' (hC.kpt (Kept.alloc w #[.slice (some ⟨b, off, none⟩) n c] 24 (0, 0) none))
  have HGET : Hid (∀ j, j < manK n → (sltB L i).getD j [] = blD L (i * manK n + j)) := Hid.mk' (fun j hj => by rw [← hl] at hj ⊢; exact sl_get hj)
  have HLEN : Hid ((sltB L i).length = manK n) := Hid.mk' (by rw [sl_len, hl])
  have H64 := Hid.mk' (slt_64 (L := L) (i := i) (by rw [hl]; exact hA) hi)
  have RK := Hid.mk' (row1k w (.slice (some ⟨b, off, none⟩) n c) 24)
  have hmq : n / 64 / 2 = manK n := rfl
  have hq2 : n / 64 ≤ 64 := by omega
  clear hC hl k7 hA
  generalize manK n = m at *
  generalize n / 64 = q at *
  have hqm : (q : Int) / 2 = (m : Int) := by omega
  have him : i * m + m ≤ 64 := by have := Nat.mul_le_mul_right m hi; omega
  have hin : 64 * (i * m + m) ≤ n := by have := Nat.mul_le_mul_right m hi; omega
  have hii : (i : Int) * (m : Int) = ((i * m : Nat) : Int) := by simp
  generalize i * m = s at *
  clear hmq
  go_enter Try.func32, Try.ntmps32
  go_wp2_with (go_at_call 29; refine (HM.out _).mono ?_; rintro e w2 ⟨rfl, hk2⟩; have K2 := Hid.mk' ((Kept.alloc w #[.slice (some ⟨b, off, none⟩) n c] 24 (0, 0) none).tr hk2); replace RK := Hid.mk' (rowK RK.out hk2); replace HC := Hid.mk' (HC.out.kpt hk2); clear hk2)
  go_loopw [6, 7] (fun ov iv wr => ∃ k : Nat, k ≤ m ∧ iv = .int .i64 ((s + k : Nat) : Int) ∧ Ol wr w2.heap.size ov k (sltB L i) ∧ Kept w2 wr none) (fun _ iv _ => s + m - (intOf iv).toNat)
  case atStart => exact ⟨0, Nat.zero_le _, by go_num, Ol.zero _ _ _, Kept.refl _ _⟩
  case round =>
    obtain ⟨k, hk, rfl, hol, hkw⟩ := hrel
    have OL := Hid.mk' hol
    have KI := Hid.mk' hkw
    clear hol hkw
    replace RK := Hid.mk' (rowK RK.out KI.out)
    have g0 : wr.cell? ⟨w.heap.size, 0, none⟩ = some (.slice (some ⟨b, off, none⟩) n c) := RK.out.cell (i := 0) (by omega)
    replace HC := Hid.mk' (HC.out.kpt KI.out)
    have hs1 := KI.out.size
    by_cases hlt : k < m
    · obtain ⟨r, hr1, hr2⟩ := OL.out.ex
      obtain ⟨i0, hi0, hz0, hz1, hz2⟩ := info_parts Try.infoB2
      have HR1 := Hid.mk' hr1
      have HR2 := Hid.mk' hr2
      have HLT : Hid (∀ q, u6.ownBlock = some q → q < wr.heap.size) := Hid.mk' (fun q hq => (own_lt HR1.out q hq).2)
      have HBK := Hid.mk' (HGET.out k hlt)
      have HBL2 : Hid (Calls Try.prog 53 #[dvV (some ⟨b, off, none⟩) n c, .int .i64 ((s + k : Nat) : Int)] wr fun e w' => ∃ a' c', e = .returned (.slice a' 64 c') ∧ Rv wr w' a' 64 c' (blD L (s + k)) ∧ Kept wr w' none) := Hid.mk' (by
        have h := rblockF_any (i := ((s + k : Nat) : Int)) wr HC.out (by omega) (by omega) (by omega)
        exact h)
      have MA := Hid.mk' True.intro
      clear hr1 hr2
      go_wp2_with (first
        | (have hgo := MB; clear hgo; at_builtin; refine wpList_append_own_at _ (by rfl) _ _ 64 (by rfl) w2.heap.size 22 i0 (.slice none 0 0) 1 24 Try.uB2 hi0 hz0 hz1 hz2 rfl (by decide) u6 k _ (by rfl) (own_keptR HR1.out (KZ.out.tr (Kept.alloc _ _ _ _ _)) (fun i _ => by simp)) ⟨wz.heap.size, 0, none⟩ 1 1 [.slice az 64 cz] (by rfl) rfl (cell_one_new _ _ _) (by simp [Value.oneCell']) (by unfold maxLen; omega) (by omega) (by have := KZ.out.size; simp; omega) ?_; intro v' wo hown' hgo' _ hblk; have HO := Hid.mk' hown'; have HG := Hid.mk' hgo'; have HBL := Hid.mk' hblk; clear hown' hgo' hblk MB)
        | (have hgo := MA; clear hgo; go_at_call 53; refine HBL2.out.mono ?_; rintro e wz ⟨az, cz, rfl, hz, hkz⟩; have X3 := Hid.mk' hz; have KZ := Hid.mk' hkz; have MB := Hid.mk' True.intro; clear hz hkz MA))
      have KZA : Kept wr (wz.alloc (.cells #[.slice az 64 cz] 22)) none := KZ.out.tr (Kept.alloc _ _ _ _ _)
      have hC3 : Come (wz.alloc (.cells #[.slice az 64 cz] 22)) az 64 cz ((sltB L i).getD k []) := by
        rw [HBK.out]
        exact X3.out.come.kpt (Kept.alloc _ _ _ _ _)
      have hol2 : Ol wo w2.heap.size v' (k + 1) (sltB L i) := Ol.push (fun j hj => ⟨(HR2.out j hj).1.kpt KZA, (HR2.out j hj).2⟩) HG.out hC3
        (fun x e => by
          have h1 := X3.out.fresh x e
          exact ⟨Nat.le_trans hs1 h1, fun q => by have := HLT.out _ q; omega⟩) HO.out HBL.out
      have hk2 : Kept w2 wo none := (KI.out.tr KZA).newRow HG.out (fun q hq => (own_lt HR1.out q hq).1)
      exact ⟨⟨k + 1, by omega, by go_num, hol2, hk2⟩, by simp [intOf]; omega⟩
    · obtain rfl : k = m := by omega
      obtain ⟨ao, co, rfl, hbl⟩ := OL.out.bl HLEN.out H64.out (by omega)
      have HBL := Hid.mk' hbl
      clear hbl
      go_wp2
      go_ret
      exact ⟨ao, co, rfl, HBL.out.mono K2.out.size, K2.out.tr KI.out⟩

end Go.Proofs.Ytlabjamkaebnjaa
