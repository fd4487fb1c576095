/-
  THE CONTRACTS of the document's small and Command (made by a program in part).
-/
import Derived.Test.YtnmfigcemknjbaaLnkY
import Derived.Test.YtnmfigcemknjbaaSRefW2
namespace Go.Proofs.Ytnmfigcemknjbaa
open Go.RowKit Go.Lib Go.Deep
set_option linter.unusedVariables false
set_option linter.unusedSimpArgs false

set_option maxRecDepth 100000 in
set_option maxHeartbeats 1000000 in
theorem rsmall20_any {w : World} {b : Option Addr} {m d : Nat} {l : List Int} (hI : Ints w b m d l) (hpos : ∀ x ∈ l, 0 ≤ x) (hlen : m ≤ 1099511627776) :
    Calls Try.prog 45 #[.slice b m d] w fun e w' => ∃ a' c', e = .returned (.slice a' (smlI l).length c') ∧ Mine w' w.heap.size a' (smlI l).length c' (smlI l) ∧ Kept w w' none := by
  have HI := Hid.mk' hI
  have HPOS := Hid.mk' hpos
  have hsz := hI.size
  have HSZ := Hid.mk' hsz
  have hrng := hI.rng
  have HR := Hid.mk' hrng
  clear hI hpos hsz hrng
  go_enter Try.func45, Try.ntmps45
  go_wp2
  go_loopw [3, 4] (fun s i wr => ∃ k : Nat, k ≤ m ∧ i = .int .i64 k ∧ ∃ a1 n1 c1, s = .slice a1 n1 c1 ∧ n1 = (smlI (l.take k)).length ∧ n1 ≤ 10 * k ∧ Mine wr w.heap.size a1 n1 c1 (smlI (l.take k)) ∧ Kept w wr none) (fun _ i _ => m - (intOf i).toNat)
  case atStart => exact ⟨0, Nat.zero_le _, rfl, none, 0, 0, rfl, by simp [smlI], by omega, by simpa [smlI] using Mine.empty _ _, Kept.refl _ _⟩
  case round =>
    obtain ⟨k, hk, rfl, a1, n1, c1, rfl, hn1, hle, hMi, hkw⟩ := hrel
    have HMI := Hid.mk' hMi
    have HN1 := Hid.mk' hn1
    have HKW := Hid.mk' hkw
    clear hMi hn1
    by_cases hlt : k < m
    · obtain ⟨bi, oi, rfl, hbi, hci⟩ := (HI.out.kept hkw).at_ (by omega)
      have kc := hci k hlt
      have hkl : k < l.length := by have := HSZ.out; omega
      have hv0 := HPOS.out (l.getD k 0) (getD_mem hkl)
      have hv1 := (HR.out (l.getD k 0) (getD_mem hkl)).2
      have hst : smlI (l.take (k + 1)) = smlI (l.take k) ++ sml (l.getD k 0).toNat := by rw [take_snocI hkl, smlI_snoc]
      have HST := Hid.mk' hst
      have hs10 := sml_len10 (l.getD k 0).toNat (by omega)
      have hsp := sml_pos (l.getD k 0).toNat
      clear hci hst hkw
      generalize hv : l.getD k 0 = v at *
      clear hv
      obtain ⟨q, rfl⟩ : ∃ q : Nat, v = (q : Int) := ⟨v.toNat, by omega⟩
      rw [Int.toNat_natCast] at *
      have hwr := HKW.out.size
      go_wp2_with (first
        | (have hgo := O2; clear hgo; at_builtin; refine wpList_join (by rfl) _ _ (by rfl) w.heap.size (.slice a1 n1 c1) n1 (smlI (l.take k)) (by rfl) (own_keptR HMI.out.own K2.out (fun i _ => by simp)) _ _ _ (sml q) (by rfl) O2.out (fun e => by cases e) (by omega) (by have := K2.out.size; omega) ?_; intro a3 c3 w3 hm3 hg3)
        | (go_at_call 46; refine (rsmall_any q _ (by omega)).mono ?_; rintro e w2 ⟨a2, k2, c2, rfl, ho2, hk2⟩; obtain ⟨x2, rfl, rfl⟩ := ho2.some_of hsp; have O2 := Hid.mk' ho2; have K2 := Hid.mk' hk2; clear ho2 hk2))
      go_roundw
      case rel =>
        refine ⟨k + 1, by omega, by go_num, a3, _, c3, rfl, ?_, by omega, ?_, ?_⟩
        · rw [HST.out, List.length_append, HN1.out]
        · rw [HST.out]; exact hm3
        · exact (HKW.out.tr K2.out).newRow hg3 HMI.out.new
      case measure => simp [intOf]; omega
    · have hkk : l.take k = l := List.take_of_length_le (by have := HSZ.out; omega)
      rw [hkk] at HMI HN1
      have e := HN1.out
      subst e
      go_wp2
      go_ret
      exact ⟨a1, c1, rfl, HMI.out, HKW.out⟩
set_option maxRecDepth 100000 in
set_option maxHeartbeats 8000000 in
theorem rcmd20_any (c : Cm) {w : World} {a : Option Addr} {k : Nat} (h : Cok w c a k) : Calls Try.prog 23 #[cmV c a k] w fun e w' => ∃ a' c', e = .returned (.tuple #[.slice a' (cmL c).length c', .int .i64 (cmE c)]) ∧ Mine w' w.heap.size a' (cmL c).length c' (cmL c) ∧ Kept w w' none := by
  have HC := Hid.mk' h
  have hsm := h.ints.cap.max
  have hsr := h.ints.cap.room
  clear h
  by_cases hs : 0 ≤ c.site ∧ c.site ≤ 65535
  case neg =>
    have hE : cmE c = 2 := if_neg hs
    have HE := Hid.mk' hE
    have HL : Hid (cmL c = []) := Hid.mk' (if_neg (by rw [hE]; decide))
    clear hE
    rcases (show c.site < 0 ∨ 65535 < c.site by omega) with h1 | h1
    · go_enter Try.func23, Try.ntmps23
      go_wp2
      go_ret2
      exact ⟨none, 0, by rw [HL.out, HE.out]; rfl, by rw [HL.out]; exact mine_nil _ _, Kept.alloc _ _ _ _ _⟩
    · have h0 : ¬ c.site < 0 := by omega
      go_enter Try.func23, Try.ntmps23
      go_wp2
      go_ret2
      exact ⟨none, 0, by rw [HL.out, HE.out]; rfl, by rw [HL.out]; exact mine_nil _ _, Kept.alloc _ _ _ _ _⟩
  have hEW : cmE c = wholeE [c.plan] := if_pos hs
  have HEW := Hid.mk' hEW
  have hb : ∀ w : World, Plans ((w.alloc (.cells (cmC4 c a k) 39)).alloc (.cells #[.int .i64 c.plan.cycle, .int .i64 c.plan.offset, .slice a c.plan.splits.length k] 94)) (some ⟨w.heap.size + 1, 0, none⟩) 1 1 [c.plan] ∨ ¬ Cok w c a k := fun w => by
    by_cases q : Cok w c a k
    · left
      have := plans_oneL (w.alloc (.cells (cmC4 c a k) 39)) c.plan a k ((q.kept (Kept.alloc _ _ _ _ _)).ints) q.cyc q.off
      rw [World.size_alloc] at this
      exact this
    · exact .inr q
  have HPL := Hid.mk' ((hb w).resolve_right (fun q => q HC.out))
  have A0 := Hid.mk' (c4_alloc w (.int .i64 c.site) (.int .i64 c.plan.cycle) (.int .i64 c.plan.offset) (.slice a c.plan.splits.length k) 39)
  clear hb hEW
  by_cases hE : cmE c = 0
  case neg =>
    have HL : Hid (cmL c = []) := Hid.mk' (if_neg hE)
    have hne : ((cmE c) != 0) = true := by simpa using hE
    have HW := Hid.mk' (rwhole_any HPL.out)
    rw [← HEW.out] at HW
    clear hE
    go_enter Try.func23, Try.ntmps23
    go_wp2_with (go_at_call 44; refine HW.out.mono ?_; rintro e w2 ⟨a2, c2, rfl, _, hk2⟩)
    go_ret2
    exact ⟨none, 0, by rw [HL.out]; rfl, by rw [HL.out]; exact mine_nil _ _, ((Kept.alloc _ _ _ _ _).tr (Kept.alloc _ _ _ _ _)).tr hk2⟩
  have hL : cmL c = smlI [c.site, c.plan.cycle, c.plan.offset, (c.plan.splits.length : Int)] ++ smlI c.plan.splits := by
    rw [← smlI_append]; exact if_pos hE
  have HL := Hid.mk' hL
  have HOK := Hid.mk' (cm_ok hE)
  have hlen : c.plan.splits.length ≤ 8 := (cm_ok hE).2.2.2.1
  have HE := Hid.mk' hE
  have HW := Hid.mk' (rwhole_any HPL.out)
  rw [← HEW.out, hE] at HW
  clear hL hE
  have h10 : (smlI [c.site, c.plan.cycle, c.plan.offset, (c.plan.splits.length : Int)]).length ≤ 40 := by
    have := smlI_len [c.site, c.plan.cycle, c.plan.offset, (c.plan.splits.length : Int)] (fun y hy => by
      obtain ⟨q1, q2, q3, q4, _⟩ := HOK.out
      simp only [List.mem_cons, List.not_mem_nil, or_false] at hy
      rcases hy with rfl | rfl | rfl | rfl <;> omega)
    simpa using this
  have h80 : (smlI c.plan.splits).length ≤ 80 := by
    have := smlI_len c.plan.splits (fun y hy => by have := HOK.out.2.2.2.2 y hy; omega)
    omega
  have HPOS : Hid (∀ x ∈ [c.site, c.plan.cycle, c.plan.offset, (c.plan.splits.length : Int)], 0 ≤ x) := Hid.mk' (fun y hy => by
      obtain ⟨q1, q2, q3, q4, _⟩ := HOK.out
      simp only [List.mem_cons, List.not_mem_nil, or_false] at hy
      rcases hy with rfl | rfl | rfl | rfl <;> omega)
  generalize hM1 : smlI [c.site, c.plan.cycle, c.plan.offset, (c.plan.splits.length : Int)] = M1 at *
  have HM1 := Hid.mk' hM1
  generalize hM2 : smlI c.plan.splits = M2 at *
  have HM2 := Hid.mk' hM2
  have M2LT : Hid (∀ x ∈ M2, x < 256) := Hid.mk' (by rw [← hM2]; exact smlI_lt _)
  clear hM1 hM2
  go_enter Try.func23, Try.ntmps23
  go_wp2_with (first
    | (have hgo := P4; clear hgo; at_builtin; refine wpList_join (by rfl) _ _ (by rfl) w.heap.size (.slice a3 M1.length c3) M1.length M1 (by rfl) (own_keptR P3.out.own K4.out (fun i _ => by simp)) a4 _ c4 M2 (by rfl) (P4.out.by M2LT.out) (fun e => (P4.out.nil e).2) (by omega) (by have := KW4.out.size; omega) ?_; intro a5 c5 w5 hm5 hg5; clear P4)
    | (have hgo := P3; clear hgo; go_at_call 45; have HS := Hid.mk' (rsmall20_any (HC.out.kept K3.out).ints (fun x hx => (HOK.out.2.2.2.2 x hx).1) (by omega)); rw [HM2.out] at HS; refine HS.out.mono ?_; rintro e w4 ⟨a4, c4, rfl, hm4, hk4⟩; have P4 := Hid.mk' hm4; have K4 := Hid.mk' hk4; have KW4 := Hid.mk' (K3.out.tr hk4); clear hm4 hk4 HS)
    | (have hgo := B2; clear hgo; go_at_call 45; have HS := Hid.mk' (rsmall20_any (ints4 w2 c.site c.plan.cycle c.plan.offset (c.plan.splits.length : Int) HC.out.site HC.out.cyc HC.out.off (by unfold i64B; omega) 3) HPOS.out (by omega)); rw [HM1.out] at HS; refine HS.out.mono ?_; rintro e w3 ⟨a3, c3, rfl, hm3, hk3⟩; have hk := (Kept.alloc w2 #[.int .i64 c.site, .int .i64 c.plan.cycle, .int .i64 c.plan.offset, .int .i64 (c.plan.splits.length : Int)] 3 (0, 0) none).tr hk3; have K3 := Hid.mk' (K2.out.tr hk); have P3 := Hid.mk' (hm3.lower (b2 := w.heap.size) (by have := K2.out.size; simp; omega)); clear c0 c1 c2 c3'; obtain ⟨c0, c1, c2, c3'⟩ := B2.out.kept hk (by simp); clear hm3 hk3 hk HS B2)
    | (go_at_call 44; refine HW.out.mono ?_; rintro e w2 ⟨a2, k2, rfl, _, hk2⟩; have hk := (Kept.alloc (w.alloc (.cells (cmC4 c a k) 39)) #[.int .i64 c.plan.cycle, .int .i64 c.plan.offset, .slice a c.plan.splits.length k] 94 (0, 0) none).tr hk2; have B2 := Hid.mk' (A0.out.kept hk (by simp)); obtain ⟨c0, c1, c2, c3'⟩ := B2.out; have K2 := Hid.mk' ((Kept.alloc w (cmC4 c a k) 39 (0, 0) none).tr hk); clear hk hk2 A0))
  go_ret2
  have hP := hm5
  refine ⟨a5, c5, ?_, ?_, KW4.out.newRow hg5 (fun i hi => (P3.out.own.lt i hi).1)⟩
  · rw [HE.out, HL.out, List.length_append]; rfl
  · rw [HL.out, List.length_append]; exact hP

end Go.Proofs.Ytnmfigcemknjbaa
