/-
  THE WALK of the document's Inside.
-/
import Derived.Test.YtcjkghajeohfjaaDoorRefW2
namespace Go.Proofs.YtcjkghajeohfjaaDoor
open Go.RowKit Go.Lib Go.Deep
set_option linter.unusedVariables false
set_option linter.unusedSimpArgs false

/-- The document's small, at a list that grows. -/
theorem rlit {wr w1 : World} {b : Option Addr} {m d : Nat} {l : List Int} (hk1 : Kept wr w1 none) (hI : Ints w1 b m d l) (hpos : ∀ x ∈ l, 0 ≤ x) (hlen : m ≤ 1099511627776) :
    Calls Tryd.prog 30 #[.slice b m d] w1 fun e w' => ∃ a' c', e = .returned (.slice a' (smlI l).length c') ∧ Mine w' wr.heap.size a' (smlI l).length c' (smlI l) ∧ Kept wr w' none :=
  (rsmalls_any hI hpos hlen).mono fun e w' ⟨a', c', he, hm, hkk⟩ => ⟨a', c', he, hm.lower hk1.size, hk1.tr hkk⟩

set_option maxRecDepth 100000 in
set_option maxHeartbeats 8000000 in
theorem rinside_any {X : Sa} {S : St} {w : World} (h : Sat w X S) (hP : Pos S) (hWh : wholeE S.plans = 0) : Calls Tryd.prog 22 #[siteV X S] w fun e w' => ∃ a' c', e = .returned (.slice a' (siteL S).length c') ∧ Mine w' w.heap.size a' (siteL S).length c' (siteL S) ∧ Kept w w' none := by
  have hsb := sbox_alloc h 29
  have hk0 : Kept w (w.alloc (.cells #[.int .i64 S.id, .slice X.g S.groups.length X.gc, .slice X.a S.apart.length X.ac, .slice X.b S.between.length X.bc, .slice X.p S.phases.length X.pc, .slice X.e S.eyes.length X.ec, .int .i64 S.watch, .int .i64 S.feed, .int .i64 S.heal, .int .i64 S.low, .int .i64 S.high, .slice X.l S.plans.length X.lc] 29)) none := Kept.alloc _ _ _ _ _
  have h12 := hsb
  have HPO := Hid.mk' hP
  have HWH := Hid.mk' hWh
  clear hWh
  have hg16 := hP.ok.ng
  have hp8 := hP.ok.np
  have he24 := hP.ok.ne
  have ha16 : S.apart.length ≤ 16 := by have := hP.ok.na; omega
  have hb16 : S.between.length ≤ 16 := by have := hP.ok.nb; omega
  have hid := hP.id
  have hnr := h.nr
  unfold i64B at hnr
  have hs0 : (w.alloc (.cells #[.int .i64 S.id, .slice X.g S.groups.length X.gc, .slice X.a S.apart.length X.ac, .slice X.b S.between.length X.bc, .slice X.p S.phases.length X.pc, .slice X.e S.eyes.length X.ec, .int .i64 S.watch, .int .i64 S.feed, .int .i64 S.heal, .int .i64 S.low, .int .i64 S.high, .slice X.l S.plans.length X.lc] 29)).heap.size = w.heap.size + 1 := World.size_alloc _ _
  have hI0 : Ints ((w.alloc (.cells #[.int .i64 S.id, .slice X.g S.groups.length X.gc, .slice X.a S.apart.length X.ac, .slice X.b S.between.length X.bc, .slice X.p S.phases.length X.pc, .slice X.e S.eyes.length X.ec, .int .i64 S.watch, .int .i64 S.feed, .int .i64 S.heal, .int .i64 S.low, .int .i64 S.high, .slice X.l S.plans.length X.lc] 29)).alloc (.cells #[.int .i64 S.id, .int .i64 (S.groups.length : Int)] 3)) (some ⟨w.heap.size + 1, 0, none⟩) 2 2 [S.id, (S.groups.length : Int)] := by
    have h0 := ints_of (w.alloc (.cells #[.int .i64 S.id, .slice X.g S.groups.length X.gc, .slice X.a S.apart.length X.ac, .slice X.b S.between.length X.bc, .slice X.p S.phases.length X.pc, .slice X.e S.eyes.length X.ec, .int .i64 S.watch, .int .i64 S.feed, .int .i64 S.heal, .int .i64 S.low, .int .i64 S.high, .slice X.l S.plans.length X.lc] 29)) [S.id, (S.groups.length : Int)] 3 (fun x hx => (by
      simp only [List.mem_cons, List.mem_nil_iff, or_false] at hx
      rcases hx with rfl | rfl <;> omega)) (by simp)
    rw [hs0] at h0
    exact h0
  have hsl0 : (smlI [S.id, (S.groups.length : Int)]).length ≤ 20 := smlI_le (m := 2) (fun x hx => (hI0.rng x hx).2) (by simp)
  have hpos0 : ∀ x ∈ [S.id, (S.groups.length : Int)], 0 ≤ x := fun x hx => by
    simp only [List.mem_cons, List.mem_nil_iff, or_false] at hx
    rcases hx with rfl | rfl <;> omega
  have hcall0 := rlit (Kept.alloc _ _ _ _ _) hI0 hpos0 (by omega)
  have HC0 := Hid.mk' hcall0
  have HSB := Hid.mk' hsb
  have HK0 := Hid.mk' hk0
  have HS0 := Hid.mk' hs0
  clear h hP hsb hk0 h12 hcall0 hI0 hpos0 hs0
  go_enter Tryd.func22, Tryd.ntmps22
  go_wp2_with (go_at_call 30; refine HC0.out.mono ?_; rintro e w1 ⟨a1, c1, rfl, hm1, hk1⟩; have c1' := (HSB.out.kept hk1).c1)
  have HL : Hid (Lst (w.alloc (.cells #[.int .i64 S.id, .slice X.g S.groups.length X.gc, .slice X.a S.apart.length X.ac, .slice X.b S.between.length X.bc, .slice X.p S.phases.length X.pc, .slice X.e S.eyes.length X.ec, .int .i64 S.watch, .int .i64 S.feed, .int .i64 S.heal, .int .i64 S.low, .int .i64 S.high, .slice X.l S.plans.length X.lc] 29)) w1 a1 (smlI [S.id, (S.groups.length : Int)]).length c1 (I1 S) 20) := ⟨hm1, rfl, by omega, hk1⟩
  clear hm1 hk1 HC0
  generalize hW0 : w.alloc (.cells #[.int .i64 S.id, .slice X.g S.groups.length X.gc, .slice X.a S.apart.length X.ac, .slice X.b S.between.length X.bc, .slice X.p S.phases.length X.pc, .slice X.e S.eyes.length X.ec, .int .i64 S.watch, .int .i64 S.feed, .int .i64 S.heal, .int .i64 S.low, .int .i64 S.high, .slice X.l S.plans.length X.lc] 29) = W0 at *
  have hw0 : W0.heap.size = w.heap.size + 1 := HS0.out
  clear hW0 c1' HS0
  go_loopw [3, 4] (fun s i wr => ∃ k : Nat, k ≤ S.groups.length ∧ i = .int .i64 k ∧ ∃ a1 n1 c1, s = .slice a1 n1 c1 ∧ Lst W0 wr a1 n1 c1 (I2 S k) (20 + 30 * k)) (fun _ i _ => S.groups.length - (intOf i).toNat)
  case atStart => exact ⟨0, Nat.zero_le _, rfl, _, _, _, rfl, HL.out.at0 (by simp [I2]) (by omega) (by omega)⟩
  case round =>
    clear HL
    obtain ⟨k, hk, rfl, a1, n1, c1, rfl, hL⟩ := hrel
    have hle := hL.le
    have hkw := hL.kept
    have HL := Hid.mk' hL
    clear hL
    have cc1 := (HSB.out.kept hkw).c1
    by_cases hlt : k < S.groups.length
    · obtain ⟨bg, og, eg, g0', g1', g2'⟩ := HSB.out.sat.grAt hlt
      have hgr := HSB.out.sat.gr _ (getD_mem (d := g0) hlt)
      have hgp := HPO.out.gr k hlt
      have hk256 : (S.gr k).kind < 256 := hgr.1
      have hr1 := hgr.2.1
      have hr2 := hgr.2.2
      unfold i64B at hr1 hr2
      change -9223372036854775808 ≤ (S.gr k).min ∧ (S.gr k).min ≤ 9223372036854775807 at hr1
      change -9223372036854775808 ≤ (S.gr k).yellow ∧ (S.gr k).yellow ≤ 9223372036854775807 at hr2
      clear hgr
      have hpos : ∀ x ∈ ([((S.gr k).kind : Int), (S.gr k).min, (S.gr k).yellow] : List Int), 0 ≤ x := fun x hx => by
        simp only [List.mem_cons, List.mem_nil_iff, or_false] at hx
        rcases hx with rfl | rfl | rfl <;> omega
      have hrg3 : ∀ x ∈ ([((S.gr k).kind : Int), (S.gr k).min, (S.gr k).yellow] : List Int), -9223372036854775808 ≤ x ∧ x ≤ 9223372036854775807 := fun x hx => by
        simp only [List.mem_cons, List.mem_nil_iff, or_false] at hx
        rcases hx with rfl | rfl | rfl <;> omega
      have hI3 : ∀ wx : World, Ints (wx.alloc (.cells #[.int .i64 (((S.gr k).kind : Int)), .int .i64 ((S.gr k).min), .int .i64 ((S.gr k).yellow)] 3)) (some ⟨wx.heap.size, 0, none⟩) 3 3 [((S.gr k).kind : Int), (S.gr k).min, (S.gr k).yellow] := fun wx => ints_of wx [((S.gr k).kind : Int), (S.gr k).min, (S.gr k).yellow] 3 hrg3 (by simp)
      have hcall := rlit ((Kept.alloc wr _ _ _ _).tr (Kept.drew _ _) : Kept wr (wr.alloc (.cells #[.int .i64 (((S.gr k).kind : Int)), .int .i64 ((S.gr k).min), .int .i64 ((S.gr k).yellow)] 3)).drew none) ((hI3 wr).kept (Kept.drew _ _)) hpos (by omega)
      have HWR : Hid (IntKind.i64.wrap ((S.gr k).kind : Int) = ((S.gr k).kind : Int)) := by
        show _ = _
        simp [IntKind.wrap, IntKind.bits, IntKind.signed]; omega
      have hsl : (smlI ([((S.gr k).kind : Int), (S.gr k).min, (S.gr k).yellow] : List Int)).length ≤ 30 := smlI_le (m := 3) (fun x hx => (hrg3 x hx).2) (by simp)
      have HCALL := Hid.mk' hcall
      have HST := Hid.mk' (I2_succ hlt)
      have f1 : ∀ w', Kept W0 w' none → w'.cell? ⟨w.heap.size, 1, none⟩ = some (.slice (some ⟨bg, og, none⟩) S.groups.length X.gc) := fun w' q => (HSB.out.kept q).c1.trans (by rw [eg])
      have G0 := fun (w' : World) (q : Kept W0 w' none) => cell_kept0 g0' q
      have G1 := fun (w' : World) (q : Kept W0 w' none) => cell_kept0 g1' q
      have G2 := fun (w' : World) (q : Kept W0 w' none) => cell_kept0 g2' q
      rw [eg] at cc1
      rw [eg] at *
      clear hcall hpos hrg3 hI3 g0' g1' g2' eg
      go_wp2
      go_region_held_law (fun w' => Kept W0 w' none)
        ((first | assumption | exact Kept.tr hkw (Kept.drew _ _) | exact Kept.tr (Kept.tr hkw (Kept.drew _ _)) (Kept.alloc _ _ _ _ _) | exact Kept.tr hkw K4.out))
        ((first | (have hgo := B4; clear hgo; refine step_joinM (by rfl) _ _ (by rfl) W0.heap.size _ _ _ (by rfl) (own_keptR HL.out.mine.own K4.out (fun i _ => by simp)) a4 _ c4 _ (by rfl) B4.out (fun e => (M4.out.nil e).2) (by have := HL.out.le; omega) (by have := HL.out.kept.size; have := K4.out.size; omega) ?_; intro a3 c3 w3 hm3 hg3; have hk3 := (HL.out.kept.tr K4.out).newRow hg3 HL.out.mine.new) | (go_at_call 30; rw [HWR.out]; refine HCALL.out.mono ?_; rintro e w4 ⟨a4, c4, rfl, hm4, hk4⟩; have M4 := Hid.mk' hm4; have B4 := Hid.mk' (hm4.by (smlI_lt _)); have K4 := Hid.mk' hk4; clear hm4 hk4)))
      go_wp2
      go_roundw
      case rel => exact ⟨k + 1, by omega, by go_num, a3, _, c3, rfl, HL.out.grow hm3 hk3 HST.out (by omega)⟩
      case measure => simp [intOf]; omega
    · have hkk : k = S.groups.length := by omega
      subst hkk
      have c2' := (HSB.out.kept hkw).c2
      go_wp2
      go_loopw [3, 5] (fun s i wr => ∃ k : Nat, k ≤ S.apart.length ∧ i = .int .i64 k ∧ ∃ a1 n1 c1, s = .slice a1 n1 c1 ∧ Lst W0 wr a1 n1 c1 (I3 S k) (500 + 10 * k)) (fun _ i _ => S.apart.length - (intOf i).toNat)
      case atStart => exact ⟨0, Nat.zero_le _, rfl, _, _, _, rfl, HL.out.at0 (by simp [I3]) (by omega) (by omega)⟩
      case round =>
        clear HL
        obtain ⟨k, hk, rfl, a1, n1, c1, rfl, hL⟩ := hrel
        have hle := hL.le
        have hkw := hL.kept
        have HL := Hid.mk' hL
        clear hL
        have cc2 := (HSB.out.kept hkw).c2
        by_cases hlt : k < S.apart.length
        · obtain ⟨ba, oa, ea, hca⟩ := (HSB.out.kept hkw).sat.apAt (n := S.apart.length) (by omega) (by omega)
          have ka := hca k hlt
          have har := HSB.out.sat.apr k
          rw [ea] at cc2
          rw [ea] at *
          clear ea hca
          have hI : Ints (wr.alloc (.cells #[.int .i64 (((S.ap k : Nat) : Int))] 3)) (some ⟨wr.heap.size, 0, none⟩) 1 1 [((S.ap k : Nat) : Int)] := by
            have h0 := ints_of wr [((S.ap k : Nat) : Int)] 3 (fun x hx => (by
              simp only [List.mem_cons, List.mem_nil_iff, or_false] at hx
              subst hx; omega)) (by simp)
            skip
            exact h0
          have hpos : ∀ x ∈ ([((S.ap k : Nat) : Int)] : List Int), 0 ≤ x := fun x hx => by
            simp only [List.mem_cons, List.mem_nil_iff, or_false] at hx
            subst hx; omega
          have hcall := rlit (Kept.alloc wr _ _ _ _ : Kept wr (wr.alloc (.cells #[.int .i64 (((S.ap k : Nat) : Int))] 3)) none) hI hpos (by omega)
          have hsl : (smlI ([((S.ap k : Nat) : Int)] : List Int)).length ≤ 10 := smlI_le (m := 1) (fun x hx => (by
            have := hI.rng x hx
            omega)) (by simp)
          have HCALL := Hid.mk' hcall
          have HST := Hid.mk' (I3_succ hlt)
          clear hcall hI hpos
          go_wp2_with (first | (have hgo := B4; clear hgo; at_builtin; refine wpList_join (by rfl) _ _ (by rfl) W0.heap.size _ _ _ (by rfl) (own_keptR HL.out.mine.own K4.out (fun i _ => by simp)) a4 _ c4 _ (by rfl) B4.out (fun e => (M4.out.nil e).2) (by have := HL.out.le; omega) (by have := HL.out.kept.size; have := K4.out.size; omega) ?_; intro a3 c3 w3 hm3 hg3; have hk3 := (HL.out.kept.tr K4.out).newRow hg3 HL.out.mine.new) | (go_at_call 30; refine HCALL.out.mono ?_; rintro e w4 ⟨a4, c4, rfl, hm4, hk4⟩; have M4 := Hid.mk' hm4; have B4 := Hid.mk' (hm4.by (smlI_lt _)); have K4 := Hid.mk' hk4; clear hm4 hk4))
          go_roundw
          case rel => exact ⟨k + 1, by omega, by go_num, a3, _, c3, rfl, HL.out.grow hm3 hk3 HST.out (by omega)⟩
          case measure => simp [intOf]; omega
        · have hkk : k = S.apart.length := by omega
          subst hkk
          have c3' := (HSB.out.kept hkw).c3
          go_wp2
          go_loopw [3, 6] (fun s i wr => ∃ k : Nat, k ≤ S.between.length ∧ i = .int .i64 k ∧ ∃ a1 n1 c1, s = .slice a1 n1 c1 ∧ Lst W0 wr a1 n1 c1 (I4 S k) (660 + 160 * k)) (fun _ i _ => S.between.length - (intOf i).toNat)
          case atStart => exact ⟨0, Nat.zero_le _, rfl, _, _, _, rfl, HL.out.at0 (by simp [I4]) (by omega) (by omega)⟩
          case round =>
            clear HL
            obtain ⟨k, hk, rfl, a1, n1, c1, rfl, hL⟩ := hrel
            have hle := hL.le
            have hkw := hL.kept
            have HL := Hid.mk' hL
            clear hL
            have cc3 := (HSB.out.kept hkw).c3
            by_cases hlt : k < S.between.length
            · obtain ⟨bb, ob, ar, cr, eb, kb0, hI⟩ := HSB.out.sat.b.at_ hlt
              have kb := cell_kept0 kb0 hkw
              have hrl := HPO.out.row k hlt
              have hbp := HPO.out.bt k hlt
              have hcall := rlit (Kept.refl wr none) (hI.kept hkw) hbp (by omega)
              have hsl := smlI_le (m := 16) (fun x hx => (hI.rng x hx).2) hrl
              have HCALL := Hid.mk' hcall
              have HST := Hid.mk' (I4_succ hlt)
              rw [eb] at cc3
              rw [eb] at *
              clear hcall hI hbp kb0 eb
              generalize S.between.getD k [] = R at *
              go_wp2_with (first | (have hgo := B4; clear hgo; at_builtin; refine wpList_join (by rfl) _ _ (by rfl) W0.heap.size _ _ _ (by rfl) (own_keptR HL.out.mine.own K4.out (fun i _ => by simp)) a4 _ c4 _ (by rfl) B4.out (fun e => (M4.out.nil e).2) (by have := HL.out.le; omega) (by have := HL.out.kept.size; have := K4.out.size; omega) ?_; intro a3 c3 w3 hm3 hg3; have hk3 := (HL.out.kept.tr K4.out).newRow hg3 HL.out.mine.new) | (go_at_call 30; refine HCALL.out.mono ?_; rintro e w4 ⟨a4, c4, rfl, hm4, hk4⟩; have M4 := Hid.mk' hm4; have B4 := Hid.mk' (hm4.by (smlI_lt _)); have K4 := Hid.mk' hk4; clear hm4 hk4))
              go_roundw
              case rel => exact ⟨k + 1, by omega, by go_num, a3, _, c3, rfl, HL.out.grow hm3 hk3 HST.out (by omega)⟩
              case measure => simp [intOf]; omega
            · have hkk : k = S.between.length := by omega
              subst hkk
              have c4' := (HSB.out.kept hkw).c4
              have hI : Ints (wr.alloc (.cells #[.int .i64 (((S.phases.length : Nat) : Int))] 3)) (some ⟨wr.heap.size, 0, none⟩) 1 1 [((S.phases.length : Nat) : Int)] := ints_of wr [((S.phases.length : Nat) : Int)] 3 (fun x hx => (by
                simp only [List.mem_cons, List.mem_nil_iff, or_false] at hx
                subst hx; omega)) (by simp)
              have hpos : ∀ x ∈ ([((S.phases.length : Nat) : Int)] : List Int), 0 ≤ x := fun x hx => by
                simp only [List.mem_cons, List.mem_nil_iff, or_false] at hx
                subst hx; omega
              have hcall := rlit (Kept.alloc wr _ _ _ _ : Kept wr (wr.alloc (.cells #[.int .i64 (((S.phases.length : Nat) : Int))] 3)) none) hI hpos (by omega)
              have hsl : (smlI ([((S.phases.length : Nat) : Int)] : List Int)).length ≤ 10 := smlI_le (m := 1) (fun x hx => (hI.rng x hx).2) (by simp)
              have HCALL := Hid.mk' hcall
              clear hcall hI hpos
              go_wp2_with (first | (have hgo := B4; clear hgo; at_builtin; refine wpList_join (by rfl) _ _ (by rfl) W0.heap.size _ _ _ (by rfl) (own_keptR HL.out.mine.own K4.out (fun i _ => by simp)) a4 _ c4 _ (by rfl) B4.out (fun e => (M4.out.nil e).2) (by have := HL.out.le; omega) (by have := HL.out.kept.size; have := K4.out.size; omega) ?_; intro a3 c3 w3 hm3 hg3; have hk3 := (HL.out.kept.tr K4.out).newRow hg3 HL.out.mine.new; have c4x := (HSB.out.kept hk3).c4) | (go_at_call 30; refine HCALL.out.mono ?_; rintro e w4 ⟨a4, c4, rfl, hm4, hk4⟩; have M4 := Hid.mk' hm4; have B4 := Hid.mk' (hm4.by (smlI_lt _)); have K4 := Hid.mk' hk4; clear hm4 hk4))
              have HL2 := Hid.mk' (HL.out.grow (bd' := 3230) hm3 hk3 rfl (by omega))
              clear HL hm3 hle hkw HCALL hsl c4' c4x
              have HL := HL2
              clear HL2
              go_loopw [3, 7] (fun s i wr => ∃ k : Nat, k ≤ S.phases.length ∧ i = .int .i64 k ∧ ∃ a1 n1 c1, s = .slice a1 n1 c1 ∧ Lst W0 wr a1 n1 c1 (I5 S k) (3230 + 50 * k)) (fun _ i _ => S.phases.length - (intOf i).toNat)
              case atStart => exact ⟨0, Nat.zero_le _, rfl, _, _, _, rfl, HL.out.at0 (by simp [I5]) (by omega) (by omega)⟩
              case round =>
                clear HL
                obtain ⟨k, hk, rfl, a1, n1, c1, rfl, hL⟩ := hrel
                have hle := hL.le
                have hkw := hL.kept
                have HL := Hid.mk' hL
                clear hL
                have cc4 := (HSB.out.kept hkw).c4
                by_cases hlt : k < S.phases.length
                · obtain ⟨bp, op, ep, q0', q1', q2', q3', q4'⟩ := (HSB.out.kept hkw).sat.phAt hlt
                  have hgr := HSB.out.sat.pr _ (getD_mem (d := p0) hlt)
                  have hgp := HPO.out.ph k hlt
                  have hk256 : (S.ph k).groups < 4294967296 := hgr.1
                  have hr1 := hgr.2.1
                  have hr2 := hgr.2.2.1
                  have hr3 := hgr.2.2.2
                  unfold i64B at hr1 hr2 hr3
                  change -9223372036854775808 ≤ (S.ph k).min ∧ (S.ph k).min ≤ 9223372036854775807 at hr1
                  change -9223372036854775808 ≤ (S.ph k).max ∧ (S.ph k).max ≤ 9223372036854775807 at hr2
                  change -9223372036854775808 ≤ (S.ph k).gap ∧ (S.ph k).gap ≤ 9223372036854775807 at hr3
                  rw [ep] at cc4
                  rw [ep] at *
                  clear ep hgr
                  cases hal : (S.ph k).always with
                  | true =>
                    rw [hal] at q4'
                    have hI : Ints ((wr.alloc (.cells #[.int .u32 ((S.ph k).groups : Int), .int .i64 (S.ph k).min, .int .i64 (S.ph k).max, .int .i64 (S.ph k).gap, .bool true] 81)).alloc (.cells #[.int .i64 (((S.ph k).groups : Int)), .int .i64 ((S.ph k).min), .int .i64 ((S.ph k).max), .int .i64 ((S.ph k).gap), .int .i64 (1)] 3)) (some ⟨wr.heap.size + 1, 0, none⟩) 5 5 [((S.ph k).groups : Int), (S.ph k).min, (S.ph k).max, (S.ph k).gap, 1] := by
                      have h0 := ints_of (wr.alloc (.cells #[.int .u32 ((S.ph k).groups : Int), .int .i64 (S.ph k).min, .int .i64 (S.ph k).max, .int .i64 (S.ph k).gap, .bool true] 81)) [((S.ph k).groups : Int), (S.ph k).min, (S.ph k).max, (S.ph k).gap, 1] 3 (fun x hx => (by
                        simp only [List.mem_cons, List.mem_nil_iff, or_false] at hx
                        rcases hx with rfl | rfl | rfl | rfl | rfl <;> omega)) (by simp)
                      rw [World.size_alloc] at h0
                      exact h0
                    have hpos : ∀ x ∈ ([((S.ph k).groups : Int), (S.ph k).min, (S.ph k).max, (S.ph k).gap, 1] : List Int), 0 ≤ x := fun x hx => by
                      simp only [List.mem_cons, List.mem_nil_iff, or_false] at hx
                      rcases hx with rfl | rfl | rfl | rfl | rfl <;> omega
                    have hcall := rlit ((Kept.alloc wr _ _ _ _).tr (Kept.alloc _ _ _ _ _) : Kept wr ((wr.alloc (.cells #[.int .u32 ((S.ph k).groups : Int), .int .i64 (S.ph k).min, .int .i64 (S.ph k).max, .int .i64 (S.ph k).gap, .bool true] 81)).alloc (.cells #[.int .i64 (((S.ph k).groups : Int)), .int .i64 ((S.ph k).min), .int .i64 ((S.ph k).max), .int .i64 ((S.ph k).gap), .int .i64 (1)] 3)) none) hI hpos (by omega)
                    have hsl : (smlI ([((S.ph k).groups : Int), (S.ph k).min, (S.ph k).max, (S.ph k).gap, 1] : List Int)).length ≤ 50 := smlI_le (m := 5) (fun x hx => (by
                      have := hI.rng x hx
                      omega)) (by simp)
                    have HCALL := Hid.mk' hcall
                    have HST := Hid.mk' (I5_succ hlt)
                    clear hcall hI hpos
                    go_wp2_with (first | (have hgo := B4; clear hgo; at_builtin; refine wpList_join (by rfl) _ _ (by rfl) W0.heap.size _ _ _ (by rfl) (own_keptR HL.out.mine.own K4.out (fun i _ => by simp)) a4 _ c4 _ (by rfl) B4.out (fun e => (M4.out.nil e).2) (by have := HL.out.le; omega) (by have := HL.out.kept.size; have := K4.out.size; omega) ?_; intro a3 c3 w3 hm3 hg3; have hk3 := (HL.out.kept.tr K4.out).newRow hg3 HL.out.mine.new) | (go_at_call 30; refine HCALL.out.mono ?_; rintro e w4 ⟨a4, c4, rfl, hm4, hk4⟩; have M4 := Hid.mk' hm4; have B4 := Hid.mk' (hm4.by (smlI_lt _)); have K4 := Hid.mk' hk4; clear hm4 hk4))
                    go_roundw
                    case rel => exact ⟨k + 1, by omega, by go_num, a3, _, c3, rfl, HL.out.grow hm3 hk3 (HST.out.trans (by unfold phI; rw [hal]; rfl)) (by omega)⟩
                    case measure => simp [intOf]; omega
                  | false =>
                    rw [hal] at q4'
                    have hI : Ints ((wr.alloc (.cells #[.int .u32 ((S.ph k).groups : Int), .int .i64 (S.ph k).min, .int .i64 (S.ph k).max, .int .i64 (S.ph k).gap, .bool false] 81)).alloc (.cells #[.int .i64 (((S.ph k).groups : Int)), .int .i64 ((S.ph k).min), .int .i64 ((S.ph k).max), .int .i64 ((S.ph k).gap), .int .i64 (0)] 3)) (some ⟨wr.heap.size + 1, 0, none⟩) 5 5 [((S.ph k).groups : Int), (S.ph k).min, (S.ph k).max, (S.ph k).gap, 0] := by
                      have h0 := ints_of (wr.alloc (.cells #[.int .u32 ((S.ph k).groups : Int), .int .i64 (S.ph k).min, .int .i64 (S.ph k).max, .int .i64 (S.ph k).gap, .bool false] 81)) [((S.ph k).groups : Int), (S.ph k).min, (S.ph k).max, (S.ph k).gap, 0] 3 (fun x hx => (by
                        simp only [List.mem_cons, List.mem_nil_iff, or_false] at hx
                        rcases hx with rfl | rfl | rfl | rfl | rfl <;> omega)) (by simp)
                      rw [World.size_alloc] at h0
                      exact h0
                    have hpos : ∀ x ∈ ([((S.ph k).groups : Int), (S.ph k).min, (S.ph k).max, (S.ph k).gap, 0] : List Int), 0 ≤ x := fun x hx => by
                      simp only [List.mem_cons, List.mem_nil_iff, or_false] at hx
                      rcases hx with rfl | rfl | rfl | rfl | rfl <;> omega
                    have hcall := rlit ((Kept.alloc wr _ _ _ _).tr (Kept.alloc _ _ _ _ _) : Kept wr ((wr.alloc (.cells #[.int .u32 ((S.ph k).groups : Int), .int .i64 (S.ph k).min, .int .i64 (S.ph k).max, .int .i64 (S.ph k).gap, .bool false] 81)).alloc (.cells #[.int .i64 (((S.ph k).groups : Int)), .int .i64 ((S.ph k).min), .int .i64 ((S.ph k).max), .int .i64 ((S.ph k).gap), .int .i64 (0)] 3)) none) hI hpos (by omega)
                    have hsl : (smlI ([((S.ph k).groups : Int), (S.ph k).min, (S.ph k).max, (S.ph k).gap, 0] : List Int)).length ≤ 50 := smlI_le (m := 5) (fun x hx => (by
                      have := hI.rng x hx
                      omega)) (by simp)
                    have HCALL := Hid.mk' hcall
                    have HST := Hid.mk' (I5_succ hlt)
                    clear hcall hI hpos
                    go_wp2_with (first | (have hgo := B4; clear hgo; at_builtin; refine wpList_join (by rfl) _ _ (by rfl) W0.heap.size _ _ _ (by rfl) (own_keptR HL.out.mine.own K4.out (fun i _ => by simp)) a4 _ c4 _ (by rfl) B4.out (fun e => (M4.out.nil e).2) (by have := HL.out.le; omega) (by have := HL.out.kept.size; have := K4.out.size; omega) ?_; intro a3 c3 w3 hm3 hg3; have hk3 := (HL.out.kept.tr K4.out).newRow hg3 HL.out.mine.new) | (go_at_call 30; refine HCALL.out.mono ?_; rintro e w4 ⟨a4, c4, rfl, hm4, hk4⟩; have M4 := Hid.mk' hm4; have B4 := Hid.mk' (hm4.by (smlI_lt _)); have K4 := Hid.mk' hk4; clear hm4 hk4))
                    go_roundw
                    case rel => exact ⟨k + 1, by omega, by go_num, a3, _, c3, rfl, HL.out.grow hm3 hk3 (HST.out.trans (by unfold phI; rw [hal]; rfl)) (by omega)⟩
                    case measure => simp [intOf]; omega
                · have hkk : k = S.phases.length := by omega
                  subst hkk
                  have c5' := (HSB.out.kept hkw).c5
                  have hI : Ints (wr.alloc (.cells #[.int .i64 (((S.eyes.length : Nat) : Int))] 3)) (some ⟨wr.heap.size, 0, none⟩) 1 1 [((S.eyes.length : Nat) : Int)] := ints_of wr [((S.eyes.length : Nat) : Int)] 3 (fun x hx => (by
                    simp only [List.mem_cons, List.mem_nil_iff, or_false] at hx
                    subst hx; omega)) (by simp)
                  have hpos : ∀ x ∈ ([((S.eyes.length : Nat) : Int)] : List Int), 0 ≤ x := fun x hx => by
                    simp only [List.mem_cons, List.mem_nil_iff, or_false] at hx
                    subst hx; omega
                  have hcall := rlit (Kept.alloc wr _ _ _ _ : Kept wr (wr.alloc (.cells #[.int .i64 (((S.eyes.length : Nat) : Int))] 3)) none) hI hpos (by omega)
                  have hsl : (smlI ([((S.eyes.length : Nat) : Int)] : List Int)).length ≤ 10 := smlI_le (m := 1) (fun x hx => (hI.rng x hx).2) (by simp)
                  have HCALL := Hid.mk' hcall
                  clear hcall hI hpos
                  go_wp2_with (first | (have hgo := B4; clear hgo; at_builtin; refine wpList_join (by rfl) _ _ (by rfl) W0.heap.size _ _ _ (by rfl) (own_keptR HL.out.mine.own K4.out (fun i _ => by simp)) a4 _ c4 _ (by rfl) B4.out (fun e => (M4.out.nil e).2) (by have := HL.out.le; omega) (by have := HL.out.kept.size; have := K4.out.size; omega) ?_; intro a3 c3 w3 hm3 hg3; have hk3 := (HL.out.kept.tr K4.out).newRow hg3 HL.out.mine.new; have c5x := (HSB.out.kept hk3).c5) | (go_at_call 30; refine HCALL.out.mono ?_; rintro e w4 ⟨a4, c4, rfl, hm4, hk4⟩; have M4 := Hid.mk' hm4; have B4 := Hid.mk' (hm4.by (smlI_lt _)); have K4 := Hid.mk' hk4; clear hm4 hk4))
                  have HL2 := Hid.mk' (HL.out.grow (bd' := 3640) hm3 hk3 rfl (by omega))
                  clear HL hm3 hle hkw HCALL hsl c5' c5x
                  have HL := HL2
                  clear HL2
                  go_loopw [3, 10] (fun s i wr => ∃ k : Nat, k ≤ S.eyes.length ∧ i = .int .i64 k ∧ ∃ a1 n1 c1, s = .slice a1 n1 c1 ∧ Lst W0 wr a1 n1 c1 (I6 S k) (3640 + 40 * k)) (fun _ i _ => S.eyes.length - (intOf i).toNat)
                  case atStart => exact ⟨0, Nat.zero_le _, rfl, _, _, _, rfl, HL.out.at0 (by simp [I6]) (by omega) (by omega)⟩
                  case round =>
                    clear HL
                    obtain ⟨k, hk, rfl, a1, n1, c1, rfl, hL⟩ := hrel
                    have hle := hL.le
                    have hkw := hL.kept
                    have HL := Hid.mk' hL
                    clear hL
                    have cc5 := (HSB.out.kept hkw).c5
                    by_cases hlt : k < S.eyes.length
                    · obtain ⟨bp, op, ep, q0', q1', q2', q3'⟩ := (HSB.out.kept hkw).sat.eyAt hlt
                      have hgr := HSB.out.sat.er _ (getD_mem (d := e0) hlt)
                      have hgp := HPO.out.ey k hlt
                      have hr0 := hgr.1
                      have hr1 := hgr.2.1
                      have hr2 := hgr.2.2.1
                      have hr3 := hgr.2.2.2
                      unfold i64B at hr0 hr1 hr2 hr3
                      change -9223372036854775808 ≤ (S.ey k).phase ∧ (S.ey k).phase ≤ 9223372036854775807 at hr0
                      change -9223372036854775808 ≤ (S.ey k).on ∧ (S.ey k).on ≤ 9223372036854775807 at hr1
                      change -9223372036854775808 ≤ (S.ey k).off ∧ (S.ey k).off ≤ 9223372036854775807 at hr2
                      change -9223372036854775808 ≤ (S.ey k).turns ∧ (S.ey k).turns ≤ 9223372036854775807 at hr3
                      rw [ep] at cc5
                      rw [ep] at *
                      clear ep hgr
                      have hI : Ints ((wr.alloc (.cells #[.int .i64 (S.ey k).phase, .int .i64 (S.ey k).on, .int .i64 (S.ey k).off, .int .i64 (S.ey k).turns] 83)).alloc (.cells #[.int .i64 ((S.ey k).phase), .int .i64 ((S.ey k).on), .int .i64 ((S.ey k).off), .int .i64 ((S.ey k).turns)] 3)) (some ⟨wr.heap.size + 1, 0, none⟩) 4 4 [(S.ey k).phase, (S.ey k).on, (S.ey k).off, (S.ey k).turns] := by
                        have h0 := ints_of (wr.alloc (.cells #[.int .i64 (S.ey k).phase, .int .i64 (S.ey k).on, .int .i64 (S.ey k).off, .int .i64 (S.ey k).turns] 83)) [(S.ey k).phase, (S.ey k).on, (S.ey k).off, (S.ey k).turns] 3 (fun x hx => (by
                          simp only [List.mem_cons, List.mem_nil_iff, or_false] at hx
                          rcases hx with rfl | rfl | rfl | rfl <;> omega)) (by simp)
                        rw [World.size_alloc] at h0
                        exact h0
                      have hpos : ∀ x ∈ ([(S.ey k).phase, (S.ey k).on, (S.ey k).off, (S.ey k).turns] : List Int), 0 ≤ x := fun x hx => by
                        simp only [List.mem_cons, List.mem_nil_iff, or_false] at hx
                        rcases hx with rfl | rfl | rfl | rfl <;> omega
                      have hcall := rlit ((Kept.alloc wr _ _ _ _).tr (Kept.alloc _ _ _ _ _) : Kept wr ((wr.alloc (.cells #[.int .i64 (S.ey k).phase, .int .i64 (S.ey k).on, .int .i64 (S.ey k).off, .int .i64 (S.ey k).turns] 83)).alloc (.cells #[.int .i64 ((S.ey k).phase), .int .i64 ((S.ey k).on), .int .i64 ((S.ey k).off), .int .i64 ((S.ey k).turns)] 3)) none) hI hpos (by omega)
                      have hsl : (smlI ([(S.ey k).phase, (S.ey k).on, (S.ey k).off, (S.ey k).turns] : List Int)).length ≤ 40 := smlI_le (m := 4) (fun x hx => (by
                        have := hI.rng x hx
                        omega)) (by simp)
                      have HCALL := Hid.mk' hcall
                      have HST := Hid.mk' (I6_succ hlt)
                      clear hcall hI hpos
                      go_wp2_with (first | (have hgo := B4; clear hgo; at_builtin; refine wpList_join (by rfl) _ _ (by rfl) W0.heap.size _ _ _ (by rfl) (own_keptR HL.out.mine.own K4.out (fun i _ => by simp)) a4 _ c4 _ (by rfl) B4.out (fun e => (M4.out.nil e).2) (by have := HL.out.le; omega) (by have := HL.out.kept.size; have := K4.out.size; omega) ?_; intro a3 c3 w3 hm3 hg3; have hk3 := (HL.out.kept.tr K4.out).newRow hg3 HL.out.mine.new) | (go_at_call 30; refine HCALL.out.mono ?_; rintro e w4 ⟨a4, c4, rfl, hm4, hk4⟩; have M4 := Hid.mk' hm4; have B4 := Hid.mk' (hm4.by (smlI_lt _)); have K4 := Hid.mk' hk4; clear hm4 hk4))
                      go_roundw
                      case rel => exact ⟨k + 1, by omega, by go_num, a3, _, c3, rfl, HL.out.grow hm3 hk3 HST.out (by omega)⟩
                      case measure => simp [intOf]; omega
                    · have hkk : k = S.eyes.length := by omega
                      subst hkk
                      have c6' := (HSB.out.kept hkw).c6
                      have c7' := (HSB.out.kept hkw).c7
                      have c8' := (HSB.out.kept hkw).c8
                      have c9' := (HSB.out.kept hkw).c9
                      have c10' := (HSB.out.kept hkw).c10
                      have hoo := HPO.out.own
                      have hI : Ints (wr.alloc (.cells #[.int .i64 (S.watch), .int .i64 (S.feed), .int .i64 (S.heal), .int .i64 (S.low), .int .i64 (S.high)] 3)) (some ⟨wr.heap.size, 0, none⟩) 5 5 [S.watch, S.feed, S.heal, S.low, S.high] := ints_of wr [S.watch, S.feed, S.heal, S.low, S.high] 3 (fun x hx => (by
                        simp only [List.mem_cons, List.mem_nil_iff, or_false] at hx
                        rcases hx with rfl | rfl | rfl | rfl | rfl <;> omega)) (by simp)
                      have hpos : ∀ x ∈ ([S.watch, S.feed, S.heal, S.low, S.high] : List Int), 0 ≤ x := fun x hx => by
                        simp only [List.mem_cons, List.mem_nil_iff, or_false] at hx
                        rcases hx with rfl | rfl | rfl | rfl | rfl <;> omega
                      have hcall := rlit (Kept.alloc wr _ _ _ _ : Kept wr (wr.alloc (.cells #[.int .i64 (S.watch), .int .i64 (S.feed), .int .i64 (S.heal), .int .i64 (S.low), .int .i64 (S.high)] 3)) none) hI hpos (by omega)
                      have hsl : (smlI ([S.watch, S.feed, S.heal, S.low, S.high] : List Int)).length ≤ 50 := smlI_le (m := 5) (fun x hx => (hI.rng x hx).2) (by simp)
                      have HCALL := Hid.mk' hcall
                      clear hcall hI hpos
                      have HPL := Hid.mk' HSB.out.sat.l
                      have HWk := Hid.mk' HPO.out.plans
                      have hpl := plans_len HPL.out HWk.out
                      have hcw := fun (wx : World) (hkx : Kept W0 wx none) => rwhole_any (HPL.out.kept hkx)
                      rw [show wholeL S.plans = smlI (plansI S.plans) by unfold wholeL; rw [HWH.out]; rfl, HWH.out] at hcw
                      have HCW := Hid.mk' hcw
                      clear hcw
                      go_wp2_with (first
                        | (have hgo := M5; clear hgo; at_builtin; refine wpList_joinA (by rfl) _ _ (by rfl) W0.heap.size _ _ _ (by rfl) (own_keptR HL3.out.mine.own hk5 (fun i _ => by simp)) a5 (smlI (plansI S.plans)).length c5x (smlI (plansI S.plans)) (by rfl) (M5.out.by (smlI_lt _)) (fun e => (M5.out.nil e).2) (by have := HL3.out.le; omega) (by have := HL3.out.kept.size; have := hk5.size; omega) ?_; intro a6 c6 w6 hm6 hg6 hat6)
                        | (have hgo := HL3; clear hgo; go_at_call 12; refine (HCW.out _ hk3).mono ?_; rintro e w5 ⟨a5, c5x, rfl, hm5, hk5⟩; have M5 := Hid.mk' hm5; clear hm5)
                        | (have hgo := B4; clear hgo; at_builtin; refine wpList_join (by rfl) _ _ (by rfl) W0.heap.size _ _ _ (by rfl) (own_keptR HL.out.mine.own K4.out (fun i _ => by simp)) a4 _ c4 _ (by rfl) B4.out (fun e => (M4.out.nil e).2) (by have := HL.out.le; omega) (by have := HL.out.kept.size; have := K4.out.size; omega) ?_; intro a3 c3 w3 hm3 hg3; have hk3 := (HL.out.kept.tr K4.out).newRow hg3 HL.out.mine.new; have c11' := (HSB.out.kept hk3).c11; have HL3 := Hid.mk' (HL.out.grow (bd' := 4650) hm3 hk3 rfl (by omega)); clear hm3 hg3)
                        | (go_at_call 30; refine HCALL.out.mono ?_; rintro e w4 ⟨a4, c4, rfl, hm4, hk4⟩; have M4 := Hid.mk' hm4; have B4 := Hid.mk' (hm4.by (smlI_lt _)); have K4 := Hid.mk' hk4; clear hm4 hk4))
                      go_ret
                      have e : smlI (I7 S) ++ smlI (plansI S.plans) = siteL S := by rw [← smlI_append]; rfl
                      have hz := HL3.out.size
                      have hsize : n1 + (smlI [S.watch, S.feed, S.heal, S.low, S.high]).length + (smlI (plansI S.plans)).length = (siteL S).length := by rw [← e, List.length_append, hz]; rfl
                      refine ⟨a6, c6, ?_, ?_, ?_⟩
                      · rw [← hsize]; rfl
                      · rw [← hsize, ← e]
                        exact hm6.lower (by omega)
                      · exact (HK0.out.tr ((HL3.out.kept.tr hk5))).newRow hg6 (fun i e => by have := HL3.out.mine.lt i e; omega)

end Go.Proofs.YtcjkghajeohfjaaDoor
