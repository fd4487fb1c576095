/-
  Part 9 of the texts that the proofs of this seat stand on.
-/
import Derived.Test.YtoahbpdgbiachaaDoorPart8
import Derived.Test.YtoahbpdgbiachaaDoorPart7
import Derived.Test.YtoahbpdgbiachaaDoorPart2
/-
  THE DOCUMENT'S OWN ANSWER: a region's weds.
-/
namespace Go.Proofs.YtoahbpdgbiachaaDoor
open Go.RowKit Go.Lib Go.Deep
set_option linter.unusedVariables false
set_option linter.unusedSimpArgs false

theorem rwedsB_no {N : Nt} {k : Nat} (hk : k < N.weds.length) (h : rwedB N k = false) : rwedsB N = false := by
  unfold rwedsB
  rw [allB_no hk h]
  simp
set_option maxRecDepth 100000 in
set_option maxHeartbeats 8000000 in
theorem rweds6_any {Y : Na} {N : Nt} {w : World} (h : NetAt w Y N) (hlo : 1 ≤ N.low ∧ N.low ≤ 1048576) (hu6 : N.subs.length ≤ 6) : Calls Tryd.prog 40 #[netV Y N] w fun e w' => e = .returned (.bool (rwedsB N)) ∧ Kept w w' none := by
  have hkA : Kept w (w.alloc (.cells #[.slice Y.s N.sites.length Y.sc, .slice Y.u N.subs.length Y.uc, .slice Y.d N.weds.length Y.dc, .int .i64 N.low, .int .i64 N.high, .int .i64 N.step] 26)) none := Kept.alloc _ _ _ _ _
  have HNB := Hid.mk' (nbx_alloc h 26)
  have HK := Hid.mk' hkA
  have hd9 : N.weds.length ≤ 9223372036854775807 := by have := h.dk.room; have := h.dk.max; omega
  have hwl : IntKind.i64.wrap (N.low - 1) = N.low - 1 := wrap_in (by omega) (by omega)
  clear h hkA
  go_enter Tryd.func40, Tryd.ntmps40
  by_cases h8 : 8 < N.weds.length
  case pos =>
    have HE : Hid (rwedsB N = false) := by show rwedsB N = false; unfold rwedsB; rw [decide_eq_false (by omega)]; rfl
    go_wp2
    go_ret
    exact ⟨by rw [HE.out]; rfl, HK.out⟩
  go_wp2
  generalize hW : (w.alloc (.cells #[.slice Y.s N.sites.length Y.sc, .slice Y.u N.subs.length Y.uc, .slice Y.d N.weds.length Y.dc, .int .i64 N.low, .int .i64 N.high, .int .i64 N.step] 26)) = W at *
  clear hW
  go_loopw [3] (fun i wr => ∃ k : Nat, k ≤ N.weds.length ∧ i = .int .i64 k ∧ Hid (∀ j, j < k → rwedB N j = true) ∧ Kept W wr none) (fun i _ => N.weds.length - (intOf i).toNat)
  case atStart => exact ⟨0, Nat.zero_le _, rfl, (fun j hj => by omega), Kept.refl _ _⟩
  case round =>
    obtain ⟨wo, hwo⟩ : ∃ wo, wo = wr := ⟨wr, rfl⟩
    subst hwo
    obtain ⟨k, hk, rfl, HJ, hkr⟩ := hrel
    obtain ⟨c0, c1, c2, c3, c4, c5, _⟩ := HNB.out.kept hkr
    by_cases hlt : k < N.weds.length
    · obtain ⟨db, do_, ed, _, hc⟩ := (HNB.out.kept hkr).net.d1.at_ (by omega)
      rw [ed] at c2
      have e0 := hc k hlt 0 (by omega)
      have e1 := hc k hlt 1 (by omega)
      have e2 := hc k hlt 2 (by omega)
      have e3 := hc k hlt 3 (by omega)
      have HI := Hid.mk' (HNB.out.net.d2 k hlt)
      have HED := Hid.mk' ed
      have HNO : Hid (rwedB N k = false → rwedsB N = false) := rwedsB_no hlt
      have HRB : Hid (rwedB N k = (decide (0 ≤ (N.weds.getD k d0).a) && (decide ((N.weds.getD k d0).a < (N.weds.getD k d0).b) && (decide ((N.weds.getD k d0).b < (N.subs.length : Int)) && (timeB (N.weds.getD k d0).votes && (offsetsB N (N.weds.getD k d0).offsets && allB k (fun j => !(decide ((N.weds.getD j d0).a = (N.weds.getD k d0).a) && decide ((N.weds.getD j d0).b = (N.weds.getD k d0).b))))))))) := rfl
      have HOB : Hid (offsetsB N (N.weds.getD k d0).offsets = (inB (N.weds.getD k d0).offsets.length 1 8 && allB (N.weds.getD k d0).offsets.length (fun i => inB ((N.weds.getD k d0).offsets.getD i 0) 0 (N.low - 1)))) := rfl
      have HGD : Hid (∀ w', Kept W w' none → ∀ j, j < N.weds.length → w'.cell? ⟨db, do_ + j * 4, none⟩ = some (.int .i64 (N.weds.getD j d0).a) ∧ w'.cell? ⟨db, do_ + j * 4 + 1, none⟩ = some (.int .i64 (N.weds.getD j d0).b)) := fun w' q j hj => by
        obtain ⟨db', do', ed', _, hc'⟩ := (HNB.out.kept q).net.d1.at_ (by omega)
        rw [HED.out] at ed'
        injection ed' with ed'
        injection ed' with ed1 ed2
        subst ed1 ed2
        exact ⟨hc' j hj 0 (by omega), hc' j hj 1 (by omega)⟩
      clear hc ed
      generalize hD : N.weds.getD k d0 = D at *
      have HDE := Hid.mk' hD
      clear hD
      generalize Y.t k = tk at *
      obtain ⟨ra, rc⟩ := tk
      dsimp only [wdV, Nat.add_zero] at e0 e1 e2 e3 HI
      have HKB : Hid (Kept wo (wo.alloc (.cells #[.int .i64 D.a, .int .i64 D.b, .int .i64 D.votes, .slice ra D.offsets.length rc] 40)) none) := Kept.alloc _ _ _ _ _
      have hol : D.offsets.length ≤ 9223372036854775807 := by have := HI.out.cap.room; have := HI.out.cap.max; omega
      have hwl2 : w.heap.size < wo.heap.size := block_lt c0
      by_cases a1 : 0 ≤ D.a
      case neg =>
        have a1' : D.a < 0 := by omega
        have HE := Hid.mk' (HNO.out (by rw [HRB.out, decide_eq_false a1]; simp))
        go_wp2_with (go_at_call 37; refine (rin6_is (by assumption)).mono ?_; rintro e w9 ⟨rfl, rfl⟩)
        go_ret
        exact ⟨by rw [HE.out]; rfl, HK.out.tr (hkr.tr HKB.out)⟩
      have a1' : ¬ D.a < 0 := by omega
      by_cases a2 : D.a < D.b
      case neg =>
        have a2' : D.b ≤ D.a := by omega
        have HE := Hid.mk' (HNO.out (by rw [HRB.out, decide_eq_false a2]; simp))
        go_wp2_with (go_at_call 37; refine (rin6_is (by assumption)).mono ?_; rintro e w9 ⟨rfl, rfl⟩)
        go_ret
        exact ⟨by rw [HE.out]; rfl, HK.out.tr (hkr.tr HKB.out)⟩
      have a2' : ¬ D.b ≤ D.a := by omega
      by_cases a3 : D.b < (N.subs.length : Int)
      case neg =>
        have a3' : (N.subs.length : Int) ≤ D.b := by omega
        have HE := Hid.mk' (HNO.out (by rw [HRB.out, decide_eq_false a3]; simp))
        go_wp2_with (go_at_call 37; refine (rin6_is (by assumption)).mono ?_; rintro e w9 ⟨rfl, rfl⟩)
        go_ret
        exact ⟨by rw [HE.out]; rfl, HK.out.tr (hkr.tr HKB.out)⟩
      have a3' : ¬ (N.subs.length : Int) ≤ D.b := by omega
      cases a4 : inB D.votes 1 1048576 with
      | false =>
        have HE := Hid.mk' (HNO.out (by rw [HRB.out, show timeB D.votes = false from a4]; simp))
        go_wp2_with (go_at_call 37; refine (rin6_is (by assumption)).mono ?_; rintro e w9 ⟨rfl, rfl⟩)
        go_ret
        exact ⟨by rw [HE.out]; rfl, HK.out.tr (hkr.tr HKB.out)⟩
      | true =>
      cases a5 : inB D.offsets.length 1 8 with
      | false =>
        have HE := Hid.mk' (HNO.out (by rw [HRB.out, HOB.out, a5]; simp))
        go_wp2_with (go_at_call 37; refine (rin6_is (by assumption)).mono ?_; rintro e w9 ⟨rfl, rfl⟩)
        go_ret
        exact ⟨by rw [HE.out]; rfl, HK.out.tr (hkr.tr HKB.out)⟩
      | true =>
      have h58 := inB_iff.1 a5
      have HA : Hid ((0 ≤ D.a ∧ D.a < D.b ∧ D.b < (N.subs.length : Int)) ∧ timeB D.votes = true ∧ inB D.offsets.length 1 8 = true) := ⟨⟨a1, a2, a3⟩, a4, a5⟩
      have HBX : Hid (∀ w', Kept (wo.alloc (.cells #[.int .i64 D.a, .int .i64 D.b, .int .i64 D.votes, .slice ra D.offsets.length rc] 40)) w' none → w'.cell? ⟨wo.heap.size, 0, none⟩ = some (.int .i64 D.a) ∧ w'.cell? ⟨wo.heap.size, 1, none⟩ = some (.int .i64 D.b) ∧ w'.cell? ⟨wo.heap.size, 3, none⟩ = some (.slice ra D.offsets.length rc)) := fun w' q => ⟨cell_kept0 (by simp [World.cell?_alloc_mark]) q, cell_kept0 (by simp [World.cell?_alloc_mark]) q, cell_kept0 (by simp [World.cell?_alloc_mark]) q⟩
      go_wp2_with (go_at_call 37; refine (rin6_is (by assumption)).mono ?_; rintro e w9 ⟨rfl, rfl⟩)
      clear c0 c1 c2 c3 c4 c5 e0 e1 e2 e3 a1' a2' a3' a4 a5
      have KB := Hid.mk' (hkr.tr HKB.out)
      generalize hW1 : (wo.alloc (.cells #[.int .i64 D.a, .int .i64 D.b, .int .i64 D.votes, .slice ra D.offsets.length rc] 40)) = W1 at *
      clear hW1
      go_loopw [5] (fun q wr => ∃ j : Nat, j ≤ D.offsets.length ∧ q = .int .i64 j ∧ Hid (∀ t, t < j → inB (D.offsets.getD t 0) 0 (N.low - 1) = true) ∧ Kept W1 wr none) (fun q _ => D.offsets.length - (intOf q).toNat)
      case atStart => exact ⟨0, Nat.zero_le _, rfl, (fun j hj => by omega), Kept.refl _ _⟩
      case round =>
        obtain ⟨j, hj, rfl, HT, hkx⟩ := hrel
        obtain ⟨q0, q1, q3⟩ := HBX.out _ hkx
        obtain ⟨c0, c1, c2, c3, c4, c5, _⟩ := HNB.out.kept (KB.out.tr hkx)
        by_cases hjl : j < D.offsets.length
        · obtain ⟨lb, lo, el, _, hlc⟩ := (HI.out.kept (KB.out.tr hkx)).at_ (by omega)
          subst el
          have HX : Hid (∀ w', Kept wr w' none → w'.cell? ⟨lb, lo + j, none⟩ = some (.int .i64 (D.offsets.getD j 0))) := fun w' q => cell_kept0 (hlc j hjl) q
          have HNX : Hid (inB (D.offsets.getD j 0) 0 (N.low - 1) = false → rwedsB N = false) := fun q => HNO.out (by rw [HRB.out, HOB.out, allB_no hjl q]; simp)
          have HTS : Hid (∀ t, t < j + 1 → t ≠ j → inB (D.offsets.getD t 0) 0 (N.low - 1) = true) := fun t ht hne => HT.out t (by omega)
          obtain ⟨x, hxe⟩ : ∃ x, D.offsets.getD j 0 = x := ⟨_, rfl⟩
          rw [hxe] at HX HNX
          have HXE := Hid.mk' hxe
          clear hxe hlc
          have g0 : ∀ w', Kept wr w' none → w'.cell? ⟨wo.heap.size, 3, none⟩ = some (.slice (some ⟨lb, lo, none⟩) D.offsets.length rc) := fun w' q => cell_kept0 q3 q
          have g1 : ∀ w', Kept wr w' none → w'.cell? ⟨w.heap.size, 3, none⟩ = some (.int .i64 N.low) := fun w' q => cell_kept0 c3 q
          have g2 : ∀ w', Kept wr w' none → w'.cell? ⟨lb, lo + j, none⟩ = some (.int .i64 x) := HX.out
          cases hin : inB x 0 (N.low - 1) with
          | false =>
            have HE := Hid.mk' (HNX.out hin)
            go_wp2
            refine Code.wp_mono (Q := Rg6 ?A1 wr) ?cont1 ?reg1
            case reg1 =>
              repeat (rename_i hh; clear hh)
              refine wp_region_held_drew (S := fun w' => Kept wr w' none) (by kernel_rfl) (Kept.tr (Kept.refl _ _) (Kept.drew _ _)) (fun hHeld => ?_)
              refine held_take (i := 0) (v := ?v2) rfl rfl (by kernel_rfl) (by kernel_rfl) (by kernel_rfl) (fun _ _ _ h => h) (Or.inl ⟨by rfl, ?hy2⟩) hHeld ?rest2
              case hy2 => first | (intro w hSw; (try dsimp only at hSw); go_simp; done) | (intro w hSw; (try dsimp only at hSw); go_simp; with_reducible rfl)
              try simp only [List.setIfInBounds_toArray, List.set_cons_zero, List.set_cons_succ]
              refine held_take (i := 1) (v := ?v3) rfl rfl (by kernel_rfl) (by kernel_rfl) (by kernel_rfl) (fun _ _ _ h => h) (Or.inl ⟨by rfl, ?hy3⟩) hHeld ?rest3
              case hy3 => first | (intro w hSw; (try dsimp only at hSw); go_simp; done) | (intro w hSw; (try dsimp only at hSw); go_simp; with_reducible rfl)
              try simp only [List.setIfInBounds_toArray, List.set_cons_zero, List.set_cons_succ]
              refine held_take (i := 2) (v := ?v4) rfl rfl (by kernel_rfl) (by kernel_rfl) (by kernel_rfl) (fun _ _ _ h => h) (Or.inl ⟨by rfl, ?hy4⟩) hHeld ?rest4
              case hy4 => first | (intro w hSw; (try dsimp only at hSw); go_simp; done) | (intro w hSw; (try dsimp only at hSw); go_simp; with_reducible rfl)
              try simp only [List.setIfInBounds_toArray, List.set_cons_zero, List.set_cons_succ]
              refine held_take (i := 3) (v := ?v5) rfl rfl (by kernel_rfl) (by kernel_rfl) (by kernel_rfl) (fun _ _ _ h => h) (Or.inl ⟨by rfl, ?hy5⟩) hHeld ?rest5
              case hy5 => first | (intro w hSw; (try dsimp only at hSw); go_simp; done) | (intro w hSw; (try dsimp only at hSw); go_simp; with_reducible rfl)
              try simp only [List.setIfInBounds_toArray, List.set_cons_zero, List.set_cons_succ]
              refine held_take (i := 4) (v := ?v6) rfl rfl (by kernel_rfl) (by kernel_rfl) (by kernel_rfl) (fun _ _ _ h => h) (Or.inl ⟨by rfl, ?hy6⟩) hHeld ?rest6
              case hy6 => first | (intro w hSw; (try dsimp only at hSw); go_simp; done) | (intro w hSw; (try dsimp only at hSw); go_simp; with_reducible rfl)
              try simp only [List.setIfInBounds_toArray, List.set_cons_zero, List.set_cons_succ]
              refine held_take (i := 5) (v := ?v7) rfl rfl (by kernel_rfl) (by kernel_rfl) (by kernel_rfl) (fun _ _ _ h => h) (Or.inl ⟨by rfl, ?hy7⟩) hHeld ?rest7
              case hy7 => first | (intro w hSw; (try dsimp only at hSw); go_simp; done) | (intro w hSw; (try dsimp only at hSw); go_simp; with_reducible rfl)
              try simp only [List.setIfInBounds_toArray, List.set_cons_zero, List.set_cons_succ]
              refine held_take (i := 6) (v := ?v8) rfl rfl (by kernel_rfl) (by kernel_rfl) (by kernel_rfl) (fun _ _ _ h => h) (Or.inl ⟨by rfl, ?hy8⟩) hHeld ?rest8
              case hy8 => first | (intro w hSw; (try dsimp only at hSw); go_simp; done) | (intro w hSw; (try dsimp only at hSw); go_simp; with_reducible rfl)
              try simp only [List.setIfInBounds_toArray, List.set_cons_zero, List.set_cons_succ]
              refine held_take (i := 7) (v := ?v9) rfl rfl (by kernel_rfl) (by kernel_rfl) (by kernel_rfl) (fun _ _ _ h => h) (Or.inl ⟨by rfl, ?hy9⟩) hHeld ?rest9
              case hy9 => first | (intro w hSw; (try dsimp only at hSw); go_simp; done) | (intro w hSw; (try dsimp only at hSw); go_simp; with_reducible rfl)
              try simp only [List.setIfInBounds_toArray, List.set_cons_zero, List.set_cons_succ]
              refine wpAnyH_ready (rs := [8]) (by kernel_rfl) (by simp) ?_
              refine AllReadyH.cons rfl (fun K hK => ?_) AllReadyH.nil
              go_simp
              go_wp2_with (go_at_call 37; refine (rin6_is (by assumption)).mono ?_; rintro e w9 ⟨rfl, rfl⟩; have hKS := hHeld)
              replace hK := hK.out
              refine hK _ _ hKS (fun hHeld => ?_)
              clear hK K
              refine held_take (i := 9) (v := ?v10) rfl rfl (by kernel_rfl) (by kernel_rfl) (by kernel_rfl) (fun _ _ _ h => h) (Or.inl ⟨by rfl, ?hy10⟩) hHeld ?rest10
              case hy10 => first | (intro w hSw; (try dsimp only at hSw); go_simp; done) | (intro w hSw; (try dsimp only at hSw); go_simp; with_reducible rfl)
              try simp only [List.setIfInBounds_toArray, List.set_cons_zero, List.set_cons_succ]
              refine wpAnyH_done (by kernel_rfl) ?_ _
              refine And.intro ?_ hHeld
              with_reducible rfl
            case cont1 =>
            intro e a' w' hq
            obtain ⟨rfl, rfl, hkq⟩ := hq.out
            go_wp2
            go_ret
            exact ⟨by rw [HE.out]; rfl, HK.out.tr (KB.out.tr (hkx.tr hkq))⟩
          | true =>
            go_wp2
            refine Code.wp_mono (Q := Rg6 ?A11 wr) ?cont11 ?reg11
            case reg11 =>
              repeat (rename_i hh; clear hh)
              refine wp_region_held_drew (S := fun w' => Kept wr w' none) (by kernel_rfl) (Kept.tr (Kept.refl _ _) (Kept.drew _ _)) (fun hHeld => ?_)
              refine held_take (i := 0) (v := ?v12) rfl rfl (by kernel_rfl) (by kernel_rfl) (by kernel_rfl) (fun _ _ _ h => h) (Or.inl ⟨by rfl, ?hy12⟩) hHeld ?rest12
              case hy12 => first | (intro w hSw; (try dsimp only at hSw); go_simp; done) | (intro w hSw; (try dsimp only at hSw); go_simp; with_reducible rfl)
              try simp only [List.setIfInBounds_toArray, List.set_cons_zero, List.set_cons_succ]
              refine held_take (i := 1) (v := ?v13) rfl rfl (by kernel_rfl) (by kernel_rfl) (by kernel_rfl) (fun _ _ _ h => h) (Or.inl ⟨by rfl, ?hy13⟩) hHeld ?rest13
              case hy13 => first | (intro w hSw; (try dsimp only at hSw); go_simp; done) | (intro w hSw; (try dsimp only at hSw); go_simp; with_reducible rfl)
              try simp only [List.setIfInBounds_toArray, List.set_cons_zero, List.set_cons_succ]
              refine held_take (i := 2) (v := ?v14) rfl rfl (by kernel_rfl) (by kernel_rfl) (by kernel_rfl) (fun _ _ _ h => h) (Or.inl ⟨by rfl, ?hy14⟩) hHeld ?rest14
              case hy14 => first | (intro w hSw; (try dsimp only at hSw); go_simp; done) | (intro w hSw; (try dsimp only at hSw); go_simp; with_reducible rfl)
              try simp only [List.setIfInBounds_toArray, List.set_cons_zero, List.set_cons_succ]
              refine held_take (i := 3) (v := ?v15) rfl rfl (by kernel_rfl) (by kernel_rfl) (by kernel_rfl) (fun _ _ _ h => h) (Or.inl ⟨by rfl, ?hy15⟩) hHeld ?rest15
              case hy15 => first | (intro w hSw; (try dsimp only at hSw); go_simp; done) | (intro w hSw; (try dsimp only at hSw); go_simp; with_reducible rfl)
              try simp only [List.setIfInBounds_toArray, List.set_cons_zero, List.set_cons_succ]
              refine held_take (i := 4) (v := ?v16) rfl rfl (by kernel_rfl) (by kernel_rfl) (by kernel_rfl) (fun _ _ _ h => h) (Or.inl ⟨by rfl, ?hy16⟩) hHeld ?rest16
              case hy16 => first | (intro w hSw; (try dsimp only at hSw); go_simp; done) | (intro w hSw; (try dsimp only at hSw); go_simp; with_reducible rfl)
              try simp only [List.setIfInBounds_toArray, List.set_cons_zero, List.set_cons_succ]
              refine held_take (i := 5) (v := ?v17) rfl rfl (by kernel_rfl) (by kernel_rfl) (by kernel_rfl) (fun _ _ _ h => h) (Or.inl ⟨by rfl, ?hy17⟩) hHeld ?rest17
              case hy17 => first | (intro w hSw; (try dsimp only at hSw); go_simp; done) | (intro w hSw; (try dsimp only at hSw); go_simp; with_reducible rfl)
              try simp only [List.setIfInBounds_toArray, List.set_cons_zero, List.set_cons_succ]
              refine held_take (i := 6) (v := ?v18) rfl rfl (by kernel_rfl) (by kernel_rfl) (by kernel_rfl) (fun _ _ _ h => h) (Or.inl ⟨by rfl, ?hy18⟩) hHeld ?rest18
              case hy18 => first | (intro w hSw; (try dsimp only at hSw); go_simp; done) | (intro w hSw; (try dsimp only at hSw); go_simp; with_reducible rfl)
              try simp only [List.setIfInBounds_toArray, List.set_cons_zero, List.set_cons_succ]
              refine held_take (i := 7) (v := ?v19) rfl rfl (by kernel_rfl) (by kernel_rfl) (by kernel_rfl) (fun _ _ _ h => h) (Or.inl ⟨by rfl, ?hy19⟩) hHeld ?rest19
              case hy19 => first | (intro w hSw; (try dsimp only at hSw); go_simp; done) | (intro w hSw; (try dsimp only at hSw); go_simp; with_reducible rfl)
              try simp only [List.setIfInBounds_toArray, List.set_cons_zero, List.set_cons_succ]
              refine wpAnyH_ready (rs := [8]) (by kernel_rfl) (by simp) ?_
              refine AllReadyH.cons rfl (fun K hK => ?_) AllReadyH.nil
              go_simp
              go_wp2_with (go_at_call 37; refine (rin6_is (by assumption)).mono ?_; rintro e w9 ⟨rfl, rfl⟩; have hKS := hHeld)
              replace hK := hK.out
              refine hK _ _ hKS (fun hHeld => ?_)
              clear hK K
              refine held_take (i := 9) (v := ?v20) rfl rfl (by kernel_rfl) (by kernel_rfl) (by kernel_rfl) (fun _ _ _ h => h) (Or.inl ⟨by rfl, ?hy20⟩) hHeld ?rest20
              case hy20 => first | (intro w hSw; (try dsimp only at hSw); go_simp; done) | (intro w hSw; (try dsimp only at hSw); go_simp; with_reducible rfl)
              try simp only [List.setIfInBounds_toArray, List.set_cons_zero, List.set_cons_succ]
              refine wpAnyH_done (by kernel_rfl) ?_ _
              refine And.intro ?_ hHeld
              with_reducible rfl
            case cont11 =>
            intro e a' w' hq
            obtain ⟨rfl, rfl, hkq⟩ := hq.out
            go_wp2
            go_roundw
            case rel => exact ⟨j + 1, by omega, by go_num, (fun t ht => (by
              by_cases e : t = j
              · rw [e, HXE.out]; exact hin
              · exact HTS.out t ht e)), hkx.tr hkq⟩
            case measure => simp [intOf]; omega
        · have e : j = D.offsets.length := by omega
          subst e
          have HOY : Hid (offsetsB N D.offsets = true) := by show offsetsB N D.offsets = true; rw [HOB.out, HA.out.2.2, allB_iff.2 HT.out]; rfl
          go_wp2
          have KX := Hid.mk' (KB.out.tr hkx)
          have HBY := Hid.mk' (fun w' (q : Kept wr w' none) => HBX.out w' (hkx.tr q))
          clear q0 q1 q3 c0 c1 c2 c3 c4 c5 HT hkx KB
          obtain ⟨wp, hwp⟩ : ∃ wp, wp = wr := ⟨wr, rfl⟩
          subst hwp
          go_loopw [6] (fun q wr => ∃ j : Nat, j ≤ k ∧ q = .int .i64 j ∧ Hid (∀ t, t < j → (!(decide ((N.weds.getD t d0).a = D.a) && decide ((N.weds.getD t d0).b = D.b))) = true) ∧ Kept wp wr none) (fun q _ => k - (intOf q).toNat)
          case atStart => exact ⟨0, Nat.zero_le _, rfl, (fun j hj => by omega), Kept.refl _ _⟩
          case round =>
            obtain ⟨j, hj, rfl, HT, hkx⟩ := hrel
            obtain ⟨c0, c1, c2, c3, c4, c5, _⟩ := HNB.out.kept (KX.out.tr hkx)
            rw [HED.out] at c2
            by_cases hjl : j < k
            · have HNX : Hid ((!(decide ((N.weds.getD j d0).a = D.a) && decide ((N.weds.getD j d0).b = D.b))) = false → rwedsB N = false) := fun q => HNO.out (by rw [HRB.out, allB_no hjl q]; simp)
              have HTS : Hid (∀ t, t < j + 1 → t ≠ j → (!(decide ((N.weds.getD t d0).a = D.a) && decide ((N.weds.getD t d0).b = D.b))) = true) := fun t ht hne => HT.out t (by omega)
              have g0 : ∀ w', Kept wr w' none → w'.cell? ⟨wo.heap.size, 0, none⟩ = some (.int .i64 D.a) := fun w' q => (HBY.out w' (hkx.tr q)).1
              have g1 : ∀ w', Kept wr w' none → w'.cell? ⟨wo.heap.size, 1, none⟩ = some (.int .i64 D.b) := fun w' q => (HBY.out w' (hkx.tr q)).2.1
              have g2 : ∀ w', Kept wr w' none → w'.cell? ⟨w.heap.size, 2, none⟩ = some (.slice (some ⟨db, do_, none⟩) N.weds.length Y.dc) := fun w' q => cell_kept0 c2 q
              have g3 : ∀ w', Kept wr w' none → w'.cell? ⟨db, do_ + j * 4, none⟩ = some (.int .i64 (N.weds.getD j d0).a) := fun w' q => (HGD.out w' ((KX.out.tr hkx).tr q) j (by omega)).1
              have g4 : ∀ w', Kept wr w' none → w'.cell? ⟨db, do_ + j * 4 + 1, none⟩ = some (.int .i64 (N.weds.getD j d0).b) := fun w' q => (HGD.out w' ((KX.out.tr hkx).tr q) j (by omega)).2
              have hjN : j < N.weds.length := by omega
              generalize hE : N.weds.getD j d0 = E at *
              have HEE := Hid.mk' hE
              clear hE
              clear c0 c1 c2 c3 c4 c5
              by_cases ea : E.a = D.a
              · by_cases eb : E.b = D.b
                · have HE := Hid.mk' (HNX.out (by rw [decide_eq_true ea, decide_eq_true eb]; rfl))
                  rw [ea] at g3
                  rw [eb] at g4
                  go_wp2
                  refine Code.wp_mono (Q := Rg6 ?A21 wr) ?cont21 ?reg21
                  case reg21 =>
                    repeat (rename_i hh; clear hh)
                    refine wp_region_held_drew (S := fun w' => Kept wr w' none) (by kernel_rfl) (Kept.tr (Kept.refl _ _) (Kept.drew _ _)) (fun hHeld => ?_)
                    refine held_take (i := 0) (v := ?v22) rfl rfl (by kernel_rfl) (by kernel_rfl) (by kernel_rfl) (fun _ _ _ h => h) (Or.inl ⟨by rfl, ?hy22⟩) hHeld ?rest22
                    case hy22 => first | (intro w hSw; (try dsimp only at hSw); go_simp; done) | (intro w hSw; (try dsimp only at hSw); go_simp; with_reducible rfl)
                    try simp only [List.setIfInBounds_toArray, List.set_cons_zero, List.set_cons_succ]
                    refine held_take (i := 1) (v := ?v23) rfl rfl (by kernel_rfl) (by kernel_rfl) (by kernel_rfl) (fun _ _ _ h => h) (Or.inl ⟨by rfl, ?hy23⟩) hHeld ?rest23
                    case hy23 => first | (intro w hSw; (try dsimp only at hSw); go_simp; done) | (intro w hSw; (try dsimp only at hSw); go_simp; with_reducible rfl)
                    try simp only [List.setIfInBounds_toArray, List.set_cons_zero, List.set_cons_succ]
                    refine held_take (i := 2) (v := ?v24) rfl rfl (by kernel_rfl) (by kernel_rfl) (by kernel_rfl) (fun _ _ _ h => h) (Or.inl ⟨by rfl, ?hy24⟩) hHeld ?rest24
                    case hy24 => first | (intro w hSw; (try dsimp only at hSw); go_simp; done) | (intro w hSw; (try dsimp only at hSw); go_simp; with_reducible rfl)
                    try simp only [List.setIfInBounds_toArray, List.set_cons_zero, List.set_cons_succ]
                    refine held_take (i := 3) (v := ?v25) rfl rfl (by kernel_rfl) (by kernel_rfl) (by kernel_rfl) (fun _ _ _ h => h) (Or.inl ⟨by rfl, ?hy25⟩) hHeld ?rest25
                    case hy25 => first | (intro w hSw; (try dsimp only at hSw); go_simp; done) | (intro w hSw; (try dsimp only at hSw); go_simp; with_reducible rfl)
                    try simp only [List.setIfInBounds_toArray, List.set_cons_zero, List.set_cons_succ]
                    refine held_take (i := 4) (v := ?v26) rfl rfl (by kernel_rfl) (by kernel_rfl) (by kernel_rfl) (fun _ _ _ h => h) (Or.inl ⟨by rfl, ?hy26⟩) hHeld ?rest26
                    case hy26 => first | (intro w hSw; (try dsimp only at hSw); go_simp; done) | (intro w hSw; (try dsimp only at hSw); go_simp; with_reducible rfl)
                    try simp only [List.setIfInBounds_toArray, List.set_cons_zero, List.set_cons_succ]
                    refine held_take (i := 5) (v := ?v27) rfl rfl (by kernel_rfl) (by kernel_rfl) (by kernel_rfl) (fun _ _ _ h => h) (Or.inl ⟨by rfl, ?hy27⟩) hHeld ?rest27
                    case hy27 => first | (intro w hSw; (try dsimp only at hSw); go_simp; done) | (intro w hSw; (try dsimp only at hSw); go_simp; with_reducible rfl)
                    try simp only [List.setIfInBounds_toArray, List.set_cons_zero, List.set_cons_succ]
                    refine held_take (i := 6) (v := ?v28) rfl rfl (by kernel_rfl) (by kernel_rfl) (by kernel_rfl) (fun _ _ _ h => h) (Or.inl ⟨by rfl, ?hy28⟩) hHeld ?rest28
                    case hy28 => first | (intro w hSw; (try dsimp only at hSw); go_simp; done) | (intro w hSw; (try dsimp only at hSw); go_simp; with_reducible rfl)
                    try simp only [List.setIfInBounds_toArray, List.set_cons_zero, List.set_cons_succ]
                    refine held_take (i := 7) (v := ?v29) rfl rfl (by kernel_rfl) (by kernel_rfl) (by kernel_rfl) (fun _ _ _ h => h) (Or.inl ⟨by rfl, ?hy29⟩) hHeld ?rest29
                    case hy29 => first | (intro w hSw; (try dsimp only at hSw); go_simp; done) | (intro w hSw; (try dsimp only at hSw); go_simp; with_reducible rfl)
                    try simp only [List.setIfInBounds_toArray, List.set_cons_zero, List.set_cons_succ]
                    refine held_take (i := 8) (v := ?v30) rfl rfl (by kernel_rfl) (by kernel_rfl) (by kernel_rfl) (fun _ _ _ h => h) (Or.inl ⟨by rfl, ?hy30⟩) hHeld ?rest30
                    case hy30 => first | (intro w hSw; (try dsimp only at hSw); go_simp; done) | (intro w hSw; (try dsimp only at hSw); go_simp; with_reducible rfl)
                    try simp only [List.setIfInBounds_toArray, List.set_cons_zero, List.set_cons_succ]
                    refine held_take (i := 9) (v := ?v31) rfl rfl (by kernel_rfl) (by kernel_rfl) (by kernel_rfl) (fun _ _ _ h => h) (Or.inl ⟨by rfl, ?hy31⟩) hHeld ?rest31
                    case hy31 => first | (intro w hSw; (try dsimp only at hSw); go_simp; done) | (intro w hSw; (try dsimp only at hSw); go_simp; with_reducible rfl)
                    try simp only [List.setIfInBounds_toArray, List.set_cons_zero, List.set_cons_succ]
                    refine held_take (i := 10) (v := ?v32) rfl rfl (by kernel_rfl) (by kernel_rfl) (by kernel_rfl) (fun _ _ _ h => h) (Or.inl ⟨by rfl, ?hy32⟩) hHeld ?rest32
                    case hy32 => first | (intro w hSw; (try dsimp only at hSw); go_simp; done) | (intro w hSw; (try dsimp only at hSw); go_simp; with_reducible rfl)
                    try simp only [List.setIfInBounds_toArray, List.set_cons_zero, List.set_cons_succ]
                    refine held_take (i := 11) (v := ?v33) rfl rfl (by kernel_rfl) (by kernel_rfl) (by kernel_rfl) (fun _ _ _ h => h) (Or.inl ⟨by rfl, ?hy33⟩) hHeld ?rest33
                    case hy33 => first | (intro w hSw; (try dsimp only at hSw); go_simp; done) | (intro w hSw; (try dsimp only at hSw); go_simp; with_reducible rfl)
                    try simp only [List.setIfInBounds_toArray, List.set_cons_zero, List.set_cons_succ]
                    refine held_take (i := 12) (v := ?v34) rfl rfl (by kernel_rfl) (by kernel_rfl) (by kernel_rfl) (fun _ _ _ h => h) (Or.inl ⟨by rfl, ?hy34⟩) hHeld ?rest34
                    case hy34 => first | (intro w hSw; (try dsimp only at hSw); go_simp; done) | (intro w hSw; (try dsimp only at hSw); go_simp; with_reducible rfl)
                    try simp only [List.setIfInBounds_toArray, List.set_cons_zero, List.set_cons_succ]
                    refine held_take (i := 13) (v := ?v35) rfl rfl (by kernel_rfl) (by kernel_rfl) (by kernel_rfl) (fun _ _ _ h => h) (Or.inl ⟨by rfl, ?hy35⟩) hHeld ?rest35
                    case hy35 => first | (intro w hSw; (try dsimp only at hSw); go_simp; done) | (intro w hSw; (try dsimp only at hSw); go_simp; with_reducible rfl)
                    try simp only [List.setIfInBounds_toArray, List.set_cons_zero, List.set_cons_succ]
                    refine held_take (i := 14) (v := ?v36) rfl rfl (by kernel_rfl) (by kernel_rfl) (by kernel_rfl) (fun _ _ _ h => h) (Or.inl ⟨by rfl, ?hy36⟩) hHeld ?rest36
                    case hy36 => first | (intro w hSw; (try dsimp only at hSw); go_simp; done) | (intro w hSw; (try dsimp only at hSw); go_simp; with_reducible rfl)
                    try simp only [List.setIfInBounds_toArray, List.set_cons_zero, List.set_cons_succ]
                    refine held_take (i := 15) (v := ?v37) rfl rfl (by kernel_rfl) (by kernel_rfl) (by kernel_rfl) (fun _ _ _ h => h) (Or.inl ⟨by rfl, ?hy37⟩) hHeld ?rest37
                    case hy37 => first | (intro w hSw; (try dsimp only at hSw); go_simp; done) | (intro w hSw; (try dsimp only at hSw); go_simp; with_reducible rfl)
                    try simp only [List.setIfInBounds_toArray, List.set_cons_zero, List.set_cons_succ]
                    refine held_take (i := 16) (v := ?v38) rfl rfl (by kernel_rfl) (by kernel_rfl) (by kernel_rfl) (fun _ _ _ h => h) (Or.inl ⟨by rfl, ?hy38⟩) hHeld ?rest38
                    case hy38 => first | (intro w hSw; (try dsimp only at hSw); go_simp; done) | (intro w hSw; (try dsimp only at hSw); go_simp; with_reducible rfl)
                    try simp only [List.setIfInBounds_toArray, List.set_cons_zero, List.set_cons_succ]
                    refine held_take (i := 17) (v := ?v39) rfl rfl (by kernel_rfl) (by kernel_rfl) (by kernel_rfl) (fun _ _ _ h => h) (Or.inl ⟨by rfl, ?hy39⟩) hHeld ?rest39
                    case hy39 => first | (intro w hSw; (try dsimp only at hSw); go_simp; done) | (intro w hSw; (try dsimp only at hSw); go_simp; with_reducible rfl)
                    try simp only [List.setIfInBounds_toArray, List.set_cons_zero, List.set_cons_succ]
                    refine held_take (i := 18) (v := ?v40) rfl rfl (by kernel_rfl) (by kernel_rfl) (by kernel_rfl) (fun _ _ _ h => h) (Or.inl ⟨by rfl, ?hy40⟩) hHeld ?rest40
                    case hy40 => first | (intro w hSw; (try dsimp only at hSw); go_simp; done) | (intro w hSw; (try dsimp only at hSw); go_simp; with_reducible rfl)
                    try simp only [List.setIfInBounds_toArray, List.set_cons_zero, List.set_cons_succ]
                    refine held_take (i := 19) (v := ?v41) rfl rfl (by kernel_rfl) (by kernel_rfl) (by kernel_rfl) (fun _ _ _ h => h) (Or.inl ⟨by rfl, ?hy41⟩) hHeld ?rest41
                    case hy41 => first | (intro w hSw; (try dsimp only at hSw); go_simp; done) | (intro w hSw; (try dsimp only at hSw); go_simp; with_reducible rfl)
                    try simp only [List.setIfInBounds_toArray, List.set_cons_zero, List.set_cons_succ]
                    refine wpAnyH_done (by kernel_rfl) ?_ _
                    refine And.intro ?_ hHeld
                    with_reducible rfl
                  case cont21 =>
                  intro e a' w' hq
                  obtain ⟨rfl, rfl, hkq⟩ := hq.out
                  go_wp2
                  go_ret
                  exact ⟨by rw [HE.out]; rfl, HK.out.tr (KX.out.tr (hkx.tr hkq))⟩
                · rw [ea] at g3
                  have eb2 : (E.b == D.b) = false := beq_eq_false_iff_ne.2 eb
                  have HQ : Hid ((!(decide (E.a = D.a) && decide (E.b = D.b))) = true) := by show (!(decide (E.a = D.a) && decide (E.b = D.b))) = true; rw [decide_eq_false eb]; simp
                  clear ea
                  go_wp2
                  refine Code.wp_mono (Q := Rg6 ?A42 wr) ?cont42 ?reg42
                  case reg42 =>
                    repeat (rename_i hh; clear hh)
                    refine wp_region_held_drew (S := fun w' => Kept wr w' none) (by kernel_rfl) (Kept.tr (Kept.refl _ _) (Kept.drew _ _)) (fun hHeld => ?_)
                    refine held_take (i := 0) (v := ?v43) rfl rfl (by kernel_rfl) (by kernel_rfl) (by kernel_rfl) (fun _ _ _ h => h) (Or.inl ⟨by rfl, ?hy43⟩) hHeld ?rest43
                    case hy43 => first | (intro w hSw; (try dsimp only at hSw); go_simp; done) | (intro w hSw; (try dsimp only at hSw); go_simp; with_reducible rfl)
                    try simp only [List.setIfInBounds_toArray, List.set_cons_zero, List.set_cons_succ]
                    refine held_take (i := 1) (v := ?v44) rfl rfl (by kernel_rfl) (by kernel_rfl) (by kernel_rfl) (fun _ _ _ h => h) (Or.inl ⟨by rfl, ?hy44⟩) hHeld ?rest44
                    case hy44 => first | (intro w hSw; (try dsimp only at hSw); go_simp; done) | (intro w hSw; (try dsimp only at hSw); go_simp; with_reducible rfl)
                    try simp only [List.setIfInBounds_toArray, List.set_cons_zero, List.set_cons_succ]
                    refine held_take (i := 2) (v := ?v45) rfl rfl (by kernel_rfl) (by kernel_rfl) (by kernel_rfl) (fun _ _ _ h => h) (Or.inl ⟨by rfl, ?hy45⟩) hHeld ?rest45
                    case hy45 => first | (intro w hSw; (try dsimp only at hSw); go_simp; done) | (intro w hSw; (try dsimp only at hSw); go_simp; with_reducible rfl)
                    try simp only [List.setIfInBounds_toArray, List.set_cons_zero, List.set_cons_succ]
                    refine held_take (i := 3) (v := ?v46) rfl rfl (by kernel_rfl) (by kernel_rfl) (by kernel_rfl) (fun _ _ _ h => h) (Or.inl ⟨by rfl, ?hy46⟩) hHeld ?rest46
                    case hy46 => first | (intro w hSw; (try dsimp only at hSw); go_simp; done) | (intro w hSw; (try dsimp only at hSw); go_simp; with_reducible rfl)
                    try simp only [List.setIfInBounds_toArray, List.set_cons_zero, List.set_cons_succ]
                    refine held_take (i := 4) (v := ?v47) rfl rfl (by kernel_rfl) (by kernel_rfl) (by kernel_rfl) (fun _ _ _ h => h) (Or.inl ⟨by rfl, ?hy47⟩) hHeld ?rest47
                    case hy47 => first | (intro w hSw; (try dsimp only at hSw); go_simp; done) | (intro w hSw; (try dsimp only at hSw); go_simp; with_reducible rfl)
                    try simp only [List.setIfInBounds_toArray, List.set_cons_zero, List.set_cons_succ]
                    refine held_take (i := 5) (v := ?v48) rfl rfl (by kernel_rfl) (by kernel_rfl) (by kernel_rfl) (fun _ _ _ h => h) (Or.inl ⟨by rfl, ?hy48⟩) hHeld ?rest48
                    case hy48 => first | (intro w hSw; (try dsimp only at hSw); go_simp; done) | (intro w hSw; (try dsimp only at hSw); go_simp; with_reducible rfl)
                    try simp only [List.setIfInBounds_toArray, List.set_cons_zero, List.set_cons_succ]
                    refine held_take (i := 6) (v := ?v49) rfl rfl (by kernel_rfl) (by kernel_rfl) (by kernel_rfl) (fun _ _ _ h => h) (Or.inl ⟨by rfl, ?hy49⟩) hHeld ?rest49
                    case hy49 => first | (intro w hSw; (try dsimp only at hSw); go_simp; done) | (intro w hSw; (try dsimp only at hSw); go_simp; with_reducible rfl)
                    try simp only [List.setIfInBounds_toArray, List.set_cons_zero, List.set_cons_succ]
                    refine held_take (i := 7) (v := ?v50) rfl rfl (by kernel_rfl) (by kernel_rfl) (by kernel_rfl) (fun _ _ _ h => h) (Or.inl ⟨by rfl, ?hy50⟩) hHeld ?rest50
                    case hy50 => first | (intro w hSw; (try dsimp only at hSw); go_simp; done) | (intro w hSw; (try dsimp only at hSw); go_simp; with_reducible rfl)
                    try simp only [List.setIfInBounds_toArray, List.set_cons_zero, List.set_cons_succ]
                    refine held_take (i := 8) (v := ?v51) rfl rfl (by kernel_rfl) (by kernel_rfl) (by kernel_rfl) (fun _ _ _ h => h) (Or.inl ⟨by rfl, ?hy51⟩) hHeld ?rest51
                    case hy51 => first | (intro w hSw; (try dsimp only at hSw); go_simp; done) | (intro w hSw; (try dsimp only at hSw); go_simp; with_reducible rfl)
                    try simp only [List.setIfInBounds_toArray, List.set_cons_zero, List.set_cons_succ]
                    refine held_take (i := 9) (v := ?v52) rfl rfl (by kernel_rfl) (by kernel_rfl) (by kernel_rfl) (fun _ _ _ h => h) (Or.inl ⟨by rfl, ?hy52⟩) hHeld ?rest52
                    case hy52 => first | (intro w hSw; (try dsimp only at hSw); go_simp; done) | (intro w hSw; (try dsimp only at hSw); go_simp; with_reducible rfl)
                    try simp only [List.setIfInBounds_toArray, List.set_cons_zero, List.set_cons_succ]
                    refine held_take (i := 10) (v := ?v53) rfl rfl (by kernel_rfl) (by kernel_rfl) (by kernel_rfl) (fun _ _ _ h => h) (Or.inl ⟨by rfl, ?hy53⟩) hHeld ?rest53
                    case hy53 => first | (intro w hSw; (try dsimp only at hSw); go_simp; done) | (intro w hSw; (try dsimp only at hSw); go_simp; with_reducible rfl)
                    try simp only [List.setIfInBounds_toArray, List.set_cons_zero, List.set_cons_succ]
                    refine held_take (i := 11) (v := ?v54) rfl rfl (by kernel_rfl) (by kernel_rfl) (by kernel_rfl) (fun _ _ _ h => h) (Or.inl ⟨by rfl, ?hy54⟩) hHeld ?rest54
                    case hy54 => first | (intro w hSw; (try dsimp only at hSw); go_simp; done) | (intro w hSw; (try dsimp only at hSw); go_simp; with_reducible rfl)
                    try simp only [List.setIfInBounds_toArray, List.set_cons_zero, List.set_cons_succ]
                    refine held_take (i := 12) (v := ?v55) rfl rfl (by kernel_rfl) (by kernel_rfl) (by kernel_rfl) (fun _ _ _ h => h) (Or.inl ⟨by rfl, ?hy55⟩) hHeld ?rest55
                    case hy55 => first | (intro w hSw; (try dsimp only at hSw); go_simp; done) | (intro w hSw; (try dsimp only at hSw); go_simp; with_reducible rfl)
                    try simp only [List.setIfInBounds_toArray, List.set_cons_zero, List.set_cons_succ]
                    refine held_take (i := 13) (v := ?v56) rfl rfl (by kernel_rfl) (by kernel_rfl) (by kernel_rfl) (fun _ _ _ h => h) (Or.inl ⟨by rfl, ?hy56⟩) hHeld ?rest56
                    case hy56 => first | (intro w hSw; (try dsimp only at hSw); go_simp; done) | (intro w hSw; (try dsimp only at hSw); go_simp; with_reducible rfl)
                    try simp only [List.setIfInBounds_toArray, List.set_cons_zero, List.set_cons_succ]
                    refine held_take (i := 14) (v := ?v57) rfl rfl (by kernel_rfl) (by kernel_rfl) (by kernel_rfl) (fun _ _ _ h => h) (Or.inl ⟨by rfl, ?hy57⟩) hHeld ?rest57
                    case hy57 => first | (intro w hSw; (try dsimp only at hSw); go_simp; done) | (intro w hSw; (try dsimp only at hSw); go_simp; with_reducible rfl)
                    try simp only [List.setIfInBounds_toArray, List.set_cons_zero, List.set_cons_succ]
                    refine held_take (i := 15) (v := ?v58) rfl rfl (by kernel_rfl) (by kernel_rfl) (by kernel_rfl) (fun _ _ _ h => h) (Or.inl ⟨by rfl, ?hy58⟩) hHeld ?rest58
                    case hy58 => first | (intro w hSw; (try dsimp only at hSw); go_simp; done) | (intro w hSw; (try dsimp only at hSw); go_simp; with_reducible rfl)
                    try simp only [List.setIfInBounds_toArray, List.set_cons_zero, List.set_cons_succ]
                    refine held_take (i := 16) (v := ?v59) rfl rfl (by kernel_rfl) (by kernel_rfl) (by kernel_rfl) (fun _ _ _ h => h) (Or.inl ⟨by rfl, ?hy59⟩) hHeld ?rest59
                    case hy59 => first | (intro w hSw; (try dsimp only at hSw); go_simp; done) | (intro w hSw; (try dsimp only at hSw); go_simp; with_reducible rfl)
                    try simp only [List.setIfInBounds_toArray, List.set_cons_zero, List.set_cons_succ]
                    refine held_take (i := 17) (v := ?v60) rfl rfl (by kernel_rfl) (by kernel_rfl) (by kernel_rfl) (fun _ _ _ h => h) (Or.inl ⟨by rfl, ?hy60⟩) hHeld ?rest60
                    case hy60 => first | (intro w hSw; (try dsimp only at hSw); go_simp; done) | (intro w hSw; (try dsimp only at hSw); go_simp; with_reducible rfl)
                    try simp only [List.setIfInBounds_toArray, List.set_cons_zero, List.set_cons_succ]
                    refine held_take (i := 18) (v := ?v61) rfl rfl (by kernel_rfl) (by kernel_rfl) (by kernel_rfl) (fun _ _ _ h => h) (Or.inl ⟨by rfl, ?hy61⟩) hHeld ?rest61
                    case hy61 => first | (intro w hSw; (try dsimp only at hSw); go_simp; done) | (intro w hSw; (try dsimp only at hSw); go_simp; with_reducible rfl)
                    try simp only [List.setIfInBounds_toArray, List.set_cons_zero, List.set_cons_succ]
                    refine held_take (i := 19) (v := ?v62) rfl rfl (by kernel_rfl) (by kernel_rfl) (by kernel_rfl) (fun _ _ _ h => h) (Or.inl ⟨by rfl, ?hy62⟩) hHeld ?rest62
                    case hy62 => first | (intro w hSw; (try dsimp only at hSw); go_simp; done) | (intro w hSw; (try dsimp only at hSw); go_simp; with_reducible rfl)
                    try simp only [List.setIfInBounds_toArray, List.set_cons_zero, List.set_cons_succ]
                    refine wpAnyH_done (by kernel_rfl) ?_ _
                    refine And.intro ?_ hHeld
                    with_reducible rfl
                  case cont42 =>
                  intro e a' w' hq
                  obtain ⟨rfl, rfl, hkq⟩ := hq.out
                  go_wp2
                  go_roundw
                  case rel => exact ⟨j + 1, by omega, by go_num, (fun t ht => (by
                    by_cases e : t = j
                    · rw [e, HEE.out]; exact HQ.out
                    · exact HTS.out t ht e)), hkx.tr hkq⟩
                  case measure => simp [intOf]; omega
              · have HQ : Hid ((!(decide (E.a = D.a) && decide (E.b = D.b))) = true) := by show (!(decide (E.a = D.a) && decide (E.b = D.b))) = true; rw [decide_eq_false ea]; simp
                have ea2 : (E.a == D.a) = false := beq_eq_false_iff_ne.2 ea
                go_wp2
                refine Code.wp_mono (Q := Rg6 ?A63 wr) ?cont63 ?reg63
                case reg63 =>
                  repeat (rename_i hh; clear hh)
                  refine wp_region_held_drew (S := fun w' => Kept wr w' none) (by kernel_rfl) (Kept.tr (Kept.refl _ _) (Kept.drew _ _)) (fun hHeld => ?_)
                  refine held_take (i := 0) (v := ?v64) rfl rfl (by kernel_rfl) (by kernel_rfl) (by kernel_rfl) (fun _ _ _ h => h) (Or.inl ⟨by rfl, ?hy64⟩) hHeld ?rest64
                  case hy64 => first | (intro w hSw; (try dsimp only at hSw); go_simp; done) | (intro w hSw; (try dsimp only at hSw); go_simp; with_reducible rfl)
                  try simp only [List.setIfInBounds_toArray, List.set_cons_zero, List.set_cons_succ]
                  refine held_take (i := 1) (v := ?v65) rfl rfl (by kernel_rfl) (by kernel_rfl) (by kernel_rfl) (fun _ _ _ h => h) (Or.inl ⟨by rfl, ?hy65⟩) hHeld ?rest65
                  case hy65 => first | (intro w hSw; (try dsimp only at hSw); go_simp; done) | (intro w hSw; (try dsimp only at hSw); go_simp; with_reducible rfl)
                  try simp only [List.setIfInBounds_toArray, List.set_cons_zero, List.set_cons_succ]
                  refine held_take (i := 2) (v := ?v66) rfl rfl (by kernel_rfl) (by kernel_rfl) (by kernel_rfl) (fun _ _ _ h => h) (Or.inl ⟨by rfl, ?hy66⟩) hHeld ?rest66
                  case hy66 => first | (intro w hSw; (try dsimp only at hSw); go_simp; done) | (intro w hSw; (try dsimp only at hSw); go_simp; with_reducible rfl)
                  try simp only [List.setIfInBounds_toArray, List.set_cons_zero, List.set_cons_succ]
                  refine held_take (i := 3) (v := ?v67) rfl rfl (by kernel_rfl) (by kernel_rfl) (by kernel_rfl) (fun _ _ _ h => h) (Or.inl ⟨by rfl, ?hy67⟩) hHeld ?rest67
                  case hy67 => first | (intro w hSw; (try dsimp only at hSw); go_simp; done) | (intro w hSw; (try dsimp only at hSw); go_simp; with_reducible rfl)
                  try simp only [List.setIfInBounds_toArray, List.set_cons_zero, List.set_cons_succ]
                  refine held_take (i := 4) (v := ?v68) rfl rfl (by kernel_rfl) (by kernel_rfl) (by kernel_rfl) (fun _ _ _ h => h) (Or.inl ⟨by rfl, ?hy68⟩) hHeld ?rest68
                  case hy68 => first | (intro w hSw; (try dsimp only at hSw); go_simp; done) | (intro w hSw; (try dsimp only at hSw); go_simp; with_reducible rfl)
                  try simp only [List.setIfInBounds_toArray, List.set_cons_zero, List.set_cons_succ]
                  refine held_take (i := 5) (v := ?v69) rfl rfl (by kernel_rfl) (by kernel_rfl) (by kernel_rfl) (fun _ _ _ h => h) (Or.inl ⟨by rfl, ?hy69⟩) hHeld ?rest69
                  case hy69 => first | (intro w hSw; (try dsimp only at hSw); go_simp; done) | (intro w hSw; (try dsimp only at hSw); go_simp; with_reducible rfl)
                  try simp only [List.setIfInBounds_toArray, List.set_cons_zero, List.set_cons_succ]
                  refine held_take (i := 6) (v := ?v70) rfl rfl (by kernel_rfl) (by kernel_rfl) (by kernel_rfl) (fun _ _ _ h => h) (Or.inl ⟨by rfl, ?hy70⟩) hHeld ?rest70
                  case hy70 => first | (intro w hSw; (try dsimp only at hSw); go_simp; done) | (intro w hSw; (try dsimp only at hSw); go_simp; with_reducible rfl)
                  try simp only [List.setIfInBounds_toArray, List.set_cons_zero, List.set_cons_succ]
                  refine held_take (i := 7) (v := ?v71) rfl rfl (by kernel_rfl) (by kernel_rfl) (by kernel_rfl) (fun _ _ _ h => h) (Or.inl ⟨by rfl, ?hy71⟩) hHeld ?rest71
                  case hy71 => first | (intro w hSw; (try dsimp only at hSw); go_simp; done) | (intro w hSw; (try dsimp only at hSw); go_simp; with_reducible rfl)
                  try simp only [List.setIfInBounds_toArray, List.set_cons_zero, List.set_cons_succ]
                  refine held_take (i := 8) (v := ?v72) rfl rfl (by kernel_rfl) (by kernel_rfl) (by kernel_rfl) (fun _ _ _ h => h) (Or.inl ⟨by rfl, ?hy72⟩) hHeld ?rest72
                  case hy72 => first | (intro w hSw; (try dsimp only at hSw); go_simp; done) | (intro w hSw; (try dsimp only at hSw); go_simp; with_reducible rfl)
                  try simp only [List.setIfInBounds_toArray, List.set_cons_zero, List.set_cons_succ]
                  refine held_take (i := 9) (v := ?v73) rfl rfl (by kernel_rfl) (by kernel_rfl) (by kernel_rfl) (fun _ _ _ h => h) (Or.inl ⟨by rfl, ?hy73⟩) hHeld ?rest73
                  case hy73 => first | (intro w hSw; (try dsimp only at hSw); go_simp; done) | (intro w hSw; (try dsimp only at hSw); go_simp; with_reducible rfl)
                  try simp only [List.setIfInBounds_toArray, List.set_cons_zero, List.set_cons_succ]
                  refine held_take (i := 10) (v := undef) rfl rfl (by kernel_rfl) (by kernel_rfl) (by kernel_rfl) (fun _ _ _ h => h) (Or.inr ⟨by rfl, rfl⟩) hHeld ?_
                  try simp only [List.setIfInBounds_toArray, List.set_cons_zero, List.set_cons_succ]
                  refine held_take (i := 11) (v := undef) rfl rfl (by kernel_rfl) (by kernel_rfl) (by kernel_rfl) (fun _ _ _ h => h) (Or.inr ⟨by rfl, rfl⟩) hHeld ?_
                  try simp only [List.setIfInBounds_toArray, List.set_cons_zero, List.set_cons_succ]
                  refine held_take (i := 12) (v := undef) rfl rfl (by kernel_rfl) (by kernel_rfl) (by kernel_rfl) (fun _ _ _ h => h) (Or.inr ⟨by rfl, rfl⟩) hHeld ?_
                  try simp only [List.setIfInBounds_toArray, List.set_cons_zero, List.set_cons_succ]
                  refine held_take (i := 13) (v := undef) rfl rfl (by kernel_rfl) (by kernel_rfl) (by kernel_rfl) (fun _ _ _ h => h) (Or.inr ⟨by rfl, rfl⟩) hHeld ?_
                  try simp only [List.setIfInBounds_toArray, List.set_cons_zero, List.set_cons_succ]
                  refine held_take (i := 14) (v := undef) rfl rfl (by kernel_rfl) (by kernel_rfl) (by kernel_rfl) (fun _ _ _ h => h) (Or.inr ⟨by rfl, rfl⟩) hHeld ?_
                  try simp only [List.setIfInBounds_toArray, List.set_cons_zero, List.set_cons_succ]
                  refine held_take (i := 15) (v := undef) rfl rfl (by kernel_rfl) (by kernel_rfl) (by kernel_rfl) (fun _ _ _ h => h) (Or.inr ⟨by rfl, rfl⟩) hHeld ?_
                  try simp only [List.setIfInBounds_toArray, List.set_cons_zero, List.set_cons_succ]
                  refine held_take (i := 16) (v := undef) rfl rfl (by kernel_rfl) (by kernel_rfl) (by kernel_rfl) (fun _ _ _ h => h) (Or.inr ⟨by rfl, rfl⟩) hHeld ?_
                  try simp only [List.setIfInBounds_toArray, List.set_cons_zero, List.set_cons_succ]
                  refine held_take (i := 17) (v := undef) rfl rfl (by kernel_rfl) (by kernel_rfl) (by kernel_rfl) (fun _ _ _ h => h) (Or.inr ⟨by rfl, rfl⟩) hHeld ?_
                  try simp only [List.setIfInBounds_toArray, List.set_cons_zero, List.set_cons_succ]
                  refine held_take (i := 18) (v := undef) rfl rfl (by kernel_rfl) (by kernel_rfl) (by kernel_rfl) (fun _ _ _ h => h) (Or.inr ⟨by rfl, rfl⟩) hHeld ?_
                  try simp only [List.setIfInBounds_toArray, List.set_cons_zero, List.set_cons_succ]
                  refine held_take (i := 19) (v := ?v74) rfl rfl (by kernel_rfl) (by kernel_rfl) (by kernel_rfl) (fun _ _ _ h => h) (Or.inl ⟨by rfl, ?hy74⟩) hHeld ?rest74
                  case hy74 => first | (intro w hSw; (try dsimp only at hSw); go_simp; done) | (intro w hSw; (try dsimp only at hSw); go_simp; with_reducible rfl)
                  try simp only [List.setIfInBounds_toArray, List.set_cons_zero, List.set_cons_succ]
                  refine wpAnyH_done (by kernel_rfl) ?_ _
                  refine And.intro ?_ hHeld
                  with_reducible rfl
                case cont63 =>
                intro e a' w' hq
                obtain ⟨rfl, rfl, hkq⟩ := hq.out
                go_wp2
                go_roundw
                case rel => exact ⟨j + 1, by omega, by go_num, (fun t ht => (by
                  by_cases e : t = j
                  · rw [e, HEE.out]; exact HQ.out
                  · exact HTS.out t ht e)), hkx.tr hkq⟩
                case measure => simp [intOf]; omega
            · have e : j = k := by omega
              subst e
              have HY : Hid (rwedB N j = true) := by
                show rwedB N j = true
                rw [HRB.out, decide_eq_true HA.out.1.1, decide_eq_true HA.out.1.2.1, decide_eq_true HA.out.1.2.2, HA.out.2.1, HOY.out, allB_iff.2 HT.out]
                rfl
              go_wp2
              go_roundw
              case rel => exact ⟨j + 1, by omega, by go_num, (fun t ht => (by
                by_cases e : t = j
                · rw [e]; exact HY.out
                · exact HJ.out t (by omega))), KX.out.tr hkx⟩
              case measure => simp [intOf]; omega
    · have e : k = N.weds.length := by omega
      subst e
      have HE : Hid (rwedsB N = true) := by show rwedsB N = true; unfold rwedsB; rw [decide_eq_true (by omega), allB_iff.2 HJ.out]; rfl
      go_wp2
      go_ret
      exact ⟨by rw [HE.out]; rfl, HK.out.tr hkr⟩

end Go.Proofs.YtoahbpdgbiachaaDoor

/-
  THE CONTRACTS of what a region is asked: its counts, its sites.
-/
namespace Go.Proofs.YtoahbpdgbiachaaDoor
open Go.RowKit Go.Lib Go.Deep
set_option linter.unusedVariables false
set_option linter.unusedSimpArgs false

theorem i64_zero : i64B 0 := by unfold i64B; decide
theorem nwithin_any (n lo hi : Int) (w : World) : Calls Tryd.prog 86 #[.int .i64 n, .int .i64 lo, .int .i64 hi] w fun e w' => e = .returned (.bool (inB n lo hi)) ∧ w' = w := by
  go_enter Tryd.func86, Tryd.ntmps86
  go_wp2
  all_goals
    go_ret
    refine ⟨?_, rfl⟩
    simp [inB, *] <;> (first | omega | (intros; omega))
theorem nwithin_is {n lo hi : Int} {b : Bool} {w : World} (h : inB n lo hi = b) : Calls Tryd.prog 86 #[.int .i64 n, .int .i64 lo, .int .i64 hi] w fun e w' => e = .returned (.bool b) ∧ w' = w := by
  rw [← h]; exact nwithin_any n lo hi w
theorem checkE_yes' {S : St} (h : siteB S = true) : checkE S = 0 := by unfold checkE; rw [if_pos h]
theorem checkE_no' {S : St} (h : siteB S = false) : checkE S = 50 := by unfold checkE; rw [if_neg (by rw [h]; decide)]
/-- What does not hang on the map's block. -/
structure Far (w : World) (B : Nat) (Y : Na) (N : Nt) : Prop where
  net : ∀ w', Kept w w' (some B) → NetAt w' Y N
  tab : ∀ w', Kept w w' (some B) → Tabb w'
theorem Far.kept {w w' : World} {B : Nat} {Y : Na} {N : Nt} (h : Far w B Y N) (q : Kept w w' (some B)) : Far w' B Y N := ⟨fun w'' k => h.net w'' (q.tr k), fun w'' k => h.tab w'' (q.tr k)⟩
def HoldP (r : Option Ms) (w : World) (B : Nat) (e : Ending) (w' : World) : Prop := match r with
  | none => e = .returned (.bool false) ∧ Kept w w' (some B)
  | some M => e = .returned (.bool true) ∧ Marks w' B M ∧ Kept w w' (some B)
theorem HoldP.no {r : Option Ms} {w w' : World} {B : Nat} (h : r = none) (k : Kept w w' (some B)) : HoldP r w B (.returned (.bool false)) w' := by subst h; exact ⟨rfl, k⟩
theorem HoldP.yes {r : Option Ms} {M : Ms} {w w' : World} {B : Nat} (h : r = some M) (m : Marks w' B M) (k : Kept w w' (some B)) : HoldP r w B (.returned (.bool true)) w' := by subst h; exact ⟨rfl, m, k⟩
set_option maxRecDepth 100000 in
set_option maxHeartbeats 2000000 in
theorem counts_net {w : World} {Y : Na} {N : Nt} (h : NetAt w Y N) : Calls Tryd.prog 56 #[netV Y N] w fun e w' => e = .returned (.bool (ncountsB N)) ∧ Kept w w' none := by
  have h1 : N.sites.length ≤ 9223372036854775807 := by have := h.sk.room; have := h.sk.max; omega
  have h2 : N.subs.length ≤ 9223372036854775807 := by have := h.uk.room; have := h.uk.max; omega
  have h3 : N.weds.length ≤ 9223372036854775807 := by have := h.dk.room; have := h.dk.max; omega
  have hk : Kept w (w.alloc (.cells #[.slice Y.s N.sites.length Y.sc, .slice Y.u N.subs.length Y.uc, .slice Y.d N.weds.length Y.dc, .int .i64 N.low, .int .i64 N.high, .int .i64 N.step] 26)) none := Kept.alloc _ _ _ _ _
  have HK := Hid.mk' hk
  have HE : Hid (ncountsB N = (inB N.sites.length 1 12 && inB N.subs.length 1 6 && decide (N.weds.length ≤ 8))) := rfl
  clear h hk
  go_enter Tryd.func56, Tryd.ntmps56
  cases b1 : inB N.sites.length 1 12 with
  | false =>
    go_wp2_with (go_at_call 86; refine (nwithin_is (by assumption)).mono ?_; rintro e w9 ⟨rfl, rfl⟩)
    go_ret
    exact ⟨by rw [HE.out, b1]; rfl, HK.out⟩
  | true =>
    cases b2 : inB N.subs.length 1 6 with
    | false =>
      go_wp2_with (go_at_call 86; refine (nwithin_is (by assumption)).mono ?_; rintro e w9 ⟨rfl, rfl⟩)
      go_ret
      exact ⟨by rw [HE.out, b1, b2]; rfl, HK.out⟩
    | true =>
      go_wp2_with (go_at_call 86; refine (nwithin_is (by assumption)).mono ?_; rintro e w9 ⟨rfl, rfl⟩)
      go_ret
      exact ⟨ret_bool (by rw [HE.out, b1, b2, Bool.eq_iff_iff]; simp; omega), HK.out⟩
set_option maxRecDepth 100000 in
set_option maxHeartbeats 4000000 in
theorem sites_net {w : World} {B : Nat} {Y : Na} {N : Nt} (h : Far w B Y N) (hM : Marks w B []) (hn : N.sites.length ≤ 12) : Calls Tryd.prog 57 #[netV Y N, .map (some B)] w fun e w' => HoldP (sitesF N N.sites.length) w B e w' := by
  obtain ⟨ys, ysc, yu, yuc, yd, ydc, X, r, t⟩ := Y
  have hk : Kept w (w.alloc (.cells #[.slice ys N.sites.length ysc, .slice yu N.subs.length yuc, .slice yd N.weds.length ydc, .int .i64 N.low, .int .i64 N.high, .int .i64 N.step] 26)) none := Kept.alloc _ _ _ _ _
  have HK := Hid.mk' (kept_any (r := some B) hk)
  have HF := Hid.mk' (h.kept (kept_any hk))
  have HM := Hid.mk' (hM.kept hk (by simp))
  clear h hM hk
  go_enter Tryd.func57, Tryd.ntmps57
  go_wp2
  generalize hW : (w.alloc (.cells #[.slice ys N.sites.length ysc, .slice yu N.subs.length yuc, .slice yd N.weds.length ydc, .int .i64 N.low, .int .i64 N.high, .int .i64 N.step] 26)) = W at *
  clear hW
  go_loopw [10] (fun i wr => ∃ (k : Nat) (M : Ms), k ≤ N.sites.length ∧ i = .int .i64 k ∧ Hid (sitesF N k = some M) ∧ Hid (Marks wr B M) ∧ M.length ≤ k ∧ Hid (Kept W wr (some B))) (fun i _ => N.sites.length - (intOf i).toNat)
  case atStart => exact ⟨0, [], Nat.zero_le _, rfl, rfl, HM, Nat.le_refl _, Kept.refl _ _⟩
  case round =>
    obtain ⟨k, M, hk, rfl, HS, HMr, hl, KR⟩ := hrel
    by_cases hlt : k < N.sites.length
    · have hL := (HF.out.net _ KR.out).s1
      have hX := (HF.out.net _ KR.out).s2
      obtain ⟨sb, so, es, hsb, hc⟩ := hL.at_ (by omega)
      dsimp only at es
      subst es
      have hXk := hX k hlt
      have HR : Hid (sitesF N (k + 1) = if siteB (N.sites.getD k s0) = true then putF M (0, (N.sites.getD k s0).id, 0) k else none) := by
        show sitesF N (k + 1) = _
        rw [sitesF, HS.out]
      have e0 := hc k hlt 0 (by omega)
      have e1 := hc k hlt 1 (by omega)
      have e2 := hc k hlt 2 (by omega)
      have e3 := hc k hlt 3 (by omega)
      have e4 := hc k hlt 4 (by omega)
      have e5 := hc k hlt 5 (by omega)
      have e6 := hc k hlt 6 (by omega)
      have e7 := hc k hlt 7 (by omega)
      have e8 := hc k hlt 8 (by omega)
      have e9 := hc k hlt 9 (by omega)
      have e10 := hc k hlt 10 (by omega)
      have e11 := hc k hlt 11 (by omega)
      generalize N.sites.getD k s0 = S at *
      dsimp only at e0 e1 e2 e3 e4 e5 e6 e7 e8 e9 e10 e11 hXk
      generalize X k = Xk at *
      obtain ⟨xg, xgc, xa, xac, xb, xbc, xp, xpc, xe, xec, xl, xlc⟩ := Xk
      dsimp only [stV, Nat.add_zero] at e0 e1 e2 e3 e4 e5 e6 e7 e8 e9 e10 e11
      clear hc hL hX
      have hkA : Kept wr (wr.alloc (.cells #[.int .i64 S.id, .slice xg S.groups.length xgc, .slice xa S.apart.length xac, .slice xb S.between.length xbc, .slice xp S.phases.length xpc, .slice xe S.eyes.length xec, .int .i64 S.watch, .int .i64 S.feed, .int .i64 S.heal, .int .i64 S.low, .int .i64 S.high, .slice xl S.plans.length xlc] 48)) none := Kept.alloc _ _ _ _ _
      have HX2 := Hid.mk' (hXk.kept hkA)
      have HT2 := Hid.mk' (HF.out.tab _ (KR.out.tr (kept_any hkA)))
      have HC0 : Hid ((wr.alloc (.cells #[.int .i64 S.id, .slice xg S.groups.length xgc, .slice xa S.apart.length xac, .slice xb S.between.length xbc, .slice xp S.phases.length xpc, .slice xe S.eyes.length xec, .int .i64 S.watch, .int .i64 S.feed, .int .i64 S.heal, .int .i64 S.low, .int .i64 S.high, .slice xl S.plans.length xlc] 48)).cell? ⟨wr.heap.size, 0, none⟩ = some (.int .i64 S.id)) := by
        show (wr.alloc (.cells #[.int .i64 S.id, .slice xg S.groups.length xgc, .slice xa S.apart.length xac, .slice xb S.between.length xbc, .slice xp S.phases.length xpc, .slice xe S.eyes.length xec, .int .i64 S.watch, .int .i64 S.feed, .int .i64 S.heal, .int .i64 S.low, .int .i64 S.high, .slice xl S.plans.length xlc] 48)).cell? ⟨wr.heap.size, 0, none⟩ = some (.int .i64 S.id)
        simp [World.cell?_alloc_mark]
      have HMA := Hid.mk' (HMr.out.kept hkA (by simp))
      have HKA := Hid.mk' (KR.out.tr (kept_any hkA))
      have hid : mkR (0, S.id, 0) := ⟨i64_zero, hXk.nr.1, i64_zero⟩
      have hpl : i64B (k : Int) := by unfold i64B; omega
      have HNO : Hid (sitesF N (k + 1) = none → sitesF N N.sites.length = none) := fun q => sitesF_none q _ (by omega)
      clear hXk hkA HS HMr
      cases hs : siteB S with
      | false =>
        have hce := checkE_no' hs
        have HE := Hid.mk' (HNO.out (by rw [HR.out, hs]; rfl))
        go_wp2_with (go_at_call 24; have hn := check_any HX2.out HT2.out; rw [hce] at hn; refine hn.mono ?_; rintro e w3 ⟨rfl, hk3⟩; have c0 := cell_kept0 HC0.out hk3)
        go_ret
        exact HoldP.no HE.out (HK.out.tr (HKA.out.tr (kept_any hk3)))
      | true =>
        have hce := checkE_yes' hs
        cases hf : mkF M (0, S.id, 0) with
        | some v =>
          have HE := Hid.mk' (HNO.out (by rw [HR.out, hs, if_pos rfl]; exact putF_old hf))
          go_wp2_with (first
            | (have hgo := hk3; clear hgo; go_at_call 87; refine (isFirst_old (HMA.out.kept hk3 (by simp)) hid _ v hf).mono ?_; rintro e w4 ⟨rfl, hk4⟩)
            | (go_at_call 24; have hn := check_any HX2.out HT2.out; rw [hce] at hn; refine hn.mono ?_; rintro e w3 ⟨rfl, hk3⟩; have c0 := cell_kept0 HC0.out hk3))
          go_ret
          exact HoldP.no HE.out (HK.out.tr (HKA.out.tr ((kept_any hk3).tr (kept_any hk4))))
        | none =>
          have HE : Hid (sitesF N (k + 1) = some (((0, S.id, 0), (k : Int)) :: M)) := by
            show sitesF N (k + 1) = _
            rw [HR.out, hs, if_pos rfl]
            exact putF_new hf
          go_wp2_with (first
            | (have hgo := hk3; clear hgo; go_at_call 87; refine (isFirst_new (HMA.out.kept hk3 (by simp)) hid _ hpl (by omega) hf).mono ?_; rintro e w4 ⟨rfl, hm4, hk4⟩)
            | (go_at_call 24; have hn := check_any HX2.out HT2.out; rw [hce] at hn; refine hn.mono ?_; rintro e w3 ⟨rfl, hk3⟩; have c0 := cell_kept0 HC0.out hk3))
          go_roundw
          case rel => exact ⟨k + 1, _, by omega, by go_num, HE, hm4, (by simp; omega), HKA.out.tr ((kept_any hk3).tr hk4)⟩
          case measure => simp [intOf]; omega
    · have e : k = N.sites.length := by omega
      subst e
      go_wp2
      go_ret
      exact HoldP.yes HS.out HMr.out (HK.out.tr KR.out)

end Go.Proofs.YtoahbpdgbiachaaDoor

/-
  THE CONTRACTS of what a region is asked: the sites of a sub, whether all are placed.
-/
namespace Go.Proofs.YtoahbpdgbiachaaDoor
open Go.RowKit Go.Lib Go.Deep Go.Maps
set_option linter.unusedVariables false
set_option linter.unusedSimpArgs false

theorem countP_put {p q : Nat → Bool} {x : Nat} (h0 : p x = false) (h1 : q x = true) (h2 : ∀ i, i ≠ x → q i = p i) : ∀ n, (List.range n).countP q = (List.range n).countP p + (if x < n then 1 else 0)
  | 0 => by simp
  | n + 1 => by
    rw [List.range_succ, List.countP_append, List.countP_append, countP_put h0 h1 h2 n]
    by_cases e : n = x
    · subst e
      simp [h0, h1]
    · have h3 := h2 n e
      simp only [List.countP_singleton, h3]
      by_cases hx : x < n
      · rw [if_pos hx, if_pos (show x < n + 1 by omega)]; omega
      · rw [if_neg hx, if_neg (show ¬ x < n + 1 by omega)]; omega
/-- How many places have a mark. -/
def manyP (N : Nt) (M : Ms) : Nat := (List.range N.sites.length).countP (fun i : Nat => (mkF M (1, (i : Int), 0)).isSome)
theorem manyP_le (N : Nt) (M : Ms) : manyP N M ≤ N.sites.length := by
  have := List.countP_le_length (p := fun i => (mkF M (1, ((i : Nat) : Int), 0)).isSome) (l := List.range N.sites.length)
  simpa [manyP] using this
theorem manyP_put {N : Nt} {M : Ms} {x : Int} {p : Int} (hx : inB x 0 ((N.sites.length : Int) - 1) = true) (h : mkF M (1, x, 0) = none) : manyP N (((1, x, 0), p) :: M) = manyP N M + 1 := by
  have hb := inB_iff.1 hx
  obtain ⟨n, rfl⟩ : ∃ n : Nat, x = n := ⟨x.toNat, by omega⟩
  have := countP_put (p := fun i => (mkF M (1, (i : Int), 0)).isSome) (q := fun i => (mkF (((1, (n : Int), 0), p) :: M) (1, (i : Int), 0)).isSome) (x := n) (by show (mkF M (1, (n : Int), 0)).isSome = false; rw [h]; rfl) (by show (mkF (((1, (n : Int), 0), p) :: M) (1, (n : Int), 0)).isSome = true; rw [mkF_same]; rfl) (fun i hi => by
    show (mkF (((1, (n : Int), 0), p) :: M) (1, (i : Int), 0)).isSome = (mkF M (1, (i : Int), 0)).isSome
    rw [mkF_other _ _ (fun e => hi (by have := congrArg (fun z : Mk => z.2.1) e; simp only at this; omega))]) N.sites.length
  unfold manyP
  rw [this, if_pos (by omega)]
theorem takeF_many {N : Nt} {place : Nat} {l : List Int} {M : Ms} : ∀ k M', takeF N place l M k = some M' → manyP N M' = manyP N M + k ∧ M'.length = M.length + k
  | 0, M', h => by injection h with h; subst h; exact ⟨rfl, rfl⟩
  | k + 1, M', h => by
    rw [takeF] at h
    cases h1 : takeF N place l M k with
    | none => rw [h1] at h; cases h
    | some M1 =>
      rw [h1] at h
      simp only at h
      split at h
      · rename_i hin
        cases h2 : mkF M1 (1, l.getD k 0, 0) with
        | some v => rw [putF_old h2] at h; cases h
        | none =>
          rw [putF_new h2] at h
          injection h with h
          subst h
          obtain ⟨i1, i2⟩ := takeF_many k M1 h1
          refine ⟨by rw [manyP_put hin h2, i1]; omega, by simp [i2]; omega⟩
      · cases h
set_option maxRecDepth 100000 in
set_option maxHeartbeats 4000000 in
theorem take_net {w : World} {B : Nat} {Y : Na} {N : Nt} {M : Ms} (h : Far w B Y N) (hM : Marks w B M) (hn : N.sites.length ≤ 12) (hl : M.length ≤ 500) (place : Nat) (hp : place < N.subs.length) : Calls Tryd.prog 88 #[netV Y N, .map (some B), .int .i64 place] w fun e w' => HoldP (takeF N place (N.subs.getD place u0).sites M (N.subs.getD place u0).sites.length) w B e w' := by
  obtain ⟨ys, ysc, yu, yuc, yd, ydc, X, r, t⟩ := Y
  have h0 := h.net w (Kept.refl _ _)
  have hsm : N.subs.length ≤ 9223372036854775807 := by have := h0.uk.room; have := h0.uk.max; omega
  obtain ⟨ub, uo, eu, hub, hc⟩ := h0.u1.at_ (by omega)
  dsimp only at eu
  subst eu
  have hk : Kept w (w.alloc (.cells #[.slice ys N.sites.length ysc, .slice (some ⟨ub, uo, none⟩) N.subs.length yuc, .slice yd N.weds.length ydc, .int .i64 N.low, .int .i64 N.high, .int .i64 N.step] 26)) none := Kept.alloc _ _ _ _ _
  have HK := Hid.mk' (kept_any (r := some B) hk)
  have HF := Hid.mk' (h.kept (kept_any hk))
  have HM := Hid.mk' (hM.kept hk (by simp))
  have hBn := hM.lt
  have hI := (h.kept (kept_any hk)).net _ (Kept.refl _ _)
  have hIu := hI.u2 place hp
  dsimp only at hIu
  have e0 : w.cell? ⟨ub, uo + place * 2, none⟩ = some (.slice (r place).1 (N.subs.getD place u0).sites.length (r place).2) := hc place hp 0 (by omega)
  have HI : Hid (∀ w', Kept (w.alloc (.cells #[.slice ys N.sites.length ysc, .slice (some ⟨ub, uo, none⟩) N.subs.length yuc, .slice yd N.weds.length ydc, .int .i64 N.low, .int .i64 N.high, .int .i64 N.step] 26)) w' (some B) → Ints w' (r place).1 (N.subs.getD place u0).sites.length (r place).2 (N.subs.getD place u0).sites) := fun w' q => ((h.kept (kept_any hk)).net w' q).u2 place hp
  have hlm : (N.subs.getD place u0).sites.length ≤ 9223372036854775807 := by have := hIu.cap.room; have := hIu.cap.max; omega
  have hc0 : (w.alloc (.cells #[.slice ys N.sites.length ysc, .slice (some ⟨ub, uo, none⟩) N.subs.length yuc, .slice yd N.weds.length ydc, .int .i64 N.low, .int .i64 N.high, .int .i64 N.step] 26)).cell? ⟨w.heap.size, 0, none⟩ = some (.slice ys N.sites.length ysc) := by simp [World.cell?_alloc_mark]
  have HC : Hid (∀ w', Kept (w.alloc (.cells #[.slice ys N.sites.length ysc, .slice (some ⟨ub, uo, none⟩) N.subs.length yuc, .slice yd N.weds.length ydc, .int .i64 N.low, .int .i64 N.high, .int .i64 N.step] 26)) w' (some B) → w'.cell? ⟨w.heap.size, 0, none⟩ = some (.slice ys N.sites.length ysc)) := fun w' q => (World.cell?_of_block (w := (w.alloc (.cells #[.slice ys N.sites.length ysc, .slice (some ⟨ub, uo, none⟩) N.subs.length yuc, .slice yd N.weds.length ydc, .int .i64 N.low, .int .i64 N.high, .int .i64 N.step] 26))) (a := ⟨w.heap.size, 0, none⟩) (q.block w.heap.size (by simp) (fun e => by injection e with e; omega))).trans hc0
  have hul := block_lt e0
  clear h hM hk h0 hc hI hIu hc0 hBn
  generalize r place = rp at *
  obtain ⟨ra, rc⟩ := rp
  dsimp only at *
  generalize hsu : (N.subs.getD place u0).sites = l at *
  go_enter Tryd.func88, Tryd.ntmps88
  go_wp2
  generalize hW : (w.alloc (.cells #[.slice ys N.sites.length ysc, .slice (some ⟨ub, uo, none⟩) N.subs.length yuc, .slice yd N.weds.length ydc, .int .i64 N.low, .int .i64 N.high, .int .i64 N.step] 26)) = W at *
  clear hW
  go_loopw [16] (fun i wr => ∃ (k : Nat) (M' : Ms), k ≤ l.length ∧ i = .int .i64 k ∧ Hid (takeF N place l M k = some M') ∧ Hid (Marks wr B M') ∧ Hid (Kept W wr (some B))) (fun i _ => l.length - (intOf i).toNat)
  case atStart => exact ⟨0, M, Nat.zero_le _, rfl, rfl, HM, Kept.refl _ _⟩
  case round =>
    obtain ⟨k, M', hk, rfl, HS, HMr, KR⟩ := hrel
    by_cases hlt : k < l.length
    · obtain ⟨rb, ro, er, hrb, hcr⟩ := (HI.out _ KR.out).at_ (by omega)
      subst er
      have hx := hcr k hlt
      have hxr : i64B (l.getD k 0) := (HI.out _ KR.out).rng _ (getD_mem hlt)
      have c0 := HC.out _ KR.out
      have HRec : Hid (takeF N place l M (k + 1) = if inB (l.getD k 0) 0 ((N.sites.length : Int) - 1) = true then putF M' (1, l.getD k 0, 0) place else none) := by
        show takeF N place l M (k + 1) = _
        rw [takeF, HS.out]
      have HNO : Hid (takeF N place l M (k + 1) = none → takeF N place l M l.length = none) := fun q => takeF_none q _ (by omega)
      have hml : M'.length ≤ 1000 := by
        have h1 := takeF_many k M' HS.out
        have h2 := manyP_le N M'
        omega
      have hmk : mkR (1, l.getD k 0, 0) := ⟨by show i64B 1; unfold i64B; omega, hxr, i64_zero⟩
      have hpl : i64B (place : Int) := by unfold i64B; omega
      have hwr : IntKind.i64.wrap ((N.sites.length : Int) - 1) = (N.sites.length : Int) - 1 := wrap_in (by omega) (by omega)
      clear hcr hxr
      generalize l.getD k 0 = x at *
      cases hin : inB x 0 ((N.sites.length : Int) - 1) with
      | false =>
        have HE := Hid.mk' (HNO.out (by rw [HRec.out, hin]; rfl))
        go_wp2_with (go_at_call 86; refine (nwithin_is (by assumption)).mono ?_; rintro e w9 ⟨rfl, rfl⟩)
        go_ret
        exact HoldP.no HE.out (HK.out.tr KR.out)
      | true =>
        cases hf : mkF M' (1, x, 0) with
        | some v =>
          have HE := Hid.mk' (HNO.out (by rw [HRec.out, hin, if_pos rfl]; exact putF_old hf))
          go_wp2_with (first
            | (go_at_call 87; refine (isFirst_old HMr.out hmk _ v hf).mono ?_; rintro e w4 ⟨rfl, hk4⟩)
            | (go_at_call 86; refine (nwithin_is (by assumption)).mono ?_; rintro e w9 ⟨rfl, rfl⟩))
          go_ret
          exact HoldP.no HE.out (HK.out.tr (KR.out.tr (kept_any hk4)))
        | none =>
          have HE : Hid (takeF N place l M (k + 1) = some (((1, x, 0), (place : Int)) :: M')) := by
            show takeF N place l M (k + 1) = _
            rw [HRec.out, hin, if_pos rfl]
            exact putF_new hf
          go_wp2_with (first
            | (go_at_call 87; refine (isFirst_new HMr.out hmk _ hpl hml hf).mono ?_; rintro e w4 ⟨rfl, hm4, hk4⟩)
            | (go_at_call 86; refine (nwithin_is (by assumption)).mono ?_; rintro e w9 ⟨rfl, rfl⟩))
          go_roundw
          case rel => exact ⟨k + 1, _, by omega, by go_num, HE, hm4, KR.out.tr hk4⟩
          case measure => simp [intOf]; omega
    · have e : k = l.length := by omega
      subst e
      go_wp2
      go_ret
      exact HoldP.yes HS.out HMr.out (HK.out.tr KR.out)
set_option maxRecDepth 100000 in
set_option maxHeartbeats 4000000 in
theorem placed_net {w : World} {B : Nat} {Y : Na} {N : Nt} {M : Ms} (hM : Marks w B M) (hn : N.sites.length ≤ 12) : Calls Tryd.prog 89 #[netV Y N, .map (some B)] w fun e w' => e = .returned (.bool (placedB N M)) ∧ Kept w w' none := by
  obtain ⟨ys, ysc, yu, yuc, yd, ydc, X, r, t⟩ := Y
  have hk : Kept w (w.alloc (.cells #[.slice ys N.sites.length ysc, .slice yu N.subs.length yuc, .slice yd N.weds.length ydc, .int .i64 N.low, .int .i64 N.high, .int .i64 N.step] 26)) none := Kept.alloc _ _ _ _ _
  have HK := Hid.mk' hk
  have HM := Hid.mk' (hM.kept hk (by simp))
  have HA := Hid.mk' hM.all
  clear hM hk
  go_enter Tryd.func89, Tryd.ntmps89
  go_wp2
  generalize hW : (w.alloc (.cells #[.slice ys N.sites.length ysc, .slice yu N.subs.length yuc, .slice yd N.weds.length ydc, .int .i64 N.low, .int .i64 N.high, .int .i64 N.step] 26)) = W at *
  clear hW
  go_loopw [11] (fun i wr => ∃ (k : Nat), k ≤ N.sites.length ∧ i = .int .i64 k ∧ Hid (∀ j, j < k → (mkF M (1, (j : Int), 0)).isSome = true) ∧ wr = W) (fun i _ => N.sites.length - (intOf i).toNat)
  case atStart => exact ⟨0, Nat.zero_le _, rfl, (fun j hj => by omega), rfl⟩
  case round =>
    obtain ⟨k, hk, rfl, HJ, rfl⟩ := hrel
    by_cases hlt : k < N.sites.length
    · have hmk : mkR (1, (k : Int), 0) := ⟨by show i64B 1; unfold i64B; omega, by show i64B (k : Int); unfold i64B; omega, i64_zero⟩
      have HKY := Hid.mk' (mk_key hmk)
      have hh := mkD_has M HA.out _ hmk
      cases hf : (mkF M (1, (k : Int), 0)).isSome with
      | false =>
        rw [hf] at hh
        have HE : Hid (placedB N M = false) := allB_no hlt hf
        go_wp2_with (at_lookup; refine wpList_lookup_own_ok_int _ rfl _ _ 80 rfl 70 3 .i64 Tryd.lawMk Tryd.uMks Tryd.uMi (Tryd.zeroMi _) B _ _ rfl HM.out.own _ _ rfl HKY.out ?_; intro x hat hwc; rw [hh])
        go_ret
        exact ⟨by rw [HE.out]; rfl, HK.out⟩
      | true =>
        rw [hf] at hh
        go_wp2_with (at_lookup; refine wpList_lookup_own_ok_int _ rfl _ _ 80 rfl 70 3 .i64 Tryd.lawMk Tryd.uMks Tryd.uMi (Tryd.zeroMi _) B _ _ rfl HM.out.own _ _ rfl HKY.out ?_; intro x hat hwc; rw [hh])
        go_roundw
        case rel => exact ⟨k + 1, by omega, by go_num, (fun j hj => (by
          by_cases e : j = k
          · rw [e]; exact hf
          · exact HJ.out j (by omega))), trivial⟩
        case measure => simp [intOf]; omega
    · have e : k = N.sites.length := by omega
      subst e
      have HE : Hid (placedB N M = true) := allB_iff.2 HJ.out
      go_wp2
      go_ret
      exact ⟨by rw [HE.out]; rfl, HK.out⟩

end Go.Proofs.YtoahbpdgbiachaaDoor

/-
  THE CONTRACT of subsHold.
-/
namespace Go.Proofs.YtoahbpdgbiachaaDoor
open Go.RowKit Go.Lib Go.Deep Go.Maps
set_option linter.unusedVariables false
set_option linter.unusedSimpArgs false

theorem subsF_many {N : Nt} {M : Ms} : ∀ k M', subsF N M k = some M' → M'.length + manyP N M = M.length + manyP N M'
  | 0, M', h => by injection h with h; subst h; rfl
  | k + 1, M', h => by
    rw [subsF] at h
    cases h1 : subsF N M k with
    | none => rw [h1] at h; cases h
    | some M1 =>
      rw [h1] at h
      simp only at h
      cases h2 : takeF N k (N.subs.getD k u0).sites M1 (N.subs.getD k u0).sites.length with
      | none => rw [h2] at h; cases h
      | some M2 =>
        rw [h2] at h
        simp only at h
        split at h
        · injection h with h
          subst h
          have i1 := subsF_many k M1 h1
          have i2 := takeF_many _ _ h2
          omega
        · cases h
def subsP (N : Nt) (M : Ms) : Option Ms := match subsF N M N.subs.length with
  | none => none
  | some M' => if placedB N M' = true then some M' else none
set_option maxRecDepth 100000 in
set_option maxHeartbeats 8000000 in
theorem subs_net {w : World} {B : Nat} {Y : Na} {N : Nt} {M : Ms} (h : Far w B Y N) (hM : Marks w B M) (hn12 : N.sites.length ≤ 12) (hl : M.length ≤ 100) (hs1 : 1 ≤ N.subs.length) : Calls Tryd.prog 58 #[netV Y N, .map (some B)] w fun e w' => HoldP (subsP N M) w B e w' := by
  obtain ⟨ys, ysc, yu, yuc, yd, ydc, X, r, t⟩ := Y
  have h0 := h.net w (Kept.refl _ _)
  have hsm : N.subs.length ≤ 9223372036854775807 := by have := h0.uk.room; have := h0.uk.max; omega
  obtain ⟨ub, uo, eu, _, _⟩ := h0.u1.at_ (by omega)
  dsimp only at eu
  subst eu
  have hk : Kept w (w.alloc (.cells #[.slice ys N.sites.length ysc, .slice (some ⟨ub, uo, none⟩) N.subs.length yuc, .slice yd N.weds.length ydc, .int .i64 N.low, .int .i64 N.high, .int .i64 N.step] 26)) none := Kept.alloc _ _ _ _ _
  have HK := Hid.mk' (kept_any (r := some B) hk)
  have HF := Hid.mk' (h.kept (kept_any hk))
  have HM := Hid.mk' (hM.kept hk (by simp))
  have hBn := hM.lt
  have hcs : ∀ j v, #[.slice ys N.sites.length ysc, .slice (some ⟨ub, uo, none⟩) N.subs.length yuc, .slice yd N.weds.length ydc, .int .i64 N.low, .int .i64 N.high, .int .i64 N.step][j]? = some v → ∀ w', Kept (w.alloc (.cells #[.slice ys N.sites.length ysc, .slice (some ⟨ub, uo, none⟩) N.subs.length yuc, .slice yd N.weds.length ydc, .int .i64 N.low, .int .i64 N.high, .int .i64 N.step] 26)) w' (some B) → w'.cell? ⟨w.heap.size, j, none⟩ = some v := fun j v hv w' q => (World.cell?_of_block (w := (w.alloc (.cells #[.slice ys N.sites.length ysc, .slice (some ⟨ub, uo, none⟩) N.subs.length yuc, .slice yd N.weds.length ydc, .int .i64 N.low, .int .i64 N.high, .int .i64 N.step] 26))) (a := ⟨w.heap.size, j, none⟩) (q.block w.heap.size (by simp) (fun e => by injection e with e; omega))).trans (by simp only [World.cell?_alloc_mark]; exact hv)
  have HC : Hid (∀ w', Kept (w.alloc (.cells #[.slice ys N.sites.length ysc, .slice (some ⟨ub, uo, none⟩) N.subs.length yuc, .slice yd N.weds.length ydc, .int .i64 N.low, .int .i64 N.high, .int .i64 N.step] 26)) w' (some B) → w'.cell? ⟨w.heap.size, 0, none⟩ = some (.slice ys N.sites.length ysc) ∧ w'.cell? ⟨w.heap.size, 1, none⟩ = some (.slice (some ⟨ub, uo, none⟩) N.subs.length yuc) ∧ w'.cell? ⟨w.heap.size, 2, none⟩ = some (.slice yd N.weds.length ydc) ∧ w'.cell? ⟨w.heap.size, 3, none⟩ = some (.int .i64 N.low) ∧ w'.cell? ⟨w.heap.size, 4, none⟩ = some (.int .i64 N.high) ∧ w'.cell? ⟨w.heap.size, 5, none⟩ = some (.int .i64 N.step)) := fun w' q => ⟨hcs 0 _ rfl w' q, hcs 1 _ rfl w' q, hcs 2 _ rfl w' q, hcs 3 _ rfl w' q, hcs 4 _ rfl w' q, hcs 5 _ rfl w' q⟩
  clear h hM hk h0 hcs
  go_enter Tryd.func58, Tryd.ntmps58
  go_wp2
  generalize hW : (w.alloc (.cells #[.slice ys N.sites.length ysc, .slice (some ⟨ub, uo, none⟩) N.subs.length yuc, .slice yd N.weds.length ydc, .int .i64 N.low, .int .i64 N.high, .int .i64 N.step] 26)) = W at *
  clear hW
  go_loopw [12] (fun i wr => ∃ (k : Nat) (M' : Ms), k ≤ N.subs.length ∧ i = .int .i64 k ∧ Hid (subsF N M k = some M') ∧ Hid (Marks wr B M') ∧ Hid (Kept W wr (some B))) (fun i _ => N.subs.length - (intOf i).toNat)
  case atStart => exact ⟨0, M, Nat.zero_le _, rfl, rfl, HM, Kept.refl _ _⟩
  case round =>
    clear HM
    obtain ⟨k, M', hk, rfl, HS, HMr, KR⟩ := hrel
    obtain ⟨n0, n1, n2, n3, n4, n5⟩ := HC.out _ KR.out
    have hml : M'.length ≤ 500 := by
      have h1 := subsF_many k M' HS.out
      have h2 := manyP_le N M'
      omega
    by_cases hlt : k < N.subs.length
    · have hu := (HF.out.net _ KR.out).u1
      obtain ⟨ub', uo', eu, _, hc⟩ := hu.at_ (by omega)
      dsimp only at eu
      injection eu with eu
      injection eu with eu1 eu2
      subst eu1 eu2
      have e0 : wr.cell? ⟨ub, uo + k * 2, none⟩ = some (.slice (r k).1 (N.subs.getD k u0).sites.length (r k).2) := hc k hlt 0 (by omega)
      have e1 : wr.cell? ⟨ub, uo + k * 2 + 1, none⟩ = some (.int .i64 (N.subs.getD k u0).critical) := hc k hlt 1 (by omega)
      have hcr : i64B (N.subs.getD k u0).critical := (HF.out.net _ KR.out).ur _ (getD_mem hlt)
      have HNX : Hid (subsF N M (k + 1) = none → subsP N M = none) := fun q => by
        show subsP N M = none
        unfold subsP
        rw [subsF_none q _ (by omega)]
      have HRec : Hid (subsF N M (k + 1) = (match takeF N k (N.subs.getD k u0).sites M' (N.subs.getD k u0).sites.length with
        | none => none
        | some M'' => if mkF M'' (1, (N.subs.getD k u0).critical, 0) = some (k : Int) then some M'' else none)) := by
        show subsF N M (k + 1) = _
        rw [subsF, HS.out]
        all_goals (simp only; cases takeF N k (N.subs.getD k u0).sites M' (N.subs.getD k u0).sites.length <;> rfl)
      generalize hU : N.subs.getD k u0 = U at *
      have HU := Hid.mk' hU
      clear hU hu hc
      generalize r k = rp at *
      obtain ⟨ra, rc⟩ := rp
      dsimp only at *
      have hkA : Kept wr (wr.alloc (.cells #[.slice ra U.sites.length rc, .int .i64 U.critical] 38)) none := Kept.alloc _ _ _ _ _
      have HKA := Hid.mk' (KR.out.tr (kept_any hkA))
      have HMA := Hid.mk' (HMr.out.kept hkA (by simp))
      have hb1 : (wr.alloc (.cells #[.slice ra U.sites.length rc, .int .i64 U.critical] 38)).cell? ⟨wr.heap.size, 1, none⟩ = some (.int .i64 U.critical) := by simp [World.cell?_alloc_mark]
      have hBr := HMr.out.lt
      have HC1 : Hid (∀ w', Kept (wr.alloc (.cells #[.slice ra U.sites.length rc, .int .i64 U.critical] 38)) w' (some B) → w'.cell? ⟨wr.heap.size, 1, none⟩ = some (.int .i64 U.critical)) := fun w' q => (World.cell?_of_block (w := (wr.alloc (.cells #[.slice ra U.sites.length rc, .int .i64 U.critical] 38))) (a := ⟨wr.heap.size, 1, none⟩) (q.block wr.heap.size (by simp) (fun e => by injection e with e; omega))).trans hb1
      have hmk : mkR (1, U.critical, 0) := ⟨by show i64B 1; unfold i64B; omega, hcr, i64_zero⟩
      have HKY := Hid.mk' (mk_key hmk)
      obtain ⟨m0, m1, m2, m3, m4, m5⟩ := HC.out _ HKA.out
      have hwl : w.heap.size < wr.heap.size := block_lt n0
      clear hkA hb1 hcr HMr HS
      cases htk : takeF N k U.sites M' U.sites.length with
      | none =>
        have HTK := Hid.mk' htk
        have HE := Hid.mk' (HNX.out (by rw [HRec.out, htk]))
        clear htk
        go_wp2_with (go_at_call 88; have hn := take_net (HF.out.kept HKA.out) HMA.out hn12 hml k hlt; rw [HU.out, HTK.out] at hn; refine hn.mono ?_; rintro e w4 ⟨rfl, hk4⟩; have c1 := HC1.out _ hk4)
        go_ret
        exact HoldP.no HE.out (HK.out.tr (HKA.out.tr hk4))
      | some M4 =>
        have HTK := Hid.mk' htk
        have hal : mkAll M4 ∨ True := .inr trivial
        cases hf : mkF M4 (1, U.critical, 0) with
        | none =>
          have HE := Hid.mk' (HNX.out (by rw [HRec.out, htk]; simp [hf]))
          clear htk
          go_wp2_with (first
            | (have hgo := HM4; clear hgo; at_lookup; refine wpList_lookup_own_ok_int _ rfl _ _ 80 rfl 70 3 .i64 Tryd.lawMk Tryd.uMks Tryd.uMi (Tryd.zeroMi _) B _ _ rfl HM4.out.own _ _ rfl HKY.out ?_; intro x hat hwc; rw [hh])
            | (go_at_call 88; have hn := take_net (HF.out.kept HKA.out) HMA.out hn12 hml k hlt; rw [HU.out, HTK.out] at hn; refine hn.mono ?_; rintro e w4 ⟨rfl, hm4, hk4⟩; have c1 := HC1.out _ hk4; have HM4 := Hid.mk' hm4; have hh := mkD_has M4 hm4.all _ hmk; rw [hf] at hh; have hh : Maps.has (mkD M4) (mkL (1, U.critical, 0)) = false := hh; clear hm4))
          go_ret
          exact HoldP.no HE.out (HK.out.tr (HKA.out.tr hk4))
        | some v =>
          by_cases hv : v = (k : Int)
          · subst hv
            have HE : Hid (subsF N M (k + 1) = some M4) := by
              show subsF N M (k + 1) = some M4
              rw [HRec.out, htk]
              simp [hf]
            clear htk
            go_wp2_with (first
              | (have hgo := HM4; clear hgo; at_lookup; refine wpList_lookup_own_ok_int _ rfl _ _ 80 rfl 70 3 .i64 Tryd.lawMk Tryd.uMks Tryd.uMi (Tryd.zeroMi _) B _ _ rfl HM4.out.own _ _ rfl HKY.out ?_; intro x hat hwc; rw [hh]; have hxk : x = (k : Int) := (by have hz := hat; rw [mkD_at M4 HM4.out.all _ hmk _ hf] at hz; simpa using hz.symm); subst hxk)
              | (go_at_call 88; have hn := take_net (HF.out.kept HKA.out) HMA.out hn12 hml k hlt; rw [HU.out, HTK.out] at hn; refine hn.mono ?_; rintro e w4 ⟨rfl, hm4, hk4⟩; have c1 := HC1.out _ hk4; have HM4 := Hid.mk' hm4; have hh := mkD_has M4 hm4.all _ hmk; rw [hf] at hh; have hh : Maps.has (mkD M4) (mkL (1, U.critical, 0)) = true := hh; clear hm4))
            go_roundw
            case rel => exact ⟨k + 1, M4, by omega, by go_num, HE, HM4, HKA.out.tr hk4⟩
            case measure => simp [intOf]; omega
          · have HE := Hid.mk' (HNX.out (by rw [HRec.out, htk]; simp [hf, hv]))
            clear htk
            go_wp2_with (first
              | (have hgo := HM4; clear hgo; at_lookup; refine wpList_lookup_own_ok_int _ rfl _ _ 80 rfl 70 3 .i64 Tryd.lawMk Tryd.uMks Tryd.uMi (Tryd.zeroMi _) B _ _ rfl HM4.out.own _ _ rfl HKY.out ?_; intro x hat hwc; rw [hh]; have hxk : x = v := (by have hz := hat; rw [mkD_at M4 HM4.out.all _ hmk _ hf] at hz; simpa using hz.symm); subst hxk)
              | (go_at_call 88; have hn := take_net (HF.out.kept HKA.out) HMA.out hn12 hml k hlt; rw [HU.out, HTK.out] at hn; refine hn.mono ?_; rintro e w4 ⟨rfl, hm4, hk4⟩; have c1 := HC1.out _ hk4; have HM4 := Hid.mk' hm4; have hh := mkD_has M4 hm4.all _ hmk; rw [hf] at hh; have hh : Maps.has (mkD M4) (mkL (1, U.critical, 0)) = true := hh; clear hm4))
            go_ret
            exact HoldP.no HE.out (HK.out.tr (HKA.out.tr hk4))
    · have e : k = N.subs.length := by omega
      subst e
      have HP : Hid (subsP N M = if placedB N M' = true then some M' else none) := by
        show subsP N M = _
        unfold subsP
        rw [HS.out]
      cases hpb : placedB N M' with
      | false =>
        go_wp2_with (go_at_call 89; have hn := placed_net (Y := ⟨ys, ysc, some ⟨ub, uo, none⟩, yuc, yd, ydc, X, r, t⟩) HMr.out hn12; rw [hpb] at hn; refine hn.mono ?_; rintro e w4 ⟨rfl, hk4⟩)
        go_ret
        exact HoldP.no (by rw [HP.out, hpb]; rfl) (HK.out.tr (KR.out.tr (kept_any hk4)))
      | true =>
        go_wp2_with (go_at_call 89; have hn := placed_net (Y := ⟨ys, ysc, some ⟨ub, uo, none⟩, yuc, yd, ydc, X, r, t⟩) HMr.out hn12; rw [hpb] at hn; refine hn.mono ?_; rintro e w4 ⟨rfl, hk4⟩)
        go_ret
        exact HoldP.yes (by rw [HP.out, hpb]; rfl) (HMr.out.kept hk4 (by simp)) (HK.out.tr (KR.out.tr (kept_any hk4)))

end Go.Proofs.YtoahbpdgbiachaaDoor

/-
  THE CONTRACTS of offsetsHold, steps, cyclesHold.
-/
namespace Go.Proofs.YtoahbpdgbiachaaDoor
open Go.RowKit Go.Lib Go.Deep Go.Maps
set_option linter.unusedVariables false
set_option linter.unusedSimpArgs false

theorem ntime_any (n : Int) (w : World) : Calls Tryd.prog 90 #[.int .i64 n] w fun e w' => e = .returned (.bool (timeB n)) ∧ w' = w := by
  go_enter Tryd.func90, Tryd.ntmps90
  go_wp2_with (go_at_call 86; refine (nwithin_any _ _ _ _).mono ?_; rintro e w9 ⟨rfl, rfl⟩)
  go_ret
  exact ⟨rfl, rfl⟩
theorem ntime_is {n : Int} {b : Bool} {w : World} (h : timeB n = b) : Calls Tryd.prog 90 #[.int .i64 n] w fun e w' => e = .returned (.bool b) ∧ w' = w := by
  rw [← h]; exact ntime_any n w
set_option maxRecDepth 100000 in
set_option maxHeartbeats 2000000 in
theorem offsets_net {w : World} {Y : Na} {N : Nt} {a : Option Addr} {c : Nat} {l : List Int} (hI : Ints w a l.length c l) (hlo : 1 ≤ N.low ∧ N.low ≤ 1048576) : Calls Tryd.prog 91 #[netV Y N, .slice a l.length c] w fun e w' => e = .returned (.bool (offsetsB N l)) ∧ Kept w w' none := by
  obtain ⟨ys, ysc, yu, yuc, yd, ydc, X, r, t⟩ := Y
  have hk : Kept w (w.alloc (.cells #[.slice ys N.sites.length ysc, .slice yu N.subs.length yuc, .slice yd N.weds.length ydc, .int .i64 N.low, .int .i64 N.high, .int .i64 N.step] 26)) none := Kept.alloc _ _ _ _ _
  have HK := Hid.mk' hk
  have HI := Hid.mk' (hI.kept hk)
  have hlm : l.length ≤ 9223372036854775807 := by have := hI.cap.room; have := hI.cap.max; omega
  have c3 : (w.alloc (.cells #[.slice ys N.sites.length ysc, .slice yu N.subs.length yuc, .slice yd N.weds.length ydc, .int .i64 N.low, .int .i64 N.high, .int .i64 N.step] 26)).cell? ⟨w.heap.size, 3, none⟩ = some (.int .i64 N.low) := by simp [World.cell?_alloc_mark]
  have hwr : IntKind.i64.wrap (N.low - 1) = N.low - 1 := wrap_in (by omega) (by omega)
  have HE0 : Hid (offsetsB N l = (inB l.length 1 8 && allB l.length (fun i => inB (l.getD i 0) 0 (N.low - 1)))) := rfl
  clear hI hk
  go_enter Tryd.func91, Tryd.ntmps91
  cases b1 : inB l.length 1 8 with
  | false =>
    go_wp2_with (go_at_call 86; refine (nwithin_is (by assumption)).mono ?_; rintro e w9 ⟨rfl, rfl⟩)
    go_ret
    exact ⟨by rw [HE0.out, b1]; rfl, HK.out⟩
  | true =>
    go_wp2_with (go_at_call 86; refine (nwithin_is (by assumption)).mono ?_; rintro e w9 ⟨rfl, rfl⟩)
    generalize hW : (w.alloc (.cells #[.slice ys N.sites.length ysc, .slice yu N.subs.length yuc, .slice yd N.weds.length ydc, .int .i64 N.low, .int .i64 N.high, .int .i64 N.step] 26)) = W at *
    clear hW
    go_loopw [13] (fun i wr => ∃ (k : Nat), k ≤ l.length ∧ i = .int .i64 k ∧ Hid (∀ j, j < k → inB (l.getD j 0) 0 (N.low - 1) = true) ∧ wr = W) (fun i _ => l.length - (intOf i).toNat)
    case atStart => exact ⟨0, Nat.zero_le _, rfl, (fun j hj => by omega), rfl⟩
    case round =>
      obtain ⟨k, hk, rfl, HJ, rfl⟩ := hrel
      by_cases hlt : k < l.length
      · obtain ⟨ab, ao, ea, _, hc⟩ := HI.out.at_ (by omega)
        subst ea
        have hx := hc k hlt
        clear hc
        have HN : Hid (inB (l.getD k 0) 0 (N.low - 1) = false → offsetsB N l = false) := fun q => by
          show offsetsB N l = false
          rw [HE0.out, b1, allB_no hlt q]
          rfl
        obtain ⟨x, hxe⟩ : ∃ x, l.getD k 0 = x := ⟨_, rfl⟩
        rw [hxe] at hx HN
        have HXE := Hid.mk' hxe
        clear hxe
        cases hin : inB x 0 (N.low - 1) with
        | false =>
          have HE := Hid.mk' (HN.out hin)
          go_wp2_with (go_at_call 86; refine (nwithin_is (by assumption)).mono ?_; rintro e w9 ⟨rfl, rfl⟩)
          go_ret
          exact ⟨by rw [HE.out]; rfl, HK.out⟩
        | true =>
          go_wp2_with (go_at_call 86; refine (nwithin_is (by assumption)).mono ?_; rintro e w9 ⟨rfl, rfl⟩)
          go_roundw
          case rel => exact ⟨k + 1, by omega, by go_num, (fun j hj => (by
            by_cases e : j = k
            · rw [e, HXE.out]; exact hin
            · exact HJ.out j (by omega))), trivial⟩
          case measure => simp [intOf]; omega
      · have e : k = l.length := by omega
        subst e
        have HE : Hid (offsetsB N l = true) := by
          show offsetsB N l = true
          rw [HE0.out, b1, allB_iff.2 HJ.out]
          rfl
        go_wp2
        go_ret
        exact ⟨by rw [HE.out]; rfl, HK.out⟩
set_option maxRecDepth 100000 in
theorem steps_net {w : World} {Y : Na} {N : Nt} (h1 : 0 ≤ N.high - N.low) (h2 : N.high - N.low ≤ 1048576) (h3 : 1 ≤ N.step) : Calls Tryd.prog 26 #[netV Y N] w fun e w' => e = .returned (.int .i64 ((N.high - N.low) / N.step)) ∧ Kept w w' none := by
  obtain ⟨ys, ysc, yu, yuc, yd, ydc, X, r, t⟩ := Y
  have hk : Kept w (w.alloc (.cells #[.slice ys N.sites.length ysc, .slice yu N.subs.length yuc, .slice yd N.weds.length ydc, .int .i64 N.low, .int .i64 N.high, .int .i64 N.step] 26)) none := Kept.alloc _ _ _ _ _
  have HK := Hid.mk' hk
  have hnz : (N.step == 0) = false := by rw [beq_eq_false_iff_ne]; omega
  have hnz1 : ¬ N.step = 0 := by omega
  have hq0 : 0 ≤ (N.high - N.low) / N.step := Int.ediv_nonneg h1 (by omega)
  have hq1 : (N.high - N.low) / N.step ≤ N.high - N.low := Int.ediv_le_self _ h1
  have HD : Hid (IntKind.i64.wrap ((N.high - N.low).tdiv N.step) = (N.high - N.low) / N.step) := by
    show IntKind.i64.wrap ((N.high - N.low).tdiv N.step) = (N.high - N.low) / N.step
    rw [Int.tdiv_eq_ediv_of_nonneg h1, wrap_in (by omega) (by omega)]
  have hwr : IntKind.i64.wrap (N.high - N.low) = N.high - N.low := wrap_in (by omega) (by omega)
  clear hk hq0 hq1
  go_enter Tryd.func26, Tryd.ntmps26
  go_wp2
  go_ret
  exact ⟨ret_int (by first | exact HD.out | rfl), HK.out⟩

set_option maxRecDepth 100000 in
set_option maxHeartbeats 8000000 in
theorem cycles_net {w : World} {Y : Na} {N : Nt} (h : NetAt w Y N) (hn1 : 1 ≤ N.sites.length) (hn12 : N.sites.length ≤ 12) : Calls Tryd.prog 59 #[netV Y N] w fun e w' => e = .returned (.bool (ncyclesB N)) ∧ Kept w w' none := by
  obtain ⟨ys, ysc, yu, yuc, yd, ydc, X, r, t⟩ := Y
  obtain ⟨sb, so, es, _, _⟩ := h.s1.at_ (by omega)
  dsimp only at es
  subst es
  have hk : Kept w (w.alloc (.cells #[.slice (some ⟨sb, so, none⟩) N.sites.length ysc, .slice yu N.subs.length yuc, .slice yd N.weds.length ydc, .int .i64 N.low, .int .i64 N.high, .int .i64 N.step] 26)) none := Kept.alloc _ _ _ _ _
  have HK := Hid.mk' hk
  have HN := Hid.mk' (h.kept hk)
  have hcs : ∀ j v, #[.slice (some ⟨sb, so, none⟩) N.sites.length ysc, .slice yu N.subs.length yuc, .slice yd N.weds.length ydc, .int .i64 N.low, .int .i64 N.high, .int .i64 N.step][j]? = some v → ∀ w', Kept (w.alloc (.cells #[.slice (some ⟨sb, so, none⟩) N.sites.length ysc, .slice yu N.subs.length yuc, .slice yd N.weds.length ydc, .int .i64 N.low, .int .i64 N.high, .int .i64 N.step] 26)) w' none → w'.cell? ⟨w.heap.size, j, none⟩ = some v := fun j v hv w' q => cell_kept0 (by simp only [World.cell?_alloc_mark]; exact hv) q
  have HC : Hid (∀ w', Kept (w.alloc (.cells #[.slice (some ⟨sb, so, none⟩) N.sites.length ysc, .slice yu N.subs.length yuc, .slice yd N.weds.length ydc, .int .i64 N.low, .int .i64 N.high, .int .i64 N.step] 26)) w' none → w'.cell? ⟨w.heap.size, 0, none⟩ = some (.slice (some ⟨sb, so, none⟩) N.sites.length ysc) ∧ w'.cell? ⟨w.heap.size, 1, none⟩ = some (.slice yu N.subs.length yuc) ∧ w'.cell? ⟨w.heap.size, 2, none⟩ = some (.slice yd N.weds.length ydc) ∧ w'.cell? ⟨w.heap.size, 3, none⟩ = some (.int .i64 N.low) ∧ w'.cell? ⟨w.heap.size, 4, none⟩ = some (.int .i64 N.high) ∧ w'.cell? ⟨w.heap.size, 5, none⟩ = some (.int .i64 N.step)) := fun w' q => ⟨hcs 0 _ rfl w' q, hcs 1 _ rfl w' q, hcs 2 _ rfl w' q, hcs 3 _ rfl w' q, hcs 4 _ rfl w' q, hcs 5 _ rfl w' q⟩
  have HE0 : Hid (ncyclesB N = (timeB N.low && inB N.high N.low 1048576 && timeB N.step && decide ((N.high - N.low) % N.step = 0) && decide ((N.high - N.low) / N.step ≤ 64) && allB N.sites.length (fun i => decide ((N.sites.getD i s0).low ≤ N.low) && decide (N.high ≤ (N.sites.getD i s0).high)))) := rfl
  clear h hk hcs
  obtain ⟨n0, n1, n2, n3, n4, n5⟩ := HC.out _ (Kept.refl _ _)
  go_enter Tryd.func59, Tryd.ntmps59
  cases b1 : timeB N.low with
  | false =>
    go_wp2_with (first | (go_at_call 86; refine (nwithin_is (by assumption)).mono ?_; rintro e w9 ⟨rfl, rfl⟩) | (go_at_call 90; refine (ntime_is (by assumption)).mono ?_; rintro e w9 ⟨rfl, rfl⟩))
    go_ret
    exact ⟨by rw [HE0.out, b1]; rfl, HK.out⟩
  | true =>
  cases b2 : inB N.high N.low 1048576 with
  | false =>
    go_wp2_with (first | (go_at_call 86; refine (nwithin_is (by assumption)).mono ?_; rintro e w9 ⟨rfl, rfl⟩) | (go_at_call 90; refine (ntime_is (by assumption)).mono ?_; rintro e w9 ⟨rfl, rfl⟩))
    go_ret
    exact ⟨by rw [HE0.out, b1, b2]; rfl, HK.out⟩
  | true =>
  cases b3 : timeB N.step with
  | false =>
    go_wp2_with (first | (go_at_call 86; refine (nwithin_is (by assumption)).mono ?_; rintro e w9 ⟨rfl, rfl⟩) | (go_at_call 90; refine (ntime_is (by assumption)).mono ?_; rintro e w9 ⟨rfl, rfl⟩))
    go_ret
    exact ⟨by rw [HE0.out, b1, b2, b3]; rfl, HK.out⟩
  | true =>
  have hlo := inB_iff.1 (show inB N.low 1 1048576 = true from b1)
  have hhi := inB_iff.1 b2
  have hst := inB_iff.1 (show inB N.step 1 1048576 = true from b3)
  have hnz : (N.step == 0) = false := by rw [beq_eq_false_iff_ne]; omega
  have hnz1 : ¬ N.step = 0 := by omega
  have hwr : IntKind.i64.wrap (N.high - N.low) = N.high - N.low := wrap_in (by omega) (by omega)
  have htm : (N.high - N.low).tmod N.step = (N.high - N.low) % N.step := Int.tmod_eq_emod_of_nonneg (by omega)
  have HST : Hid (∀ w', Calls Tryd.prog 26 #[netV ⟨some ⟨sb, so, none⟩, ysc, yu, yuc, yd, ydc, X, r, t⟩ N] w' fun e w'' => e = .returned (.int .i64 ((N.high - N.low) / N.step)) ∧ Kept w' w'' none) := fun w' => steps_net (by omega) (by omega) (by omega)
  have HB : Hid (timeB N.low = true ∧ inB N.high N.low 1048576 = true ∧ timeB N.step = true) := ⟨b1, b2, b3⟩
  generalize hrm : (N.high - N.low) % N.step = RM at *
  generalize hqt : (N.high - N.low) / N.step = QT at *
  by_cases h4 : RM = 0
  case neg =>
    go_wp2_with (first | (go_at_call 86; refine (nwithin_is (by assumption)).mono ?_; rintro e w9 ⟨rfl, rfl⟩) | (go_at_call 90; refine (ntime_is (by assumption)).mono ?_; rintro e w9 ⟨rfl, rfl⟩))
    go_ret
    exact ⟨by rw [HE0.out, decide_eq_false h4]; simp, HK.out⟩
  by_cases h5 : QT ≤ 64
  case neg =>
    go_wp2_with (first | (go_at_call 26; refine (HST.out _).mono ?_; rintro e w4 ⟨rfl, hk4⟩) | (go_at_call 86; refine (nwithin_is (by assumption)).mono ?_; rintro e w9 ⟨rfl, rfl⟩) | (go_at_call 90; refine (ntime_is (by assumption)).mono ?_; rintro e w9 ⟨rfl, rfl⟩))
    go_ret
    exact ⟨by rw [HE0.out, decide_eq_false (show ¬ QT ≤ 64 by omega)]; simp, HK.out.tr hk4⟩
  go_wp2_with (first | (go_at_call 26; refine (HST.out _).mono ?_; rintro e w4 ⟨rfl, hk4⟩; clear n0 n1 n2 n3 n4 n5; obtain ⟨n0, n1, n2, n3, n4, n5⟩ := HC.out _ hk4) | (go_at_call 86; refine (nwithin_is (by assumption)).mono ?_; rintro e w9 ⟨rfl, rfl⟩) | (go_at_call 90; refine (ntime_is (by assumption)).mono ?_; rintro e w9 ⟨rfl, rfl⟩))
  generalize hW : (w.alloc (.cells #[.slice (some ⟨sb, so, none⟩) N.sites.length ysc, .slice yu N.subs.length yuc, .slice yd N.weds.length ydc, .int .i64 N.low, .int .i64 N.high, .int .i64 N.step] 26)) = W at *
  clear hW n0 n1 n2 n3 n4 n5
  go_loopw [40] (fun i wr => ∃ (k : Nat), k ≤ N.sites.length ∧ i = .int .i64 k ∧ Hid (∀ j, j < k → (decide ((N.sites.getD j s0).low ≤ N.low) && decide (N.high ≤ (N.sites.getD j s0).high)) = true) ∧ Kept W wr none) (fun i _ => N.sites.length - (intOf i).toNat)
  case atStart => exact ⟨0, Nat.zero_le _, rfl, (fun j hj => by omega), hk4⟩
  case round =>
    clear hk4
    obtain ⟨k, hk, rfl, HJ, hkr⟩ := hrel
    by_cases hlt : k < N.sites.length
    · obtain ⟨sb', so', es, _, hc⟩ := (HN.out.kept hkr).s1.at_ (by omega)
      dsimp only at es
      injection es with es
      injection es with es1 es2
      subst es1 es2
      have e0 := hc k hlt 0 (by omega)
      have e1 := hc k hlt 1 (by omega)
      have e2 := hc k hlt 2 (by omega)
      have e3 := hc k hlt 3 (by omega)
      have e4 := hc k hlt 4 (by omega)
      have e5 := hc k hlt 5 (by omega)
      have e6 := hc k hlt 6 (by omega)
      have e7 := hc k hlt 7 (by omega)
      have e8 := hc k hlt 8 (by omega)
      have e9 := hc k hlt 9 (by omega)
      have e10 := hc k hlt 10 (by omega)
      have e11 := hc k hlt 11 (by omega)
      have HNO : Hid ((decide ((N.sites.getD k s0).low ≤ N.low) && decide (N.high ≤ (N.sites.getD k s0).high)) = false → ncyclesB N = false) := fun q => by
        show ncyclesB N = false
        rw [HE0.out, allB_no hlt q]
        simp
      obtain ⟨S, hS⟩ : ∃ S, N.sites.getD k s0 = S := ⟨_, rfl⟩
      rw [hS] at e0 e1 e2 e3 e4 e5 e6 e7 e8 e9 e10 e11 HNO
      have HSE := Hid.mk' hS
      clear hS
      generalize X k = Xk at *
      obtain ⟨xg, xgc, xa, xac, xb, xbc, xp, xpc, xe, xec, xl, xlc⟩ := Xk
      dsimp only [stV, Nat.add_zero] at e0 e1 e2 e3 e4 e5 e6 e7 e8 e9 e10 e11
      have hkA : Kept wr (wr.alloc (.cells #[.int .i64 S.id, .slice xg S.groups.length xgc, .slice xa S.apart.length xac, .slice xb S.between.length xbc, .slice xp S.phases.length xpc, .slice xe S.eyes.length xec, .int .i64 S.watch, .int .i64 S.feed, .int .i64 S.heal, .int .i64 S.low, .int .i64 S.high, .slice xl S.plans.length xlc] 48)) none := Kept.alloc _ _ _ _ _
      obtain ⟨n0, n1, n2, n3, n4, n5⟩ := HC.out _ (hkr.tr hkA)
      obtain ⟨m0, m1, m2, m3, m4, m5⟩ := HC.out _ hkr
      have hwl : w.heap.size < wr.heap.size := block_lt m0
      have HKA := Hid.mk' (hkr.tr hkA)
      clear hc hkA
      by_cases hlo' : S.low ≤ N.low
      case neg =>
        have HE := Hid.mk' (HNO.out (by rw [decide_eq_false hlo']; rfl))
        have hlo2 : N.low < S.low := by omega
        clear HNO
        go_wp2
        go_ret
        exact ⟨by rw [HE.out]; rfl, HK.out.tr (hkr.tr (Kept.alloc _ _ _ _ _))⟩
      by_cases hhi' : N.high ≤ S.high
      case neg =>
        have HE := Hid.mk' (HNO.out (by rw [decide_eq_false hhi']; simp))
        have hhi2 : S.high < N.high := by omega
        clear HNO
        go_wp2
        go_ret
        exact ⟨by rw [HE.out]; rfl, HK.out.tr (hkr.tr (Kept.alloc _ _ _ _ _))⟩
      clear HNO
      go_wp2
      go_roundw
      case rel => exact ⟨k + 1, by omega, by go_num, (fun j hj => (by
        by_cases e : j = k
        · rw [e, HSE.out, decide_eq_true hlo', decide_eq_true hhi']; rfl
        · exact HJ.out j (by omega))), hkr.tr (Kept.alloc _ _ _ _ _)⟩
      case measure => simp [intOf]; omega
    · have e : k = N.sites.length := by omega
      subst e
      have HE : Hid (ncyclesB N = true) := by
        show ncyclesB N = true
        rw [HE0.out, HB.out.1, HB.out.2.1, HB.out.2.2, decide_eq_true h4, decide_eq_true h5, allB_iff.2 HJ.out]
        rfl
      go_wp2
      go_ret
      exact ⟨by rw [HE.out]; rfl, HK.out.tr hkr⟩

end Go.Proofs.YtoahbpdgbiachaaDoor

