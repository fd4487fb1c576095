/-
  Part 5 of the texts that the proofs of this seat stand on.
-/
import Derived.Test.YtoahbpdgbiachaaDoorPart4
/-
  THE DOCUMENT'S OWN ANSWER: a region's weds.
-/
namespace Go.Proofs.YtoahbpdgbiachaaDoor
open Go.RowKit Go.Lib Go.Deep
set_option linter.unusedVariables false
set_option linter.unusedSimpArgs false

theorem rwedsB_no {N : Nt} {k : Nat} (hk : k < N.weds.length) (h : rwedB N k = false) : rwedsB N = false := by
  unfold rwedsB
  rw [allB_no hk h]
  simp
set_option maxRecDepth 100000 in
set_option maxHeartbeats 8000000 in
theorem rweds6_any {Y : Na} {N : Nt} {w : World} (h : NetAt w Y N) (hlo : 1 ≤ N.low ∧ N.low ≤ 1048576) (hu6 : N.subs.length ≤ 6) : Calls Tryd.prog 40 #[netV Y N] w fun e w' => e = .returned (.bool (rwedsB N)) ∧ Kept w w' none := by
  have hkA : Kept w (w.alloc (.cells #[.slice Y.s N.sites.length Y.sc, .slice Y.u N.subs.length Y.uc, .slice Y.d N.weds.length Y.dc, .int .i64 N.low, .int .i64 N.high, .int .i64 N.step] 26)) none := Kept.alloc _ _ _ _ _
  have HNB := Hid.mk' (nbx_alloc h 26)
  have HK := Hid.mk' hkA
  have hd9 : N.weds.length ≤ 9223372036854775807 := by have := h.dk.room; have := h.dk.max; omega
  have hwl : IntKind.i64.wrap (N.low - 1) = N.low - 1 := wrap_in (by omega) (by omega)
  clear h hkA
  go_enter Tryd.func40, Tryd.ntmps40
  by_cases h8 : 8 < N.weds.length
  case pos =>
    have HE : Hid (rwedsB N = false) := by show rwedsB N = false; unfold rwedsB; rw [decide_eq_false (by omega)]; rfl
    go_wp2
    go_ret
    exact ⟨by rw [HE.out]; rfl, HK.out⟩
  go_wp2
  generalize hW : (w.alloc (.cells #[.slice Y.s N.sites.length Y.sc, .slice Y.u N.subs.length Y.uc, .slice Y.d N.weds.length Y.dc, .int .i64 N.low, .int .i64 N.high, .int .i64 N.step] 26)) = W at *
  clear hW
  go_loopw [3] (fun i wr => ∃ k : Nat, k ≤ N.weds.length ∧ i = .int .i64 k ∧ Hid (∀ j, j < k → rwedB N j = true) ∧ Kept W wr none) (fun i _ => N.weds.length - (intOf i).toNat)
  case atStart => exact ⟨0, Nat.zero_le _, rfl, (fun j hj => by omega), Kept.refl _ _⟩
  case round =>
    obtain ⟨wo, hwo⟩ : ∃ wo, wo = wr := ⟨wr, rfl⟩
    subst hwo
    obtain ⟨k, hk, rfl, HJ, hkr⟩ := hrel
    obtain ⟨c0, c1, c2, c3, c4, c5, _⟩ := HNB.out.kept hkr
    by_cases hlt : k < N.weds.length
    · obtain ⟨db, do_, ed, _, hc⟩ := (HNB.out.kept hkr).net.d1.at_ (by omega)
      rw [ed] at c2
      have e0 := hc k hlt 0 (by omega)
      have e1 := hc k hlt 1 (by omega)
      have e2 := hc k hlt 2 (by omega)
      have e3 := hc k hlt 3 (by omega)
      have HI := Hid.mk' (HNB.out.net.d2 k hlt)
      have HED := Hid.mk' ed
      have HNO : Hid (rwedB N k = false → rwedsB N = false) := rwedsB_no hlt
      have HRB : Hid (rwedB N k = (decide (0 ≤ (N.weds.getD k d0).a) && (decide ((N.weds.getD k d0).a < (N.weds.getD k d0).b) && (decide ((N.weds.getD k d0).b < (N.subs.length : Int)) && (timeB (N.weds.getD k d0).votes && (offsetsB N (N.weds.getD k d0).offsets && allB k (fun j => !(decide ((N.weds.getD j d0).a = (N.weds.getD k d0).a) && decide ((N.weds.getD j d0).b = (N.weds.getD k d0).b))))))))) := rfl
      have HOB : Hid (offsetsB N (N.weds.getD k d0).offsets = (inB (N.weds.getD k d0).offsets.length 1 8 && allB (N.weds.getD k d0).offsets.length (fun i => inB ((N.weds.getD k d0).offsets.getD i 0) 0 (N.low - 1)))) := rfl
      have HGD : Hid (∀ w', Kept W w' none → ∀ j, j < N.weds.length → w'.cell? ⟨db, do_ + j * 4, none⟩ = some (.int .i64 (N.weds.getD j d0).a) ∧ w'.cell? ⟨db, do_ + j * 4 + 1, none⟩ = some (.int .i64 (N.weds.getD j d0).b)) := fun w' q j hj => by
        obtain ⟨db', do', ed', _, hc'⟩ := (HNB.out.kept q).net.d1.at_ (by omega)
        rw [HED.out] at ed'
        injection ed' with ed'
        injection ed' with ed1 ed2
        subst ed1 ed2
        exact ⟨hc' j hj 0 (by omega), hc' j hj 1 (by omega)⟩
      clear hc ed
      generalize hD : N.weds.getD k d0 = D at *
      have HDE := Hid.mk' hD
      clear hD
      generalize Y.t k = tk at *
      obtain ⟨ra, rc⟩ := tk
      dsimp only [wdV, Nat.add_zero] at e0 e1 e2 e3 HI
      have HKB : Hid (Kept wo (wo.alloc (.cells #[.int .i64 D.a, .int .i64 D.b, .int .i64 D.votes, .slice ra D.offsets.length rc] 40)) none) := Kept.alloc _ _ _ _ _
      have hol : D.offsets.length ≤ 9223372036854775807 := by have := HI.out.cap.room; have := HI.out.cap.max; omega
      have hwl2 : w.heap.size < wo.heap.size := block_lt c0
      by_cases a1 : 0 ≤ D.a
      case neg =>
        have a1' : D.a < 0 := by omega
        have HE := Hid.mk' (HNO.out (by rw [HRB.out, decide_eq_false a1]; simp))
        go_wp2_with (go_at_call 37; refine (rin6_is (by assumption)).mono ?_; rintro e w9 ⟨rfl, rfl⟩)
        go_ret
        exact ⟨by rw [HE.out]; rfl, HK.out.tr (hkr.tr HKB.out)⟩
      have a1' : ¬ D.a < 0 := by omega
      by_cases a2 : D.a < D.b
      case neg =>
        have a2' : D.b ≤ D.a := by omega
        have HE := Hid.mk' (HNO.out (by rw [HRB.out, decide_eq_false a2]; simp))
        go_wp2_with (go_at_call 37; refine (rin6_is (by assumption)).mono ?_; rintro e w9 ⟨rfl, rfl⟩)
        go_ret
        exact ⟨by rw [HE.out]; rfl, HK.out.tr (hkr.tr HKB.out)⟩
      have a2' : ¬ D.b ≤ D.a := by omega
      by_cases a3 : D.b < (N.subs.length : Int)
      case neg =>
        have a3' : (N.subs.length : Int) ≤ D.b := by omega
        have HE := Hid.mk' (HNO.out (by rw [HRB.out, decide_eq_false a3]; simp))
        go_wp2_with (go_at_call 37; refine (rin6_is (by assumption)).mono ?_; rintro e w9 ⟨rfl, rfl⟩)
        go_ret
        exact ⟨by rw [HE.out]; rfl, HK.out.tr (hkr.tr HKB.out)⟩
      have a3' : ¬ (N.subs.length : Int) ≤ D.b := by omega
      cases a4 : inB D.votes 1 1048576 with
      | false =>
        have HE := Hid.mk' (HNO.out (by rw [HRB.out, show timeB D.votes = false from a4]; simp))
        go_wp2_with (go_at_call 37; refine (rin6_is (by assumption)).mono ?_; rintro e w9 ⟨rfl, rfl⟩)
        go_ret
        exact ⟨by rw [HE.out]; rfl, HK.out.tr (hkr.tr HKB.out)⟩
      | true =>
      cases a5 : inB D.offsets.length 1 8 with
      | false =>
        have HE := Hid.mk' (HNO.out (by rw [HRB.out, HOB.out, a5]; simp))
        go_wp2_with (go_at_call 37; refine (rin6_is (by assumption)).mono ?_; rintro e w9 ⟨rfl, rfl⟩)
        go_ret
        exact ⟨by rw [HE.out]; rfl, HK.out.tr (hkr.tr HKB.out)⟩
      | true =>
      have h58 := inB_iff.1 a5
      have HA : Hid ((0 ≤ D.a ∧ D.a < D.b ∧ D.b < (N.subs.length : Int)) ∧ timeB D.votes = true ∧ inB D.offsets.length 1 8 = true) := ⟨⟨a1, a2, a3⟩, a4, a5⟩
      have HBX : Hid (∀ w', Kept (wo.alloc (.cells #[.int .i64 D.a, .int .i64 D.b, .int .i64 D.votes, .slice ra D.offsets.length rc] 40)) w' none → w'.cell? ⟨wo.heap.size, 0, none⟩ = some (.int .i64 D.a) ∧ w'.cell? ⟨wo.heap.size, 1, none⟩ = some (.int .i64 D.b) ∧ w'.cell? ⟨wo.heap.size, 3, none⟩ = some (.slice ra D.offsets.length rc)) := fun w' q => ⟨cell_kept0 (by simp [World.cell?_alloc_mark]) q, cell_kept0 (by simp [World.cell?_alloc_mark]) q, cell_kept0 (by simp [World.cell?_alloc_mark]) q⟩
      go_wp2_with (go_at_call 37; refine (rin6_is (by assumption)).mono ?_; rintro e w9 ⟨rfl, rfl⟩)
      clear c0 c1 c2 c3 c4 c5 e0 e1 e2 e3 a1' a2' a3' a4 a5
      have KB := Hid.mk' (hkr.tr HKB.out)
      generalize hW1 : (wo.alloc (.cells #[.int .i64 D.a, .int .i64 D.b, .int .i64 D.votes, .slice ra D.offsets.length rc] 40)) = W1 at *
      clear hW1
      go_loopw [5] (fun q wr => ∃ j : Nat, j ≤ D.offsets.length ∧ q = .int .i64 j ∧ Hid (∀ t, t < j → inB (D.offsets.getD t 0) 0 (N.low - 1) = true) ∧ Kept W1 wr none) (fun q _ => D.offsets.length - (intOf q).toNat)
      case atStart => exact ⟨0, Nat.zero_le _, rfl, (fun j hj => by omega), Kept.refl _ _⟩
      case round =>
        obtain ⟨j, hj, rfl, HT, hkx⟩ := hrel
        obtain ⟨q0, q1, q3⟩ := HBX.out _ hkx
        obtain ⟨c0, c1, c2, c3, c4, c5, _⟩ := HNB.out.kept (KB.out.tr hkx)
        by_cases hjl : j < D.offsets.length
        · obtain ⟨lb, lo, el, _, hlc⟩ := (HI.out.kept (KB.out.tr hkx)).at_ (by omega)
          subst el
          have HX : Hid (∀ w', Kept wr w' none → w'.cell? ⟨lb, lo + j, none⟩ = some (.int .i64 (D.offsets.getD j 0))) := fun w' q => cell_kept0 (hlc j hjl) q
          have HNX : Hid (inB (D.offsets.getD j 0) 0 (N.low - 1) = false → rwedsB N = false) := fun q => HNO.out (by rw [HRB.out, HOB.out, allB_no hjl q]; simp)
          have HTS : Hid (∀ t, t < j + 1 → t ≠ j → inB (D.offsets.getD t 0) 0 (N.low - 1) = true) := fun t ht hne => HT.out t (by omega)
          obtain ⟨x, hxe⟩ : ∃ x, D.offsets.getD j 0 = x := ⟨_, rfl⟩
          rw [hxe] at HX HNX
          have HXE := Hid.mk' hxe
          clear hxe hlc
          have g0 : ∀ w', Kept wr w' none → w'.cell? ⟨wo.heap.size, 3, none⟩ = some (.slice (some ⟨lb, lo, none⟩) D.offsets.length rc) := fun w' q => cell_kept0 q3 q
          have g1 : ∀ w', Kept wr w' none → w'.cell? ⟨w.heap.size, 3, none⟩ = some (.int .i64 N.low) := fun w' q => cell_kept0 c3 q
          have g2 : ∀ w', Kept wr w' none → w'.cell? ⟨lb, lo + j, none⟩ = some (.int .i64 x) := HX.out
          cases hin : inB x 0 (N.low - 1) with
          | false =>
            have HE := Hid.mk' (HNX.out hin)
            go_wp2
            refine Code.wp_mono (Q := Rg6 ?A1 wr) ?cont1 ?reg1
            case reg1 =>
              repeat (rename_i hh; clear hh)
              refine wp_region_held_drew (S := fun w' => Kept wr w' none) (by kernel_rfl) (Kept.tr (Kept.refl _ _) (Kept.drew _ _)) (fun hHeld => ?_)
              refine held_take (i := 0) (v := ?v2) rfl rfl (by kernel_rfl) (by kernel_rfl) (by kernel_rfl) (fun _ _ _ h => h) (Or.inl ⟨by rfl, ?hy2⟩) hHeld ?rest2
              case hy2 => first | (intro w hSw; (try dsimp only at hSw); go_simp; done) | (intro w hSw; (try dsimp only at hSw); go_simp; with_reducible rfl)
              try simp only [List.setIfInBounds_toArray, List.set_cons_zero, List.set_cons_succ]
              refine held_take (i := 1) (v := ?v3) rfl rfl (by kernel_rfl) (by kernel_rfl) (by kernel_rfl) (fun _ _ _ h => h) (Or.inl ⟨by rfl, ?hy3⟩) hHeld ?rest3
              case hy3 => first | (intro w hSw; (try dsimp only at hSw); go_simp; done) | (intro w hSw; (try dsimp only at hSw); go_simp; with_reducible rfl)
              try simp only [List.setIfInBounds_toArray, List.set_cons_zero, List.set_cons_succ]
              refine held_take (i := 2) (v := ?v4) rfl rfl (by kernel_rfl) (by kernel_rfl) (by kernel_rfl) (fun _ _ _ h => h) (Or.inl ⟨by rfl, ?hy4⟩) hHeld ?rest4
              case hy4 => first | (intro w hSw; (try dsimp only at hSw); go_simp; done) | (intro w hSw; (try dsimp only at hSw); go_simp; with_reducible rfl)
              try simp only [List.setIfInBounds_toArray, List.set_cons_zero, List.set_cons_succ]
              refine held_take (i := 3) (v := ?v5) rfl rfl (by kernel_rfl) (by kernel_rfl) (by kernel_rfl) (fun _ _ _ h => h) (Or.inl ⟨by rfl, ?hy5⟩) hHeld ?rest5
              case hy5 => first | (intro w hSw; (try dsimp only at hSw); go_simp; done) | (intro w hSw; (try dsimp only at hSw); go_simp; with_reducible rfl)
              try simp only [List.setIfInBounds_toArray, List.set_cons_zero, List.set_cons_succ]
              refine held_take (i := 4) (v := ?v6) rfl rfl (by kernel_rfl) (by kernel_rfl) (by kernel_rfl) (fun _ _ _ h => h) (Or.inl ⟨by rfl, ?hy6⟩) hHeld ?rest6
              case hy6 => first | (intro w hSw; (try dsimp only at hSw); go_simp; done) | (intro w hSw; (try dsimp only at hSw); go_simp; with_reducible rfl)
              try simp only [List.setIfInBounds_toArray, List.set_cons_zero, List.set_cons_succ]
              refine held_take (i := 5) (v := ?v7) rfl rfl (by kernel_rfl) (by kernel_rfl) (by kernel_rfl) (fun _ _ _ h => h) (Or.inl ⟨by rfl, ?hy7⟩) hHeld ?rest7
              case hy7 => first | (intro w hSw; (try dsimp only at hSw); go_simp; done) | (intro w hSw; (try dsimp only at hSw); go_simp; with_reducible rfl)
              try simp only [List.setIfInBounds_toArray, List.set_cons_zero, List.set_cons_succ]
              refine held_take (i := 6) (v := ?v8) rfl rfl (by kernel_rfl) (by kernel_rfl) (by kernel_rfl) (fun _ _ _ h => h) (Or.inl ⟨by rfl, ?hy8⟩) hHeld ?rest8
              case hy8 => first | (intro w hSw; (try dsimp only at hSw); go_simp; done) | (intro w hSw; (try dsimp only at hSw); go_simp; with_reducible rfl)
              try simp only [List.setIfInBounds_toArray, List.set_cons_zero, List.set_cons_succ]
              refine held_take (i := 7) (v := ?v9) rfl rfl (by kernel_rfl) (by kernel_rfl) (by kernel_rfl) (fun _ _ _ h => h) (Or.inl ⟨by rfl, ?hy9⟩) hHeld ?rest9
              case hy9 => first | (intro w hSw; (try dsimp only at hSw); go_simp; done) | (intro w hSw; (try dsimp only at hSw); go_simp; with_reducible rfl)
              try simp only [List.setIfInBounds_toArray, List.set_cons_zero, List.set_cons_succ]
              refine wpAnyH_ready (rs := [8]) (by kernel_rfl) (by simp) ?_
              refine AllReadyH.cons rfl (fun K hK => ?_) AllReadyH.nil
              go_simp
              go_wp2_with (go_at_call 37; refine (rin6_is (by assumption)).mono ?_; rintro e w9 ⟨rfl, rfl⟩; have hKS := hHeld)
              replace hK := hK.out
              refine hK _ _ hKS (fun hHeld => ?_)
              clear hK K
              refine held_take (i := 9) (v := ?v10) rfl rfl (by kernel_rfl) (by kernel_rfl) (by kernel_rfl) (fun _ _ _ h => h) (Or.inl ⟨by rfl, ?hy10⟩) hHeld ?rest10
              case hy10 => first | (intro w hSw; (try dsimp only at hSw); go_simp; done) | (intro w hSw; (try dsimp only at hSw); go_simp; with_reducible rfl)
              try simp only [List.setIfInBounds_toArray, List.set_cons_zero, List.set_cons_succ]
              refine wpAnyH_done (by kernel_rfl) ?_ _
              refine And.intro ?_ hHeld
              with_reducible rfl
            case cont1 =>
            intro e a' w' hq
            obtain ⟨rfl, rfl, hkq⟩ := hq.out
            go_wp2
            go_ret
            exact ⟨by rw [HE.out]; rfl, HK.out.tr (KB.out.tr (hkx.tr hkq))⟩
          | true =>
            go_wp2
            refine Code.wp_mono (Q := Rg6 ?A11 wr) ?cont11 ?reg11
            case reg11 =>
              repeat (rename_i hh; clear hh)
              refine wp_region_held_drew (S := fun w' => Kept wr w' none) (by kernel_rfl) (Kept.tr (Kept.refl _ _) (Kept.drew _ _)) (fun hHeld => ?_)
              refine held_take (i := 0) (v := ?v12) rfl rfl (by kernel_rfl) (by kernel_rfl) (by kernel_rfl) (fun _ _ _ h => h) (Or.inl ⟨by rfl, ?hy12⟩) hHeld ?rest12
              case hy12 => first | (intro w hSw; (try dsimp only at hSw); go_simp; done) | (intro w hSw; (try dsimp only at hSw); go_simp; with_reducible rfl)
              try simp only [List.setIfInBounds_toArray, List.set_cons_zero, List.set_cons_succ]
              refine held_take (i := 1) (v := ?v13) rfl rfl (by kernel_rfl) (by kernel_rfl) (by kernel_rfl) (fun _ _ _ h => h) (Or.inl ⟨by rfl, ?hy13⟩) hHeld ?rest13
              case hy13 => first | (intro w hSw; (try dsimp only at hSw); go_simp; done) | (intro w hSw; (try dsimp only at hSw); go_simp; with_reducible rfl)
              try simp only [List.setIfInBounds_toArray, List.set_cons_zero, List.set_cons_succ]
              refine held_take (i := 2) (v := ?v14) rfl rfl (by kernel_rfl) (by kernel_rfl) (by kernel_rfl) (fun _ _ _ h => h) (Or.inl ⟨by rfl, ?hy14⟩) hHeld ?rest14
              case hy14 => first | (intro w hSw; (try dsimp only at hSw); go_simp; done) | (intro w hSw; (try dsimp only at hSw); go_simp; with_reducible rfl)
              try simp only [List.setIfInBounds_toArray, List.set_cons_zero, List.set_cons_succ]
              refine held_take (i := 3) (v := ?v15) rfl rfl (by kernel_rfl) (by kernel_rfl) (by kernel_rfl) (fun _ _ _ h => h) (Or.inl ⟨by rfl, ?hy15⟩) hHeld ?rest15
              case hy15 => first | (intro w hSw; (try dsimp only at hSw); go_simp; done) | (intro w hSw; (try dsimp only at hSw); go_simp; with_reducible rfl)
              try simp only [List.setIfInBounds_toArray, List.set_cons_zero, List.set_cons_succ]
              refine held_take (i := 4) (v := ?v16) rfl rfl (by kernel_rfl) (by kernel_rfl) (by kernel_rfl) (fun _ _ _ h => h) (Or.inl ⟨by rfl, ?hy16⟩) hHeld ?rest16
              case hy16 => first | (intro w hSw; (try dsimp only at hSw); go_simp; done) | (intro w hSw; (try dsimp only at hSw); go_simp; with_reducible rfl)
              try simp only [List.setIfInBounds_toArray, List.set_cons_zero, List.set_cons_succ]
              refine held_take (i := 5) (v := ?v17) rfl rfl (by kernel_rfl) (by kernel_rfl) (by kernel_rfl) (fun _ _ _ h => h) (Or.inl ⟨by rfl, ?hy17⟩) hHeld ?rest17
              case hy17 => first | (intro w hSw; (try dsimp only at hSw); go_simp; done) | (intro w hSw; (try dsimp only at hSw); go_simp; with_reducible rfl)
              try simp only [List.setIfInBounds_toArray, List.set_cons_zero, List.set_cons_succ]
              refine held_take (i := 6) (v := ?v18) rfl rfl (by kernel_rfl) (by kernel_rfl) (by kernel_rfl) (fun _ _ _ h => h) (Or.inl ⟨by rfl, ?hy18⟩) hHeld ?rest18
              case hy18 => first | (intro w hSw; (try dsimp only at hSw); go_simp; done) | (intro w hSw; (try dsimp only at hSw); go_simp; with_reducible rfl)
              try simp only [List.setIfInBounds_toArray, List.set_cons_zero, List.set_cons_succ]
              refine held_take (i := 7) (v := ?v19) rfl rfl (by kernel_rfl) (by kernel_rfl) (by kernel_rfl) (fun _ _ _ h => h) (Or.inl ⟨by rfl, ?hy19⟩) hHeld ?rest19
              case hy19 => first | (intro w hSw; (try dsimp only at hSw); go_simp; done) | (intro w hSw; (try dsimp only at hSw); go_simp; with_reducible rfl)
              try simp only [List.setIfInBounds_toArray, List.set_cons_zero, List.set_cons_succ]
              refine wpAnyH_ready (rs := [8]) (by kernel_rfl) (by simp) ?_
              refine AllReadyH.cons rfl (fun K hK => ?_) AllReadyH.nil
              go_simp
              go_wp2_with (go_at_call 37; refine (rin6_is (by assumption)).mono ?_; rintro e w9 ⟨rfl, rfl⟩; have hKS := hHeld)
              replace hK := hK.out
              refine hK _ _ hKS (fun hHeld => ?_)
              clear hK K
              refine held_take (i := 9) (v := ?v20) rfl rfl (by kernel_rfl) (by kernel_rfl) (by kernel_rfl) (fun _ _ _ h => h) (Or.inl ⟨by rfl, ?hy20⟩) hHeld ?rest20
              case hy20 => first | (intro w hSw; (try dsimp only at hSw); go_simp; done) | (intro w hSw; (try dsimp only at hSw); go_simp; with_reducible rfl)
              try simp only [List.setIfInBounds_toArray, List.set_cons_zero, List.set_cons_succ]
              refine wpAnyH_done (by kernel_rfl) ?_ _
              refine And.intro ?_ hHeld
              with_reducible rfl
            case cont11 =>
            intro e a' w' hq
            obtain ⟨rfl, rfl, hkq⟩ := hq.out
            go_wp2
            go_roundw
            case rel => exact ⟨j + 1, by omega, by go_num, (fun t ht => (by
              by_cases e : t = j
              · rw [e, HXE.out]; exact hin
              · exact HTS.out t ht e)), hkx.tr hkq⟩
            case measure => simp [intOf]; omega
        · have e : j = D.offsets.length := by omega
          subst e
          have HOY : Hid (offsetsB N D.offsets = true) := by show offsetsB N D.offsets = true; rw [HOB.out, HA.out.2.2, allB_iff.2 HT.out]; rfl
          go_wp2
          have KX := Hid.mk' (KB.out.tr hkx)
          have HBY := Hid.mk' (fun w' (q : Kept wr w' none) => HBX.out w' (hkx.tr q))
          clear q0 q1 q3 c0 c1 c2 c3 c4 c5 HT hkx KB
          obtain ⟨wp, hwp⟩ : ∃ wp, wp = wr := ⟨wr, rfl⟩
          subst hwp
          go_loopw [6] (fun q wr => ∃ j : Nat, j ≤ k ∧ q = .int .i64 j ∧ Hid (∀ t, t < j → (!(decide ((N.weds.getD t d0).a = D.a) && decide ((N.weds.getD t d0).b = D.b))) = true) ∧ Kept wp wr none) (fun q _ => k - (intOf q).toNat)
          case atStart => exact ⟨0, Nat.zero_le _, rfl, (fun j hj => by omega), Kept.refl _ _⟩
          case round =>
            obtain ⟨j, hj, rfl, HT, hkx⟩ := hrel
            obtain ⟨c0, c1, c2, c3, c4, c5, _⟩ := HNB.out.kept (KX.out.tr hkx)
            rw [HED.out] at c2
            by_cases hjl : j < k
            · have HNX : Hid ((!(decide ((N.weds.getD j d0).a = D.a) && decide ((N.weds.getD j d0).b = D.b))) = false → rwedsB N = false) := fun q => HNO.out (by rw [HRB.out, allB_no hjl q]; simp)
              have HTS : Hid (∀ t, t < j + 1 → t ≠ j → (!(decide ((N.weds.getD t d0).a = D.a) && decide ((N.weds.getD t d0).b = D.b))) = true) := fun t ht hne => HT.out t (by omega)
              have g0 : ∀ w', Kept wr w' none → w'.cell? ⟨wo.heap.size, 0, none⟩ = some (.int .i64 D.a) := fun w' q => (HBY.out w' (hkx.tr q)).1
              have g1 : ∀ w', Kept wr w' none → w'.cell? ⟨wo.heap.size, 1, none⟩ = some (.int .i64 D.b) := fun w' q => (HBY.out w' (hkx.tr q)).2.1
              have g2 : ∀ w', Kept wr w' none → w'.cell? ⟨w.heap.size, 2, none⟩ = some (.slice (some ⟨db, do_, none⟩) N.weds.length Y.dc) := fun w' q => cell_kept0 c2 q
              have g3 : ∀ w', Kept wr w' none → w'.cell? ⟨db, do_ + j * 4, none⟩ = some (.int .i64 (N.weds.getD j d0).a) := fun w' q => (HGD.out w' ((KX.out.tr hkx).tr q) j (by omega)).1
              have g4 : ∀ w', Kept wr w' none → w'.cell? ⟨db, do_ + j * 4 + 1, none⟩ = some (.int .i64 (N.weds.getD j d0).b) := fun w' q => (HGD.out w' ((KX.out.tr hkx).tr q) j (by omega)).2
              have hjN : j < N.weds.length := by omega
              generalize hE : N.weds.getD j d0 = E at *
              have HEE := Hid.mk' hE
              clear hE
              clear c0 c1 c2 c3 c4 c5
              by_cases ea : E.a = D.a
              · by_cases eb : E.b = D.b
                · have HE := Hid.mk' (HNX.out (by rw [decide_eq_true ea, decide_eq_true eb]; rfl))
                  rw [ea] at g3
                  rw [eb] at g4
                  go_wp2
                  refine Code.wp_mono (Q := Rg6 ?A21 wr) ?cont21 ?reg21
                  case reg21 =>
                    repeat (rename_i hh; clear hh)
                    refine wp_region_held_drew (S := fun w' => Kept wr w' none) (by kernel_rfl) (Kept.tr (Kept.refl _ _) (Kept.drew _ _)) (fun hHeld => ?_)
                    refine held_take (i := 0) (v := ?v22) rfl rfl (by kernel_rfl) (by kernel_rfl) (by kernel_rfl) (fun _ _ _ h => h) (Or.inl ⟨by rfl, ?hy22⟩) hHeld ?rest22
                    case hy22 => first | (intro w hSw; (try dsimp only at hSw); go_simp; done) | (intro w hSw; (try dsimp only at hSw); go_simp; with_reducible rfl)
                    try simp only [List.setIfInBounds_toArray, List.set_cons_zero, List.set_cons_succ]
                    refine held_take (i := 1) (v := ?v23) rfl rfl (by kernel_rfl) (by kernel_rfl) (by kernel_rfl) (fun _ _ _ h => h) (Or.inl ⟨by rfl, ?hy23⟩) hHeld ?rest23
                    case hy23 => first | (intro w hSw; (try dsimp only at hSw); go_simp; done) | (intro w hSw; (try dsimp only at hSw); go_simp; with_reducible rfl)
                    try simp only [List.setIfInBounds_toArray, List.set_cons_zero, List.set_cons_succ]
                    refine held_take (i := 2) (v := ?v24) rfl rfl (by kernel_rfl) (by kernel_rfl) (by kernel_rfl) (fun _ _ _ h => h) (Or.inl ⟨by rfl, ?hy24⟩) hHeld ?rest24
                    case hy24 => first | (intro w hSw; (try dsimp only at hSw); go_simp; done) | (intro w hSw; (try dsimp only at hSw); go_simp; with_reducible rfl)
                    try simp only [List.setIfInBounds_toArray, List.set_cons_zero, List.set_cons_succ]
                    refine held_take (i := 3) (v := ?v25) rfl rfl (by kernel_rfl) (by kernel_rfl) (by kernel_rfl) (fun _ _ _ h => h) (Or.inl ⟨by rfl, ?hy25⟩) hHeld ?rest25
                    case hy25 => first | (intro w hSw; (try dsimp only at hSw); go_simp; done) | (intro w hSw; (try dsimp only at hSw); go_simp; with_reducible rfl)
                    try simp only [List.setIfInBounds_toArray, List.set_cons_zero, List.set_cons_succ]
                    refine held_take (i := 4) (v := ?v26) rfl rfl (by kernel_rfl) (by kernel_rfl) (by kernel_rfl) (fun _ _ _ h => h) (Or.inl ⟨by rfl, ?hy26⟩) hHeld ?rest26
                    case hy26 => first | (intro w hSw; (try dsimp only at hSw); go_simp; done) | (intro w hSw; (try dsimp only at hSw); go_simp; with_reducible rfl)
                    try simp only [List.setIfInBounds_toArray, List.set_cons_zero, List.set_cons_succ]
                    refine held_take (i := 5) (v := ?v27) rfl rfl (by kernel_rfl) (by kernel_rfl) (by kernel_rfl) (fun _ _ _ h => h) (Or.inl ⟨by rfl, ?hy27⟩) hHeld ?rest27
                    case hy27 => first | (intro w hSw; (try dsimp only at hSw); go_simp; done) | (intro w hSw; (try dsimp only at hSw); go_simp; with_reducible rfl)
                    try simp only [List.setIfInBounds_toArray, List.set_cons_zero, List.set_cons_succ]
                    refine held_take (i := 6) (v := ?v28) rfl rfl (by kernel_rfl) (by kernel_rfl) (by kernel_rfl) (fun _ _ _ h => h) (Or.inl ⟨by rfl, ?hy28⟩) hHeld ?rest28
                    case hy28 => first | (intro w hSw; (try dsimp only at hSw); go_simp; done) | (intro w hSw; (try dsimp only at hSw); go_simp; with_reducible rfl)
                    try simp only [List.setIfInBounds_toArray, List.set_cons_zero, List.set_cons_succ]
                    refine held_take (i := 7) (v := ?v29) rfl rfl (by kernel_rfl) (by kernel_rfl) (by kernel_rfl) (fun _ _ _ h => h) (Or.inl ⟨by rfl, ?hy29⟩) hHeld ?rest29
                    case hy29 => first | (intro w hSw; (try dsimp only at hSw); go_simp; done) | (intro w hSw; (try dsimp only at hSw); go_simp; with_reducible rfl)
                    try simp only [List.setIfInBounds_toArray, List.set_cons_zero, List.set_cons_succ]
                    refine held_take (i := 8) (v := ?v30) rfl rfl (by kernel_rfl) (by kernel_rfl) (by kernel_rfl) (fun _ _ _ h => h) (Or.inl ⟨by rfl, ?hy30⟩) hHeld ?rest30
                    case hy30 => first | (intro w hSw; (try dsimp only at hSw); go_simp; done) | (intro w hSw; (try dsimp only at hSw); go_simp; with_reducible rfl)
                    try simp only [List.setIfInBounds_toArray, List.set_cons_zero, List.set_cons_succ]
                    refine held_take (i := 9) (v := ?v31) rfl rfl (by kernel_rfl) (by kernel_rfl) (by kernel_rfl) (fun _ _ _ h => h) (Or.inl ⟨by rfl, ?hy31⟩) hHeld ?rest31
                    case hy31 => first | (intro w hSw; (try dsimp only at hSw); go_simp; done) | (intro w hSw; (try dsimp only at hSw); go_simp; with_reducible rfl)
                    try simp only [List.setIfInBounds_toArray, List.set_cons_zero, List.set_cons_succ]
                    refine held_take (i := 10) (v := ?v32) rfl rfl (by kernel_rfl) (by kernel_rfl) (by kernel_rfl) (fun _ _ _ h => h) (Or.inl ⟨by rfl, ?hy32⟩) hHeld ?rest32
                    case hy32 => first | (intro w hSw; (try dsimp only at hSw); go_simp; done) | (intro w hSw; (try dsimp only at hSw); go_simp; with_reducible rfl)
                    try simp only [List.setIfInBounds_toArray, List.set_cons_zero, List.set_cons_succ]
                    refine held_take (i := 11) (v := ?v33) rfl rfl (by kernel_rfl) (by kernel_rfl) (by kernel_rfl) (fun _ _ _ h => h) (Or.inl ⟨by rfl, ?hy33⟩) hHeld ?rest33
                    case hy33 => first | (intro w hSw; (try dsimp only at hSw); go_simp; done) | (intro w hSw; (try dsimp only at hSw); go_simp; with_reducible rfl)
                    try simp only [List.setIfInBounds_toArray, List.set_cons_zero, List.set_cons_succ]
                    refine held_take (i := 12) (v := ?v34) rfl rfl (by kernel_rfl) (by kernel_rfl) (by kernel_rfl) (fun _ _ _ h => h) (Or.inl ⟨by rfl, ?hy34⟩) hHeld ?rest34
                    case hy34 => first | (intro w hSw; (try dsimp only at hSw); go_simp; done) | (intro w hSw; (try dsimp only at hSw); go_simp; with_reducible rfl)
                    try simp only [List.setIfInBounds_toArray, List.set_cons_zero, List.set_cons_succ]
                    refine held_take (i := 13) (v := ?v35) rfl rfl (by kernel_rfl) (by kernel_rfl) (by kernel_rfl) (fun _ _ _ h => h) (Or.inl ⟨by rfl, ?hy35⟩) hHeld ?rest35
                    case hy35 => first | (intro w hSw; (try dsimp only at hSw); go_simp; done) | (intro w hSw; (try dsimp only at hSw); go_simp; with_reducible rfl)
                    try simp only [List.setIfInBounds_toArray, List.set_cons_zero, List.set_cons_succ]
                    refine held_take (i := 14) (v := ?v36) rfl rfl (by kernel_rfl) (by kernel_rfl) (by kernel_rfl) (fun _ _ _ h => h) (Or.inl ⟨by rfl, ?hy36⟩) hHeld ?rest36
                    case hy36 => first | (intro w hSw; (try dsimp only at hSw); go_simp; done) | (intro w hSw; (try dsimp only at hSw); go_simp; with_reducible rfl)
                    try simp only [List.setIfInBounds_toArray, List.set_cons_zero, List.set_cons_succ]
                    refine held_take (i := 15) (v := ?v37) rfl rfl (by kernel_rfl) (by kernel_rfl) (by kernel_rfl) (fun _ _ _ h => h) (Or.inl ⟨by rfl, ?hy37⟩) hHeld ?rest37
                    case hy37 => first | (intro w hSw; (try dsimp only at hSw); go_simp; done) | (intro w hSw; (try dsimp only at hSw); go_simp; with_reducible rfl)
                    try simp only [List.setIfInBounds_toArray, List.set_cons_zero, List.set_cons_succ]
                    refine held_take (i := 16) (v := ?v38) rfl rfl (by kernel_rfl) (by kernel_rfl) (by kernel_rfl) (fun _ _ _ h => h) (Or.inl ⟨by rfl, ?hy38⟩) hHeld ?rest38
                    case hy38 => first | (intro w hSw; (try dsimp only at hSw); go_simp; done) | (intro w hSw; (try dsimp only at hSw); go_simp; with_reducible rfl)
                    try simp only [List.setIfInBounds_toArray, List.set_cons_zero, List.set_cons_succ]
                    refine held_take (i := 17) (v := ?v39) rfl rfl (by kernel_rfl) (by kernel_rfl) (by kernel_rfl) (fun _ _ _ h => h) (Or.inl ⟨by rfl, ?hy39⟩) hHeld ?rest39
                    case hy39 => first | (intro w hSw; (try dsimp only at hSw); go_simp; done) | (intro w hSw; (try dsimp only at hSw); go_simp; with_reducible rfl)
                    try simp only [List.setIfInBounds_toArray, List.set_cons_zero, List.set_cons_succ]
                    refine held_take (i := 18) (v := ?v40) rfl rfl (by kernel_rfl) (by kernel_rfl) (by kernel_rfl) (fun _ _ _ h => h) (Or.inl ⟨by rfl, ?hy40⟩) hHeld ?rest40
                    case hy40 => first | (intro w hSw; (try dsimp only at hSw); go_simp; done) | (intro w hSw; (try dsimp only at hSw); go_simp; with_reducible rfl)
                    try simp only [List.setIfInBounds_toArray, List.set_cons_zero, List.set_cons_succ]
                    refine held_take (i := 19) (v := ?v41) rfl rfl (by kernel_rfl) (by kernel_rfl) (by kernel_rfl) (fun _ _ _ h => h) (Or.inl ⟨by rfl, ?hy41⟩) hHeld ?rest41
                    case hy41 => first | (intro w hSw; (try dsimp only at hSw); go_simp; done) | (intro w hSw; (try dsimp only at hSw); go_simp; with_reducible rfl)
                    try simp only [List.setIfInBounds_toArray, List.set_cons_zero, List.set_cons_succ]
                    refine wpAnyH_done (by kernel_rfl) ?_ _
                    refine And.intro ?_ hHeld
                    with_reducible rfl
                  case cont21 =>
                  intro e a' w' hq
                  obtain ⟨rfl, rfl, hkq⟩ := hq.out
                  go_wp2
                  go_ret
                  exact ⟨by rw [HE.out]; rfl, HK.out.tr (KX.out.tr (hkx.tr hkq))⟩
                · rw [ea] at g3
                  have eb2 : (E.b == D.b) = false := beq_eq_false_iff_ne.2 eb
                  have HQ : Hid ((!(decide (E.a = D.a) && decide (E.b = D.b))) = true) := by show (!(decide (E.a = D.a) && decide (E.b = D.b))) = true; rw [decide_eq_false eb]; simp
                  clear ea
                  go_wp2
                  refine Code.wp_mono (Q := Rg6 ?A42 wr) ?cont42 ?reg42
                  case reg42 =>
                    repeat (rename_i hh; clear hh)
                    refine wp_region_held_drew (S := fun w' => Kept wr w' none) (by kernel_rfl) (Kept.tr (Kept.refl _ _) (Kept.drew _ _)) (fun hHeld => ?_)
                    refine held_take (i := 0) (v := ?v43) rfl rfl (by kernel_rfl) (by kernel_rfl) (by kernel_rfl) (fun _ _ _ h => h) (Or.inl ⟨by rfl, ?hy43⟩) hHeld ?rest43
                    case hy43 => first | (intro w hSw; (try dsimp only at hSw); go_simp; done) | (intro w hSw; (try dsimp only at hSw); go_simp; with_reducible rfl)
                    try simp only [List.setIfInBounds_toArray, List.set_cons_zero, List.set_cons_succ]
                    refine held_take (i := 1) (v := ?v44) rfl rfl (by kernel_rfl) (by kernel_rfl) (by kernel_rfl) (fun _ _ _ h => h) (Or.inl ⟨by rfl, ?hy44⟩) hHeld ?rest44
                    case hy44 => first | (intro w hSw; (try dsimp only at hSw); go_simp; done) | (intro w hSw; (try dsimp only at hSw); go_simp; with_reducible rfl)
                    try simp only [List.setIfInBounds_toArray, List.set_cons_zero, List.set_cons_succ]
                    refine held_take (i := 2) (v := ?v45) rfl rfl (by kernel_rfl) (by kernel_rfl) (by kernel_rfl) (fun _ _ _ h => h) (Or.inl ⟨by rfl, ?hy45⟩) hHeld ?rest45
                    case hy45 => first | (intro w hSw; (try dsimp only at hSw); go_simp; done) | (intro w hSw; (try dsimp only at hSw); go_simp; with_reducible rfl)
                    try simp only [List.setIfInBounds_toArray, List.set_cons_zero, List.set_cons_succ]
                    refine held_take (i := 3) (v := ?v46) rfl rfl (by kernel_rfl) (by kernel_rfl) (by kernel_rfl) (fun _ _ _ h => h) (Or.inl ⟨by rfl, ?hy46⟩) hHeld ?rest46
                    case hy46 => first | (intro w hSw; (try dsimp only at hSw); go_simp; done) | (intro w hSw; (try dsimp only at hSw); go_simp; with_reducible rfl)
                    try simp only [List.setIfInBounds_toArray, List.set_cons_zero, List.set_cons_succ]
                    refine held_take (i := 4) (v := ?v47) rfl rfl (by kernel_rfl) (by kernel_rfl) (by kernel_rfl) (fun _ _ _ h => h) (Or.inl ⟨by rfl, ?hy47⟩) hHeld ?rest47
                    case hy47 => first | (intro w hSw; (try dsimp only at hSw); go_simp; done) | (intro w hSw; (try dsimp only at hSw); go_simp; with_reducible rfl)
                    try simp only [List.setIfInBounds_toArray, List.set_cons_zero, List.set_cons_succ]
                    refine held_take (i := 5) (v := ?v48) rfl rfl (by kernel_rfl) (by kernel_rfl) (by kernel_rfl) (fun _ _ _ h => h) (Or.inl ⟨by rfl, ?hy48⟩) hHeld ?rest48
                    case hy48 => first | (intro w hSw; (try dsimp only at hSw); go_simp; done) | (intro w hSw; (try dsimp only at hSw); go_simp; with_reducible rfl)
                    try simp only [List.setIfInBounds_toArray, List.set_cons_zero, List.set_cons_succ]
                    refine held_take (i := 6) (v := ?v49) rfl rfl (by kernel_rfl) (by kernel_rfl) (by kernel_rfl) (fun _ _ _ h => h) (Or.inl ⟨by rfl, ?hy49⟩) hHeld ?rest49
                    case hy49 => first | (intro w hSw; (try dsimp only at hSw); go_simp; done) | (intro w hSw; (try dsimp only at hSw); go_simp; with_reducible rfl)
                    try simp only [List.setIfInBounds_toArray, List.set_cons_zero, List.set_cons_succ]
                    refine held_take (i := 7) (v := ?v50) rfl rfl (by kernel_rfl) (by kernel_rfl) (by kernel_rfl) (fun _ _ _ h => h) (Or.inl ⟨by rfl, ?hy50⟩) hHeld ?rest50
                    case hy50 => first | (intro w hSw; (try dsimp only at hSw); go_simp; done) | (intro w hSw; (try dsimp only at hSw); go_simp; with_reducible rfl)
                    try simp only [List.setIfInBounds_toArray, List.set_cons_zero, List.set_cons_succ]
                    refine held_take (i := 8) (v := ?v51) rfl rfl (by kernel_rfl) (by kernel_rfl) (by kernel_rfl) (fun _ _ _ h => h) (Or.inl ⟨by rfl, ?hy51⟩) hHeld ?rest51
                    case hy51 => first | (intro w hSw; (try dsimp only at hSw); go_simp; done) | (intro w hSw; (try dsimp only at hSw); go_simp; with_reducible rfl)
                    try simp only [List.setIfInBounds_toArray, List.set_cons_zero, List.set_cons_succ]
                    refine held_take (i := 9) (v := ?v52) rfl rfl (by kernel_rfl) (by kernel_rfl) (by kernel_rfl) (fun _ _ _ h => h) (Or.inl ⟨by rfl, ?hy52⟩) hHeld ?rest52
                    case hy52 => first | (intro w hSw; (try dsimp only at hSw); go_simp; done) | (intro w hSw; (try dsimp only at hSw); go_simp; with_reducible rfl)
                    try simp only [List.setIfInBounds_toArray, List.set_cons_zero, List.set_cons_succ]
                    refine held_take (i := 10) (v := ?v53) rfl rfl (by kernel_rfl) (by kernel_rfl) (by kernel_rfl) (fun _ _ _ h => h) (Or.inl ⟨by rfl, ?hy53⟩) hHeld ?rest53
                    case hy53 => first | (intro w hSw; (try dsimp only at hSw); go_simp; done) | (intro w hSw; (try dsimp only at hSw); go_simp; with_reducible rfl)
                    try simp only [List.setIfInBounds_toArray, List.set_cons_zero, List.set_cons_succ]
                    refine held_take (i := 11) (v := ?v54) rfl rfl (by kernel_rfl) (by kernel_rfl) (by kernel_rfl) (fun _ _ _ h => h) (Or.inl ⟨by rfl, ?hy54⟩) hHeld ?rest54
                    case hy54 => first | (intro w hSw; (try dsimp only at hSw); go_simp; done) | (intro w hSw; (try dsimp only at hSw); go_simp; with_reducible rfl)
                    try simp only [List.setIfInBounds_toArray, List.set_cons_zero, List.set_cons_succ]
                    refine held_take (i := 12) (v := ?v55) rfl rfl (by kernel_rfl) (by kernel_rfl) (by kernel_rfl) (fun _ _ _ h => h) (Or.inl ⟨by rfl, ?hy55⟩) hHeld ?rest55
                    case hy55 => first | (intro w hSw; (try dsimp only at hSw); go_simp; done) | (intro w hSw; (try dsimp only at hSw); go_simp; with_reducible rfl)
                    try simp only [List.setIfInBounds_toArray, List.set_cons_zero, List.set_cons_succ]
                    refine held_take (i := 13) (v := ?v56) rfl rfl (by kernel_rfl) (by kernel_rfl) (by kernel_rfl) (fun _ _ _ h => h) (Or.inl ⟨by rfl, ?hy56⟩) hHeld ?rest56
                    case hy56 => first | (intro w hSw; (try dsimp only at hSw); go_simp; done) | (intro w hSw; (try dsimp only at hSw); go_simp; with_reducible rfl)
                    try simp only [List.setIfInBounds_toArray, List.set_cons_zero, List.set_cons_succ]
                    refine held_take (i := 14) (v := ?v57) rfl rfl (by kernel_rfl) (by kernel_rfl) (by kernel_rfl) (fun _ _ _ h => h) (Or.inl ⟨by rfl, ?hy57⟩) hHeld ?rest57
                    case hy57 => first | (intro w hSw; (try dsimp only at hSw); go_simp; done) | (intro w hSw; (try dsimp only at hSw); go_simp; with_reducible rfl)
                    try simp only [List.setIfInBounds_toArray, List.set_cons_zero, List.set_cons_succ]
                    refine held_take (i := 15) (v := ?v58) rfl rfl (by kernel_rfl) (by kernel_rfl) (by kernel_rfl) (fun _ _ _ h => h) (Or.inl ⟨by rfl, ?hy58⟩) hHeld ?rest58
                    case hy58 => first | (intro w hSw; (try dsimp only at hSw); go_simp; done) | (intro w hSw; (try dsimp only at hSw); go_simp; with_reducible rfl)
                    try simp only [List.setIfInBounds_toArray, List.set_cons_zero, List.set_cons_succ]
                    refine held_take (i := 16) (v := ?v59) rfl rfl (by kernel_rfl) (by kernel_rfl) (by kernel_rfl) (fun _ _ _ h => h) (Or.inl ⟨by rfl, ?hy59⟩) hHeld ?rest59
                    case hy59 => first | (intro w hSw; (try dsimp only at hSw); go_simp; done) | (intro w hSw; (try dsimp only at hSw); go_simp; with_reducible rfl)
                    try simp only [List.setIfInBounds_toArray, List.set_cons_zero, List.set_cons_succ]
                    refine held_take (i := 17) (v := ?v60) rfl rfl (by kernel_rfl) (by kernel_rfl) (by kernel_rfl) (fun _ _ _ h => h) (Or.inl ⟨by rfl, ?hy60⟩) hHeld ?rest60
                    case hy60 => first | (intro w hSw; (try dsimp only at hSw); go_simp; done) | (intro w hSw; (try dsimp only at hSw); go_simp; with_reducible rfl)
                    try simp only [List.setIfInBounds_toArray, List.set_cons_zero, List.set_cons_succ]
                    refine held_take (i := 18) (v := ?v61) rfl rfl (by kernel_rfl) (by kernel_rfl) (by kernel_rfl) (fun _ _ _ h => h) (Or.inl ⟨by rfl, ?hy61⟩) hHeld ?rest61
                    case hy61 => first | (intro w hSw; (try dsimp only at hSw); go_simp; done) | (intro w hSw; (try dsimp only at hSw); go_simp; with_reducible rfl)
                    try simp only [List.setIfInBounds_toArray, List.set_cons_zero, List.set_cons_succ]
                    refine held_take (i := 19) (v := ?v62) rfl rfl (by kernel_rfl) (by kernel_rfl) (by kernel_rfl) (fun _ _ _ h => h) (Or.inl ⟨by rfl, ?hy62⟩) hHeld ?rest62
                    case hy62 => first | (intro w hSw; (try dsimp only at hSw); go_simp; done) | (intro w hSw; (try dsimp only at hSw); go_simp; with_reducible rfl)
                    try simp only [List.setIfInBounds_toArray, List.set_cons_zero, List.set_cons_succ]
                    refine wpAnyH_done (by kernel_rfl) ?_ _
                    refine And.intro ?_ hHeld
                    with_reducible rfl
                  case cont42 =>
                  intro e a' w' hq
                  obtain ⟨rfl, rfl, hkq⟩ := hq.out
                  go_wp2
                  go_roundw
                  case rel => exact ⟨j + 1, by omega, by go_num, (fun t ht => (by
                    by_cases e : t = j
                    · rw [e, HEE.out]; exact HQ.out
                    · exact HTS.out t ht e)), hkx.tr hkq⟩
                  case measure => simp [intOf]; omega
              · have HQ : Hid ((!(decide (E.a = D.a) && decide (E.b = D.b))) = true) := by show (!(decide (E.a = D.a) && decide (E.b = D.b))) = true; rw [decide_eq_false ea]; simp
                have ea2 : (E.a == D.a) = false := beq_eq_false_iff_ne.2 ea
                go_wp2
                refine Code.wp_mono (Q := Rg6 ?A63 wr) ?cont63 ?reg63
                case reg63 =>
                  repeat (rename_i hh; clear hh)
                  refine wp_region_held_drew (S := fun w' => Kept wr w' none) (by kernel_rfl) (Kept.tr (Kept.refl _ _) (Kept.drew _ _)) (fun hHeld => ?_)
                  refine held_take (i := 0) (v := ?v64) rfl rfl (by kernel_rfl) (by kernel_rfl) (by kernel_rfl) (fun _ _ _ h => h) (Or.inl ⟨by rfl, ?hy64⟩) hHeld ?rest64
                  case hy64 => first | (intro w hSw; (try dsimp only at hSw); go_simp; done) | (intro w hSw; (try dsimp only at hSw); go_simp; with_reducible rfl)
                  try simp only [List.setIfInBounds_toArray, List.set_cons_zero, List.set_cons_succ]
                  refine held_take (i := 1) (v := ?v65) rfl rfl (by kernel_rfl) (by kernel_rfl) (by kernel_rfl) (fun _ _ _ h => h) (Or.inl ⟨by rfl, ?hy65⟩) hHeld ?rest65
                  case hy65 => first | (intro w hSw; (try dsimp only at hSw); go_simp; done) | (intro w hSw; (try dsimp only at hSw); go_simp; with_reducible rfl)
                  try simp only [List.setIfInBounds_toArray, List.set_cons_zero, List.set_cons_succ]
                  refine held_take (i := 2) (v := ?v66) rfl rfl (by kernel_rfl) (by kernel_rfl) (by kernel_rfl) (fun _ _ _ h => h) (Or.inl ⟨by rfl, ?hy66⟩) hHeld ?rest66
                  case hy66 => first | (intro w hSw; (try dsimp only at hSw); go_simp; done) | (intro w hSw; (try dsimp only at hSw); go_simp; with_reducible rfl)
                  try simp only [List.setIfInBounds_toArray, List.set_cons_zero, List.set_cons_succ]
                  refine held_take (i := 3) (v := ?v67) rfl rfl (by kernel_rfl) (by kernel_rfl) (by kernel_rfl) (fun _ _ _ h => h) (Or.inl ⟨by rfl, ?hy67⟩) hHeld ?rest67
                  case hy67 => first | (intro w hSw; (try dsimp only at hSw); go_simp; done) | (intro w hSw; (try dsimp only at hSw); go_simp; with_reducible rfl)
                  try simp only [List.setIfInBounds_toArray, List.set_cons_zero, List.set_cons_succ]
                  refine held_take (i := 4) (v := ?v68) rfl rfl (by kernel_rfl) (by kernel_rfl) (by kernel_rfl) (fun _ _ _ h => h) (Or.inl ⟨by rfl, ?hy68⟩) hHeld ?rest68
                  case hy68 => first | (intro w hSw; (try dsimp only at hSw); go_simp; done) | (intro w hSw; (try dsimp only at hSw); go_simp; with_reducible rfl)
                  try simp only [List.setIfInBounds_toArray, List.set_cons_zero, List.set_cons_succ]
                  refine held_take (i := 5) (v := ?v69) rfl rfl (by kernel_rfl) (by kernel_rfl) (by kernel_rfl) (fun _ _ _ h => h) (Or.inl ⟨by rfl, ?hy69⟩) hHeld ?rest69
                  case hy69 => first | (intro w hSw; (try dsimp only at hSw); go_simp; done) | (intro w hSw; (try dsimp only at hSw); go_simp; with_reducible rfl)
                  try simp only [List.setIfInBounds_toArray, List.set_cons_zero, List.set_cons_succ]
                  refine held_take (i := 6) (v := ?v70) rfl rfl (by kernel_rfl) (by kernel_rfl) (by kernel_rfl) (fun _ _ _ h => h) (Or.inl ⟨by rfl, ?hy70⟩) hHeld ?rest70
                  case hy70 => first | (intro w hSw; (try dsimp only at hSw); go_simp; done) | (intro w hSw; (try dsimp only at hSw); go_simp; with_reducible rfl)
                  try simp only [List.setIfInBounds_toArray, List.set_cons_zero, List.set_cons_succ]
                  refine held_take (i := 7) (v := ?v71) rfl rfl (by kernel_rfl) (by kernel_rfl) (by kernel_rfl) (fun _ _ _ h => h) (Or.inl ⟨by rfl, ?hy71⟩) hHeld ?rest71
                  case hy71 => first | (intro w hSw; (try dsimp only at hSw); go_simp; done) | (intro w hSw; (try dsimp only at hSw); go_simp; with_reducible rfl)
                  try simp only [List.setIfInBounds_toArray, List.set_cons_zero, List.set_cons_succ]
                  refine held_take (i := 8) (v := ?v72) rfl rfl (by kernel_rfl) (by kernel_rfl) (by kernel_rfl) (fun _ _ _ h => h) (Or.inl ⟨by rfl, ?hy72⟩) hHeld ?rest72
                  case hy72 => first | (intro w hSw; (try dsimp only at hSw); go_simp; done) | (intro w hSw; (try dsimp only at hSw); go_simp; with_reducible rfl)
                  try simp only [List.setIfInBounds_toArray, List.set_cons_zero, List.set_cons_succ]
                  refine held_take (i := 9) (v := ?v73) rfl rfl (by kernel_rfl) (by kernel_rfl) (by kernel_rfl) (fun _ _ _ h => h) (Or.inl ⟨by rfl, ?hy73⟩) hHeld ?rest73
                  case hy73 => first | (intro w hSw; (try dsimp only at hSw); go_simp; done) | (intro w hSw; (try dsimp only at hSw); go_simp; with_reducible rfl)
                  try simp only [List.setIfInBounds_toArray, List.set_cons_zero, List.set_cons_succ]
                  refine held_take (i := 10) (v := undef) rfl rfl (by kernel_rfl) (by kernel_rfl) (by kernel_rfl) (fun _ _ _ h => h) (Or.inr ⟨by rfl, rfl⟩) hHeld ?_
                  try simp only [List.setIfInBounds_toArray, List.set_cons_zero, List.set_cons_succ]
                  refine held_take (i := 11) (v := undef) rfl rfl (by kernel_rfl) (by kernel_rfl) (by kernel_rfl) (fun _ _ _ h => h) (Or.inr ⟨by rfl, rfl⟩) hHeld ?_
                  try simp only [List.setIfInBounds_toArray, List.set_cons_zero, List.set_cons_succ]
                  refine held_take (i := 12) (v := undef) rfl rfl (by kernel_rfl) (by kernel_rfl) (by kernel_rfl) (fun _ _ _ h => h) (Or.inr ⟨by rfl, rfl⟩) hHeld ?_
                  try simp only [List.setIfInBounds_toArray, List.set_cons_zero, List.set_cons_succ]
                  refine held_take (i := 13) (v := undef) rfl rfl (by kernel_rfl) (by kernel_rfl) (by kernel_rfl) (fun _ _ _ h => h) (Or.inr ⟨by rfl, rfl⟩) hHeld ?_
                  try simp only [List.setIfInBounds_toArray, List.set_cons_zero, List.set_cons_succ]
                  refine held_take (i := 14) (v := undef) rfl rfl (by kernel_rfl) (by kernel_rfl) (by kernel_rfl) (fun _ _ _ h => h) (Or.inr ⟨by rfl, rfl⟩) hHeld ?_
                  try simp only [List.setIfInBounds_toArray, List.set_cons_zero, List.set_cons_succ]
                  refine held_take (i := 15) (v := undef) rfl rfl (by kernel_rfl) (by kernel_rfl) (by kernel_rfl) (fun _ _ _ h => h) (Or.inr ⟨by rfl, rfl⟩) hHeld ?_
                  try simp only [List.setIfInBounds_toArray, List.set_cons_zero, List.set_cons_succ]
                  refine held_take (i := 16) (v := undef) rfl rfl (by kernel_rfl) (by kernel_rfl) (by kernel_rfl) (fun _ _ _ h => h) (Or.inr ⟨by rfl, rfl⟩) hHeld ?_
                  try simp only [List.setIfInBounds_toArray, List.set_cons_zero, List.set_cons_succ]
                  refine held_take (i := 17) (v := undef) rfl rfl (by kernel_rfl) (by kernel_rfl) (by kernel_rfl) (fun _ _ _ h => h) (Or.inr ⟨by rfl, rfl⟩) hHeld ?_
                  try simp only [List.setIfInBounds_toArray, List.set_cons_zero, List.set_cons_succ]
                  refine held_take (i := 18) (v := undef) rfl rfl (by kernel_rfl) (by kernel_rfl) (by kernel_rfl) (fun _ _ _ h => h) (Or.inr ⟨by rfl, rfl⟩) hHeld ?_
                  try simp only [List.setIfInBounds_toArray, List.set_cons_zero, List.set_cons_succ]
                  refine held_take (i := 19) (v := ?v74) rfl rfl (by kernel_rfl) (by kernel_rfl) (by kernel_rfl) (fun _ _ _ h => h) (Or.inl ⟨by rfl, ?hy74⟩) hHeld ?rest74
                  case hy74 => first | (intro w hSw; (try dsimp only at hSw); go_simp; done) | (intro w hSw; (try dsimp only at hSw); go_simp; with_reducible rfl)
                  try simp only [List.setIfInBounds_toArray, List.set_cons_zero, List.set_cons_succ]
                  refine wpAnyH_done (by kernel_rfl) ?_ _
                  refine And.intro ?_ hHeld
                  with_reducible rfl
                case cont63 =>
                intro e a' w' hq
                obtain ⟨rfl, rfl, hkq⟩ := hq.out
                go_wp2
                go_roundw
                case rel => exact ⟨j + 1, by omega, by go_num, (fun t ht => (by
                  by_cases e : t = j
                  · rw [e, HEE.out]; exact HQ.out
                  · exact HTS.out t ht e)), hkx.tr hkq⟩
                case measure => simp [intOf]; omega
            · have e : j = k := by omega
              subst e
              have HY : Hid (rwedB N j = true) := by
                show rwedB N j = true
                rw [HRB.out, decide_eq_true HA.out.1.1, decide_eq_true HA.out.1.2.1, decide_eq_true HA.out.1.2.2, HA.out.2.1, HOY.out, allB_iff.2 HT.out]
                rfl
              go_wp2
              go_roundw
              case rel => exact ⟨j + 1, by omega, by go_num, (fun t ht => (by
                by_cases e : t = j
                · rw [e]; exact HY.out
                · exact HJ.out t (by omega))), KX.out.tr hkx⟩
              case measure => simp [intOf]; omega
    · have e : k = N.weds.length := by omega
      subst e
      have HE : Hid (rwedsB N = true) := by show rwedsB N = true; unfold rwedsB; rw [decide_eq_true (by omega), allB_iff.2 HJ.out]; rfl
      go_wp2
      go_ret
      exact ⟨by rw [HE.out]; rfl, HK.out.tr hkr⟩

end Go.Proofs.YtoahbpdgbiachaaDoor

