/-
  Part 10 of the texts that the proofs of this seat stand on.
-/
import Derived.Test.YtoahbpdgbiachaaDoorPart9
import Derived.Test.YtoahbpdgbiachaaDoorPart8
import Derived.Test.YtoahbpdgbiachaaDoorPart5
/-
  THE CONTRACT of wedsHold.
-/
namespace Go.Proofs.YtoahbpdgbiachaaDoor
open Go.RowKit Go.Lib Go.Deep Go.Maps
set_option linter.unusedVariables false
set_option linter.unusedSimpArgs false

set_option maxRecDepth 100000 in
set_option maxHeartbeats 8000000 in
theorem weds_net {w : World} {B : Nat} {Y : Na} {N : Nt} {M : Ms} (h : Far w B Y N) (hM : Marks w B M) (hl : M.length ≤ 500) (hd8 : N.weds.length ≤ 8) (hs6 : N.subs.length ≤ 6) (hlo : 1 ≤ N.low ∧ N.low ≤ 1048576) : Calls Tryd.prog 60 #[netV Y N, .map (some B)] w fun e w' => HoldP (wedsF N M N.weds.length) w B e w' := by
  obtain ⟨ys, ysc, yu, yuc, yd, ydc, X, r, t⟩ := Y
  have hk : Kept w (w.alloc (.cells #[.slice ys N.sites.length ysc, .slice yu N.subs.length yuc, .slice yd N.weds.length ydc, .int .i64 N.low, .int .i64 N.high, .int .i64 N.step] 26)) none := Kept.alloc _ _ _ _ _
  have HK := Hid.mk' (kept_any (r := some B) hk)
  have HF := Hid.mk' (h.kept (kept_any hk))
  have HM := Hid.mk' (hM.kept hk (by simp))
  have hBn := hM.lt
  have hcs : ∀ j v, #[.slice ys N.sites.length ysc, .slice yu N.subs.length yuc, .slice yd N.weds.length ydc, .int .i64 N.low, .int .i64 N.high, .int .i64 N.step][j]? = some v → ∀ w', Kept (w.alloc (.cells #[.slice ys N.sites.length ysc, .slice yu N.subs.length yuc, .slice yd N.weds.length ydc, .int .i64 N.low, .int .i64 N.high, .int .i64 N.step] 26)) w' (some B) → w'.cell? ⟨w.heap.size, j, none⟩ = some v := fun j v hv w' q => (World.cell?_of_block (w := (w.alloc (.cells #[.slice ys N.sites.length ysc, .slice yu N.subs.length yuc, .slice yd N.weds.length ydc, .int .i64 N.low, .int .i64 N.high, .int .i64 N.step] 26))) (a := ⟨w.heap.size, j, none⟩) (q.block w.heap.size (by simp) (fun e => by injection e with e; omega))).trans (by simp only [World.cell?_alloc_mark]; exact hv)
  have HC : Hid (∀ w', Kept (w.alloc (.cells #[.slice ys N.sites.length ysc, .slice yu N.subs.length yuc, .slice yd N.weds.length ydc, .int .i64 N.low, .int .i64 N.high, .int .i64 N.step] 26)) w' (some B) → w'.cell? ⟨w.heap.size, 0, none⟩ = some (.slice ys N.sites.length ysc) ∧ w'.cell? ⟨w.heap.size, 1, none⟩ = some (.slice yu N.subs.length yuc) ∧ w'.cell? ⟨w.heap.size, 2, none⟩ = some (.slice yd N.weds.length ydc) ∧ w'.cell? ⟨w.heap.size, 3, none⟩ = some (.int .i64 N.low) ∧ w'.cell? ⟨w.heap.size, 4, none⟩ = some (.int .i64 N.high) ∧ w'.cell? ⟨w.heap.size, 5, none⟩ = some (.int .i64 N.step)) := fun w' q => ⟨hcs 0 _ rfl w' q, hcs 1 _ rfl w' q, hcs 2 _ rfl w' q, hcs 3 _ rfl w' q, hcs 4 _ rfl w' q, hcs 5 _ rfl w' q⟩
  clear h hM hk hcs
  go_enter Tryd.func60, Tryd.ntmps60
  go_wp2
  generalize hW : (w.alloc (.cells #[.slice ys N.sites.length ysc, .slice yu N.subs.length yuc, .slice yd N.weds.length ydc, .int .i64 N.low, .int .i64 N.high, .int .i64 N.step] 26)) = W at *
  clear hW
  go_loopw [10] (fun i wr => ∃ (k : Nat) (M' : Ms), k ≤ N.weds.length ∧ i = .int .i64 k ∧ Hid (wedsF N M k = some M') ∧ M'.length ≤ 500 + k ∧ Hid (Marks wr B M') ∧ Hid (Kept W wr (some B))) (fun i _ => N.weds.length - (intOf i).toNat)
  case atStart => exact ⟨0, M, Nat.zero_le _, rfl, rfl, by omega, HM, Kept.refl _ _⟩
  case round =>
    clear HM
    obtain ⟨k, M', hk, rfl, HS, hml0, HMr, KR⟩ := hrel
    by_cases hlt : k < N.weds.length
    · obtain ⟨db, do_, ed, _, hc⟩ := (HF.out.net _ KR.out).d1.at_ (by omega)
      dsimp only at ed
      subst ed
      have e0 : wr.cell? ⟨db, do_ + k * 4, none⟩ = some (.int .i64 (N.weds.getD k d0).a) := hc k hlt 0 (by omega)
      have e1 : wr.cell? ⟨db, do_ + k * 4 + 1, none⟩ = some (.int .i64 (N.weds.getD k d0).b) := hc k hlt 1 (by omega)
      have e2 : wr.cell? ⟨db, do_ + k * 4 + 2, none⟩ = some (.int .i64 (N.weds.getD k d0).votes) := hc k hlt 2 (by omega)
      have e3 : wr.cell? ⟨db, do_ + k * 4 + 3, none⟩ = some (.slice (t k).1 (N.weds.getD k d0).offsets.length (t k).2) := hc k hlt 3 (by omega)
      have hdr := (HF.out.net _ KR.out).dr _ (getD_mem (d := d0) hlt)
      have HIT : Hid (∀ w', Kept W w' (some B) → Ints w' (t k).1 (N.weds.getD k d0).offsets.length (t k).2 (N.weds.getD k d0).offsets) := fun w' q => (HF.out.net w' q).d2 k hlt
      have HNX : Hid (wedsF N M (k + 1) = none → wedsF N M N.weds.length = none) := fun q => wedsF_none q _ (by omega)
      have HRec : Hid (wedsF N M (k + 1) = if (inB (N.weds.getD k d0).a 0 ((N.subs.length : Int) - 1) && inB (N.weds.getD k d0).b ((N.weds.getD k d0).a + 1) ((N.subs.length : Int) - 1)) = true then (match putF M' (2, (N.weds.getD k d0).a, (N.weds.getD k d0).b) k with
        | none => none
        | some M'' => if (timeB (N.weds.getD k d0).votes && offsetsB N (N.weds.getD k d0).offsets) = true then some M'' else none) else none) := by
        show wedsF N M (k + 1) = _
        rw [wedsF, HS.out]
        all_goals (simp only; split <;> first | rfl | (cases putF M' (2, (N.weds.getD k d0).a, (N.weds.getD k d0).b) k <;> rfl))
      generalize N.weds.getD k d0 = D at *
      generalize t k = tp at *
      obtain ⟨ta, tc⟩ := tp
      dsimp only at *
      have hkA : Kept wr (wr.alloc (.cells #[.int .i64 D.a, .int .i64 D.b, .int .i64 D.votes, .slice ta D.offsets.length tc] 40)) none := Kept.alloc _ _ _ _ _
      have HKA := Hid.mk' (KR.out.tr (kept_any hkA))
      have HMA := Hid.mk' (HMr.out.kept hkA (by simp))
      have hBr := HMr.out.lt
      have hds : ∀ j v, #[.int .i64 D.a, .int .i64 D.b, .int .i64 D.votes, .slice ta D.offsets.length tc][j]? = some v → ∀ w', Kept (wr.alloc (.cells #[.int .i64 D.a, .int .i64 D.b, .int .i64 D.votes, .slice ta D.offsets.length tc] 40)) w' (some B) → w'.cell? ⟨wr.heap.size, j, none⟩ = some v := fun j v hv w' q => (World.cell?_of_block (w := (wr.alloc (.cells #[.int .i64 D.a, .int .i64 D.b, .int .i64 D.votes, .slice ta D.offsets.length tc] 40))) (a := ⟨wr.heap.size, j, none⟩) (q.block wr.heap.size (by simp) (fun e => by injection e with e; omega))).trans (by simp only [World.cell?_alloc_mark]; exact hv)
      have HD : Hid (∀ w', Kept (wr.alloc (.cells #[.int .i64 D.a, .int .i64 D.b, .int .i64 D.votes, .slice ta D.offsets.length tc] 40)) w' (some B) → w'.cell? ⟨wr.heap.size, 0, none⟩ = some (.int .i64 D.a) ∧ w'.cell? ⟨wr.heap.size, 1, none⟩ = some (.int .i64 D.b) ∧ w'.cell? ⟨wr.heap.size, 2, none⟩ = some (.int .i64 D.votes) ∧ w'.cell? ⟨wr.heap.size, 3, none⟩ = some (.slice ta D.offsets.length tc)) := fun w' q => ⟨hds 0 _ rfl w' q, hds 1 _ rfl w' q, hds 2 _ rfl w' q, hds 3 _ rfl w' q⟩
      have HI : Hid (∀ w', Kept (wr.alloc (.cells #[.int .i64 D.a, .int .i64 D.b, .int .i64 D.votes, .slice ta D.offsets.length tc] 40)) w' (some B) → Ints w' ta D.offsets.length tc D.offsets) := fun w' q => HIT.out w' (HKA.out.tr q)
      obtain ⟨n0, n1, n2, n3, n4, n5⟩ := HC.out _ KR.out
      obtain ⟨m0, m1, m2, m3, m4, m5⟩ := HC.out _ HKA.out
      obtain ⟨d0, d1, d2, d3⟩ := HD.out _ (Kept.refl _ _)
      have hwl : w.heap.size < wr.heap.size := block_lt n0
      have hmk : mkR (2, D.a, D.b) := ⟨by show i64B 2; unfold i64B; omega, hdr.1, hdr.2.1⟩
      have hpl : i64B (k : Int) := by unfold i64B; omega
      have hml : M'.length ≤ 1000 := by omega
      have hwr : IntKind.i64.wrap ((N.subs.length : Int) - 1) = (N.subs.length : Int) - 1 := wrap_in (by omega) (by omega)
      clear hc hkA hds HMr HS HIT hdr
      cases b1 : inB D.a 0 ((N.subs.length : Int) - 1) with
      | false =>
        have HE := Hid.mk' (HNX.out (by rw [HRec.out, b1]; rfl))
        go_wp2_with (go_at_call 86; refine (nwithin_is (by assumption)).mono ?_; rintro e w9 ⟨rfl, rfl⟩)
        go_ret
        exact HoldP.no HE.out (HK.out.tr (HKA.out))
      | true =>
      have hab := inB_iff.1 b1
      have hwa : IntKind.i64.wrap (D.a + 1) = D.a + 1 := wrap_in (by omega) (by omega)
      cases b2 : inB D.b (D.a + 1) ((N.subs.length : Int) - 1) with
      | false =>
        have HE := Hid.mk' (HNX.out (by rw [HRec.out, b1, b2]; rfl))
        go_wp2_with (go_at_call 86; refine (nwithin_is (by assumption)).mono ?_; rintro e w9 ⟨rfl, rfl⟩)
        go_ret
        exact HoldP.no HE.out (HK.out.tr (HKA.out))
      | true =>
      cases hf : mkF M' (2, D.a, D.b) with
      | some v =>
        have HE := Hid.mk' (HNX.out (by rw [HRec.out, b1, b2, putF_old hf]; rfl))
        go_wp2_with (first | (go_at_call 87; refine (isFirst_old HMA.out hmk _ v hf).mono ?_; rintro e w4 ⟨rfl, hk4⟩) | (go_at_call 86; refine (nwithin_is (by assumption)).mono ?_; rintro e w9 ⟨rfl, rfl⟩))
        go_ret
        exact HoldP.no HE.out (HK.out.tr (HKA.out.tr (kept_any hk4)))
      | none =>
      cases b3 : timeB D.votes with
      | false =>
        have HE := Hid.mk' (HNX.out (by rw [HRec.out, b1, b2, putF_new hf, b3]; rfl))
        go_wp2_with (first | (go_at_call 87; refine (isFirst_new HMA.out hmk _ hpl hml hf).mono ?_; rintro e w4 ⟨rfl, hm4, hk4⟩; clear m0 m1 m2 m3 m4 m5 d0 d1 d2 d3; obtain ⟨m0, m1, m2, m3, m4, m5⟩ := HC.out _ (HKA.out.tr hk4); obtain ⟨d0, d1, d2, d3⟩ := HD.out _ hk4) | (go_at_call 90; refine (ntime_is (by assumption)).mono ?_; rintro e w9 ⟨rfl, rfl⟩) | (go_at_call 86; refine (nwithin_is (by assumption)).mono ?_; rintro e w9 ⟨rfl, rfl⟩))
        go_ret
        exact HoldP.no HE.out (HK.out.tr (HKA.out.tr hk4))
      | true =>
      cases hof : offsetsB N D.offsets with
      | false =>
        have HE := Hid.mk' (HNX.out (by rw [HRec.out, b1, b2, putF_new hf, b3, hof]; rfl))
        go_wp2_with (first | (go_at_call 91; have hn := offsets_net (Y := ⟨ys, ysc, yu, yuc, some ⟨db, do_, none⟩, ydc, X, r, t⟩) (N := N) (HI.out _ hk4) hlo; rw [hof] at hn; refine hn.mono ?_; rintro e w5 ⟨rfl, hk5⟩) | (go_at_call 87; refine (isFirst_new HMA.out hmk _ hpl hml hf).mono ?_; rintro e w4 ⟨rfl, hm4, hk4⟩; clear m0 m1 m2 m3 m4 m5 d0 d1 d2 d3; obtain ⟨m0, m1, m2, m3, m4, m5⟩ := HC.out _ (HKA.out.tr hk4); obtain ⟨d0, d1, d2, d3⟩ := HD.out _ hk4) | (go_at_call 90; refine (ntime_is (by assumption)).mono ?_; rintro e w9 ⟨rfl, rfl⟩) | (go_at_call 86; refine (nwithin_is (by assumption)).mono ?_; rintro e w9 ⟨rfl, rfl⟩))
        go_ret
        exact HoldP.no HE.out (HK.out.tr (HKA.out.tr (hk4.tr (kept_any hk5))))
      | true =>
        have HE : Hid (wedsF N M (k + 1) = some (((2, D.a, D.b), (k : Int)) :: M')) := by
          show wedsF N M (k + 1) = _
          rw [HRec.out, b1, b2, putF_new hf, b3, hof]
          rfl
        go_wp2_with (first | (go_at_call 91; have hn := offsets_net (Y := ⟨ys, ysc, yu, yuc, some ⟨db, do_, none⟩, ydc, X, r, t⟩) (N := N) (HI.out _ hk4) hlo; rw [hof] at hn; refine hn.mono ?_; rintro e w5 ⟨rfl, hk5⟩) | (go_at_call 87; refine (isFirst_new HMA.out hmk _ hpl hml hf).mono ?_; rintro e w4 ⟨rfl, hm4, hk4⟩; clear m0 m1 m2 m3 m4 m5 d0 d1 d2 d3; obtain ⟨m0, m1, m2, m3, m4, m5⟩ := HC.out _ (HKA.out.tr hk4); obtain ⟨d0, d1, d2, d3⟩ := HD.out _ hk4) | (go_at_call 90; refine (ntime_is (by assumption)).mono ?_; rintro e w9 ⟨rfl, rfl⟩) | (go_at_call 86; refine (nwithin_is (by assumption)).mono ?_; rintro e w9 ⟨rfl, rfl⟩))
        go_roundw
        case rel => exact ⟨k + 1, _, by omega, by go_num, HE, (by simp; omega), hm4.kept hk5 (by simp), HKA.out.tr (hk4.tr (kept_any hk5))⟩
        case measure => simp [intOf]; omega
    · have e : k = N.weds.length := by omega
      subst e
      go_wp2
      go_ret
      exact HoldP.yes HS.out HMr.out (HK.out.tr KR.out)

end Go.Proofs.YtoahbpdgbiachaaDoor

/-
  THE CONTRACTS of look, Check, find, Sub, Site.
-/
namespace Go.Proofs.YtoahbpdgbiachaaDoor
open Go.RowKit Go.Lib Go.Deep Go.Maps
set_option linter.unusedVariables false
set_option linter.unusedSimpArgs false

def LookP (r : Option Ms) (w : World) (e : Ending) (w' : World) : Prop := match r with
  | none => e = .returned (.tuple #[.map none, .int .i64 60]) ∧ Kept w w' none
  | some M => ∃ B, e = .returned (.tuple #[.map (some B), .int .i64 0]) ∧ Marks w' B M ∧ Kept w w' none
theorem LookP.no {r : Option Ms} {w w' : World} (h : r = none) (k : Kept w w' none) : LookP r w (.returned (.tuple #[.map none, .int .i64 60])) w' := by subst h; exact ⟨rfl, k⟩
theorem LookP.yes {r : Option Ms} {M : Ms} {w w' : World} {B : Nat} (h : r = some M) (m : Marks w' B M) (k : Kept w w' none) : LookP r w (.returned (.tuple #[.map (some B), .int .i64 0])) w' := by subst h; exact ⟨B, rfl, m, k⟩
theorem sitesF_len {N : Nt} : ∀ k M, sitesF N k = some M → M.length = k
  | 0, M, h => by injection h with h; subst h; rfl
  | k + 1, M, h => by
    rw [sitesF] at h
    cases h1 : sitesF N k with
    | none => rw [h1] at h; cases h
    | some M1 =>
      rw [h1] at h
      simp only at h
      split at h
      · unfold putF at h
        split at h
        · cases h
        · injection h with h
          subst h
          simp [sitesF_len k M1 h1]
      · cases h
theorem Kept.allocMap (w : World) (r : Option Nat) : Kept w (w.alloc (.map #[] 0)) r := ⟨rfl, rfl, rfl, by simp, fun k hk _ => Below.heap_alloc _ _ _ hk⟩
theorem lookF_eq (N : Nt) : lookF N = if ncountsB N = true then (match sitesF N N.sites.length with
    | none => none
    | some M => match subsP N M with
      | none => none
      | some M' => if ncyclesB N = true then wedsF N M' N.weds.length else none) else none := by
  unfold lookF
  split
  · cases h1 : sitesF N N.sites.length with
    | none => rfl
    | some M =>
      simp only [subsP]
      cases h2 : subsF N M N.subs.length with
      | none => rfl
      | some M' =>
        simp only
        cases h3 : placedB N M' <;> cases h4 : ncyclesB N <;> simp
  · rfl
set_option maxRecDepth 100000 in
set_option maxHeartbeats 8000000 in
theorem look_net {w : World} {Y : Na} {N : Nt} (h : NetAt w Y N) (hT : Tabb w) : Calls Tryd.prog 34 #[netV Y N] w fun e w' => LookP (lookF N) w e w' := by
  obtain ⟨ys, ysc, yu, yuc, yd, ydc, X, r, t⟩ := Y
  have hmm := @run_makeMap Tryd.prog
  have hk : Kept w (w.alloc (.cells #[.slice ys N.sites.length ysc, .slice yu N.subs.length yuc, .slice yd N.weds.length ydc, .int .i64 N.low, .int .i64 N.high, .int .i64 N.step] 26)) none := Kept.alloc _ _ _ _ _
  have hkm : Kept (w.alloc (.cells #[.slice ys N.sites.length ysc, .slice yu N.subs.length yuc, .slice yd N.weds.length ydc, .int .i64 N.low, .int .i64 N.high, .int .i64 N.step] 26)) ((w.alloc (.cells #[.slice ys N.sites.length ysc, .slice yu N.subs.length yuc, .slice yd N.weds.length ydc, .int .i64 N.low, .int .i64 N.high, .int .i64 N.step] 26)).alloc (.map #[] 0)) none := Kept.allocMap _ _
  have hsz : (w.alloc (.cells #[.slice ys N.sites.length ysc, .slice yu N.subs.length yuc, .slice yd N.weds.length ydc, .int .i64 N.low, .int .i64 N.high, .int .i64 N.step] 26)).heap.size = w.heap.size + 1 := by simp
  have HM : Hid (Marks ((w.alloc (.cells #[.slice ys N.sites.length ysc, .slice yu N.subs.length yuc, .slice yd N.weds.length ydc, .int .i64 N.low, .int .i64 N.high, .int .i64 N.step] 26)).alloc (.map #[] 0)) (w.heap.size + 1) []) := by
    have := Marks.made (w.alloc (.cells #[.slice ys N.sites.length ysc, .slice yu N.subs.length yuc, .slice yd N.weds.length ydc, .int .i64 N.low, .int .i64 N.high, .int .i64 N.step] 26))
    rw [hsz] at this
    exact this
  have HK := Hid.mk' (hk.tr hkm)
  have HN := Hid.mk' (h.kept (hk.tr hkm))
  have HF : Hid (Far ((w.alloc (.cells #[.slice ys N.sites.length ysc, .slice yu N.subs.length yuc, .slice yd N.weds.length ydc, .int .i64 N.low, .int .i64 N.high, .int .i64 N.step] 26)).alloc (.map #[] 0)) (w.heap.size + 1) ⟨ys, ysc, yu, yuc, yd, ydc, X, r, t⟩ N) := ⟨fun w' q => h.kept ((hk.tr hkm).newRow q (fun i hi => by injection hi with hi; omega)), fun w' q => hT.kept ((hk.tr hkm).newRow q (fun i hi => by injection hi with hi; omega))⟩
  have hcs : ∀ j v, #[.slice ys N.sites.length ysc, .slice yu N.subs.length yuc, .slice yd N.weds.length ydc, .int .i64 N.low, .int .i64 N.high, .int .i64 N.step][j]? = some v → ∀ w', Kept ((w.alloc (.cells #[.slice ys N.sites.length ysc, .slice yu N.subs.length yuc, .slice yd N.weds.length ydc, .int .i64 N.low, .int .i64 N.high, .int .i64 N.step] 26)).alloc (.map #[] 0)) w' (some (w.heap.size + 1)) → w'.cell? ⟨w.heap.size, j, none⟩ = some v := fun j v hv w' q => (World.cell?_of_block (w := ((w.alloc (.cells #[.slice ys N.sites.length ysc, .slice yu N.subs.length yuc, .slice yd N.weds.length ydc, .int .i64 N.low, .int .i64 N.high, .int .i64 N.step] 26)).alloc (.map #[] 0))) (a := ⟨w.heap.size, j, none⟩) (q.block w.heap.size (by simp; omega) (fun e => by injection e with e; omega))).trans (cell_kept0 (by simp only [World.cell?_alloc_mark]; exact hv) hkm)
  have HC : Hid (∀ w', Kept ((w.alloc (.cells #[.slice ys N.sites.length ysc, .slice yu N.subs.length yuc, .slice yd N.weds.length ydc, .int .i64 N.low, .int .i64 N.high, .int .i64 N.step] 26)).alloc (.map #[] 0)) w' (some (w.heap.size + 1)) → w'.cell? ⟨w.heap.size, 0, none⟩ = some (.slice ys N.sites.length ysc) ∧ w'.cell? ⟨w.heap.size, 1, none⟩ = some (.slice yu N.subs.length yuc) ∧ w'.cell? ⟨w.heap.size, 2, none⟩ = some (.slice yd N.weds.length ydc) ∧ w'.cell? ⟨w.heap.size, 3, none⟩ = some (.int .i64 N.low) ∧ w'.cell? ⟨w.heap.size, 4, none⟩ = some (.int .i64 N.high) ∧ w'.cell? ⟨w.heap.size, 5, none⟩ = some (.int .i64 N.step)) := fun w' q => ⟨hcs 0 _ rfl w' q, hcs 1 _ rfl w' q, hcs 2 _ rfl w' q, hcs 3 _ rfl w' q, hcs 4 _ rfl w' q, hcs 5 _ rfl w' q⟩
  obtain ⟨m0, m1, m2, m3, m4, m5⟩ := HC.out _ (Kept.refl _ _)
  have HE0 := Hid.mk' (lookF_eq N)
  clear h hT hk hkm hcs
  go_enter Tryd.func34, Tryd.ntmps34
  cases b1 : ncountsB N with
  | false =>
    have HE : Hid (lookF N = none) := by show lookF N = none; rw [HE0.out, b1]; rfl
    go_wp2_with (go_at_call 56; have hn := counts_net HN.out; rw [b1] at hn; refine hn.mono ?_; rintro e w3 ⟨rfl, hk3⟩; clear m0 m1 m2 m3 m4 m5; obtain ⟨m0, m1, m2, m3, m4, m5⟩ := HC.out _ (kept_any hk3))
    go_ret2
    exact LookP.no HE.out (HK.out.tr hk3)
  | true =>
  have hb1 := b1
  unfold ncountsB at hb1
  rw [Bool.and_eq_true, Bool.and_eq_true, inB_iff, inB_iff, decide_eq_true_iff] at hb1
  obtain ⟨⟨⟨hn1, hn12⟩, hs1, hs6⟩, hd8⟩ := hb1
  have hn1 : 1 ≤ N.sites.length := by omega
  have hn12 : N.sites.length ≤ 12 := by omega
  have hs1 : 1 ≤ N.subs.length := by omega
  have hs6 : N.subs.length ≤ 6 := by omega
  cases b2 : sitesF N N.sites.length with
  | none =>
    have HE : Hid (lookF N = none) := by show lookF N = none; rw [HE0.out, b1, b2]; rfl
    go_wp2_with (first | (go_at_call 57; have hn := sites_net (HF.out.kept (kept_any hk3)) (HM.out.kept hk3 (by simp)) hn12; rw [b2] at hn; refine hn.mono ?_; rintro e w4 ⟨rfl, hk4⟩; clear m0 m1 m2 m3 m4 m5; obtain ⟨m0, m1, m2, m3, m4, m5⟩ := HC.out _ ((kept_any hk3).tr hk4)) | (go_at_call 56; have hn := counts_net HN.out; rw [b1] at hn; refine hn.mono ?_; rintro e w3 ⟨rfl, hk3⟩; clear m0 m1 m2 m3 m4 m5; obtain ⟨m0, m1, m2, m3, m4, m5⟩ := HC.out _ (kept_any hk3)))
    go_ret2
    exact LookP.no HE.out (HK.out.newRow ((kept_any hk3).tr hk4) (fun i hi => by injection hi with hi; omega))
  | some M1 =>
  have hml1 : M1.length ≤ 100 := by have := sitesF_len _ _ b2; omega
  cases b3 : subsP N M1 with
  | none =>
    have HE : Hid (lookF N = none) := by show lookF N = none; rw [HE0.out, b1, b2]; simp [b3]
    go_wp2_with (first | (go_at_call 58; have hn := subs_net (HF.out.kept ((kept_any hk3).tr hk4)) hm4 hn12 hml1 hs1; rw [b3] at hn; refine hn.mono ?_; rintro e w5 ⟨rfl, hk5⟩; clear m0 m1 m2 m3 m4 m5; obtain ⟨m0, m1, m2, m3, m4, m5⟩ := HC.out _ ((kept_any hk3).tr (hk4.tr hk5))) | (go_at_call 57; have hn := sites_net (HF.out.kept (kept_any hk3)) (HM.out.kept hk3 (by simp)) hn12; rw [b2] at hn; refine hn.mono ?_; rintro e w4 ⟨rfl, hm4, hk4⟩; clear m0 m1 m2 m3 m4 m5; obtain ⟨m0, m1, m2, m3, m4, m5⟩ := HC.out _ ((kept_any hk3).tr hk4)) | (go_at_call 56; have hn := counts_net HN.out; rw [b1] at hn; refine hn.mono ?_; rintro e w3 ⟨rfl, hk3⟩; clear m0 m1 m2 m3 m4 m5; obtain ⟨m0, m1, m2, m3, m4, m5⟩ := HC.out _ (kept_any hk3)))
    go_ret2
    exact LookP.no HE.out (HK.out.newRow ((kept_any hk3).tr (hk4.tr hk5)) (fun i hi => by injection hi with hi; omega))
  | some M2 =>
  have hml2 : M2.length ≤ 500 := by
    unfold subsP at b3
    cases h1 : subsF N M1 N.subs.length with
    | none => rw [h1] at b3; cases b3
    | some M' =>
      rw [h1] at b3
      simp only at b3
      split at b3
      · injection b3 with b3
        subst b3
        have h2 := subsF_many _ _ h1
        have h3 := manyP_le N M'
        omega
      · cases b3
  cases b4 : ncyclesB N with
  | false =>
    have HE : Hid (lookF N = none) := by show lookF N = none; rw [HE0.out, b1, b2]; simp [b3, b4]
    go_wp2_with (first | (go_at_call 59; have hn := cycles_net (HF.out.net _ ((kept_any hk3).tr (hk4.tr hk5))) hn1 hn12; rw [b4] at hn; refine hn.mono ?_; rintro e w6 ⟨rfl, hk6⟩; clear m0 m1 m2 m3 m4 m5; obtain ⟨m0, m1, m2, m3, m4, m5⟩ := HC.out _ ((kept_any hk3).tr (hk4.tr (hk5.tr (kept_any hk6))))) | (go_at_call 58; have hn := subs_net (HF.out.kept ((kept_any hk3).tr hk4)) hm4 hn12 hml1 hs1; rw [b3] at hn; refine hn.mono ?_; rintro e w5 ⟨rfl, hm5, hk5⟩; clear m0 m1 m2 m3 m4 m5; obtain ⟨m0, m1, m2, m3, m4, m5⟩ := HC.out _ ((kept_any hk3).tr (hk4.tr hk5))) | (go_at_call 57; have hn := sites_net (HF.out.kept (kept_any hk3)) (HM.out.kept hk3 (by simp)) hn12; rw [b2] at hn; refine hn.mono ?_; rintro e w4 ⟨rfl, hm4, hk4⟩; clear m0 m1 m2 m3 m4 m5; obtain ⟨m0, m1, m2, m3, m4, m5⟩ := HC.out _ ((kept_any hk3).tr hk4)) | (go_at_call 56; have hn := counts_net HN.out; rw [b1] at hn; refine hn.mono ?_; rintro e w3 ⟨rfl, hk3⟩; clear m0 m1 m2 m3 m4 m5; obtain ⟨m0, m1, m2, m3, m4, m5⟩ := HC.out _ (kept_any hk3)))
    go_ret2
    exact LookP.no HE.out (HK.out.newRow ((kept_any hk3).tr (hk4.tr (hk5.tr (kept_any hk6)))) (fun i hi => by injection hi with hi; omega))
  | true =>
  have hlo : 1 ≤ N.low ∧ N.low ≤ 1048576 := by
    have h1 := b4
    unfold ncyclesB at h1
    simp only [Bool.and_eq_true] at h1
    exact inB_iff.1 (show inB N.low 1 1048576 = true from h1.1.1.1.1.1)
  cases b5 : wedsF N M2 N.weds.length with
  | none =>
    have HE : Hid (lookF N = none) := by show lookF N = none; rw [HE0.out, b1, b2]; simp [b3, b4, b5]
    go_wp2_with (first | (go_at_call 60; have hn := weds_net (HF.out.kept ((kept_any hk3).tr (hk4.tr (hk5.tr (kept_any hk6))))) (hm5.kept hk6 (by simp)) hml2 hd8 hs6 hlo; rw [b5] at hn; refine hn.mono ?_; rintro e w7 ⟨rfl, hk7⟩) | (go_at_call 59; have hn := cycles_net (HF.out.net _ ((kept_any hk3).tr (hk4.tr hk5))) hn1 hn12; rw [b4] at hn; refine hn.mono ?_; rintro e w6 ⟨rfl, hk6⟩; clear m0 m1 m2 m3 m4 m5; obtain ⟨m0, m1, m2, m3, m4, m5⟩ := HC.out _ ((kept_any hk3).tr (hk4.tr (hk5.tr (kept_any hk6))))) | (go_at_call 58; have hn := subs_net (HF.out.kept ((kept_any hk3).tr hk4)) hm4 hn12 hml1 hs1; rw [b3] at hn; refine hn.mono ?_; rintro e w5 ⟨rfl, hm5, hk5⟩; clear m0 m1 m2 m3 m4 m5; obtain ⟨m0, m1, m2, m3, m4, m5⟩ := HC.out _ ((kept_any hk3).tr (hk4.tr hk5))) | (go_at_call 57; have hn := sites_net (HF.out.kept (kept_any hk3)) (HM.out.kept hk3 (by simp)) hn12; rw [b2] at hn; refine hn.mono ?_; rintro e w4 ⟨rfl, hm4, hk4⟩; clear m0 m1 m2 m3 m4 m5; obtain ⟨m0, m1, m2, m3, m4, m5⟩ := HC.out _ ((kept_any hk3).tr hk4)) | (go_at_call 56; have hn := counts_net HN.out; rw [b1] at hn; refine hn.mono ?_; rintro e w3 ⟨rfl, hk3⟩; clear m0 m1 m2 m3 m4 m5; obtain ⟨m0, m1, m2, m3, m4, m5⟩ := HC.out _ (kept_any hk3)))
    go_ret2
    exact LookP.no HE.out (HK.out.newRow (((kept_any hk3).tr (hk4.tr (hk5.tr (kept_any hk6)))).tr hk7) (fun i hi => by injection hi with hi; omega))
  | some M3 =>
    have HE : Hid (lookF N = some M3) := by show lookF N = some M3; rw [HE0.out, b1, b2]; simp [b3, b4, b5]
    go_wp2_with (first | (go_at_call 60; have hn := weds_net (HF.out.kept ((kept_any hk3).tr (hk4.tr (hk5.tr (kept_any hk6))))) (hm5.kept hk6 (by simp)) hml2 hd8 hs6 hlo; rw [b5] at hn; refine hn.mono ?_; rintro e w7 ⟨rfl, hm7, hk7⟩) | (go_at_call 59; have hn := cycles_net (HF.out.net _ ((kept_any hk3).tr (hk4.tr hk5))) hn1 hn12; rw [b4] at hn; refine hn.mono ?_; rintro e w6 ⟨rfl, hk6⟩; clear m0 m1 m2 m3 m4 m5; obtain ⟨m0, m1, m2, m3, m4, m5⟩ := HC.out _ ((kept_any hk3).tr (hk4.tr (hk5.tr (kept_any hk6))))) | (go_at_call 58; have hn := subs_net (HF.out.kept ((kept_any hk3).tr hk4)) hm4 hn12 hml1 hs1; rw [b3] at hn; refine hn.mono ?_; rintro e w5 ⟨rfl, hm5, hk5⟩; clear m0 m1 m2 m3 m4 m5; obtain ⟨m0, m1, m2, m3, m4, m5⟩ := HC.out _ ((kept_any hk3).tr (hk4.tr hk5))) | (go_at_call 57; have hn := sites_net (HF.out.kept (kept_any hk3)) (HM.out.kept hk3 (by simp)) hn12; rw [b2] at hn; refine hn.mono ?_; rintro e w4 ⟨rfl, hm4, hk4⟩; clear m0 m1 m2 m3 m4 m5; obtain ⟨m0, m1, m2, m3, m4, m5⟩ := HC.out _ ((kept_any hk3).tr hk4)) | (go_at_call 56; have hn := counts_net HN.out; rw [b1] at hn; refine hn.mono ?_; rintro e w3 ⟨rfl, hk3⟩; clear m0 m1 m2 m3 m4 m5; obtain ⟨m0, m1, m2, m3, m4, m5⟩ := HC.out _ (kept_any hk3)))
    go_ret2
    exact LookP.yes HE.out hm7 (HK.out.newRow (((kept_any hk3).tr (hk4.tr (hk5.tr (kept_any hk6)))).tr hk7) (fun i hi => by injection hi with hi; omega))
/-- Whether a region may be. -/
def netB (N : Nt) : Bool := (lookF N).isSome
def netE (N : Nt) : Int := if netB N = true then 0 else 60
set_option maxRecDepth 100000 in
theorem ncheck_any {w : World} {Y : Na} {N : Nt} (h : NetAt w Y N) (hT : Tabb w) : Calls Tryd.prog 13 #[netV Y N] w fun e w' => e = .returned (.int .i64 (netE N)) ∧ Kept w w' none := by
  obtain ⟨ys, ysc, yu, yuc, yd, ydc, X, r, t⟩ := Y
  have hk : Kept w (w.alloc (.cells #[.slice ys N.sites.length ysc, .slice yu N.subs.length yuc, .slice yd N.weds.length ydc, .int .i64 N.low, .int .i64 N.high, .int .i64 N.step] 26)) none := Kept.alloc _ _ _ _ _
  have HK := Hid.mk' hk
  have HN := Hid.mk' (h.kept hk)
  have HT := Hid.mk' (hT.kept hk)
  clear h hT hk
  go_enter Tryd.func13, Tryd.ntmps13
  cases hl : lookF N with
  | none =>
    have HE : Hid (netE N = 60) := by show netE N = 60; unfold netE netB; rw [hl]; rfl
    go_wp2_with (go_at_call 34; have hn := look_net HN.out HT.out; rw [hl] at hn; refine hn.mono ?_; rintro e w3 ⟨rfl, hk3⟩)
    go_ret
    exact ⟨by rw [HE.out]; rfl, HK.out.tr hk3⟩
  | some M =>
    have HE : Hid (netE N = 0) := by show netE N = 0; unfold netE netB; rw [hl]; rfl
    go_wp2_with (go_at_call 34; have hn := look_net HN.out HT.out; rw [hl] at hn; refine hn.mono ?_; rintro e w3 ⟨B, rfl, hm3, hk3⟩)
    go_ret
    exact ⟨by rw [HE.out]; rfl, HK.out.tr hk3⟩
/-- What is asked of a region that may be: the place of a mark. -/
def findV (N : Nt) (k : Mk) : Int × Int := match lookF N with
  | none => (0, 60)
  | some M => match mkF M k with
    | none => (0, 2)
    | some v => (v, 0)
set_option maxRecDepth 100000 in
set_option maxHeartbeats 4000000 in
theorem find_net {w : World} {Y : Na} {N : Nt} (h : NetAt w Y N) (hT : Tabb w) {a b c : Int} (hk : mkR (a, b, c)) : Calls Tryd.prog 25 #[netV Y N, .agg #[.int .i64 a, .int .i64 b, .int .i64 c]] w fun e w' => e = .returned (.tuple #[.int .i64 (findV N (a, b, c)).1, .int .i64 (findV N (a, b, c)).2]) ∧ Kept w w' none := by
  obtain ⟨ys, ysc, yu, yuc, yd, ydc, X, r, t⟩ := Y
  have hk0 : Kept w (w.alloc (.cells #[.slice ys N.sites.length ysc, .slice yu N.subs.length yuc, .slice yd N.weds.length ydc, .int .i64 N.low, .int .i64 N.high, .int .i64 N.step] 26)) none := Kept.alloc _ _ _ _ _
  have hk1 : Kept (w.alloc (.cells #[.slice ys N.sites.length ysc, .slice yu N.subs.length yuc, .slice yd N.weds.length ydc, .int .i64 N.low, .int .i64 N.high, .int .i64 N.step] 26)) ((w.alloc (.cells #[.slice ys N.sites.length ysc, .slice yu N.subs.length yuc, .slice yd N.weds.length ydc, .int .i64 N.low, .int .i64 N.high, .int .i64 N.step] 26)).alloc (.cells #[.int .i64 a, .int .i64 b, .int .i64 c] 70)) none := Kept.alloc _ _ _ _ _
  have HK := Hid.mk' (hk0.tr hk1)
  have HN := Hid.mk' (h.kept (hk0.tr hk1))
  have HT := Hid.mk' (hT.kept (hk0.tr hk1))
  have hms : ∀ j v, #[.int .i64 a, .int .i64 b, .int .i64 c][j]? = some v → ∀ w', Kept ((w.alloc (.cells #[.slice ys N.sites.length ysc, .slice yu N.subs.length yuc, .slice yd N.weds.length ydc, .int .i64 N.low, .int .i64 N.high, .int .i64 N.step] 26)).alloc (.cells #[.int .i64 a, .int .i64 b, .int .i64 c] 70)) w' none → w'.cell? ⟨w.heap.size + 1, j, none⟩ = some v := fun j v hv w' q => cell_kept0 (by
    have e : w.heap.size + 1 = (w.alloc (.cells #[.slice ys N.sites.length ysc, .slice yu N.subs.length yuc, .slice yd N.weds.length ydc, .int .i64 N.low, .int .i64 N.high, .int .i64 N.step] 26)).heap.size := by simp
    rw [e]
    simp only [World.cell?_alloc_mark]; exact hv) q
  have HC : Hid (∀ w', Kept ((w.alloc (.cells #[.slice ys N.sites.length ysc, .slice yu N.subs.length yuc, .slice yd N.weds.length ydc, .int .i64 N.low, .int .i64 N.high, .int .i64 N.step] 26)).alloc (.cells #[.int .i64 a, .int .i64 b, .int .i64 c] 70)) w' none → w'.cell? ⟨w.heap.size + 1, 0, none⟩ = some (.int .i64 a) ∧ w'.cell? ⟨w.heap.size + 1, 1, none⟩ = some (.int .i64 b) ∧ w'.cell? ⟨w.heap.size + 1, 2, none⟩ = some (.int .i64 c)) := fun w' q => ⟨hms 0 _ rfl w' q, hms 1 _ rfl w' q, hms 2 _ rfl w' q⟩
  have HKY := Hid.mk' (mk_key hk)
  have HMK := Hid.mk' hk
  clear h hT hk0 hk1 hms hk
  go_enter Tryd.func25, Tryd.ntmps25
  cases hl : lookF N with
  | none =>
    have HE : Hid (findV N (a, b, c) = (0, 60)) := by show findV N (a, b, c) = _; unfold findV; rw [hl]
    go_wp2_with (go_at_call 34; have hn := look_net HN.out HT.out; rw [hl] at hn; refine hn.mono ?_; rintro e w3 ⟨rfl, hk3⟩)
    go_ret2
    exact ⟨by rw [HE.out]; rfl, HK.out.tr hk3⟩
  | some M =>
    cases hf : mkF M (a, b, c) with
    | none =>
      have HE : Hid (findV N (a, b, c) = (0, 2)) := by show findV N (a, b, c) = _; unfold findV; rw [hl]; simp only [hf]
      go_wp2_with (first
        | (have hgo := HM3; clear hgo; at_lookup; refine wpList_lookup_own_ok_int _ rfl _ _ 80 rfl 70 3 .i64 Tryd.lawMk Tryd.uMks Tryd.uMi (Tryd.zeroMi _) B _ _ rfl HM3.out.own _ _ rfl HKY.out ?_; intro x hat hwc; rw [hh])
        | (go_at_call 34; have hn := look_net HN.out HT.out; rw [hl] at hn; refine hn.mono ?_; rintro e w3 ⟨B, rfl, hm3, hk3⟩; obtain ⟨c0, c1, c2⟩ := HC.out _ hk3; have HM3 := Hid.mk' hm3; have hh := mkD_has M hm3.all _ HMK.out; rw [hf] at hh; have hh : Maps.has (mkD M) (mkL (a, b, c)) = false := hh; clear hm3))
      go_ret2
      exact ⟨by rw [HE.out]; rfl, HK.out.tr hk3⟩
    | some v =>
      have HE : Hid (findV N (a, b, c) = (v, 0)) := by show findV N (a, b, c) = _; unfold findV; rw [hl]; simp only [hf]
      go_wp2_with (first
        | (have hgo := HM3; clear hgo; at_lookup; refine wpList_lookup_own_ok_int _ rfl _ _ 80 rfl 70 3 .i64 Tryd.lawMk Tryd.uMks Tryd.uMi (Tryd.zeroMi _) B _ _ rfl HM3.out.own _ _ rfl HKY.out ?_; intro x hat hwc; rw [hh]; have hxk : x = v := (by have hz := hat; rw [mkD_at M HM3.out.all _ HMK.out _ hf] at hz; simpa using hz.symm); subst hxk)
        | (go_at_call 34; have hn := look_net HN.out HT.out; rw [hl] at hn; refine hn.mono ?_; rintro e w3 ⟨B, rfl, hm3, hk3⟩; obtain ⟨c0, c1, c2⟩ := HC.out _ hk3; have HM3 := Hid.mk' hm3; have hh := mkD_has M hm3.all _ HMK.out; rw [hf] at hh; have hh : Maps.has (mkD M) (mkL (a, b, c)) = true := hh; clear hm3))
      go_ret2
      exact ⟨by rw [HE.out]; rfl, HK.out.tr hk3⟩
set_option maxRecDepth 100000 in
theorem sub_net {w : World} {Y : Na} {N : Nt} (h : NetAt w Y N) (hT : Tabb w) {x : Int} (hx : i64B x) : Calls Tryd.prog 9 #[netV Y N, .int .i64 x] w fun e w' => e = .returned (.tuple #[.int .i64 (findV N (1, x, 0)).1, .int .i64 (findV N (1, x, 0)).2]) ∧ Kept w w' none := by
  obtain ⟨ys, ysc, yu, yuc, yd, ydc, X, r, t⟩ := Y
  have hk : Kept w (w.alloc (.cells #[.slice ys N.sites.length ysc, .slice yu N.subs.length yuc, .slice yd N.weds.length ydc, .int .i64 N.low, .int .i64 N.high, .int .i64 N.step] 26)) none := Kept.alloc _ _ _ _ _
  have HK := Hid.mk' hk
  have HN := Hid.mk' (h.kept hk)
  have HT := Hid.mk' (hT.kept hk)
  have hmk : mkR (1, x, 0) := ⟨by show i64B 1; unfold i64B; omega, hx, i64_zero⟩
  clear h hT hk
  go_enter Tryd.func9, Tryd.ntmps9
  go_wp2_with (go_at_call 25; refine (find_net HN.out HT.out hmk).mono ?_; rintro e w3 ⟨rfl, hk3⟩)
  go_ret2
  exact ⟨rfl, HK.out.tr hk3⟩
set_option maxRecDepth 100000 in
theorem site_net {w : World} {Y : Na} {N : Nt} (h : NetAt w Y N) (hT : Tabb w) {x : Int} (hx : i64B x) : Calls Tryd.prog 10 #[netV Y N, .int .i64 x] w fun e w' => e = .returned (.tuple #[.int .i64 (findV N (0, x, 0)).1, .int .i64 (findV N (0, x, 0)).2]) ∧ Kept w w' none := by
  obtain ⟨ys, ysc, yu, yuc, yd, ydc, X, r, t⟩ := Y
  have hk : Kept w (w.alloc (.cells #[.slice ys N.sites.length ysc, .slice yu N.subs.length yuc, .slice yd N.weds.length ydc, .int .i64 N.low, .int .i64 N.high, .int .i64 N.step] 26)) none := Kept.alloc _ _ _ _ _
  have HK := Hid.mk' hk
  have HN := Hid.mk' (h.kept hk)
  have HT := Hid.mk' (hT.kept hk)
  have hmk : mkR (0, x, 0) := ⟨i64_zero, hx, i64_zero⟩
  clear h hT hk
  go_enter Tryd.func10, Tryd.ntmps10
  go_wp2_with (go_at_call 25; refine (find_net HN.out HT.out hmk).mono ?_; rintro e w3 ⟨rfl, hk3⟩)
  go_ret2
  exact ⟨rfl, HK.out.tr hk3⟩

end Go.Proofs.YtoahbpdgbiachaaDoor

/-
  MATHS: what the marks of a region tell.
-/
namespace Go.Proofs.YtoahbpdgbiachaaDoor
open Go.RowKit Go.Lib Go.Deep
set_option linter.unusedVariables false
set_option linter.unusedSimpArgs false

/-! ### What the marks tell -/
theorem putF_some {M M' : Ms} {k : Mk} {p : Int} (h : putF M k p = some M') : mkF M k = none ∧ M' = (k, p) :: M := by
  unfold putF at h
  cases e : mkF M k with
  | some v => rw [e] at h; cases h
  | none => rw [e] at h; injection h with h; exact ⟨rfl, h.symm⟩
theorem sitesF_step {N : Nt} {k : Nat} {M : Ms} (h : sitesF N (k + 1) = some M) : ∃ M1, sitesF N k = some M1 ∧ siteB (N.sites.getD k s0) = true ∧ mkF M1 (0, (N.sites.getD k s0).id, 0) = none ∧ M = ((0, (N.sites.getD k s0).id, 0), (k : Int)) :: M1 := by
  rw [sitesF] at h
  cases h1 : sitesF N k with
  | none => rw [h1] at h; cases h
  | some M1 =>
    rw [h1] at h
    simp only at h
    split at h
    · rename_i hs
      obtain ⟨h2, h3⟩ := putF_some h
      exact ⟨M1, rfl, hs, h2, h3⟩
    · cases h
theorem takeF_step {N : Nt} {place k : Nat} {l : List Int} {M M' : Ms} (h : takeF N place l M (k + 1) = some M') : ∃ M1, takeF N place l M k = some M1 ∧ inB (l.getD k 0) 0 ((N.sites.length : Int) - 1) = true ∧ mkF M1 (1, l.getD k 0, 0) = none ∧ M' = ((1, l.getD k 0, 0), (place : Int)) :: M1 := by
  rw [takeF] at h
  cases h1 : takeF N place l M k with
  | none => rw [h1] at h; cases h
  | some M1 =>
    rw [h1] at h
    simp only at h
    split at h
    · rename_i hs
      obtain ⟨h2, h3⟩ := putF_some h
      exact ⟨M1, rfl, hs, h2, h3⟩
    · cases h
theorem subsF_step {N : Nt} {k : Nat} {M M' : Ms} (h : subsF N M (k + 1) = some M') : ∃ M1, subsF N M k = some M1 ∧ takeF N k (N.subs.getD k u0).sites M1 (N.subs.getD k u0).sites.length = some M' ∧ mkF M' (1, (N.subs.getD k u0).critical, 0) = some (k : Int) := by
  rw [subsF] at h
  cases h1 : subsF N M k with
  | none => rw [h1] at h; cases h
  | some M1 =>
    rw [h1] at h
    simp only at h
    cases h2 : takeF N k (N.subs.getD k u0).sites M1 (N.subs.getD k u0).sites.length with
    | none => rw [h2] at h; cases h
    | some M2 =>
      rw [h2] at h
      simp only at h
      split at h
      · rename_i hc
        injection h with h
        subst h
        exact ⟨M1, rfl, h2, hc⟩
      · cases h
theorem wedsF_step {N : Nt} {k : Nat} {M M' : Ms} (h : wedsF N M (k + 1) = some M') : ∃ M1, wedsF N M k = some M1 ∧ inB (N.weds.getD k d0).a 0 ((N.subs.length : Int) - 1) = true ∧ inB (N.weds.getD k d0).b ((N.weds.getD k d0).a + 1) ((N.subs.length : Int) - 1) = true ∧ mkF M1 (2, (N.weds.getD k d0).a, (N.weds.getD k d0).b) = none ∧ M' = ((2, (N.weds.getD k d0).a, (N.weds.getD k d0).b), (k : Int)) :: M1 ∧ timeB (N.weds.getD k d0).votes = true ∧ offsetsB N (N.weds.getD k d0).offsets = true := by
  rw [wedsF] at h
  cases h1 : wedsF N M k with
  | none => rw [h1] at h; cases h
  | some M1 =>
    rw [h1] at h
    simp only at h
    split at h
    · rename_i hs
      rw [Bool.and_eq_true] at hs
      cases h2 : putF M1 (2, (N.weds.getD k d0).a, (N.weds.getD k d0).b) k with
      | none => rw [h2] at h; cases h
      | some M2 =>
        rw [h2] at h
        simp only at h
        obtain ⟨h3, h4⟩ := putF_some h2
        split at h
        · rename_i ht
          rw [Bool.and_eq_true] at ht
          injection h with h
          subst h
          exact ⟨M1, rfl, hs.1, hs.2, h3, h4, ht.1, ht.2⟩
        · cases h
    · cases h
theorem lookF_parts {N : Nt} {M : Ms} (h : lookF N = some M) : ncountsB N = true ∧ ∃ M1 M2, sitesF N N.sites.length = some M1 ∧ subsF N M1 N.subs.length = some M2 ∧ placedB N M2 = true ∧ ncyclesB N = true ∧ wedsF N M2 N.weds.length = some M := by
  unfold lookF at h
  split at h
  · rename_i hc
    refine ⟨hc, ?_⟩
    cases h1 : sitesF N N.sites.length with
    | none => rw [h1] at h; cases h
    | some M1 =>
      rw [h1] at h
      simp only at h
      cases h2 : subsF N M1 N.subs.length with
      | none => rw [h2] at h; cases h
      | some M2 =>
        rw [h2] at h
        simp only at h
        split at h
        · rename_i hp
          rw [Bool.and_eq_true] at hp
          exact ⟨M1, M2, rfl, h2, hp.1, hp.2, h⟩
        · cases h
  · cases h
theorem sitesF_all {N : Nt} : ∀ k M, sitesF N k = some M → ∀ i, i < k → siteB (N.sites.getD i s0) = true
  | 0, M, h, i, hi => by omega
  | k + 1, M, h, i, hi => by
    obtain ⟨M1, h1, h2, _, _⟩ := sitesF_step h
    by_cases e : i = k
    · subst e; exact h2
    · exact sitesF_all k M1 h1 i (by omega)
theorem sitesF_one {N : Nt} (x : Int) : ∀ k M, sitesF N k = some M → mkF M (1, x, 0) = none
  | 0, M, h => by injection h with h; subst h; rfl
  | k + 1, M, h => by
    obtain ⟨M1, h1, h2, _, h4⟩ := sitesF_step h
    subst h4
    rw [mkF_other _ _ (fun e => by have := congrArg Prod.fst e; cases this)]
    exact sitesF_one x k M1 h1
/-- Marks of places are in range. -/
def InR (N : Nt) (M : Ms) : Prop := ∀ x p, mkF M (1, x, 0) = some p → inB x 0 ((N.sites.length : Int) - 1) = true
theorem takeF_inr {N : Nt} {place : Nat} {l : List Int} {M : Ms} (hM : InR N M) : ∀ k M', takeF N place l M k = some M' → InR N M' ∧ ∀ i, i < k → inB (l.getD i 0) 0 ((N.sites.length : Int) - 1) = true
  | 0, M', h => by injection h with h; subst h; exact ⟨hM, fun i hi => by omega⟩
  | k + 1, M', h => by
    obtain ⟨M1, h1, h2, h3, h4⟩ := takeF_step h
    obtain ⟨g1, g2⟩ := takeF_inr hM k M1 h1
    subst h4
    refine ⟨fun x p hx => ?_, fun i hi => ?_⟩
    · by_cases e : (1, x, 0) = ((1, l.getD k 0, 0) : Mk)
      · have := congrArg (fun z : Mk => z.2.1) e
        simp only at this
        rw [this]; exact h2
      · rw [mkF_other _ _ e] at hx
        exact g1 x p hx
    · by_cases e : i = k
      · subst e; exact h2
      · exact g2 i (by omega)
theorem subsF_inr {N : Nt} {M : Ms} (hM : InR N M) : ∀ k M', subsF N M k = some M' → InR N M' ∧ ∀ i, i < k → (N.subs.getD i u0).sites.length ≤ N.sites.length ∧ (∀ j, j < (N.subs.getD i u0).sites.length → inB ((N.subs.getD i u0).sites.getD j 0) 0 ((N.sites.length : Int) - 1) = true) ∧ inB (N.subs.getD i u0).critical 0 ((N.sites.length : Int) - 1) = true
  | 0, M', h => by injection h with h; subst h; exact ⟨hM, fun i hi => by omega⟩
  | k + 1, M', h => by
    obtain ⟨M1, h1, h2, h3⟩ := subsF_step h
    obtain ⟨g1, g2⟩ := subsF_inr hM k M1 h1
    obtain ⟨t1, t2⟩ := takeF_inr g1 _ M' h2
    refine ⟨t1, fun i hi => ?_⟩
    by_cases e : i = k
    · subst e
      have hm := (takeF_many _ _ h2).1
      have hl := manyP_le N M'
      exact ⟨by omega, t2, t1 _ _ h3⟩
    · exact g2 i (by omega)
theorem wedsF_all {N : Nt} {M : Ms} : ∀ k M', wedsF N M k = some M' → ∀ i, i < k → inB (N.weds.getD i d0).a 0 ((N.subs.length : Int) - 1) = true ∧ inB (N.weds.getD i d0).b ((N.weds.getD i d0).a + 1) ((N.subs.length : Int) - 1) = true ∧ timeB (N.weds.getD i d0).votes = true ∧ offsetsB N (N.weds.getD i d0).offsets = true
  | 0, M', h, i, hi => by omega
  | k + 1, M', h, i, hi => by
    obtain ⟨M1, h1, h2, h3, h4, h5, h6, h7⟩ := wedsF_step h
    by_cases e : i = k
    · subst e; exact ⟨h2, h3, h6, h7⟩
    · exact wedsF_all k M1 h1 i (by omega)
theorem getD_all {α : Type} {P : α → Prop} {l : List α} {d : α} (h : ∀ j, j < l.length → P (l.getD j d)) : ∀ x ∈ l, P x := fun x hx => by
  obtain ⟨i, hi, rfl⟩ := List.getElem_of_mem hx
  have := h i hi
  simpa [hi] using this
theorem netE_yes1 {N : Nt} (h : netB N = true) : netE N = 0 := by unfold netE; rw [if_pos h]
theorem netE_no1 {N : Nt} (h : netB N = false) : netE N = 60 := by unfold netE; rw [if_neg (by rw [h]; decide)]

end Go.Proofs.YtoahbpdgbiachaaDoor

/-
  MATHS: where the marks of a region that may be are: each site's Id, each site's sub.
-/
namespace Go.Proofs.YtoahbpdgbiachaaDoor
open Go.RowKit Go.Lib Go.Deep
set_option linter.unusedVariables false
set_option linter.unusedSimpArgs false

/-- How often a number is among the first of a list. -/
def cntI (l : List Int) (x : Int) : Nat → Nat
  | 0 => 0
  | k + 1 => cntI l x k + (if l.getD k 0 = x then 1 else 0)
theorem mk_ne1 {x y : Int} (h : x ≠ y) : ((1, x, 0) : Mk) ≠ (1, y, 0) := fun e => h (by have := congrArg (fun z : Mk => z.2.1) e; simpa using this)
theorem mk_neF {a b c d e f : Int} (h : a ≠ d) : ((a, b, c) : Mk) ≠ (d, e, f) := fun q => h (congrArg Prod.fst q)
theorem takeF_keep {N : Nt} {place : Nat} {l : List Int} {M : Ms} {q : Mk} {v : Int} (h : mkF M q = some v) : ∀ k M', takeF N place l M k = some M' → mkF M' q = some v
  | 0, M', e => by injection e with e; subst e; exact h
  | k + 1, M', e => by
    obtain ⟨M1, h1, h2, h3, h4⟩ := takeF_step e
    have h5 := takeF_keep h k M1 h1
    subst h4
    rw [mkF_other _ _ (fun e => by rw [e, h3] at h5; cases h5)]
    exact h5
theorem takeF_other {N : Nt} {place : Nat} {l : List Int} {M : Ms} {a b c : Int} (ha : a ≠ 1) : ∀ k M', takeF N place l M k = some M' → mkF M' (a, b, c) = mkF M (a, b, c)
  | 0, M', e => by injection e with e; subst e; rfl
  | k + 1, M', e => by
    obtain ⟨M1, h1, h2, h3, h4⟩ := takeF_step e
    subst h4
    rw [mkF_other _ _ (mk_neF ha)]
    exact takeF_other ha k M1 h1
theorem takeF_cnt {N : Nt} {place : Nat} {l : List Int} {M : Ms} (x : Int) : ∀ k M', takeF N place l M k = some M' →
    (mkF M' (1, x, 0) = mkF M (1, x, 0) ∧ cntI l x k = 0) ∨ (mkF M (1, x, 0) = none ∧ mkF M' (1, x, 0) = some (place : Int) ∧ cntI l x k = 1)
  | 0, M', e => by injection e with e; subst e; exact .inl ⟨rfl, rfl⟩
  | k + 1, M', e => by
    obtain ⟨M1, h1, h2, h3, h4⟩ := takeF_step e
    subst h4
    by_cases hx : l.getD k 0 = x
    · rw [hx] at h3 ⊢
      have hc : cntI l x (k + 1) = cntI l x k + 1 := by rw [cntI, if_pos hx]
      rcases takeF_cnt x k M1 h1 with ⟨g1, g2⟩ | ⟨g1, g2, g3⟩
      · refine .inr ⟨by rw [← g1]; exact h3, mkF_same _ _ _, by rw [hc, g2]⟩
      · rw [g2] at h3; cases h3
    · have hc : cntI l x (k + 1) = cntI l x k := by rw [cntI, if_neg hx]; rfl
      rw [mkF_other _ _ (mk_ne1 (Ne.symm hx)), hc]
      exact takeF_cnt x k M1 h1
theorem subsF_keep {N : Nt} {M : Ms} {q : Mk} {v : Int} (h : mkF M q = some v) : ∀ k M', subsF N M k = some M' → mkF M' q = some v
  | 0, M', e => by injection e with e; subst e; exact h
  | k + 1, M', e => by
    obtain ⟨M1, h1, h2, h3⟩ := subsF_step e
    exact takeF_keep (subsF_keep h k M1 h1) _ _ h2
theorem subsF_other {N : Nt} {M : Ms} {a b c : Int} (ha : a ≠ 1) : ∀ k M', subsF N M k = some M' → mkF M' (a, b, c) = mkF M (a, b, c)
  | 0, M', e => by injection e with e; subst e; rfl
  | k + 1, M', e => by
    obtain ⟨M1, h1, h2, h3⟩ := subsF_step e
    rw [takeF_other ha _ _ h2]
    exact subsF_other ha k M1 h1
/-- How often a site is in a sub. -/
def inSub (N : Nt) (k : Nat) (x : Int) : Nat := cntI (N.subs.getD k u0).sites x (N.subs.getD k u0).sites.length
def OneSub (N : Nt) (K : Nat) (M : Ms) (x : Int) : Prop := (mkF M (1, x, 0) = none ∧ ∀ j, j < K → inSub N j x = 0) ∨ (∃ u : Nat, u < K ∧ mkF M (1, x, 0) = some (u : Int) ∧ inSub N u x = 1 ∧ ∀ j, j < K → j ≠ u → inSub N j x = 0)
theorem subsF_one {N : Nt} {M : Ms} (hM : ∀ x, mkF M (1, x, 0) = none) : ∀ k M', subsF N M k = some M' → (∀ x, OneSub N k M' x) ∧ ∀ j, j < k → mkF M' (1, (N.subs.getD j u0).critical, 0) = some (j : Int)
  | 0, M', e => by injection e with e; subst e; exact ⟨fun x => .inl ⟨hM x, fun j hj => by omega⟩, fun j hj => by omega⟩
  | k + 1, M', e => by
    obtain ⟨M1, h1, h2, h3⟩ := subsF_step e
    obtain ⟨g1, g2⟩ := subsF_one hM k M1 h1
    refine ⟨fun x => ?_, fun j hj => ?_⟩
    · have hq : inSub N k x = cntI (N.subs.getD k u0).sites x (N.subs.getD k u0).sites.length := rfl
      rcases takeF_cnt x _ _ h2 with ⟨a1, a2⟩ | ⟨a1, a2, a3⟩
      · rw [← hq] at a2
        rcases g1 x with ⟨b1, b2⟩ | ⟨u, b0, b1, b2, b3⟩
        · exact .inl ⟨by rw [a1]; exact b1, fun j hj => by
            by_cases e : j = k
            · subst e; exact a2
            · exact b2 j (by omega)⟩
        · exact .inr ⟨u, by omega, by rw [a1]; exact b1, b2, fun j hj hne => by
            by_cases e : j = k
            · subst e; exact a2
            · exact b3 j (by omega) hne⟩
      · rw [← hq] at a3
        rcases g1 x with ⟨b1, b2⟩ | ⟨u, b0, b1, b2, b3⟩
        · exact .inr ⟨k, by omega, a2, a3, fun j hj hne => b2 j (by omega)⟩
        · rw [a1] at b1; cases b1
    · by_cases e : j = k
      · subst e; exact h3
      · exact takeF_keep (g2 j (by omega)) _ _ h2
theorem wedsF_keep {N : Nt} {M : Ms} {q : Mk} {v : Int} (h : mkF M q = some v) : ∀ k M', wedsF N M k = some M' → mkF M' q = some v
  | 0, M', e => by injection e with e; subst e; exact h
  | k + 1, M', e => by
    obtain ⟨M1, h1, h2, h3, h4, h5, h6, h7⟩ := wedsF_step e
    have h8 := wedsF_keep h k M1 h1
    subst h5
    rw [mkF_other _ _ (fun e => by rw [e, h4] at h8; cases h8)]
    exact h8
theorem wedsF_other {N : Nt} {M : Ms} {a b c : Int} (ha : a ≠ 2) : ∀ k M', wedsF N M k = some M' → mkF M' (a, b, c) = mkF M (a, b, c)
  | 0, M', e => by injection e with e; subst e; rfl
  | k + 1, M', e => by
    obtain ⟨M1, h1, h2, h3, h4, h5, h6, h7⟩ := wedsF_step e
    subst h5
    rw [mkF_other _ _ (mk_neF ha)]
    exact wedsF_other ha k M1 h1
theorem sitesF_id {N : Nt} : ∀ k M, sitesF N k = some M → (∀ i, i < k → mkF M (0, (N.sites.getD i s0).id, 0) = some (i : Int)) ∧ ∀ x, (∀ i, i < k → (N.sites.getD i s0).id ≠ x) → mkF M (0, x, 0) = none
  | 0, M, e => by injection e with e; subst e; exact ⟨fun i hi => by omega, fun x _ => rfl⟩
  | k + 1, M, e => by
    obtain ⟨M1, h1, h2, h3, h4⟩ := sitesF_step e
    obtain ⟨g1, g2⟩ := sitesF_id k M1 h1
    subst h4
    refine ⟨fun i hi => ?_, fun x hx => ?_⟩
    · by_cases e : i = k
      · subst e; exact mkF_same _ _ _
      · have h5 := g1 i (by omega)
        rw [mkF_other _ _ (fun e => by rw [e, h3] at h5; cases h5)]
        exact h5
    · rw [mkF_other _ _ (fun e => hx k (by omega) (by have := congrArg (fun z : Mk => z.2.1) e; simpa using this.symm))]
      exact g2 x (fun i hi => hx i (by omega))
/-- What a region that may be tells of its parts. -/
structure Keyed (N : Nt) : Prop where
  id : ∀ i, i < N.sites.length → findV N (0, (N.sites.getD i s0).id, 0) = ((i : Int), 0)
  noId : ∀ x, (∀ i, i < N.sites.length → (N.sites.getD i s0).id ≠ x) → findV N (0, x, 0) = (0, 2)
  sub : ∀ i : Nat, i < N.sites.length → ∃ u : Nat, u < N.subs.length ∧ findV N (1, (i : Int), 0) = ((u : Int), 0) ∧ inSub N u i = 1 ∧ ∀ j, j < N.subs.length → j ≠ u → inSub N j i = 0
  noSub : ∀ x : Int, inB x 0 ((N.sites.length : Int) - 1) = false → findV N (1, x, 0) = (0, 2) ∧ ∀ j, j < N.subs.length → inSub N j x = 0
  crit : ∀ k, k < N.subs.length → findV N (1, (N.subs.getD k u0).critical, 0) = ((k : Int), 0)
theorem keyed_may {N : Nt} (h : netB N = true) : Keyed N := by
  unfold netB at h
  cases hl : lookF N with
  | none => rw [hl] at h; cases h
  | some M =>
    obtain ⟨hc, M1, M2, h1, h2, h3, h4, h5⟩ := lookF_parts hl
    have hi0 : InR N M1 := fun x p hx => by rw [sitesF_one x _ _ h1] at hx; cases hx
    obtain ⟨hin, _⟩ := subsF_inr hi0 _ _ h2
    have hF : ∀ q, findV N q = match mkF M q with
      | none => (0, 2)
      | some v => (v, 0) := fun q => by unfold findV; first | (rw [hl]; done) | (rw [hl]; rfl)
    obtain ⟨a1, a2⟩ := sitesF_id _ _ h1
    obtain ⟨b1, b2⟩ := subsF_one (fun x => sitesF_one x _ _ h1) _ _ h2
    have e0 : ∀ x, mkF M (0, x, 0) = mkF M1 (0, x, 0) := fun x => by rw [wedsF_other (by decide) _ _ h5, subsF_other (by decide) _ _ h2]
    have e1 : ∀ x, mkF M (1, x, 0) = mkF M2 (1, x, 0) := fun x => wedsF_other (by decide) _ _ h5
    refine ⟨fun i hi => ?_, fun x hx => ?_, fun i hi => ?_, fun x hx => ?_, fun k hk => ?_⟩
    · rw [hF, e0, a1 i hi]
    · rw [hF, e0, a2 x hx]
    · have hp := allB_iff.1 h3 i hi
      rcases b1 (i : Int) with ⟨c1, c2⟩ | ⟨u, c0, c1, c2, c3⟩
      · rw [c1] at hp; cases hp
      · exact ⟨u, c0, by rw [hF, e1, c1], c2, c3⟩
    · rcases b1 x with ⟨c1, c2⟩ | ⟨u, c0, c1, c2, c3⟩
      · exact ⟨by rw [hF, e1, c1], c2⟩
      · rw [hin x _ c1] at hx; cases hx
    · rw [hF, e1, b2 k hk]

end Go.Proofs.YtoahbpdgbiachaaDoor

/-
  MATHS: what the document holds a region to, condition by condition, and what the program does: they are one.
-/
namespace Go.Proofs.YtoahbpdgbiachaaDoor
open Go.RowKit Go.Lib Go.Deep
set_option linter.unusedVariables false
set_option linter.unusedSimpArgs false

theorem sitesF_iff {N : Nt} : ∀ k, (sitesF N k).isSome = true ↔ ∀ i, i < k → siteB (N.sites.getD i s0) = true ∧ ∀ j, j < i → (N.sites.getD j s0).id ≠ (N.sites.getD i s0).id
  | 0 => ⟨fun _ i hi => by omega, fun _ => rfl⟩
  | k + 1 => by
    constructor
    · intro h i hi
      cases hM : sitesF N (k + 1) with
      | none => rw [hM] at h; cases h
      | some M =>
        obtain ⟨M1, h1, h2, h3, h4⟩ := sitesF_step hM
        by_cases e : i = k
        · subst e
          refine ⟨h2, fun j hj e => ?_⟩
          have := (sitesF_id i M1 h1).1 j hj
          rw [e, h3] at this
          cases this
        · exact (sitesF_iff k).1 (by rw [h1]; rfl) i (by omega)
    · intro h
      have hk := (sitesF_iff k).2 (fun i hi => h i (by omega))
      cases hM : sitesF N k with
      | none => rw [hM] at hk; cases hk
      | some M =>
        rw [sitesF, hM]
        have h3 := (sitesF_id k M hM).2 (N.sites.getD k s0).id (fun i hi => (h k (by omega)).2 i hi)
        simp only [(h k (by omega)).1, if_true, putF_new h3]
        rfl
theorem sitesF_two {N : Nt} (a b : Int) : ∀ k M, sitesF N k = some M → mkF M (2, a, b) = none
  | 0, M, h => by injection h with h; subst h; rfl
  | k + 1, M, h => by
    obtain ⟨M1, h1, h2, _, h4⟩ := sitesF_step h
    subst h4
    rw [mkF_other _ _ (mk_neF (by decide))]
    exact sitesF_two a b k M1 h1
structure Seen (N : Nt) (M : Ms) (s : List Int) : Prop where
  mem : ∀ x, x ∈ s ↔ (mkF M (1, x, 0)).isSome = true
  many : s.length = manyP N M
def Both (N : Nt) (a : Option Ms) (b : Option (List Int)) : Prop := match a, b with
  | none, none => True
  | some M, some s => Seen N M s
  | _, _ => False
theorem take_both {N : Nt} {place : Nat} {l : List Int} {M : Ms} {s : List Int} (h : Seen N M s) : ∀ k, Both N (takeF N place l M k) (rtakeF N l s k)
  | 0 => h
  | k + 1 => by
    have ih := take_both (place := place) (l := l) h k
    rw [takeF, rtakeF]
    cases e1 : takeF N place l M k with
    | none =>
      cases e2 : rtakeF N l s k with
      | none => trivial
      | some s' => rw [e1, e2] at ih; exact ih.elim
    | some M' =>
      cases e2 : rtakeF N l s k with
      | none => rw [e1, e2] at ih; exact ih.elim
      | some s' =>
        rw [e1, e2] at ih
        have ih : Seen N M' s' := ih
        simp only
        generalize l.getD k 0 = x
        cases hin : inB x 0 ((N.sites.length : Int) - 1) with
        | false => simp [Both]
        | true =>
          cases hf : mkF M' (1, x, 0) with
          | some v =>
            have hm : x ∈ s' := (ih.mem x).2 (by rw [hf]; rfl)
            rw [putF_old hf]
            simp [hm, Both]
          | none =>
            have hm : x ∉ s' := fun hx => by have := (ih.mem x).1 hx; rw [hf] at this; cases this
            rw [putF_new hf]
            simp only [hm, if_true, not_false_iff, and_self]
            refine ⟨fun y => ?_, ?_⟩
            · by_cases e : y = x
              · subst e
                rw [mkF_same]
                simp
              · rw [mkF_other _ _ (mk_ne1 e), ← ih.mem y]
                simp [e]
            · rw [manyP_put hin hf, List.length_append, ih.many]
              rfl
theorem cntI_mem {x : Int} {l : List Int} : ∀ k, k ≤ l.length → (cntI l x k ≠ 0 ↔ ∃ i, i < k ∧ l.getD i 0 = x)
  | 0, _ => ⟨fun h => absurd rfl h, fun ⟨i, hi, _⟩ => by omega⟩
  | k + 1, hk => by
    have ih := cntI_mem (x := x) (l := l) k (by omega)
    rw [cntI]
    by_cases e : l.getD k 0 = x
    · rw [if_pos e]
      exact ⟨fun _ => ⟨k, by omega, e⟩, fun _ => by omega⟩
    · rw [if_neg e]
      constructor
      · intro h
        obtain ⟨i, hi, he⟩ := ih.1 (by omega)
        exact ⟨i, by omega, he⟩
      · rintro ⟨i, hi, he⟩
        have : i ≠ k := fun q => e (by rw [← q]; exact he)
        have := ih.2 ⟨i, by omega, he⟩
        omega
theorem mem_getD {x : Int} {l : List Int} : x ∈ l ↔ ∃ i, i < l.length ∧ l.getD i 0 = x := by
  constructor
  · intro h
    obtain ⟨i, hi, rfl⟩ := List.getElem_of_mem h
    exact ⟨i, hi, by simp [hi]⟩
  · rintro ⟨i, hi, rfl⟩
    simp [hi]
theorem cntI_in {x : Int} {l : List Int} : x ∈ l ↔ cntI l x l.length ≠ 0 := by rw [mem_getD, cntI_mem _ (Nat.le_refl _)]
theorem subs_both {N : Nt} {M : Ms} (hM : ∀ x, mkF M (1, x, 0) = none) (h0 : manyP N M = 0) : ∀ k, Both N (subsF N M k) (rsubsF N k)
  | 0 => ⟨fun x => by rw [hM]; simp, by rw [h0]; rfl⟩
  | k + 1 => by
    have ih := subs_both hM h0 k
    rw [subsF, rsubsF]
    cases e1 : subsF N M k with
    | none =>
      cases e2 : rsubsF N k with
      | none => trivial
      | some s' => rw [e1, e2] at ih; exact ih.elim
    | some M1 =>
      cases e2 : rsubsF N k with
      | none => rw [e1, e2] at ih; exact ih.elim
      | some s1 =>
        rw [e1, e2] at ih
        have ih : Seen N M1 s1 := ih
        simp only
        have ht := take_both (place := k) (l := (N.subs.getD k u0).sites) ih (N.subs.getD k u0).sites.length
        cases e3 : takeF N k (N.subs.getD k u0).sites M1 (N.subs.getD k u0).sites.length with
        | none =>
          cases e4 : rtakeF N (N.subs.getD k u0).sites s1 (N.subs.getD k u0).sites.length with
          | none => trivial
          | some s' => rw [e3, e4] at ht; exact ht.elim
        | some M2 =>
          cases e4 : rtakeF N (N.subs.getD k u0).sites s1 (N.subs.getD k u0).sites.length with
          | none => rw [e3, e4] at ht; exact ht.elim
          | some s2 =>
            rw [e3, e4] at ht
            simp only
            have hc : mkF M2 (1, (N.subs.getD k u0).critical, 0) = some (k : Int) ↔ (N.subs.getD k u0).critical ∈ (N.subs.getD k u0).sites := by
              rw [cntI_in]
              rcases takeF_cnt (N.subs.getD k u0).critical _ _ e3 with ⟨a1, a2⟩ | ⟨a1, a2, a3⟩
              · rw [a2, a1]
                refine ⟨fun h => ?_, fun h => absurd rfl h⟩
                rcases (subsF_one hM k M1 e1).1 (N.subs.getD k u0).critical with ⟨b1, _⟩ | ⟨u, b0, b1, _⟩
                · rw [b1] at h; cases h
                · rw [b1] at h; injection h with h; omega
              · rw [a2, a3]; exact ⟨fun _ => by omega, fun _ => rfl⟩
            by_cases hcc : (N.subs.getD k u0).critical ∈ (N.subs.getD k u0).sites
            · rw [if_pos hcc, if_pos (hc.2 hcc)]; exact ht
            · rw [if_neg hcc, if_neg (fun q => hcc (hc.1 q))]; trivial
theorem placed_iff {N : Nt} {M : Ms} : placedB N M = true ↔ manyP N M = N.sites.length := by
  unfold placedB manyP
  rw [allB_iff]
  have h := List.countP_eq_length (p := fun i : Nat => (mkF M (1, (i : Int), 0)).isSome) (l := List.range N.sites.length)
  rw [List.length_range] at h
  rw [h]
  simp
theorem wedsF_key {N : Nt} {M : Ms} (hM : ∀ a b, mkF M (2, a, b) = none) (a b : Int) : ∀ k M', wedsF N M k = some M' → ((mkF M' (2, a, b)).isSome = true ↔ ∃ i, i < k ∧ (N.weds.getD i d0).a = a ∧ (N.weds.getD i d0).b = b)
  | 0, M', e => by injection e with e; subst e; rw [hM]; simp
  | k + 1, M', e => by
    obtain ⟨M1, h1, h2, h3, h4, h5, h6, h7⟩ := wedsF_step e
    have ih := wedsF_key hM a b k M1 h1
    subst h5
    by_cases e : ((2, a, b) : Mk) = (2, (N.weds.getD k d0).a, (N.weds.getD k d0).b)
    · have ea := congrArg (fun z : Mk => z.2.1) e
      have eb := congrArg (fun z : Mk => z.2.2) e
      simp only at ea eb
      rw [e, mkF_same]
      exact ⟨fun _ => ⟨k, by omega, ea.symm, eb.symm⟩, fun _ => rfl⟩
    · rw [mkF_other _ _ e, ih]
      constructor
      · rintro ⟨i, hi, h⟩; exact ⟨i, by omega, h⟩
      · rintro ⟨i, hi, h⟩
        have : i ≠ k := fun q => e (by rw [← q, h.1, h.2])
        exact ⟨i, by omega, h⟩
theorem rwedB_iff {N : Nt} {i : Nat} : rwedB N i = true ↔ (inB (N.weds.getD i d0).a 0 ((N.subs.length : Int) - 1) = true ∧ inB (N.weds.getD i d0).b ((N.weds.getD i d0).a + 1) ((N.subs.length : Int) - 1) = true) ∧ (timeB (N.weds.getD i d0).votes = true ∧ offsetsB N (N.weds.getD i d0).offsets = true) ∧ ∀ k, k < i → ¬ ((N.weds.getD k d0).a = (N.weds.getD i d0).a ∧ (N.weds.getD k d0).b = (N.weds.getD i d0).b) := by
  unfold rwedB
  simp only [Bool.and_eq_true, decide_eq_true_eq, allB_iff, Bool.not_eq_true', Bool.and_eq_false_iff, decide_eq_false_iff_not, inB_iff]
  constructor
  · rintro ⟨h1, h2, h3, h4, h5, h6⟩
    refine ⟨⟨by omega, by omega⟩, ⟨h4, h5⟩, fun k hk ⟨ha, hb⟩ => ?_⟩
    rcases h6 k hk with h | h
    · exact h ha
    · exact h hb
  · rintro ⟨⟨h1, h2⟩, ⟨h4, h5⟩, h6⟩
    refine ⟨by omega, by omega, by omega, h4, h5, fun k hk => ?_⟩
    by_cases ha : (N.weds.getD k d0).a = (N.weds.getD i d0).a
    · exact .inr (fun hb => h6 k hk ⟨ha, hb⟩)
    · exact .inl ha
theorem wedsF_iff {N : Nt} {M : Ms} (hM : ∀ a b, mkF M (2, a, b) = none) : ∀ k, (wedsF N M k).isSome = true ↔ ∀ i, i < k → rwedB N i = true
  | 0 => ⟨fun _ i hi => by omega, fun _ => rfl⟩
  | k + 1 => by
    constructor
    · intro h i hi
      cases hW : wedsF N M (k + 1) with
      | none => rw [hW] at h; cases h
      | some M' =>
        obtain ⟨M1, h1, h2, h3, h4, h5, h6, h7⟩ := wedsF_step hW
        by_cases e : i = k
        · subst e
          refine rwedB_iff.2 ⟨⟨h2, h3⟩, ⟨h6, h7⟩, fun j hj hq => ?_⟩
          have := (wedsF_key hM _ _ i M1 h1).2 ⟨j, hj, hq⟩
          rw [h4] at this
          cases this
        · exact (wedsF_iff hM k).1 (by rw [h1]; rfl) i (by omega)
    · intro h
      have hk := (wedsF_iff hM k).2 (fun i hi => h i (by omega))
      cases hW : wedsF N M k with
      | none => rw [hW] at hk; cases hk
      | some M1 =>
        obtain ⟨⟨a1, a2⟩, ⟨a3, a4⟩, a5⟩ := rwedB_iff.1 (h k (by omega))
        have hf : mkF M1 (2, (N.weds.getD k d0).a, (N.weds.getD k d0).b) = none := by
          cases e : mkF M1 (2, (N.weds.getD k d0).a, (N.weds.getD k d0).b) with
          | none => rfl
          | some v =>
            obtain ⟨j, hj, hq⟩ := (wedsF_key hM _ _ k M1 hW).1 (by rw [e]; rfl)
            exact absurd hq (a5 j hj)
        rw [wedsF, hW]
        simp only [a1, a2, a3, a4, Bool.and_self, if_true, putF_new hf]
        rfl
theorem rnet_eq (N : Nt) : rnetB N = netB N := by
  rw [Bool.eq_iff_iff]
  unfold rnetB netB
  rw [Bool.and_eq_true, Bool.and_eq_true, Bool.and_eq_true]
  constructor
  · rintro ⟨ho, hs, hu, hw⟩
    unfold rownB at ho
    unfold rsubsB at hu
    unfold rwedsB at hw
    rw [Bool.and_eq_true] at hu hw
    simp only [Bool.and_eq_true] at ho
    obtain ⟨o1, o2, o3, o4, o5, o6⟩ := ho
    rw [allB_iff] at hs
    have hs' : ∀ i, i < N.sites.length → siteB (N.sites.getD i s0) = true ∧ ((N.sites.getD i s0).low ≤ N.low ∧ N.high ≤ (N.sites.getD i s0).high) ∧ ∀ j, j < i → (N.sites.getD j s0).id ≠ (N.sites.getD i s0).id := fun i hi => by
      have := hs i hi
      unfold rsiteB at this
      simp only [Bool.and_eq_true, decide_eq_true_eq, allB_iff, Bool.not_eq_true', decide_eq_false_iff_not] at this
      exact ⟨this.1, ⟨this.2.1, this.2.2.1⟩, this.2.2.2⟩
    have h1 := (sitesF_iff N.sites.length).2 (fun i hi => ⟨(hs' i hi).1, (hs' i hi).2.2⟩)
    cases e1 : sitesF N N.sites.length with
    | none => rw [e1] at h1; cases h1
    | some M1 =>
      have hn1 : ∀ x, mkF M1 (1, x, 0) = none := fun x => sitesF_one x _ _ e1
      have hm0 : manyP N M1 = 0 := by
        unfold manyP
        rw [List.countP_eq_zero]
        intro i _
        rw [hn1]
        decide
      have hb := subs_both hn1 hm0 N.subs.length
      cases e2 : rsubsF N N.subs.length with
      | none => rw [e2] at hu; cases hu.2
      | some s =>
        rw [e2] at hu hb
        cases e3 : subsF N M1 N.subs.length with
        | none => rw [e3] at hb; exact hb.elim
        | some M2 =>
          rw [e3] at hb
          have hb : Seen N M2 s := hb
          have hp : placedB N M2 = true := placed_iff.2 (by rw [← hb.many]; exact of_decide_eq_true hu.2)
          have hc : ncyclesB N = true := by
            unfold ncyclesB
            simp only [Bool.and_eq_true, allB_iff]
            exact ⟨⟨⟨⟨⟨o2, o3⟩, o4⟩, o5⟩, o6⟩, fun i hi => ⟨decide_eq_true (hs' i hi).2.1.1, decide_eq_true (hs' i hi).2.1.2⟩⟩
          have h2 : ∀ a b, mkF M2 (2, a, b) = none := fun a b => by rw [subsF_other (by decide) _ _ e3]; exact sitesF_two a b _ _ e1
          have hcn : ncountsB N = true := by unfold ncountsB; rw [o1, hu.1, hw.1]; rfl
          unfold lookF
          rw [if_pos hcn, e1]
          simp only [e3]
          rw [if_pos (by rw [hp, hc]; rfl)]
          exact (wedsF_iff h2 _).2 (allB_iff.1 hw.2)
  · intro h
    cases hl : lookF N with
    | none => rw [hl] at h; cases h
    | some M =>
      obtain ⟨hc, M1, M2, h1, h2, h3, h4, h5⟩ := lookF_parts hl
      unfold ncountsB at hc
      rw [Bool.and_eq_true, Bool.and_eq_true] at hc
      have hn1 : ∀ x, mkF M1 (1, x, 0) = none := fun x => sitesF_one x _ _ h1
      have hm0 : manyP N M1 = 0 := by
        unfold manyP
        rw [List.countP_eq_zero]
        intro i _
        rw [hn1]
        decide
      have hb := subs_both hn1 hm0 N.subs.length
      rw [h2] at hb
      have h6 : ∀ a b, mkF M2 (2, a, b) = none := fun a b => by rw [subsF_other (by decide) _ _ h2]; exact sitesF_two a b _ _ h1
      unfold ncyclesB at h4
      simp only [Bool.and_eq_true, allB_iff] at h4
      obtain ⟨⟨⟨⟨⟨o2, o3⟩, o4⟩, o5⟩, o6⟩, o7⟩ := h4
      refine ⟨?_, ?_, ?_, ?_⟩
      · unfold rownB
        rw [hc.1.1, o2, o3, o4, o5, o6]
        rfl
      · rw [allB_iff]
        intro i hi
        have hi1 := (sitesF_iff N.sites.length).1 (by rw [h1]; rfl) i hi
        unfold rsiteB
        simp only [Bool.and_eq_true, allB_iff, Bool.not_eq_true', decide_eq_false_iff_not]
        exact ⟨hi1.1, (o7 i hi).1, (o7 i hi).2, hi1.2⟩
      · unfold rsubsB
        rw [hc.1.2]
        cases e2 : rsubsF N N.subs.length with
        | none => rw [e2] at hb; exact hb.elim
        | some s =>
          rw [e2] at hb
          have hb : Seen N M2 s := hb
          simp only [Bool.true_and]
          exact decide_eq_true (by rw [hb.many]; exact placed_iff.1 h3)
      · unfold rwedsB
        rw [hc.2, Bool.true_and, allB_iff]
        exact (wedsF_iff h6 _).1 (by rw [h5]; rfl)
def rnetE (N : Nt) : Int := if rnetB N = true then 0 else 60
theorem rnetE_eq (N : Nt) : rnetE N = netE N := by unfold rnetE netE; rw [rnet_eq]

end Go.Proofs.YtoahbpdgbiachaaDoor

/-
  THE DOCUMENT'S OWN ANSWER: what a region is held to.
-/
namespace Go.Proofs.YtoahbpdgbiachaaDoor
open Go.RowKit Go.Lib Go.Deep
set_option linter.unusedVariables false
set_option linter.unusedSimpArgs false

theorem rnetE_no {N : Nt} (h : rnetB N = false) : rnetE N = 60 := by unfold rnetE; rw [if_neg (by rw [h]; decide)]
theorem rnetE_own {N : Nt} (h : rownB N = false) : rnetE N = 60 := rnetE_no (by unfold rnetB; rw [h]; rfl)
theorem rnetE_site {N : Nt} {k : Nat} (hk : k < N.sites.length) (h : rsiteB N k = false) : rnetE N = 60 := rnetE_no (by unfold rnetB; rw [allB_no hk h]; simp)
set_option maxRecDepth 100000 in
set_option maxHeartbeats 8000000 in
theorem rcheck6r {Y : Na} {N : Nt} {w : World} (h : NetAt w Y N) (hF : NFew N) : Calls Tryd.prog 17 #[netV Y N] w fun e w' => e = .returned (.int .i64 (rnetE N)) ∧ Kept w w' none := by
  have hkA : Kept w (w.alloc (.cells #[.slice Y.s N.sites.length Y.sc, .slice Y.u N.subs.length Y.uc, .slice Y.d N.weds.length Y.dc, .int .i64 N.low, .int .i64 N.high, .int .i64 N.step] 26)) none := Kept.alloc _ _ _ _ _
  have HNB := Hid.mk' (nbx_alloc h 26)
  have HK := Hid.mk' hkA
  have HF := Hid.mk' hF
  clear h hkA hF
  go_enter Tryd.func17, Tryd.ntmps17
  cases b1 : inB N.sites.length 1 12 with
  | false =>
    have HE : Hid (rnetE N = 60) := rnetE_own (by unfold rownB; rw [b1]; simp)
    go_wp2_with (go_at_call 37; refine (rin6_is (by assumption)).mono ?_; rintro e w9 ⟨rfl, rfl⟩)
    go_ret
    exact ⟨by rw [HE.out]; rfl, HK.out⟩
  | true =>
  cases b2 : inB N.low 1 1048576 with
  | false =>
    have HE : Hid (rnetE N = 60) := rnetE_own (by unfold rownB; rw [show timeB N.low = false from b2]; simp)
    go_wp2_with (go_at_call 37; refine (rin6_is (by assumption)).mono ?_; rintro e w9 ⟨rfl, rfl⟩)
    go_ret
    exact ⟨by rw [HE.out]; rfl, HK.out⟩
  | true =>
  cases b3 : inB N.high N.low 1048576 with
  | false =>
    have HE : Hid (rnetE N = 60) := rnetE_own (by unfold rownB; rw [b3]; simp)
    go_wp2_with (go_at_call 37; refine (rin6_is (by assumption)).mono ?_; rintro e w9 ⟨rfl, rfl⟩)
    go_ret
    exact ⟨by rw [HE.out]; rfl, HK.out⟩
  | true =>
  cases b4 : inB N.step 1 1048576 with
  | false =>
    have HE : Hid (rnetE N = 60) := rnetE_own (by unfold rownB; rw [show timeB N.step = false from b4]; simp)
    go_wp2_with (go_at_call 37; refine (rin6_is (by assumption)).mono ?_; rintro e w9 ⟨rfl, rfl⟩)
    go_ret
    exact ⟨by rw [HE.out]; rfl, HK.out⟩
  | true =>
  have hs12 := inB_iff.1 b1
  have hlo := inB_iff.1 b2
  have hhi := inB_iff.1 b3
  have hst := inB_iff.1 b4
  have hnz : (N.step == 0) = false := by rw [beq_eq_false_iff_ne]; omega
  have hnz1 : ¬ N.step = 0 := by omega
  have hwr : IntKind.i64.wrap (N.high - N.low) = N.high - N.low := wrap_in (by omega) (by omega)
  have htm : (N.high - N.low).tmod N.step = (N.high - N.low) % N.step := Int.tmod_eq_emod_of_nonneg (by omega)
  have hq0 : 0 ≤ (N.high - N.low) / N.step := Int.ediv_nonneg (by omega) (by omega)
  have hq1 : (N.high - N.low) / N.step ≤ N.high - N.low := Int.ediv_le_self _ (by omega)
  have htd : (N.high - N.low).tdiv N.step = (N.high - N.low) / N.step := Int.tdiv_eq_ediv_of_nonneg (by omega)
  have htw : IntKind.i64.wrap ((N.high - N.low) / N.step) = (N.high - N.low) / N.step := wrap_in (by omega) (by omega)
  have HOW : Hid (rownB N = (decide ((N.high - N.low) % N.step = 0) && decide ((N.high - N.low) / N.step ≤ 64))) := by
    show rownB N = _
    unfold rownB
    rw [b1, show timeB N.low = true from b2, b3, show timeB N.step = true from b4]
    simp
  generalize hrm : (N.high - N.low) % N.step = RM at *
  generalize hqt : (N.high - N.low) / N.step = QT at *
  by_cases h4 : RM = 0
  case neg =>
    have HE : Hid (rnetE N = 60) := rnetE_own (by rw [HOW.out, decide_eq_false h4]; rfl)
    go_wp2_with (go_at_call 37; refine (rin6_is (by assumption)).mono ?_; rintro e w9 ⟨rfl, rfl⟩)
    go_ret
    exact ⟨by rw [HE.out]; rfl, HK.out⟩
  by_cases h5 : QT ≤ 64
  case neg =>
    have h5' : 64 < QT := by omega
    have HE : Hid (rnetE N = 60) := rnetE_own (by rw [HOW.out, decide_eq_false h5]; simp)
    go_wp2_with (go_at_call 37; refine (rin6_is (by assumption)).mono ?_; rintro e w9 ⟨rfl, rfl⟩)
    go_ret
    exact ⟨by rw [HE.out]; rfl, HK.out⟩
  have h5' : ¬ 64 < QT := by omega
  have HOY : Hid (rownB N = true) := by show rownB N = true; rw [HOW.out, decide_eq_true h4, decide_eq_true h5]; rfl
  go_wp2_with (go_at_call 37; refine (rin6_is (by assumption)).mono ?_; rintro e w9 ⟨rfl, rfl⟩)
  clear hnz hnz1 hwr htm hq0 hq1 htd htw hrm hqt h4 h5 h5' HOW
  generalize hW : (w.alloc (.cells #[.slice Y.s N.sites.length Y.sc, .slice Y.u N.subs.length Y.uc, .slice Y.d N.weds.length Y.dc, .int .i64 N.low, .int .i64 N.high, .int .i64 N.step] 26)) = W at *
  clear hW
  go_loopw [3] (fun i wr => ∃ k : Nat, k ≤ N.sites.length ∧ i = .int .i64 k ∧ Hid (∀ j, j < k → rsiteB N j = true) ∧ Kept W wr none) (fun i _ => N.sites.length - (intOf i).toNat)
  case atStart => exact ⟨0, Nat.zero_le _, rfl, (fun j hj => by omega), Kept.refl _ _⟩
  case round =>
    obtain ⟨wo, hwo⟩ : ∃ wo, wo = wr := ⟨wr, rfl⟩
    subst hwo
    obtain ⟨k, hk, rfl, HJ, hkr⟩ := hrel
    obtain ⟨c0, c1, c2, c3, c4, c5, _⟩ := HNB.out.kept hkr
    by_cases hlt : k < N.sites.length
    · obtain ⟨sb, so, es, _, hc⟩ := (HNB.out.kept hkr).net.s1.at_ (by omega)
      rw [es] at c0
      have q0 := hc k hlt 0 (by omega)
      have q1 := hc k hlt 1 (by omega)
      have q2 := hc k hlt 2 (by omega)
      have q3 := hc k hlt 3 (by omega)
      have q4 := hc k hlt 4 (by omega)
      have q5 := hc k hlt 5 (by omega)
      have q6 := hc k hlt 6 (by omega)
      have q7 := hc k hlt 7 (by omega)
      have q8 := hc k hlt 8 (by omega)
      have q9 := hc k hlt 9 (by omega)
      have q10 := hc k hlt 10 (by omega)
      have q11 := hc k hlt 11 (by omega)
      have HES := Hid.mk' es
      have HSA := Hid.mk' ((HNB.out.kept hkr).net.s2 k hlt)
      have HNO : Hid (rsiteB N k = false → rnetE N = 60) := rnetE_site hlt
      have HRB : Hid (rsiteB N k = (siteB (N.sites.getD k s0) && (decide ((N.sites.getD k s0).low ≤ N.low) && (decide (N.high ≤ (N.sites.getD k s0).high) && allB k (fun j => !decide ((N.sites.getD j s0).id = (N.sites.getD k s0).id)))))) := rfl
      have HGD : Hid (∀ w', Kept W w' none → ∀ j, j < N.sites.length → w'.cell? ⟨sb, so + j * 12, none⟩ = some (.int .i64 (N.sites.getD j s0).id)) := fun w' q j hj => by
        obtain ⟨sb', so', es', _, hc'⟩ := (HNB.out.kept q).net.s1.at_ (by omega)
        rw [HES.out] at es'
        injection es' with es'
        injection es' with es1 es2
        subst es1 es2
        exact hc' j hj 0 (by omega)
      clear hc es
      generalize hS : N.sites.getD k s0 = S at *
      clear hS
      generalize Y.X k = Xk at *
      obtain ⟨xg, xgc, xa, xac, xb, xbc, xp, xpc, xe, xec, xl, xlc⟩ := Xk
      dsimp only [stV, Nat.add_zero] at q0 q1 q2 q3 q4 q5 q6 q7 q8 q9 q10 q11 HSA
      have hkB : Kept wo (wo.alloc (.cells #[.int .i64 S.id, .slice xg S.groups.length xgc, .slice xa S.apart.length xac, .slice xb S.between.length xbc, .slice xp S.phases.length xpc, .slice xe S.eyes.length xec, .int .i64 S.watch, .int .i64 S.feed, .int .i64 S.heal, .int .i64 S.low, .int .i64 S.high, .slice xl S.plans.length xlc] 48)) none := Kept.alloc _ _ _ _ _
      have KB := Hid.mk' (hkr.tr hkB)
      have HSAT := Hid.mk' (HSA.out.kept hkB)
      have HBX : Hid (∀ w', Kept (wo.alloc (.cells #[.int .i64 S.id, .slice xg S.groups.length xgc, .slice xa S.apart.length xac, .slice xb S.between.length xbc, .slice xp S.phases.length xpc, .slice xe S.eyes.length xec, .int .i64 S.watch, .int .i64 S.feed, .int .i64 S.heal, .int .i64 S.low, .int .i64 S.high, .slice xl S.plans.length xlc] 48)) w' none → w'.cell? ⟨wo.heap.size, 0, none⟩ = some (.int .i64 S.id) ∧ w'.cell? ⟨wo.heap.size, 9, none⟩ = some (.int .i64 S.low) ∧ w'.cell? ⟨wo.heap.size, 10, none⟩ = some (.int .i64 S.high)) := fun w' q => ⟨cell_kept0 (by simp [World.cell?_alloc_mark]) q, cell_kept0 (by simp [World.cell?_alloc_mark]) q, cell_kept0 (by simp [World.cell?_alloc_mark]) q⟩
      have hwl2 : w.heap.size < wo.heap.size := block_lt c0
      clear hkB HSA
      cases a1 : siteB S with
      | false =>
        have HCE := Hid.mk' (checkE_no a1)
        have HE := Hid.mk' (HNO.out (by rw [HRB.out, a1]; simp))
        go_wp2_with (go_at_call 38; have hn := rcheck_any (HSAT.out); rw [HCE.out] at hn; refine hn.mono ?_; rintro e w3 ⟨rfl, hk3⟩; have K3 := Hid.mk' (KB.out.tr hk3); have KQ := Hid.mk' hk3; clear hk3 c0 c1 c2 c3 c4 c5 q0 q1 q2 q3 q4 q5 q6 q7 q8 q9 q10 q11; obtain ⟨c0, c1, c2, c3, c4, c5, _⟩ := HNB.out.kept K3.out; obtain ⟨q0, q9, q10⟩ := HBX.out _ KQ.out)
        go_ret
        exact ⟨by rw [HE.out]; rfl, HK.out.tr K3.out⟩
      | true =>
      have HCE := Hid.mk' (checkE_yes a1)
      by_cases a2 : S.low ≤ N.low
      case neg =>
        have a2' : N.low < S.low := by omega
        have HE := Hid.mk' (HNO.out (by rw [HRB.out, decide_eq_false a2]; simp))
        go_wp2_with (go_at_call 38; have hn := rcheck_any (HSAT.out); rw [HCE.out] at hn; refine hn.mono ?_; rintro e w3 ⟨rfl, hk3⟩; have K3 := Hid.mk' (KB.out.tr hk3); have KQ := Hid.mk' hk3; clear hk3 c0 c1 c2 c3 c4 c5 q0 q1 q2 q3 q4 q5 q6 q7 q8 q9 q10 q11; obtain ⟨c0, c1, c2, c3, c4, c5, _⟩ := HNB.out.kept K3.out; obtain ⟨q0, q9, q10⟩ := HBX.out _ KQ.out)
        go_ret
        exact ⟨by rw [HE.out]; rfl, HK.out.tr K3.out⟩
      have a2' : ¬ N.low < S.low := by omega
      by_cases a3 : N.high ≤ S.high
      case neg =>
        have a3' : S.high < N.high := by omega
        have HE := Hid.mk' (HNO.out (by rw [HRB.out, decide_eq_false a3]; simp))
        go_wp2_with (go_at_call 38; have hn := rcheck_any (HSAT.out); rw [HCE.out] at hn; refine hn.mono ?_; rintro e w3 ⟨rfl, hk3⟩; have K3 := Hid.mk' (KB.out.tr hk3); have KQ := Hid.mk' hk3; clear hk3 c0 c1 c2 c3 c4 c5 q0 q1 q2 q3 q4 q5 q6 q7 q8 q9 q10 q11; obtain ⟨c0, c1, c2, c3, c4, c5, _⟩ := HNB.out.kept K3.out; obtain ⟨q0, q9, q10⟩ := HBX.out _ KQ.out)
        go_ret
        exact ⟨by rw [HE.out]; rfl, HK.out.tr K3.out⟩
      have a3' : ¬ S.high < N.high := by omega
      have HA : Hid (siteB S = true ∧ S.low ≤ N.low ∧ N.high ≤ S.high) := ⟨a1, a2, a3⟩
      go_wp2_with (go_at_call 38; have hn := rcheck_any (HSAT.out); rw [HCE.out] at hn; refine hn.mono ?_; rintro e w3 ⟨rfl, hk3⟩; have K3 := Hid.mk' (KB.out.tr hk3); have KQ := Hid.mk' hk3; clear hk3 c0 c1 c2 c3 c4 c5 q0 q1 q2 q3 q4 q5 q6 q7 q8 q9 q10 q11; obtain ⟨c0, c1, c2, c3, c4, c5, _⟩ := HNB.out.kept K3.out; obtain ⟨q0, q9, q10⟩ := HBX.out _ KQ.out)
      clear c0 c1 c2 c3 c4 c5 q0 q9 q10 a2' a3' a1
      have HBY := Hid.mk' (fun w' (q : Kept w3 w' none) => HBX.out w' (KQ.out.tr q))
      go_loopw [5] (fun q wr => ∃ j : Nat, j ≤ k ∧ q = .int .i64 j ∧ Hid (∀ t, t < j → (!decide ((N.sites.getD t s0).id = S.id)) = true) ∧ Kept w3 wr none) (fun q _ => k - (intOf q).toNat)
      case atStart => exact ⟨0, Nat.zero_le _, rfl, (fun j hj => by omega), Kept.refl _ _⟩
      case round =>
        obtain ⟨j, hj, rfl, HT, hkx⟩ := hrel
        obtain ⟨c0, c1, c2, c3, c4, c5, _⟩ := HNB.out.kept (K3.out.tr hkx)
        rw [HES.out] at c0
        by_cases hjl : j < k
        · have HNX : Hid ((!decide ((N.sites.getD j s0).id = S.id)) = false → rnetE N = 60) := fun q => HNO.out (by rw [HRB.out, allB_no hjl q]; simp)
          have HTS : Hid (∀ t, t < j + 1 → t ≠ j → (!decide ((N.sites.getD t s0).id = S.id)) = true) := fun t ht hne => HT.out t (by omega)
          have g0 : ∀ w', Kept wr w' none → w'.cell? ⟨wo.heap.size, 0, none⟩ = some (.int .i64 S.id) := fun w' q => (HBY.out w' (hkx.tr q)).1
          have g2 : ∀ w', Kept wr w' none → w'.cell? ⟨w.heap.size, 0, none⟩ = some (.slice (some ⟨sb, so, none⟩) N.sites.length Y.sc) := fun w' q => cell_kept0 c0 q
          have g3 : ∀ w', Kept wr w' none → w'.cell? ⟨sb, so + j * 12, none⟩ = some (.int .i64 (N.sites.getD j s0).id) := fun w' q => HGD.out w' ((K3.out.tr hkx).tr q) j (by omega)
          have hjN : j < N.sites.length := by omega
          generalize hE : (N.sites.getD j s0).id = E at *
          have HEE := Hid.mk' hE
          clear hE
          clear c0 c1 c2 c3 c4 c5
          by_cases ea : E = S.id
          · have HE := Hid.mk' (HNX.out (by rw [decide_eq_true ea]; rfl))
            rw [ea] at g3
            go_wp2
            refine Code.wp_mono (Q := Rg6 ?A1 wr) ?cont1 ?reg1
            case reg1 =>
              repeat (rename_i hh; clear hh)
              refine wp_region_held_drew (S := fun w' => Kept wr w' none) (by kernel_rfl) (Kept.tr (Kept.refl _ _) (Kept.drew _ _)) (fun hHeld => ?_)
              refine held_take (i := 0) (v := ?v2) rfl rfl (by kernel_rfl) (by kernel_rfl) (by kernel_rfl) (fun _ _ _ h => h) (Or.inl ⟨by rfl, ?hy2⟩) hHeld ?rest2
              case hy2 => first | (intro w hSw; (try dsimp only at hSw); go_simp; done) | (intro w hSw; (try dsimp only at hSw); go_simp; with_reducible rfl)
              try simp only [List.setIfInBounds_toArray, List.set_cons_zero, List.set_cons_succ]
              refine held_take (i := 1) (v := ?v3) rfl rfl (by kernel_rfl) (by kernel_rfl) (by kernel_rfl) (fun _ _ _ h => h) (Or.inl ⟨by rfl, ?hy3⟩) hHeld ?rest3
              case hy3 => first | (intro w hSw; (try dsimp only at hSw); go_simp; done) | (intro w hSw; (try dsimp only at hSw); go_simp; with_reducible rfl)
              try simp only [List.setIfInBounds_toArray, List.set_cons_zero, List.set_cons_succ]
              refine held_take (i := 2) (v := ?v4) rfl rfl (by kernel_rfl) (by kernel_rfl) (by kernel_rfl) (fun _ _ _ h => h) (Or.inl ⟨by rfl, ?hy4⟩) hHeld ?rest4
              case hy4 => first | (intro w hSw; (try dsimp only at hSw); go_simp; done) | (intro w hSw; (try dsimp only at hSw); go_simp; with_reducible rfl)
              try simp only [List.setIfInBounds_toArray, List.set_cons_zero, List.set_cons_succ]
              refine held_take (i := 3) (v := ?v5) rfl rfl (by kernel_rfl) (by kernel_rfl) (by kernel_rfl) (fun _ _ _ h => h) (Or.inl ⟨by rfl, ?hy5⟩) hHeld ?rest5
              case hy5 => first | (intro w hSw; (try dsimp only at hSw); go_simp; done) | (intro w hSw; (try dsimp only at hSw); go_simp; with_reducible rfl)
              try simp only [List.setIfInBounds_toArray, List.set_cons_zero, List.set_cons_succ]
              refine held_take (i := 4) (v := ?v6) rfl rfl (by kernel_rfl) (by kernel_rfl) (by kernel_rfl) (fun _ _ _ h => h) (Or.inl ⟨by rfl, ?hy6⟩) hHeld ?rest6
              case hy6 => first | (intro w hSw; (try dsimp only at hSw); go_simp; done) | (intro w hSw; (try dsimp only at hSw); go_simp; with_reducible rfl)
              try simp only [List.setIfInBounds_toArray, List.set_cons_zero, List.set_cons_succ]
              refine held_take (i := 5) (v := ?v7) rfl rfl (by kernel_rfl) (by kernel_rfl) (by kernel_rfl) (fun _ _ _ h => h) (Or.inl ⟨by rfl, ?hy7⟩) hHeld ?rest7
              case hy7 => first | (intro w hSw; (try dsimp only at hSw); go_simp; done) | (intro w hSw; (try dsimp only at hSw); go_simp; with_reducible rfl)
              try simp only [List.setIfInBounds_toArray, List.set_cons_zero, List.set_cons_succ]
              refine held_take (i := 6) (v := ?v8) rfl rfl (by kernel_rfl) (by kernel_rfl) (by kernel_rfl) (fun _ _ _ h => h) (Or.inl ⟨by rfl, ?hy8⟩) hHeld ?rest8
              case hy8 => first | (intro w hSw; (try dsimp only at hSw); go_simp; done) | (intro w hSw; (try dsimp only at hSw); go_simp; with_reducible rfl)
              try simp only [List.setIfInBounds_toArray, List.set_cons_zero, List.set_cons_succ]
              refine held_take (i := 7) (v := ?v9) rfl rfl (by kernel_rfl) (by kernel_rfl) (by kernel_rfl) (fun _ _ _ h => h) (Or.inl ⟨by rfl, ?hy9⟩) hHeld ?rest9
              case hy9 => first | (intro w hSw; (try dsimp only at hSw); go_simp; done) | (intro w hSw; (try dsimp only at hSw); go_simp; with_reducible rfl)
              try simp only [List.setIfInBounds_toArray, List.set_cons_zero, List.set_cons_succ]
              refine held_take (i := 8) (v := ?v10) rfl rfl (by kernel_rfl) (by kernel_rfl) (by kernel_rfl) (fun _ _ _ h => h) (Or.inl ⟨by rfl, ?hy10⟩) hHeld ?rest10
              case hy10 => first | (intro w hSw; (try dsimp only at hSw); go_simp; done) | (intro w hSw; (try dsimp only at hSw); go_simp; with_reducible rfl)
              try simp only [List.setIfInBounds_toArray, List.set_cons_zero, List.set_cons_succ]
              refine wpAnyH_done (by kernel_rfl) ?_ _
              refine And.intro ?_ hHeld
              with_reducible rfl
            case cont1 =>
            intro e a' w' hq
            obtain ⟨rfl, rfl, hkq⟩ := hq.out
            go_wp2
            go_ret
            exact ⟨by rw [HE.out]; rfl, HK.out.tr (K3.out.tr (hkx.tr hkq))⟩
          · have HQ : Hid ((!decide (E = S.id)) = true) := by show (!decide (E = S.id)) = true; rw [decide_eq_false ea]; rfl
            have ea2 : (E == S.id) = false := beq_eq_false_iff_ne.2 ea
            go_wp2
            refine Code.wp_mono (Q := Rg6 ?A11 wr) ?cont11 ?reg11
            case reg11 =>
              repeat (rename_i hh; clear hh)
              refine wp_region_held_drew (S := fun w' => Kept wr w' none) (by kernel_rfl) (Kept.tr (Kept.refl _ _) (Kept.drew _ _)) (fun hHeld => ?_)
              refine held_take (i := 0) (v := ?v12) rfl rfl (by kernel_rfl) (by kernel_rfl) (by kernel_rfl) (fun _ _ _ h => h) (Or.inl ⟨by rfl, ?hy12⟩) hHeld ?rest12
              case hy12 => first | (intro w hSw; (try dsimp only at hSw); go_simp; done) | (intro w hSw; (try dsimp only at hSw); go_simp; with_reducible rfl)
              try simp only [List.setIfInBounds_toArray, List.set_cons_zero, List.set_cons_succ]
              refine held_take (i := 1) (v := ?v13) rfl rfl (by kernel_rfl) (by kernel_rfl) (by kernel_rfl) (fun _ _ _ h => h) (Or.inl ⟨by rfl, ?hy13⟩) hHeld ?rest13
              case hy13 => first | (intro w hSw; (try dsimp only at hSw); go_simp; done) | (intro w hSw; (try dsimp only at hSw); go_simp; with_reducible rfl)
              try simp only [List.setIfInBounds_toArray, List.set_cons_zero, List.set_cons_succ]
              refine held_take (i := 2) (v := ?v14) rfl rfl (by kernel_rfl) (by kernel_rfl) (by kernel_rfl) (fun _ _ _ h => h) (Or.inl ⟨by rfl, ?hy14⟩) hHeld ?rest14
              case hy14 => first | (intro w hSw; (try dsimp only at hSw); go_simp; done) | (intro w hSw; (try dsimp only at hSw); go_simp; with_reducible rfl)
              try simp only [List.setIfInBounds_toArray, List.set_cons_zero, List.set_cons_succ]
              refine held_take (i := 3) (v := ?v15) rfl rfl (by kernel_rfl) (by kernel_rfl) (by kernel_rfl) (fun _ _ _ h => h) (Or.inl ⟨by rfl, ?hy15⟩) hHeld ?rest15
              case hy15 => first | (intro w hSw; (try dsimp only at hSw); go_simp; done) | (intro w hSw; (try dsimp only at hSw); go_simp; with_reducible rfl)
              try simp only [List.setIfInBounds_toArray, List.set_cons_zero, List.set_cons_succ]
              refine held_take (i := 4) (v := ?v16) rfl rfl (by kernel_rfl) (by kernel_rfl) (by kernel_rfl) (fun _ _ _ h => h) (Or.inl ⟨by rfl, ?hy16⟩) hHeld ?rest16
              case hy16 => first | (intro w hSw; (try dsimp only at hSw); go_simp; done) | (intro w hSw; (try dsimp only at hSw); go_simp; with_reducible rfl)
              try simp only [List.setIfInBounds_toArray, List.set_cons_zero, List.set_cons_succ]
              refine held_take (i := 5) (v := ?v17) rfl rfl (by kernel_rfl) (by kernel_rfl) (by kernel_rfl) (fun _ _ _ h => h) (Or.inl ⟨by rfl, ?hy17⟩) hHeld ?rest17
              case hy17 => first | (intro w hSw; (try dsimp only at hSw); go_simp; done) | (intro w hSw; (try dsimp only at hSw); go_simp; with_reducible rfl)
              try simp only [List.setIfInBounds_toArray, List.set_cons_zero, List.set_cons_succ]
              refine held_take (i := 6) (v := ?v18) rfl rfl (by kernel_rfl) (by kernel_rfl) (by kernel_rfl) (fun _ _ _ h => h) (Or.inl ⟨by rfl, ?hy18⟩) hHeld ?rest18
              case hy18 => first | (intro w hSw; (try dsimp only at hSw); go_simp; done) | (intro w hSw; (try dsimp only at hSw); go_simp; with_reducible rfl)
              try simp only [List.setIfInBounds_toArray, List.set_cons_zero, List.set_cons_succ]
              refine held_take (i := 7) (v := ?v19) rfl rfl (by kernel_rfl) (by kernel_rfl) (by kernel_rfl) (fun _ _ _ h => h) (Or.inl ⟨by rfl, ?hy19⟩) hHeld ?rest19
              case hy19 => first | (intro w hSw; (try dsimp only at hSw); go_simp; done) | (intro w hSw; (try dsimp only at hSw); go_simp; with_reducible rfl)
              try simp only [List.setIfInBounds_toArray, List.set_cons_zero, List.set_cons_succ]
              refine held_take (i := 8) (v := ?v20) rfl rfl (by kernel_rfl) (by kernel_rfl) (by kernel_rfl) (fun _ _ _ h => h) (Or.inl ⟨by rfl, ?hy20⟩) hHeld ?rest20
              case hy20 => first | (intro w hSw; (try dsimp only at hSw); go_simp; done) | (intro w hSw; (try dsimp only at hSw); go_simp; with_reducible rfl)
              try simp only [List.setIfInBounds_toArray, List.set_cons_zero, List.set_cons_succ]
              refine wpAnyH_done (by kernel_rfl) ?_ _
              refine And.intro ?_ hHeld
              with_reducible rfl
            case cont11 =>
            intro e a' w' hq
            obtain ⟨rfl, rfl, hkq⟩ := hq.out
            go_wp2
            go_roundw
            case rel => exact ⟨j + 1, by omega, by go_num, (fun t ht => (by
              by_cases e : t = j
              · rw [e, HEE.out]; exact HQ.out
              · exact HTS.out t ht e)), hkx.tr hkq⟩
            case measure => simp [intOf]; omega
        · have e : j = k := by omega
          subst e
          have HY : Hid (rsiteB N j = true) := by
            show rsiteB N j = true
            rw [HRB.out, HA.out.1, decide_eq_true HA.out.2.1, decide_eq_true HA.out.2.2, allB_iff.2 HT.out]
            rfl
          go_wp2
          go_roundw
          case rel => exact ⟨j + 1, by omega, by go_num, (fun t ht => (by
            by_cases e : t = j
            · rw [e]; exact HY.out
            · exact HJ.out t (by omega))), K3.out.tr hkx⟩
          case measure => simp [intOf]; omega
    · have e : k = N.sites.length := by omega
      subst e
      have KR := Hid.mk' hkr
      have HRN : Hid (rnetB N = (rsubsB N && rwedsB N)) := by show rnetB N = _; unfold rnetB; rw [HOY.out, allB_iff.2 HJ.out]; simp
      have HSU := Hid.mk' (rsubs6_any (HNB.out.kept hkr).net HF.out (by omega))
      clear hkr
      cases d1 : rsubsB N with
      | false =>
        have HE : Hid (rnetE N = 60) := rnetE_no (by rw [HRN.out, d1]; rfl)
        go_wp2_with (go_at_call 39; have hn := HSU.out; rw [d1] at hn; refine hn.mono ?_; rintro e w5 ⟨rfl, hk5⟩; clear c0 c1 c2 c3 c4 c5; obtain ⟨c0, c1, c2, c3, c4, c5, _⟩ := HNB.out.kept (KR.out.tr hk5))
        go_ret
        exact ⟨by rw [HE.out]; rfl, HK.out.tr (KR.out.tr hk5)⟩
      | true =>
        have hu6 : N.subs.length ≤ 6 := by
          unfold rsubsB at d1
          rw [Bool.and_eq_true] at d1
          have := inB_iff.1 d1.1
          omega
        cases d2 : rwedsB N with
        | false =>
          have HE : Hid (rnetE N = 60) := rnetE_no (by rw [HRN.out, d1, d2]; rfl)
          go_wp2_with (first
            | (go_at_call 40; have hn := rweds6_any (HNB.out.kept (KR.out.tr hk5)).net (by omega) hu6; rw [d2] at hn; refine hn.mono ?_; rintro e w6 ⟨rfl, hk6⟩)
            | (go_at_call 39; have hn := HSU.out; rw [d1] at hn; refine hn.mono ?_; rintro e w5 ⟨rfl, hk5⟩; clear c0 c1 c2 c3 c4 c5; obtain ⟨c0, c1, c2, c3, c4, c5, _⟩ := HNB.out.kept (KR.out.tr hk5)))
          go_ret
          exact ⟨by rw [HE.out]; rfl, HK.out.tr ((KR.out.tr hk5).tr hk6)⟩
        | true =>
          have HE : Hid (rnetE N = 0) := by show rnetE N = 0; unfold rnetE; rw [if_pos (by rw [HRN.out, d1, d2]; rfl)]
          go_wp2_with (first
            | (go_at_call 40; have hn := rweds6_any (HNB.out.kept (KR.out.tr hk5)).net (by omega) hu6; rw [d2] at hn; refine hn.mono ?_; rintro e w6 ⟨rfl, hk6⟩)
            | (go_at_call 39; have hn := HSU.out; rw [d1] at hn; refine hn.mono ?_; rintro e w5 ⟨rfl, hk5⟩; clear c0 c1 c2 c3 c4 c5; obtain ⟨c0, c1, c2, c3, c4, c5, _⟩ := HNB.out.kept (KR.out.tr hk5)))
          go_ret
          exact ⟨by rw [HE.out]; rfl, HK.out.tr ((KR.out.tr hk5).tr hk6)⟩
theorem rcheck6_any {Y : Na} {N : Nt} {w : World} (h : NetAt w Y N) (hF : NFew N) : Calls Tryd.prog 17 #[netV Y N] w fun e w' => e = .returned (.int .i64 (netE N)) ∧ Kept w w' none := by
  rw [← rnetE_eq]; exact rcheck6r h hF

end Go.Proofs.YtoahbpdgbiachaaDoor

/-
  THE CONTRACT of net.Cycles.
-/
namespace Go.Proofs.YtoahbpdgbiachaaDoor
open Go.RowKit Go.Lib Go.Deep
set_option linter.unusedVariables false
set_option linter.unusedSimpArgs false

/-- The first k cycles of a region. -/
def cycK (N : Nt) (k : Nat) : List Int := (List.range k).map (fun i : Nat => N.low + i * N.step)
def cycA (N : Nt) : List Int := if netB N = true then cycK N (((N.high - N.low) / N.step).toNat + 1) else []
theorem cycK_len (N : Nt) (k : Nat) : (cycK N k).length = k := by simp [cycK]
theorem cycK_succ (N : Nt) (k : Nat) : cycK N (k + 1) = cycK N k ++ [N.low + k * N.step] := by
  unfold cycK
  rw [List.range_succ, List.map_append]
  rfl
theorem cycK_at {N : Nt} {k i : Nat} (h : i < k) : (cycK N k).getD i 0 = N.low + i * N.step := by simp [cycK, h]
/-- What a region that may be tells of its cycles. -/
structure Cyc (N : Nt) (qt : Nat) : Prop where
  low : 1 ≤ N.low ∧ N.low ≤ 1048576
  high : N.low ≤ N.high ∧ N.high ≤ 1048576
  step : 1 ≤ N.step ∧ N.step ≤ 1048576
  all : N.high - N.low = qt * N.step
  few : qt ≤ 64
  quot : (N.high - N.low) / N.step = qt
  st : ∀ i, i < N.sites.length → (N.sites.getD i s0).low ≤ N.low ∧ N.high ≤ (N.sites.getD i s0).high
theorem cyc_may {N : Nt} (h : netB N = true) : ∃ qt : Nat, Cyc N qt ∧ cycA N = cycK N (qt + 1) := by
  have h0 := h
  unfold netB at h
  cases hl : lookF N with
  | none => rw [hl] at h; cases h
  | some M =>
    obtain ⟨hc, M1, M2, h1, h2, h3, h4, h5⟩ := lookF_parts hl
    unfold ncyclesB timeB at h4
    simp only [Bool.and_eq_true, inB_iff, decide_eq_true_eq, allB_iff] at h4
    obtain ⟨⟨⟨⟨⟨a1, a2⟩, a3⟩, a4⟩, a5⟩, a6⟩ := h4
    have hq0 : 0 ≤ (N.high - N.low) / N.step := Int.ediv_nonneg (by omega) (by omega)
    refine ⟨((N.high - N.low) / N.step).toNat, ⟨by omega, by omega, by omega, ?_, by omega, by omega, a6⟩, by unfold cycA; rw [if_pos h0]⟩
    rw [Int.toNat_of_nonneg hq0]
    have := Int.mul_ediv_add_emod (N.high - N.low) N.step
    rw [a4, Int.add_zero, Int.mul_comm] at this
    exact this.symm
theorem Cyc.le {N : Nt} {qt k : Nat} (h : Cyc N qt) (hk : k ≤ qt) : N.low + k * N.step ≤ N.high := by
  have h1 := h.all
  have h2 : (k : Int) * N.step ≤ qt * N.step := Int.mul_le_mul_of_nonneg_right (by omega) (by have := h.step; omega)
  omega
theorem Cyc.ge {N : Nt} {k : Nat} {qt : Nat} (h : Cyc N qt) : N.low ≤ N.low + k * N.step := by
  have h2 : 0 ≤ (k : Int) * N.step := Int.mul_nonneg (by omega) (by have := h.step; omega)
  omega
theorem Cyc.lt {N : Nt} {qt : Nat} (h : Cyc N qt) : N.low + ((qt + 1 : Nat) : Int) * N.step = N.high + N.step := by
  have h1 := h.all
  have h2 : ((qt + 1 : Nat) : Int) * N.step = qt * N.step + N.step := by rw [Int.natCast_add, Int.add_mul]; simp
  omega
theorem cycK_rng {N : Nt} {qt : Nat} (h : Cyc N qt) {k : Nat} (hk : k ≤ qt + 1) : ∀ x ∈ cycK N k, -9223372036854775808 ≤ x ∧ x ≤ 9223372036854775807 := fun x hx => by
  simp only [cycK, List.mem_map, List.mem_range] at hx
  obtain ⟨i, hi, rfl⟩ := hx
  have h1 := h.le (k := i) (by omega)
  have h2 := h.ge (k := i)
  have := h.low
  have := h.high
  omega
set_option maxRecDepth 100000 in
set_option maxHeartbeats 2000000 in
theorem ncycles_no {w : World} {Y : Na} {N : Nt} (h : NetAt w Y N) (hT : Tabb w) (hb : netB N = false) : Calls Tryd.prog 11 #[netV Y N] w fun e w' => e = .returned (.tuple #[.slice none 0 0, .int .i64 60]) ∧ Kept w w' none := by
  have hkA : Kept w (w.alloc (.cells #[.slice Y.s N.sites.length Y.sc, .slice Y.u N.subs.length Y.uc, .slice Y.d N.weds.length Y.dc, .int .i64 N.low, .int .i64 N.high, .int .i64 N.step] 26)) none := Kept.alloc _ _ _ _ _
  have HN := Hid.mk' (h.kept hkA)
  have HK := Hid.mk' hkA
  have HT := Hid.mk' (hT.kept hkA)
  have HE := Hid.mk' (netE_no1 hb)
  clear h hkA hT hb
  go_enter Tryd.func11, Tryd.ntmps11
  go_wp2_with (go_at_call 13; have hn := ncheck_any HN.out HT.out; rw [HE.out] at hn; refine hn.mono ?_; rintro e w3 ⟨rfl, hk3⟩)
  go_ret2
  exact ⟨rfl, HK.out.tr hk3⟩
theorem cyc_grow {w : World} {base k c qt : Nat} {a : Option Addr} {N : Nt} (h : OwI w base (.slice a k c) (cycK N k)) (hC : Cyc N qt) (hk : k ≤ qt) (hb : base ≤ w.heap.size) :
    ∃ a' c' w', (Builtin.append_ #[31, 31] 31 #[.slice a k c, .slice (some ⟨w.heap.size, 0, none⟩) 1 1]).run Tryd.prog (w.alloc (.cells #[.int .i64 (N.low + k * N.step)] 3)) = .ok (.slice a' (k + 1 : Nat) c') w' ∧ OwI w' base (.slice a' (k + 1 : Nat) c') (cycK N (k + 1)) ∧ Kept w w' (Value.slice a k c).ownBlock := by
  have hf := hC.few
  obtain ⟨v', w', h1, h2, h3, h4⟩ := h.grow (N.low + k * N.step) (by rw [cycK_len]; omega) hb
  rw [← cycK_succ] at h2
  obtain ⟨a', c', e, _, _⟩ := h2.ints (cycK_rng hC (by omega))
  rw [cycK_len] at e
  subst e
  exact ⟨a', c', w', h1, h2, h3⟩
set_option maxRecDepth 100000 in
set_option maxHeartbeats 4000000 in
theorem ncycles_yes {w : World} {Y : Na} {N : Nt} {qt : Nat} (h : NetAt w Y N) (hT : Tabb w) (hb : netB N = true) (hC : Cyc N qt) : Calls Tryd.prog 11 #[netV Y N] w fun e w' => ∃ a c, e = .returned (.tuple #[.slice a (qt + 1 : Nat) c, .int .i64 0]) ∧ Ints w' a (qt + 1) c (cycK N (qt + 1)) ∧ (∀ b, a = some b → w.heap.size ≤ b.block) ∧ Kept w w' none := by
  have hkA : Kept w (w.alloc (.cells #[.slice Y.s N.sites.length Y.sc, .slice Y.u N.subs.length Y.uc, .slice Y.d N.weds.length Y.dc, .int .i64 N.low, .int .i64 N.high, .int .i64 N.step] 26)) none := Kept.alloc _ _ _ _ _
  have HNB := Hid.mk' (nbx_alloc h 26)
  have HK := Hid.mk' hkA
  have HT := Hid.mk' (hT.kept hkA)
  have HE := Hid.mk' (netE_yes1 hb)
  have HC := Hid.mk' hC
  have HS : Hid (∀ w', Calls Tryd.prog 26 #[netV Y N] w' fun e w'' => e = .returned (.int .i64 ((qt : Nat) : Int)) ∧ Kept w' w'' none) := fun w' => by
    have hq := hC.quot
    have := hC.high
    have := hC.low
    have := hC.step
    have := steps_net (w := w') (Y := Y) (N := N) (by omega) (by omega) (by omega)
    rw [hq] at this
    exact this
  have hl := hC.low
  have hh := hC.high
  have hst := hC.step
  have hf := hC.few
  clear h hkA hT hb hC
  go_enter Tryd.func11, Tryd.ntmps11
  have hWz : ∃ n, n = (w.alloc (.cells #[.slice Y.s N.sites.length Y.sc, .slice Y.u N.subs.length Y.uc, .slice Y.d N.weds.length Y.dc, .int .i64 N.low, .int .i64 N.high, .int .i64 N.step] 26)).heap.size := ⟨_, rfl⟩
  obtain ⟨n0, hn0⟩ := hWz
  go_wp2_with (first
    | (go_at_call 26; refine (HS.out _).mono ?_; rintro e w4 ⟨rfl, hk4⟩; have K4 := Hid.mk' (K3.out.tr hk4); clear c0 c1 c2 c3 c4 c5 hk4; obtain ⟨w5, hmk, hown, hk5⟩ := mk_ints (qt + 1) (by omega) w4 n0 (hn0 ▸ K4.out.size); have K5 := Hid.mk' (K4.out.tr hk5); have OW := Hid.mk' hown; obtain ⟨c0, c1, c2, c3, c4, c5, _⟩ := HNB.out.kept K5.out; rw [show ((qt + 1 : Nat) : Int) = (qt : Int) + 1 from by omega] at hmk; clear hk5 hown)
    | (go_at_call 13; have hn := ncheck_any HNB.out.net HT.out; rw [HE.out] at hn; refine hn.mono ?_; rintro e w3 ⟨rfl, hk3⟩; have K3 := Hid.mk' hk3; clear hk3; obtain ⟨c0, c1, c2, c3, c4, c5, _⟩ := HNB.out.kept K3.out))
  clear hmk c0 c1 c2 c3 c4 c5
  generalize hW : (w.alloc (.cells #[.slice Y.s N.sites.length Y.sc, .slice Y.u N.subs.length Y.uc, .slice Y.d N.weds.length Y.dc, .int .i64 N.low, .int .i64 N.high, .int .i64 N.step] 26)) = W at *
  clear hW
  subst hn0
  go_loopw [5, 6] (fun v cy wr => ∃ (k : Nat) (a : Option Addr) (c : Nat), k ≤ qt + 1 ∧ cy = .int .i64 (N.low + k * N.step) ∧ v = .slice a k c ∧ Hid (OwI wr W.heap.size (.slice a k c) (cycK N k)) ∧ Kept W wr none) (fun _ cy _ => (N.high + N.step - intOf cy).toNat)
  case atStart => exact ⟨0, _, _, Nat.zero_le _, by simp, rfl, OW, K5.out⟩
  case round =>
    clear OW K5 K4 K3
    obtain ⟨k, a, c, hk, rfl, rfl, HO, hkr⟩ := hrel
    obtain ⟨c0, c1, c2, c3, c4, c5, _⟩ := HNB.out.kept hkr
    have hge := HC.out.ge (k := k)
    by_cases hle : k ≤ qt
    · have hle2 := HC.out.le hle
      have hnx : N.low + ((k + 1 : Nat) : Int) * N.step = N.low + k * N.step + N.step := by rw [Int.natCast_add, Int.add_mul]; simp; omega
      obtain ⟨a', c', w6, hrun, hO6, hk6⟩ := cyc_grow HO.out HC.out hle hkr.size
      have HR := Hid.mk' hrun
      have HKF : Hid (Kept W w6 none) := HO.out.far hk6 hkr (Nat.le_refl _)
      have HO6 := Hid.mk' hO6
      have HNX := Hid.mk' hnx
      clear hrun hO6 hk6 hnx
      obtain ⟨d0, d1, d2, d3, d4, d5, _⟩ := HNB.out.kept HKF.out
      generalize N.low + (k : Int) * N.step = cy at *
      go_wp2_with (at_builtin; refine wpList_app (by rfl) _ _ _ (by rfl) (by rfl) (by rfl) HR.out ?_)
      go_roundw
      case rel => exact ⟨k + 1, a', c', by omega, by rw [HNX.out], rfl, HO6, HKF.out⟩
      case measure => simp [intOf]; omega
    · have e : k = qt + 1 := by omega
      subst e
      have hlast := HC.out.lt
      have hgt : ¬ N.low + ((qt + 1 : Nat) : Int) * N.step ≤ N.high := by omega
      generalize N.low + ((qt + 1 : Nat) : Int) * N.step = cy at *
      go_wp2
      go_ret2
      obtain ⟨a2, c2', e, hI, hb⟩ := HO.out.ints (cycK_rng HC.out (Nat.le_refl _))
      rw [cycK_len] at e hI
      injection e with e1 e2 e3
      subst e1 e3
      exact ⟨a, c, rfl, hI, fun b hb' => Nat.le_trans HK.out.size (hb b hb').1, HK.out.tr hkr⟩

end Go.Proofs.YtoahbpdgbiachaaDoor

/-
  THE DOCUMENT'S OWN ANSWER: the sub of a site, the site of an Id, the cycles.
-/
namespace Go.Proofs.YtoahbpdgbiachaaDoor
open Go.RowKit Go.Lib Go.Deep
set_option linter.unusedVariables false
set_option linter.unusedSimpArgs false

/-- The first of many that has something; -1: none has it. -/
def firstB (n : Nat) (p : Nat → Bool) (r : Int) : Prop := (∃ k : Nat, k < n ∧ p k = true ∧ (∀ j, j < k → p j = false) ∧ r = k) ∨ ((∀ j, j < n → p j = false) ∧ r = -1)
set_option maxRecDepth 100000 in
set_option maxHeartbeats 4000000 in
theorem rsub6_any {Y : Na} {N : Nt} {w : World} (h : NetAt w Y N) (x : Int) : Calls Tryd.prog 18 #[netV Y N, .int .i64 x] w fun e w' => ∃ r, e = .returned (.int .i64 r) ∧ firstB N.subs.length (fun i => decide (x ∈ (N.subs.getD i u0).sites)) r ∧ Kept w w' none := by
  have hkA : Kept w (w.alloc (.cells #[.slice Y.s N.sites.length Y.sc, .slice Y.u N.subs.length Y.uc, .slice Y.d N.weds.length Y.dc, .int .i64 N.low, .int .i64 N.high, .int .i64 N.step] 26)) none := Kept.alloc _ _ _ _ _
  have HNB := Hid.mk' (nbx_alloc h 26)
  have HK := Hid.mk' hkA
  have hs9 : N.sites.length ≤ 9223372036854775807 := by have := h.sk.room; have := h.sk.max; omega
  have hu9 : N.subs.length ≤ 9223372036854775807 := by have := h.uk.room; have := h.uk.max; omega
  clear h hkA
  go_enter Tryd.func18, Tryd.ntmps18
  go_wp2
  generalize hW : (w.alloc (.cells #[.slice Y.s N.sites.length Y.sc, .slice Y.u N.subs.length Y.uc, .slice Y.d N.weds.length Y.dc, .int .i64 N.low, .int .i64 N.high, .int .i64 N.step] 26)) = W at *
  clear hW
  go_loopw [5] (fun i wr => ∃ k : Nat, k ≤ N.subs.length ∧ i = .int .i64 k ∧ Hid (∀ j, j < k → decide (x ∈ (N.subs.getD j u0).sites) = false) ∧ wr = W) (fun i _ => N.subs.length - (intOf i).toNat)
  case atStart => exact ⟨0, Nat.zero_le _, rfl, (fun j hj => by omega), rfl⟩
  case round =>
    obtain ⟨k, hk, rfl, HJ, rfl⟩ := hrel
    have c1 := HNB.out.c1
    by_cases hlt : k < N.subs.length
    · obtain ⟨ub, uo, eu, _, hc⟩ := HNB.out.net.u1.at_ (by omega)
      rw [eu] at c1
      have e0 := hc k hlt 0 (by omega)
      have HI := Hid.mk' (HNB.out.net.u2 k hlt)
      clear hc eu
      dsimp only [sbV, Nat.add_zero] at e0
      cases hb : decide (x ∈ (N.subs.getD k u0).sites) with
      | true =>
        have HB : Hid ((fun i => decide (x ∈ (N.subs.getD i u0).sites)) k = true) := hb
        generalize (N.subs.getD k u0).sites = l at *
        go_wp2_with (go_at_call 41; refine (rhas6_is HI.out (by assumption)).mono ?_; rintro e w9 ⟨rfl, rfl⟩)
        go_ret
        exact ⟨k, rfl, .inl ⟨k, hlt, HB.out, HJ.out, rfl⟩, HK.out⟩
      | false =>
        have HB : Hid (∀ j, j < k + 1 → decide (x ∈ (N.subs.getD j u0).sites) = false) := fun j hj => by
          by_cases e : j = k
          · rw [e]; exact hb
          · exact HJ.out j (by omega)
        generalize (N.subs.getD k u0).sites = l at *
        go_wp2_with (go_at_call 41; refine (rhas6_is HI.out (by assumption)).mono ?_; rintro e w9 ⟨rfl, rfl⟩)
        go_roundw
        case rel => exact ⟨k + 1, by omega, by go_num, HB, trivial⟩
        case measure => simp [intOf]; omega
    · have e : k = N.subs.length := by omega
      subst e
      go_wp2
      go_ret
      exact ⟨-1, rfl, .inr ⟨HJ.out, rfl⟩, HK.out⟩
set_option maxRecDepth 100000 in
set_option maxHeartbeats 4000000 in
theorem rsite6_any {Y : Na} {N : Nt} {w : World} (h : NetAt w Y N) (x : Int) : Calls Tryd.prog 19 #[netV Y N, .int .i64 x] w fun e w' => ∃ r, e = .returned (.int .i64 r) ∧ firstB N.sites.length (fun i => decide ((N.sites.getD i s0).id = x)) r ∧ Kept w w' none := by
  have hkA : Kept w (w.alloc (.cells #[.slice Y.s N.sites.length Y.sc, .slice Y.u N.subs.length Y.uc, .slice Y.d N.weds.length Y.dc, .int .i64 N.low, .int .i64 N.high, .int .i64 N.step] 26)) none := Kept.alloc _ _ _ _ _
  have HNB := Hid.mk' (nbx_alloc h 26)
  have HK := Hid.mk' hkA
  have hs9 : N.sites.length ≤ 9223372036854775807 := by have := h.sk.room; have := h.sk.max; omega
  have hu9 : N.subs.length ≤ 9223372036854775807 := by have := h.uk.room; have := h.uk.max; omega
  clear h hkA
  go_enter Tryd.func19, Tryd.ntmps19
  go_wp2
  generalize hW : (w.alloc (.cells #[.slice Y.s N.sites.length Y.sc, .slice Y.u N.subs.length Y.uc, .slice Y.d N.weds.length Y.dc, .int .i64 N.low, .int .i64 N.high, .int .i64 N.step] 26)) = W at *
  clear hW
  go_loopw [5] (fun i wr => ∃ k : Nat, k ≤ N.sites.length ∧ i = .int .i64 k ∧ Hid (∀ j, j < k → decide ((N.sites.getD j s0).id = x) = false) ∧ wr = W) (fun i _ => N.sites.length - (intOf i).toNat)
  case atStart => exact ⟨0, Nat.zero_le _, rfl, (fun j hj => by omega), rfl⟩
  case round =>
    obtain ⟨k, hk, rfl, HJ, rfl⟩ := hrel
    have c0 := HNB.out.c0
    by_cases hlt : k < N.sites.length
    · obtain ⟨sb, so, es, _, hc⟩ := HNB.out.net.s1.at_ (by omega)
      rw [es] at c0
      have e0 := hc k hlt 0 (by omega)
      clear hc es
      dsimp only [stV, Nat.add_zero] at e0
      obtain ⟨y, hy⟩ : ∃ y, (N.sites.getD k s0).id = y := ⟨_, rfl⟩
      rw [hy] at e0
      have HY := Hid.mk' hy
      clear hy
      by_cases hxy : y = x
      · subst hxy
        go_wp2
        go_ret
        exact ⟨k, rfl, .inl ⟨k, hlt, decide_eq_true HY.out, HJ.out, rfl⟩, HK.out⟩
      · go_wp2
        go_roundw
        case rel => exact ⟨k + 1, by omega, by go_num, (fun j hj => (by
          by_cases e : j = k
          · rw [e]; exact decide_eq_false (by rw [HY.out]; exact hxy)
          · exact HJ.out j (by omega))), trivial⟩
        case measure => simp [intOf]; omega
    · have e : k = N.sites.length := by omega
      subst e
      go_wp2
      go_ret
      exact ⟨-1, rfl, .inr ⟨HJ.out, rfl⟩, HK.out⟩
set_option maxRecDepth 100000 in
set_option maxHeartbeats 4000000 in
theorem rcycles6_any {Y : Na} {N : Nt} {w : World} {qt : Nat} (h : NetAt w Y N) (hC : Cyc N qt) : Calls Tryd.prog 21 #[netV Y N] w fun e w' => ∃ a c, e = .returned (.slice a (qt + 1 : Nat) c) ∧ Ints w' a (qt + 1) c (cycK N (qt + 1)) ∧ Kept w w' none := by
  have HC := Hid.mk' hC
  have hl := hC.low
  have hh := hC.high
  have hst := hC.step
  have hf := hC.few
  clear hC
  have hkA : Kept w (w.alloc (.cells #[.slice Y.s N.sites.length Y.sc, .slice Y.u N.subs.length Y.uc, .slice Y.d N.weds.length Y.dc, .int .i64 N.low, .int .i64 N.high, .int .i64 N.step] 26)) none := Kept.alloc _ _ _ _ _
  have HNB := Hid.mk' (nbx_alloc h 26)
  have HK := Hid.mk' hkA
  have hs9 : N.sites.length ≤ 9223372036854775807 := by have := h.sk.room; have := h.sk.max; omega
  have hu9 : N.subs.length ≤ 9223372036854775807 := by have := h.uk.room; have := h.uk.max; omega
  clear h hkA
  go_enter Tryd.func21, Tryd.ntmps21
  go_wp2
  generalize hW : (w.alloc (.cells #[.slice Y.s N.sites.length Y.sc, .slice Y.u N.subs.length Y.uc, .slice Y.d N.weds.length Y.dc, .int .i64 N.low, .int .i64 N.high, .int .i64 N.step] 26)) = W at *
  clear hW
  go_loopw [3, 4] (fun v cy wr => ∃ (k : Nat) (a : Option Addr) (c : Nat), k ≤ qt + 1 ∧ cy = .int .i64 (N.low + k * N.step) ∧ v = .slice a k c ∧ Hid (OwI wr W.heap.size (.slice a k c) (cycK N k)) ∧ Kept W wr none) (fun _ cy _ => (N.high + N.step - intOf cy).toNat)
  case atStart => exact ⟨0, none, 0, Nat.zero_le _, by simp, rfl, OwI.nil _ _, Kept.refl _ _⟩
  case round =>
    obtain ⟨k, a, c, hk, rfl, rfl, HO, hkr⟩ := hrel
    obtain ⟨c0, c1, c2, c3, c4, c5, _⟩ := HNB.out.kept hkr
    have hge := HC.out.ge (k := k)
    by_cases hle : k ≤ qt
    · have hle2 := HC.out.le hle
      have hnx : N.low + ((k + 1 : Nat) : Int) * N.step = N.low + k * N.step + N.step := by rw [Int.natCast_add, Int.add_mul]; simp; omega
      obtain ⟨a', c', w6, hrun, hO6, hk6⟩ := cyc_grow HO.out HC.out hle hkr.size
      have HR := Hid.mk' hrun
      have HKF : Hid (Kept W w6 none) := HO.out.far hk6 hkr (Nat.le_refl _)
      have HO6 := Hid.mk' hO6
      have HNX := Hid.mk' hnx
      clear hrun hO6 hk6 hnx
      obtain ⟨d0, d1, d2, d3, d4, d5, _⟩ := HNB.out.kept HKF.out
      generalize N.low + (k : Int) * N.step = cy at *
      go_wp2_with (at_builtin; refine wpList_app (by rfl) _ _ _ (by rfl) (by rfl) (by rfl) HR.out ?_)
      go_roundw
      case rel => exact ⟨k + 1, a', c', by omega, by rw [HNX.out], rfl, HO6, HKF.out⟩
      case measure => simp [intOf]; omega
    · have e : k = qt + 1 := by omega
      subst e
      have hlast := HC.out.lt
      have hgt : ¬ N.low + ((qt + 1 : Nat) : Int) * N.step ≤ N.high := by omega
      generalize N.low + ((qt + 1 : Nat) : Int) * N.step = cy at *
      go_wp2
      go_ret
      obtain ⟨a2, c2', e, hI, hb⟩ := HO.out.ints (cycK_rng HC.out (Nat.le_refl _))
      rw [cycK_len] at e hI
      injection e with e1 e2 e3
      subst e1 e3
      exact ⟨a, c, rfl, hI, HK.out.tr hkr⟩

end Go.Proofs.YtoahbpdgbiachaaDoor

