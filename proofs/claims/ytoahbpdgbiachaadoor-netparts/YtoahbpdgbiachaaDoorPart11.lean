/-
  Part 11 of the texts that the proof of NetParts stands on.
-/
import Derived.Test.YtoahbpdgbiachaaDoorPart9
import Derived.Test.YtoahbpdgbiachaaDoorPart10
import Derived.Deep.RegionHeld
/-
  MATHS: where the marks of a region that may be are: each site's Id, each site's sub.
-/
namespace Go.Proofs.YtoahbpdgbiachaaDoor
open Go.RowKit Go.Lib Go.Deep
set_option linter.unusedVariables false
set_option linter.unusedSimpArgs false

/-- How often a number is among the first of a list. -/
def cntI (l : List Int) (x : Int) : Nat → Nat
  | 0 => 0
  | k + 1 => cntI l x k + (if l.getD k 0 = x then 1 else 0)
theorem mk_ne1 {x y : Int} (h : x ≠ y) : ((1, x, 0) : Mk) ≠ (1, y, 0) := fun e => h (by have := congrArg (fun z : Mk => z.2.1) e; simpa using this)
theorem mk_neF {a b c d e f : Int} (h : a ≠ d) : ((a, b, c) : Mk) ≠ (d, e, f) := fun q => h (congrArg Prod.fst q)
theorem takeF_keep {N : Nt} {place : Nat} {l : List Int} {M : Ms} {q : Mk} {v : Int} (h : mkF M q = some v) : ∀ k M', takeF N place l M k = some M' → mkF M' q = some v
  | 0, M', e => by injection e with e; subst e; exact h
  | k + 1, M', e => by
    obtain ⟨M1, h1, h2, h3, h4⟩ := takeF_step e
    have h5 := takeF_keep h k M1 h1
    subst h4
    rw [mkF_other _ _ (fun e => by rw [e, h3] at h5; cases h5)]
    exact h5
theorem takeF_other {N : Nt} {place : Nat} {l : List Int} {M : Ms} {a b c : Int} (ha : a ≠ 1) : ∀ k M', takeF N place l M k = some M' → mkF M' (a, b, c) = mkF M (a, b, c)
  | 0, M', e => by injection e with e; subst e; rfl
  | k + 1, M', e => by
    obtain ⟨M1, h1, h2, h3, h4⟩ := takeF_step e
    subst h4
    rw [mkF_other _ _ (mk_neF ha)]
    exact takeF_other ha k M1 h1
theorem takeF_cnt {N : Nt} {place : Nat} {l : List Int} {M : Ms} (x : Int) : ∀ k M', takeF N place l M k = some M' →
    (mkF M' (1, x, 0) = mkF M (1, x, 0) ∧ cntI l x k = 0) ∨ (mkF M (1, x, 0) = none ∧ mkF M' (1, x, 0) = some (place : Int) ∧ cntI l x k = 1)
  | 0, M', e => by injection e with e; subst e; exact .inl ⟨rfl, rfl⟩
  | k + 1, M', e => by
    obtain ⟨M1, h1, h2, h3, h4⟩ := takeF_step e
    subst h4
    by_cases hx : l.getD k 0 = x
    · rw [hx] at h3 ⊢
      have hc : cntI l x (k + 1) = cntI l x k + 1 := by rw [cntI, if_pos hx]
      rcases takeF_cnt x k M1 h1 with ⟨g1, g2⟩ | ⟨g1, g2, g3⟩
      · refine .inr ⟨by rw [← g1]; exact h3, mkF_same _ _ _, by rw [hc, g2]⟩
      · rw [g2] at h3; cases h3
    · have hc : cntI l x (k + 1) = cntI l x k := by rw [cntI, if_neg hx]; rfl
      rw [mkF_other _ _ (mk_ne1 (Ne.symm hx)), hc]
      exact takeF_cnt x k M1 h1
theorem subsF_keep {N : Nt} {M : Ms} {q : Mk} {v : Int} (h : mkF M q = some v) : ∀ k M', subsF N M k = some M' → mkF M' q = some v
  | 0, M', e => by injection e with e; subst e; exact h
  | k + 1, M', e => by
    obtain ⟨M1, h1, h2, h3⟩ := subsF_step e
    exact takeF_keep (subsF_keep h k M1 h1) _ _ h2
theorem subsF_other {N : Nt} {M : Ms} {a b c : Int} (ha : a ≠ 1) : ∀ k M', subsF N M k = some M' → mkF M' (a, b, c) = mkF M (a, b, c)
  | 0, M', e => by injection e with e; subst e; rfl
  | k + 1, M', e => by
    obtain ⟨M1, h1, h2, h3⟩ := subsF_step e
    rw [takeF_other ha _ _ h2]
    exact subsF_other ha k M1 h1
/-- How often a site is in a sub. -/
def inSub (N : Nt) (k : Nat) (x : Int) : Nat := cntI (N.subs.getD k u0).sites x (N.subs.getD k u0).sites.length
def OneSub (N : Nt) (K : Nat) (M : Ms) (x : Int) : Prop := (mkF M (1, x, 0) = none ∧ ∀ j, j < K → inSub N j x = 0) ∨ (∃ u : Nat, u < K ∧ mkF M (1, x, 0) = some (u : Int) ∧ inSub N u x = 1 ∧ ∀ j, j < K → j ≠ u → inSub N j x = 0)
theorem subsF_one {N : Nt} {M : Ms} (hM : ∀ x, mkF M (1, x, 0) = none) : ∀ k M', subsF N M k = some M' → (∀ x, OneSub N k M' x) ∧ ∀ j, j < k → mkF M' (1, (N.subs.getD j u0).critical, 0) = some (j : Int)
  | 0, M', e => by injection e with e; subst e; exact ⟨fun x => .inl ⟨hM x, fun j hj => by omega⟩, fun j hj => by omega⟩
  | k + 1, M', e => by
    obtain ⟨M1, h1, h2, h3⟩ := subsF_step e
    obtain ⟨g1, g2⟩ := subsF_one hM k M1 h1
    refine ⟨fun x => ?_, fun j hj => ?_⟩
    · have hq : inSub N k x = cntI (N.subs.getD k u0).sites x (N.subs.getD k u0).sites.length := rfl
      rcases takeF_cnt x _ _ h2 with ⟨a1, a2⟩ | ⟨a1, a2, a3⟩
      · rw [← hq] at a2
        rcases g1 x with ⟨b1, b2⟩ | ⟨u, b0, b1, b2, b3⟩
        · exact .inl ⟨by rw [a1]; exact b1, fun j hj => by
            by_cases e : j = k
            · subst e; exact a2
            · exact b2 j (by omega)⟩
        · exact .inr ⟨u, by omega, by rw [a1]; exact b1, b2, fun j hj hne => by
            by_cases e : j = k
            · subst e; exact a2
            · exact b3 j (by omega) hne⟩
      · rw [← hq] at a3
        rcases g1 x with ⟨b1, b2⟩ | ⟨u, b0, b1, b2, b3⟩
        · exact .inr ⟨k, by omega, a2, a3, fun j hj hne => b2 j (by omega)⟩
        · rw [a1] at b1; cases b1
    · by_cases e : j = k
      · subst e; exact h3
      · exact takeF_keep (g2 j (by omega)) _ _ h2
theorem wedsF_keep {N : Nt} {M : Ms} {q : Mk} {v : Int} (h : mkF M q = some v) : ∀ k M', wedsF N M k = some M' → mkF M' q = some v
  | 0, M', e => by injection e with e; subst e; exact h
  | k + 1, M', e => by
    obtain ⟨M1, h1, h2, h3, h4, h5, h6, h7⟩ := wedsF_step e
    have h8 := wedsF_keep h k M1 h1
    subst h5
    rw [mkF_other _ _ (fun e => by rw [e, h4] at h8; cases h8)]
    exact h8
theorem wedsF_other {N : Nt} {M : Ms} {a b c : Int} (ha : a ≠ 2) : ∀ k M', wedsF N M k = some M' → mkF M' (a, b, c) = mkF M (a, b, c)
  | 0, M', e => by injection e with e; subst e; rfl
  | k + 1, M', e => by
    obtain ⟨M1, h1, h2, h3, h4, h5, h6, h7⟩ := wedsF_step e
    subst h5
    rw [mkF_other _ _ (mk_neF ha)]
    exact wedsF_other ha k M1 h1
theorem sitesF_id {N : Nt} : ∀ k M, sitesF N k = some M → (∀ i, i < k → mkF M (0, (N.sites.getD i s0).id, 0) = some (i : Int)) ∧ ∀ x, (∀ i, i < k → (N.sites.getD i s0).id ≠ x) → mkF M (0, x, 0) = none
  | 0, M, e => by injection e with e; subst e; exact ⟨fun i hi => by omega, fun x _ => rfl⟩
  | k + 1, M, e => by
    obtain ⟨M1, h1, h2, h3, h4⟩ := sitesF_step e
    obtain ⟨g1, g2⟩ := sitesF_id k M1 h1
    subst h4
    refine ⟨fun i hi => ?_, fun x hx => ?_⟩
    · by_cases e : i = k
      · subst e; exact mkF_same _ _ _
      · have h5 := g1 i (by omega)
        rw [mkF_other _ _ (fun e => by rw [e, h3] at h5; cases h5)]
        exact h5
    · rw [mkF_other _ _ (fun e => hx k (by omega) (by have := congrArg (fun z : Mk => z.2.1) e; simpa using this.symm))]
      exact g2 x (fun i hi => hx i (by omega))
/-- What a region that may be tells of its parts. -/
structure Keyed (N : Nt) : Prop where
  id : ∀ i, i < N.sites.length → findV N (0, (N.sites.getD i s0).id, 0) = ((i : Int), 0)
  noId : ∀ x, (∀ i, i < N.sites.length → (N.sites.getD i s0).id ≠ x) → findV N (0, x, 0) = (0, 2)
  sub : ∀ i : Nat, i < N.sites.length → ∃ u : Nat, u < N.subs.length ∧ findV N (1, (i : Int), 0) = ((u : Int), 0) ∧ inSub N u i = 1 ∧ ∀ j, j < N.subs.length → j ≠ u → inSub N j i = 0
  noSub : ∀ x : Int, inB x 0 ((N.sites.length : Int) - 1) = false → findV N (1, x, 0) = (0, 2) ∧ ∀ j, j < N.subs.length → inSub N j x = 0
  crit : ∀ k, k < N.subs.length → findV N (1, (N.subs.getD k u0).critical, 0) = ((k : Int), 0)
theorem keyed_may {N : Nt} (h : netB N = true) : Keyed N := by
  unfold netB at h
  cases hl : lookF N with
  | none => rw [hl] at h; cases h
  | some M =>
    obtain ⟨hc, M1, M2, h1, h2, h3, h4, h5⟩ := lookF_parts hl
    have hi0 : InR N M1 := fun x p hx => by rw [sitesF_one x _ _ h1] at hx; cases hx
    obtain ⟨hin, _⟩ := subsF_inr hi0 _ _ h2
    have hF : ∀ q, findV N q = match mkF M q with
      | none => (0, 2)
      | some v => (v, 0) := fun q => by unfold findV; rw [hl]; rfl
    obtain ⟨a1, a2⟩ := sitesF_id _ _ h1
    obtain ⟨b1, b2⟩ := subsF_one (fun x => sitesF_one x _ _ h1) _ _ h2
    have e0 : ∀ x, mkF M (0, x, 0) = mkF M1 (0, x, 0) := fun x => by rw [wedsF_other (by decide) _ _ h5, subsF_other (by decide) _ _ h2]
    have e1 : ∀ x, mkF M (1, x, 0) = mkF M2 (1, x, 0) := fun x => wedsF_other (by decide) _ _ h5
    refine ⟨fun i hi => ?_, fun x hx => ?_, fun i hi => ?_, fun x hx => ?_, fun k hk => ?_⟩
    · rw [hF, e0, a1 i hi]
    · rw [hF, e0, a2 x hx]
    · have hp := allB_iff.1 h3 i hi
      rcases b1 (i : Int) with ⟨c1, c2⟩ | ⟨u, c0, c1, c2, c3⟩
      · rw [c1] at hp; cases hp
      · exact ⟨u, c0, by rw [hF, e1, c1], c2, c3⟩
    · rcases b1 x with ⟨c1, c2⟩ | ⟨u, c0, c1, c2, c3⟩
      · exact ⟨by rw [hF, e1, c1], c2⟩
      · rw [hin x _ c1] at hx; cases hx
    · rw [hF, e1, b2 k hk]

end Go.Proofs.YtoahbpdgbiachaaDoor

/-
  THE WALK of NetParts.
-/
namespace Go.Proofs.YtoahbpdgbiachaaDoor
open Go.RowKit Go.Lib Go.Deep
set_option linter.unusedVariables false
set_option linter.unusedSimpArgs false

/-- A drawn region's one way. -/
def RgP (A : Act) (W : World) (e : Exit) (a : Act) (w : World) : Prop := match e with
  | .normal => a = A ∧ Kept W w none
  | _ => False
theorem RgP.out {A : Act} {W w : World} {e : Exit} {a : Act} (h : RgP A W e a w) : e = .normal ∧ a = A ∧ Kept W w none := by
  cases e with
  | normal => exact ⟨rfl, h.1, h.2⟩
  | _ => exact h.elim
set_option maxRecDepth 100000 in
set_option maxHeartbeats 8000000 in
theorem nparts_no {Y : Na} {N : Nt} {w : World} (h : NetAt w Y N) (hT : Tabb w ∧ Table w) (hb : netB N = false) : Calls Tryd.prog 6 #[netV Y N] w fun e w' => e = .returned (.bool true) ∧ Below w.heap.size w w' := by
  have hkA : Kept w (w.alloc (.cells #[.slice Y.s N.sites.length Y.sc, .slice Y.u N.subs.length Y.uc, .slice Y.d N.weds.length Y.dc, .int .i64 N.low, .int .i64 N.high, .int .i64 N.step] 26)) none := Kept.alloc _ _ _ _ _
  have HNB := Hid.mk' (nbx_alloc h 26)
  have HK := Hid.mk' hkA
  have HT := Hid.mk' (hT.1.kept hkA)
  have HTb := Hid.mk' (hT.2.kept hkA)
  have HE := Hid.mk' (netE_no hb)
  clear h hT hkA hb
  go_enter Tryd.func6, Tryd.ntmps6
  go_wp2_with (go_at_call 14; refine (nalive_any HT.out HTb.out).mono ?_; rintro e w1 ⟨rfl, hk1⟩; obtain ⟨c0, c1, c2, c3, c4, c5, _⟩ := HNB.out.kept hk1)
  go_at_call 15
  refine (ngreat_any (HNB.out.net.kept hk1)).mono ?_
  rintro e w2 ⟨g, rfl, hg, hk2⟩
  have HG := Hid.mk' hg
  clear c0 c1 c2 c3 c4 c5 hg
  have K2 := Hid.mk' (hk1.tr hk2)
  clear hk1 hk2
  cases g
  case true =>
    go_wp2
    go_ret
    exact ⟨rfl, (HK.out.tr K2.out).below⟩
  obtain ⟨c0, c1, c2, c3, c4, c5, _⟩ := HNB.out.kept K2.out
  go_wp2_with (go_at_call 13; have hn := ncheck_any (HNB.out.net.kept K2.out) (HT.out.kept K2.out); rw [HE.out] at hn; refine hn.mono ?_; rintro e w3 ⟨rfl, hk3⟩; have K3 := Hid.mk' (K2.out.tr hk3); clear hk3 c0 c1 c2 c3 c4 c5; obtain ⟨c0, c1, c2, c3, c4, c5, _⟩ := HNB.out.kept K3.out)
  go_ret
  exact ⟨rfl, (HK.out.tr K3.out).below⟩
set_option maxRecDepth 100000 in
set_option maxHeartbeats 8000000 in
theorem nparts_yes {Y : Na} {N : Nt} {w : World} (h : NetAt w Y N) (hT : Tabb w ∧ Table w) (hb : netB N = true) : Calls Tryd.prog 6 #[netV Y N] w fun e w' => e = .returned (.bool true) ∧ Below w.heap.size w w' := by
  have hP := npos_may hb
  have hs1 := hP.ns
  have hu1 := hP.nu
  obtain ⟨ys, ysc, yu, yuc, yd, ydc, YX, yr, yt⟩ := Y
  obtain ⟨sb, so, es, _, _⟩ := h.s1.at_ (by omega)
  obtain ⟨ub, uo, eu, _, _⟩ := h.u1.at_ (by omega)
  dsimp only at es eu
  subst es eu
  have hkA : Kept w (w.alloc (.cells #[.slice (some ⟨sb, so, none⟩) N.sites.length ysc, .slice (some ⟨ub, uo, none⟩) N.subs.length yuc, .slice yd N.weds.length ydc, .int .i64 N.low, .int .i64 N.high, .int .i64 N.step] 26)) none := Kept.alloc _ _ _ _ _
  have HNB : Hid (Nbx (w.alloc (.cells #[.slice (some ⟨sb, so, none⟩) N.sites.length ysc, .slice (some ⟨ub, uo, none⟩) N.subs.length yuc, .slice yd N.weds.length ydc, .int .i64 N.low, .int .i64 N.high, .int .i64 N.step] 26)) w.heap.size ⟨some ⟨sb, so, none⟩, ysc, some ⟨ub, uo, none⟩, yuc, yd, ydc, YX, yr, yt⟩ N) := nbx_alloc h 26
  have HK := Hid.mk' hkA
  have HT := Hid.mk' (hT.1.kept hkA)
  have HTb := Hid.mk' (hT.2.kept hkA)
  have HE := Hid.mk' (netE_yes hb)
  have HY := Hid.mk' (keyed_may hb)
  have HF := Hid.mk' h.ur
  clear h hT hkA hb hP
  go_enter Tryd.func6, Tryd.ntmps6
  go_wp2_with (go_at_call 14; refine (nalive_any HT.out HTb.out).mono ?_; rintro e w1 ⟨rfl, hk1⟩; obtain ⟨c0, c1, c2, c3, c4, c5, _⟩ := HNB.out.kept hk1; dsimp only at c0 c1 c2)
  go_at_call 15
  refine (ngreat_any (HNB.out.net.kept hk1)).mono ?_
  rintro e w2 ⟨g, rfl, hg, hk2⟩
  have HG := Hid.mk' hg
  clear c0 c1 c2 c3 c4 c5 hg
  have K2 := Hid.mk' (hk1.tr hk2)
  clear hk1 hk2
  cases g
  case true =>
    go_wp2
    go_ret
    exact ⟨rfl, (HK.out.tr K2.out).below⟩
  obtain ⟨c0, c1, c2, c3, c4, c5, _⟩ := HNB.out.kept K2.out
  dsimp only at c0 c1 c2
  go_wp2_with (go_at_call 13; have hn := ncheck_any (HNB.out.net.kept K2.out) (HT.out.kept K2.out); rw [HE.out] at hn; refine hn.mono ?_; rintro e w3 ⟨rfl, hk3⟩; have K3 := Hid.mk' (K2.out.tr hk3); clear hk3 c0 c1 c2 c3 c4 c5; obtain ⟨c0, c1, c2, c3, c4, c5, _⟩ := HNB.out.kept K3.out; dsimp only at c0 c1 c2)
  clear c0 c1 c2 c3 c4 c5
  generalize hW : (w.alloc (.cells #[.slice (some ⟨sb, so, none⟩) N.sites.length ysc, .slice (some ⟨ub, uo, none⟩) N.subs.length yuc, .slice yd N.weds.length ydc, .int .i64 N.low, .int .i64 N.high, .int .i64 N.step] 26)) = W at *
  clear hW
  go_loopw [4] (fun i wr => ∃ k : Nat, k ≤ N.sites.length ∧ i = .int .i64 k ∧ Kept W wr none) (fun i _ => N.sites.length - (intOf i).toNat)
  case atStart => exact ⟨0, Nat.zero_le _, rfl, K3.out⟩
  case round =>
    obtain ⟨i, hi, rfl, hkr⟩ := hrel
    obtain ⟨c0, c1, c2, c3, c4, c5, _⟩ := HNB.out.kept hkr
    dsimp only at c0 c1 c2
    by_cases hlt : i < N.sites.length
    · obtain ⟨u, hu, hf, h1, h0⟩ := HY.out.sub i hlt
      have HF1 := Hid.mk' hf
      have HI := Hid.mk' (HY.out.id i hlt)
      have H1 := Hid.mk' h1
      have H0 := Hid.mk' h0
      have hid := ((HNB.out.net.s2 i hlt).nr).1
      have HID : Hid (∀ w', Kept W w' none → w'.cell? ⟨sb, so + i * 12, none⟩ = some (.int .i64 (N.sites.getD i s0).id)) := fun w' q => by
        obtain ⟨sb', so', es', _, hc⟩ := (HNB.out.kept q).net.s1.at_ (by omega)
        injection es' with es'
        injection es' with es1 es2
        subst es1 es2
        exact hc i hlt 0 (by omega)
      have hu2 : ¬ N.subs.length ≤ u := by omega
      have hu4 : ¬ (u : Int) < 0 := by omega
      clear hf h1 h0
      generalize (N.sites.getD i s0).id = ID at *
      go_wp2_with (go_at_call 9; have hn := sub_net (HNB.out.net.kept hkr) (HT.out.kept hkr) (x := (i : Int)) (by unfold i64B; omega); rw [HF1.out] at hn; refine hn.mono ?_; rintro e wS ⟨rfl, hkS⟩; have KS := Hid.mk' (hkr.tr hkS); clear hkS c0 c1 c2 c3 c4 c5)
      have f0 : ∀ w', Kept W w' none → w'.cell? ⟨w.heap.size, 0, none⟩ = some (.slice (some ⟨sb, so, none⟩) N.sites.length ysc) := fun w' q => (HNB.out.kept q).c0
      have f1 : ∀ w', Kept W w' none → w'.cell? ⟨w.heap.size, 1, none⟩ = some (.slice (some ⟨ub, uo, none⟩) N.subs.length yuc) := fun w' q => (HNB.out.kept q).c1
      have f2 : ∀ w', Kept W w' none → w'.cell? ⟨w.heap.size, 2, none⟩ = some (.slice yd N.weds.length ydc) := fun w' q => (HNB.out.kept q).c2
      have f3 : ∀ w', Kept W w' none → w'.cell? ⟨w.heap.size, 3, none⟩ = some (.int .i64 N.low) := fun w' q => (HNB.out.kept q).c3
      have f4 : ∀ w', Kept W w' none → w'.cell? ⟨w.heap.size, 4, none⟩ = some (.int .i64 N.high) := fun w' q => (HNB.out.kept q).c4
      have f5 : ∀ w', Kept W w' none → w'.cell? ⟨w.heap.size, 5, none⟩ = some (.int .i64 N.step) := fun w' q => (HNB.out.kept q).c5
      have f6 : ∀ w', Kept W w' none → w'.cell? ⟨sb, so + i * 12, none⟩ = some (.int .i64 ID) := HID.out
      refine Code.wp_mono (Q := RgP ?A1 W) ?cont1 ?reg1
      case reg1 =>
        repeat (rename_i hh; clear hh)
        refine wp_region_held_drew (S := fun w' => Kept W w' none) (by kernel_rfl) (Kept.tr KS.out (Kept.drew _ _)) (fun hHeld => ?_)
        refine held_take (i := 0) (v := ?v2) rfl rfl (by kernel_rfl) (by kernel_rfl) (by kernel_rfl) (fun _ _ _ h => h) (Or.inl ⟨by rfl, ?hy2⟩) hHeld ?rest2
        case hy2 => first | (intro w hSw; (try dsimp only at hSw); go_simp; done) | (intro w hSw; (try dsimp only at hSw); go_simp; with_reducible rfl)
        try simp only [List.setIfInBounds_toArray, List.set_cons_zero, List.set_cons_succ]
        refine held_take (i := 1) (v := ?v3) rfl rfl (by kernel_rfl) (by kernel_rfl) (by kernel_rfl) (fun _ _ _ h => h) (Or.inl ⟨by rfl, ?hy3⟩) hHeld ?rest3
        case hy3 => first | (intro w hSw; (try dsimp only at hSw); go_simp; done) | (intro w hSw; (try dsimp only at hSw); go_simp; with_reducible rfl)
        try simp only [List.setIfInBounds_toArray, List.set_cons_zero, List.set_cons_succ]
        refine held_take (i := 2) (v := ?v4) rfl rfl (by kernel_rfl) (by kernel_rfl) (by kernel_rfl) (fun _ _ _ h => h) (Or.inl ⟨by rfl, ?hy4⟩) hHeld ?rest4
        case hy4 => first | (intro w hSw; (try dsimp only at hSw); go_simp; done) | (intro w hSw; (try dsimp only at hSw); go_simp; with_reducible rfl)
        try simp only [List.setIfInBounds_toArray, List.set_cons_zero, List.set_cons_succ]
        refine held_take (i := 3) (v := ?v5) rfl rfl (by kernel_rfl) (by kernel_rfl) (by kernel_rfl) (fun _ _ _ h => h) (Or.inl ⟨by rfl, ?hy5⟩) hHeld ?rest5
        case hy5 => first | (intro w hSw; (try dsimp only at hSw); go_simp; done) | (intro w hSw; (try dsimp only at hSw); go_simp; with_reducible rfl)
        try simp only [List.setIfInBounds_toArray, List.set_cons_zero, List.set_cons_succ]
        refine held_take (i := 4) (v := ?v6) rfl rfl (by kernel_rfl) (by kernel_rfl) (by kernel_rfl) (fun _ _ _ h => h) (Or.inl ⟨by rfl, ?hy6⟩) hHeld ?rest6
        case hy6 => first | (intro w hSw; (try dsimp only at hSw); go_simp; done) | (intro w hSw; (try dsimp only at hSw); go_simp; with_reducible rfl)
        try simp only [List.setIfInBounds_toArray, List.set_cons_zero, List.set_cons_succ]
        refine held_take (i := 5) (v := ?v7) rfl rfl (by kernel_rfl) (by kernel_rfl) (by kernel_rfl) (fun _ _ _ h => h) (Or.inl ⟨by rfl, ?hy7⟩) hHeld ?rest7
        case hy7 => first | (intro w hSw; (try dsimp only at hSw); go_simp; done) | (intro w hSw; (try dsimp only at hSw); go_simp; with_reducible rfl)
        try simp only [List.setIfInBounds_toArray, List.set_cons_zero, List.set_cons_succ]
        refine held_take (i := 6) (v := ?v8) rfl rfl (by kernel_rfl) (by kernel_rfl) (by kernel_rfl) (fun _ _ _ h => h) (Or.inl ⟨by rfl, ?hy8⟩) hHeld ?rest8
        case hy8 => first | (intro w hSw; (try dsimp only at hSw); go_simp; done) | (intro w hSw; (try dsimp only at hSw); go_simp; with_reducible rfl)
        try simp only [List.setIfInBounds_toArray, List.set_cons_zero, List.set_cons_succ]
        refine wpAnyH_ready (rs := [7]) (by kernel_rfl) (by simp) ?_
        refine AllReadyH.cons rfl (fun K hK => ?_) AllReadyH.nil
        go_simp
        go_wp2_with (go_at_call 10; have hn := site_net (HNB.out.net.kept hHeld) (HT.out.kept hHeld) (x := ID) hid; rw [HI.out] at hn; refine hn.mono ?_; rintro e wS ⟨rfl, hkS⟩; have hKS : Kept W wS none := Kept.tr hHeld hkS)
        replace hK := hK.out
        refine hK _ _ hKS (fun hHeld => ?_)
        clear hK K
        refine held_take (i := 8) (v := ?v9) rfl rfl (by kernel_rfl) (by kernel_rfl) (by kernel_rfl) (fun _ _ _ h => h) (Or.inl ⟨by rfl, ?hy9⟩) hHeld ?rest9
        case hy9 => first | (intro w hSw; (try dsimp only at hSw); go_simp; done) | (intro w hSw; (try dsimp only at hSw); go_simp; with_reducible rfl)
        try simp only [List.setIfInBounds_toArray, List.set_cons_zero, List.set_cons_succ]
        refine held_take (i := 9) (v := ?v10) rfl rfl (by kernel_rfl) (by kernel_rfl) (by kernel_rfl) (fun _ _ _ h => h) (Or.inl ⟨by rfl, ?hy10⟩) hHeld ?rest10
        case hy10 => first | (intro w hSw; (try dsimp only at hSw); go_simp; done) | (intro w hSw; (try dsimp only at hSw); go_simp; with_reducible rfl)
        try simp only [List.setIfInBounds_toArray, List.set_cons_zero, List.set_cons_succ]
        refine held_take (i := 10) (v := ?v11) rfl rfl (by kernel_rfl) (by kernel_rfl) (by kernel_rfl) (fun _ _ _ h => h) (Or.inl ⟨by rfl, ?hy11⟩) hHeld ?rest11
        case hy11 => first | (intro w hSw; (try dsimp only at hSw); go_simp; done) | (intro w hSw; (try dsimp only at hSw); go_simp; with_reducible rfl)
        try simp only [List.setIfInBounds_toArray, List.set_cons_zero, List.set_cons_succ]
        refine held_take (i := 11) (v := ?v12) rfl rfl (by kernel_rfl) (by kernel_rfl) (by kernel_rfl) (fun _ _ _ h => h) (Or.inl ⟨by rfl, ?hy12⟩) hHeld ?rest12
        case hy12 => first | (intro w hSw; (try dsimp only at hSw); go_simp; done) | (intro w hSw; (try dsimp only at hSw); go_simp; with_reducible rfl)
        try simp only [List.setIfInBounds_toArray, List.set_cons_zero, List.set_cons_succ]
        refine held_take (i := 12) (v := ?v13) rfl rfl (by kernel_rfl) (by kernel_rfl) (by kernel_rfl) (fun _ _ _ h => h) (Or.inl ⟨by rfl, ?hy13⟩) hHeld ?rest13
        case hy13 => first | (intro w hSw; (try dsimp only at hSw); go_simp; done) | (intro w hSw; (try dsimp only at hSw); go_simp; with_reducible rfl)
        try simp only [List.setIfInBounds_toArray, List.set_cons_zero, List.set_cons_succ]
        refine wpAnyH_done (by kernel_rfl) ?_ _
        refine And.intro ?_ hHeld
        with_reducible rfl
      case cont1 =>
      intro e a' w' hq
      obtain ⟨rfl, rfl, hkq⟩ := hq.out
      skip
      clear KS f0 f1 f2 f3 f4 f5 f6
      obtain ⟨c0, c1, c2, c3, c4, c5, _⟩ := HNB.out.kept hkq
      dsimp only at c0 c1 c2
      go_wp2
      clear c0 c1 c2 c3 c4 c5
      go_loopw [9] (fun k wr => ∃ j : Nat, j ≤ N.subs.length ∧ k = .int .i64 j ∧ Kept W wr none) (fun k _ => N.subs.length - (intOf k).toNat)
      case atStart => exact ⟨0, Nat.zero_le _, rfl, hkq⟩
      case round =>
        clear hkq hkr
        obtain ⟨j, hj, rfl, hkj⟩ := hrel
        obtain ⟨c0, c1, c2, c3, c4, c5, _⟩ := HNB.out.kept hkj
        dsimp only at c0 c1 c2
        by_cases hjl : j < N.subs.length
        · have hcnt : Hid (inSub N j i = if j = u then 1 else 0) := by
            show inSub N j i = _
            by_cases e : j = u
            · rw [if_pos e, e]; exact H1.out
            · rw [if_neg e]; exact H0.out j hjl e
          have HCN : Hid (cntI (N.subs.getD j u0).sites i (N.subs.getD j u0).sites.length = if j = u then 1 else 0) := hcnt.out
          have HCE : Hid (∀ w', Kept W w' none → w'.cell? ⟨ub, uo + j * 2, none⟩ = some (.slice (yr j).1 (N.subs.getD j u0).sites.length (yr j).2) ∧ Ints w' (yr j).1 (N.subs.getD j u0).sites.length (yr j).2 (N.subs.getD j u0).sites) := fun w' q => by
            obtain ⟨ub', uo', eu', _, hc⟩ := (HNB.out.kept q).net.u1.at_ (by omega)
            injection eu' with eu'
            injection eu' with eu1 eu2
            subst eu1 eu2
            exact ⟨hc j hjl 0 (by omega), (HNB.out.kept q).net.u2 j hjl⟩
          clear hcnt
          generalize yr j = rj at *
          obtain ⟨ra, rc⟩ := rj
          dsimp only at HCE
          generalize (N.subs.getD j u0).sites = l at *
          have hl9 : l.length ≤ 9223372036854775807 := by have := (HCE.out _ hkj).2.cap.room; have := (HCE.out _ hkj).2.cap.max; omega
          go_wp2
          clear c0 c1 c2 c3 c4 c5
          go_loopw [10, 11] (fun m q wr => ∃ t : Nat, t ≤ l.length ∧ q = .int .i64 t ∧ m = .int .i64 ((cntI l i t : Nat) : Int) ∧ cntI l i t ≤ t ∧ Kept W wr none) (fun _ q _ => l.length - (intOf q).toNat)
          case atStart => exact ⟨0, Nat.zero_le _, rfl, rfl, Nat.le_refl _, hkj⟩
          case round =>
            clear hkj
            obtain ⟨t, ht, rfl, rfl, hct, hkt⟩ := hrel
            obtain ⟨c0, c1, c2, c3, c4, c5, _⟩ := HNB.out.kept hkt
            dsimp only at c0 c1 c2
            obtain ⟨e0, hIn⟩ := HCE.out _ hkt
            by_cases htl : t < l.length
            · obtain ⟨lb, lo, el, _, hlc⟩ := hIn.at_ (by omega)
              subst el
              have hx := hlc t htl
              clear hlc hIn
              have HS : Hid (cntI l i (t + 1) = cntI l i t + if l.getD t 0 = (i : Int) then 1 else 0) := rfl
              generalize l.getD t 0 = x at *
              by_cases hxi : x = (i : Int)
              · subst hxi
                have HS1 : Hid (cntI l i (t + 1) = cntI l i t + 1) := by show cntI l i (t + 1) = _; rw [HS.out, if_pos rfl]
                generalize cntI l i t = ct at *
                go_wp2
                go_roundw
                case rel => exact ⟨t + 1, by omega, by go_num, by rw [HS1.out]; go_num, by rw [HS1.out]; omega, hkt⟩
                case measure => simp [intOf]; omega
              · have HS1 : Hid (cntI l i (t + 1) = cntI l i t) := by show cntI l i (t + 1) = _; rw [HS.out, if_neg hxi]; rfl
                generalize cntI l i t = ct at *
                go_wp2
                go_roundw
                case rel => exact ⟨t + 1, by omega, by go_num, by rw [HS1.out], by rw [HS1.out]; omega, hkt⟩
                case measure => simp [intOf]; omega
            · have e : t = l.length := by omega
              subst e
              clear hIn
              by_cases eju : j = u
              · have hv : ((cntI l i l.length : Nat) : Int) = 1 := by rw [HCN.out, if_pos eju]; rfl
                rw [hv]
                clear hv hct HCN HCE
                subst eju
                go_wp2
                go_roundw
                case rel => exact ⟨j + 1, by omega, by go_num, hkt⟩
                case measure => simp [intOf]; omega
              · have hv : ((cntI l i l.length : Nat) : Int) = 0 := by rw [HCN.out, if_neg eju]; rfl
                have eju2 : ¬ (j : Int) = (u : Int) := by omega
                rw [hv]
                clear hv hct HCN HCE
                go_wp2
                go_roundw
                case rel => exact ⟨j + 1, by omega, by go_num, hkt⟩
                case measure => simp [intOf]; omega
        · have e : j = N.subs.length := by omega
          subst e
          go_wp2
          go_roundw
          case rel => exact ⟨i + 1, by omega, by go_num, hkj⟩
          case measure => simp [intOf]; omega
    · have e : i = N.sites.length := by omega
      subst e
      go_wp2
      clear c0 c1 c2 c3 c4 c5
      go_loopw [12] (fun k wx => ∃ j : Nat, j ≤ N.subs.length ∧ k = .int .i64 j ∧ Kept W wx none) (fun k _ => N.subs.length - (intOf k).toNat)
      case atStart => exact ⟨0, Nat.zero_le _, rfl, hkr⟩
      case round =>
        clear hkr
        obtain ⟨j, hj, rfl, hkx⟩ := hrel
        obtain ⟨c0, c1, c2, c3, c4, c5, _⟩ := HNB.out.kept hkx
        dsimp only at c0 c1 c2
        by_cases hjl : j < N.subs.length
        · have HI := Hid.mk' (HY.out.crit j hjl)
          have hcr := HF.out (N.subs.getD j u0) (by simp [hjl])
          have f6 : ∀ w', Kept W w' none → w'.cell? ⟨ub, uo + j * 2 + 1, none⟩ = some (.int .i64 (N.subs.getD j u0).critical) := fun w' q => by
            obtain ⟨ub', uo', eu', _, hc⟩ := (HNB.out.kept q).net.u1.at_ (by omega)
            injection eu' with eu'
            injection eu' with eu1 eu2
            subst eu1 eu2
            exact hc j hjl 1 (by omega)
          generalize (N.subs.getD j u0).critical = CR at *
          go_wp2
          clear c0 c1 c2 c3 c4 c5
          have f0 : ∀ w', Kept W w' none → w'.cell? ⟨w.heap.size, 0, none⟩ = some (.slice (some ⟨sb, so, none⟩) N.sites.length ysc) := fun w' q => (HNB.out.kept q).c0
          have f1 : ∀ w', Kept W w' none → w'.cell? ⟨w.heap.size, 1, none⟩ = some (.slice (some ⟨ub, uo, none⟩) N.subs.length yuc) := fun w' q => (HNB.out.kept q).c1
          have f2 : ∀ w', Kept W w' none → w'.cell? ⟨w.heap.size, 2, none⟩ = some (.slice yd N.weds.length ydc) := fun w' q => (HNB.out.kept q).c2
          have f3 : ∀ w', Kept W w' none → w'.cell? ⟨w.heap.size, 3, none⟩ = some (.int .i64 N.low) := fun w' q => (HNB.out.kept q).c3
          have f4 : ∀ w', Kept W w' none → w'.cell? ⟨w.heap.size, 4, none⟩ = some (.int .i64 N.high) := fun w' q => (HNB.out.kept q).c4
          have f5 : ∀ w', Kept W w' none → w'.cell? ⟨w.heap.size, 5, none⟩ = some (.int .i64 N.step) := fun w' q => (HNB.out.kept q).c5
          refine Code.wp_mono (Q := RgP ?A14 W) ?cont14 ?reg14
          case reg14 =>
            repeat (rename_i hh; clear hh)
            refine wp_region_held_drew (S := fun w' => Kept W w' none) (by kernel_rfl) (Kept.tr hkx (Kept.drew _ _)) (fun hHeld => ?_)
            refine held_take (i := 0) (v := ?v15) rfl rfl (by kernel_rfl) (by kernel_rfl) (by kernel_rfl) (fun _ _ _ h => h) (Or.inl ⟨by rfl, ?hy15⟩) hHeld ?rest15
            case hy15 => first | (intro w hSw; (try dsimp only at hSw); go_simp; done) | (intro w hSw; (try dsimp only at hSw); go_simp; with_reducible rfl)
            try simp only [List.setIfInBounds_toArray, List.set_cons_zero, List.set_cons_succ]
            refine held_take (i := 1) (v := ?v16) rfl rfl (by kernel_rfl) (by kernel_rfl) (by kernel_rfl) (fun _ _ _ h => h) (Or.inl ⟨by rfl, ?hy16⟩) hHeld ?rest16
            case hy16 => first | (intro w hSw; (try dsimp only at hSw); go_simp; done) | (intro w hSw; (try dsimp only at hSw); go_simp; with_reducible rfl)
            try simp only [List.setIfInBounds_toArray, List.set_cons_zero, List.set_cons_succ]
            refine held_take (i := 2) (v := ?v17) rfl rfl (by kernel_rfl) (by kernel_rfl) (by kernel_rfl) (fun _ _ _ h => h) (Or.inl ⟨by rfl, ?hy17⟩) hHeld ?rest17
            case hy17 => first | (intro w hSw; (try dsimp only at hSw); go_simp; done) | (intro w hSw; (try dsimp only at hSw); go_simp; with_reducible rfl)
            try simp only [List.setIfInBounds_toArray, List.set_cons_zero, List.set_cons_succ]
            refine held_take (i := 3) (v := ?v18) rfl rfl (by kernel_rfl) (by kernel_rfl) (by kernel_rfl) (fun _ _ _ h => h) (Or.inl ⟨by rfl, ?hy18⟩) hHeld ?rest18
            case hy18 => first | (intro w hSw; (try dsimp only at hSw); go_simp; done) | (intro w hSw; (try dsimp only at hSw); go_simp; with_reducible rfl)
            try simp only [List.setIfInBounds_toArray, List.set_cons_zero, List.set_cons_succ]
            refine held_take (i := 4) (v := ?v19) rfl rfl (by kernel_rfl) (by kernel_rfl) (by kernel_rfl) (fun _ _ _ h => h) (Or.inl ⟨by rfl, ?hy19⟩) hHeld ?rest19
            case hy19 => first | (intro w hSw; (try dsimp only at hSw); go_simp; done) | (intro w hSw; (try dsimp only at hSw); go_simp; with_reducible rfl)
            try simp only [List.setIfInBounds_toArray, List.set_cons_zero, List.set_cons_succ]
            refine held_take (i := 5) (v := ?v20) rfl rfl (by kernel_rfl) (by kernel_rfl) (by kernel_rfl) (fun _ _ _ h => h) (Or.inl ⟨by rfl, ?hy20⟩) hHeld ?rest20
            case hy20 => first | (intro w hSw; (try dsimp only at hSw); go_simp; done) | (intro w hSw; (try dsimp only at hSw); go_simp; with_reducible rfl)
            try simp only [List.setIfInBounds_toArray, List.set_cons_zero, List.set_cons_succ]
            refine held_take (i := 6) (v := ?v21) rfl rfl (by kernel_rfl) (by kernel_rfl) (by kernel_rfl) (fun _ _ _ h => h) (Or.inl ⟨by rfl, ?hy21⟩) hHeld ?rest21
            case hy21 => first | (intro w hSw; (try dsimp only at hSw); go_simp; done) | (intro w hSw; (try dsimp only at hSw); go_simp; with_reducible rfl)
            try simp only [List.setIfInBounds_toArray, List.set_cons_zero, List.set_cons_succ]
            refine wpAnyH_ready (rs := [7]) (by kernel_rfl) (by simp) ?_
            refine AllReadyH.cons rfl (fun K hK => ?_) AllReadyH.nil
            go_simp
            go_wp2_with (go_at_call 9; have hn := sub_net (HNB.out.net.kept hHeld) (HT.out.kept hHeld) (x := CR) hcr; rw [HI.out] at hn; refine hn.mono ?_; rintro e wS ⟨rfl, hkS⟩; have hKS : Kept W wS none := Kept.tr hHeld hkS)
            replace hK := hK.out
            refine hK _ _ hKS (fun hHeld => ?_)
            clear hK K
            refine held_take (i := 8) (v := ?v22) rfl rfl (by kernel_rfl) (by kernel_rfl) (by kernel_rfl) (fun _ _ _ h => h) (Or.inl ⟨by rfl, ?hy22⟩) hHeld ?rest22
            case hy22 => first | (intro w hSw; (try dsimp only at hSw); go_simp; done) | (intro w hSw; (try dsimp only at hSw); go_simp; with_reducible rfl)
            try simp only [List.setIfInBounds_toArray, List.set_cons_zero, List.set_cons_succ]
            refine held_take (i := 9) (v := ?v23) rfl rfl (by kernel_rfl) (by kernel_rfl) (by kernel_rfl) (fun _ _ _ h => h) (Or.inl ⟨by rfl, ?hy23⟩) hHeld ?rest23
            case hy23 => first | (intro w hSw; (try dsimp only at hSw); go_simp; done) | (intro w hSw; (try dsimp only at hSw); go_simp; with_reducible rfl)
            try simp only [List.setIfInBounds_toArray, List.set_cons_zero, List.set_cons_succ]
            refine held_take (i := 10) (v := ?v24) rfl rfl (by kernel_rfl) (by kernel_rfl) (by kernel_rfl) (fun _ _ _ h => h) (Or.inl ⟨by rfl, ?hy24⟩) hHeld ?rest24
            case hy24 => first | (intro w hSw; (try dsimp only at hSw); go_simp; done) | (intro w hSw; (try dsimp only at hSw); go_simp; with_reducible rfl)
            try simp only [List.setIfInBounds_toArray, List.set_cons_zero, List.set_cons_succ]
            refine held_take (i := 11) (v := ?v25) rfl rfl (by kernel_rfl) (by kernel_rfl) (by kernel_rfl) (fun _ _ _ h => h) (Or.inl ⟨by rfl, ?hy25⟩) hHeld ?rest25
            case hy25 => first | (intro w hSw; (try dsimp only at hSw); go_simp; done) | (intro w hSw; (try dsimp only at hSw); go_simp; with_reducible rfl)
            try simp only [List.setIfInBounds_toArray, List.set_cons_zero, List.set_cons_succ]
            refine held_take (i := 12) (v := ?v26) rfl rfl (by kernel_rfl) (by kernel_rfl) (by kernel_rfl) (fun _ _ _ h => h) (Or.inl ⟨by rfl, ?hy26⟩) hHeld ?rest26
            case hy26 => first | (intro w hSw; (try dsimp only at hSw); go_simp; done) | (intro w hSw; (try dsimp only at hSw); go_simp; with_reducible rfl)
            try simp only [List.setIfInBounds_toArray, List.set_cons_zero, List.set_cons_succ]
            refine wpAnyH_done (by kernel_rfl) ?_ _
            refine And.intro ?_ hHeld
            with_reducible rfl
          case cont14 =>
          intro e a' w' hq
          obtain ⟨rfl, rfl, hkq⟩ := hq.out
          go_wp2
          go_roundw
          case rel => exact ⟨j + 1, by omega, by go_num, hkq⟩
          case measure => simp [intOf]; omega
        · have e : j = N.subs.length := by omega
          subst e
          go_wp2
          go_ret
          exact ⟨rfl, (HK.out.tr hkx).below⟩
theorem nparts_any {Y : Na} {N : Nt} {w : World} (h : NetAt w Y N) (hT : Tabb w ∧ Table w) : Calls Tryd.prog 6 #[netV Y N] w fun e w' => e = .returned (.bool true) ∧ Below w.heap.size w w' := by
  cases hb : netB N with
  | false => exact nparts_no h hT hb
  | true => exact nparts_yes h hT hb

end Go.Proofs.YtoahbpdgbiachaaDoor

