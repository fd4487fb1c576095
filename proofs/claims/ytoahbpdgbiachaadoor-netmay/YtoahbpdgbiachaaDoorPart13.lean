/-
  Part 13 of the texts that the proofs of this seat stand on.
-/
import Derived.Test.YtoahbpdgbiachaaDoorPart10
import Derived.Test.YtoahbpdgbiachaaDoorPart12
/-
  THE WALK of NetMay.
-/
namespace Go.Proofs.YtoahbpdgbiachaaDoor
open Go.RowKit Go.Lib Go.Deep
set_option linter.unusedVariables false
set_option linter.unusedSimpArgs false

/-- A drawn region's one way. -/
def RgM (A : Act) (W : World) (e : Exit) (a : Act) (w : World) : Prop := match e with
  | .normal => a = A ∧ Kept W w none
  | _ => False
theorem RgM.out {A : Act} {W w : World} {e : Exit} {a : Act} (h : RgM A W e a w) : e = .normal ∧ a = A ∧ Kept W w none := by
  cases e with
  | normal => exact ⟨rfl, h.1, h.2⟩
  | _ => exact h.elim
theorem findV_no {N : Nt} (h : netB N = false) (q : Mk) : findV N q = (0, 60) := by
  unfold netB at h
  unfold findV
  cases hl : lookF N with
  | none => rfl
  | some M => rw [hl] at h; cases h
/-- What is asked of a region that may be, and the document's answer. -/
def AskP (f : Int × Int) (r : Int) : Prop := (∃ u : Nat, f = ((u : Int), 0) ∧ r = (u : Int)) ∨ (f = (0, 2) ∧ r = -1)
theorem inSub_mem {N : Nt} {j : Nat} {x : Int} : decide (x ∈ (N.subs.getD j u0).sites) = decide (inSub N j x ≠ 0) := by
  have := cntI_in (x := x) (l := (N.subs.getD j u0).sites)
  unfold inSub
  by_cases h : x ∈ (N.subs.getD j u0).sites
  · rw [decide_eq_true h, decide_eq_true (this.1 h)]
  · rw [decide_eq_false h, decide_eq_false (fun q => h (this.2 q))]
theorem ask_sub {N : Nt} {x : Int} (hb : netB N = true) : ∃ r, AskP (findV N (1, x, 0)) r ∧ ∀ r', firstB N.subs.length (fun i => decide (x ∈ (N.subs.getD i u0).sites)) r' → r' = r := by
  have hK := keyed_may hb
  cases hin : inB x 0 ((N.sites.length : Int) - 1) with
  | false =>
    obtain ⟨h1, h2⟩ := hK.noSub x hin
    refine ⟨-1, .inr ⟨h1, rfl⟩, fun r' hr => ?_⟩
    rcases hr with ⟨k, hk, hp, _⟩ | ⟨_, e⟩
    · have : inSub N k x ≠ 0 := by have hp : decide (_ ∈ (N.subs.getD k u0).sites) = true := hp; rw [inSub_mem] at hp; exact of_decide_eq_true hp
      exact absurd (h2 k hk) this
    · exact e
  | true =>
    have hb2 := inB_iff.1 hin
    obtain ⟨i, rfl⟩ : ∃ i : Nat, x = (i : Int) := ⟨x.toNat, by omega⟩
    obtain ⟨u, hu, h1, h2, h3⟩ := hK.sub i (by omega)
    refine ⟨u, .inl ⟨u, h1, rfl⟩, fun r' hr => ?_⟩
    rcases hr with ⟨k, hk, hp, _, e⟩ | ⟨hn, _⟩
    · have hq : inSub N k i ≠ 0 := by have hp : decide (_ ∈ (N.subs.getD k u0).sites) = true := hp; rw [inSub_mem] at hp; exact of_decide_eq_true hp
      have : k = u := by
        by_cases e : k = u
        · exact e
        · exact absurd (h3 k hk e) hq
      rw [e, this]
    · have : decide ((i : Int) ∈ (N.subs.getD u u0).sites) = false := hn u hu
      rw [inSub_mem] at this
      have := of_decide_eq_false this
      omega
theorem ask_site {N : Nt} {x : Int} (hb : netB N = true) : ∃ r, AskP (findV N (0, x, 0)) r ∧ ∀ r', firstB N.sites.length (fun i => decide ((N.sites.getD i s0).id = x)) r' → r' = r := by
  have hK := keyed_may hb
  by_cases hex : ∃ i, i < N.sites.length ∧ (N.sites.getD i s0).id = x
  · obtain ⟨i, hi, rfl⟩ := hex
    refine ⟨i, .inl ⟨i, hK.id i hi, rfl⟩, fun r' hr => ?_⟩
    rcases hr with ⟨k, hk, hp, _, e⟩ | ⟨hn, _⟩
    · have h1 := hK.id k hk
      rw [of_decide_eq_true hp, hK.id i hi] at h1
      have := congrArg Prod.fst h1
      simp only at this
      omega
    · have := of_decide_eq_false (hn i hi)
      exact absurd rfl this
  · refine ⟨-1, .inr ⟨hK.noId x (fun i hi e => hex ⟨i, hi, e⟩), rfl⟩, fun r' hr => ?_⟩
    rcases hr with ⟨k, hk, hp, _⟩ | ⟨_, e⟩
    · exact absurd ⟨k, hk, of_decide_eq_true hp⟩ hex
    · exact e
set_option maxRecDepth 100000 in
set_option maxHeartbeats 8000000 in
theorem nmay_false {Y : Na} {N : Nt} {w : World} {x : Int} (h : NetAt w Y N) (hx : i64B x) (hT : Tabb w) (hb : netB N = false) : Calls Tryd.prog 4 #[netV Y N, .int .i64 x] w fun e w' => e = .returned (.bool true) ∧ Below w.heap.size w w' := by
  have hkA : Kept w (w.alloc (.cells #[.slice Y.s N.sites.length Y.sc, .slice Y.u N.subs.length Y.uc, .slice Y.d N.weds.length Y.dc, .int .i64 N.low, .int .i64 N.high, .int .i64 N.step] 26)) none := Kept.alloc _ _ _ _ _
  have HN0 := Hid.mk' (nbx_alloc h 26)
  have HK := Hid.mk' hkA
  have HT := Hid.mk' (hT.kept hkA)
  have HX := Hid.mk' hx
  have HB := Hid.mk' hb
  have HE := Hid.mk' (netE_no1 hb)
  have HF1 := Hid.mk' (findV_no hb (1, x, 0))
  have HF2 := Hid.mk' (findV_no hb (0, x, 0))
  clear h hkA hT hx hb
  go_enter Tryd.func4, Tryd.ntmps4
  go_wp2_with (go_at_call 16; skip)
  go_at_call 15
  refine (ngreat_any HN0.out.net).mono ?_
  rintro e w1 ⟨g, rfl, hg, hk1⟩
  have HG := Hid.mk' hg
  have K1 := Hid.mk' hk1
  clear hg hk1
  obtain ⟨c0, c1, c2, c3, c4, c5, _⟩ := HN0.out.kept K1.out
  cases g
  case true =>
    go_wp2
    go_ret
    exact ⟨rfl, (HK.out.tr K1.out).below⟩
  have hF : NFew N := HG.out rfl
  have HF := Hid.mk' hF
  clear hF
  go_wp2_with (first
    | (go_at_call 17; have hn := rcheck6_any (HNB.out.net.kept (Kept.refl (w2.alloc (.cells #[.slice Z.s N.sites.length Z.sc, .slice Z.u N.subs.length Z.uc, .slice Z.d N.weds.length Z.dc, .int .i64 N.low, .int .i64 N.high, .int .i64 N.step] 26)) none)) HF.out; rw [HE.out] at hn; refine hn.mono ?_; rintro e w3 ⟨rfl, hk3⟩; have K3 := Hid.mk' hk3; clear hk3; clear c0 c1 c2 c3 c4 c5 d0 d1 d2 d3 d4 d5; obtain ⟨c0, c1, c2, c3, c4, c5, _⟩ := HNB.out.kept K3.out; obtain ⟨d0, d1, d2, d3, d4, d5, _⟩ := HOW.out.kept K3.out)
    | (have hgo := K3; clear hgo; go_at_call 13; have hn := ncheck_any (HOW.out.net.kept K3.out) (HTW.out.kept K3.out); rw [HE.out] at hn; refine hn.mono ?_; rintro e w4 ⟨rfl, hk4⟩; have K4 := Hid.mk' (K3.out.tr hk4); clear hk4; clear c0 c1 c2 c3 c4 c5 d0 d1 d2 d3 d4 d5; obtain ⟨c0, c1, c2, c3, c4, c5, _⟩ := HNB.out.kept K4.out; obtain ⟨d0, d1, d2, d3, d4, d5, _⟩ := HOW.out.kept K4.out)
    | (have hgo := K4; clear hgo; go_at_call 9; have hn := sub_net (HOW.out.net.kept K4.out) (HTW.out.kept K4.out) HX.out; rw [HF1.out] at hn; refine hn.mono ?_; rintro e w5 ⟨rfl, hk5⟩; have K5 := Hid.mk' (K4.out.tr hk5); clear hk5; clear c0 c1 c2 c3 c4 c5 d0 d1 d2 d3 d4 d5; obtain ⟨c0, c1, c2, c3, c4, c5, _⟩ := HNB.out.kept K5.out; obtain ⟨d0, d1, d2, d3, d4, d5, _⟩ := HOW.out.kept K5.out)
    | (have hgo := K5; clear hgo; go_at_call 10; have hn := site_net (HOW.out.net.kept K5.out) (HTW.out.kept K5.out) HX.out; rw [HF2.out] at hn; refine hn.mono ?_; rintro e w6 ⟨rfl, hk6⟩; have K6 := Hid.mk' (K5.out.tr hk6); clear hk6; clear c0 c1 c2 c3 c4 c5 d0 d1 d2 d3 d4 d5; obtain ⟨c0, c1, c2, c3, c4, c5, _⟩ := HNB.out.kept K6.out; obtain ⟨d0, d1, d2, d3, d4, d5, _⟩ := HOW.out.kept K6.out)
    | (have hgo := K6; clear hgo; go_at_call 11; refine (ncycles_no (HOW.out.net.kept K6.out) (HTW.out.kept K6.out) HB.out).mono ?_; rintro e w7 ⟨rfl, hk7⟩; have K7 := Hid.mk' (K6.out.tr hk7); clear hk7; clear c0 c1 c2 c3 c4 c5 d0 d1 d2 d3 d4 d5; obtain ⟨c0, c1, c2, c3, c4, c5, _⟩ := HNB.out.kept K7.out; obtain ⟨d0, d1, d2, d3, d4, d5, _⟩ := HOW.out.kept K7.out)
    | (go_at_call 16; refine (ntwin_any (HN0.out.net.kept K1.out) HF.out).mono ?_; rintro e w2 ⟨Z, rfl, hN2, hk2⟩; have K2 := Hid.mk' (K1.out.tr hk2); have H2 := Hid.mk' hN2; clear hk2 hN2 c0 c1 c2 c3 c4 c5; have HOW := Hid.mk' (nbx_alloc H2.out 26); have K2A := Hid.mk' (K2.out.tr (Kept.alloc w2 #[.slice Z.s N.sites.length Z.sc, .slice Z.u N.subs.length Z.uc, .slice Z.d N.weds.length Z.dc, .int .i64 N.low, .int .i64 N.high, .int .i64 N.step] 26 (0, 0) none)); have HNB := Hid.mk' (HN0.out.kept K2A.out); have HTW := Hid.mk' (HT.out.kept K2A.out); obtain ⟨c0, c1, c2, c3, c4, c5, _⟩ := HNB.out; obtain ⟨d0, d1, d2, d3, d4, d5, _⟩ := HOW.out; have W := (w2.alloc (.cells #[.slice Z.s N.sites.length Z.sc, .slice Z.u N.subs.length Z.uc, .slice Z.d N.weds.length Z.dc, .int .i64 N.low, .int .i64 N.high, .int .i64 N.step] 26)); have hW2 := trivial))
  go_ret
  exact ⟨rfl, (HK.out.tr (K2A.out.tr K7.out)).below⟩
set_option maxRecDepth 100000 in
set_option maxHeartbeats 8000000 in
theorem nmay_true {Y : Na} {N : Nt} {w : World} {x : Int} (h : NetAt w Y N) (hx : i64B x) (hT : Tabb w) (hb : netB N = true) : Calls Tryd.prog 4 #[netV Y N, .int .i64 x] w fun e w' => e = .returned (.bool true) ∧ Below w.heap.size w w' := by
  have hkA : Kept w (w.alloc (.cells #[.slice Y.s N.sites.length Y.sc, .slice Y.u N.subs.length Y.uc, .slice Y.d N.weds.length Y.dc, .int .i64 N.low, .int .i64 N.high, .int .i64 N.step] 26)) none := Kept.alloc _ _ _ _ _
  have HN0 := Hid.mk' (nbx_alloc h 26)
  have HK := Hid.mk' hkA
  have HT := Hid.mk' (hT.kept hkA)
  have HX := Hid.mk' hx
  have HB := Hid.mk' hb
  have HE := Hid.mk' (netE_yes1 hb)
  obtain ⟨qt, hC, _⟩ := cyc_may hb
  have HC := Hid.mk' hC
  obtain ⟨r1, ha1, hr1⟩ := ask_sub (x := x) hb
  obtain ⟨r2, ha2, hr2⟩ := ask_site (x := x) hb
  have HR1 := Hid.mk' hr1
  have HR2 := Hid.mk' hr2
  obtain ⟨F1, hF1⟩ : ∃ F, findV N (1, x, 0) = F := ⟨_, rfl⟩
  obtain ⟨F2, hF2⟩ : ∃ F, findV N (0, x, 0) = F := ⟨_, rfl⟩
  have HF1 := Hid.mk' hF1
  have HF2 := Hid.mk' hF2
  rw [hF1] at ha1
  rw [hF2] at ha2
  obtain ⟨f1, g1⟩ := F1
  obtain ⟨f2, g2⟩ := F2
  have HA1 := Hid.mk' ha1
  have HA2 := Hid.mk' ha2
  clear h hkA hT hx hb hC hr1 hr2 hF1 hF2 ha1 ha2
  go_enter Tryd.func4, Tryd.ntmps4
  go_wp2_with (go_at_call 16; skip)
  go_at_call 15
  refine (ngreat_any HN0.out.net).mono ?_
  rintro e w1 ⟨g, rfl, hg, hk1⟩
  have HG := Hid.mk' hg
  have K1 := Hid.mk' hk1
  clear hg hk1
  obtain ⟨c0, c1, c2, c3, c4, c5, _⟩ := HN0.out.kept K1.out
  cases g
  case true =>
    go_wp2
    go_ret
    exact ⟨rfl, (HK.out.tr K1.out).below⟩
  have hF : NFew N := HG.out rfl
  have HF := Hid.mk' hF
  clear hF
  go_wp2_with (first
    | (go_at_call 17; have hn := rcheck6_any (HNB.out.net.kept (Kept.refl (w2.alloc (.cells #[.slice Z.s N.sites.length Z.sc, .slice Z.u N.subs.length Z.uc, .slice Z.d N.weds.length Z.dc, .int .i64 N.low, .int .i64 N.high, .int .i64 N.step] 26)) none)) HF.out; rw [HE.out] at hn; refine hn.mono ?_; rintro e w3 ⟨rfl, hk3⟩; have K3 := Hid.mk' hk3; clear hk3; clear c0 c1 c2 c3 c4 c5 d0 d1 d2 d3 d4 d5; obtain ⟨c0, c1, c2, c3, c4, c5, _⟩ := HNB.out.kept K3.out; obtain ⟨d0, d1, d2, d3, d4, d5, _⟩ := HOW.out.kept K3.out)
    | (have hgo := K3; clear hgo; go_at_call 13; have hn := ncheck_any (HOW.out.net.kept K3.out) (HTW.out.kept K3.out); rw [HE.out] at hn; refine hn.mono ?_; rintro e w4 ⟨rfl, hk4⟩; have K4 := Hid.mk' (K3.out.tr hk4); clear hk4; clear c0 c1 c2 c3 c4 c5 d0 d1 d2 d3 d4 d5; obtain ⟨c0, c1, c2, c3, c4, c5, _⟩ := HNB.out.kept K4.out; obtain ⟨d0, d1, d2, d3, d4, d5, _⟩ := HOW.out.kept K4.out)
    | (have hgo := K4; clear hgo; go_at_call 9; have hn := sub_net (HOW.out.net.kept K4.out) (HTW.out.kept K4.out) HX.out; rw [HF1.out] at hn; refine hn.mono ?_; rintro e w5 ⟨rfl, hk5⟩; have K5 := Hid.mk' (K4.out.tr hk5); clear hk5; clear c0 c1 c2 c3 c4 c5 d0 d1 d2 d3 d4 d5; obtain ⟨c0, c1, c2, c3, c4, c5, _⟩ := HNB.out.kept K5.out; obtain ⟨d0, d1, d2, d3, d4, d5, _⟩ := HOW.out.kept K5.out)
    | (have hgo := K5; clear hgo; go_at_call 10; have hn := site_net (HOW.out.net.kept K5.out) (HTW.out.kept K5.out) HX.out; rw [HF2.out] at hn; refine hn.mono ?_; rintro e w6 ⟨rfl, hk6⟩; have K6 := Hid.mk' (K5.out.tr hk6); clear hk6; clear c0 c1 c2 c3 c4 c5 d0 d1 d2 d3 d4 d5; obtain ⟨c0, c1, c2, c3, c4, c5, _⟩ := HNB.out.kept K6.out; obtain ⟨d0, d1, d2, d3, d4, d5, _⟩ := HOW.out.kept K6.out)
    | (have hgo := K6; clear hgo; go_at_call 11; refine (ncycles_yes (HOW.out.net.kept K6.out) (HTW.out.kept K6.out) HB.out HC.out).mono ?_; rintro e w7 ⟨la, lc, rfl, hI7, _, hk7⟩; have K7 := Hid.mk' (K6.out.tr hk7); have HI7 := Hid.mk' hI7; clear hk7 hI7; clear c0 c1 c2 c3 c4 c5 d0 d1 d2 d3 d4 d5; obtain ⟨c0, c1, c2, c3, c4, c5, _⟩ := HNB.out.kept K7.out; obtain ⟨d0, d1, d2, d3, d4, d5, _⟩ := HOW.out.kept K7.out)
    | (go_at_call 16; refine (ntwin_any (HN0.out.net.kept K1.out) HF.out).mono ?_; rintro e w2 ⟨Z, rfl, hN2, hk2⟩; have K2 := Hid.mk' (K1.out.tr hk2); have H2 := Hid.mk' hN2; clear hk2 hN2 c0 c1 c2 c3 c4 c5; have HOW := Hid.mk' (nbx_alloc H2.out 26); have K2A := Hid.mk' (K2.out.tr (Kept.alloc w2 #[.slice Z.s N.sites.length Z.sc, .slice Z.u N.subs.length Z.uc, .slice Z.d N.weds.length Z.dc, .int .i64 N.low, .int .i64 N.high, .int .i64 N.step] 26 (0, 0) none)); have HNB := Hid.mk' (HN0.out.kept K2A.out); have HTW := Hid.mk' (HT.out.kept K2A.out); obtain ⟨c0, c1, c2, c3, c4, c5, _⟩ := HNB.out; obtain ⟨d0, d1, d2, d3, d4, d5, _⟩ := HOW.out; have W := (w2.alloc (.cells #[.slice Z.s N.sites.length Z.sc, .slice Z.u N.subs.length Z.uc, .slice Z.d N.weds.length Z.dc, .int .i64 N.low, .int .i64 N.high, .int .i64 N.step] 26)); have hW2 := trivial))
  have HN7 := Hid.mk' (HNB.out.kept K7.out)
  have HO7 := Hid.mk' (HOW.out.kept K7.out)
  clear c0 c1 c2 c3 c4 c5 d0 d1 d2 d3 d4 d5
  have p0 : ∀ w', Kept w7 w' none → w'.cell? ⟨w.heap.size, 0, none⟩ = some (.slice Y.s N.sites.length Y.sc) := fun w' q => (HN7.out.kept q).c0
  have p1 : ∀ w', Kept w7 w' none → w'.cell? ⟨w.heap.size, 1, none⟩ = some (.slice Y.u N.subs.length Y.uc) := fun w' q => (HN7.out.kept q).c1
  have p2 : ∀ w', Kept w7 w' none → w'.cell? ⟨w.heap.size, 2, none⟩ = some (.slice Y.d N.weds.length Y.dc) := fun w' q => (HN7.out.kept q).c2
  have p3 : ∀ w', Kept w7 w' none → w'.cell? ⟨w.heap.size, 3, none⟩ = some (.int .i64 N.low) := fun w' q => (HN7.out.kept q).c3
  have p4 : ∀ w', Kept w7 w' none → w'.cell? ⟨w.heap.size, 4, none⟩ = some (.int .i64 N.high) := fun w' q => (HN7.out.kept q).c4
  have p5 : ∀ w', Kept w7 w' none → w'.cell? ⟨w.heap.size, 5, none⟩ = some (.int .i64 N.step) := fun w' q => (HN7.out.kept q).c5
  refine Code.wp_mono (Q := RgM ?A1 w7) ?cont1 ?reg1
  case reg1 =>
    repeat (rename_i hh; clear hh)
    refine wp_region_held_drew (S := fun w' => Kept w7 w' none) (by kernel_rfl) (Kept.tr (Kept.refl _ _) (Kept.drew _ _)) (fun hHeld => ?_)
    refine held_take (i := 0) (v := ?v2) rfl rfl (by kernel_rfl) (by kernel_rfl) (by kernel_rfl) (fun _ _ _ h => h) (Or.inl ⟨by rfl, ?hy2⟩) hHeld ?rest2
    case hy2 => first | (intro w hSw; (try dsimp only at hSw); go_simp; done) | (intro w hSw; (try dsimp only at hSw); go_simp; with_reducible rfl)
    try simp only [List.setIfInBounds_toArray, List.set_cons_zero, List.set_cons_succ]
    refine held_take (i := 1) (v := ?v3) rfl rfl (by kernel_rfl) (by kernel_rfl) (by kernel_rfl) (fun _ _ _ h => h) (Or.inl ⟨by rfl, ?hy3⟩) hHeld ?rest3
    case hy3 => first | (intro w hSw; (try dsimp only at hSw); go_simp; done) | (intro w hSw; (try dsimp only at hSw); go_simp; with_reducible rfl)
    try simp only [List.setIfInBounds_toArray, List.set_cons_zero, List.set_cons_succ]
    refine held_take (i := 3) (v := ?v4) rfl rfl (by kernel_rfl) (by kernel_rfl) (by kernel_rfl) (fun _ _ _ h => h) (Or.inl ⟨by rfl, ?hy4⟩) hHeld ?rest4
    case hy4 => first | (intro w hSw; (try dsimp only at hSw); go_simp; done) | (intro w hSw; (try dsimp only at hSw); go_simp; with_reducible rfl)
    try simp only [List.setIfInBounds_toArray, List.set_cons_zero, List.set_cons_succ]
    refine held_take (i := 4) (v := ?v5) rfl rfl (by kernel_rfl) (by kernel_rfl) (by kernel_rfl) (fun _ _ _ h => h) (Or.inl ⟨by rfl, ?hy5⟩) hHeld ?rest5
    case hy5 => first | (intro w hSw; (try dsimp only at hSw); go_simp; done) | (intro w hSw; (try dsimp only at hSw); go_simp; with_reducible rfl)
    try simp only [List.setIfInBounds_toArray, List.set_cons_zero, List.set_cons_succ]
    refine wpAnyH_ready (rs := [2]) (by kernel_rfl) (by simp) ?_
    refine AllReadyH.cons rfl (fun K hK => ?_) AllReadyH.nil
    go_simp
    go_wp2_with (go_at_call 18; refine (rsub6_any (HN7.out.net.kept hHeld) x).mono ?_; rintro e wS ⟨r', rfl, hr, hkS⟩; have hq := (HR1.out r' hr).symm; subst hq; have hKS : Kept w7 wS none := Kept.tr hHeld hkS)
    replace hK := hK.out
    refine hK _ _ hKS (fun hHeld => ?_)
    clear hK K
    refine wpAnyH_ready (rs := [5]) (by kernel_rfl) (by simp) ?_
    refine AllReadyH.cons rfl (fun K hK => ?_) AllReadyH.nil
    go_simp
    go_wp2_with (go_at_call 19; refine (rsite6_any (HN7.out.net.kept hHeld) x).mono ?_; rintro e wS ⟨r', rfl, hr, hkS⟩; have hq := (HR2.out r' hr).symm; subst hq; have hKS : Kept w7 wS none := Kept.tr hHeld hkS)
    replace hK := hK.out
    refine hK _ _ hKS (fun hHeld => ?_)
    clear hK K
    refine held_take (i := 6) (v := ?v6) rfl rfl (by kernel_rfl) (by kernel_rfl) (by kernel_rfl) (fun _ _ _ h => h) (Or.inl ⟨by rfl, ?hy6⟩) hHeld ?rest6
    case hy6 => first | (intro w hSw; (try dsimp only at hSw); go_simp; done) | (intro w hSw; (try dsimp only at hSw); go_simp; with_reducible rfl)
    try simp only [List.setIfInBounds_toArray, List.set_cons_zero, List.set_cons_succ]
    refine held_take (i := 7) (v := ?v7) rfl rfl (by kernel_rfl) (by kernel_rfl) (by kernel_rfl) (fun _ _ _ h => h) (Or.inl ⟨by rfl, ?hy7⟩) hHeld ?rest7
    case hy7 => first | (intro w hSw; (try dsimp only at hSw); go_simp; done) | (intro w hSw; (try dsimp only at hSw); go_simp; with_reducible rfl)
    try simp only [List.setIfInBounds_toArray, List.set_cons_zero, List.set_cons_succ]
    refine wpAnyH_done (by kernel_rfl) ?_ _
    refine And.intro ?_ hHeld
    with_reducible rfl
  case cont1 =>
  intro e a' w' hq
  obtain ⟨rfl, rfl, hkq⟩ := hq.out
  skip
  clear p0 p1 p2 p3 p4 p5
  have KQ := Hid.mk' hkq
  clear hkq
  obtain ⟨c0, c1, c2, c3, c4, c5, _⟩ := HN7.out.kept KQ.out
  obtain ⟨d0, d1, d2, d3, d4, d5, _⟩ := HO7.out.kept KQ.out
  rcases HA1.out with ⟨u1, q1, rfl⟩ | ⟨q1, rfl⟩ <;> rcases HA2.out with ⟨u2, q2, rfl⟩ | ⟨q2, rfl⟩
  all_goals
    obtain ⟨rfl, rfl⟩ := Prod.mk.inj q1
    obtain ⟨rfl, rfl⟩ := Prod.mk.inj q2
    clear q1 q2
    go_wp2_with (first
      | (go_at_call 21; refine (rcycles6_any (HN7.out.net.kept KQ.out) HC.out).mono ?_; rintro e w8 ⟨ma, mc, rfl, hI8, hk8⟩; have K8 := Hid.mk' (KQ.out.tr hk8); have HI8 := Hid.mk' hI8; clear hI8 hk8; clear c0 c1 c2 c3 c4 c5 d0 d1 d2 d3 d4 d5; obtain ⟨c0, c1, c2, c3, c4, c5, _⟩ := HN7.out.kept K8.out; obtain ⟨d0, d1, d2, d3, d4, d5, _⟩ := HO7.out.kept K8.out)
      | (go_at_call 20; refine (rsame_ints (HI7.out.kept K8.out) HI8.out).mono ?_; rintro e w9 ⟨rfl, hk9⟩; have K9 := Hid.mk' (K8.out.tr hk9); clear hk9; clear c0 c1 c2 c3 c4 c5 d0 d1 d2 d3 d4 d5; obtain ⟨c0, c1, c2, c3, c4, c5, _⟩ := HN7.out.kept K9.out; obtain ⟨d0, d1, d2, d3, d4, d5, _⟩ := HO7.out.kept K9.out)
      | (go_at_call 22; refine (rsame_net (HO7.out.net.kept K9.out) (HN7.out.net.kept K9.out)).mono ?_; rintro e wA ⟨rfl, hkA⟩))
    go_ret
    exact ⟨rfl, (HK.out.tr (K2A.out.tr (K7.out.tr (K9.out.tr hkA)))).below⟩
theorem nmay_any {Y : Na} {N : Nt} {w : World} {x : Int} (h : NetAt w Y N) (hx : (Lit.int .i64 x).wf = true) (hT : Tabb w) : Calls Tryd.prog 4 #[netV Y N, .int .i64 x] w fun e w' => e = .returned (.bool true) ∧ Below w.heap.size w w' := by
  have hx' : i64B x := by
    have := bounds_i64 hx
    unfold i64B
    omega
  cases hb : netB N with
  | false => exact nmay_false h hx' hT hb
  | true => exact nmay_true h hx' hT hb

end Go.Proofs.YtoahbpdgbiachaaDoor

