/-
  Part 11 of the texts that the proof of NetBack stands on.
-/
import Derived.Test.YtoahbpdgbiachaaDoorPart10
/-
  THE WALK of NetBack.
-/
namespace Go.Proofs.YtoahbpdgbiachaaDoor
open Go.RowKit Go.Lib Go.Deep
set_option linter.unusedVariables false
set_option linter.unusedSimpArgs false

set_option maxRecDepth 100000 in
set_option maxHeartbeats 4000000 in
theorem nback_ff {Y : Na} {N : Nt} {w : World} {a : Option Addr} {n c : Nat} {L : List Nat} (h : NetAt w Y N) (hT : Tabb w ∧ Table w) (hC : Come w a n c L) (hs : netB N = false) (hr : nreadB L = false) : Calls Tryd.prog 5 #[netV Y N, .slice a n c] w fun e w' => e = .returned (.bool true) ∧ Below w.heap.size w w' := by
  have hkA : Kept w (w.alloc (.cells #[.slice Y.s N.sites.length Y.sc, .slice Y.u N.subs.length Y.uc, .slice Y.d N.weds.length Y.dc, .int .i64 N.low, .int .i64 N.high, .int .i64 N.step] 26)) none := Kept.alloc _ _ _ _ _
  have HNB := Hid.mk' (nbx_alloc h 26)
  have HK := Hid.mk' hkA
  have HTW := Hid.mk' hT
  have HT := Hid.mk' (hT.1.kept hkA)
  have HTb := Hid.mk' (hT.2.kept hkA)
  have HRK : Hid (netB N = true → NRok N) := fun hs => nrok_may h hs
  have HC := Hid.mk' (hC.kept0 hkA)
  have hn9 : n ≤ 9223372036854775807 := by have := hC.room; have := hC.max; omega
  have HWR : Hid (nreadB L = true → nwriteL (readN L) = L ∧ netE (readN L) = 0) := fun hr => by
    have h1 := nwrite_read hC.by_.lt hr
    exact ⟨h1.1, netE_yes h1.2⟩
  have HSZ := Hid.mk' hC.by_.size
  clear h hC hT hkA
  have HE := Hid.mk' (netE_no hs)
  have HM : Hid (nwriteL N = []) := by show nwriteL N = []; unfold nwriteL; rw [if_neg (by rw [hs]; decide)]
  go_enter Tryd.func5, Tryd.ntmps5
  go_wp2_with (go_at_call 14; refine (nalive_any HT.out HTb.out).mono ?_; rintro e w1 ⟨rfl, hk1⟩; obtain ⟨c0, c1, c2, c3, c4, c5, _⟩ := HNB.out.kept hk1)
  go_at_call 15
  refine (ngreat_any (HNB.out.net.kept hk1)).mono ?_
  rintro e w2 ⟨g, rfl, _, hk2⟩
  clear c0 c1 c2 c3 c4 c5
  have K2 := Hid.mk' (hk1.tr hk2)
  clear hk1 hk2
  cases g
  case true =>
    go_wp2
    go_ret
    exact ⟨rfl, (HK.out.tr K2.out).below⟩
  by_cases hn : (20000 : Int) < n
  case pos =>
    go_wp2
    go_ret
    exact ⟨rfl, (HK.out.tr K2.out).below⟩
  obtain ⟨c0, c1, c2, c3, c4, c5, _⟩ := HNB.out.kept K2.out
  go_wp2_with (first
    | (have hgo := KT; clear hgo; go_at_call 12; refine (nread_any (HC.out.kept0 KT.out) (HT.out.kept KT.out) (HTb.out.kept KT.out)).mono ?_; rintro e w7 hc; obtain ⟨hk7, rfl⟩ := nreadP_no hc hr; have K7 := Hid.mk' (KT.out.tr hk7); clear hc hk7)
    | (go_at_call 13; have hn := ncheck_any (HNB.out.net.kept K3.out) (HT.out.kept K3.out); rw [HE.out] at hn; refine hn.mono ?_; rintro e w6 ⟨rfl, hk6⟩; have KT := Hid.mk' (K3.out.tr hk6); clear c0 c1 c2 c3 c4 c5 hk6)
    | (go_at_call 23; have hn := nwrite_any (HNB.out.net.kept K2.out) npos_may (HT.out.kept K2.out) (HTb.out.kept K2.out); rw [HE.out, HM.out] at hn; refine hn.mono ?_; rintro e w3 ⟨a3, c3', rfl, hm3, hk3⟩; have K3 := Hid.mk' (K2.out.tr hk3); clear c0 c1 c2 c3 c4 c5; obtain ⟨c0, c1, c2, c3, c4, c5, _⟩ := HNB.out.kept K3.out; clear hm3 hk3))
  go_ret
  exact ⟨rfl, (HK.out.tr (K7.out.tr (Kept.alloc _ _ _ (0, 0) _))).below⟩
set_option maxRecDepth 100000 in
set_option maxHeartbeats 4000000 in
theorem nback_ft {Y : Na} {N : Nt} {w : World} {a : Option Addr} {n c : Nat} {L : List Nat} (h : NetAt w Y N) (hT : Tabb w ∧ Table w) (hC : Come w a n c L) (hs : netB N = false) (hr : nreadB L = true) : Calls Tryd.prog 5 #[netV Y N, .slice a n c] w fun e w' => e = .returned (.bool true) ∧ Below w.heap.size w w' := by
  have hkA : Kept w (w.alloc (.cells #[.slice Y.s N.sites.length Y.sc, .slice Y.u N.subs.length Y.uc, .slice Y.d N.weds.length Y.dc, .int .i64 N.low, .int .i64 N.high, .int .i64 N.step] 26)) none := Kept.alloc _ _ _ _ _
  have HNB := Hid.mk' (nbx_alloc h 26)
  have HK := Hid.mk' hkA
  have HTW := Hid.mk' hT
  have HT := Hid.mk' (hT.1.kept hkA)
  have HTb := Hid.mk' (hT.2.kept hkA)
  have HRK : Hid (netB N = true → NRok N) := fun hs => nrok_may h hs
  have HC := Hid.mk' (hC.kept0 hkA)
  have hn9 : n ≤ 9223372036854775807 := by have := hC.room; have := hC.max; omega
  have HWR : Hid (nreadB L = true → nwriteL (readN L) = L ∧ netE (readN L) = 0) := fun hr => by
    have h1 := nwrite_read hC.by_.lt hr
    exact ⟨h1.1, netE_yes h1.2⟩
  have HSZ := Hid.mk' hC.by_.size
  clear h hC hT hkA
  have HE := Hid.mk' (netE_no hs)
  have HM : Hid (nwriteL N = []) := by show nwriteL N = []; unfold nwriteL; rw [if_neg (by rw [hs]; decide)]
  have WR := Hid.mk' (HWR.out hr)
  have HLL := Hid.mk' (HC.out.by_.lt)
  go_enter Tryd.func5, Tryd.ntmps5
  go_wp2_with (go_at_call 14; refine (nalive_any HT.out HTb.out).mono ?_; rintro e w1 ⟨rfl, hk1⟩; obtain ⟨c0, c1, c2, c3, c4, c5, _⟩ := HNB.out.kept hk1)
  go_at_call 15
  refine (ngreat_any (HNB.out.net.kept hk1)).mono ?_
  rintro e w2 ⟨g, rfl, _, hk2⟩
  clear c0 c1 c2 c3 c4 c5
  have K2 := Hid.mk' (hk1.tr hk2)
  clear hk1 hk2
  cases g
  case true =>
    go_wp2
    go_ret
    exact ⟨rfl, (HK.out.tr K2.out).below⟩
  by_cases hn : (20000 : Int) < n
  case pos =>
    go_wp2
    go_ret
    exact ⟨rfl, (HK.out.tr K2.out).below⟩
  obtain ⟨c0, c1, c2, c3, c4, c5, _⟩ := HNB.out.kept K2.out
  go_wp2_with (first
    | (have hgo := S7; clear hgo; go_at_call 23; have hn := nwrite_any S7.out npos_may (HT.out.kept K7.out) (HTb.out.kept K7.out); rw [WR.out.1, WR.out.2] at hn; refine hn.mono ?_; rintro e w8 ⟨a8, p8, rfl, hm8, hk8⟩; have t1 := run_text (hm8.by HLL.out) p8; have t2 := run_text (HC.out.kept0 (K7.out.tr hk8)).by_ c; have K8 := Hid.mk' (K7.out.tr hk8); clear hm8 hk8)
    | (have hgo := KT; clear hgo; go_at_call 12; refine (nread_any (HC.out.kept0 KT.out) (HT.out.kept KT.out) (HTb.out.kept KT.out)).mono ?_; rintro e w7 hc; obtain ⟨hk7, Y7, rfl, hs7⟩ := nreadP_yes hc hr; have ha7 := Kept.alloc w7 #[.slice Y7.s (readN L).sites.length Y7.sc, .slice Y7.u (readN L).subs.length Y7.uc, .slice Y7.d (readN L).weds.length Y7.dc, .int .i64 (readN L).low, .int .i64 (readN L).high, .int .i64 (readN L).step] 26 (0, 0) none; have K7 := Hid.mk' ((KT.out.tr hk7).tr ha7); have S7 := Hid.mk' (hs7.kept ha7); clear hc hk7 hs7 ha7)
    | (go_at_call 13; have hn := ncheck_any (HNB.out.net.kept K3.out) (HT.out.kept K3.out); rw [HE.out] at hn; refine hn.mono ?_; rintro e w6 ⟨rfl, hk6⟩; have KT := Hid.mk' (K3.out.tr hk6); clear c0 c1 c2 c3 c4 c5 hk6)
    | (go_at_call 23; have hn := nwrite_any (HNB.out.net.kept K2.out) npos_may (HT.out.kept K2.out) (HTb.out.kept K2.out); rw [HE.out, HM.out] at hn; refine hn.mono ?_; rintro e w3 ⟨a3, c3', rfl, hm3, hk3⟩; have K3 := Hid.mk' (K2.out.tr hk3); clear c0 c1 c2 c3 c4 c5; obtain ⟨c0, c1, c2, c3, c4, c5, _⟩ := HNB.out.kept K3.out; clear hm3 hk3))
  go_ret
  exact ⟨rfl, (HK.out.tr K8.out).below⟩
set_option maxRecDepth 100000 in
set_option maxHeartbeats 4000000 in
theorem nback_tf {Y : Na} {N : Nt} {w : World} {a : Option Addr} {n c : Nat} {L : List Nat} (h : NetAt w Y N) (hT : Tabb w ∧ Table w) (hC : Come w a n c L) (hs : netB N = true) (hr : nreadB L = false) : Calls Tryd.prog 5 #[netV Y N, .slice a n c] w fun e w' => e = .returned (.bool true) ∧ Below w.heap.size w w' := by
  have hkA : Kept w (w.alloc (.cells #[.slice Y.s N.sites.length Y.sc, .slice Y.u N.subs.length Y.uc, .slice Y.d N.weds.length Y.dc, .int .i64 N.low, .int .i64 N.high, .int .i64 N.step] 26)) none := Kept.alloc _ _ _ _ _
  have HNB := Hid.mk' (nbx_alloc h 26)
  have HK := Hid.mk' hkA
  have HTW := Hid.mk' hT
  have HT := Hid.mk' (hT.1.kept hkA)
  have HTb := Hid.mk' (hT.2.kept hkA)
  have HRK : Hid (netB N = true → NRok N) := fun hs => nrok_may h hs
  have HC := Hid.mk' (hC.kept0 hkA)
  have hn9 : n ≤ 9223372036854775807 := by have := hC.room; have := hC.max; omega
  have HWR : Hid (nreadB L = true → nwriteL (readN L) = L ∧ netE (readN L) = 0) := fun hr => by
    have h1 := nwrite_read hC.by_.lt hr
    exact ⟨h1.1, netE_yes h1.2⟩
  have HSZ := Hid.mk' hC.by_.size
  clear h hC hT hkA
  have HE := Hid.mk' (netE_yes hs)
  have HS := Hid.mk' hs
  obtain ⟨M, hM⟩ : ∃ M, nwriteL N = M := ⟨_, rfl⟩
  have HM := Hid.mk' hM
  have HML : Hid (∀ x ∈ M, x < 256) := by show ∀ x ∈ M, x < 256; rw [← hM]; exact nwriteL_lt N
  clear hM hs
  go_enter Tryd.func5, Tryd.ntmps5
  go_wp2_with (go_at_call 14; refine (nalive_any HT.out HTb.out).mono ?_; rintro e w1 ⟨rfl, hk1⟩; obtain ⟨c0, c1, c2, c3, c4, c5, _⟩ := HNB.out.kept hk1)
  go_at_call 15
  refine (ngreat_any (HNB.out.net.kept hk1)).mono ?_
  rintro e w2 ⟨g, rfl, _, hk2⟩
  clear c0 c1 c2 c3 c4 c5
  have K2 := Hid.mk' (hk1.tr hk2)
  clear hk1 hk2
  cases g
  case true =>
    go_wp2
    go_ret
    exact ⟨rfl, (HK.out.tr K2.out).below⟩
  by_cases hn : (20000 : Int) < n
  case pos =>
    go_wp2
    go_ret
    exact ⟨rfl, (HK.out.tr K2.out).below⟩
  obtain ⟨c0, c1, c2, c3, c4, c5, _⟩ := HNB.out.kept K2.out
  go_wp2_with (first
    | (have hgo := KT; clear hgo; go_at_call 12; refine (nread_any (HC.out.kept0 KT.out) (HT.out.kept KT.out) (HTb.out.kept KT.out)).mono ?_; rintro e w7 hc; obtain ⟨hk7, rfl⟩ := nreadP_no hc hr; have K7 := Hid.mk' (KT.out.tr hk7); clear hc hk7)
    | (have hgo := S4; clear hgo; go_at_call 23; have hn := nwrite_any S4.out.net npos_may (HT.out.kept K4.out) (HTb.out.kept K4.out); rw [HE.out, HM.out] at hn; refine hn.mono ?_; rintro e w5 ⟨a5, p5, rfl, hm5, hk5⟩; have KT := Hid.mk' (K4.out.tr hk5); have t1 := run_text (hm5.by HML.out) p5; have t2 := run_text ((M3.out.come HML.out).kept0 (KA.out.tr hk5)).by_ c3'; clear c0 c1 c2 c3 c4 c5 d0 d1 d2 d3 d4 d5; obtain ⟨c0, c1, c2, c3, c4, c5, _⟩ := HNB.out.kept KT.out; obtain ⟨d0, d1, d2, d3, d4, d5, _⟩ := S4.out.kept hk5; clear hm5 hk5 S4 M3)
    | (have hgo := M3; clear hgo; go_at_call 12; refine (nread_any (M3.out.come HML.out) (HT.out.kept K3.out) (HTb.out.kept K3.out)).mono ?_; rintro e w4 hc; obtain ⟨hk4, Y4, rfl, hs4⟩ := nreadP_write HM.out hc (HRK.out HS.out) HS.out; have ha4 := Kept.alloc w4 #[.slice Y4.s N.sites.length Y4.sc, .slice Y4.u N.subs.length Y4.uc, .slice Y4.d N.weds.length Y4.dc, .int .i64 N.low, .int .i64 N.high, .int .i64 N.step] 26 (0, 0) none; have KA := Hid.mk' (hk4.tr ha4); have K4 := Hid.mk' ((K3.out.tr hk4).tr ha4); have S4 := Hid.mk' (nbx_alloc hs4 26); clear hc hk4 hs4 ha4; obtain ⟨d0, d1, d2, d3, d4, d5, _⟩ := S4.out; clear c0 c1 c2 c3 c4 c5; obtain ⟨c0, c1, c2, c3, c4, c5, _⟩ := HNB.out.kept K4.out)
    | (go_at_call 23; have hn := nwrite_any (HNB.out.net.kept K2.out) npos_may (HT.out.kept K2.out) (HTb.out.kept K2.out); rw [HE.out, HM.out] at hn; refine hn.mono ?_; rintro e w3 ⟨a3, c3', rfl, hm3, hk3⟩; have K3 := Hid.mk' (K2.out.tr hk3); clear c0 c1 c2 c3 c4 c5; obtain ⟨c0, c1, c2, c3, c4, c5, _⟩ := HNB.out.kept K3.out; have M3 := Hid.mk' hm3; clear hm3 hk3))
  go_ret
  exact ⟨rfl, (HK.out.tr (K7.out.tr (Kept.alloc _ _ _ (0, 0) _))).below⟩
set_option maxRecDepth 100000 in
set_option maxHeartbeats 4000000 in
theorem nback_tt {Y : Na} {N : Nt} {w : World} {a : Option Addr} {n c : Nat} {L : List Nat} (h : NetAt w Y N) (hT : Tabb w ∧ Table w) (hC : Come w a n c L) (hs : netB N = true) (hr : nreadB L = true) : Calls Tryd.prog 5 #[netV Y N, .slice a n c] w fun e w' => e = .returned (.bool true) ∧ Below w.heap.size w w' := by
  have hkA : Kept w (w.alloc (.cells #[.slice Y.s N.sites.length Y.sc, .slice Y.u N.subs.length Y.uc, .slice Y.d N.weds.length Y.dc, .int .i64 N.low, .int .i64 N.high, .int .i64 N.step] 26)) none := Kept.alloc _ _ _ _ _
  have HNB := Hid.mk' (nbx_alloc h 26)
  have HK := Hid.mk' hkA
  have HTW := Hid.mk' hT
  have HT := Hid.mk' (hT.1.kept hkA)
  have HTb := Hid.mk' (hT.2.kept hkA)
  have HRK : Hid (netB N = true → NRok N) := fun hs => nrok_may h hs
  have HC := Hid.mk' (hC.kept0 hkA)
  have hn9 : n ≤ 9223372036854775807 := by have := hC.room; have := hC.max; omega
  have HWR : Hid (nreadB L = true → nwriteL (readN L) = L ∧ netE (readN L) = 0) := fun hr => by
    have h1 := nwrite_read hC.by_.lt hr
    exact ⟨h1.1, netE_yes h1.2⟩
  have HSZ := Hid.mk' hC.by_.size
  clear h hC hT hkA
  have HE := Hid.mk' (netE_yes hs)
  have HS := Hid.mk' hs
  obtain ⟨M, hM⟩ : ∃ M, nwriteL N = M := ⟨_, rfl⟩
  have HM := Hid.mk' hM
  have HML : Hid (∀ x ∈ M, x < 256) := by show ∀ x ∈ M, x < 256; rw [← hM]; exact nwriteL_lt N
  clear hM hs
  have WR := Hid.mk' (HWR.out hr)
  have HLL := Hid.mk' (HC.out.by_.lt)
  go_enter Tryd.func5, Tryd.ntmps5
  go_wp2_with (go_at_call 14; refine (nalive_any HT.out HTb.out).mono ?_; rintro e w1 ⟨rfl, hk1⟩; obtain ⟨c0, c1, c2, c3, c4, c5, _⟩ := HNB.out.kept hk1)
  go_at_call 15
  refine (ngreat_any (HNB.out.net.kept hk1)).mono ?_
  rintro e w2 ⟨g, rfl, _, hk2⟩
  clear c0 c1 c2 c3 c4 c5
  have K2 := Hid.mk' (hk1.tr hk2)
  clear hk1 hk2
  cases g
  case true =>
    go_wp2
    go_ret
    exact ⟨rfl, (HK.out.tr K2.out).below⟩
  by_cases hn : (20000 : Int) < n
  case pos =>
    go_wp2
    go_ret
    exact ⟨rfl, (HK.out.tr K2.out).below⟩
  obtain ⟨c0, c1, c2, c3, c4, c5, _⟩ := HNB.out.kept K2.out
  go_wp2_with (first
    | (have hgo := S7; clear hgo; go_at_call 23; have hn := nwrite_any S7.out npos_may (HT.out.kept K7.out) (HTb.out.kept K7.out); rw [WR.out.1, WR.out.2] at hn; refine hn.mono ?_; rintro e w8 ⟨a8, p8, rfl, hm8, hk8⟩; have t1 := run_text (hm8.by HLL.out) p8; have t2 := run_text (HC.out.kept0 (K7.out.tr hk8)).by_ c; have K8 := Hid.mk' (K7.out.tr hk8); clear hm8 hk8)
    | (have hgo := KT; clear hgo; go_at_call 12; refine (nread_any (HC.out.kept0 KT.out) (HT.out.kept KT.out) (HTb.out.kept KT.out)).mono ?_; rintro e w7 hc; obtain ⟨hk7, Y7, rfl, hs7⟩ := nreadP_yes hc hr; have ha7 := Kept.alloc w7 #[.slice Y7.s (readN L).sites.length Y7.sc, .slice Y7.u (readN L).subs.length Y7.uc, .slice Y7.d (readN L).weds.length Y7.dc, .int .i64 (readN L).low, .int .i64 (readN L).high, .int .i64 (readN L).step] 26 (0, 0) none; have K7 := Hid.mk' ((KT.out.tr hk7).tr ha7); have S7 := Hid.mk' (hs7.kept ha7); clear hc hk7 hs7 ha7)
    | (have hgo := S4; clear hgo; go_at_call 23; have hn := nwrite_any S4.out.net npos_may (HT.out.kept K4.out) (HTb.out.kept K4.out); rw [HE.out, HM.out] at hn; refine hn.mono ?_; rintro e w5 ⟨a5, p5, rfl, hm5, hk5⟩; have KT := Hid.mk' (K4.out.tr hk5); have t1 := run_text (hm5.by HML.out) p5; have t2 := run_text ((M3.out.come HML.out).kept0 (KA.out.tr hk5)).by_ c3'; clear c0 c1 c2 c3 c4 c5 d0 d1 d2 d3 d4 d5; obtain ⟨c0, c1, c2, c3, c4, c5, _⟩ := HNB.out.kept KT.out; obtain ⟨d0, d1, d2, d3, d4, d5, _⟩ := S4.out.kept hk5; clear hm5 hk5 S4 M3)
    | (have hgo := M3; clear hgo; go_at_call 12; refine (nread_any (M3.out.come HML.out) (HT.out.kept K3.out) (HTb.out.kept K3.out)).mono ?_; rintro e w4 hc; obtain ⟨hk4, Y4, rfl, hs4⟩ := nreadP_write HM.out hc (HRK.out HS.out) HS.out; have ha4 := Kept.alloc w4 #[.slice Y4.s N.sites.length Y4.sc, .slice Y4.u N.subs.length Y4.uc, .slice Y4.d N.weds.length Y4.dc, .int .i64 N.low, .int .i64 N.high, .int .i64 N.step] 26 (0, 0) none; have KA := Hid.mk' (hk4.tr ha4); have K4 := Hid.mk' ((K3.out.tr hk4).tr ha4); have S4 := Hid.mk' (nbx_alloc hs4 26); clear hc hk4 hs4 ha4; obtain ⟨d0, d1, d2, d3, d4, d5, _⟩ := S4.out; clear c0 c1 c2 c3 c4 c5; obtain ⟨c0, c1, c2, c3, c4, c5, _⟩ := HNB.out.kept K4.out)
    | (go_at_call 23; have hn := nwrite_any (HNB.out.net.kept K2.out) npos_may (HT.out.kept K2.out) (HTb.out.kept K2.out); rw [HE.out, HM.out] at hn; refine hn.mono ?_; rintro e w3 ⟨a3, c3', rfl, hm3, hk3⟩; have K3 := Hid.mk' (K2.out.tr hk3); clear c0 c1 c2 c3 c4 c5; obtain ⟨c0, c1, c2, c3, c4, c5, _⟩ := HNB.out.kept K3.out; have M3 := Hid.mk' hm3; clear hm3 hk3))
  go_ret
  exact ⟨rfl, (HK.out.tr K8.out).below⟩
theorem nback_any {Y : Na} {N : Nt} {w : World} {a : Option Addr} {n c : Nat} {L : List Nat} (h : NetAt w Y N) (hC : Come w a n c L) (hT : Tabb w ∧ Table w) : Calls Tryd.prog 5 #[netV Y N, .slice a n c] w fun e w' => e = .returned (.bool true) ∧ Below w.heap.size w w' := by
  cases hs : netB N with
  | false =>
    cases hr : nreadB L with
    | false => exact nback_ff h hT hC hs hr
    | true => exact nback_ft h hT hC hs hr
  | true =>
    cases hr : nreadB L with
    | false => exact nback_tf h hT hC hs hr
    | true => exact nback_tt h hT hC hs hr

end Go.Proofs.YtoahbpdgbiachaaDoor

