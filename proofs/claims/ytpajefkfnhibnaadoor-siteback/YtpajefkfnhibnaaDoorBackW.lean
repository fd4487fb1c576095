/-
  THE WALK of SiteBack.
-/
import Derived.Test.YtpajefkfnhibnaaDoorAlive
import Derived.Test.YtpajefkfnhibnaaDoorSmallS
namespace Go.Proofs.YtpajefkfnhibnaaDoor
open Go.RowKit Go.Lib Go.Deep
set_option linter.unusedVariables false
set_option linter.unusedSimpArgs false

theorem readP_yes {w w' : World} {e : Ending} {L : List Nat} (h : ReadP w L e w') (hr : readB L = true) : Kept w w' none ∧ ∃ X, e = .returned (.tuple #[siteV X (readS L), .int .i64 0]) ∧ ∀ w'', Ltr (w.heap.size + 1) w' w'' → Sat w'' X (readS L) := by
  obtain ⟨hk, ⟨_, X, he, hq⟩ | ⟨hn, _⟩⟩ := h
  · exact ⟨hk, X, he, hq⟩
  · rw [hr] at hn; cases hn
theorem readP_no {w w' : World} {e : Ending} {L : List Nat} (h : ReadP w L e w') (hr : readB L = false) : Kept w w' none ∧ e = .returned (.tuple #[siteV X0 S0, .int .i64 8]) := by
  obtain ⟨hk, ⟨hn, _⟩ | ⟨_, he⟩⟩ := h
  · rw [hr] at hn; cases hn
  · exact ⟨hk, he⟩
theorem readP_write' {w w' : World} {e : Ending} {S : St} {M : List Nat} (hM : writeL S = M) (h : ReadP w M e w') (hr : Rok S) (hs : siteB S = true) : Kept w w' none ∧ ∃ X, e = .returned (.tuple #[siteV X S, .int .i64 0]) ∧ ∀ w'', Ltr (w.heap.size + 1) w' w'' → Sat w'' X S := readP_write (by rw [hM]; exact h) hr hs
theorem Mine.come {w : World} {base : Nat} {a : Option Addr} {n c : Nat} {L : List Nat} (h : Mine w base a n c L) (hl : ∀ x ∈ L, x < 256) : Come w a n c L := ⟨h.by hl, fun e => (h.nil e).2, h.room, h.max⟩
theorem Come.kept0 {w w' : World} {a : Option Addr} {n c : Nat} {L : List Nat} (h : Come w a n c L) (k : Kept w w' none) : Come w' a n c L := h.keptR k (fun _ _ _ => by simp)
set_option maxRecDepth 100000 in
set_option maxHeartbeats 4000000 in
theorem back_ff {X : Sa} {S : St} {w : World} {a : Option Addr} {n c : Nat} {L : List Nat} (h : Sat w X S) (hC : Come w a n c L) (hT : Tabb w ∧ Table w) (hs : siteB S = false) (hr : readB L = false) : Calls Tryd.prog 6 #[siteV X S, .slice a n c] w fun e w' => e = .returned (.bool true) ∧ Below w.heap.size w w' := by
  have hkA : Kept w (w.alloc (.cells #[.int .i64 S.id, .slice X.g S.groups.length X.gc, .slice X.a S.apart.length X.ac, .slice X.b S.between.length X.bc, .slice X.p S.phases.length X.pc, .slice X.e S.eyes.length X.ec, .int .i64 S.watch, .int .i64 S.feed, .int .i64 S.heal, .int .i64 S.low, .int .i64 S.high, .slice X.l S.plans.length X.lc] 29)) none := Kept.alloc _ _ _ _ _
  have HSB := Hid.mk' (sbox_alloc h 29)
  have HK := Hid.mk' hkA
  have HC := Hid.mk' (hC.kept0 hkA)
  have HT := Hid.mk' (hT.1.kept hkA)
  have HTb := Hid.mk' (hT.2.kept hkA)
  have HRK : Hid (siteB S = true → Rok S) := fun hs => rok_may h hs
  have hn9 : n ≤ 9223372036854775807 := by have := hC.room; have := hC.max; omega
  have HWR : Hid (readB L = true → writeL (readS L) = L ∧ checkE (readS L) = 0) := fun hr => by
    have h1 := write_read hC.by_.lt hr
    exact ⟨h1.1, checkE_yes h1.2⟩
  have HSZ := Hid.mk' hC.by_.size
  clear h hC hT hkA
  go_enter Tryd.func6, Tryd.ntmps6
  go_wp2_with (go_at_call 17; refine (alive_any HT.out HTb.out).mono ?_; rintro e w1 ⟨rfl, hk1⟩; obtain ⟨c0, c1, c2, c3, c4, c5, c6, c7, c8, c9, c10, c11, _⟩ := HSB.out.kept hk1)
  go_at_call 36
  refine (smallS_any (HSB.out.sat.kept hk1)).mono ?_
  rintro e w2 ⟨z, rfl, hk2⟩
  clear c0 c1 c2 c3 c4 c5 c6 c7 c8 c9 c10 c11
  have K2 := Hid.mk' (hk1.tr hk2)
  clear hk1 hk2
  by_cases hz : z < 150
  case neg =>
    go_wp2
    go_ret
    exact ⟨rfl, (HK.out.tr K2.out).below⟩
  by_cases hn : (5000 : Int) < n
  case pos =>
    go_wp2
    go_ret
    exact ⟨rfl, (HK.out.tr K2.out).below⟩
  obtain ⟨c0, c1, c2, c3, c4, c5, c6, c7, c8, c9, c10, c11, _⟩ := HSB.out.kept K2.out
  have HE := Hid.mk' (checkE_no hs)
  have HL : Hid (writeL S = []) := by show writeL S = []; unfold writeL; rw [if_neg (by rw [hs]; decide)]
  go_wp2_with (first
        | (have hgo := KT; clear hgo; go_at_call 30; refine (read_site (HC.out.kept0 KT.out) (HT.out.kept KT.out) (HTb.out.kept KT.out)).mono ?_; rintro e w7 hc; obtain ⟨hk7, rfl⟩ := readP_no hc hr; have K7 := Hid.mk' (KT.out.tr hk7); clear hc hk7)
        | (go_at_call 16; have hn := check_any (HSB.out.sat.kept K3.out) (HT.out.kept K3.out); rw [HE.out] at hn; refine hn.mono ?_; rintro e w6 ⟨rfl, hk6⟩; have KT := Hid.mk' (K3.out.tr hk6); clear c0 c1 c2 c3 c4 c5 c6 c7 c8 c9 c10 c11 hk6)
        | (go_at_call 28; have hn := write_any (HSB.out.sat.kept K2.out) (HT.out.kept K2.out) (HTb.out.kept K2.out); rw [HE.out, HL.out] at hn; refine hn.mono ?_; rintro e w3 ⟨a3, c3', rfl, hm3, hk3⟩; have K3 := Hid.mk' (K2.out.tr hk3); clear c0 c1 c2 c3 c4 c5 c6 c7 c8 c9 c10 c11; obtain ⟨c0, c1, c2, c3, c4, c5, c6, c7, c8, c9, c10, c11, _⟩ := HSB.out.kept K3.out; clear hm3 hk3))
  go_ret
  exact ⟨rfl, (HK.out.tr (K7.out.tr (Kept.alloc _ _ _ (0, 0) _))).below⟩
set_option maxRecDepth 100000 in
set_option maxHeartbeats 4000000 in
theorem back_ft {X : Sa} {S : St} {w : World} {a : Option Addr} {n c : Nat} {L : List Nat} (h : Sat w X S) (hC : Come w a n c L) (hT : Tabb w ∧ Table w) (hs : siteB S = false) (hr : readB L = true) : Calls Tryd.prog 6 #[siteV X S, .slice a n c] w fun e w' => e = .returned (.bool true) ∧ Below w.heap.size w w' := by
  have hkA : Kept w (w.alloc (.cells #[.int .i64 S.id, .slice X.g S.groups.length X.gc, .slice X.a S.apart.length X.ac, .slice X.b S.between.length X.bc, .slice X.p S.phases.length X.pc, .slice X.e S.eyes.length X.ec, .int .i64 S.watch, .int .i64 S.feed, .int .i64 S.heal, .int .i64 S.low, .int .i64 S.high, .slice X.l S.plans.length X.lc] 29)) none := Kept.alloc _ _ _ _ _
  have HSB := Hid.mk' (sbox_alloc h 29)
  have HK := Hid.mk' hkA
  have HC := Hid.mk' (hC.kept0 hkA)
  have HT := Hid.mk' (hT.1.kept hkA)
  have HTb := Hid.mk' (hT.2.kept hkA)
  have HRK : Hid (siteB S = true → Rok S) := fun hs => rok_may h hs
  have hn9 : n ≤ 9223372036854775807 := by have := hC.room; have := hC.max; omega
  have HWR : Hid (readB L = true → writeL (readS L) = L ∧ checkE (readS L) = 0) := fun hr => by
    have h1 := write_read hC.by_.lt hr
    exact ⟨h1.1, checkE_yes h1.2⟩
  have HSZ := Hid.mk' hC.by_.size
  clear h hC hT hkA
  go_enter Tryd.func6, Tryd.ntmps6
  go_wp2_with (go_at_call 17; refine (alive_any HT.out HTb.out).mono ?_; rintro e w1 ⟨rfl, hk1⟩; obtain ⟨c0, c1, c2, c3, c4, c5, c6, c7, c8, c9, c10, c11, _⟩ := HSB.out.kept hk1)
  go_at_call 36
  refine (smallS_any (HSB.out.sat.kept hk1)).mono ?_
  rintro e w2 ⟨z, rfl, hk2⟩
  clear c0 c1 c2 c3 c4 c5 c6 c7 c8 c9 c10 c11
  have K2 := Hid.mk' (hk1.tr hk2)
  clear hk1 hk2
  by_cases hz : z < 150
  case neg =>
    go_wp2
    go_ret
    exact ⟨rfl, (HK.out.tr K2.out).below⟩
  by_cases hn : (5000 : Int) < n
  case pos =>
    go_wp2
    go_ret
    exact ⟨rfl, (HK.out.tr K2.out).below⟩
  obtain ⟨c0, c1, c2, c3, c4, c5, c6, c7, c8, c9, c10, c11, _⟩ := HSB.out.kept K2.out
  have HE := Hid.mk' (checkE_no hs)
  have HL : Hid (writeL S = []) := by show writeL S = []; unfold writeL; rw [if_neg (by rw [hs]; decide)]
  have WR := Hid.mk' (HWR.out hr)
  have HLL := Hid.mk' (HC.out.by_.lt)
  go_wp2_with (first
        | (have hgo := S7; clear hgo; go_at_call 28; have hn := write_any S7.out (HT.out.kept K7.out) (HTb.out.kept K7.out); rw [WR.out.1, WR.out.2] at hn; refine hn.mono ?_; rintro e w8 ⟨a8, p8, rfl, hm8, hk8⟩; have t1 := run_text (hm8.by HLL.out) p8; have t2 := run_text (HC.out.kept0 (K7.out.tr hk8)).by_ c; have K8 := Hid.mk' (K7.out.tr hk8); clear hm8 hk8)
        | (have hgo := KT; clear hgo; go_at_call 30; refine (read_site (HC.out.kept0 KT.out) (HT.out.kept KT.out) (HTb.out.kept KT.out)).mono ?_; rintro e w7 hc; obtain ⟨hk7, X7, rfl, hs7⟩ := readP_yes hc hr; have K7 := Hid.mk' ((KT.out.tr hk7).tr (Kept.alloc w7 #[.int .i64 (readS L).id, .slice X7.g (readS L).groups.length X7.gc, .slice X7.a (readS L).apart.length X7.ac, .slice X7.b (readS L).between.length X7.bc, .slice X7.p (readS L).phases.length X7.pc, .slice X7.e (readS L).eyes.length X7.ec, .int .i64 (readS L).watch, .int .i64 (readS L).feed, .int .i64 (readS L).heal, .int .i64 (readS L).low, .int .i64 (readS L).high, .slice X7.l (readS L).plans.length X7.lc] 29 (0, 0) none)); have S7 := Hid.mk' (hs7 _ (Ltr.of_none (Kept.alloc w7 #[.int .i64 (readS L).id, .slice X7.g (readS L).groups.length X7.gc, .slice X7.a (readS L).apart.length X7.ac, .slice X7.b (readS L).between.length X7.bc, .slice X7.p (readS L).phases.length X7.pc, .slice X7.e (readS L).eyes.length X7.ec, .int .i64 (readS L).watch, .int .i64 (readS L).feed, .int .i64 (readS L).heal, .int .i64 (readS L).low, .int .i64 (readS L).high, .slice X7.l (readS L).plans.length X7.lc] 29 (0, 0) none))); clear hc hk7 hs7)
        | (go_at_call 16; have hn := check_any (HSB.out.sat.kept K3.out) (HT.out.kept K3.out); rw [HE.out] at hn; refine hn.mono ?_; rintro e w6 ⟨rfl, hk6⟩; have KT := Hid.mk' (K3.out.tr hk6); clear c0 c1 c2 c3 c4 c5 c6 c7 c8 c9 c10 c11 hk6)
        | (go_at_call 28; have hn := write_any (HSB.out.sat.kept K2.out) (HT.out.kept K2.out) (HTb.out.kept K2.out); rw [HE.out, HL.out] at hn; refine hn.mono ?_; rintro e w3 ⟨a3, c3', rfl, hm3, hk3⟩; have K3 := Hid.mk' (K2.out.tr hk3); clear c0 c1 c2 c3 c4 c5 c6 c7 c8 c9 c10 c11; obtain ⟨c0, c1, c2, c3, c4, c5, c6, c7, c8, c9, c10, c11, _⟩ := HSB.out.kept K3.out; clear hm3 hk3))
  go_ret
  exact ⟨rfl, (HK.out.tr K8.out).below⟩
set_option maxRecDepth 100000 in
set_option maxHeartbeats 4000000 in
theorem back_tf {X : Sa} {S : St} {w : World} {a : Option Addr} {n c : Nat} {L : List Nat} (h : Sat w X S) (hC : Come w a n c L) (hT : Tabb w ∧ Table w) (hs : siteB S = true) (hr : readB L = false) : Calls Tryd.prog 6 #[siteV X S, .slice a n c] w fun e w' => e = .returned (.bool true) ∧ Below w.heap.size w w' := by
  have hkA : Kept w (w.alloc (.cells #[.int .i64 S.id, .slice X.g S.groups.length X.gc, .slice X.a S.apart.length X.ac, .slice X.b S.between.length X.bc, .slice X.p S.phases.length X.pc, .slice X.e S.eyes.length X.ec, .int .i64 S.watch, .int .i64 S.feed, .int .i64 S.heal, .int .i64 S.low, .int .i64 S.high, .slice X.l S.plans.length X.lc] 29)) none := Kept.alloc _ _ _ _ _
  have HSB := Hid.mk' (sbox_alloc h 29)
  have HK := Hid.mk' hkA
  have HC := Hid.mk' (hC.kept0 hkA)
  have HT := Hid.mk' (hT.1.kept hkA)
  have HTb := Hid.mk' (hT.2.kept hkA)
  have HRK : Hid (siteB S = true → Rok S) := fun hs => rok_may h hs
  have hn9 : n ≤ 9223372036854775807 := by have := hC.room; have := hC.max; omega
  have HWR : Hid (readB L = true → writeL (readS L) = L ∧ checkE (readS L) = 0) := fun hr => by
    have h1 := write_read hC.by_.lt hr
    exact ⟨h1.1, checkE_yes h1.2⟩
  have HSZ := Hid.mk' hC.by_.size
  clear h hC hT hkA
  go_enter Tryd.func6, Tryd.ntmps6
  go_wp2_with (go_at_call 17; refine (alive_any HT.out HTb.out).mono ?_; rintro e w1 ⟨rfl, hk1⟩; obtain ⟨c0, c1, c2, c3, c4, c5, c6, c7, c8, c9, c10, c11, _⟩ := HSB.out.kept hk1)
  go_at_call 36
  refine (smallS_any (HSB.out.sat.kept hk1)).mono ?_
  rintro e w2 ⟨z, rfl, hk2⟩
  clear c0 c1 c2 c3 c4 c5 c6 c7 c8 c9 c10 c11
  have K2 := Hid.mk' (hk1.tr hk2)
  clear hk1 hk2
  by_cases hz : z < 150
  case neg =>
    go_wp2
    go_ret
    exact ⟨rfl, (HK.out.tr K2.out).below⟩
  by_cases hn : (5000 : Int) < n
  case pos =>
    go_wp2
    go_ret
    exact ⟨rfl, (HK.out.tr K2.out).below⟩
  obtain ⟨c0, c1, c2, c3, c4, c5, c6, c7, c8, c9, c10, c11, _⟩ := HSB.out.kept K2.out
  have HE := Hid.mk' (checkE_yes hs)
  obtain ⟨M, hM⟩ : ∃ M, writeL S = M := ⟨_, rfl⟩
  have HM := Hid.mk' hM
  have HML : Hid (∀ x ∈ M, x < 256) := by rw [← hM]; exact writeL_lt S
  have HS' := Hid.mk' hs
  clear hM hs
  go_wp2_with (first
        | (have hgo := KT; clear hgo; go_at_call 30; refine (read_site (HC.out.kept0 KT.out) (HT.out.kept KT.out) (HTb.out.kept KT.out)).mono ?_; rintro e w7 hc; obtain ⟨hk7, rfl⟩ := readP_no hc hr; have K7 := Hid.mk' (KT.out.tr hk7); clear hc hk7)
        | (go_at_call 16; have hn := check_any (HSB.out.sat.kept K5.out) (HT.out.kept K5.out); rw [HE.out] at hn; refine hn.mono ?_; rintro e w6 ⟨rfl, hk6⟩; have KT := Hid.mk' (K5.out.tr hk6); clear c0 c1 c2 c3 c4 c5 c6 c7 c8 c9 c10 c11 d0 d1 d2 d3 d4 d5 d6 d7 d8 d9 d10 d11 t1 t2 hk6)
        | (have hgo := S4; clear hgo; go_at_call 28; have hn := write_any S4.out (HT.out.kept K4.out) (HTb.out.kept K4.out); rw [HE.out, HM.out] at hn; refine hn.mono ?_; rintro e w5 ⟨a5, p5, rfl, hm5, hk5⟩; have t1 := run_text (hm5.by HML.out) p5; have K5 := Hid.mk' (K4.out.tr hk5); have t2 := run_text ((M3.out.kept (K43.out.tr hk5)).by HML.out) c3'; obtain ⟨d0, d1, d2, d3, d4, d5, d6, d7, d8, d9, d10, d11, _⟩ := B4.out.kept hk5; clear c0 c1 c2 c3 c4 c5 c6 c7 c8 c9 c10 c11; obtain ⟨c0, c1, c2, c3, c4, c5, c6, c7, c8, c9, c10, c11, _⟩ := HSB.out.kept K5.out; clear hm5 hk5)
        | (have hgo := M3; clear hgo; go_at_call 30; refine (read_site (M3.out.come HML.out) (HT.out.kept K3.out) (HTb.out.kept K3.out)).mono ?_; rintro e w4 hc; obtain ⟨hk4, X4, rfl, hs4⟩ := readP_write' HM.out hc (HRK.out HS'.out) HS'.out; have K43 := Hid.mk' (hk4.tr (Kept.alloc w4 #[.int .i64 S.id, .slice X4.g S.groups.length X4.gc, .slice X4.a S.apart.length X4.ac, .slice X4.b S.between.length X4.bc, .slice X4.p S.phases.length X4.pc, .slice X4.e S.eyes.length X4.ec, .int .i64 S.watch, .int .i64 S.feed, .int .i64 S.heal, .int .i64 S.low, .int .i64 S.high, .slice X4.l S.plans.length X4.lc] 29 (0, 0) none)); have K4 := Hid.mk' (K3.out.tr K43.out); have S4 := Hid.mk' (hs4 _ (Ltr.of_none (Kept.alloc w4 #[.int .i64 S.id, .slice X4.g S.groups.length X4.gc, .slice X4.a S.apart.length X4.ac, .slice X4.b S.between.length X4.bc, .slice X4.p S.phases.length X4.pc, .slice X4.e S.eyes.length X4.ec, .int .i64 S.watch, .int .i64 S.feed, .int .i64 S.heal, .int .i64 S.low, .int .i64 S.high, .slice X4.l S.plans.length X4.lc] 29 (0, 0) none))); have B4 := Hid.mk' (sbox_alloc (hs4 _ Ltr.rfl') 29); clear hc hk4 hs4)
        | (go_at_call 28; have hn := write_any (HSB.out.sat.kept K2.out) (HT.out.kept K2.out) (HTb.out.kept K2.out); rw [HE.out, HM.out] at hn; refine hn.mono ?_; rintro e w3 ⟨a3, c3', rfl, hm3, hk3⟩; have K3 := Hid.mk' (K2.out.tr hk3); have M3 := Hid.mk' hm3; clear hm3 hk3))
  go_ret
  exact ⟨rfl, (HK.out.tr (K7.out.tr (Kept.alloc _ _ _ (0, 0) _))).below⟩
set_option maxRecDepth 100000 in
set_option maxHeartbeats 4000000 in
theorem back_tt {X : Sa} {S : St} {w : World} {a : Option Addr} {n c : Nat} {L : List Nat} (h : Sat w X S) (hC : Come w a n c L) (hT : Tabb w ∧ Table w) (hs : siteB S = true) (hr : readB L = true) : Calls Tryd.prog 6 #[siteV X S, .slice a n c] w fun e w' => e = .returned (.bool true) ∧ Below w.heap.size w w' := by
  have hkA : Kept w (w.alloc (.cells #[.int .i64 S.id, .slice X.g S.groups.length X.gc, .slice X.a S.apart.length X.ac, .slice X.b S.between.length X.bc, .slice X.p S.phases.length X.pc, .slice X.e S.eyes.length X.ec, .int .i64 S.watch, .int .i64 S.feed, .int .i64 S.heal, .int .i64 S.low, .int .i64 S.high, .slice X.l S.plans.length X.lc] 29)) none := Kept.alloc _ _ _ _ _
  have HSB := Hid.mk' (sbox_alloc h 29)
  have HK := Hid.mk' hkA
  have HC := Hid.mk' (hC.kept0 hkA)
  have HT := Hid.mk' (hT.1.kept hkA)
  have HTb := Hid.mk' (hT.2.kept hkA)
  have HRK : Hid (siteB S = true → Rok S) := fun hs => rok_may h hs
  have hn9 : n ≤ 9223372036854775807 := by have := hC.room; have := hC.max; omega
  have HWR : Hid (readB L = true → writeL (readS L) = L ∧ checkE (readS L) = 0) := fun hr => by
    have h1 := write_read hC.by_.lt hr
    exact ⟨h1.1, checkE_yes h1.2⟩
  have HSZ := Hid.mk' hC.by_.size
  clear h hC hT hkA
  go_enter Tryd.func6, Tryd.ntmps6
  go_wp2_with (go_at_call 17; refine (alive_any HT.out HTb.out).mono ?_; rintro e w1 ⟨rfl, hk1⟩; obtain ⟨c0, c1, c2, c3, c4, c5, c6, c7, c8, c9, c10, c11, _⟩ := HSB.out.kept hk1)
  go_at_call 36
  refine (smallS_any (HSB.out.sat.kept hk1)).mono ?_
  rintro e w2 ⟨z, rfl, hk2⟩
  clear c0 c1 c2 c3 c4 c5 c6 c7 c8 c9 c10 c11
  have K2 := Hid.mk' (hk1.tr hk2)
  clear hk1 hk2
  by_cases hz : z < 150
  case neg =>
    go_wp2
    go_ret
    exact ⟨rfl, (HK.out.tr K2.out).below⟩
  by_cases hn : (5000 : Int) < n
  case pos =>
    go_wp2
    go_ret
    exact ⟨rfl, (HK.out.tr K2.out).below⟩
  obtain ⟨c0, c1, c2, c3, c4, c5, c6, c7, c8, c9, c10, c11, _⟩ := HSB.out.kept K2.out
  have HE := Hid.mk' (checkE_yes hs)
  obtain ⟨M, hM⟩ : ∃ M, writeL S = M := ⟨_, rfl⟩
  have HM := Hid.mk' hM
  have HML : Hid (∀ x ∈ M, x < 256) := by rw [← hM]; exact writeL_lt S
  have HS' := Hid.mk' hs
  clear hM hs
  have WR := Hid.mk' (HWR.out hr)
  have HLL := Hid.mk' (HC.out.by_.lt)
  go_wp2_with (first
        | (have hgo := S7; clear hgo; go_at_call 28; have hn := write_any S7.out (HT.out.kept K7.out) (HTb.out.kept K7.out); rw [WR.out.1, WR.out.2] at hn; refine hn.mono ?_; rintro e w8 ⟨a8, p8, rfl, hm8, hk8⟩; have t1 := run_text (hm8.by HLL.out) p8; have t2 := run_text (HC.out.kept0 (K7.out.tr hk8)).by_ c; have K8 := Hid.mk' (K7.out.tr hk8); clear hm8 hk8)
        | (have hgo := KT; clear hgo; go_at_call 30; refine (read_site (HC.out.kept0 KT.out) (HT.out.kept KT.out) (HTb.out.kept KT.out)).mono ?_; rintro e w7 hc; obtain ⟨hk7, X7, rfl, hs7⟩ := readP_yes hc hr; have K7 := Hid.mk' ((KT.out.tr hk7).tr (Kept.alloc w7 #[.int .i64 (readS L).id, .slice X7.g (readS L).groups.length X7.gc, .slice X7.a (readS L).apart.length X7.ac, .slice X7.b (readS L).between.length X7.bc, .slice X7.p (readS L).phases.length X7.pc, .slice X7.e (readS L).eyes.length X7.ec, .int .i64 (readS L).watch, .int .i64 (readS L).feed, .int .i64 (readS L).heal, .int .i64 (readS L).low, .int .i64 (readS L).high, .slice X7.l (readS L).plans.length X7.lc] 29 (0, 0) none)); have S7 := Hid.mk' (hs7 _ (Ltr.of_none (Kept.alloc w7 #[.int .i64 (readS L).id, .slice X7.g (readS L).groups.length X7.gc, .slice X7.a (readS L).apart.length X7.ac, .slice X7.b (readS L).between.length X7.bc, .slice X7.p (readS L).phases.length X7.pc, .slice X7.e (readS L).eyes.length X7.ec, .int .i64 (readS L).watch, .int .i64 (readS L).feed, .int .i64 (readS L).heal, .int .i64 (readS L).low, .int .i64 (readS L).high, .slice X7.l (readS L).plans.length X7.lc] 29 (0, 0) none))); clear hc hk7 hs7)
        | (go_at_call 16; have hn := check_any (HSB.out.sat.kept K5.out) (HT.out.kept K5.out); rw [HE.out] at hn; refine hn.mono ?_; rintro e w6 ⟨rfl, hk6⟩; have KT := Hid.mk' (K5.out.tr hk6); clear c0 c1 c2 c3 c4 c5 c6 c7 c8 c9 c10 c11 d0 d1 d2 d3 d4 d5 d6 d7 d8 d9 d10 d11 t1 t2 hk6)
        | (have hgo := S4; clear hgo; go_at_call 28; have hn := write_any S4.out (HT.out.kept K4.out) (HTb.out.kept K4.out); rw [HE.out, HM.out] at hn; refine hn.mono ?_; rintro e w5 ⟨a5, p5, rfl, hm5, hk5⟩; have t1 := run_text (hm5.by HML.out) p5; have K5 := Hid.mk' (K4.out.tr hk5); have t2 := run_text ((M3.out.kept (K43.out.tr hk5)).by HML.out) c3'; obtain ⟨d0, d1, d2, d3, d4, d5, d6, d7, d8, d9, d10, d11, _⟩ := B4.out.kept hk5; clear c0 c1 c2 c3 c4 c5 c6 c7 c8 c9 c10 c11; obtain ⟨c0, c1, c2, c3, c4, c5, c6, c7, c8, c9, c10, c11, _⟩ := HSB.out.kept K5.out; clear hm5 hk5)
        | (have hgo := M3; clear hgo; go_at_call 30; refine (read_site (M3.out.come HML.out) (HT.out.kept K3.out) (HTb.out.kept K3.out)).mono ?_; rintro e w4 hc; obtain ⟨hk4, X4, rfl, hs4⟩ := readP_write' HM.out hc (HRK.out HS'.out) HS'.out; have K43 := Hid.mk' (hk4.tr (Kept.alloc w4 #[.int .i64 S.id, .slice X4.g S.groups.length X4.gc, .slice X4.a S.apart.length X4.ac, .slice X4.b S.between.length X4.bc, .slice X4.p S.phases.length X4.pc, .slice X4.e S.eyes.length X4.ec, .int .i64 S.watch, .int .i64 S.feed, .int .i64 S.heal, .int .i64 S.low, .int .i64 S.high, .slice X4.l S.plans.length X4.lc] 29 (0, 0) none)); have K4 := Hid.mk' (K3.out.tr K43.out); have S4 := Hid.mk' (hs4 _ (Ltr.of_none (Kept.alloc w4 #[.int .i64 S.id, .slice X4.g S.groups.length X4.gc, .slice X4.a S.apart.length X4.ac, .slice X4.b S.between.length X4.bc, .slice X4.p S.phases.length X4.pc, .slice X4.e S.eyes.length X4.ec, .int .i64 S.watch, .int .i64 S.feed, .int .i64 S.heal, .int .i64 S.low, .int .i64 S.high, .slice X4.l S.plans.length X4.lc] 29 (0, 0) none))); have B4 := Hid.mk' (sbox_alloc (hs4 _ Ltr.rfl') 29); clear hc hk4 hs4)
        | (go_at_call 28; have hn := write_any (HSB.out.sat.kept K2.out) (HT.out.kept K2.out) (HTb.out.kept K2.out); rw [HE.out, HM.out] at hn; refine hn.mono ?_; rintro e w3 ⟨a3, c3', rfl, hm3, hk3⟩; have K3 := Hid.mk' (K2.out.tr hk3); have M3 := Hid.mk' hm3; clear hm3 hk3))
  go_ret
  exact ⟨rfl, (HK.out.tr K8.out).below⟩
theorem back_any {X : Sa} {S : St} {w : World} {a : Option Addr} {n c : Nat} {L : List Nat} (h : Sat w X S) (hC : Come w a n c L) (hT : Tabb w ∧ Table w) : Calls Tryd.prog 6 #[siteV X S, .slice a n c] w fun e w' => e = .returned (.bool true) ∧ Below w.heap.size w w' := by
  cases hs : siteB S <;> cases hr : readB L
  · exact back_ff h hC hT hs hr
  · exact back_ft h hC hT hs hr
  · exact back_tf h hC hT hs hr
  · exact back_tt h hC hT hs hr

end Go.Proofs.YtpajefkfnhibnaaDoor
