/-
  Texts joined: some of those that the proofs of this seat stand on.
-/
import Derived.Test.YtkgimccffggfdaaDoorSvM
import Derived.Test.YtkgimccffggfdaaDoorSAli
import Derived.Test.YtkgimccffggfdaaDoorRefG
import Derived.Deep.RegionHeld
/-
  THE WALK of SeqKeeps: what ends at once (made by a program).
-/
namespace Go.Proofs.YtkgimccffggfdaaDoor
open Go.RowKit Go.Lib Go.Deep
set_option linter.unusedVariables false
set_option linter.unusedSimpArgs false

set_option maxRecDepth 100000 in
set_option maxHeartbeats 2000000 in
theorem skep_neg {X : Sa} {S : St} {w : World} (h : Sat w X S) (hT : Tabb w) {cc cg : Option Addr} {lc lg_ kc kg : Nat} {LC LG : List Nat} (hC : U3 w cc lc kc LC) (hG : U3 w cg lg_ kg LG) (p : Int) (hp : p < 0) : Calls Tryd.prog 6 #[siteV X S, .int .i64 p, .slice cc lc kc, .slice cg lg_ kg] w fun e w' => e = .returned (.bool true) ∧ Below w.heap.size w w' := by
  have hp0 : decide (p < 0) = true := decide_eq_true hp
  clear hp
  obtain ⟨WA, hWA⟩ : ∃ WA, (w.alloc (.cells #[.int .i64 S.id, .slice X.g S.groups.length X.gc, .slice X.a S.apart.length X.ac, .slice X.b S.between.length X.bc, .slice X.p S.phases.length X.pc, .slice X.e S.eyes.length X.ec, .int .i64 S.watch, .int .i64 S.feed, .int .i64 S.heal, .int .i64 S.low, .int .i64 S.high, .slice X.l S.plans.length X.lc] 37)) = WA := ⟨_, rfl⟩
  obtain ⟨HSB, HK, HS, s0_, s1_, s2_, s3_, s4_, s5_, s6_, s7_, s8_, s9_, s10_, s11_⟩ := hd1 h hWA
  have HT := Hid.mk' (hT.kept HK.out)
  have hK0 := Kept.refl WA none
  clear h hT
  go_enter Tryd.func6, Tryd.ntmps6
  go_wp2_with (first | rw [hWA] | (go_at_call 10; refine (salive_any HT.out).mono ?_; rintro e wv ⟨rfl, hkv⟩; have hKv : Kept WA wv none := hkv))
  go_at_call 11
  refine (rgreat_any (HS.out.kept hKv)).mono ?_
  rintro e wg ⟨gr, rfl, hgr, hkg⟩
  have hKg : Kept WA wg none := hKv.tr hkg
  clear hgr
  cases gr with
  | true =>
    go_wp2
    go_ret
    exact ⟨rfl, (HK.out.tr hKg).below⟩
  | false =>
    go_wp2
    go_ret
    exact ⟨rfl, (HK.out.tr hKg).below⟩
set_option maxRecDepth 100000 in
set_option maxHeartbeats 2000000 in
theorem skep_far {X : Sa} {S : St} {w : World} (h : Sat w X S) (hT : Tabb w) {cc cg : Option Addr} {lc lg_ kc kg : Nat} {LC LG : List Nat} (hC : U3 w cc lc kc LC) (hG : U3 w cg lg_ kg LG) (p : Int) (hp : 0 ≤ p) (hp2 : (S.phases.length : Int) ≤ p) : Calls Tryd.prog 6 #[siteV X S, .int .i64 p, .slice cc lc kc, .slice cg lg_ kg] w fun e w' => e = .returned (.bool true) ∧ Below w.heap.size w w' := by
  have hp0 : decide (p < 0) = false := decide_eq_false (by omega)
  have hp3 : decide ((S.phases.length : Int) ≤ p) = true := decide_eq_true hp2
  clear hp hp2
  obtain ⟨WA, hWA⟩ : ∃ WA, (w.alloc (.cells #[.int .i64 S.id, .slice X.g S.groups.length X.gc, .slice X.a S.apart.length X.ac, .slice X.b S.between.length X.bc, .slice X.p S.phases.length X.pc, .slice X.e S.eyes.length X.ec, .int .i64 S.watch, .int .i64 S.feed, .int .i64 S.heal, .int .i64 S.low, .int .i64 S.high, .slice X.l S.plans.length X.lc] 37)) = WA := ⟨_, rfl⟩
  obtain ⟨HSB, HK, HS, s0_, s1_, s2_, s3_, s4_, s5_, s6_, s7_, s8_, s9_, s10_, s11_⟩ := hd1 h hWA
  have HT := Hid.mk' (hT.kept HK.out)
  have hK0 := Kept.refl WA none
  clear h hT
  go_enter Tryd.func6, Tryd.ntmps6
  go_wp2_with (first | rw [hWA] | (go_at_call 10; refine (salive_any HT.out).mono ?_; rintro e wv ⟨rfl, hkv⟩; have hKv : Kept WA wv none := hkv))
  go_at_call 11
  refine (rgreat_any (HS.out.kept hKv)).mono ?_
  rintro e wg ⟨gr, rfl, hgr, hkg⟩
  have hKg : Kept WA wg none := hKv.tr hkg
  clear hgr
  cases gr with
  | true =>
    go_wp2
    go_ret
    exact ⟨rfl, (HK.out.tr hKg).below⟩
  | false =>
    go_wp2
    go_ret
    exact ⟨rfl, (HK.out.tr hKg).below⟩
set_option maxRecDepth 100000 in
set_option maxHeartbeats 2000000 in
theorem skep_no {X : Sa} {S : St} {w : World} (h : Sat w X S) (hT : Tabb w) {cc cg : Option Addr} {lc lg_ kc kg : Nat} {LC LG : List Nat} (hC : U3 w cc lc kc LC) (hG : U3 w cg lg_ kg LG) (p : Nat) (hp : p < S.phases.length) (hs : siteB S = false) : Calls Tryd.prog 6 #[siteV X S, .int .i64 (p : Int), .slice cc lc kc, .slice cg lg_ kg] w fun e w' => e = .returned (.bool true) ∧ Below w.heap.size w w' := by
  have hp0 : decide ((p : Int) < 0) = false := decide_eq_false (by omega)
  have hp3 : decide ((S.phases.length : Int) ≤ (p : Int)) = false := decide_eq_false (by omega)
  have hp4 : ¬ S.phases.length ≤ p := by omega
  obtain ⟨WA, hWA⟩ : ∃ WA, (w.alloc (.cells #[.int .i64 S.id, .slice X.g S.groups.length X.gc, .slice X.a S.apart.length X.ac, .slice X.b S.between.length X.bc, .slice X.p S.phases.length X.pc, .slice X.e S.eyes.length X.ec, .int .i64 S.watch, .int .i64 S.feed, .int .i64 S.heal, .int .i64 S.low, .int .i64 S.high, .slice X.l S.plans.length X.lc] 37)) = WA := ⟨_, rfl⟩
  obtain ⟨HSB, HK, HS, s0_, s1_, s2_, s3_, s4_, s5_, s6_, s7_, s8_, s9_, s10_, s11_⟩ := hd1 h hWA
  have HT := Hid.mk' (hT.kept HK.out)
  have hK0 := Kept.refl WA none
  clear h hT
  go_enter Tryd.func6, Tryd.ntmps6
  go_wp2_with (first | rw [hWA] | (go_at_call 10; refine (salive_any HT.out).mono ?_; rintro e wv ⟨rfl, hkv⟩; have hKv : Kept WA wv none := hkv))
  go_at_call 11
  refine (rgreat_any (HS.out.kept hKv)).mono ?_
  rintro e wg ⟨gr, rfl, hgr, hkg⟩
  have hKg : Kept WA wg none := hKv.tr hkg
  clear hgr
  cases gr with
  | true =>
    go_wp2
    go_ret
    exact ⟨rfl, (HK.out.tr hKg).below⟩
  | false =>
    go_wp2_with (first | (have hgo := hKg; clear hgo; go_at_call 20; refine (first_no (HS.out.kept hKg) (HT.out.kept hKg) hs).mono ?_; rintro e wf ⟨rfl, hkf⟩; have hKf : Kept WA wf none := hKg.tr hkf))
    go_ret
    exact ⟨rfl, ((HK.out.tr hKf).tr (Kept.alloc _ _ _ _ none)).below⟩
theorem first_yesq {X : Sa} {S : St} {w : World} (h : Sat w X S) (hT : Tabb w) (hs : siteB S = true) : Calls Tryd.prog 20 #[siteV X S] w fun e w' => ∃ b, e = .returned (.tuple #[.agg #[.slice (some ⟨b, 0, none⟩) S.groups.length S.groups.length, .int .i64 (firstV S).start, .bool (firstV S).flashed], .int .i64 0]) ∧ w.heap.size ≤ b ∧ SafeAt w' (some ⟨b, 0, none⟩) S.groups.length (firstV S) ∧ Kept w w' none := by
  refine (first_yes h hT hs).mono ?_
  rintro e w' ⟨b, rfl, h1, h2, h3⟩
  have hng := (span_may hs).base.sh.ok.ng
  have hl := firstV_len S
  refine ⟨b, by rw [safeV, hl], h1, OwnG.safe h2 hl (fun i hi => firstV_g hi) (by omega) (fun s hs => ?_), h3⟩
  have := (List.mem_replicate.1 hs).2
  subst this
  unfold i64B; simp
theorem Bx2.setQ {w : World} {b : Nat} {v0 v1 : Value} (h : Bx2 w b v0 v1) {bq bn : Nat} (h1 : b ≠ bq) (h2 : b ≠ bn) (x0 x1 y0 y1 y2 : Value) : Bx2 (((((w.setCell ⟨bq, 0, none⟩ x0).setCell ⟨bq, 1, none⟩ x1).setCell ⟨bn, 0, none⟩ y0).setCell ⟨bn, 1, none⟩ y1).setCell ⟨bn, 2, none⟩ y2) b v0 v1 := by
  have k1 : Kept w ((w.setCell ⟨bq, 0, none⟩ x0).setCell ⟨bq, 1, none⟩ x1) (some bq) := ((Kept.refl w (some bq)).setRow _ _).setRow _ _
  have s1 := h.keptR k1 (fun e => h1 (Option.some.inj e))
  generalize (w.setCell ⟨bq, 0, none⟩ x0).setCell ⟨bq, 1, none⟩ x1 = w1 at *
  have k2 : Kept w1 (((w1.setCell ⟨bn, 0, none⟩ y0).setCell ⟨bn, 1, none⟩ y1).setCell ⟨bn, 2, none⟩ y2) (some bn) := (((Kept.refl w1 (some bn)).setRow _ _).setRow _ _).setRow _ _
  exact s1.keptR k2 (fun e => h2 (Option.some.inj e))

end Go.Proofs.YtkgimccffggfdaaDoor

/-
  THE WALK of SeqKeeps: the ticks (made by a program).
-/
namespace Go.Proofs.YtkgimccffggfdaaDoor
open Go.RowKit Go.Lib Go.Deep
set_option linter.unusedVariables false
set_option linter.unusedSimpArgs false

set_option maxRecDepth 100000 in
set_option maxHeartbeats 16000000 in
theorem skep_go {X : Sa} {S : St} {w : World} (h : Sat w X S) (hT : Tabb w) {cc cg : Option Addr} {lc lg_ kc kg : Nat} {LC LG : List Nat} (hC : U3 w cc lc kc LC) (hG : U3 w cg lg_ kg LG) (p : Nat) (hp : p < S.phases.length) (hs : siteB S = true) : Calls Tryd.prog 6 #[siteV X S, .int .i64 (p : Int), .slice cc lc kc, .slice cg lg_ kg] w fun e w' => e = .returned (.bool true) ∧ Below w.heap.size w w' := by
  have hp0 : decide ((p : Int) < 0) = false := decide_eq_false (by omega)
  have hp3 : decide ((S.phases.length : Int) ≤ (p : Int)) = false := decide_eq_false (by omega)
  have hp4 : ¬ S.phases.length ≤ p := by omega
  have hn8 := (span_may hs).base.sh.ok.np.2
  have hng := (span_may hs).base.sh.ok.ng
  have HSI := Hid.mk' hs
  have HKP0 : Hid (Kp S ⟨p, 0⟩ (firstV S) 0) := kp_first hs hp
  have HSAT := Hid.mk' h
  have HTAB := Hid.mk' hT
  have HUC := Hid.mk' hC
  have HUG := Hid.mk' hG
  clear hs
  obtain ⟨WA, hWA⟩ : ∃ WA, (w.alloc (.cells #[.int .i64 S.id, .slice X.g S.groups.length X.gc, .slice X.a S.apart.length X.ac, .slice X.b S.between.length X.bc, .slice X.p S.phases.length X.pc, .slice X.e S.eyes.length X.ec, .int .i64 S.watch, .int .i64 S.feed, .int .i64 S.heal, .int .i64 S.low, .int .i64 S.high, .slice X.l S.plans.length X.lc] 37)) = WA := ⟨_, rfl⟩
  obtain ⟨HSB, HK, HS, s0_, s1_, s2_, s3_, s4_, s5_, s6_, s7_, s8_, s9_, s10_, s11_⟩ := hd1 h hWA
  have HT := Hid.mk' (hT.kept HK.out)
  have hK0 := Kept.refl WA none
  clear h hT
  go_enter Tryd.func6, Tryd.ntmps6
  go_wp2_with (first | rw [hWA] | (go_at_call 10; refine (salive_any HT.out).mono ?_; rintro e wv ⟨rfl, hkv⟩; have hKv : Kept WA wv none := hkv))
  go_at_call 11
  refine (rgreat_any (HS.out.kept hKv)).mono ?_
  rintro e wg ⟨gr, rfl, hgr, hkg⟩
  have hKg : Kept WA wg none := hKv.tr hkg
  clear hgr
  cases gr with
  | true =>
    go_wp2
    go_ret
    exact ⟨rfl, (HK.out.tr hKg).below⟩
  | false =>
    go_wp2_with (first | (have hgo := hKg; clear hgo; go_at_call 20; refine (first_yesq (HS.out.kept hKg) (HT.out.kept hKg) HSI.out).mono ?_; rintro e wf ⟨b5, rfl, hb5, hs5, hkf⟩; have hKf : Kept WA wf none := hKg.tr hkf; have HS5 := Hid.mk' hs5; clear hs5))
    have k5 : Kept wf (wf.alloc (.cells #[.slice (some ⟨b5, 0, none⟩) S.groups.length S.groups.length, .int .i64 (firstV S).start, .bool (firstV S).flashed] 26)) none := Kept.alloc _ _ _ _ _
    have bx5 := box_alloc wf (.slice (some ⟨b5, 0, none⟩) S.groups.length S.groups.length) (.int .i64 (firstV S).start) (.bool (firstV S).flashed) 26
    have z5 : (wf.alloc (.cells #[.slice (some ⟨b5, 0, none⟩) S.groups.length S.groups.length, .int .i64 (firstV S).start, .bool (firstV S).flashed] 26)).heap.size = wf.heap.size + 1 := by simp
    have k6 : Kept (wf.alloc (.cells #[.slice (some ⟨b5, 0, none⟩) S.groups.length S.groups.length, .int .i64 (firstV S).start, .bool (firstV S).flashed] 26)) ((wf.alloc (.cells #[.slice (some ⟨b5, 0, none⟩) S.groups.length S.groups.length, .int .i64 (firstV S).start, .bool (firstV S).flashed] 26)).alloc (.cells #[.int .i64 (p : Int), .int .i64 0] 40)) none := Kept.alloc _ _ _ _ _
    have bx6 := bx2_alloc (wf.alloc (.cells #[.slice (some ⟨b5, 0, none⟩) S.groups.length S.groups.length, .int .i64 (firstV S).start, .bool (firstV S).flashed] 26)) (.int .i64 (p : Int)) (.int .i64 0) 40
    rw [z5] at bx6
    have l5 := HS5.out.lie
    have bx5 := bx5.kept k6
    have hs5 := HS5.out.kept (k5.tr k6)
    have hkW : Kept WA ((wf.alloc (.cells #[.slice (some ⟨b5, 0, none⟩) S.groups.length S.groups.length, .int .i64 (firstV S).start, .bool (firstV S).flashed] 26)).alloc (.cells #[.int .i64 (p : Int), .int .i64 0] 40)) none := (hKf.tr k5).tr k6
    obtain ⟨W6, hW6⟩ : ∃ W6, (wf.alloc (.cells #[.slice (some ⟨b5, 0, none⟩) S.groups.length S.groups.length, .int .i64 (firstV S).start, .bool (firstV S).flashed] 26)).alloc (.cells #[.int .i64 (p : Int), .int .i64 0] 40) = W6 := ⟨_, rfl⟩
    rw [hW6] at bx5 bx6 hs5 hkW ⊢
    have hlS := HSB.out.lt
    have hszf := hKf.size
    have hszw := HK.out.size
    have HSV0 : Hid (Sv w W6 X S w.heap.size (wf.heap.size + 1) wf.heap.size ⟨p, 0⟩ (firstV S)) := by
      refine ⟨HK.out.tr hkW, HSB.out.kept hkW, bx6, ⟨some ⟨b5, 0, none⟩, S.groups.length, bx5, hs5, fun b e => ?_⟩⟩
      injection e with e
      subst e
      obtain ⟨bf, off, ea, hbf, _⟩ := l5.at_ (by rw [firstV_len]; omega)
      injection ea with ea
      injection ea with ea _
      subst ea
      show b5 ≠ wf.heap.size ∧ b5 ≠ wf.heap.size + 1
      omega
    have HD : Hid (Sd w w.heap.size (wf.heap.size + 1) wf.heap.size) := ⟨by omega, by omega, by omega, by omega, by omega⟩
    clear hW6 k5 k6 z5 bx5 bx6 hs5 hkW l5 hlS hszf hszw hb5 HS5 hKg hkg hKv hkv hK0 s0_ s1_ s2_ s3_ s4_ s5_ s6_ s7_ s8_ s9_ s10_ s11_ HS HT HSB hkf hKf
    obtain ⟨bs, hbs⟩ : ∃ bs, w.heap.size = bs := ⟨_, rfl⟩
    rw [show Sv w W6 X S w.heap.size = Sv w W6 X S bs by rw [hbs]] at HSV0
    rw [show Sd w w.heap.size = Sd w bs by rw [hbs]] at HD
    rw [show (Value.pointer (some ⟨w.heap.size, 0, none⟩)) = Value.pointer (some ⟨bs, 0, none⟩) by rw [hbs]]
    clear hbs
    generalize wf.heap.size + 1 = bq at *
    generalize wf.heap.size = bn at *
    go_loopw [13, 14, 15, 16, 17, 18, 19, 20] (fun lv nv _ _ _ _ _ _ wr => ∃ (k l : Nat) (Q1 : Sq) (G1 : Sf), k ≤ 120 ∧ l ≤ k ∧ nv = .int .i64 k ∧ lv = .int .i64 l ∧ Kp S Q1 G1 l ∧ Sv w wr X S bs bq bn Q1 G1) (fun _ nv _ _ _ _ _ _ _ => 120 - (intOf nv).toNat)
    case atStart => exact ⟨0, 0, ⟨p, 0⟩, firstV S, by omega, by omega, rfl, rfl, HKP0.out, HSV0.out⟩
    case round =>
      obtain ⟨k, l, Q1, G1, hk, hlk, rfl, rfl, hkp, hsv⟩ := hrel
      obtain ⟨ag, cg', hb, hsf, hne⟩ := hsv.bx
      have KPW := Hid.mk' hsv.kp
      by_cases hlt : k < 120
      · have HSW := Hid.mk' hsv.sb
        have HBQ := Hid.mk' hsv.q
        have HBN := Hid.mk' hb
        have hgk := hkp.goes
        have hpk := hkp.ph
        have hsi := hkp.since
        have hlq := hsv.q.lt
        have hln := hb.lt
        have hls := hsv.sb.lt
        obtain ⟨Q2, hq2⟩ : ∃ Q2, goQ S Q1 G1 (atU LC k) (atU LG k) = Q2 := ⟨_, rfl⟩
        obtain ⟨G2, hg2⟩ : ∃ G2, stepT S Q2.ph G1 = G2 := ⟨_, rfl⟩
        have HNOT : Hid (fullB S G1 Q1.ph = false → l = 0 ∧ Q2 = ⟨Q1.ph, 0⟩ ∧ Kp S Q2 G2 0) := fun e => by
          have := kp_not (c := atU LC k) (g := atU LG k) HSI.out hkp e
          rw [hq2, hg2] at this
          exact this
        have HFUL : Hid (fullB S G1 Q1.ph = true → (Q2.ph ≠ Q1.ph ∧ (S.ph Q1.ph).min ≤ (l : Int) + 1 ∧ othB S (atU LC k) Q1.ph S.phases.length = true ∧ Kp S Q2 G2 0) ∨ (Q2.ph = Q1.ph ∧ Q2.since = (l : Int) + 1 ∧ (othB S (atU LC k) Q1.ph S.phases.length = true → (S.ph Q1.ph).max ≤ (l : Int) + 1 → (l : Int) + 1 < (S.ph Q1.ph).min) ∧ Kp S Q2 G2 (l + 1))) := fun e => by
          have := kp_full (c := atU LC k) (g := atU LG k) HSI.out hkp (by omega) e
          rw [hq2, hg2] at this
          exact this
        obtain ⟨FB, hFB⟩ : ∃ FB, fullB S G1 Q1.ph = FB := ⟨_, rfl⟩
        rw [hFB] at HNOT HFUL
        have hfl1 := (mayS_parts (goes_parts hgk).1).1
        have HFU : Hid (∀ w', Kept wr w' none → Calls Tryd.prog 17 #[siteV X S, .agg #[.slice ag S.groups.length cg', .int .i64 G1.start, .bool G1.flashed], .int .i64 (Q1.ph : Int)] w' fun e w2 => e = .returned (.tuple #[.bool FB, .int .i64 0]) ∧ Kept w' w2 none) := fun w' q => by
          have hx := tfull_go (hsv.sb.sat.kept q) ((HTAB.out.kept hsv.kp).kept q) (hsf.kept q) Q1.ph HSI.out hfl1 hpk
          rw [safeV, hfl1, hFB] at hx
          exact hx
        have HST : Hid (∀ w0 w', Kept w0 w' none → Kept wr w0 none → Calls Tryd.prog 18 #[siteV X S, .agg #[.int .i64 (Q1.ph : Int), .int .i64 Q1.since], .agg #[.slice ag S.groups.length cg', .int .i64 G1.start, .bool G1.flashed], .int .u32 ((atU LC k : Nat) : Int), .int .u32 ((atU LG k : Nat) : Int)] w' fun e w2 => ∃ b2, e = .returned (.tuple #[.agg #[.int .i64 (Q2.ph : Int), .int .i64 Q2.since], .agg #[.slice (some ⟨b2, 0, none⟩) S.groups.length S.groups.length, .int .i64 G2.start, .bool G2.flashed], .bool true]) ∧ w'.heap.size ≤ b2 ∧ SafeAt w2 (some ⟨b2, 0, none⟩) S.groups.length G2 ∧ Kept w' w2 none) := fun w0 w' q q2 => by
          have hx := sstep_any (hsv.sb.sat.kept (q2.tr q)) ((HTAB.out.kept hsv.kp).kept (q2.tr q)) (hsf.kept (q2.tr q)) Q1.ph Q1.since (atU LC k) (atU LG k) (atU_lt HUC.out.rng k) (atU_lt HUG.out.rng k) HSI.out hgk hpk (by omega) (by omega) Q2 hq2
          rw [hg2] at hx
          exact hx
        have HA1 : Hid (∀ w0 w', Kept w0 w' none → Kept wr w0 none → Calls Tryd.prog 19 #[.slice cc lc kc, .int .i64 (k : Int)] w' fun e w2 => e = .returned (.int .u32 ((atU LC k : Nat) : Int)) ∧ w2 = w') := fun w0 w' q q2 => sat_any (HUC.out.kept ((hsv.kp.tr q2).tr q)) k (by omega)
        have HA2 : Hid (∀ w0 w', Kept w0 w' none → Kept wr w0 none → Calls Tryd.prog 19 #[.slice cg lg_ kg, .int .i64 (k : Int)] w' fun e w2 => e = .returned (.int .u32 ((atU LG k : Nat) : Int)) ∧ w2 = w') := fun w0 w' q q2 => sat_any (HUG.out.kept ((hsv.kp.tr q2).tr q)) k (by omega)
        have HC9 := Hid.mk' (atU_lt HUC.out.rng k)
        have HSVW := Hid.mk' hsv
        have HPK := Hid.mk' hpk
        have hK0' := Kept.refl wr none
        have s0_ : ∀ w', Kept wr w' none → w'.cell? ⟨bs, 0, none⟩ = some (.int .i64 S.id) := fun w' q => (HSW.out.kept q).c0
        have s1_ : ∀ w', Kept wr w' none → w'.cell? ⟨bs, 1, none⟩ = some (.slice X.g S.groups.length X.gc) := fun w' q => (HSW.out.kept q).c1
        have s2_ : ∀ w', Kept wr w' none → w'.cell? ⟨bs, 2, none⟩ = some (.slice X.a S.apart.length X.ac) := fun w' q => (HSW.out.kept q).c2
        have s3_ : ∀ w', Kept wr w' none → w'.cell? ⟨bs, 3, none⟩ = some (.slice X.b S.between.length X.bc) := fun w' q => (HSW.out.kept q).c3
        have s4_ : ∀ w', Kept wr w' none → w'.cell? ⟨bs, 4, none⟩ = some (.slice X.p S.phases.length X.pc) := fun w' q => (HSW.out.kept q).c4
        have s5_ : ∀ w', Kept wr w' none → w'.cell? ⟨bs, 5, none⟩ = some (.slice X.e S.eyes.length X.ec) := fun w' q => (HSW.out.kept q).c5
        have s6_ : ∀ w', Kept wr w' none → w'.cell? ⟨bs, 6, none⟩ = some (.int .i64 S.watch) := fun w' q => (HSW.out.kept q).c6
        have s7_ : ∀ w', Kept wr w' none → w'.cell? ⟨bs, 7, none⟩ = some (.int .i64 S.feed) := fun w' q => (HSW.out.kept q).c7
        have s8_ : ∀ w', Kept wr w' none → w'.cell? ⟨bs, 8, none⟩ = some (.int .i64 S.heal) := fun w' q => (HSW.out.kept q).c8
        have s9_ : ∀ w', Kept wr w' none → w'.cell? ⟨bs, 9, none⟩ = some (.int .i64 S.low) := fun w' q => (HSW.out.kept q).c9
        have s10_ : ∀ w', Kept wr w' none → w'.cell? ⟨bs, 10, none⟩ = some (.int .i64 S.high) := fun w' q => (HSW.out.kept q).c10
        have s11_ : ∀ w', Kept wr w' none → w'.cell? ⟨bs, 11, none⟩ = some (.slice X.l S.plans.length X.lc) := fun w' q => (HSW.out.kept q).c11
        have n0_ : ∀ w', Kept wr w' none → w'.cell? ⟨bn, 0, none⟩ = some (.slice ag S.groups.length cg') := fun w' q => (HBN.out.kept q).c0
        have n1_ : ∀ w', Kept wr w' none → w'.cell? ⟨bn, 1, none⟩ = some (.int .i64 G1.start) := fun w' q => (HBN.out.kept q).c1
        have n2_ : ∀ w', Kept wr w' none → w'.cell? ⟨bn, 2, none⟩ = some (.bool G1.flashed) := fun w' q => (HBN.out.kept q).c2
        have q0_ : ∀ w', Kept wr w' none → w'.cell? ⟨bq, 0, none⟩ = some (.int .i64 (Q1.ph : Int)) := fun w' q => (HBQ.out.kept q).c0
        have q1_ : ∀ w', Kept wr w' none → w'.cell? ⟨bq, 1, none⟩ = some (.int .i64 Q1.since) := fun w' q => (HBQ.out.kept q).c1
        clear hkp hsv hb hsf hne hgk hpk hq2 hg2 hFB hfl1 hsi
        go_wp2_with (go_at_call 17; refine (HFU.out _ hK0').mono ?_; rintro e wF ⟨rfl, hkF⟩; have hKF : Kept wr wF none := hkF; have lq : bq < wF.heap.size := Nat.lt_of_lt_of_le hlq hKF.size; have ln : bn < wF.heap.size := Nat.lt_of_lt_of_le hln hKF.size; have ls : bs < wF.heap.size := Nat.lt_of_lt_of_le hls hKF.size)
        have k8 : Kept wF (wF.alloc (.cells #[.int .i64 (Q1.ph : Int), .int .i64 Q1.since] 40)) none := Kept.alloc _ _ _ _ _
        have b8 := bx2_alloc wF (.int .i64 (Q1.ph : Int)) (.int .i64 Q1.since) 40
        have hw1 : wF.heap.size ≠ bq := by omega
        have hw2 : wF.heap.size ≠ bn := by omega
        obtain ⟨WV, hWV⟩ : ∃ WV, wF.alloc (.cells #[.int .i64 (Q1.ph : Int), .int .i64 Q1.since] 40) = WV := ⟨_, rfl⟩
        rw [hWV] at k8 b8 ⊢
        have hKV : Kept wr WV none := hKF.tr k8
        have HWB := Hid.mk' b8
        generalize wF.heap.size = bw at *
        have HST := Hid.mk' (fun w' q => HST.out WV w' q hKV)
        have HA1 := Hid.mk' (fun w' q => HA1.out WV w' q hKV)
        have HA2 := Hid.mk' (fun w' q => HA2.out WV w' q hKV)
        have HSVF : Hid (Sv w WV X S bs bq bn Q1 G1) := Hid.mk' (HSVW.out.kept hKV)
        have HSW := Hid.mk' HSVF.out.sb
        have HBQ := Hid.mk' (HBQ.out.kept hKV)
        have HBN := Hid.mk' (HBN.out.kept hKV)
        clear s0_ s1_ s2_ s3_ s4_ s5_ s6_ s7_ s8_ s9_ s10_ s11_ n0_ n1_ n2_ q0_ q1_ hK0' HFU hkF HSVW hWV k8 b8 lq ln ls hKF hKV
        have HSQ : Hid (∀ w7, Kept WV w7 none → Sbox ((w7.setCell ⟨bq, 0, none⟩ (.int .i64 (Q2.ph : Int))).setCell ⟨bq, 1, none⟩ (.int .i64 Q2.since)) bs X S) := fun w7 q => HSVF.out.half HD.out HSAT.out q
        have HSV : Hid (∀ w7 b2, Kept WV w7 none → SafeAt w7 (some ⟨b2, 0, none⟩) S.groups.length G2 → WV.heap.size ≤ b2 → Sv w (((((w7.setCell ⟨bq, 0, none⟩ (.int .i64 (Q2.ph : Int))).setCell ⟨bq, 1, none⟩ (.int .i64 Q2.since)).setCell ⟨bn, 0, none⟩ (.slice (some ⟨b2, 0, none⟩) S.groups.length S.groups.length)).setCell ⟨bn, 1, none⟩ (.int .i64 G2.start)).setCell ⟨bn, 2, none⟩ (.bool G2.flashed)) X S bs bq bn Q2 G2 ∧ Bx2 (((((w7.setCell ⟨bq, 0, none⟩ (.int .i64 (Q2.ph : Int))).setCell ⟨bq, 1, none⟩ (.int .i64 Q2.since)).setCell ⟨bn, 0, none⟩ (.slice (some ⟨b2, 0, none⟩) S.groups.length S.groups.length)).setCell ⟨bn, 1, none⟩ (.int .i64 G2.start)).setCell ⟨bn, 2, none⟩ (.bool G2.flashed)) bw (.int .i64 (Q1.ph : Int)) (.int .i64 Q1.since)) := fun w7 b2 q h1 h2 => ⟨HSVF.out.step HD.out HSAT.out q h1 h2, (HWB.out.kept q).setQ hw1 hw2 _ _ _ _ _⟩
        have hKd : Kept WV WV.drew none := Kept.drew _ _
        have y0 := HBQ.out.c0
        have y1 := HBQ.out.c1
        have x0_ := HBN.out.c0
        have x1_ := HBN.out.c1
        have x2_ := HBN.out.c2
        have hqn := HD.out.qn
        have hnq : bn ≠ bq := fun e => hqn e.symm
        have s0_ : ∀ w', Sbox w' bs X S → w'.cell? ⟨bs, 0, none⟩ = some (.int .i64 S.id) := fun w' q => q.c0
        have s1_ : ∀ w', Sbox w' bs X S → w'.cell? ⟨bs, 1, none⟩ = some (.slice X.g S.groups.length X.gc) := fun w' q => q.c1
        have s2_ : ∀ w', Sbox w' bs X S → w'.cell? ⟨bs, 2, none⟩ = some (.slice X.a S.apart.length X.ac) := fun w' q => q.c2
        have s3_ : ∀ w', Sbox w' bs X S → w'.cell? ⟨bs, 3, none⟩ = some (.slice X.b S.between.length X.bc) := fun w' q => q.c3
        have s4_ : ∀ w', Sbox w' bs X S → w'.cell? ⟨bs, 4, none⟩ = some (.slice X.p S.phases.length X.pc) := fun w' q => q.c4
        have s5_ : ∀ w', Sbox w' bs X S → w'.cell? ⟨bs, 5, none⟩ = some (.slice X.e S.eyes.length X.ec) := fun w' q => q.c5
        have s6_ : ∀ w', Sbox w' bs X S → w'.cell? ⟨bs, 6, none⟩ = some (.int .i64 S.watch) := fun w' q => q.c6
        have s7_ : ∀ w', Sbox w' bs X S → w'.cell? ⟨bs, 7, none⟩ = some (.int .i64 S.feed) := fun w' q => q.c7
        have s8_ : ∀ w', Sbox w' bs X S → w'.cell? ⟨bs, 8, none⟩ = some (.int .i64 S.heal) := fun w' q => q.c8
        have s9_ : ∀ w', Sbox w' bs X S → w'.cell? ⟨bs, 9, none⟩ = some (.int .i64 S.low) := fun w' q => q.c9
        have s10_ : ∀ w', Sbox w' bs X S → w'.cell? ⟨bs, 10, none⟩ = some (.int .i64 S.high) := fun w' q => q.c10
        have s11_ : ∀ w', Sbox w' bs X S → w'.cell? ⟨bs, 11, none⟩ = some (.slice X.l S.plans.length X.lc) := fun w' q => q.c11
        refine Code.wp_mono (Q := Rb ?A1 (fun w' => Sv w w' X S bs bq bn Q2 G2 ∧ Bx2 w' bw (.int .i64 (Q1.ph : Int)) (.int .i64 Q1.since))) ?cont1 ?reg1
        case reg1 =>
            repeat (rename_i hh; clear hh)
            refine wp_region_held_drew (S := fun w' => Sbox w' bs X S) (by kernel_rfl) (HSW.out.kept (Kept.drew _ _)) (fun hHeld => ?_)
            refine (fun (LF : ?TF) => ?brn) ?leaf
            case brn =>
              refine held_take (i := 0) (v := ?v1) rfl rfl (by kernel_rfl) (by kernel_rfl) (by kernel_rfl) (fun _ _ _ h => h) (Or.inl ⟨by rfl, ?hy1⟩) hHeld ?rest1
              case hy1 => first | (intro w hSw; (try dsimp only at hSw); go_simp; done) | (intro w hSw; (try dsimp only at hSw); go_simp; with_reducible rfl)
              try simp only [List.setIfInBounds_toArray, List.set_cons_zero, List.set_cons_succ]
              refine held_take (i := 3) (v := ?v2) rfl rfl (by kernel_rfl) (by kernel_rfl) (by kernel_rfl) (fun _ _ _ h => h) (Or.inl ⟨by rfl, ?hy2⟩) hHeld ?rest2
              case hy2 => first | (intro w hSw; (try dsimp only at hSw); go_simp; done) | (intro w hSw; (try dsimp only at hSw); go_simp; with_reducible rfl)
              try simp only [List.setIfInBounds_toArray, List.set_cons_zero, List.set_cons_succ]
              refine held_take (i := 4) (v := ?v3) rfl rfl (by kernel_rfl) (by kernel_rfl) (by kernel_rfl) (fun _ _ _ h => h) (Or.inl ⟨by rfl, ?hy3⟩) hHeld ?rest3
              case hy3 => first | (intro w hSw; (try dsimp only at hSw); go_simp; done) | (intro w hSw; (try dsimp only at hSw); go_simp; with_reducible rfl)
              try simp only [List.setIfInBounds_toArray, List.set_cons_zero, List.set_cons_succ]
              refine held_take (i := 6) (v := ?v4) rfl rfl (by kernel_rfl) (by kernel_rfl) (by kernel_rfl) (fun _ _ _ h => h) (Or.inl ⟨by rfl, ?hy4⟩) hHeld ?rest4
              case hy4 => first | (intro w hSw; (try dsimp only at hSw); go_simp; done) | (intro w hSw; (try dsimp only at hSw); go_simp; with_reducible rfl)
              try simp only [List.setIfInBounds_toArray, List.set_cons_zero, List.set_cons_succ]
              refine held_take (i := 7) (v := ?v5) rfl rfl (by kernel_rfl) (by kernel_rfl) (by kernel_rfl) (fun _ _ _ h => h) (Or.inl ⟨by rfl, ?hy5⟩) hHeld ?rest5
              case hy5 => first | (intro w hSw; (try dsimp only at hSw); go_simp; done) | (intro w hSw; (try dsimp only at hSw); go_simp; with_reducible rfl)
              try simp only [List.setIfInBounds_toArray, List.set_cons_zero, List.set_cons_succ]
              refine wpAnyH_ready (rs := [1, 2, 5]) (by kernel_rfl) (by simp) ?_
              refine (AllReadyH.cons rfl (fun K hK => ?t2x1) (AllReadyH.cons rfl (fun K hK => ?t2x2) (AllReadyH.cons rfl (fun K hK => ?t2x5) AllReadyH.nil)))
              case t2x1 =>
                go_simp
                refine hK.out _ _ hHeld (fun hHeld => ?_)
                clear hK K
                refine wpAnyH_ready (rs := [2, 5]) (by kernel_rfl) (by simp) ?_
                refine (AllReadyH.cons rfl (fun K hK => ?t3x2) (AllReadyH.cons rfl (fun K hK => ?t3x5) AllReadyH.nil))
                case t3x2 =>
                  go_simp
                  refine hK.out _ _ hHeld (fun hHeld => ?_)
                  clear hK K
                  refine wpAnyH_ready (rs := [5]) (by kernel_rfl) (by simp) ?_
                  refine (AllReadyH.cons rfl (fun K hK => ?t4x5) AllReadyH.nil)
                  case t4x5 =>
                    go_simp
                    go_wp2_with (go_at_call 19; refine (HA1.out _ hKd).mono ?_; rintro e wA ⟨rfl, rfl⟩)
                    refine hK.out _ _ hHeld (fun hHeld => ?_)
                    clear hK K
                    refine wpAnyH_ready (rs := [8]) (by kernel_rfl) (by simp) ?_
                    refine (AllReadyH.cons rfl (fun K hK => ?t5x8) AllReadyH.nil)
                    case t5x8 =>
                      go_simp
                      go_wp2_with (go_at_call 19; refine (HA2.out _ hKd).mono ?_; rintro e wA ⟨rfl, rfl⟩)
                      refine hK.out _ _ hHeld (fun hHeld => ?_)
                      clear hK K
                      refine listed_eq (l' := #[true, true, true, true, true, true, true, true, true, false, false, false, false, false, false, false, false]) (by kernel_rfl) ?_
                      refine Eq.mp ?eq6 LF
                      with_reducible rfl
                case t3x5 =>
                  go_simp
                  go_wp2_with (go_at_call 19; refine (HA1.out _ hKd).mono ?_; rintro e wA ⟨rfl, rfl⟩)
                  refine hK.out _ _ hHeld (fun hHeld => ?_)
                  clear hK K
                  refine wpAnyH_ready (rs := [2, 8]) (by kernel_rfl) (by simp) ?_
                  refine (AllReadyH.cons rfl (fun K hK => ?t7x2) (AllReadyH.cons rfl (fun K hK => ?t7x8) AllReadyH.nil))
                  case t7x2 =>
                    go_simp
                    refine hK.out _ _ hHeld (fun hHeld => ?_)
                    clear hK K
                    refine wpAnyH_ready (rs := [8]) (by kernel_rfl) (by simp) ?_
                    refine (AllReadyH.cons rfl (fun K hK => ?t8x8) AllReadyH.nil)
                    case t8x8 =>
                      go_simp
                      go_wp2_with (go_at_call 19; refine (HA2.out _ hKd).mono ?_; rintro e wA ⟨rfl, rfl⟩)
                      refine hK.out _ _ hHeld (fun hHeld => ?_)
                      clear hK K
                      refine listed_eq (l' := #[true, true, true, true, true, true, true, true, true, false, false, false, false, false, false, false, false]) (by kernel_rfl) ?_
                      refine Eq.mp ?eq9 LF
                      with_reducible rfl
                  case t7x8 =>
                    go_simp
                    go_wp2_with (go_at_call 19; refine (HA2.out _ hKd).mono ?_; rintro e wA ⟨rfl, rfl⟩)
                    refine hK.out _ _ hHeld (fun hHeld => ?_)
                    clear hK K
                    refine wpAnyH_ready (rs := [2]) (by kernel_rfl) (by simp) ?_
                    refine (AllReadyH.cons rfl (fun K hK => ?t10x2) AllReadyH.nil)
                    case t10x2 =>
                      go_simp
                      refine hK.out _ _ hHeld (fun hHeld => ?_)
                      clear hK K
                      refine listed_eq (l' := #[true, true, true, true, true, true, true, true, true, false, false, false, false, false, false, false, false]) (by kernel_rfl) ?_
                      refine Eq.mp ?eq11 LF
                      with_reducible rfl
              case t2x2 =>
                go_simp
                refine hK.out _ _ hHeld (fun hHeld => ?_)
                clear hK K
                refine wpAnyH_ready (rs := [1, 5]) (by kernel_rfl) (by simp) ?_
                refine (AllReadyH.cons rfl (fun K hK => ?t12x1) (AllReadyH.cons rfl (fun K hK => ?t12x5) AllReadyH.nil))
                case t12x1 =>
                  go_simp
                  refine hK.out _ _ hHeld (fun hHeld => ?_)
                  clear hK K
                  refine wpAnyH_ready (rs := [5]) (by kernel_rfl) (by simp) ?_
                  refine (AllReadyH.cons rfl (fun K hK => ?t13x5) AllReadyH.nil)
                  case t13x5 =>
                    go_simp
                    go_wp2_with (go_at_call 19; refine (HA1.out _ hKd).mono ?_; rintro e wA ⟨rfl, rfl⟩)
                    refine hK.out _ _ hHeld (fun hHeld => ?_)
                    clear hK K
                    refine wpAnyH_ready (rs := [8]) (by kernel_rfl) (by simp) ?_
                    refine (AllReadyH.cons rfl (fun K hK => ?t14x8) AllReadyH.nil)
                    case t14x8 =>
                      go_simp
                      go_wp2_with (go_at_call 19; refine (HA2.out _ hKd).mono ?_; rintro e wA ⟨rfl, rfl⟩)
                      refine hK.out _ _ hHeld (fun hHeld => ?_)
                      clear hK K
                      refine listed_eq (l' := #[true, true, true, true, true, true, true, true, true, false, false, false, false, false, false, false, false]) (by kernel_rfl) ?_
                      refine Eq.mp ?eq15 LF
                      with_reducible rfl
                case t12x5 =>
                  go_simp
                  go_wp2_with (go_at_call 19; refine (HA1.out _ hKd).mono ?_; rintro e wA ⟨rfl, rfl⟩)
                  refine hK.out _ _ hHeld (fun hHeld => ?_)
                  clear hK K
                  refine wpAnyH_ready (rs := [1, 8]) (by kernel_rfl) (by simp) ?_
                  refine (AllReadyH.cons rfl (fun K hK => ?t16x1) (AllReadyH.cons rfl (fun K hK => ?t16x8) AllReadyH.nil))
                  case t16x1 =>
                    go_simp
                    refine hK.out _ _ hHeld (fun hHeld => ?_)
                    clear hK K
                    refine wpAnyH_ready (rs := [8]) (by kernel_rfl) (by simp) ?_
                    refine (AllReadyH.cons rfl (fun K hK => ?t17x8) AllReadyH.nil)
                    case t17x8 =>
                      go_simp
                      go_wp2_with (go_at_call 19; refine (HA2.out _ hKd).mono ?_; rintro e wA ⟨rfl, rfl⟩)
                      refine hK.out _ _ hHeld (fun hHeld => ?_)
                      clear hK K
                      refine listed_eq (l' := #[true, true, true, true, true, true, true, true, true, false, false, false, false, false, false, false, false]) (by kernel_rfl) ?_
                      refine Eq.mp ?eq18 LF
                      with_reducible rfl
                  case t16x8 =>
                    go_simp
                    go_wp2_with (go_at_call 19; refine (HA2.out _ hKd).mono ?_; rintro e wA ⟨rfl, rfl⟩)
                    refine hK.out _ _ hHeld (fun hHeld => ?_)
                    clear hK K
                    refine wpAnyH_ready (rs := [1]) (by kernel_rfl) (by simp) ?_
                    refine (AllReadyH.cons rfl (fun K hK => ?t19x1) AllReadyH.nil)
                    case t19x1 =>
                      go_simp
                      refine hK.out _ _ hHeld (fun hHeld => ?_)
                      clear hK K
                      refine listed_eq (l' := #[true, true, true, true, true, true, true, true, true, false, false, false, false, false, false, false, false]) (by kernel_rfl) ?_
                      refine Eq.mp ?eq20 LF
                      with_reducible rfl
              case t2x5 =>
                go_simp
                go_wp2_with (go_at_call 19; refine (HA1.out _ hKd).mono ?_; rintro e wA ⟨rfl, rfl⟩)
                refine hK.out _ _ hHeld (fun hHeld => ?_)
                clear hK K
                refine wpAnyH_ready (rs := [1, 2, 8]) (by kernel_rfl) (by simp) ?_
                refine (AllReadyH.cons rfl (fun K hK => ?t21x1) (AllReadyH.cons rfl (fun K hK => ?t21x2) (AllReadyH.cons rfl (fun K hK => ?t21x8) AllReadyH.nil)))
                case t21x1 =>
                  go_simp
                  refine hK.out _ _ hHeld (fun hHeld => ?_)
                  clear hK K
                  refine wpAnyH_ready (rs := [2, 8]) (by kernel_rfl) (by simp) ?_
                  refine (AllReadyH.cons rfl (fun K hK => ?t22x2) (AllReadyH.cons rfl (fun K hK => ?t22x8) AllReadyH.nil))
                  case t22x2 =>
                    go_simp
                    refine hK.out _ _ hHeld (fun hHeld => ?_)
                    clear hK K
                    refine wpAnyH_ready (rs := [8]) (by kernel_rfl) (by simp) ?_
                    refine (AllReadyH.cons rfl (fun K hK => ?t23x8) AllReadyH.nil)
                    case t23x8 =>
                      go_simp
                      go_wp2_with (go_at_call 19; refine (HA2.out _ hKd).mono ?_; rintro e wA ⟨rfl, rfl⟩)
                      refine hK.out _ _ hHeld (fun hHeld => ?_)
                      clear hK K
                      refine listed_eq (l' := #[true, true, true, true, true, true, true, true, true, false, false, false, false, false, false, false, false]) (by kernel_rfl) ?_
                      refine Eq.mp ?eq24 LF
                      with_reducible rfl
                  case t22x8 =>
                    go_simp
                    go_wp2_with (go_at_call 19; refine (HA2.out _ hKd).mono ?_; rintro e wA ⟨rfl, rfl⟩)
                    refine hK.out _ _ hHeld (fun hHeld => ?_)
                    clear hK K
                    refine wpAnyH_ready (rs := [2]) (by kernel_rfl) (by simp) ?_
                    refine (AllReadyH.cons rfl (fun K hK => ?t25x2) AllReadyH.nil)
                    case t25x2 =>
                      go_simp
                      refine hK.out _ _ hHeld (fun hHeld => ?_)
                      clear hK K
                      refine listed_eq (l' := #[true, true, true, true, true, true, true, true, true, false, false, false, false, false, false, false, false]) (by kernel_rfl) ?_
                      refine Eq.mp ?eq26 LF
                      with_reducible rfl
                case t21x2 =>
                  go_simp
                  refine hK.out _ _ hHeld (fun hHeld => ?_)
                  clear hK K
                  refine wpAnyH_ready (rs := [1, 8]) (by kernel_rfl) (by simp) ?_
                  refine (AllReadyH.cons rfl (fun K hK => ?t27x1) (AllReadyH.cons rfl (fun K hK => ?t27x8) AllReadyH.nil))
                  case t27x1 =>
                    go_simp
                    refine hK.out _ _ hHeld (fun hHeld => ?_)
                    clear hK K
                    refine wpAnyH_ready (rs := [8]) (by kernel_rfl) (by simp) ?_
                    refine (AllReadyH.cons rfl (fun K hK => ?t28x8) AllReadyH.nil)
                    case t28x8 =>
                      go_simp
                      go_wp2_with (go_at_call 19; refine (HA2.out _ hKd).mono ?_; rintro e wA ⟨rfl, rfl⟩)
                      refine hK.out _ _ hHeld (fun hHeld => ?_)
                      clear hK K
                      refine listed_eq (l' := #[true, true, true, true, true, true, true, true, true, false, false, false, false, false, false, false, false]) (by kernel_rfl) ?_
                      refine Eq.mp ?eq29 LF
                      with_reducible rfl
                  case t27x8 =>
                    go_simp
                    go_wp2_with (go_at_call 19; refine (HA2.out _ hKd).mono ?_; rintro e wA ⟨rfl, rfl⟩)
                    refine hK.out _ _ hHeld (fun hHeld => ?_)
                    clear hK K
                    refine wpAnyH_ready (rs := [1]) (by kernel_rfl) (by simp) ?_
                    refine (AllReadyH.cons rfl (fun K hK => ?t30x1) AllReadyH.nil)
                    case t30x1 =>
                      go_simp
                      refine hK.out _ _ hHeld (fun hHeld => ?_)
                      clear hK K
                      refine listed_eq (l' := #[true, true, true, true, true, true, true, true, true, false, false, false, false, false, false, false, false]) (by kernel_rfl) ?_
                      refine Eq.mp ?eq31 LF
                      with_reducible rfl
                case t21x8 =>
                  go_simp
                  go_wp2_with (go_at_call 19; refine (HA2.out _ hKd).mono ?_; rintro e wA ⟨rfl, rfl⟩)
                  refine hK.out _ _ hHeld (fun hHeld => ?_)
                  clear hK K
                  refine wpAnyH_ready (rs := [1, 2]) (by kernel_rfl) (by simp) ?_
                  refine (AllReadyH.cons rfl (fun K hK => ?t32x1) (AllReadyH.cons rfl (fun K hK => ?t32x2) AllReadyH.nil))
                  case t32x1 =>
                    go_simp
                    refine hK.out _ _ hHeld (fun hHeld => ?_)
                    clear hK K
                    refine wpAnyH_ready (rs := [2]) (by kernel_rfl) (by simp) ?_
                    refine (AllReadyH.cons rfl (fun K hK => ?t33x2) AllReadyH.nil)
                    case t33x2 =>
                      go_simp
                      refine hK.out _ _ hHeld (fun hHeld => ?_)
                      clear hK K
                      refine listed_eq (l' := #[true, true, true, true, true, true, true, true, true, false, false, false, false, false, false, false, false]) (by kernel_rfl) ?_
                      refine Eq.mp ?eq34 LF
                      with_reducible rfl
                  case t32x2 =>
                    go_simp
                    refine hK.out _ _ hHeld (fun hHeld => ?_)
                    clear hK K
                    refine wpAnyH_ready (rs := [1]) (by kernel_rfl) (by simp) ?_
                    refine (AllReadyH.cons rfl (fun K hK => ?t35x1) AllReadyH.nil)
                    case t35x1 =>
                      go_simp
                      refine hK.out _ _ hHeld (fun hHeld => ?_)
                      clear hK K
                      refine listed_eq (l' := #[true, true, true, true, true, true, true, true, true, false, false, false, false, false, false, false, false]) (by kernel_rfl) ?_
                      refine Eq.mp ?eq36 LF
                      with_reducible rfl
            case leaf =>
              refine wpAnyH_ready (rs := [9]) (by kernel_rfl) (by simp) ?_
              refine AllReadyH.cons rfl (fun K hK => ?_) AllReadyH.nil
              go_simp
              go_wp2_with (go_at_call 18; (try rw [hor3]); refine (HST.out _ hKd).mono ?_; rintro e wS ⟨b2, rfl, hb2, hsS, hkS⟩)
              have hKS : Kept WV wS none := hKd.tr hkS
              refine hK.out _ _ (HSW.out.kept hKS) (fun hHeld => ?_)
              clear hK K
              refine held_take (i := 10) (v := ?v6) rfl rfl (by kernel_rfl) (by kernel_rfl) (by kernel_rfl) (fun _ _ _ h => h) (Or.inl ⟨by rfl, ?hy6⟩) hHeld ?rest6
              case hy6 => first | (intro w hSw; (try dsimp only at hSw); go_simp; done) | (intro w hSw; (try dsimp only at hSw); go_simp; with_reducible rfl)
              try simp only [List.setIfInBounds_toArray, List.set_cons_zero, List.set_cons_succ]
              refine held_take (i := 11) (v := ?v7) rfl rfl (by kernel_rfl) (by kernel_rfl) (by kernel_rfl) (fun _ _ _ h => h) (Or.inl ⟨by rfl, ?hy7⟩) hHeld ?rest7
              case hy7 => first | (intro w hSw; (try dsimp only at hSw); go_simp; done) | (intro w hSw; (try dsimp only at hSw); go_simp; with_reducible rfl)
              try simp only [List.setIfInBounds_toArray, List.set_cons_zero, List.set_cons_succ]
              refine held_take (i := 12) (v := ?v8) rfl rfl (by kernel_rfl) (by kernel_rfl) (by kernel_rfl) (fun _ _ _ h => h) (Or.inl ⟨by rfl, ?hy8⟩) hHeld ?rest8
              case hy8 => first | (intro w hSw; (try dsimp only at hSw); go_simp; done) | (intro w hSw; (try dsimp only at hSw); go_simp; with_reducible rfl)
              try simp only [List.setIfInBounds_toArray, List.set_cons_zero, List.set_cons_succ]
              refine held_take (i := 13) (v := ?v9) rfl rfl (by kernel_rfl) (by kernel_rfl) (by kernel_rfl) (fun _ _ _ h => h) (Or.inl ⟨by rfl, ?hy9⟩) hHeld ?rest9
              case hy9 => first | (intro w hSw; (try dsimp only at hSw); go_simp; done) | (intro w hSw; (try dsimp only at hSw); go_simp; with_reducible rfl)
              try simp only [List.setIfInBounds_toArray, List.set_cons_zero, List.set_cons_succ]
              have BQ := HBQ.out.kept hKS
              have BN := HBN.out.kept hKS
              have v0 := BQ.c0
              have v1 := BQ.c1
              have g0 := BQ.f0
              have g1 := BQ.f1
              have t0 := BN.c0
              have t1 := BN.c1
              have t2 := BN.c2
              have f0 := BN.f0
              have f1 := BN.f1
              have f2 := BN.f2
              refine wpAnyH_ready (rs := [14]) (by kernel_rfl) (by simp) ?_
              refine AllReadyH.cons rfl (fun K hK => ?_) AllReadyH.nil
              go_simp
              refine hK.out _ _ (HSQ.out wS hKS) (fun hHeld => ?_)
              clear hK K
              refine wpAnyH_ready (rs := [15]) (by kernel_rfl) (by simp) ?_
              refine AllReadyH.cons rfl (fun K hK => ?_) AllReadyH.nil
              go_simp
              have hfin := HSV.out wS b2 hKS hsS (Nat.le_trans hKd.size hb2)
              refine hK.out _ _ hfin.1.sb (fun hHeld => ?_)
              clear hK K
              refine held_take (i := 16) (v := ?v10) rfl rfl (by kernel_rfl) (by kernel_rfl) (by kernel_rfl) (fun _ _ _ h => h) (Or.inl ⟨by rfl, ?hy10⟩) hHeld ?rest10
              case hy10 => first | (intro w hSw; (try dsimp only at hSw); go_simp; done) | (intro w hSw; (try dsimp only at hSw); go_simp; with_reducible rfl)
              try simp only [List.setIfInBounds_toArray, List.set_cons_zero, List.set_cons_succ]
              refine wpAnyH_done (by kernel_rfl) ?_ _
              refine ⟨b2, ?_, hfin⟩
              with_reducible rfl
        case cont1 =>
        intro e a' w' hq'
        obtain ⟨rfl, u', rfl, hv⟩ := hq'.out
        clear s0_ s1_ s2_ s3_ s4_ s5_ s6_ s7_ s8_ s9_ s10_ s11_ y0 y1 x0_ x1_ x2_ hKd HSQ HSV HST HBQ HBN HSW HSVF HWB HA2
        obtain ⟨hv1, hv2⟩ := hv
        have a0 := hv1.q.c0
        have a1 := hv1.q.c1
        have b0 := hv2.c0
        have b1 := hv2.c1
        have HV1 := Hid.mk' hv1
        have HV2 := Hid.mk' hv2
        cases FB with
        | false =>
          obtain ⟨hl0, hQe, hkp2⟩ := HNOT.out rfl
          have HKP2 := Hid.mk' hkp2
          clear HNOT HFUL hkp2
          have e0 : Q2.ph = Q1.ph := by rw [hQe]
          have e1 : Q2.since = 0 := by rw [hQe]
          rw [e0] at a0
          rw [e1] at a1
          have HL0 := Hid.mk' hl0
          have hl1 : decide ((0 : Int) < (l : Int)) = false := decide_eq_false (by omega)
          have hl2 : ¬ 0 < l := by omega
          clear hv1 hv2 hQe e0 e1 hl0
          go_wp2
          go_roundw
          case rel => exact ⟨k + 1, 0, Q2, G2, by omega, by omega, by go_num, by first | rfl | rw [HL0.out], HKP2.out, HV1.out⟩
          case measure => simp [intOf]; omega
        | true =>
          have HW := Hid.mk' (HFUL.out rfl)
          have HA1' : Hid (∀ w2, Kept w w2 none → Calls Tryd.prog 19 #[.slice cc lc kc, .int .i64 (k : Int)] w2 fun e w3 => e = .returned (.int .u32 ((atU LC k : Nat) : Int)) ∧ w3 = w2) := fun w2 q => sat_any (HUC.out.kept q) k (by omega)
          obtain ⟨pb, po, ep⟩ := hv1.sb.sat.ppq (show 0 < S.phases.length by omega)
          have HEP := Hid.mk' ep
          have hrm := hv1.sb.sat.pk.room
          have s4_ : ∀ w2, Kept w' w2 none → w2.cell? ⟨bs, 4, none⟩ = some (.slice (some ⟨pb, po, none⟩) S.phases.length X.pc) := fun w2 q => by rw [← HEP.out]; exact (HV1.out.sb.kept q).c4
          have wa_ : ∀ w2, Kept w' w2 none → w2.cell? ⟨bw, 0, none⟩ = some (.int .i64 (Q1.ph : Int)) := fun w2 q => (HV2.out.kept q).c0
          have hKw := Kept.refl w' none
          clear HNOT HFUL hv1 hv2 a0 a1 b0 b1 ep KPW
          go_wp2
          go_loopw [19, 20] (fun o i wr => ∃ m : Nat, m ≤ S.phases.length ∧ i = .int .i64 m ∧ o = .bool (othB S (atU LC k) Q1.ph m) ∧ Kept w' wr none) (fun _ i _ => S.phases.length - (intOf i).toNat)
          case atStart => exact ⟨0, by omega, rfl, rfl, Kept.refl _ _⟩
          case round =>
            obtain ⟨m, hm, rfl, rfl, hkm⟩ := hrel
            have HKM := Hid.mk' hkm
            by_cases hmn : m < S.phases.length
            · have HO := Hid.mk' (othB_succ S (atU LC k) Q1.ph m)
              obtain ⟨hpb, r0, r1, r2, r3, r4⟩ := (HV1.out.sb.sat.kept hkm).phq HEP.out hmn
              have hgu : ((m : Int) % 18446744073709551616) = (m : Int) := by omega
              have hbit := has_bit (atU LC k) m HC9.out
              have HAT := Hid.mk' (HA1'.out wr (HV1.out.kp.tr hkm))
              have HCB : Hid (callB S (atU LC k) m = ((S.ph m).always || (atU LC k).testBit m)) := rfl
              obtain ⟨ob, hob⟩ : ∃ ob, othB S (atU LC k) Q1.ph m = ob := ⟨_, rfl⟩
              rw [hob] at HO ⊢
              clear hob
              cases ob with
              | true =>
                have HO1 : Hid (othB S (atU LC k) Q1.ph (m + 1) = true) := by show _ = _; rw [HO.out]; rfl
                clear hbit HAT HCB HO
                go_wp2
                go_roundw
                case rel => exact ⟨m + 1, by omega, by go_num, by rw [HO1.out], HKM.out⟩
                case measure => simp [intOf]; omega
              | false =>
                by_cases hmp : m = Q1.ph
                · have hneb : ((m : Int) != (Q1.ph : Int)) = false := by rw [hmp]; simp
                  have HO1 : Hid (othB S (atU LC k) Q1.ph (m + 1) = false) := by show _ = _; rw [HO.out, decide_eq_false (by simp [hmp])]; rfl
                  clear hbit HAT HCB HO hmp
                  go_wp2
                  go_roundw
                  case rel => exact ⟨m + 1, by omega, by go_num, by rw [HO1.out], HKM.out⟩
                  case measure => simp [intOf]; omega
                · have hneb : ((m : Int) != (Q1.ph : Int)) = true := by simp; omega
                  have HO2 : Hid (othB S (atU LC k) Q1.ph (m + 1) = callB S (atU LC k) m) := by show _ = _; rw [HO.out, decide_eq_true hmp]; rfl
                  cases hal : (S.ph m).always with
                  | true =>
                    rw [hal] at r4 HCB
                    have HO1 : Hid (othB S (atU LC k) Q1.ph (m + 1) = true) := by show _ = _; rw [HO2.out, HCB.out]; rfl
                    clear hbit HAT HCB HO HO2 hmp hal
                    go_wp2
                    go_roundw
                    case rel => exact ⟨m + 1, by omega, by go_num, by rw [HO1.out], HKM.out⟩
                    case measure => simp [intOf]; omega
                  | false =>
                    rw [hal] at r4 HCB
                    have HO1 : Hid (othB S (atU LC k) Q1.ph (m + 1) = (bits .and .u32 (((atU LC k : Nat) : Int) / 2 ^ m) 1 == 1)) := by show _ = _; rw [HO2.out, HCB.out, hbit]; rfl
                    clear hbit HCB HO HO2 hmp hal
                    generalize atU LC k = CK at *
                    go_wp2_with (go_at_call 19; refine HAT.out.mono ?_; rintro e wA ⟨rfl, hwA⟩; have hwA := hwA.symm; subst hwA)
                    go_roundw
                    case rel => exact ⟨m + 1, by omega, by go_num, by rw [HO1.out], HKM.out⟩
                    case measure => simp [intOf]; omega
            · obtain rfl : m = S.phases.length := by omega
              obtain ⟨hpb, r0, r1, r2, r3, r4⟩ := (HV1.out.sb.sat.kept hkm).phq HEP.out HPK.out
              have hpq := HPK.out
              have a0 := (HV1.out.q.kept hkm).c0
              have a1 := (HV1.out.q.kept hkm).c1
              have HVM := Hid.mk' (HV1.out.kept hkm)
              obtain ⟨ob, hob⟩ : ∃ ob, othB S (atU LC k) Q1.ph S.phases.length = ob := ⟨_, rfl⟩
              rw [hob] at HW ⊢
              clear hob
              rcases HW.out with ⟨hne, hmi, hot, hkp2⟩ | ⟨heq, hsi, hmx, hkp2⟩
              · have hneb : ((Q2.ph : Int) != (Q1.ph : Int)) = true := by simp; omega
                have hmb : decide ((l : Int) + 1 < (S.ph Q1.ph).min) = false := decide_eq_false (by omega)
                have HKP2 := Hid.mk' hkp2
                rw [hot]
                clear HW hne hmi hot hkp2
                generalize S.ph Q1.ph = PP at *
                go_wp2
                go_roundw
                case rel => exact ⟨k + 1, 0, Q2, G2, by omega, by omega, by go_num, rfl, HKP2.out, HVM.out⟩
                case measure => simp [intOf]; omega
              · have HKP2 := Hid.mk' hkp2
                rw [heq] at a0
                rw [hsi] at a1
                generalize S.ph Q1.ph = PP at *
                cases ob with
                | false =>
                  clear HW hmx hkp2 heq hsi
                  go_wp2
                  go_roundw
                  case rel => exact ⟨k + 1, l + 1, Q2, G2, by omega, by omega, by go_num, by go_num, HKP2.out, HVM.out⟩
                  case measure => simp [intOf]; omega
                | true =>
                  have hmx := hmx rfl
                  by_cases hx : PP.max ≤ (l : Int) + 1
                  · have hmb := hmx hx
                    have hmb1 : decide (PP.max ≤ (l : Int) + 1) = true := decide_eq_true hx
                    have hmb2 : decide (PP.min ≤ (l : Int) + 1) = false := decide_eq_false (by omega)
                    clear HW hmx hkp2 heq hsi
                    go_wp2
                    go_roundw
                    case rel => exact ⟨k + 1, l + 1, Q2, G2, by omega, by omega, by go_num, by go_num, HKP2.out, HVM.out⟩
                    case measure => simp [intOf]; omega
                  · have hmb1 : decide (PP.max ≤ (l : Int) + 1) = false := decide_eq_false hx
                    clear HW hmx hkp2 heq hsi
                    go_wp2
                    go_roundw
                    case rel => exact ⟨k + 1, l + 1, Q2, G2, by omega, by omega, by go_num, by go_num, HKP2.out, HVM.out⟩
                    case measure => simp [intOf]; omega
      · clear hkp hsv hb hsf hne
        go_wp2
        go_ret
        exact ⟨rfl, KPW.out.below⟩

end Go.Proofs.YtkgimccffggfdaaDoor

/-
  SeqKeeps, all ways together (made by a program).
-/
namespace Go.Proofs.YtkgimccffggfdaaDoor
open Go.RowKit Go.Lib Go.Deep
set_option linter.unusedVariables false
set_option linter.unusedSimpArgs false


theorem skeeps_any {X : Sa} {S : St} {w : World} (h : Sat w X S) (hT : Tabb w) {cc cg : Option Addr} {lc lg_ kc kg : Nat} {LC LG : List Nat} (hC : U3 w cc lc kc LC) (hG : U3 w cg lg_ kg LG) (p : Int) : Calls Tryd.prog 6 #[siteV X S, .int .i64 p, .slice cc lc kc, .slice cg lg_ kg] w fun e w' => e = .returned (.bool true) ∧ Below w.heap.size w w' := by
  by_cases h0 : 0 ≤ p
  · by_cases h1 : p < (S.phases.length : Int)
    · obtain ⟨q, rfl⟩ : ∃ q : Nat, p = (q : Int) := ⟨p.toNat, by omega⟩
      cases hs : siteB S with
      | false => exact skep_no h hT hC hG q (by omega) hs
      | true => exact skep_go h hT hC hG q (by omega) hs
    · exact skep_far h hT hC hG p h0 (by omega)
  · exact skep_neg h hT hC hG p (by omega)

end Go.Proofs.YtkgimccffggfdaaDoor

