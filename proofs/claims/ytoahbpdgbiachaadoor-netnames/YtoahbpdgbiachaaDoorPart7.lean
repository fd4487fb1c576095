/-
  Part 7 of the texts that the proofs of this seat stand on.
-/
import Derived.Test.YtoahbpdgbiachaaDoorPart6
import Derived.Test.YtoahbpdgbiachaaDoorPart2
/-
  REGIONS, as the program goes through them: marks put in one after the other.
-/
namespace Go.Proofs.YtoahbpdgbiachaaDoor
open Go.RowKit Go.Lib Go.Deep
set_option linter.unusedVariables false
set_option linter.unusedSimpArgs false

structure Sb where
  sites : List Int
  critical : Int
structure Wd where
  a : Int
  b : Int
  votes : Int
  offsets : List Int
structure Nt where
  sites : List St
  subs : List Sb
  weds : List Wd
  low : Int
  high : Int
  step : Int
def s0 : St := ⟨0, [], [], [], [], [], 0, 0, 0, 0, 0, []⟩
def u0 : Sb := ⟨[], 0⟩
def d0 : Wd := ⟨0, 0, 0, []⟩
abbrev Ms := List (Mk × Int)
def ncountsB (N : Nt) : Bool := inB N.sites.length 1 12 && inB N.subs.length 1 6 && decide (N.weds.length ≤ 8)
/-- One mark more, if it is not there. -/
def putF (M : Ms) (k : Mk) (place : Int) : Option Ms := match mkF M k with
  | some _ => none
  | none => some ((k, place) :: M)
/-- The first k sites. -/
def sitesF (N : Nt) : Nat → Option Ms
  | 0 => some []
  | k + 1 => match sitesF N k with
    | none => none
    | some M => if siteB (N.sites.getD k s0) = true then putF M (0, (N.sites.getD k s0).id, 0) k else none
/-- The first k sites of a sub. -/
def takeF (N : Nt) (place : Nat) (l : List Int) (M : Ms) : Nat → Option Ms
  | 0 => some M
  | k + 1 => match takeF N place l M k with
    | none => none
    | some M' => if inB (l.getD k 0) 0 ((N.sites.length : Int) - 1) = true then putF M' (1, l.getD k 0, 0) place else none
/-- The first k subs. -/
def subsF (N : Nt) (M : Ms) : Nat → Option Ms
  | 0 => some M
  | k + 1 => match subsF N M k with
    | none => none
    | some M' => match takeF N k (N.subs.getD k u0).sites M' (N.subs.getD k u0).sites.length with
      | none => none
      | some M'' => if mkF M'' (1, (N.subs.getD k u0).critical, 0) = some (k : Int) then some M'' else none
def placedB (N : Nt) (M : Ms) : Bool := allB N.sites.length (fun i => (mkF M (1, (i : Int), 0)).isSome)
def ncyclesB (N : Nt) : Bool := timeB N.low && inB N.high N.low 1048576 && timeB N.step && decide ((N.high - N.low) % N.step = 0) && decide ((N.high - N.low) / N.step ≤ 64) && allB N.sites.length (fun i => decide ((N.sites.getD i s0).low ≤ N.low) && decide (N.high ≤ (N.sites.getD i s0).high))
def offsetsB (N : Nt) (l : List Int) : Bool := inB l.length 1 8 && allB l.length (fun i => inB (l.getD i 0) 0 (N.low - 1))
/-- The first k weds. -/
def wedsF (N : Nt) (M : Ms) : Nat → Option Ms
  | 0 => some M
  | k + 1 => match wedsF N M k with
    | none => none
    | some M' => if (inB (N.weds.getD k d0).a 0 ((N.subs.length : Int) - 1) && inB (N.weds.getD k d0).b ((N.weds.getD k d0).a + 1) ((N.subs.length : Int) - 1)) = true then (match putF M' (2, (N.weds.getD k d0).a, (N.weds.getD k d0).b) k with
      | none => none
      | some M'' => if (timeB (N.weds.getD k d0).votes && offsetsB N (N.weds.getD k d0).offsets) = true then some M'' else none) else none
/-- All marks of a region that may be. -/
def lookF (N : Nt) : Option Ms :=
  if ncountsB N = true then (match sitesF N N.sites.length with
    | none => none
    | some M => match subsF N M N.subs.length with
      | none => none
      | some M' => if (placedB N M' && ncyclesB N) = true then wedsF N M' N.weds.length else none) else none
theorem putF_new {M : Ms} {k : Mk} {p : Int} (h : mkF M k = none) : putF M k p = some ((k, p) :: M) := by unfold putF; rw [h]
theorem putF_old {M : Ms} {k : Mk} {p v : Int} (h : mkF M k = some v) : putF M k p = none := by unfold putF; rw [h]
theorem sitesF_none {N : Nt} {k : Nat} (h : sitesF N k = none) : ∀ n, k ≤ n → sitesF N n = none
  | 0, hk => by have : k = 0 := by omega
                subst this; exact h
  | n + 1, hk => by
    by_cases e : k = n + 1
    · subst e; exact h
    · rw [sitesF, sitesF_none h n (by omega)]
theorem subsF_none {N : Nt} {M : Ms} {k : Nat} (h : subsF N M k = none) : ∀ n, k ≤ n → subsF N M n = none
  | 0, hk => by have : k = 0 := by omega
                subst this; exact h
  | n + 1, hk => by
    by_cases e : k = n + 1
    · subst e; exact h
    · rw [subsF, subsF_none h n (by omega)]
theorem takeF_none {N : Nt} {p : Nat} {l : List Int} {M : Ms} {k : Nat} (h : takeF N p l M k = none) : ∀ n, k ≤ n → takeF N p l M n = none
  | 0, hk => by have : k = 0 := by omega
                subst this; exact h
  | n + 1, hk => by
    by_cases e : k = n + 1
    · subst e; exact h
    · rw [takeF, takeF_none h n (by omega)]
theorem wedsF_none {N : Nt} {M : Ms} {k : Nat} (h : wedsF N M k = none) : ∀ n, k ≤ n → wedsF N M n = none
  | 0, hk => by have : k = 0 := by omega
                subst this; exact h
  | n + 1, hk => by
    by_cases e : k = n + 1
    · subst e; exact h
    · rw [wedsF, wedsF_none h n (by omega)]

/-! ### In memory -/
structure Na where
  s : Option Addr
  sc : Nat
  u : Option Addr
  uc : Nat
  d : Option Addr
  dc : Nat
  X : Nat → Sa
  r : Nat → Option Addr × Nat
  t : Nat → Option Addr × Nat
abbrev netV (Y : Na) (N : Nt) : Value := .agg #[.slice Y.s N.sites.length Y.sc, .slice Y.u N.subs.length Y.uc, .slice Y.d N.weds.length Y.dc, .int .i64 N.low, .int .i64 N.high, .int .i64 N.step]
def stV (X : Sa) (S : St) (j : Nat) : Value := match j with
  | 0 => .int .i64 S.id
  | 1 => .slice X.g S.groups.length X.gc
  | 2 => .slice X.a S.apart.length X.ac
  | 3 => .slice X.b S.between.length X.bc
  | 4 => .slice X.p S.phases.length X.pc
  | 5 => .slice X.e S.eyes.length X.ec
  | 6 => .int .i64 S.watch
  | 7 => .int .i64 S.feed
  | 8 => .int .i64 S.heal
  | 9 => .int .i64 S.low
  | 10 => .int .i64 S.high
  | _ => .slice X.l S.plans.length X.lc
def sbV (U : Sb) (a : Option Addr) (c : Nat) (j : Nat) : Value := match j with
  | 0 => .slice a U.sites.length c
  | _ => .int .i64 U.critical
def wdV (D : Wd) (a : Option Addr) (c : Nat) (j : Nat) : Value := match j with
  | 0 => .int .i64 D.a
  | 1 => .int .i64 D.b
  | 2 => .int .i64 D.votes
  | _ => .slice a D.offsets.length c
/-- A region's lists lie where they should. -/
structure NetAt (w : World) (Y : Na) (N : Nt) : Prop where
  s1 : Lie w Y.s N.sites.length 12 (fun i j => stV (Y.X i) (N.sites.getD i s0) j)
  s2 : ∀ i, i < N.sites.length → Sat w (Y.X i) (N.sites.getD i s0)
  u1 : Lie w Y.u N.subs.length 2 (fun i j => sbV (N.subs.getD i u0) (Y.r i).1 (Y.r i).2 j)
  u2 : ∀ i, i < N.subs.length → Ints w (Y.r i).1 (N.subs.getD i u0).sites.length (Y.r i).2 (N.subs.getD i u0).sites
  d1 : Lie w Y.d N.weds.length 4 (fun i j => wdV (N.weds.getD i d0) (Y.t i).1 (Y.t i).2 j)
  d2 : ∀ i, i < N.weds.length → Ints w (Y.t i).1 (N.weds.getD i d0).offsets.length (Y.t i).2 (N.weds.getD i d0).offsets
  sk : Cap Y.s N.sites.length Y.sc
  uk : Cap Y.u N.subs.length Y.uc
  dk : Cap Y.d N.weds.length Y.dc
  ur : ∀ x ∈ N.subs, i64B x.critical
  dr : ∀ x ∈ N.weds, i64B x.a ∧ i64B x.b ∧ i64B x.votes
  nr : i64B N.low ∧ i64B N.high ∧ i64B N.step
theorem NetAt.kept {w w' : World} {Y : Na} {N : Nt} (h : NetAt w Y N) (q : Kept w w' none) : NetAt w' Y N :=
  ⟨h.s1.kept q, fun i hi => (h.s2 i hi).kept q, h.u1.kept q, fun i hi => (h.u2 i hi).kept q, h.d1.kept q, fun i hi => (h.d2 i hi).kept q, h.sk, h.uk, h.dk, h.ur, h.dr, h.nr⟩

end Go.Proofs.YtoahbpdgbiachaaDoor

/-
  THE CONTRACTS of what a region is asked: its counts, its sites.
-/
namespace Go.Proofs.YtoahbpdgbiachaaDoor
open Go.RowKit Go.Lib Go.Deep
set_option linter.unusedVariables false
set_option linter.unusedSimpArgs false

theorem i64_zero : i64B 0 := by unfold i64B; decide
theorem nwithin_any (n lo hi : Int) (w : World) : Calls Tryd.prog 86 #[.int .i64 n, .int .i64 lo, .int .i64 hi] w fun e w' => e = .returned (.bool (inB n lo hi)) ∧ w' = w := by
  go_enter Tryd.func86, Tryd.ntmps86
  go_wp2
  all_goals
    go_ret
    refine ⟨?_, rfl⟩
    simp [inB, *] <;> (first | omega | (intros; omega))
theorem nwithin_is {n lo hi : Int} {b : Bool} {w : World} (h : inB n lo hi = b) : Calls Tryd.prog 86 #[.int .i64 n, .int .i64 lo, .int .i64 hi] w fun e w' => e = .returned (.bool b) ∧ w' = w := by
  rw [← h]; exact nwithin_any n lo hi w
theorem checkE_yes' {S : St} (h : siteB S = true) : checkE S = 0 := by unfold checkE; rw [if_pos h]
theorem checkE_no' {S : St} (h : siteB S = false) : checkE S = 50 := by unfold checkE; rw [if_neg (by rw [h]; decide)]
/-- What does not hang on the map's block. -/
structure Far (w : World) (B : Nat) (Y : Na) (N : Nt) : Prop where
  net : ∀ w', Kept w w' (some B) → NetAt w' Y N
  tab : ∀ w', Kept w w' (some B) → Tabb w'
theorem Far.kept {w w' : World} {B : Nat} {Y : Na} {N : Nt} (h : Far w B Y N) (q : Kept w w' (some B)) : Far w' B Y N := ⟨fun w'' k => h.net w'' (q.tr k), fun w'' k => h.tab w'' (q.tr k)⟩
def HoldP (r : Option Ms) (w : World) (B : Nat) (e : Ending) (w' : World) : Prop := match r with
  | none => e = .returned (.bool false) ∧ Kept w w' (some B)
  | some M => e = .returned (.bool true) ∧ Marks w' B M ∧ Kept w w' (some B)
theorem HoldP.no {r : Option Ms} {w w' : World} {B : Nat} (h : r = none) (k : Kept w w' (some B)) : HoldP r w B (.returned (.bool false)) w' := by subst h; exact ⟨rfl, k⟩
theorem HoldP.yes {r : Option Ms} {M : Ms} {w w' : World} {B : Nat} (h : r = some M) (m : Marks w' B M) (k : Kept w w' (some B)) : HoldP r w B (.returned (.bool true)) w' := by subst h; exact ⟨rfl, m, k⟩
set_option maxRecDepth 100000 in
set_option maxHeartbeats 2000000 in
theorem counts_net {w : World} {Y : Na} {N : Nt} (h : NetAt w Y N) : Calls Tryd.prog 56 #[netV Y N] w fun e w' => e = .returned (.bool (ncountsB N)) ∧ Kept w w' none := by
  have h1 : N.sites.length ≤ 9223372036854775807 := by have := h.sk.room; have := h.sk.max; omega
  have h2 : N.subs.length ≤ 9223372036854775807 := by have := h.uk.room; have := h.uk.max; omega
  have h3 : N.weds.length ≤ 9223372036854775807 := by have := h.dk.room; have := h.dk.max; omega
  have hk : Kept w (w.alloc (.cells #[.slice Y.s N.sites.length Y.sc, .slice Y.u N.subs.length Y.uc, .slice Y.d N.weds.length Y.dc, .int .i64 N.low, .int .i64 N.high, .int .i64 N.step] 26)) none := Kept.alloc _ _ _ _ _
  have HK := Hid.mk' hk
  have HE : Hid (ncountsB N = (inB N.sites.length 1 12 && inB N.subs.length 1 6 && decide (N.weds.length ≤ 8))) := rfl
  clear h hk
  go_enter Tryd.func56, Tryd.ntmps56
  cases b1 : inB N.sites.length 1 12 with
  | false =>
    go_wp2_with (go_at_call 86; refine (nwithin_is (by assumption)).mono ?_; rintro e w9 ⟨rfl, rfl⟩)
    go_ret
    exact ⟨by rw [HE.out, b1]; rfl, HK.out⟩
  | true =>
    cases b2 : inB N.subs.length 1 6 with
    | false =>
      go_wp2_with (go_at_call 86; refine (nwithin_is (by assumption)).mono ?_; rintro e w9 ⟨rfl, rfl⟩)
      go_ret
      exact ⟨by rw [HE.out, b1, b2]; rfl, HK.out⟩
    | true =>
      go_wp2_with (go_at_call 86; refine (nwithin_is (by assumption)).mono ?_; rintro e w9 ⟨rfl, rfl⟩)
      go_ret
      exact ⟨ret_bool (by rw [HE.out, b1, b2, Bool.eq_iff_iff]; simp; omega), HK.out⟩
set_option maxRecDepth 100000 in
set_option maxHeartbeats 4000000 in
theorem sites_net {w : World} {B : Nat} {Y : Na} {N : Nt} (h : Far w B Y N) (hM : Marks w B []) (hn : N.sites.length ≤ 12) : Calls Tryd.prog 57 #[netV Y N, .map (some B)] w fun e w' => HoldP (sitesF N N.sites.length) w B e w' := by
  obtain ⟨ys, ysc, yu, yuc, yd, ydc, X, r, t⟩ := Y
  have hk : Kept w (w.alloc (.cells #[.slice ys N.sites.length ysc, .slice yu N.subs.length yuc, .slice yd N.weds.length ydc, .int .i64 N.low, .int .i64 N.high, .int .i64 N.step] 26)) none := Kept.alloc _ _ _ _ _
  have HK := Hid.mk' (kept_any (r := some B) hk)
  have HF := Hid.mk' (h.kept (kept_any hk))
  have HM := Hid.mk' (hM.kept hk (by simp))
  clear h hM hk
  go_enter Tryd.func57, Tryd.ntmps57
  go_wp2
  generalize hW : (w.alloc (.cells #[.slice ys N.sites.length ysc, .slice yu N.subs.length yuc, .slice yd N.weds.length ydc, .int .i64 N.low, .int .i64 N.high, .int .i64 N.step] 26)) = W at *
  clear hW
  go_loopw [10] (fun i wr => ∃ (k : Nat) (M : Ms), k ≤ N.sites.length ∧ i = .int .i64 k ∧ Hid (sitesF N k = some M) ∧ Hid (Marks wr B M) ∧ M.length ≤ k ∧ Hid (Kept W wr (some B))) (fun i _ => N.sites.length - (intOf i).toNat)
  case atStart => exact ⟨0, [], Nat.zero_le _, rfl, rfl, HM, Nat.le_refl _, Kept.refl _ _⟩
  case round =>
    obtain ⟨k, M, hk, rfl, HS, HMr, hl, KR⟩ := hrel
    by_cases hlt : k < N.sites.length
    · have hL := (HF.out.net _ KR.out).s1
      have hX := (HF.out.net _ KR.out).s2
      obtain ⟨sb, so, es, hsb, hc⟩ := hL.at_ (by omega)
      dsimp only at es
      subst es
      have hXk := hX k hlt
      have HR : Hid (sitesF N (k + 1) = if siteB (N.sites.getD k s0) = true then putF M (0, (N.sites.getD k s0).id, 0) k else none) := by
        show sitesF N (k + 1) = _
        rw [sitesF, HS.out]
      have e0 := hc k hlt 0 (by omega)
      have e1 := hc k hlt 1 (by omega)
      have e2 := hc k hlt 2 (by omega)
      have e3 := hc k hlt 3 (by omega)
      have e4 := hc k hlt 4 (by omega)
      have e5 := hc k hlt 5 (by omega)
      have e6 := hc k hlt 6 (by omega)
      have e7 := hc k hlt 7 (by omega)
      have e8 := hc k hlt 8 (by omega)
      have e9 := hc k hlt 9 (by omega)
      have e10 := hc k hlt 10 (by omega)
      have e11 := hc k hlt 11 (by omega)
      generalize N.sites.getD k s0 = S at *
      dsimp only at e0 e1 e2 e3 e4 e5 e6 e7 e8 e9 e10 e11 hXk
      generalize X k = Xk at *
      obtain ⟨xg, xgc, xa, xac, xb, xbc, xp, xpc, xe, xec, xl, xlc⟩ := Xk
      dsimp only [stV, Nat.add_zero] at e0 e1 e2 e3 e4 e5 e6 e7 e8 e9 e10 e11
      clear hc hL hX
      have hkA : Kept wr (wr.alloc (.cells #[.int .i64 S.id, .slice xg S.groups.length xgc, .slice xa S.apart.length xac, .slice xb S.between.length xbc, .slice xp S.phases.length xpc, .slice xe S.eyes.length xec, .int .i64 S.watch, .int .i64 S.feed, .int .i64 S.heal, .int .i64 S.low, .int .i64 S.high, .slice xl S.plans.length xlc] 48)) none := Kept.alloc _ _ _ _ _
      have HX2 := Hid.mk' (hXk.kept hkA)
      have HT2 := Hid.mk' (HF.out.tab _ (KR.out.tr (kept_any hkA)))
      have HC0 : Hid ((wr.alloc (.cells #[.int .i64 S.id, .slice xg S.groups.length xgc, .slice xa S.apart.length xac, .slice xb S.between.length xbc, .slice xp S.phases.length xpc, .slice xe S.eyes.length xec, .int .i64 S.watch, .int .i64 S.feed, .int .i64 S.heal, .int .i64 S.low, .int .i64 S.high, .slice xl S.plans.length xlc] 48)).cell? ⟨wr.heap.size, 0, none⟩ = some (.int .i64 S.id)) := by
        show (wr.alloc (.cells #[.int .i64 S.id, .slice xg S.groups.length xgc, .slice xa S.apart.length xac, .slice xb S.between.length xbc, .slice xp S.phases.length xpc, .slice xe S.eyes.length xec, .int .i64 S.watch, .int .i64 S.feed, .int .i64 S.heal, .int .i64 S.low, .int .i64 S.high, .slice xl S.plans.length xlc] 48)).cell? ⟨wr.heap.size, 0, none⟩ = some (.int .i64 S.id)
        simp [World.cell?_alloc_mark]
      have HMA := Hid.mk' (HMr.out.kept hkA (by simp))
      have HKA := Hid.mk' (KR.out.tr (kept_any hkA))
      have hid : mkR (0, S.id, 0) := ⟨i64_zero, hXk.nr.1, i64_zero⟩
      have hpl : i64B (k : Int) := by unfold i64B; omega
      have HNO : Hid (sitesF N (k + 1) = none → sitesF N N.sites.length = none) := fun q => sitesF_none q _ (by omega)
      clear hXk hkA HS HMr
      cases hs : siteB S with
      | false =>
        have hce := checkE_no' hs
        have HE := Hid.mk' (HNO.out (by rw [HR.out, hs]; rfl))
        go_wp2_with (go_at_call 24; have hn := check_any HX2.out HT2.out; rw [hce] at hn; refine hn.mono ?_; rintro e w3 ⟨rfl, hk3⟩; have c0 := cell_kept0 HC0.out hk3)
        go_ret
        exact HoldP.no HE.out (HK.out.tr (HKA.out.tr (kept_any hk3)))
      | true =>
        have hce := checkE_yes' hs
        cases hf : mkF M (0, S.id, 0) with
        | some v =>
          have HE := Hid.mk' (HNO.out (by rw [HR.out, hs, if_pos rfl]; exact putF_old hf))
          go_wp2_with (first
            | (have hgo := hk3; clear hgo; go_at_call 87; refine (isFirst_old (HMA.out.kept hk3 (by simp)) hid _ v hf).mono ?_; rintro e w4 ⟨rfl, hk4⟩)
            | (go_at_call 24; have hn := check_any HX2.out HT2.out; rw [hce] at hn; refine hn.mono ?_; rintro e w3 ⟨rfl, hk3⟩; have c0 := cell_kept0 HC0.out hk3))
          go_ret
          exact HoldP.no HE.out (HK.out.tr (HKA.out.tr ((kept_any hk3).tr (kept_any hk4))))
        | none =>
          have HE : Hid (sitesF N (k + 1) = some (((0, S.id, 0), (k : Int)) :: M)) := by
            show sitesF N (k + 1) = _
            rw [HR.out, hs, if_pos rfl]
            exact putF_new hf
          go_wp2_with (first
            | (have hgo := hk3; clear hgo; go_at_call 87; refine (isFirst_new (HMA.out.kept hk3 (by simp)) hid _ hpl (by omega) hf).mono ?_; rintro e w4 ⟨rfl, hm4, hk4⟩)
            | (go_at_call 24; have hn := check_any HX2.out HT2.out; rw [hce] at hn; refine hn.mono ?_; rintro e w3 ⟨rfl, hk3⟩; have c0 := cell_kept0 HC0.out hk3))
          go_roundw
          case rel => exact ⟨k + 1, _, by omega, by go_num, HE, hm4, (by simp; omega), HKA.out.tr ((kept_any hk3).tr hk4)⟩
          case measure => simp [intOf]; omega
    · have e : k = N.sites.length := by omega
      subst e
      go_wp2
      go_ret
      exact HoldP.yes HS.out HMr.out (HK.out.tr KR.out)

end Go.Proofs.YtoahbpdgbiachaaDoor

/-
  THE CONTRACTS of what a region is asked: the sites of a sub, whether all are placed.
-/
namespace Go.Proofs.YtoahbpdgbiachaaDoor
open Go.RowKit Go.Lib Go.Deep Go.Maps
set_option linter.unusedVariables false
set_option linter.unusedSimpArgs false

theorem countP_put {p q : Nat → Bool} {x : Nat} (h0 : p x = false) (h1 : q x = true) (h2 : ∀ i, i ≠ x → q i = p i) : ∀ n, (List.range n).countP q = (List.range n).countP p + (if x < n then 1 else 0)
  | 0 => by simp
  | n + 1 => by
    rw [List.range_succ, List.countP_append, List.countP_append, countP_put h0 h1 h2 n]
    by_cases e : n = x
    · subst e
      simp [h0, h1]
    · have h3 := h2 n e
      simp only [List.countP_singleton, h3]
      by_cases hx : x < n
      · rw [if_pos hx, if_pos (show x < n + 1 by omega)]; omega
      · rw [if_neg hx, if_neg (show ¬ x < n + 1 by omega)]; omega
/-- How many places have a mark. -/
def manyP (N : Nt) (M : Ms) : Nat := (List.range N.sites.length).countP (fun i : Nat => (mkF M (1, (i : Int), 0)).isSome)
theorem manyP_le (N : Nt) (M : Ms) : manyP N M ≤ N.sites.length := by
  have := List.countP_le_length (p := fun i => (mkF M (1, ((i : Nat) : Int), 0)).isSome) (l := List.range N.sites.length)
  simpa [manyP] using this
theorem manyP_put {N : Nt} {M : Ms} {x : Int} {p : Int} (hx : inB x 0 ((N.sites.length : Int) - 1) = true) (h : mkF M (1, x, 0) = none) : manyP N (((1, x, 0), p) :: M) = manyP N M + 1 := by
  have hb := inB_iff.1 hx
  obtain ⟨n, rfl⟩ : ∃ n : Nat, x = n := ⟨x.toNat, by omega⟩
  have := countP_put (p := fun i => (mkF M (1, (i : Int), 0)).isSome) (q := fun i => (mkF (((1, (n : Int), 0), p) :: M) (1, (i : Int), 0)).isSome) (x := n) (by show (mkF M (1, (n : Int), 0)).isSome = false; rw [h]; rfl) (by show (mkF (((1, (n : Int), 0), p) :: M) (1, (n : Int), 0)).isSome = true; rw [mkF_same]; rfl) (fun i hi => by
    show (mkF (((1, (n : Int), 0), p) :: M) (1, (i : Int), 0)).isSome = (mkF M (1, (i : Int), 0)).isSome
    rw [mkF_other _ _ (fun e => hi (by have := congrArg (fun z : Mk => z.2.1) e; simp only at this; omega))]) N.sites.length
  unfold manyP
  rw [this, if_pos (by omega)]
theorem takeF_many {N : Nt} {place : Nat} {l : List Int} {M : Ms} : ∀ k M', takeF N place l M k = some M' → manyP N M' = manyP N M + k ∧ M'.length = M.length + k
  | 0, M', h => by injection h with h; subst h; exact ⟨rfl, rfl⟩
  | k + 1, M', h => by
    rw [takeF] at h
    cases h1 : takeF N place l M k with
    | none => rw [h1] at h; cases h
    | some M1 =>
      rw [h1] at h
      simp only at h
      split at h
      · rename_i hin
        cases h2 : mkF M1 (1, l.getD k 0, 0) with
        | some v => rw [putF_old h2] at h; cases h
        | none =>
          rw [putF_new h2] at h
          injection h with h
          subst h
          obtain ⟨i1, i2⟩ := takeF_many k M1 h1
          refine ⟨by rw [manyP_put hin h2, i1]; omega, by simp [i2]; omega⟩
      · cases h
set_option maxRecDepth 100000 in
set_option maxHeartbeats 4000000 in
theorem take_net {w : World} {B : Nat} {Y : Na} {N : Nt} {M : Ms} (h : Far w B Y N) (hM : Marks w B M) (hn : N.sites.length ≤ 12) (hl : M.length ≤ 500) (place : Nat) (hp : place < N.subs.length) : Calls Tryd.prog 88 #[netV Y N, .map (some B), .int .i64 place] w fun e w' => HoldP (takeF N place (N.subs.getD place u0).sites M (N.subs.getD place u0).sites.length) w B e w' := by
  obtain ⟨ys, ysc, yu, yuc, yd, ydc, X, r, t⟩ := Y
  have h0 := h.net w (Kept.refl _ _)
  have hsm : N.subs.length ≤ 9223372036854775807 := by have := h0.uk.room; have := h0.uk.max; omega
  obtain ⟨ub, uo, eu, hub, hc⟩ := h0.u1.at_ (by omega)
  dsimp only at eu
  subst eu
  have hk : Kept w (w.alloc (.cells #[.slice ys N.sites.length ysc, .slice (some ⟨ub, uo, none⟩) N.subs.length yuc, .slice yd N.weds.length ydc, .int .i64 N.low, .int .i64 N.high, .int .i64 N.step] 26)) none := Kept.alloc _ _ _ _ _
  have HK := Hid.mk' (kept_any (r := some B) hk)
  have HF := Hid.mk' (h.kept (kept_any hk))
  have HM := Hid.mk' (hM.kept hk (by simp))
  have hBn := hM.lt
  have hI := (h.kept (kept_any hk)).net _ (Kept.refl _ _)
  have hIu := hI.u2 place hp
  dsimp only at hIu
  have e0 : w.cell? ⟨ub, uo + place * 2, none⟩ = some (.slice (r place).1 (N.subs.getD place u0).sites.length (r place).2) := hc place hp 0 (by omega)
  have HI : Hid (∀ w', Kept (w.alloc (.cells #[.slice ys N.sites.length ysc, .slice (some ⟨ub, uo, none⟩) N.subs.length yuc, .slice yd N.weds.length ydc, .int .i64 N.low, .int .i64 N.high, .int .i64 N.step] 26)) w' (some B) → Ints w' (r place).1 (N.subs.getD place u0).sites.length (r place).2 (N.subs.getD place u0).sites) := fun w' q => ((h.kept (kept_any hk)).net w' q).u2 place hp
  have hlm : (N.subs.getD place u0).sites.length ≤ 9223372036854775807 := by have := hIu.cap.room; have := hIu.cap.max; omega
  have hc0 : (w.alloc (.cells #[.slice ys N.sites.length ysc, .slice (some ⟨ub, uo, none⟩) N.subs.length yuc, .slice yd N.weds.length ydc, .int .i64 N.low, .int .i64 N.high, .int .i64 N.step] 26)).cell? ⟨w.heap.size, 0, none⟩ = some (.slice ys N.sites.length ysc) := by simp [World.cell?_alloc_mark]
  have HC : Hid (∀ w', Kept (w.alloc (.cells #[.slice ys N.sites.length ysc, .slice (some ⟨ub, uo, none⟩) N.subs.length yuc, .slice yd N.weds.length ydc, .int .i64 N.low, .int .i64 N.high, .int .i64 N.step] 26)) w' (some B) → w'.cell? ⟨w.heap.size, 0, none⟩ = some (.slice ys N.sites.length ysc)) := fun w' q => (World.cell?_of_block (w := (w.alloc (.cells #[.slice ys N.sites.length ysc, .slice (some ⟨ub, uo, none⟩) N.subs.length yuc, .slice yd N.weds.length ydc, .int .i64 N.low, .int .i64 N.high, .int .i64 N.step] 26))) (a := ⟨w.heap.size, 0, none⟩) (q.block w.heap.size (by simp) (fun e => by injection e with e; omega))).trans hc0
  have hul := block_lt e0
  clear h hM hk h0 hc hI hIu hc0 hBn
  generalize r place = rp at *
  obtain ⟨ra, rc⟩ := rp
  dsimp only at *
  generalize hsu : (N.subs.getD place u0).sites = l at *
  go_enter Tryd.func88, Tryd.ntmps88
  go_wp2
  generalize hW : (w.alloc (.cells #[.slice ys N.sites.length ysc, .slice (some ⟨ub, uo, none⟩) N.subs.length yuc, .slice yd N.weds.length ydc, .int .i64 N.low, .int .i64 N.high, .int .i64 N.step] 26)) = W at *
  clear hW
  go_loopw [16] (fun i wr => ∃ (k : Nat) (M' : Ms), k ≤ l.length ∧ i = .int .i64 k ∧ Hid (takeF N place l M k = some M') ∧ Hid (Marks wr B M') ∧ Hid (Kept W wr (some B))) (fun i _ => l.length - (intOf i).toNat)
  case atStart => exact ⟨0, M, Nat.zero_le _, rfl, rfl, HM, Kept.refl _ _⟩
  case round =>
    obtain ⟨k, M', hk, rfl, HS, HMr, KR⟩ := hrel
    by_cases hlt : k < l.length
    · obtain ⟨rb, ro, er, hrb, hcr⟩ := (HI.out _ KR.out).at_ (by omega)
      subst er
      have hx := hcr k hlt
      have hxr : i64B (l.getD k 0) := (HI.out _ KR.out).rng _ (getD_mem hlt)
      have c0 := HC.out _ KR.out
      have HRec : Hid (takeF N place l M (k + 1) = if inB (l.getD k 0) 0 ((N.sites.length : Int) - 1) = true then putF M' (1, l.getD k 0, 0) place else none) := by
        show takeF N place l M (k + 1) = _
        rw [takeF, HS.out]
      have HNO : Hid (takeF N place l M (k + 1) = none → takeF N place l M l.length = none) := fun q => takeF_none q _ (by omega)
      have hml : M'.length ≤ 1000 := by
        have h1 := takeF_many k M' HS.out
        have h2 := manyP_le N M'
        omega
      have hmk : mkR (1, l.getD k 0, 0) := ⟨by show i64B 1; unfold i64B; omega, hxr, i64_zero⟩
      have hpl : i64B (place : Int) := by unfold i64B; omega
      have hwr : IntKind.i64.wrap ((N.sites.length : Int) - 1) = (N.sites.length : Int) - 1 := wrap_in (by omega) (by omega)
      clear hcr hxr
      generalize l.getD k 0 = x at *
      cases hin : inB x 0 ((N.sites.length : Int) - 1) with
      | false =>
        have HE := Hid.mk' (HNO.out (by rw [HRec.out, hin]; rfl))
        go_wp2_with (go_at_call 86; refine (nwithin_is (by assumption)).mono ?_; rintro e w9 ⟨rfl, rfl⟩)
        go_ret
        exact HoldP.no HE.out (HK.out.tr KR.out)
      | true =>
        cases hf : mkF M' (1, x, 0) with
        | some v =>
          have HE := Hid.mk' (HNO.out (by rw [HRec.out, hin, if_pos rfl]; exact putF_old hf))
          go_wp2_with (first
            | (go_at_call 87; refine (isFirst_old HMr.out hmk _ v hf).mono ?_; rintro e w4 ⟨rfl, hk4⟩)
            | (go_at_call 86; refine (nwithin_is (by assumption)).mono ?_; rintro e w9 ⟨rfl, rfl⟩))
          go_ret
          exact HoldP.no HE.out (HK.out.tr (KR.out.tr (kept_any hk4)))
        | none =>
          have HE : Hid (takeF N place l M (k + 1) = some (((1, x, 0), (place : Int)) :: M')) := by
            show takeF N place l M (k + 1) = _
            rw [HRec.out, hin, if_pos rfl]
            exact putF_new hf
          go_wp2_with (first
            | (go_at_call 87; refine (isFirst_new HMr.out hmk _ hpl hml hf).mono ?_; rintro e w4 ⟨rfl, hm4, hk4⟩)
            | (go_at_call 86; refine (nwithin_is (by assumption)).mono ?_; rintro e w9 ⟨rfl, rfl⟩))
          go_roundw
          case rel => exact ⟨k + 1, _, by omega, by go_num, HE, hm4, KR.out.tr hk4⟩
          case measure => simp [intOf]; omega
    · have e : k = l.length := by omega
      subst e
      go_wp2
      go_ret
      exact HoldP.yes HS.out HMr.out (HK.out.tr KR.out)
set_option maxRecDepth 100000 in
set_option maxHeartbeats 4000000 in
theorem placed_net {w : World} {B : Nat} {Y : Na} {N : Nt} {M : Ms} (hM : Marks w B M) (hn : N.sites.length ≤ 12) : Calls Tryd.prog 89 #[netV Y N, .map (some B)] w fun e w' => e = .returned (.bool (placedB N M)) ∧ Kept w w' none := by
  obtain ⟨ys, ysc, yu, yuc, yd, ydc, X, r, t⟩ := Y
  have hk : Kept w (w.alloc (.cells #[.slice ys N.sites.length ysc, .slice yu N.subs.length yuc, .slice yd N.weds.length ydc, .int .i64 N.low, .int .i64 N.high, .int .i64 N.step] 26)) none := Kept.alloc _ _ _ _ _
  have HK := Hid.mk' hk
  have HM := Hid.mk' (hM.kept hk (by simp))
  have HA := Hid.mk' hM.all
  clear hM hk
  go_enter Tryd.func89, Tryd.ntmps89
  go_wp2
  generalize hW : (w.alloc (.cells #[.slice ys N.sites.length ysc, .slice yu N.subs.length yuc, .slice yd N.weds.length ydc, .int .i64 N.low, .int .i64 N.high, .int .i64 N.step] 26)) = W at *
  clear hW
  go_loopw [11] (fun i wr => ∃ (k : Nat), k ≤ N.sites.length ∧ i = .int .i64 k ∧ Hid (∀ j, j < k → (mkF M (1, (j : Int), 0)).isSome = true) ∧ wr = W) (fun i _ => N.sites.length - (intOf i).toNat)
  case atStart => exact ⟨0, Nat.zero_le _, rfl, (fun j hj => by omega), rfl⟩
  case round =>
    obtain ⟨k, hk, rfl, HJ, rfl⟩ := hrel
    by_cases hlt : k < N.sites.length
    · have hmk : mkR (1, (k : Int), 0) := ⟨by show i64B 1; unfold i64B; omega, by show i64B (k : Int); unfold i64B; omega, i64_zero⟩
      have HKY := Hid.mk' (mk_key hmk)
      have hh := mkD_has M HA.out _ hmk
      cases hf : (mkF M (1, (k : Int), 0)).isSome with
      | false =>
        rw [hf] at hh
        have HE : Hid (placedB N M = false) := allB_no hlt hf
        go_wp2_with (at_lookup; refine wpList_lookup_own_ok_int _ rfl _ _ 80 rfl 70 3 .i64 Tryd.lawMk Tryd.uMks Tryd.uMi (Tryd.zeroMi _) B _ _ rfl HM.out.own _ _ rfl HKY.out ?_; intro x hat hwc; rw [hh])
        go_ret
        exact ⟨by rw [HE.out]; rfl, HK.out⟩
      | true =>
        rw [hf] at hh
        go_wp2_with (at_lookup; refine wpList_lookup_own_ok_int _ rfl _ _ 80 rfl 70 3 .i64 Tryd.lawMk Tryd.uMks Tryd.uMi (Tryd.zeroMi _) B _ _ rfl HM.out.own _ _ rfl HKY.out ?_; intro x hat hwc; rw [hh])
        go_roundw
        case rel => exact ⟨k + 1, by omega, by go_num, (fun j hj => (by
          by_cases e : j = k
          · rw [e]; exact hf
          · exact HJ.out j (by omega))), trivial⟩
        case measure => simp [intOf]; omega
    · have e : k = N.sites.length := by omega
      subst e
      have HE : Hid (placedB N M = true) := allB_iff.2 HJ.out
      go_wp2
      go_ret
      exact ⟨by rw [HE.out]; rfl, HK.out⟩

end Go.Proofs.YtoahbpdgbiachaaDoor

/-
  THE CONTRACT of subsHold.
-/
namespace Go.Proofs.YtoahbpdgbiachaaDoor
open Go.RowKit Go.Lib Go.Deep Go.Maps
set_option linter.unusedVariables false
set_option linter.unusedSimpArgs false

theorem subsF_many {N : Nt} {M : Ms} : ∀ k M', subsF N M k = some M' → M'.length + manyP N M = M.length + manyP N M'
  | 0, M', h => by injection h with h; subst h; rfl
  | k + 1, M', h => by
    rw [subsF] at h
    cases h1 : subsF N M k with
    | none => rw [h1] at h; cases h
    | some M1 =>
      rw [h1] at h
      simp only at h
      cases h2 : takeF N k (N.subs.getD k u0).sites M1 (N.subs.getD k u0).sites.length with
      | none => rw [h2] at h; cases h
      | some M2 =>
        rw [h2] at h
        simp only at h
        split at h
        · injection h with h
          subst h
          have i1 := subsF_many k M1 h1
          have i2 := takeF_many _ _ h2
          omega
        · cases h
def subsP (N : Nt) (M : Ms) : Option Ms := match subsF N M N.subs.length with
  | none => none
  | some M' => if placedB N M' = true then some M' else none
set_option maxRecDepth 100000 in
set_option maxHeartbeats 8000000 in
theorem subs_net {w : World} {B : Nat} {Y : Na} {N : Nt} {M : Ms} (h : Far w B Y N) (hM : Marks w B M) (hn12 : N.sites.length ≤ 12) (hl : M.length ≤ 100) (hs1 : 1 ≤ N.subs.length) : Calls Tryd.prog 58 #[netV Y N, .map (some B)] w fun e w' => HoldP (subsP N M) w B e w' := by
  obtain ⟨ys, ysc, yu, yuc, yd, ydc, X, r, t⟩ := Y
  have h0 := h.net w (Kept.refl _ _)
  have hsm : N.subs.length ≤ 9223372036854775807 := by have := h0.uk.room; have := h0.uk.max; omega
  obtain ⟨ub, uo, eu, _, _⟩ := h0.u1.at_ (by omega)
  dsimp only at eu
  subst eu
  have hk : Kept w (w.alloc (.cells #[.slice ys N.sites.length ysc, .slice (some ⟨ub, uo, none⟩) N.subs.length yuc, .slice yd N.weds.length ydc, .int .i64 N.low, .int .i64 N.high, .int .i64 N.step] 26)) none := Kept.alloc _ _ _ _ _
  have HK := Hid.mk' (kept_any (r := some B) hk)
  have HF := Hid.mk' (h.kept (kept_any hk))
  have HM := Hid.mk' (hM.kept hk (by simp))
  have hBn := hM.lt
  have hcs : ∀ j v, #[.slice ys N.sites.length ysc, .slice (some ⟨ub, uo, none⟩) N.subs.length yuc, .slice yd N.weds.length ydc, .int .i64 N.low, .int .i64 N.high, .int .i64 N.step][j]? = some v → ∀ w', Kept (w.alloc (.cells #[.slice ys N.sites.length ysc, .slice (some ⟨ub, uo, none⟩) N.subs.length yuc, .slice yd N.weds.length ydc, .int .i64 N.low, .int .i64 N.high, .int .i64 N.step] 26)) w' (some B) → w'.cell? ⟨w.heap.size, j, none⟩ = some v := fun j v hv w' q => (World.cell?_of_block (w := (w.alloc (.cells #[.slice ys N.sites.length ysc, .slice (some ⟨ub, uo, none⟩) N.subs.length yuc, .slice yd N.weds.length ydc, .int .i64 N.low, .int .i64 N.high, .int .i64 N.step] 26))) (a := ⟨w.heap.size, j, none⟩) (q.block w.heap.size (by simp) (fun e => by injection e with e; omega))).trans (by simp only [World.cell?_alloc_mark]; exact hv)
  have HC : Hid (∀ w', Kept (w.alloc (.cells #[.slice ys N.sites.length ysc, .slice (some ⟨ub, uo, none⟩) N.subs.length yuc, .slice yd N.weds.length ydc, .int .i64 N.low, .int .i64 N.high, .int .i64 N.step] 26)) w' (some B) → w'.cell? ⟨w.heap.size, 0, none⟩ = some (.slice ys N.sites.length ysc) ∧ w'.cell? ⟨w.heap.size, 1, none⟩ = some (.slice (some ⟨ub, uo, none⟩) N.subs.length yuc) ∧ w'.cell? ⟨w.heap.size, 2, none⟩ = some (.slice yd N.weds.length ydc) ∧ w'.cell? ⟨w.heap.size, 3, none⟩ = some (.int .i64 N.low) ∧ w'.cell? ⟨w.heap.size, 4, none⟩ = some (.int .i64 N.high) ∧ w'.cell? ⟨w.heap.size, 5, none⟩ = some (.int .i64 N.step)) := fun w' q => ⟨hcs 0 _ rfl w' q, hcs 1 _ rfl w' q, hcs 2 _ rfl w' q, hcs 3 _ rfl w' q, hcs 4 _ rfl w' q, hcs 5 _ rfl w' q⟩
  clear h hM hk h0 hcs
  go_enter Tryd.func58, Tryd.ntmps58
  go_wp2
  generalize hW : (w.alloc (.cells #[.slice ys N.sites.length ysc, .slice (some ⟨ub, uo, none⟩) N.subs.length yuc, .slice yd N.weds.length ydc, .int .i64 N.low, .int .i64 N.high, .int .i64 N.step] 26)) = W at *
  clear hW
  go_loopw [12] (fun i wr => ∃ (k : Nat) (M' : Ms), k ≤ N.subs.length ∧ i = .int .i64 k ∧ Hid (subsF N M k = some M') ∧ Hid (Marks wr B M') ∧ Hid (Kept W wr (some B))) (fun i _ => N.subs.length - (intOf i).toNat)
  case atStart => exact ⟨0, M, Nat.zero_le _, rfl, rfl, HM, Kept.refl _ _⟩
  case round =>
    clear HM
    obtain ⟨k, M', hk, rfl, HS, HMr, KR⟩ := hrel
    obtain ⟨n0, n1, n2, n3, n4, n5⟩ := HC.out _ KR.out
    have hml : M'.length ≤ 500 := by
      have h1 := subsF_many k M' HS.out
      have h2 := manyP_le N M'
      omega
    by_cases hlt : k < N.subs.length
    · have hu := (HF.out.net _ KR.out).u1
      obtain ⟨ub', uo', eu, _, hc⟩ := hu.at_ (by omega)
      dsimp only at eu
      injection eu with eu
      injection eu with eu1 eu2
      subst eu1 eu2
      have e0 : wr.cell? ⟨ub, uo + k * 2, none⟩ = some (.slice (r k).1 (N.subs.getD k u0).sites.length (r k).2) := hc k hlt 0 (by omega)
      have e1 : wr.cell? ⟨ub, uo + k * 2 + 1, none⟩ = some (.int .i64 (N.subs.getD k u0).critical) := hc k hlt 1 (by omega)
      have hcr : i64B (N.subs.getD k u0).critical := (HF.out.net _ KR.out).ur _ (getD_mem hlt)
      have HNX : Hid (subsF N M (k + 1) = none → subsP N M = none) := fun q => by
        show subsP N M = none
        unfold subsP
        rw [subsF_none q _ (by omega)]
      have HRec : Hid (subsF N M (k + 1) = (match takeF N k (N.subs.getD k u0).sites M' (N.subs.getD k u0).sites.length with
        | none => none
        | some M'' => if mkF M'' (1, (N.subs.getD k u0).critical, 0) = some (k : Int) then some M'' else none)) := by
        show subsF N M (k + 1) = _
        rw [subsF, HS.out]
        all_goals (simp only; cases takeF N k (N.subs.getD k u0).sites M' (N.subs.getD k u0).sites.length <;> rfl)
      generalize hU : N.subs.getD k u0 = U at *
      have HU := Hid.mk' hU
      clear hU hu hc
      generalize r k = rp at *
      obtain ⟨ra, rc⟩ := rp
      dsimp only at *
      have hkA : Kept wr (wr.alloc (.cells #[.slice ra U.sites.length rc, .int .i64 U.critical] 38)) none := Kept.alloc _ _ _ _ _
      have HKA := Hid.mk' (KR.out.tr (kept_any hkA))
      have HMA := Hid.mk' (HMr.out.kept hkA (by simp))
      have hb1 : (wr.alloc (.cells #[.slice ra U.sites.length rc, .int .i64 U.critical] 38)).cell? ⟨wr.heap.size, 1, none⟩ = some (.int .i64 U.critical) := by simp [World.cell?_alloc_mark]
      have hBr := HMr.out.lt
      have HC1 : Hid (∀ w', Kept (wr.alloc (.cells #[.slice ra U.sites.length rc, .int .i64 U.critical] 38)) w' (some B) → w'.cell? ⟨wr.heap.size, 1, none⟩ = some (.int .i64 U.critical)) := fun w' q => (World.cell?_of_block (w := (wr.alloc (.cells #[.slice ra U.sites.length rc, .int .i64 U.critical] 38))) (a := ⟨wr.heap.size, 1, none⟩) (q.block wr.heap.size (by simp) (fun e => by injection e with e; omega))).trans hb1
      have hmk : mkR (1, U.critical, 0) := ⟨by show i64B 1; unfold i64B; omega, hcr, i64_zero⟩
      have HKY := Hid.mk' (mk_key hmk)
      obtain ⟨m0, m1, m2, m3, m4, m5⟩ := HC.out _ HKA.out
      have hwl : w.heap.size < wr.heap.size := block_lt n0
      clear hkA hb1 hcr HMr HS
      cases htk : takeF N k U.sites M' U.sites.length with
      | none =>
        have HTK := Hid.mk' htk
        have HE := Hid.mk' (HNX.out (by rw [HRec.out, htk]))
        clear htk
        go_wp2_with (go_at_call 88; have hn := take_net (HF.out.kept HKA.out) HMA.out hn12 hml k hlt; rw [HU.out, HTK.out] at hn; refine hn.mono ?_; rintro e w4 ⟨rfl, hk4⟩; have c1 := HC1.out _ hk4)
        go_ret
        exact HoldP.no HE.out (HK.out.tr (HKA.out.tr hk4))
      | some M4 =>
        have HTK := Hid.mk' htk
        have hal : mkAll M4 ∨ True := .inr trivial
        cases hf : mkF M4 (1, U.critical, 0) with
        | none =>
          have HE := Hid.mk' (HNX.out (by rw [HRec.out, htk]; simp [hf]))
          clear htk
          go_wp2_with (first
            | (have hgo := HM4; clear hgo; at_lookup; refine wpList_lookup_own_ok_int _ rfl _ _ 80 rfl 70 3 .i64 Tryd.lawMk Tryd.uMks Tryd.uMi (Tryd.zeroMi _) B _ _ rfl HM4.out.own _ _ rfl HKY.out ?_; intro x hat hwc; rw [hh])
            | (go_at_call 88; have hn := take_net (HF.out.kept HKA.out) HMA.out hn12 hml k hlt; rw [HU.out, HTK.out] at hn; refine hn.mono ?_; rintro e w4 ⟨rfl, hm4, hk4⟩; have c1 := HC1.out _ hk4; have HM4 := Hid.mk' hm4; have hh := mkD_has M4 hm4.all _ hmk; rw [hf] at hh; have hh : Maps.has (mkD M4) (mkL (1, U.critical, 0)) = false := hh; clear hm4))
          go_ret
          exact HoldP.no HE.out (HK.out.tr (HKA.out.tr hk4))
        | some v =>
          by_cases hv : v = (k : Int)
          · subst hv
            have HE : Hid (subsF N M (k + 1) = some M4) := by
              show subsF N M (k + 1) = some M4
              rw [HRec.out, htk]
              simp [hf]
            clear htk
            go_wp2_with (first
              | (have hgo := HM4; clear hgo; at_lookup; refine wpList_lookup_own_ok_int _ rfl _ _ 80 rfl 70 3 .i64 Tryd.lawMk Tryd.uMks Tryd.uMi (Tryd.zeroMi _) B _ _ rfl HM4.out.own _ _ rfl HKY.out ?_; intro x hat hwc; rw [hh]; have hxk : x = (k : Int) := (by have hz := hat; rw [mkD_at M4 HM4.out.all _ hmk _ hf] at hz; simpa using hz.symm); subst hxk)
              | (go_at_call 88; have hn := take_net (HF.out.kept HKA.out) HMA.out hn12 hml k hlt; rw [HU.out, HTK.out] at hn; refine hn.mono ?_; rintro e w4 ⟨rfl, hm4, hk4⟩; have c1 := HC1.out _ hk4; have HM4 := Hid.mk' hm4; have hh := mkD_has M4 hm4.all _ hmk; rw [hf] at hh; have hh : Maps.has (mkD M4) (mkL (1, U.critical, 0)) = true := hh; clear hm4))
            go_roundw
            case rel => exact ⟨k + 1, M4, by omega, by go_num, HE, HM4, HKA.out.tr hk4⟩
            case measure => simp [intOf]; omega
          · have HE := Hid.mk' (HNX.out (by rw [HRec.out, htk]; simp [hf, hv]))
            clear htk
            go_wp2_with (first
              | (have hgo := HM4; clear hgo; at_lookup; refine wpList_lookup_own_ok_int _ rfl _ _ 80 rfl 70 3 .i64 Tryd.lawMk Tryd.uMks Tryd.uMi (Tryd.zeroMi _) B _ _ rfl HM4.out.own _ _ rfl HKY.out ?_; intro x hat hwc; rw [hh]; have hxk : x = v := (by have hz := hat; rw [mkD_at M4 HM4.out.all _ hmk _ hf] at hz; simpa using hz.symm); subst hxk)
              | (go_at_call 88; have hn := take_net (HF.out.kept HKA.out) HMA.out hn12 hml k hlt; rw [HU.out, HTK.out] at hn; refine hn.mono ?_; rintro e w4 ⟨rfl, hm4, hk4⟩; have c1 := HC1.out _ hk4; have HM4 := Hid.mk' hm4; have hh := mkD_has M4 hm4.all _ hmk; rw [hf] at hh; have hh : Maps.has (mkD M4) (mkL (1, U.critical, 0)) = true := hh; clear hm4))
            go_ret
            exact HoldP.no HE.out (HK.out.tr (HKA.out.tr hk4))
    · have e : k = N.subs.length := by omega
      subst e
      have HP : Hid (subsP N M = if placedB N M' = true then some M' else none) := by
        show subsP N M = _
        unfold subsP
        rw [HS.out]
      cases hpb : placedB N M' with
      | false =>
        go_wp2_with (go_at_call 89; have hn := placed_net (Y := ⟨ys, ysc, some ⟨ub, uo, none⟩, yuc, yd, ydc, X, r, t⟩) HMr.out hn12; rw [hpb] at hn; refine hn.mono ?_; rintro e w4 ⟨rfl, hk4⟩)
        go_ret
        exact HoldP.no (by rw [HP.out, hpb]; rfl) (HK.out.tr (KR.out.tr (kept_any hk4)))
      | true =>
        go_wp2_with (go_at_call 89; have hn := placed_net (Y := ⟨ys, ysc, some ⟨ub, uo, none⟩, yuc, yd, ydc, X, r, t⟩) HMr.out hn12; rw [hpb] at hn; refine hn.mono ?_; rintro e w4 ⟨rfl, hk4⟩)
        go_ret
        exact HoldP.yes (by rw [HP.out, hpb]; rfl) (HMr.out.kept hk4 (by simp)) (HK.out.tr (KR.out.tr (kept_any hk4)))

end Go.Proofs.YtoahbpdgbiachaaDoor

/-
  THE CONTRACTS of offsetsHold, steps, cyclesHold.
-/
namespace Go.Proofs.YtoahbpdgbiachaaDoor
open Go.RowKit Go.Lib Go.Deep Go.Maps
set_option linter.unusedVariables false
set_option linter.unusedSimpArgs false

theorem ntime_any (n : Int) (w : World) : Calls Tryd.prog 90 #[.int .i64 n] w fun e w' => e = .returned (.bool (timeB n)) ∧ w' = w := by
  go_enter Tryd.func90, Tryd.ntmps90
  go_wp2_with (go_at_call 86; refine (nwithin_any _ _ _ _).mono ?_; rintro e w9 ⟨rfl, rfl⟩)
  go_ret
  exact ⟨rfl, rfl⟩
theorem ntime_is {n : Int} {b : Bool} {w : World} (h : timeB n = b) : Calls Tryd.prog 90 #[.int .i64 n] w fun e w' => e = .returned (.bool b) ∧ w' = w := by
  rw [← h]; exact ntime_any n w
set_option maxRecDepth 100000 in
set_option maxHeartbeats 2000000 in
theorem offsets_net {w : World} {Y : Na} {N : Nt} {a : Option Addr} {c : Nat} {l : List Int} (hI : Ints w a l.length c l) (hlo : 1 ≤ N.low ∧ N.low ≤ 1048576) : Calls Tryd.prog 91 #[netV Y N, .slice a l.length c] w fun e w' => e = .returned (.bool (offsetsB N l)) ∧ Kept w w' none := by
  obtain ⟨ys, ysc, yu, yuc, yd, ydc, X, r, t⟩ := Y
  have hk : Kept w (w.alloc (.cells #[.slice ys N.sites.length ysc, .slice yu N.subs.length yuc, .slice yd N.weds.length ydc, .int .i64 N.low, .int .i64 N.high, .int .i64 N.step] 26)) none := Kept.alloc _ _ _ _ _
  have HK := Hid.mk' hk
  have HI := Hid.mk' (hI.kept hk)
  have hlm : l.length ≤ 9223372036854775807 := by have := hI.cap.room; have := hI.cap.max; omega
  have c3 : (w.alloc (.cells #[.slice ys N.sites.length ysc, .slice yu N.subs.length yuc, .slice yd N.weds.length ydc, .int .i64 N.low, .int .i64 N.high, .int .i64 N.step] 26)).cell? ⟨w.heap.size, 3, none⟩ = some (.int .i64 N.low) := by simp [World.cell?_alloc_mark]
  have hwr : IntKind.i64.wrap (N.low - 1) = N.low - 1 := wrap_in (by omega) (by omega)
  have HE0 : Hid (offsetsB N l = (inB l.length 1 8 && allB l.length (fun i => inB (l.getD i 0) 0 (N.low - 1)))) := rfl
  clear hI hk
  go_enter Tryd.func91, Tryd.ntmps91
  cases b1 : inB l.length 1 8 with
  | false =>
    go_wp2_with (go_at_call 86; refine (nwithin_is (by assumption)).mono ?_; rintro e w9 ⟨rfl, rfl⟩)
    go_ret
    exact ⟨by rw [HE0.out, b1]; rfl, HK.out⟩
  | true =>
    go_wp2_with (go_at_call 86; refine (nwithin_is (by assumption)).mono ?_; rintro e w9 ⟨rfl, rfl⟩)
    generalize hW : (w.alloc (.cells #[.slice ys N.sites.length ysc, .slice yu N.subs.length yuc, .slice yd N.weds.length ydc, .int .i64 N.low, .int .i64 N.high, .int .i64 N.step] 26)) = W at *
    clear hW
    go_loopw [13] (fun i wr => ∃ (k : Nat), k ≤ l.length ∧ i = .int .i64 k ∧ Hid (∀ j, j < k → inB (l.getD j 0) 0 (N.low - 1) = true) ∧ wr = W) (fun i _ => l.length - (intOf i).toNat)
    case atStart => exact ⟨0, Nat.zero_le _, rfl, (fun j hj => by omega), rfl⟩
    case round =>
      obtain ⟨k, hk, rfl, HJ, rfl⟩ := hrel
      by_cases hlt : k < l.length
      · obtain ⟨ab, ao, ea, _, hc⟩ := HI.out.at_ (by omega)
        subst ea
        have hx := hc k hlt
        clear hc
        have HN : Hid (inB (l.getD k 0) 0 (N.low - 1) = false → offsetsB N l = false) := fun q => by
          show offsetsB N l = false
          rw [HE0.out, b1, allB_no hlt q]
          rfl
        obtain ⟨x, hxe⟩ : ∃ x, l.getD k 0 = x := ⟨_, rfl⟩
        rw [hxe] at hx HN
        have HXE := Hid.mk' hxe
        clear hxe
        cases hin : inB x 0 (N.low - 1) with
        | false =>
          have HE := Hid.mk' (HN.out hin)
          go_wp2_with (go_at_call 86; refine (nwithin_is (by assumption)).mono ?_; rintro e w9 ⟨rfl, rfl⟩)
          go_ret
          exact ⟨by rw [HE.out]; rfl, HK.out⟩
        | true =>
          go_wp2_with (go_at_call 86; refine (nwithin_is (by assumption)).mono ?_; rintro e w9 ⟨rfl, rfl⟩)
          go_roundw
          case rel => exact ⟨k + 1, by omega, by go_num, (fun j hj => (by
            by_cases e : j = k
            · rw [e, HXE.out]; exact hin
            · exact HJ.out j (by omega))), trivial⟩
          case measure => simp [intOf]; omega
      · have e : k = l.length := by omega
        subst e
        have HE : Hid (offsetsB N l = true) := by
          show offsetsB N l = true
          rw [HE0.out, b1, allB_iff.2 HJ.out]
          rfl
        go_wp2
        go_ret
        exact ⟨by rw [HE.out]; rfl, HK.out⟩
set_option maxRecDepth 100000 in
theorem steps_net {w : World} {Y : Na} {N : Nt} (h1 : 0 ≤ N.high - N.low) (h2 : N.high - N.low ≤ 1048576) (h3 : 1 ≤ N.step) : Calls Tryd.prog 26 #[netV Y N] w fun e w' => e = .returned (.int .i64 ((N.high - N.low) / N.step)) ∧ Kept w w' none := by
  obtain ⟨ys, ysc, yu, yuc, yd, ydc, X, r, t⟩ := Y
  have hk : Kept w (w.alloc (.cells #[.slice ys N.sites.length ysc, .slice yu N.subs.length yuc, .slice yd N.weds.length ydc, .int .i64 N.low, .int .i64 N.high, .int .i64 N.step] 26)) none := Kept.alloc _ _ _ _ _
  have HK := Hid.mk' hk
  have hnz : (N.step == 0) = false := by rw [beq_eq_false_iff_ne]; omega
  have hnz1 : ¬ N.step = 0 := by omega
  have hq0 : 0 ≤ (N.high - N.low) / N.step := Int.ediv_nonneg h1 (by omega)
  have hq1 : (N.high - N.low) / N.step ≤ N.high - N.low := Int.ediv_le_self _ h1
  have HD : Hid (IntKind.i64.wrap ((N.high - N.low).tdiv N.step) = (N.high - N.low) / N.step) := by
    show IntKind.i64.wrap ((N.high - N.low).tdiv N.step) = (N.high - N.low) / N.step
    rw [Int.tdiv_eq_ediv_of_nonneg h1, wrap_in (by omega) (by omega)]
  have hwr : IntKind.i64.wrap (N.high - N.low) = N.high - N.low := wrap_in (by omega) (by omega)
  clear hk hq0 hq1
  go_enter Tryd.func26, Tryd.ntmps26
  go_wp2
  go_ret
  exact ⟨ret_int (by first | exact HD.out | rfl), HK.out⟩

set_option maxRecDepth 100000 in
set_option maxHeartbeats 8000000 in
theorem cycles_net {w : World} {Y : Na} {N : Nt} (h : NetAt w Y N) (hn1 : 1 ≤ N.sites.length) (hn12 : N.sites.length ≤ 12) : Calls Tryd.prog 59 #[netV Y N] w fun e w' => e = .returned (.bool (ncyclesB N)) ∧ Kept w w' none := by
  obtain ⟨ys, ysc, yu, yuc, yd, ydc, X, r, t⟩ := Y
  obtain ⟨sb, so, es, _, _⟩ := h.s1.at_ (by omega)
  dsimp only at es
  subst es
  have hk : Kept w (w.alloc (.cells #[.slice (some ⟨sb, so, none⟩) N.sites.length ysc, .slice yu N.subs.length yuc, .slice yd N.weds.length ydc, .int .i64 N.low, .int .i64 N.high, .int .i64 N.step] 26)) none := Kept.alloc _ _ _ _ _
  have HK := Hid.mk' hk
  have HN := Hid.mk' (h.kept hk)
  have hcs : ∀ j v, #[.slice (some ⟨sb, so, none⟩) N.sites.length ysc, .slice yu N.subs.length yuc, .slice yd N.weds.length ydc, .int .i64 N.low, .int .i64 N.high, .int .i64 N.step][j]? = some v → ∀ w', Kept (w.alloc (.cells #[.slice (some ⟨sb, so, none⟩) N.sites.length ysc, .slice yu N.subs.length yuc, .slice yd N.weds.length ydc, .int .i64 N.low, .int .i64 N.high, .int .i64 N.step] 26)) w' none → w'.cell? ⟨w.heap.size, j, none⟩ = some v := fun j v hv w' q => cell_kept0 (by simp only [World.cell?_alloc_mark]; exact hv) q
  have HC : Hid (∀ w', Kept (w.alloc (.cells #[.slice (some ⟨sb, so, none⟩) N.sites.length ysc, .slice yu N.subs.length yuc, .slice yd N.weds.length ydc, .int .i64 N.low, .int .i64 N.high, .int .i64 N.step] 26)) w' none → w'.cell? ⟨w.heap.size, 0, none⟩ = some (.slice (some ⟨sb, so, none⟩) N.sites.length ysc) ∧ w'.cell? ⟨w.heap.size, 1, none⟩ = some (.slice yu N.subs.length yuc) ∧ w'.cell? ⟨w.heap.size, 2, none⟩ = some (.slice yd N.weds.length ydc) ∧ w'.cell? ⟨w.heap.size, 3, none⟩ = some (.int .i64 N.low) ∧ w'.cell? ⟨w.heap.size, 4, none⟩ = some (.int .i64 N.high) ∧ w'.cell? ⟨w.heap.size, 5, none⟩ = some (.int .i64 N.step)) := fun w' q => ⟨hcs 0 _ rfl w' q, hcs 1 _ rfl w' q, hcs 2 _ rfl w' q, hcs 3 _ rfl w' q, hcs 4 _ rfl w' q, hcs 5 _ rfl w' q⟩
  have HE0 : Hid (ncyclesB N = (timeB N.low && inB N.high N.low 1048576 && timeB N.step && decide ((N.high - N.low) % N.step = 0) && decide ((N.high - N.low) / N.step ≤ 64) && allB N.sites.length (fun i => decide ((N.sites.getD i s0).low ≤ N.low) && decide (N.high ≤ (N.sites.getD i s0).high)))) := rfl
  clear h hk hcs
  obtain ⟨n0, n1, n2, n3, n4, n5⟩ := HC.out _ (Kept.refl _ _)
  go_enter Tryd.func59, Tryd.ntmps59
  cases b1 : timeB N.low with
  | false =>
    go_wp2_with (first | (go_at_call 86; refine (nwithin_is (by assumption)).mono ?_; rintro e w9 ⟨rfl, rfl⟩) | (go_at_call 90; refine (ntime_is (by assumption)).mono ?_; rintro e w9 ⟨rfl, rfl⟩))
    go_ret
    exact ⟨by rw [HE0.out, b1]; rfl, HK.out⟩
  | true =>
  cases b2 : inB N.high N.low 1048576 with
  | false =>
    go_wp2_with (first | (go_at_call 86; refine (nwithin_is (by assumption)).mono ?_; rintro e w9 ⟨rfl, rfl⟩) | (go_at_call 90; refine (ntime_is (by assumption)).mono ?_; rintro e w9 ⟨rfl, rfl⟩))
    go_ret
    exact ⟨by rw [HE0.out, b1, b2]; rfl, HK.out⟩
  | true =>
  cases b3 : timeB N.step with
  | false =>
    go_wp2_with (first | (go_at_call 86; refine (nwithin_is (by assumption)).mono ?_; rintro e w9 ⟨rfl, rfl⟩) | (go_at_call 90; refine (ntime_is (by assumption)).mono ?_; rintro e w9 ⟨rfl, rfl⟩))
    go_ret
    exact ⟨by rw [HE0.out, b1, b2, b3]; rfl, HK.out⟩
  | true =>
  have hlo := inB_iff.1 (show inB N.low 1 1048576 = true from b1)
  have hhi := inB_iff.1 b2
  have hst := inB_iff.1 (show inB N.step 1 1048576 = true from b3)
  have hnz : (N.step == 0) = false := by rw [beq_eq_false_iff_ne]; omega
  have hnz1 : ¬ N.step = 0 := by omega
  have hwr : IntKind.i64.wrap (N.high - N.low) = N.high - N.low := wrap_in (by omega) (by omega)
  have htm : (N.high - N.low).tmod N.step = (N.high - N.low) % N.step := Int.tmod_eq_emod_of_nonneg (by omega)
  have HST : Hid (∀ w', Calls Tryd.prog 26 #[netV ⟨some ⟨sb, so, none⟩, ysc, yu, yuc, yd, ydc, X, r, t⟩ N] w' fun e w'' => e = .returned (.int .i64 ((N.high - N.low) / N.step)) ∧ Kept w' w'' none) := fun w' => steps_net (by omega) (by omega) (by omega)
  have HB : Hid (timeB N.low = true ∧ inB N.high N.low 1048576 = true ∧ timeB N.step = true) := ⟨b1, b2, b3⟩
  generalize hrm : (N.high - N.low) % N.step = RM at *
  generalize hqt : (N.high - N.low) / N.step = QT at *
  by_cases h4 : RM = 0
  case neg =>
    go_wp2_with (first | (go_at_call 86; refine (nwithin_is (by assumption)).mono ?_; rintro e w9 ⟨rfl, rfl⟩) | (go_at_call 90; refine (ntime_is (by assumption)).mono ?_; rintro e w9 ⟨rfl, rfl⟩))
    go_ret
    exact ⟨by rw [HE0.out, decide_eq_false h4]; simp, HK.out⟩
  by_cases h5 : QT ≤ 64
  case neg =>
    go_wp2_with (first | (go_at_call 26; refine (HST.out _).mono ?_; rintro e w4 ⟨rfl, hk4⟩) | (go_at_call 86; refine (nwithin_is (by assumption)).mono ?_; rintro e w9 ⟨rfl, rfl⟩) | (go_at_call 90; refine (ntime_is (by assumption)).mono ?_; rintro e w9 ⟨rfl, rfl⟩))
    go_ret
    exact ⟨by rw [HE0.out, decide_eq_false (show ¬ QT ≤ 64 by omega)]; simp, HK.out.tr hk4⟩
  go_wp2_with (first | (go_at_call 26; refine (HST.out _).mono ?_; rintro e w4 ⟨rfl, hk4⟩; clear n0 n1 n2 n3 n4 n5; obtain ⟨n0, n1, n2, n3, n4, n5⟩ := HC.out _ hk4) | (go_at_call 86; refine (nwithin_is (by assumption)).mono ?_; rintro e w9 ⟨rfl, rfl⟩) | (go_at_call 90; refine (ntime_is (by assumption)).mono ?_; rintro e w9 ⟨rfl, rfl⟩))
  generalize hW : (w.alloc (.cells #[.slice (some ⟨sb, so, none⟩) N.sites.length ysc, .slice yu N.subs.length yuc, .slice yd N.weds.length ydc, .int .i64 N.low, .int .i64 N.high, .int .i64 N.step] 26)) = W at *
  clear hW n0 n1 n2 n3 n4 n5
  go_loopw [40] (fun i wr => ∃ (k : Nat), k ≤ N.sites.length ∧ i = .int .i64 k ∧ Hid (∀ j, j < k → (decide ((N.sites.getD j s0).low ≤ N.low) && decide (N.high ≤ (N.sites.getD j s0).high)) = true) ∧ Kept W wr none) (fun i _ => N.sites.length - (intOf i).toNat)
  case atStart => exact ⟨0, Nat.zero_le _, rfl, (fun j hj => by omega), hk4⟩
  case round =>
    clear hk4
    obtain ⟨k, hk, rfl, HJ, hkr⟩ := hrel
    by_cases hlt : k < N.sites.length
    · obtain ⟨sb', so', es, _, hc⟩ := (HN.out.kept hkr).s1.at_ (by omega)
      dsimp only at es
      injection es with es
      injection es with es1 es2
      subst es1 es2
      have e0 := hc k hlt 0 (by omega)
      have e1 := hc k hlt 1 (by omega)
      have e2 := hc k hlt 2 (by omega)
      have e3 := hc k hlt 3 (by omega)
      have e4 := hc k hlt 4 (by omega)
      have e5 := hc k hlt 5 (by omega)
      have e6 := hc k hlt 6 (by omega)
      have e7 := hc k hlt 7 (by omega)
      have e8 := hc k hlt 8 (by omega)
      have e9 := hc k hlt 9 (by omega)
      have e10 := hc k hlt 10 (by omega)
      have e11 := hc k hlt 11 (by omega)
      have HNO : Hid ((decide ((N.sites.getD k s0).low ≤ N.low) && decide (N.high ≤ (N.sites.getD k s0).high)) = false → ncyclesB N = false) := fun q => by
        show ncyclesB N = false
        rw [HE0.out, allB_no hlt q]
        simp
      obtain ⟨S, hS⟩ : ∃ S, N.sites.getD k s0 = S := ⟨_, rfl⟩
      rw [hS] at e0 e1 e2 e3 e4 e5 e6 e7 e8 e9 e10 e11 HNO
      have HSE := Hid.mk' hS
      clear hS
      generalize X k = Xk at *
      obtain ⟨xg, xgc, xa, xac, xb, xbc, xp, xpc, xe, xec, xl, xlc⟩ := Xk
      dsimp only [stV, Nat.add_zero] at e0 e1 e2 e3 e4 e5 e6 e7 e8 e9 e10 e11
      have hkA : Kept wr (wr.alloc (.cells #[.int .i64 S.id, .slice xg S.groups.length xgc, .slice xa S.apart.length xac, .slice xb S.between.length xbc, .slice xp S.phases.length xpc, .slice xe S.eyes.length xec, .int .i64 S.watch, .int .i64 S.feed, .int .i64 S.heal, .int .i64 S.low, .int .i64 S.high, .slice xl S.plans.length xlc] 48)) none := Kept.alloc _ _ _ _ _
      obtain ⟨n0, n1, n2, n3, n4, n5⟩ := HC.out _ (hkr.tr hkA)
      obtain ⟨m0, m1, m2, m3, m4, m5⟩ := HC.out _ hkr
      have hwl : w.heap.size < wr.heap.size := block_lt m0
      have HKA := Hid.mk' (hkr.tr hkA)
      clear hc hkA
      by_cases hlo' : S.low ≤ N.low
      case neg =>
        have HE := Hid.mk' (HNO.out (by rw [decide_eq_false hlo']; rfl))
        have hlo2 : N.low < S.low := by omega
        clear HNO
        go_wp2
        go_ret
        exact ⟨by rw [HE.out]; rfl, HK.out.tr (hkr.tr (Kept.alloc _ _ _ _ _))⟩
      by_cases hhi' : N.high ≤ S.high
      case neg =>
        have HE := Hid.mk' (HNO.out (by rw [decide_eq_false hhi']; simp))
        have hhi2 : S.high < N.high := by omega
        clear HNO
        go_wp2
        go_ret
        exact ⟨by rw [HE.out]; rfl, HK.out.tr (hkr.tr (Kept.alloc _ _ _ _ _))⟩
      clear HNO
      go_wp2
      go_roundw
      case rel => exact ⟨k + 1, by omega, by go_num, (fun j hj => (by
        by_cases e : j = k
        · rw [e, HSE.out, decide_eq_true hlo', decide_eq_true hhi']; rfl
        · exact HJ.out j (by omega))), hkr.tr (Kept.alloc _ _ _ _ _)⟩
      case measure => simp [intOf]; omega
    · have e : k = N.sites.length := by omega
      subst e
      have HE : Hid (ncyclesB N = true) := by
        show ncyclesB N = true
        rw [HE0.out, HB.out.1, HB.out.2.1, HB.out.2.2, decide_eq_true h4, decide_eq_true h5, allB_iff.2 HJ.out]
        rfl
      go_wp2
      go_ret
      exact ⟨by rw [HE.out]; rfl, HK.out.tr hkr⟩

end Go.Proofs.YtoahbpdgbiachaaDoor

/-
  THE CONTRACT of wedsHold.
-/
namespace Go.Proofs.YtoahbpdgbiachaaDoor
open Go.RowKit Go.Lib Go.Deep Go.Maps
set_option linter.unusedVariables false
set_option linter.unusedSimpArgs false

set_option maxRecDepth 100000 in
set_option maxHeartbeats 8000000 in
theorem weds_net {w : World} {B : Nat} {Y : Na} {N : Nt} {M : Ms} (h : Far w B Y N) (hM : Marks w B M) (hl : M.length ≤ 500) (hd8 : N.weds.length ≤ 8) (hs6 : N.subs.length ≤ 6) (hlo : 1 ≤ N.low ∧ N.low ≤ 1048576) : Calls Tryd.prog 60 #[netV Y N, .map (some B)] w fun e w' => HoldP (wedsF N M N.weds.length) w B e w' := by
  obtain ⟨ys, ysc, yu, yuc, yd, ydc, X, r, t⟩ := Y
  have hk : Kept w (w.alloc (.cells #[.slice ys N.sites.length ysc, .slice yu N.subs.length yuc, .slice yd N.weds.length ydc, .int .i64 N.low, .int .i64 N.high, .int .i64 N.step] 26)) none := Kept.alloc _ _ _ _ _
  have HK := Hid.mk' (kept_any (r := some B) hk)
  have HF := Hid.mk' (h.kept (kept_any hk))
  have HM := Hid.mk' (hM.kept hk (by simp))
  have hBn := hM.lt
  have hcs : ∀ j v, #[.slice ys N.sites.length ysc, .slice yu N.subs.length yuc, .slice yd N.weds.length ydc, .int .i64 N.low, .int .i64 N.high, .int .i64 N.step][j]? = some v → ∀ w', Kept (w.alloc (.cells #[.slice ys N.sites.length ysc, .slice yu N.subs.length yuc, .slice yd N.weds.length ydc, .int .i64 N.low, .int .i64 N.high, .int .i64 N.step] 26)) w' (some B) → w'.cell? ⟨w.heap.size, j, none⟩ = some v := fun j v hv w' q => (World.cell?_of_block (w := (w.alloc (.cells #[.slice ys N.sites.length ysc, .slice yu N.subs.length yuc, .slice yd N.weds.length ydc, .int .i64 N.low, .int .i64 N.high, .int .i64 N.step] 26))) (a := ⟨w.heap.size, j, none⟩) (q.block w.heap.size (by simp) (fun e => by injection e with e; omega))).trans (by simp only [World.cell?_alloc_mark]; exact hv)
  have HC : Hid (∀ w', Kept (w.alloc (.cells #[.slice ys N.sites.length ysc, .slice yu N.subs.length yuc, .slice yd N.weds.length ydc, .int .i64 N.low, .int .i64 N.high, .int .i64 N.step] 26)) w' (some B) → w'.cell? ⟨w.heap.size, 0, none⟩ = some (.slice ys N.sites.length ysc) ∧ w'.cell? ⟨w.heap.size, 1, none⟩ = some (.slice yu N.subs.length yuc) ∧ w'.cell? ⟨w.heap.size, 2, none⟩ = some (.slice yd N.weds.length ydc) ∧ w'.cell? ⟨w.heap.size, 3, none⟩ = some (.int .i64 N.low) ∧ w'.cell? ⟨w.heap.size, 4, none⟩ = some (.int .i64 N.high) ∧ w'.cell? ⟨w.heap.size, 5, none⟩ = some (.int .i64 N.step)) := fun w' q => ⟨hcs 0 _ rfl w' q, hcs 1 _ rfl w' q, hcs 2 _ rfl w' q, hcs 3 _ rfl w' q, hcs 4 _ rfl w' q, hcs 5 _ rfl w' q⟩
  clear h hM hk hcs
  go_enter Tryd.func60, Tryd.ntmps60
  go_wp2
  generalize hW : (w.alloc (.cells #[.slice ys N.sites.length ysc, .slice yu N.subs.length yuc, .slice yd N.weds.length ydc, .int .i64 N.low, .int .i64 N.high, .int .i64 N.step] 26)) = W at *
  clear hW
  go_loopw [10] (fun i wr => ∃ (k : Nat) (M' : Ms), k ≤ N.weds.length ∧ i = .int .i64 k ∧ Hid (wedsF N M k = some M') ∧ M'.length ≤ 500 + k ∧ Hid (Marks wr B M') ∧ Hid (Kept W wr (some B))) (fun i _ => N.weds.length - (intOf i).toNat)
  case atStart => exact ⟨0, M, Nat.zero_le _, rfl, rfl, by omega, HM, Kept.refl _ _⟩
  case round =>
    clear HM
    obtain ⟨k, M', hk, rfl, HS, hml0, HMr, KR⟩ := hrel
    by_cases hlt : k < N.weds.length
    · obtain ⟨db, do_, ed, _, hc⟩ := (HF.out.net _ KR.out).d1.at_ (by omega)
      dsimp only at ed
      subst ed
      have e0 : wr.cell? ⟨db, do_ + k * 4, none⟩ = some (.int .i64 (N.weds.getD k d0).a) := hc k hlt 0 (by omega)
      have e1 : wr.cell? ⟨db, do_ + k * 4 + 1, none⟩ = some (.int .i64 (N.weds.getD k d0).b) := hc k hlt 1 (by omega)
      have e2 : wr.cell? ⟨db, do_ + k * 4 + 2, none⟩ = some (.int .i64 (N.weds.getD k d0).votes) := hc k hlt 2 (by omega)
      have e3 : wr.cell? ⟨db, do_ + k * 4 + 3, none⟩ = some (.slice (t k).1 (N.weds.getD k d0).offsets.length (t k).2) := hc k hlt 3 (by omega)
      have hdr := (HF.out.net _ KR.out).dr _ (getD_mem (d := d0) hlt)
      have HIT : Hid (∀ w', Kept W w' (some B) → Ints w' (t k).1 (N.weds.getD k d0).offsets.length (t k).2 (N.weds.getD k d0).offsets) := fun w' q => (HF.out.net w' q).d2 k hlt
      have HNX : Hid (wedsF N M (k + 1) = none → wedsF N M N.weds.length = none) := fun q => wedsF_none q _ (by omega)
      have HRec : Hid (wedsF N M (k + 1) = if (inB (N.weds.getD k d0).a 0 ((N.subs.length : Int) - 1) && inB (N.weds.getD k d0).b ((N.weds.getD k d0).a + 1) ((N.subs.length : Int) - 1)) = true then (match putF M' (2, (N.weds.getD k d0).a, (N.weds.getD k d0).b) k with
        | none => none
        | some M'' => if (timeB (N.weds.getD k d0).votes && offsetsB N (N.weds.getD k d0).offsets) = true then some M'' else none) else none) := by
        show wedsF N M (k + 1) = _
        rw [wedsF, HS.out]
        all_goals (simp only; split <;> first | rfl | (cases putF M' (2, (N.weds.getD k d0).a, (N.weds.getD k d0).b) k <;> rfl))
      generalize N.weds.getD k d0 = D at *
      generalize t k = tp at *
      obtain ⟨ta, tc⟩ := tp
      dsimp only at *
      have hkA : Kept wr (wr.alloc (.cells #[.int .i64 D.a, .int .i64 D.b, .int .i64 D.votes, .slice ta D.offsets.length tc] 40)) none := Kept.alloc _ _ _ _ _
      have HKA := Hid.mk' (KR.out.tr (kept_any hkA))
      have HMA := Hid.mk' (HMr.out.kept hkA (by simp))
      have hBr := HMr.out.lt
      have hds : ∀ j v, #[.int .i64 D.a, .int .i64 D.b, .int .i64 D.votes, .slice ta D.offsets.length tc][j]? = some v → ∀ w', Kept (wr.alloc (.cells #[.int .i64 D.a, .int .i64 D.b, .int .i64 D.votes, .slice ta D.offsets.length tc] 40)) w' (some B) → w'.cell? ⟨wr.heap.size, j, none⟩ = some v := fun j v hv w' q => (World.cell?_of_block (w := (wr.alloc (.cells #[.int .i64 D.a, .int .i64 D.b, .int .i64 D.votes, .slice ta D.offsets.length tc] 40))) (a := ⟨wr.heap.size, j, none⟩) (q.block wr.heap.size (by simp) (fun e => by injection e with e; omega))).trans (by simp only [World.cell?_alloc_mark]; exact hv)
      have HD : Hid (∀ w', Kept (wr.alloc (.cells #[.int .i64 D.a, .int .i64 D.b, .int .i64 D.votes, .slice ta D.offsets.length tc] 40)) w' (some B) → w'.cell? ⟨wr.heap.size, 0, none⟩ = some (.int .i64 D.a) ∧ w'.cell? ⟨wr.heap.size, 1, none⟩ = some (.int .i64 D.b) ∧ w'.cell? ⟨wr.heap.size, 2, none⟩ = some (.int .i64 D.votes) ∧ w'.cell? ⟨wr.heap.size, 3, none⟩ = some (.slice ta D.offsets.length tc)) := fun w' q => ⟨hds 0 _ rfl w' q, hds 1 _ rfl w' q, hds 2 _ rfl w' q, hds 3 _ rfl w' q⟩
      have HI : Hid (∀ w', Kept (wr.alloc (.cells #[.int .i64 D.a, .int .i64 D.b, .int .i64 D.votes, .slice ta D.offsets.length tc] 40)) w' (some B) → Ints w' ta D.offsets.length tc D.offsets) := fun w' q => HIT.out w' (HKA.out.tr q)
      obtain ⟨n0, n1, n2, n3, n4, n5⟩ := HC.out _ KR.out
      obtain ⟨m0, m1, m2, m3, m4, m5⟩ := HC.out _ HKA.out
      obtain ⟨d0, d1, d2, d3⟩ := HD.out _ (Kept.refl _ _)
      have hwl : w.heap.size < wr.heap.size := block_lt n0
      have hmk : mkR (2, D.a, D.b) := ⟨by show i64B 2; unfold i64B; omega, hdr.1, hdr.2.1⟩
      have hpl : i64B (k : Int) := by unfold i64B; omega
      have hml : M'.length ≤ 1000 := by omega
      have hwr : IntKind.i64.wrap ((N.subs.length : Int) - 1) = (N.subs.length : Int) - 1 := wrap_in (by omega) (by omega)
      clear hc hkA hds HMr HS HIT hdr
      cases b1 : inB D.a 0 ((N.subs.length : Int) - 1) with
      | false =>
        have HE := Hid.mk' (HNX.out (by rw [HRec.out, b1]; rfl))
        go_wp2_with (go_at_call 86; refine (nwithin_is (by assumption)).mono ?_; rintro e w9 ⟨rfl, rfl⟩)
        go_ret
        exact HoldP.no HE.out (HK.out.tr (HKA.out))
      | true =>
      have hab := inB_iff.1 b1
      have hwa : IntKind.i64.wrap (D.a + 1) = D.a + 1 := wrap_in (by omega) (by omega)
      cases b2 : inB D.b (D.a + 1) ((N.subs.length : Int) - 1) with
      | false =>
        have HE := Hid.mk' (HNX.out (by rw [HRec.out, b1, b2]; rfl))
        go_wp2_with (go_at_call 86; refine (nwithin_is (by assumption)).mono ?_; rintro e w9 ⟨rfl, rfl⟩)
        go_ret
        exact HoldP.no HE.out (HK.out.tr (HKA.out))
      | true =>
      cases hf : mkF M' (2, D.a, D.b) with
      | some v =>
        have HE := Hid.mk' (HNX.out (by rw [HRec.out, b1, b2, putF_old hf]; rfl))
        go_wp2_with (first | (go_at_call 87; refine (isFirst_old HMA.out hmk _ v hf).mono ?_; rintro e w4 ⟨rfl, hk4⟩) | (go_at_call 86; refine (nwithin_is (by assumption)).mono ?_; rintro e w9 ⟨rfl, rfl⟩))
        go_ret
        exact HoldP.no HE.out (HK.out.tr (HKA.out.tr (kept_any hk4)))
      | none =>
      cases b3 : timeB D.votes with
      | false =>
        have HE := Hid.mk' (HNX.out (by rw [HRec.out, b1, b2, putF_new hf, b3]; rfl))
        go_wp2_with (first | (go_at_call 87; refine (isFirst_new HMA.out hmk _ hpl hml hf).mono ?_; rintro e w4 ⟨rfl, hm4, hk4⟩; clear m0 m1 m2 m3 m4 m5 d0 d1 d2 d3; obtain ⟨m0, m1, m2, m3, m4, m5⟩ := HC.out _ (HKA.out.tr hk4); obtain ⟨d0, d1, d2, d3⟩ := HD.out _ hk4) | (go_at_call 90; refine (ntime_is (by assumption)).mono ?_; rintro e w9 ⟨rfl, rfl⟩) | (go_at_call 86; refine (nwithin_is (by assumption)).mono ?_; rintro e w9 ⟨rfl, rfl⟩))
        go_ret
        exact HoldP.no HE.out (HK.out.tr (HKA.out.tr hk4))
      | true =>
      cases hof : offsetsB N D.offsets with
      | false =>
        have HE := Hid.mk' (HNX.out (by rw [HRec.out, b1, b2, putF_new hf, b3, hof]; rfl))
        go_wp2_with (first | (go_at_call 91; have hn := offsets_net (Y := ⟨ys, ysc, yu, yuc, some ⟨db, do_, none⟩, ydc, X, r, t⟩) (N := N) (HI.out _ hk4) hlo; rw [hof] at hn; refine hn.mono ?_; rintro e w5 ⟨rfl, hk5⟩) | (go_at_call 87; refine (isFirst_new HMA.out hmk _ hpl hml hf).mono ?_; rintro e w4 ⟨rfl, hm4, hk4⟩; clear m0 m1 m2 m3 m4 m5 d0 d1 d2 d3; obtain ⟨m0, m1, m2, m3, m4, m5⟩ := HC.out _ (HKA.out.tr hk4); obtain ⟨d0, d1, d2, d3⟩ := HD.out _ hk4) | (go_at_call 90; refine (ntime_is (by assumption)).mono ?_; rintro e w9 ⟨rfl, rfl⟩) | (go_at_call 86; refine (nwithin_is (by assumption)).mono ?_; rintro e w9 ⟨rfl, rfl⟩))
        go_ret
        exact HoldP.no HE.out (HK.out.tr (HKA.out.tr (hk4.tr (kept_any hk5))))
      | true =>
        have HE : Hid (wedsF N M (k + 1) = some (((2, D.a, D.b), (k : Int)) :: M')) := by
          show wedsF N M (k + 1) = _
          rw [HRec.out, b1, b2, putF_new hf, b3, hof]
          rfl
        go_wp2_with (first | (go_at_call 91; have hn := offsets_net (Y := ⟨ys, ysc, yu, yuc, some ⟨db, do_, none⟩, ydc, X, r, t⟩) (N := N) (HI.out _ hk4) hlo; rw [hof] at hn; refine hn.mono ?_; rintro e w5 ⟨rfl, hk5⟩) | (go_at_call 87; refine (isFirst_new HMA.out hmk _ hpl hml hf).mono ?_; rintro e w4 ⟨rfl, hm4, hk4⟩; clear m0 m1 m2 m3 m4 m5 d0 d1 d2 d3; obtain ⟨m0, m1, m2, m3, m4, m5⟩ := HC.out _ (HKA.out.tr hk4); obtain ⟨d0, d1, d2, d3⟩ := HD.out _ hk4) | (go_at_call 90; refine (ntime_is (by assumption)).mono ?_; rintro e w9 ⟨rfl, rfl⟩) | (go_at_call 86; refine (nwithin_is (by assumption)).mono ?_; rintro e w9 ⟨rfl, rfl⟩))
        go_roundw
        case rel => exact ⟨k + 1, _, by omega, by go_num, HE, (by simp; omega), hm4.kept hk5 (by simp), HKA.out.tr (hk4.tr (kept_any hk5))⟩
        case measure => simp [intOf]; omega
    · have e : k = N.weds.length := by omega
      subst e
      go_wp2
      go_ret
      exact HoldP.yes HS.out HMr.out (HK.out.tr KR.out)

end Go.Proofs.YtoahbpdgbiachaaDoor

/-
  THE CONTRACTS of look, Check, find, Sub, Site.
-/
namespace Go.Proofs.YtoahbpdgbiachaaDoor
open Go.RowKit Go.Lib Go.Deep Go.Maps
set_option linter.unusedVariables false
set_option linter.unusedSimpArgs false

def LookP (r : Option Ms) (w : World) (e : Ending) (w' : World) : Prop := match r with
  | none => e = .returned (.tuple #[.map none, .int .i64 60]) ∧ Kept w w' none
  | some M => ∃ B, e = .returned (.tuple #[.map (some B), .int .i64 0]) ∧ Marks w' B M ∧ Kept w w' none
theorem LookP.no {r : Option Ms} {w w' : World} (h : r = none) (k : Kept w w' none) : LookP r w (.returned (.tuple #[.map none, .int .i64 60])) w' := by subst h; exact ⟨rfl, k⟩
theorem LookP.yes {r : Option Ms} {M : Ms} {w w' : World} {B : Nat} (h : r = some M) (m : Marks w' B M) (k : Kept w w' none) : LookP r w (.returned (.tuple #[.map (some B), .int .i64 0])) w' := by subst h; exact ⟨B, rfl, m, k⟩
theorem sitesF_len {N : Nt} : ∀ k M, sitesF N k = some M → M.length = k
  | 0, M, h => by injection h with h; subst h; rfl
  | k + 1, M, h => by
    rw [sitesF] at h
    cases h1 : sitesF N k with
    | none => rw [h1] at h; cases h
    | some M1 =>
      rw [h1] at h
      simp only at h
      split at h
      · unfold putF at h
        split at h
        · cases h
        · injection h with h
          subst h
          simp [sitesF_len k M1 h1]
      · cases h
theorem Kept.allocMap (w : World) (r : Option Nat) : Kept w (w.alloc (.map #[] 0)) r := ⟨rfl, rfl, rfl, by simp, fun k hk _ => Below.heap_alloc _ _ _ hk⟩
theorem lookF_eq (N : Nt) : lookF N = if ncountsB N = true then (match sitesF N N.sites.length with
    | none => none
    | some M => match subsP N M with
      | none => none
      | some M' => if ncyclesB N = true then wedsF N M' N.weds.length else none) else none := by
  unfold lookF
  split
  · cases h1 : sitesF N N.sites.length with
    | none => rfl
    | some M =>
      simp only [subsP]
      cases h2 : subsF N M N.subs.length with
      | none => rfl
      | some M' =>
        simp only
        cases h3 : placedB N M' <;> cases h4 : ncyclesB N <;> simp
  · rfl
set_option maxRecDepth 100000 in
set_option maxHeartbeats 8000000 in
theorem look_net {w : World} {Y : Na} {N : Nt} (h : NetAt w Y N) (hT : Tabb w) : Calls Tryd.prog 34 #[netV Y N] w fun e w' => LookP (lookF N) w e w' := by
  obtain ⟨ys, ysc, yu, yuc, yd, ydc, X, r, t⟩ := Y
  have hmm := @run_makeMap Tryd.prog
  have hk : Kept w (w.alloc (.cells #[.slice ys N.sites.length ysc, .slice yu N.subs.length yuc, .slice yd N.weds.length ydc, .int .i64 N.low, .int .i64 N.high, .int .i64 N.step] 26)) none := Kept.alloc _ _ _ _ _
  have hkm : Kept (w.alloc (.cells #[.slice ys N.sites.length ysc, .slice yu N.subs.length yuc, .slice yd N.weds.length ydc, .int .i64 N.low, .int .i64 N.high, .int .i64 N.step] 26)) ((w.alloc (.cells #[.slice ys N.sites.length ysc, .slice yu N.subs.length yuc, .slice yd N.weds.length ydc, .int .i64 N.low, .int .i64 N.high, .int .i64 N.step] 26)).alloc (.map #[] 0)) none := Kept.allocMap _ _
  have hsz : (w.alloc (.cells #[.slice ys N.sites.length ysc, .slice yu N.subs.length yuc, .slice yd N.weds.length ydc, .int .i64 N.low, .int .i64 N.high, .int .i64 N.step] 26)).heap.size = w.heap.size + 1 := by simp
  have HM : Hid (Marks ((w.alloc (.cells #[.slice ys N.sites.length ysc, .slice yu N.subs.length yuc, .slice yd N.weds.length ydc, .int .i64 N.low, .int .i64 N.high, .int .i64 N.step] 26)).alloc (.map #[] 0)) (w.heap.size + 1) []) := by
    have := Marks.made (w.alloc (.cells #[.slice ys N.sites.length ysc, .slice yu N.subs.length yuc, .slice yd N.weds.length ydc, .int .i64 N.low, .int .i64 N.high, .int .i64 N.step] 26))
    rw [hsz] at this
    exact this
  have HK := Hid.mk' (hk.tr hkm)
  have HN := Hid.mk' (h.kept (hk.tr hkm))
  have HF : Hid (Far ((w.alloc (.cells #[.slice ys N.sites.length ysc, .slice yu N.subs.length yuc, .slice yd N.weds.length ydc, .int .i64 N.low, .int .i64 N.high, .int .i64 N.step] 26)).alloc (.map #[] 0)) (w.heap.size + 1) ⟨ys, ysc, yu, yuc, yd, ydc, X, r, t⟩ N) := ⟨fun w' q => h.kept ((hk.tr hkm).newRow q (fun i hi => by injection hi with hi; omega)), fun w' q => hT.kept ((hk.tr hkm).newRow q (fun i hi => by injection hi with hi; omega))⟩
  have hcs : ∀ j v, #[.slice ys N.sites.length ysc, .slice yu N.subs.length yuc, .slice yd N.weds.length ydc, .int .i64 N.low, .int .i64 N.high, .int .i64 N.step][j]? = some v → ∀ w', Kept ((w.alloc (.cells #[.slice ys N.sites.length ysc, .slice yu N.subs.length yuc, .slice yd N.weds.length ydc, .int .i64 N.low, .int .i64 N.high, .int .i64 N.step] 26)).alloc (.map #[] 0)) w' (some (w.heap.size + 1)) → w'.cell? ⟨w.heap.size, j, none⟩ = some v := fun j v hv w' q => (World.cell?_of_block (w := ((w.alloc (.cells #[.slice ys N.sites.length ysc, .slice yu N.subs.length yuc, .slice yd N.weds.length ydc, .int .i64 N.low, .int .i64 N.high, .int .i64 N.step] 26)).alloc (.map #[] 0))) (a := ⟨w.heap.size, j, none⟩) (q.block w.heap.size (by simp; omega) (fun e => by injection e with e; omega))).trans (cell_kept0 (by simp only [World.cell?_alloc_mark]; exact hv) hkm)
  have HC : Hid (∀ w', Kept ((w.alloc (.cells #[.slice ys N.sites.length ysc, .slice yu N.subs.length yuc, .slice yd N.weds.length ydc, .int .i64 N.low, .int .i64 N.high, .int .i64 N.step] 26)).alloc (.map #[] 0)) w' (some (w.heap.size + 1)) → w'.cell? ⟨w.heap.size, 0, none⟩ = some (.slice ys N.sites.length ysc) ∧ w'.cell? ⟨w.heap.size, 1, none⟩ = some (.slice yu N.subs.length yuc) ∧ w'.cell? ⟨w.heap.size, 2, none⟩ = some (.slice yd N.weds.length ydc) ∧ w'.cell? ⟨w.heap.size, 3, none⟩ = some (.int .i64 N.low) ∧ w'.cell? ⟨w.heap.size, 4, none⟩ = some (.int .i64 N.high) ∧ w'.cell? ⟨w.heap.size, 5, none⟩ = some (.int .i64 N.step)) := fun w' q => ⟨hcs 0 _ rfl w' q, hcs 1 _ rfl w' q, hcs 2 _ rfl w' q, hcs 3 _ rfl w' q, hcs 4 _ rfl w' q, hcs 5 _ rfl w' q⟩
  obtain ⟨m0, m1, m2, m3, m4, m5⟩ := HC.out _ (Kept.refl _ _)
  have HE0 := Hid.mk' (lookF_eq N)
  clear h hT hk hkm hcs
  go_enter Tryd.func34, Tryd.ntmps34
  cases b1 : ncountsB N with
  | false =>
    have HE : Hid (lookF N = none) := by show lookF N = none; rw [HE0.out, b1]; rfl
    go_wp2_with (go_at_call 56; have hn := counts_net HN.out; rw [b1] at hn; refine hn.mono ?_; rintro e w3 ⟨rfl, hk3⟩; clear m0 m1 m2 m3 m4 m5; obtain ⟨m0, m1, m2, m3, m4, m5⟩ := HC.out _ (kept_any hk3))
    go_ret2
    exact LookP.no HE.out (HK.out.tr hk3)
  | true =>
  have hb1 := b1
  unfold ncountsB at hb1
  rw [Bool.and_eq_true, Bool.and_eq_true, inB_iff, inB_iff, decide_eq_true_iff] at hb1
  obtain ⟨⟨⟨hn1, hn12⟩, hs1, hs6⟩, hd8⟩ := hb1
  have hn1 : 1 ≤ N.sites.length := by omega
  have hn12 : N.sites.length ≤ 12 := by omega
  have hs1 : 1 ≤ N.subs.length := by omega
  have hs6 : N.subs.length ≤ 6 := by omega
  cases b2 : sitesF N N.sites.length with
  | none =>
    have HE : Hid (lookF N = none) := by show lookF N = none; rw [HE0.out, b1, b2]; rfl
    go_wp2_with (first | (go_at_call 57; have hn := sites_net (HF.out.kept (kept_any hk3)) (HM.out.kept hk3 (by simp)) hn12; rw [b2] at hn; refine hn.mono ?_; rintro e w4 ⟨rfl, hk4⟩; clear m0 m1 m2 m3 m4 m5; obtain ⟨m0, m1, m2, m3, m4, m5⟩ := HC.out _ ((kept_any hk3).tr hk4)) | (go_at_call 56; have hn := counts_net HN.out; rw [b1] at hn; refine hn.mono ?_; rintro e w3 ⟨rfl, hk3⟩; clear m0 m1 m2 m3 m4 m5; obtain ⟨m0, m1, m2, m3, m4, m5⟩ := HC.out _ (kept_any hk3)))
    go_ret2
    exact LookP.no HE.out (HK.out.newRow ((kept_any hk3).tr hk4) (fun i hi => by injection hi with hi; omega))
  | some M1 =>
  have hml1 : M1.length ≤ 100 := by have := sitesF_len _ _ b2; omega
  cases b3 : subsP N M1 with
  | none =>
    have HE : Hid (lookF N = none) := by show lookF N = none; rw [HE0.out, b1, b2]; simp [b3]
    go_wp2_with (first | (go_at_call 58; have hn := subs_net (HF.out.kept ((kept_any hk3).tr hk4)) hm4 hn12 hml1 hs1; rw [b3] at hn; refine hn.mono ?_; rintro e w5 ⟨rfl, hk5⟩; clear m0 m1 m2 m3 m4 m5; obtain ⟨m0, m1, m2, m3, m4, m5⟩ := HC.out _ ((kept_any hk3).tr (hk4.tr hk5))) | (go_at_call 57; have hn := sites_net (HF.out.kept (kept_any hk3)) (HM.out.kept hk3 (by simp)) hn12; rw [b2] at hn; refine hn.mono ?_; rintro e w4 ⟨rfl, hm4, hk4⟩; clear m0 m1 m2 m3 m4 m5; obtain ⟨m0, m1, m2, m3, m4, m5⟩ := HC.out _ ((kept_any hk3).tr hk4)) | (go_at_call 56; have hn := counts_net HN.out; rw [b1] at hn; refine hn.mono ?_; rintro e w3 ⟨rfl, hk3⟩; clear m0 m1 m2 m3 m4 m5; obtain ⟨m0, m1, m2, m3, m4, m5⟩ := HC.out _ (kept_any hk3)))
    go_ret2
    exact LookP.no HE.out (HK.out.newRow ((kept_any hk3).tr (hk4.tr hk5)) (fun i hi => by injection hi with hi; omega))
  | some M2 =>
  have hml2 : M2.length ≤ 500 := by
    unfold subsP at b3
    cases h1 : subsF N M1 N.subs.length with
    | none => rw [h1] at b3; cases b3
    | some M' =>
      rw [h1] at b3
      simp only at b3
      split at b3
      · injection b3 with b3
        subst b3
        have h2 := subsF_many _ _ h1
        have h3 := manyP_le N M'
        omega
      · cases b3
  cases b4 : ncyclesB N with
  | false =>
    have HE : Hid (lookF N = none) := by show lookF N = none; rw [HE0.out, b1, b2]; simp [b3, b4]
    go_wp2_with (first | (go_at_call 59; have hn := cycles_net (HF.out.net _ ((kept_any hk3).tr (hk4.tr hk5))) hn1 hn12; rw [b4] at hn; refine hn.mono ?_; rintro e w6 ⟨rfl, hk6⟩; clear m0 m1 m2 m3 m4 m5; obtain ⟨m0, m1, m2, m3, m4, m5⟩ := HC.out _ ((kept_any hk3).tr (hk4.tr (hk5.tr (kept_any hk6))))) | (go_at_call 58; have hn := subs_net (HF.out.kept ((kept_any hk3).tr hk4)) hm4 hn12 hml1 hs1; rw [b3] at hn; refine hn.mono ?_; rintro e w5 ⟨rfl, hm5, hk5⟩; clear m0 m1 m2 m3 m4 m5; obtain ⟨m0, m1, m2, m3, m4, m5⟩ := HC.out _ ((kept_any hk3).tr (hk4.tr hk5))) | (go_at_call 57; have hn := sites_net (HF.out.kept (kept_any hk3)) (HM.out.kept hk3 (by simp)) hn12; rw [b2] at hn; refine hn.mono ?_; rintro e w4 ⟨rfl, hm4, hk4⟩; clear m0 m1 m2 m3 m4 m5; obtain ⟨m0, m1, m2, m3, m4, m5⟩ := HC.out _ ((kept_any hk3).tr hk4)) | (go_at_call 56; have hn := counts_net HN.out; rw [b1] at hn; refine hn.mono ?_; rintro e w3 ⟨rfl, hk3⟩; clear m0 m1 m2 m3 m4 m5; obtain ⟨m0, m1, m2, m3, m4, m5⟩ := HC.out _ (kept_any hk3)))
    go_ret2
    exact LookP.no HE.out (HK.out.newRow ((kept_any hk3).tr (hk4.tr (hk5.tr (kept_any hk6)))) (fun i hi => by injection hi with hi; omega))
  | true =>
  have hlo : 1 ≤ N.low ∧ N.low ≤ 1048576 := by
    have h1 := b4
    unfold ncyclesB at h1
    simp only [Bool.and_eq_true] at h1
    exact inB_iff.1 (show inB N.low 1 1048576 = true from h1.1.1.1.1.1)
  cases b5 : wedsF N M2 N.weds.length with
  | none =>
    have HE : Hid (lookF N = none) := by show lookF N = none; rw [HE0.out, b1, b2]; simp [b3, b4, b5]
    go_wp2_with (first | (go_at_call 60; have hn := weds_net (HF.out.kept ((kept_any hk3).tr (hk4.tr (hk5.tr (kept_any hk6))))) (hm5.kept hk6 (by simp)) hml2 hd8 hs6 hlo; rw [b5] at hn; refine hn.mono ?_; rintro e w7 ⟨rfl, hk7⟩) | (go_at_call 59; have hn := cycles_net (HF.out.net _ ((kept_any hk3).tr (hk4.tr hk5))) hn1 hn12; rw [b4] at hn; refine hn.mono ?_; rintro e w6 ⟨rfl, hk6⟩; clear m0 m1 m2 m3 m4 m5; obtain ⟨m0, m1, m2, m3, m4, m5⟩ := HC.out _ ((kept_any hk3).tr (hk4.tr (hk5.tr (kept_any hk6))))) | (go_at_call 58; have hn := subs_net (HF.out.kept ((kept_any hk3).tr hk4)) hm4 hn12 hml1 hs1; rw [b3] at hn; refine hn.mono ?_; rintro e w5 ⟨rfl, hm5, hk5⟩; clear m0 m1 m2 m3 m4 m5; obtain ⟨m0, m1, m2, m3, m4, m5⟩ := HC.out _ ((kept_any hk3).tr (hk4.tr hk5))) | (go_at_call 57; have hn := sites_net (HF.out.kept (kept_any hk3)) (HM.out.kept hk3 (by simp)) hn12; rw [b2] at hn; refine hn.mono ?_; rintro e w4 ⟨rfl, hm4, hk4⟩; clear m0 m1 m2 m3 m4 m5; obtain ⟨m0, m1, m2, m3, m4, m5⟩ := HC.out _ ((kept_any hk3).tr hk4)) | (go_at_call 56; have hn := counts_net HN.out; rw [b1] at hn; refine hn.mono ?_; rintro e w3 ⟨rfl, hk3⟩; clear m0 m1 m2 m3 m4 m5; obtain ⟨m0, m1, m2, m3, m4, m5⟩ := HC.out _ (kept_any hk3)))
    go_ret2
    exact LookP.no HE.out (HK.out.newRow (((kept_any hk3).tr (hk4.tr (hk5.tr (kept_any hk6)))).tr hk7) (fun i hi => by injection hi with hi; omega))
  | some M3 =>
    have HE : Hid (lookF N = some M3) := by show lookF N = some M3; rw [HE0.out, b1, b2]; simp [b3, b4, b5]
    go_wp2_with (first | (go_at_call 60; have hn := weds_net (HF.out.kept ((kept_any hk3).tr (hk4.tr (hk5.tr (kept_any hk6))))) (hm5.kept hk6 (by simp)) hml2 hd8 hs6 hlo; rw [b5] at hn; refine hn.mono ?_; rintro e w7 ⟨rfl, hm7, hk7⟩) | (go_at_call 59; have hn := cycles_net (HF.out.net _ ((kept_any hk3).tr (hk4.tr hk5))) hn1 hn12; rw [b4] at hn; refine hn.mono ?_; rintro e w6 ⟨rfl, hk6⟩; clear m0 m1 m2 m3 m4 m5; obtain ⟨m0, m1, m2, m3, m4, m5⟩ := HC.out _ ((kept_any hk3).tr (hk4.tr (hk5.tr (kept_any hk6))))) | (go_at_call 58; have hn := subs_net (HF.out.kept ((kept_any hk3).tr hk4)) hm4 hn12 hml1 hs1; rw [b3] at hn; refine hn.mono ?_; rintro e w5 ⟨rfl, hm5, hk5⟩; clear m0 m1 m2 m3 m4 m5; obtain ⟨m0, m1, m2, m3, m4, m5⟩ := HC.out _ ((kept_any hk3).tr (hk4.tr hk5))) | (go_at_call 57; have hn := sites_net (HF.out.kept (kept_any hk3)) (HM.out.kept hk3 (by simp)) hn12; rw [b2] at hn; refine hn.mono ?_; rintro e w4 ⟨rfl, hm4, hk4⟩; clear m0 m1 m2 m3 m4 m5; obtain ⟨m0, m1, m2, m3, m4, m5⟩ := HC.out _ ((kept_any hk3).tr hk4)) | (go_at_call 56; have hn := counts_net HN.out; rw [b1] at hn; refine hn.mono ?_; rintro e w3 ⟨rfl, hk3⟩; clear m0 m1 m2 m3 m4 m5; obtain ⟨m0, m1, m2, m3, m4, m5⟩ := HC.out _ (kept_any hk3)))
    go_ret2
    exact LookP.yes HE.out hm7 (HK.out.newRow (((kept_any hk3).tr (hk4.tr (hk5.tr (kept_any hk6)))).tr hk7) (fun i hi => by injection hi with hi; omega))
/-- Whether a region may be. -/
def netB (N : Nt) : Bool := (lookF N).isSome
def netE (N : Nt) : Int := if netB N = true then 0 else 60
set_option maxRecDepth 100000 in
theorem ncheck_any {w : World} {Y : Na} {N : Nt} (h : NetAt w Y N) (hT : Tabb w) : Calls Tryd.prog 13 #[netV Y N] w fun e w' => e = .returned (.int .i64 (netE N)) ∧ Kept w w' none := by
  obtain ⟨ys, ysc, yu, yuc, yd, ydc, X, r, t⟩ := Y
  have hk : Kept w (w.alloc (.cells #[.slice ys N.sites.length ysc, .slice yu N.subs.length yuc, .slice yd N.weds.length ydc, .int .i64 N.low, .int .i64 N.high, .int .i64 N.step] 26)) none := Kept.alloc _ _ _ _ _
  have HK := Hid.mk' hk
  have HN := Hid.mk' (h.kept hk)
  have HT := Hid.mk' (hT.kept hk)
  clear h hT hk
  go_enter Tryd.func13, Tryd.ntmps13
  cases hl : lookF N with
  | none =>
    have HE : Hid (netE N = 60) := by show netE N = 60; unfold netE netB; rw [hl]; rfl
    go_wp2_with (go_at_call 34; have hn := look_net HN.out HT.out; rw [hl] at hn; refine hn.mono ?_; rintro e w3 ⟨rfl, hk3⟩)
    go_ret
    exact ⟨by rw [HE.out]; rfl, HK.out.tr hk3⟩
  | some M =>
    have HE : Hid (netE N = 0) := by show netE N = 0; unfold netE netB; rw [hl]; rfl
    go_wp2_with (go_at_call 34; have hn := look_net HN.out HT.out; rw [hl] at hn; refine hn.mono ?_; rintro e w3 ⟨B, rfl, hm3, hk3⟩)
    go_ret
    exact ⟨by rw [HE.out]; rfl, HK.out.tr hk3⟩
/-- What is asked of a region that may be: the place of a mark. -/
def findV (N : Nt) (k : Mk) : Int × Int := match lookF N with
  | none => (0, 60)
  | some M => match mkF M k with
    | none => (0, 2)
    | some v => (v, 0)
set_option maxRecDepth 100000 in
set_option maxHeartbeats 4000000 in
theorem find_net {w : World} {Y : Na} {N : Nt} (h : NetAt w Y N) (hT : Tabb w) {a b c : Int} (hk : mkR (a, b, c)) : Calls Tryd.prog 25 #[netV Y N, .agg #[.int .i64 a, .int .i64 b, .int .i64 c]] w fun e w' => e = .returned (.tuple #[.int .i64 (findV N (a, b, c)).1, .int .i64 (findV N (a, b, c)).2]) ∧ Kept w w' none := by
  obtain ⟨ys, ysc, yu, yuc, yd, ydc, X, r, t⟩ := Y
  have hk0 : Kept w (w.alloc (.cells #[.slice ys N.sites.length ysc, .slice yu N.subs.length yuc, .slice yd N.weds.length ydc, .int .i64 N.low, .int .i64 N.high, .int .i64 N.step] 26)) none := Kept.alloc _ _ _ _ _
  have hk1 : Kept (w.alloc (.cells #[.slice ys N.sites.length ysc, .slice yu N.subs.length yuc, .slice yd N.weds.length ydc, .int .i64 N.low, .int .i64 N.high, .int .i64 N.step] 26)) ((w.alloc (.cells #[.slice ys N.sites.length ysc, .slice yu N.subs.length yuc, .slice yd N.weds.length ydc, .int .i64 N.low, .int .i64 N.high, .int .i64 N.step] 26)).alloc (.cells #[.int .i64 a, .int .i64 b, .int .i64 c] 70)) none := Kept.alloc _ _ _ _ _
  have HK := Hid.mk' (hk0.tr hk1)
  have HN := Hid.mk' (h.kept (hk0.tr hk1))
  have HT := Hid.mk' (hT.kept (hk0.tr hk1))
  have hms : ∀ j v, #[.int .i64 a, .int .i64 b, .int .i64 c][j]? = some v → ∀ w', Kept ((w.alloc (.cells #[.slice ys N.sites.length ysc, .slice yu N.subs.length yuc, .slice yd N.weds.length ydc, .int .i64 N.low, .int .i64 N.high, .int .i64 N.step] 26)).alloc (.cells #[.int .i64 a, .int .i64 b, .int .i64 c] 70)) w' none → w'.cell? ⟨w.heap.size + 1, j, none⟩ = some v := fun j v hv w' q => cell_kept0 (by
    have e : w.heap.size + 1 = (w.alloc (.cells #[.slice ys N.sites.length ysc, .slice yu N.subs.length yuc, .slice yd N.weds.length ydc, .int .i64 N.low, .int .i64 N.high, .int .i64 N.step] 26)).heap.size := by simp
    rw [e]
    simp only [World.cell?_alloc_mark]; exact hv) q
  have HC : Hid (∀ w', Kept ((w.alloc (.cells #[.slice ys N.sites.length ysc, .slice yu N.subs.length yuc, .slice yd N.weds.length ydc, .int .i64 N.low, .int .i64 N.high, .int .i64 N.step] 26)).alloc (.cells #[.int .i64 a, .int .i64 b, .int .i64 c] 70)) w' none → w'.cell? ⟨w.heap.size + 1, 0, none⟩ = some (.int .i64 a) ∧ w'.cell? ⟨w.heap.size + 1, 1, none⟩ = some (.int .i64 b) ∧ w'.cell? ⟨w.heap.size + 1, 2, none⟩ = some (.int .i64 c)) := fun w' q => ⟨hms 0 _ rfl w' q, hms 1 _ rfl w' q, hms 2 _ rfl w' q⟩
  have HKY := Hid.mk' (mk_key hk)
  have HMK := Hid.mk' hk
  clear h hT hk0 hk1 hms hk
  go_enter Tryd.func25, Tryd.ntmps25
  cases hl : lookF N with
  | none =>
    have HE : Hid (findV N (a, b, c) = (0, 60)) := by show findV N (a, b, c) = _; unfold findV; rw [hl]
    go_wp2_with (go_at_call 34; have hn := look_net HN.out HT.out; rw [hl] at hn; refine hn.mono ?_; rintro e w3 ⟨rfl, hk3⟩)
    go_ret2
    exact ⟨by rw [HE.out]; rfl, HK.out.tr hk3⟩
  | some M =>
    cases hf : mkF M (a, b, c) with
    | none =>
      have HE : Hid (findV N (a, b, c) = (0, 2)) := by show findV N (a, b, c) = _; unfold findV; rw [hl]; simp only [hf]
      go_wp2_with (first
        | (have hgo := HM3; clear hgo; at_lookup; refine wpList_lookup_own_ok_int _ rfl _ _ 80 rfl 70 3 .i64 Tryd.lawMk Tryd.uMks Tryd.uMi (Tryd.zeroMi _) B _ _ rfl HM3.out.own _ _ rfl HKY.out ?_; intro x hat hwc; rw [hh])
        | (go_at_call 34; have hn := look_net HN.out HT.out; rw [hl] at hn; refine hn.mono ?_; rintro e w3 ⟨B, rfl, hm3, hk3⟩; obtain ⟨c0, c1, c2⟩ := HC.out _ hk3; have HM3 := Hid.mk' hm3; have hh := mkD_has M hm3.all _ HMK.out; rw [hf] at hh; have hh : Maps.has (mkD M) (mkL (a, b, c)) = false := hh; clear hm3))
      go_ret2
      exact ⟨by rw [HE.out]; rfl, HK.out.tr hk3⟩
    | some v =>
      have HE : Hid (findV N (a, b, c) = (v, 0)) := by show findV N (a, b, c) = _; unfold findV; rw [hl]; simp only [hf]
      go_wp2_with (first
        | (have hgo := HM3; clear hgo; at_lookup; refine wpList_lookup_own_ok_int _ rfl _ _ 80 rfl 70 3 .i64 Tryd.lawMk Tryd.uMks Tryd.uMi (Tryd.zeroMi _) B _ _ rfl HM3.out.own _ _ rfl HKY.out ?_; intro x hat hwc; rw [hh]; have hxk : x = v := (by have hz := hat; rw [mkD_at M HM3.out.all _ HMK.out _ hf] at hz; simpa using hz.symm); subst hxk)
        | (go_at_call 34; have hn := look_net HN.out HT.out; rw [hl] at hn; refine hn.mono ?_; rintro e w3 ⟨B, rfl, hm3, hk3⟩; obtain ⟨c0, c1, c2⟩ := HC.out _ hk3; have HM3 := Hid.mk' hm3; have hh := mkD_has M hm3.all _ HMK.out; rw [hf] at hh; have hh : Maps.has (mkD M) (mkL (a, b, c)) = true := hh; clear hm3))
      go_ret2
      exact ⟨by rw [HE.out]; rfl, HK.out.tr hk3⟩
set_option maxRecDepth 100000 in
theorem sub_net {w : World} {Y : Na} {N : Nt} (h : NetAt w Y N) (hT : Tabb w) {x : Int} (hx : i64B x) : Calls Tryd.prog 9 #[netV Y N, .int .i64 x] w fun e w' => e = .returned (.tuple #[.int .i64 (findV N (1, x, 0)).1, .int .i64 (findV N (1, x, 0)).2]) ∧ Kept w w' none := by
  obtain ⟨ys, ysc, yu, yuc, yd, ydc, X, r, t⟩ := Y
  have hk : Kept w (w.alloc (.cells #[.slice ys N.sites.length ysc, .slice yu N.subs.length yuc, .slice yd N.weds.length ydc, .int .i64 N.low, .int .i64 N.high, .int .i64 N.step] 26)) none := Kept.alloc _ _ _ _ _
  have HK := Hid.mk' hk
  have HN := Hid.mk' (h.kept hk)
  have HT := Hid.mk' (hT.kept hk)
  have hmk : mkR (1, x, 0) := ⟨by show i64B 1; unfold i64B; omega, hx, i64_zero⟩
  clear h hT hk
  go_enter Tryd.func9, Tryd.ntmps9
  go_wp2_with (go_at_call 25; refine (find_net HN.out HT.out hmk).mono ?_; rintro e w3 ⟨rfl, hk3⟩)
  go_ret2
  exact ⟨rfl, HK.out.tr hk3⟩
set_option maxRecDepth 100000 in
theorem site_net {w : World} {Y : Na} {N : Nt} (h : NetAt w Y N) (hT : Tabb w) {x : Int} (hx : i64B x) : Calls Tryd.prog 10 #[netV Y N, .int .i64 x] w fun e w' => e = .returned (.tuple #[.int .i64 (findV N (0, x, 0)).1, .int .i64 (findV N (0, x, 0)).2]) ∧ Kept w w' none := by
  obtain ⟨ys, ysc, yu, yuc, yd, ydc, X, r, t⟩ := Y
  have hk : Kept w (w.alloc (.cells #[.slice ys N.sites.length ysc, .slice yu N.subs.length yuc, .slice yd N.weds.length ydc, .int .i64 N.low, .int .i64 N.high, .int .i64 N.step] 26)) none := Kept.alloc _ _ _ _ _
  have HK := Hid.mk' hk
  have HN := Hid.mk' (h.kept hk)
  have HT := Hid.mk' (hT.kept hk)
  have hmk : mkR (0, x, 0) := ⟨i64_zero, hx, i64_zero⟩
  clear h hT hk
  go_enter Tryd.func10, Tryd.ntmps10
  go_wp2_with (go_at_call 25; refine (find_net HN.out HT.out hmk).mono ?_; rintro e w3 ⟨rfl, hk3⟩)
  go_ret2
  exact ⟨rfl, HK.out.tr hk3⟩

end Go.Proofs.YtoahbpdgbiachaaDoor

