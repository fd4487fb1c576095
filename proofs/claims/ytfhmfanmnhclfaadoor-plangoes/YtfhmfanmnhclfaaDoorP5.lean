import Derived.Test.YtfhmfanmnhclfaaDoorP3
import Derived.RangeFuncNested
import Derived.RangeFuncBound
import Derived.RangeFuncCalls
import Derived.RangeFuncLeaves
import Derived.Shelf.Abstract
import Derived.Shelf.RegionOpen
import Derived.OwnWalkIn
import Derived.TacticsInMore
import Derived.LoopNIn
import Derived.LoopIn
namespace Go.Proofs.YtfhmfanmnhclfaaDoor
set_option linter.unusedVariables false
set_option linter.unusedSimpArgs false
section
open Go.RowKit Go.Lib Go.Deep

theorem Sat.apr {w : World} {X : Sa} {S : St} (h : Sat w X S) (i : Nat) : S.ap i < 4294967296 := by
  by_cases hi : i < S.apart.length
  · exact h.ar _ (getD_mem hi)
  · unfold St.ap; rw [List.getD_eq_getElem?_getD, List.getElem?_eq_none (by omega)]; simp
theorem Sat.phr {w : World} {X : Sa} {S : St} (h : Sat w X S) (i : Nat) : (S.ph i).groups < 4294967296 := by
  by_cases hi : i < S.phases.length
  · exact (h.pr _ (getD_mem hi)).1
  · unfold St.ph; rw [List.getD_eq_getElem?_getD, List.getElem?_eq_none (by omega)]; simp [p0]
theorem within_is (n lo hi : Int) (b : Bool) (w : World) (h : inB n lo hi = b) : Calls Tryd.prog 76 #[.int .i64 n, .int .i64 lo, .int .i64 hi] w fun e w' => e = .returned (.bool b) ∧ w' = w := by
  rw [← h]; exact within_any n lo hi w
theorem time_is (n : Int) (b : Bool) (w : World) (h : timeB n = b) : Calls Tryd.prog 101 #[.int .i64 n] w fun e w' => e = .returned (.bool b) ∧ w' = w := by
  rw [← h]; exact time_any n w
set_option maxHeartbeats 1000000 in
theorem between_any {B : Nat} {X : Sa} {S : St} {w : World} (h : Sbox w B X S) (a : Nat) (ha : a < S.groups.length) (hO : Okay S) : Calls Tryd.prog 70 #[.pointer (some ⟨B, 0, none⟩), .int .i64 a] w fun e w' => e = .returned (.bool (betweenB S a)) ∧ ∃ m, w' = w.drewN m := by
  have c1 := h.c1
  have c2 := h.c2
  have c3 := h.c3
  have hg16 := hO.ng.2
  have hna := hO.na
  have hnb := hO.nb
  obtain ⟨b, off, e, hc⟩ := h.sat.apAt (n := S.groups.length) (by omega) (by omega)
  have ka := hc a ha
  have har := h.sat.apr a
  obtain ⟨bg, og, eg, g0, g1, g2⟩ := h.sat.grAt ha
  obtain ⟨bb, ob, a', c', eb, kb, hI⟩ := h.sat.b.at_ (i := a) (by omega)
  rw [e] at c2
  rw [eg] at c1
  rw [eb] at c3
  have HI := Hid.mk' hI
  have HNA := Hid.mk' hna
  have HNB := Hid.mk' hnb
  have hlm : (S.between.getD a []).length ≤ 9223372036854775807 := by have := hI.cap.room; have := hI.cap.max; omega
  have hab : a < S.between.length := by omega
  have haa : a < S.apart.length := by omega
  clear hc h e eg eb hI hna hnb hO g0 g1
  generalize hL : S.between.getD a [] = L at *
  have HL := Hid.mk' hL
  clear hL
  by_cases hlen : L.length = S.groups.length
  · have hn0 : (((L.length : Nat) : Int) != ((S.groups.length : Nat) : Int)) = false := by rw [hlen]; simp
    have HLEN := Hid.mk' hlen
    obtain ⟨bi, oi, ea, _, hc⟩ := HI.out.at_ (by omega)
    have HC := Hid.mk' hc
    subst ea
    have hln : (L.length : Int) = (S.groups.length : Int) := by omega
    clear hlen hc
    go_enter Tryd.func70, Tryd.ntmps70
    go_wp2
    go_quiet (fail)
    go_wp2
    go_loopw [31] (fun i wr => ∃ k : Nat, k ≤ S.groups.length ∧ i = .int .i64 k ∧ (∀ b, b < k → betB S a b = true) ∧ ∃ m, wr = w.drewN m) (fun i _ => S.groups.length - (intOf i).toNat)
    case atStart => exact ⟨0, Nat.zero_le _, rfl, fun b hb => by omega, _, rfl⟩
    case round =>
      obtain ⟨k, hk, rfl, hall, m, rfl⟩ := hrel
      have HALL := Hid.mk' hall
      clear hall
      by_cases hlt : k < S.groups.length
      · have hlt2 : k < L.length := by have := HLEN.out; omega
        have kk := HC.out k hlt2
        have hbt : Hid (S.bt a k = L.getD k 0) := by show S.bt a k = _; unfold St.bt; rw [HL.out]
        have ebt := hbt.out
        rw [← ebt] at kk
        clear ebt
        have hans : betB S a k = false → betweenB S a = false := fun hh => by
          unfold betweenB
          rw [allB_no hlt hh]
          simp
        have HA := Hid.mk' hans
        clear hans
        cases hb : (S.ap a).testBit k with
        | true =>
          cases hv : inB (S.bt a k) (S.gr a).yellow 1048576 with
          | true =>
            have HV : Hid (betB S a k = true) := by show betB S a k = true; unfold betB; rw [if_pos hb]; exact hv
            go_wp2_with (first | (go_at_call 103; refine (has_is _ _ _ _ har (by omega) hb).mono ?_; rintro e w' ⟨rfl, rfl⟩) | (go_at_call 76; refine (within_any _ _ _ _).mono ?_; rintro e w' ⟨rfl, rfl⟩))
            go_roundw
            case rel => exact ⟨k + 1, by omega, by go_num, fun b hb => (by
              by_cases e : b = k
              · subst e; exact HV.out
              · exact HALL.out b (by omega)), _, rfl⟩
            case measure => simp [intOf]; omega
          | false =>
            have HV : Hid (betweenB S a = false) := HA.out (by unfold betB; rw [if_pos hb]; exact hv)
            go_wp2_with (first | (go_at_call 103; refine (has_is _ _ _ _ har (by omega) hb).mono ?_; rintro e w' ⟨rfl, rfl⟩) | (go_at_call 76; refine (within_any _ _ _ _).mono ?_; rintro e w' ⟨rfl, rfl⟩))
            go_ret
            exact ⟨by rw [HV.out]; rfl, _, rfl⟩
        | false =>
          have hcv : inB (S.bt a k) 0 0 = betB S a k := by
            unfold betB inB
            rw [if_neg (by simp [hb])]
            rw [Bool.eq_iff_iff]
            simp
            omega
          cases hv : inB (S.bt a k) 0 0 with
          | true =>
            have HV : Hid (betB S a k = true) := by show betB S a k = true; rw [← hcv]; exact hv
            clear hcv
            go_wp2_with (first | (go_at_call 103; refine (has_is _ _ _ _ har (by omega) hb).mono ?_; rintro e w' ⟨rfl, rfl⟩) | (go_at_call 76; refine (within_any _ _ _ _).mono ?_; rintro e w' ⟨rfl, rfl⟩))
            go_roundw
            case rel => exact ⟨k + 1, by omega, by go_num, fun b hb => (by
              by_cases e : b = k
              · subst e; exact HV.out
              · exact HALL.out b (by omega)), _, rfl⟩
            case measure => simp [intOf]; omega
          | false =>
            have HV : Hid (betweenB S a = false) := HA.out (by rw [← hcv]; exact hv)
            clear hcv
            go_wp2_with (first | (go_at_call 103; refine (has_is _ _ _ _ har (by omega) hb).mono ?_; rintro e w' ⟨rfl, rfl⟩) | (go_at_call 76; refine (within_any _ _ _ _).mono ?_; rintro e w' ⟨rfl, rfl⟩))
            go_ret
            exact ⟨by rw [HV.out]; rfl, _, rfl⟩
      · have hkk : k = S.groups.length := by omega
        have hans : betweenB S a = true := by
          unfold betweenB
          rw [allB_iff.2 (fun b hb => HALL.out b (by omega)), HL.out, decide_eq_true HLEN.out]
          rfl
        have HA := Hid.mk' hans
        clear hans
        go_wp2
        go_ret
        exact ⟨by rw [HA.out]; rfl, _, rfl⟩
  · have hn0 : (((L.length : Nat) : Int) != ((S.groups.length : Nat) : Int)) = true := by rw [bne_iff_ne]; omega
    have hans : betweenB S a = false := by unfold betweenB; rw [HL.out, decide_eq_false hlen]; rfl
    have HA := Hid.mk' hans
    clear hans
    go_enter Tryd.func70, Tryd.ntmps70
    go_wp2
    go_quiet (fail)
    go_wp2
    go_ret
    exact ⟨by rw [HA.out]; rfl, _, rfl⟩

theorem unionN_lt {S : St} (h : ∀ i, (S.ph i).groups < 4294967296) : ∀ k, unionN S k < 4294967296
  | 0 => by simp [unionN]
  | k + 1 => Nat.or_lt_two_pow (n := 32) (unionN_lt h k) (h k)
set_option maxHeartbeats 1000000 in
theorem served_any {B : Nat} {X : Sa} {S : St} {w : World} (h : Sbox w B X S) (i : Int) (hO : Okay S) : Calls Tryd.prog 72 #[.pointer (some ⟨B, 0, none⟩), .int .i64 i] w fun e w' => e = .returned (.bool (servedB S)) ∧ Kept w w' none := by
  have c4 := h.c4
  have hg16 := hO.ng.2
  have hp8 := hO.np
  have HB := Hid.mk' h
  have hu : ∀ k, unionN S k < 4294967296 := unionN_lt h.sat.phr
  have HU := Hid.mk' hu
  clear hu h
  go_enter Tryd.func72, Tryd.ntmps72
  go_wp2
  go_loopw [5, 13] (fun s i wr => ∃ k : Nat, k ≤ S.phases.length ∧ i = .int .i64 k ∧ s = .int .u32 ((unionN S k : Nat) : Int) ∧ Kept w wr none) (fun _ i _ => S.phases.length - (intOf i).toNat)
  case atStart => exact ⟨0, Nat.zero_le _, rfl, rfl, Kept.refl _ _⟩
  case round =>
    obtain ⟨k, hk, rfl, rfl, hkw⟩ := hrel
    by_cases hlt : k < S.phases.length
    · obtain ⟨b, off, e, k0, k1, k2, k3, k4⟩ := (HB.out.kept hkw).sat.phAt hlt
      have hor := u32_or_nat (unionN S k) (S.ph k).groups (HU.out k) (HB.out.sat.phr k)
      rw [e] at *
      go_wp2
      go_roundw
      case rel => exact ⟨k + 1, by omega, by go_num, by rw [unionN], hkw.tr (Kept.alloc _ _ _ _ _)⟩
      case measure => simp [intOf]; omega
    · have hkk : k = S.phases.length := by omega
      subst hkk
      have hans : (((unionN S S.phases.length : Nat) : Int) == ((2 ^ S.groups.length - 1 : Nat) : Int)) = servedB S := by
        unfold servedB
        rw [Bool.eq_iff_iff]
        simp
        omega
      have HA := Hid.mk' hans
      clear hans
      go_wp2_with (go_at_call 102; refine (allGroups_any (HB.out.kept hkw) hg16).mono ?_; rintro e w' ⟨rfl, rfl⟩)
      go_ret
      exact ⟨ret_bool HA.out, hkw⟩
set_option maxHeartbeats 1000000 in
theorem eye_any {B : Nat} {X : Sa} {S : St} {w : World} (h : Sbox w B X S) (i : Nat) (hi : i < S.eyes.length) (hO : Okay S) : Calls Tryd.prog 73 #[.pointer (some ⟨B, 0, none⟩), .int .i64 i] w fun e w' => e = .returned (.bool (eyeB S i)) ∧ Kept w w' none := by
  have c4 := h.c4
  have c5 := h.c5
  have hp8 := hO.np
  have hle := hO.ne
  have hBl := h.lt
  obtain ⟨b, off, e, k0, k1, k2, k3⟩ := h.sat.eyAt hi
  rw [e] at c5
  clear h e hO
  have hkA : ∀ m, Kept w ((w.alloc (.cells #[.int .i64 (S.ey i).phase, .int .i64 (S.ey i).on, .int .i64 (S.ey i).off, .int .i64 (S.ey i).turns] 113)).drewN m) none := fun m => (Kept.alloc _ _ _ _ _ : Kept w _ none).tr (Kept.drewN _ _ _)
  cases h1 : inB (S.ey i).phase 0 ((S.phases.length : Int) - 1) with
  | false =>
    have HA : Hid (eyeB S i = false) := by show eyeB S i = false; simp [eyeB, h1]
    go_enter Tryd.func73, Tryd.ntmps73
    go_wp2
    go_quiet ((go_at_call 76; exact Calls.quiet_of_same (within_is _ _ _ _ _ h1)))
    go_wp2
    go_ret
    exact ⟨by rw [HA.out]; rfl, hkA _⟩
  | true =>
    cases h2 : timeB (S.ey i).on with
    | false =>
      have HA : Hid (eyeB S i = false) := by show eyeB S i = false; simp [eyeB, h1, h2]
      go_enter Tryd.func73, Tryd.ntmps73
      go_wp2
      go_quiet ((first | (go_at_call 76; exact Calls.quiet_of_same (within_is _ _ _ _ _ h1)) | (go_at_call 101; exact Calls.quiet_of_same (time_is _ _ _ h2))))
      go_wp2
      go_ret
      exact ⟨by rw [HA.out]; rfl, hkA _⟩
    | true =>
      cases h3 : timeB (S.ey i).off with
      | false =>
        have HA : Hid (eyeB S i = false) := by show eyeB S i = false; simp [eyeB, h1, h2, h3]
        go_enter Tryd.func73, Tryd.ntmps73
        go_wp2
        go_quiet ((first | (go_at_call 76; exact Calls.quiet_of_same (within_is _ _ _ _ _ h1)) | (go_at_call_of 101 (S.ey i).on; exact Calls.quiet_of_same (time_is _ _ _ h2)) | (go_at_call 101; exact Calls.quiet_of_same (time_is _ _ _ h3))))
        go_wp2
        go_ret
        exact ⟨by rw [HA.out]; rfl, hkA _⟩
      | true =>
        have HA : Hid (eyeB S i = inB (S.ey i).turns 1 64) := by show eyeB S i = _; simp [eyeB, h1, h2, h3]
        go_enter Tryd.func73, Tryd.ntmps73
        go_wp2
        go_quiet ((first | (go_at_call_of 76 (S.ey i).phase; exact Calls.quiet_of_same (within_is _ _ _ _ _ h1)) | (go_at_call 76; exact Calls.quiet_of_same (within_any _ _ _ _)) | (go_at_call_of 101 (S.ey i).on; exact Calls.quiet_of_same (time_is _ _ _ h2)) | (go_at_call 101; exact Calls.quiet_of_same (time_is _ _ _ h3))))
        go_wp2
        go_ret
        exact ⟨by rw [HA.out]; rfl, hkA _⟩

end
section
open Go.RowKit Go.Lib Go.Deep Go.Shelf
attribute [local go_sem] Oper.semAt_some

/-- A number of a set. -/
abbrev Mb (S : Nat) := { x : Nat // x ∈ memb S }
def vals {S : Nat} (l : List (Mb S)) : List Nat := l.map (·.1)
theorem vals_snoc {S : Nat} (l : List (Mb S)) (x : Mb S) : vals (l ++ [x]) = vals l ++ [x.1] := by simp [vals]
theorem Tabb.below {n : Nat} {w w' : World} (h : Tabb w) (hn : 0 < n) (k : Below n w w') : Tabb w' := fun i hi => (k.cell (p := ⟨0, i, none⟩) hn).trans (h i hi)
set_option maxRecDepth 100000 in
set_option maxHeartbeats 1000000 in
theorem members1_in (n : Nat) (hn : 1 ≤ n) (l Bn n₀ S : Nat) (hS : S < 4294967296) (hn₀ : 0 < n₀) (J Jx : List (Mb S) → World → Prop)
    (hY : ∀ pre (x : Mb S) W, J pre W → pre.length < (memb S).length → YieldAt Fence.wide (n - 1) Tryd.prog l #[.int .i64 ((x.1 : Nat) : Int)] W fun e W' =>
      (e = .returned (.bool true) ∧ J (pre ++ [x]) W' ∧ Below n₀ W W') ∨ (e = .returned (.bool false) ∧ Jx (pre ++ [x]) W'))
    (W : World) (hBn : W.cell? ⟨Bn, 0, none⟩ = some (.int .u32 S)) (hT : Tabb W) (h0 : J [] W) :
    CallsIn Fence.wide n Tryd.prog 116 #[.func (.yield l) #[] #[], .pointer (some ⟨Bn, 0, none⟩)] W fun e W' => (∃ v, e = .returned v) ∧
      ((∃ ys, vals ys = memb S ∧ J ys W') ∨ (∃ pre, vals pre <+: memb S ∧ Jx pre W')) := by
  refine callsIn_of_wp Tryd.func116 rfl trivial ?_ rfl
  simp only [Tryd.ntmps116, List.size_toArray, List.length_cons, List.length_nil, Nat.reduceAdd, Nat.reduceSub, Array.replicate_succ, Array.replicate_zero, List.push_toArray, List.append_toArray, List.nil_append, List.cons_append]
  gi_wp2
  gi_loopw [3] (fun r wr => ∃ (pre : List (Mb S)) (R : Nat), r = .int .u32 (R : Int) ∧ R < 4294967296 ∧ memb S = vals pre ++ memb R ∧ Tabb wr ∧ J pre wr) (fun r _ => (intOf r).toNat)
  case atStart =>
    exact ⟨[], S, rfl, hS, rfl, hT, h0⟩
  case round =>
    obtain ⟨pre, R, rfl, hR, hx, hTr, hJs⟩ := hrel
    by_cases hz : R = 0
    · subst hz
      gi_wp2
      go_end0
      exact ⟨⟨_, rfl⟩, .inl ⟨pre, by rw [hx, memb_zero, List.append_nil], hJs⟩⟩
    · have hR0 : 0 < R := by omega
      have hm := memb_low hR0 hR
      have hlt := (lowN_spec 32 R hR0 (by simpa using hR)).1
      have hlv : leastV R = ((lowN 32 R : Nat) : Int) := by unfold leastV; rw [if_neg hz]
      have hw : withoutV R ((lowN 32 R : Nat) : Int) < R := by
        obtain ⟨h1, h2, h3⟩ := lowN_spec 32 R hR0 (by simpa using hR)
        rw [without_in h1, without_yes R _ hR h1 h2]
        have : 0 < 2 ^ lowN 32 R := Nat.two_pow_pos _
        omega
      have hnz : ((R : Int) != 0) = true := by rw [bne_iff_ne]; omega
      have HT := Hid.mk' hTr
      have HM := Hid.mk' hm
      have HX := Hid.mk' hx
      have HLV := Hid.mk' hlv
      clear hTr hm hx hlv
      generalize hq : lowN 32 R = q at *
      have HQ := Hid.mk' hq
      clear hq
      generalize hr : withoutV R (q : Int) = R' at *
      have HR' := Hid.mk' hr
      clear hr
      have hqm : q ∈ memb S := by rw [HX.out, HM.out]; simp
      obtain ⟨fn, tmps, assign, body, hy, hRR⟩ := hY pre ⟨q, hqm⟩ wr hJs (by rw [HX.out, HM.out]; simp [vals])
      gi_wp2_with (first
        | (refine ⟨trivial, ?_⟩; gi_at_call 117; refine (callsIn_wide.2 (least_any R _ hR HT.out)).mono ?_; rintro e w' ⟨rfl, rfl⟩; rw [HLV.out])
        | (refine ⟨trivial, ?_⟩; gi_at_call 118; refine (callsIn_wide.2 (without_any R _ _ hR)).mono ?_; rintro e w' ⟨rfl, rfl⟩; rw [HR'.out]))
      refine hRR.mono ?_
      rintro e W3 (⟨rfl, hJ3, hk3⟩ | ⟨rfl, hJx3⟩)
      · gi_wp2
        go_roundw
        case rel => exact ⟨_, R', rfl, by omega, HX.out.trans (by rw [HM.out, vals_snoc]; simp), HT.out.below hn₀ hk3, hJ3⟩
        case measure => simp [intOf]; omega
      · gi_wp2
        refine bodyPost_ret (results_none rfl _ _ _) rfl ?_
        exact ⟨⟨_, rfl⟩, .inr ⟨_, ⟨memb R', (HX.out.trans (by rw [HM.out, vals_snoc]; simp)).symm⟩, hJx3⟩⟩
set_option maxHeartbeats 1000000 in
theorem members_in (n S : Nat) (w : World) :
    CallsIn Fence.wide n Tryd.prog 104 #[.int .u32 S] w fun e w' => e = .returned (.func (.func 116) #[] #[.pointer (some ⟨w.heap.size, 0, none⟩)]) ∧ w' = w.alloc (.cells #[.int .u32 S] 78) := by
  refine callsIn_of_wp Tryd.func104 rfl trivial ?_ rfl
  simp only [Tryd.ntmps104, List.size_toArray, List.length_cons, List.length_nil, Nat.reduceAdd, Nat.reduceSub, Array.replicate_succ, Array.replicate_zero, List.push_toArray, List.append_toArray, List.nil_append, List.cons_append]
  gi_wp2
  go_ret
  exact ⟨rfl, rfl⟩
theorem members_stops (n : Nat) (hn : 1 ≤ n) (Bn n₀ S : Nat) (w : World) (hBn : Bn < w.heap.size) (hS : S < 4294967296) (hn₀ : 0 < n₀) (hw : n₀ ≤ w.heap.size)
    (hc : w.cell? ⟨Bn, 0, none⟩ = some (.int .u32 S)) (hT : Tabb w) :
    SeqStopsK Fence.wide n Tryd.prog 116 #[.pointer (some ⟨Bn, 0, none⟩)] (fun x : Mb S => #[Value.int .i64 (x.1 : Int)]) (Below n₀) (fun ys => vals ys = memb S) (fun pre => vals pre <+: memb S) (memb S).length w := fun l J Jx W hW _ _ hY h0 =>
  members1_in n hn l Bn n₀ S hS hn₀ J Jx hY W ((hW.cell (p := ⟨Bn, 0, none⟩) hBn).trans hc) (hT.below (by omega) hW) h0

end
section
open Go.RowKit Go.Lib Go.Deep

theorem rin_any (n lo hi : Int) (w : World) : Calls Tryd.prog 60 #[.int .i64 n, .int .i64 lo, .int .i64 hi] w fun e w' => e = .returned (.bool (inB n lo hi)) ∧ w' = w := by
  go_enter Tryd.func60, Tryd.ntmps60
  go_wp2
  all_goals
    go_ret
    refine ⟨?_, rfl⟩
    simp [inB, *] <;> (first | omega | (intros; omega))
theorem rin_is {n lo hi : Int} {b : Bool} {w : World} (h : inB n lo hi = b) : Calls Tryd.prog 60 #[.int .i64 n, .int .i64 lo, .int .i64 hi] w fun e w' => e = .returned (.bool b) ∧ w' = w := by
  rw [← h]; exact rin_any n lo hi w
set_option maxRecDepth 100000 in
set_option maxHeartbeats 1000000 in
theorem rapart_yes {X : Sa} {S : St} {w : World} (h : Sat w X S) (a b : Nat) (ha : a < S.apart.length) (hb : b < 32) : Calls Tryd.prog 96 #[siteV X S, .int .i64 a, .int .i64 b] w fun e w' => e = .returned (.bool ((S.ap a).testBit b)) ∧ Kept w w' none := by
  have hkA : Kept w (w.alloc (.cells #[.int .i64 S.id, .slice X.g S.groups.length X.gc, .slice X.a S.apart.length X.ac, .slice X.b S.between.length X.bc, .slice X.p S.phases.length X.pc, .slice X.e S.eyes.length X.ec, .int .i64 S.watch, .int .i64 S.feed, .int .i64 S.heal, .int .i64 S.low, .int .i64 S.high, .slice X.l S.plans.length X.lc] 35)) none := Kept.alloc _ _ _ _ _
  have HK := Hid.mk' hkA
  obtain ⟨xg, xgc, xa, xac, xb, xbc, xp, xpc, xe, xec, xl, xlc⟩ := X
  obtain ⟨ba, oa, ea, hca⟩ := h.apAt (n := S.apart.length) (by omega) (by omega)
  dsimp only at ea
  subst ea
  have ka := hca a ha
  have hba := block_lt ka
  have har := h.apr a
  have hak := h.ak.max
  have hal := h.ak.room
  have HB := Hid.mk' (has_in (S := S.ap a) hb)
  clear h hkA hca
  go_enter Tryd.func96, Tryd.ntmps96
  go_wp2_with (go_at_call 97; refine (rhas_any _ _ _ har).mono ?_; rintro e w3 ⟨rfl, rfl⟩; rw [HB.out])
  go_ret
  exact ⟨rfl, HK.out⟩
/-- No list of it is long. -/
structure Few (S : St) : Prop where
  g : S.groups.length ≤ 40
  a : S.apart.length ≤ 40
  b : S.between.length ≤ 40
  p : S.phases.length ≤ 40
  e : S.eyes.length ≤ 60
  l : S.plans.length ≤ 40
  br : ∀ i, i < S.between.length → (S.between.getD i []).length ≤ 40
  lr : ∀ i, i < S.plans.length → (S.plans.getD i q0).splits.length ≤ 40
def GreatP (S : St) (w : World) (e : Ending) (w' : World) : Prop := ∃ g, e = .returned (.bool g) ∧ (g = false → Few S) ∧ Kept w w' none
theorem GreatP.of {S : St} {w w' : World} (g : Bool) (h : g = false → Few S) (k : Kept w w' none) : GreatP S w (.returned (.bool g)) w' := ⟨g, rfl, h, k⟩
set_option maxRecDepth 100000 in
set_option maxHeartbeats 2000000 in
theorem rgreat_any {X : Sa} {S : St} {w : World} (h : Sat w X S) : Calls Tryd.prog 14 #[siteV X S] w fun e w' => GreatP S w e w' := by
  have hkA : Kept w (w.alloc (.cells #[.int .i64 S.id, .slice X.g S.groups.length X.gc, .slice X.a S.apart.length X.ac, .slice X.b S.between.length X.bc, .slice X.p S.phases.length X.pc, .slice X.e S.eyes.length X.ec, .int .i64 S.watch, .int .i64 S.feed, .int .i64 S.heal, .int .i64 S.low, .int .i64 S.high, .slice X.l S.plans.length X.lc] 35)) none := Kept.alloc _ _ _ _ _
  have HSB := Hid.mk' (sbox_alloc h 35)
  have HK := Hid.mk' hkA
  have hg9 : S.groups.length ≤ 9223372036854775807 := by have := h.gk.room; have := h.gk.max; omega
  have ha9 : S.apart.length ≤ 9223372036854775807 := by have := h.ak.room; have := h.ak.max; omega
  have hb9 : S.between.length ≤ 9223372036854775807 := by have := h.b.cap.room; have := h.b.cap.max; omega
  have hp9 : S.phases.length ≤ 9223372036854775807 := by have := h.pk.room; have := h.pk.max; omega
  have he9 : S.eyes.length ≤ 9223372036854775807 := by have := h.ek.room; have := h.ek.max; omega
  have hl9 : S.plans.length ≤ 9223372036854775807 := by have := h.l.cap.room; have := h.l.cap.max; omega
  clear h hkA
  go_enter Tryd.func14, Tryd.ntmps14
  by_cases h1 : 40 < S.groups.length
  case pos => go_wp2; go_ret; exact GreatP.of true (fun e => (nomatch e)) HK.out
  by_cases h2 : 40 < S.apart.length
  case pos => go_wp2; go_ret; exact GreatP.of true (fun e => (nomatch e)) HK.out
  by_cases h3 : 40 < S.between.length
  case pos => go_wp2; go_ret; exact GreatP.of true (fun e => (nomatch e)) HK.out
  by_cases h4 : 40 < S.phases.length
  case pos => go_wp2; go_ret; exact GreatP.of true (fun e => (nomatch e)) HK.out
  by_cases h5 : 60 < S.eyes.length
  case pos => go_wp2; go_ret; exact GreatP.of true (fun e => (nomatch e)) HK.out
  by_cases h6 : 40 < S.plans.length
  case pos => go_wp2; go_ret; exact GreatP.of true (fun e => (nomatch e)) HK.out
  go_wp2
  generalize hW : (w.alloc (.cells #[.int .i64 S.id, .slice X.g S.groups.length X.gc, .slice X.a S.apart.length X.ac, .slice X.b S.between.length X.bc, .slice X.p S.phases.length X.pc, .slice X.e S.eyes.length X.ec, .int .i64 S.watch, .int .i64 S.feed, .int .i64 S.heal, .int .i64 S.low, .int .i64 S.high, .slice X.l S.plans.length X.lc] 35)) = W at *
  clear hW
  go_loopw [3] (fun i wr => ∃ k : Nat, k ≤ S.between.length ∧ i = .int .i64 k ∧ Hid (∀ j, j < k → (S.between.getD j []).length ≤ 40) ∧ wr = W) (fun i _ => S.between.length - (intOf i).toNat)
  case atStart => exact ⟨0, Nat.zero_le _, rfl, (fun j hj => by omega), rfl⟩
  case round =>
    obtain ⟨k, hk, rfl, HJ, rfl⟩ := hrel
    by_cases hlt : k < S.between.length
    · have c3 := HSB.out.c3
      obtain ⟨ba, oa, ar, cr, ea, kb, hI⟩ := HSB.out.sat.b.at_ hlt
      have hI1 := hI.cap.room
      have hI2 := hI.cap.max
      clear hI
      rw [ea] at c3
      generalize hm : (S.between.getD k []).length = m at *
      have HM := Hid.mk' hm
      clear hm
      by_cases hx : 40 < m
      case pos => go_wp2; go_ret; exact GreatP.of true (fun e => (nomatch e)) HK.out
      go_wp2
      go_roundw
      case rel => exact ⟨k + 1, by omega, by go_num, (fun j hj => (by
        by_cases e : j = k
        · subst e; rw [HM.out]; omega
        · exact HJ.out j (by omega))), trivial⟩
      case measure => simp [intOf]; omega
    · have e : k = S.between.length := by omega
      subst e
      have c3 := HSB.out.c3
      go_wp2
      go_loopw [4] (fun i wx => ∃ k : Nat, k ≤ S.plans.length ∧ i = .int .i64 k ∧ Hid (∀ j, j < k → (S.plans.getD j q0).splits.length ≤ 40) ∧ wx = wr) (fun i _ => S.plans.length - (intOf i).toNat)
      case atStart => exact ⟨0, Nat.zero_le _, rfl, (fun j hj => by omega), rfl⟩
      case round =>
        obtain ⟨k, hk, rfl, HL, rfl⟩ := hrel
        clear c3
        have c11 := HSB.out.c11
        by_cases hlt : k < S.plans.length
        · obtain ⟨pb, off, a', c', ea, p0, p1, p2, hI⟩ := HSB.out.sat.l.at_ hlt
          have hI1 := hI.cap.room
          have hI2 := hI.cap.max
          clear hI p0 p1
          rw [ea] at c11
          generalize hm : (S.plans.getD k q0).splits.length = m at *
          have HM := Hid.mk' hm
          clear hm
          by_cases hx : 40 < m
          case pos => go_wp2; go_ret; exact GreatP.of true (fun e => (nomatch e)) HK.out
          go_wp2
          go_roundw
          case rel => exact ⟨k + 1, by omega, by go_num, (fun j hj => (by
            by_cases e : j = k
            · subst e; rw [HM.out]; omega
            · exact HL.out j (by omega))), trivial⟩
          case measure => simp [intOf]; omega
        · have e : k = S.plans.length := by omega
          subst e
          go_wp2
          go_ret
          exact GreatP.of false (fun _ => ⟨by omega, by omega, by omega, by omega, by omega, by omega, HJ.out, HL.out⟩) HK.out

end
end Go.Proofs.YtfhmfanmnhclfaaDoor
