/-
  THE STATEMENTS' OWN: up, alive; the contracts at known numbers (made by a program).
-/
import Derived.Test.YtjfajdmifjbblaaDoorCallS0
import Derived.Test.YtjfajdmifjbblaaDoorCallF
namespace Go.Proofs.YtjfajdmifjbblaaDoor
open Go.RowKit Go.Lib Go.Deep
set_option linter.unusedVariables false
set_option linter.unusedSimpArgs false

theorem lks_one {w : World} {b : Nat} {x : Lk} (h : Kbox w b x) (ht : Typ x) : Lks w (some ⟨b, 0, none⟩) 1 [x] :=
  ⟨rfl, lie_of h.lt (fun i hi j hj => by
    obtain rfl : i = 0 := by omega
    have : j = 0 ∨ j = 1 ∨ j = 2 ∨ j = 3 ∨ j = 4 := by omega
    rcases this with rfl | rfl | rfl | rfl | rfl
    · exact h.c0
    · exact h.c1
    · exact h.c2
    · exact h.c3
    · exact h.c4), fun i hi => by
    obtain rfl : i = 0 := by omega
    exact ht⟩
abbrev LU : Lk := ⟨true, 0, 0, false, 0⟩
theorem typ_up : Typ LU := ⟨by decide, by decide, by unfold i64B; decide, by unfold i64B; decide⟩
theorem cap_one {a : Addr} : Cap (some a) 1 1 := cap_some (by omega)
theorem up_any {w : World} : Calls Tryd.prog 10 #[] w fun e w' => ∃ b, e = .returned (.slice (some ⟨b, 0, none⟩) 1 1) ∧ Lks w' (some ⟨b, 0, none⟩) 1 [LU] ∧ Kept w w' none := by
  go_enter Tryd.func10, Tryd.ntmps10
  go_wp2
  go_ret
  exact ⟨_, rfl, lks_one (b5_alloc w (.bool true) (.int .i64 0) (.int .u64 0) (.bool false) (.int .i64 0) 56) typ_up, Kept.alloc _ _ _ _ _⟩
theorem crea_at {X : Sa} {S : St} {w : World} (h : Sat w X S) (hT : Tabb w) {a : Option Addr} {n ca : Nat} {L : List Lk} (hA : Lks w a n L) (hc : Cap a n ca) (V E : Int) (hV : ((reaV S L : Nat) : Int) = V) (hE : allE S L = E) : Calls Tryd.prog 9 #[siteV X S, .slice a n ca] w fun e w' => e = .returned (.tuple #[.int .u32 V, .int .i64 E]) ∧ Kept w w' none := by
  subst hV hE
  exact crea_any h hT hA hc
theorem cnext_at {X : Sa} {S : St} {w : World} (h : Sat w X S) (hT : Tabb w) (c : Nat) (hc32 : c < 4294967296) (cI : Int) (hci : (c : Int) = cI) (g : Int) {a : Option Addr} {n ca : Nat} {L : List Lk} (hA : Lks w a n L) (hc : Cap a n ca) (V E : Int) (hV : ((nexV S c L g : Nat) : Int) = V) (hE : nexE S c L g = E) : Calls Tryd.prog 11 #[siteV X S, .int .u32 cI, .slice a n ca, .int .i64 g] w fun e w' => e = .returned (.tuple #[.int .u32 V, .int .i64 E]) ∧ Kept w w' none := by
  subst hV hE hci
  exact cnext_any h hT c hc32 g hA hc
theorem cfst_at {X : Sa} {S : St} {w : World} (h : Sat w X S) (hT : Tabb w) (c : Nat) (hc32 : c < 4294967296) (cI : Int) (hci : (c : Int) = cI) (g : Int) (V E : Int) (hV : fstV S c g = V) (hE : firE S c g = E) : Calls Tryd.prog 12 #[siteV X S, .int .u32 cI, .int .i64 g] w fun e w' => e = .returned (.tuple #[.int .i64 V, .int .i64 E]) ∧ Kept w w' none := by
  subst hV hE hci
  exact cfst_any h hT c hc32 g
set_option maxHeartbeats 1000000 in
theorem alive14_any {w : World} (hT : Tabb w) : Calls Tryd.prog 13 #[] w fun e w' => e = .returned (.bool true) ∧ Kept w w' none := by
  have HT := Hid.mk' hT
  have m0 := Hid.mk' trivial
  clear hT
  go_enter Tryd.func13, Tryd.ntmps13
  go_wp2_with (first
    | (have hgo := m4; clear hgo; go_at_call 12; refine (cfst_at HS4.out (HT.out.kept k4) 3 (by decide) 3 rfl 0 1 0 (by decide +kernel) (by decide +kernel)).mono ?_; rintro e w5 ⟨rfl, hk⟩; have k5 : Kept w w5 none := k4.tr hk)
    | (have hgo := m3; clear hgo; go_at_call 8; refine seen14_any.mono ?_; rintro e w4 ⟨X4, rfl, hs4, hk⟩; have k4 : Kept w w4 none := k3.tr hk; have HS4 := Hid.mk' hs4; clear hs4 m3; have m4 := Hid.mk' trivial)
    | (have hgo := m2; clear hgo; go_at_call 11; refine (cnext_at (HS1.out.kept hk2) (HT.out.kept k2) 0 (by decide) 0 rfl (-1) HL2.out cap_one 3 0 (by decide +kernel) (by decide +kernel)).mono ?_; rintro e w3 ⟨rfl, hk⟩; have k3 : Kept w w3 none := k2.tr hk; clear m2; have m3 := Hid.mk' trivial)
    | (have hgo := m1; clear hgo; go_at_call 10; refine up_any.mono ?_; rintro e w2 ⟨ub, rfl, hl2, hk2⟩; have k2 : Kept w w2 none := k1.tr hk2; have HL2 := Hid.mk' hl2; clear hl2 m1; have m2 := Hid.mk' trivial)
    | (have hgo := m0; clear hgo; go_at_call 8; refine seen14_any.mono ?_; rintro e w1 ⟨X1, rfl, hs1, k1⟩; have HS1 := Hid.mk' hs1; clear hs1 m0; have m1 := Hid.mk' trivial))
  go_ret
  exact ⟨by simp, k5⟩

end Go.Proofs.YtjfajdmifjbblaaDoor
