/-
  THE CONTRACTS of is and alive, of the statements.
-/
import Derived.Test.YtpnmlgillphodaaDoorLightsB
namespace Go.Proofs.YtpnmlgillphodaaDoor
open Go.RowKit Go.Lib Go.Deep
set_option linter.unusedVariables false
set_option linter.unusedSimpArgs false

set_option maxRecDepth 100000 in
set_option maxHeartbeats 1000000 in
theorem is_yes {w : World} (hT : Tabb w) (cs : List Nat) (at_ f : Int) (hl : cs.length ≤ 200) (hb : ∀ x ∈ cs, x < 256) (h1 : ansN (fltV S8 (lightsL cs)) (cs.length / 2) = at_) (h2 : ownV (fltV S8 (lightsL cs)) (cs.length / 2) = f) : Calls Tryd.prog 8 #[.string (textOf cs), .int .i64 at_, .int .u8 f] w fun e w' => e = .returned (.bool true) ∧ Kept w w' none := by
  have HT := Hid.mk' hT
  clear hT
  have HL := Hid.mk' (fun w' => lights_any (w := w') cs hl hb)
  have H1 := Hid.mk' h1
  have H2 := Hid.mk' h2
  have hn : cs.length / 2 ≤ 4096 := by omega
  have HN := Hid.mk' hn
  clear h1 h2 hn hb hl
  generalize cs.length / 2 = n at *
  generalize textOf cs = Sx at *
  generalize lightsL cs = T at *
  go_enter Tryd.func8, Tryd.ntmps8
  go_wp2_with (first
    | (go_at_call 9; have hn := check_go (cp := cL) (SA.out.kept K12.out) (HT.out.kept (K1.out.tr K12.out)) TR.out s8_may HN.out; rw [H1.out, H2.out] at hn; refine hn.mono ?_; rintro e w3 ⟨rfl, hk3⟩)
    | (go_at_call 23; refine (HL.out _).mono ?_; rintro e w2 ⟨aL, cL, rfl, hTr, hk2⟩; have TR := Hid.mk' hTr; have K12 := Hid.mk' hk2; clear hTr hk2)
    | (go_at_call 10; refine two_any.mono ?_; rintro e w1 ⟨X, rfl, hsat, hk1⟩; have SA := Hid.mk' hsat; have K1 := Hid.mk' hk1; clear hsat hk1))
  go_ret
  exact ⟨rfl, (K1.out.tr K12.out).tr hk3⟩
theorem tx_alive1 : (ByteArray.mk #[82, 82, 82, 82, 71, 82, 71, 82, 89, 82, 82, 82, 82, 71]) = textOf [82, 82, 82, 82, 71, 82, 71, 82, 89, 82, 82, 82, 82, 71] := by rfl
theorem tx_alive2 : (ByteArray.mk #[82, 82, 71, 82]) = textOf [82, 82, 71, 82] := by rfl
set_option maxRecDepth 100000 in
set_option maxHeartbeats 1000000 in
theorem salive_any {w : World} (hT : Tabb w) : Calls Tryd.prog 13 #[] w fun e w' => e = .returned (.bool true) ∧ Kept w w' none := by
  have HT := Hid.mk' hT
  have HK0 := Hid.mk' (Kept.refl w none)
  have HI1 := Hid.mk' (fun w' (q : Kept w w' none) => is_yes (hT.kept q) [82, 82, 82, 82, 71, 82, 71, 82, 89, 82, 82, 82, 82, 71] (-1) 0 (by decide) (by decide) (by decide +kernel) (by decide +kernel))
  have HI2 := Hid.mk' (fun w' (q : Kept w w' none) => is_yes (hT.kept q) [82, 82, 71, 82] 1 8 (by decide) (by decide) (by decide +kernel) (by decide +kernel))
  rw [← tx_alive1] at HI1
  rw [← tx_alive2] at HI2
  clear hT
  go_enter Tryd.func13, Tryd.ntmps13
  go_wp2_with (first
    | (go_at_call_of 8 (1 : Int); refine (HI2.out _ hk1).mono ?_; rintro e w2 ⟨rfl, hk2⟩)
    | (go_at_call 8; refine (HI1.out _ (Kept.refl _ _)).mono ?_; rintro e w1 ⟨rfl, hk1⟩))
  go_ret
  exact ⟨rfl, hk1.tr hk2⟩

end Go.Proofs.YtpnmlgillphodaaDoor
