/-
  FrameFound: behind any bytes, and ahead of any, each frame is found, and nothing else but what those bytes have. The walk's parts lie in the texts that are imported.
-/
import Derived.Test.YtflehhliddcfgaaDoorRows
import Derived.Test.YtflehhliddcfgaaDoorCards
import Derived.Test.YtflehhliddcfgaaDoorTie
import Derived.Test.YtflehhliddcfgaaDoorLaid
import Derived.Test.YtflehhliddcfgaaDoorOpens
import Derived.Test.YtflehhliddcfgaaDoorFound2
import Derived.SevenTiedAt
import Derived.WalkKit
import Derived.ProofKit
import Derived.OpenShut
import Derived.ShutString
import Derived.ChangeOld
import Derived.Below
namespace Go.Proofs.YtflehhliddcfgaaDoor.frameFound
open Go.ChangeShapes Go.WideShapes Go.ChangeAt Go.RowKit
open Go.ChangeMaps (open_string shut_string)
set_option linter.unusedVariables false
set_option linter.unusedSimpArgs false

theorem own : ownKnob Tryd.prog.godebug = none := by kernel_rfl
theorem laidOut : laidOutB Tryd.prog = true := by kernel_rfl

/-! ### The walk: the Go text returns true. -/
theorem walk (a0 : Option Addr) (len0 cap0 : Nat) (L0 : List Nat) (a1 : Option Addr) (len1 cap1 : Nat) (l1 : List Msg) (a2 : Option Addr) (len2 cap2 : Nat) (L2 : List Nat) (w : World) (ht : Table w) (w0 : Come w a0 len0 cap0 L0) (w1 : Ms w a1 len1 l1) (o1 : ∀ m ∈ l1, Mok m) (n1 : a1 = none → cap1 = 0) (w2 : Come w a2 len2 cap2 L2) :
    Calls Tryd.prog 6 #[.slice a0 len0 cap0, .slice a1 len1 cap1, .slice a2 len2 cap2] w fun e w' => e = .returned (.bool true) ∧ Below w.heap.size w w' := by
  have r0 := w0.room
  have r1 := w0.max
  have r2 := w2.room
  have r3 := w2.max
  have r4 := w1.max
  by_cases h : 3000 < len0 ∨ (len0 ≤ 3000 ∧ 3000 < len2) ∨ (len0 ≤ 3000 ∧ len2 ≤ 3000 ∧ 5 < len1) ∨ (len0 ≤ 3000 ∧ len2 ≤ 3000 ∧ len1 < 1)
  · exact found_out a0 a1 a2 len0 cap0 len1 cap1 len2 cap2 w ht (by omega) (by omega) (by omega) h
  · cases hf : frG l1 0 with
    | false => exact found_no a0 a1 a2 len0 cap0 len1 cap1 len2 cap2 l1 w ht w1 o1 (by omega) (by omega) (by omega) (by omega) hf
    | true => exact found_yes a0 a1 a2 len0 cap0 len1 cap1 len2 cap2 L0 L2 l1 w ht w0 w1 o1 n1 w2 (by omega) (by omega) (by omega) (by omega) hf

/-! ### The row's step. -/
set_option maxRecDepth 100000 in
theorem lifted (os : Os) (started : os.Started) (H : Type) (enc : TypeId × Value → H) :
    ReturnsInHanded {} Tryd.checked os 6 .any (fun w args => (Rows.frameFoundSpec.pre enc Tryd.prog Tryd.f6 [] false w args ∧ laidMetH Tryd.prog laid1 w) ∧ sizedMet enc Tryd.prog Tryd.f6 (OpenSpec.ofChange Rows.frameFoundSpec) false w args)
      (Rows.frameFoundSpec.post enc Tryd.prog Tryd.f6 false true false false) := by
  refine returnsInHanded_of_change_and (C := Tryd.checked) (X := fun w _ => laidMetH Tryd.prog laid1 w) (fun _ _ _ hh h => h.of_heap hh) own started (by kernel_rfl) Tryd.func6
    (ChangeSpec.witness_shaped (enc := enc) (C := Tryd.checked) (os := os) (X := fun w _ => laidMetH Tryd.prog laid1 w) false (World.doorLaid Tryd.prog 400 os) #[.slice none 0 0, .slice none 0 0, .slice none 0 0] 8 rfl (World.shaped_of_RefB (by kernel_rfl) (by kernel_rfl)) (by kernel_rfl) (by kernel_rfl) (by kernel_rfl) (door_met os _)) ?_
  intro W base args ds gs before hval0 hW _ _ hL _
  have hval : ∀ (j : Nat) t v, Tryd.f6.params[j]? = some t → args[j]? = some v → Value.okWide Tryd.prog W .any base t v := hval0
  have hW' := hW
  obtain ⟨p, q, hA0, hV, rfl, hfz, hnd⟩ := hW
  have hA : DataW.TrodAll enc Tryd.prog W 0 (fun _ => true) true Tryd.f6.params.toList args.toList ds p := hA0
  rw [Tryd.params6] at hA hval
  obtain ⟨v0, vs0, d0, ds0, p0, q0, hargs, rfl, rfl, h0, r0⟩ := trodAll_cons hA
  obtain ⟨v1, vs1, d1, ds1, p1, q1, rfl, rfl, rfl, h1, r1⟩ := trodAll_cons r0
  obtain ⟨v2, vs2, d2, ds2, p2, q2, rfl, rfl, rfl, h2, r2⟩ := trodAll_cons r1
  obtain ⟨rfl, rfl, rfl⟩ := trodAll_nil r2
  obtain rfl : args = #[v0, v1, v2] := by cases args; simp_all
  obtain ⟨rfl, rfl⟩ := trodVars_none hV
  have k0 := h0
  have lt0 : ∀ x ∈ p0, x.block < W.heap.size := by obtain ⟨m, hm⟩ := k0; exact DataW.trod_lt m _ _ _ hm
  obtain ⟨a0, len0, cap0, rfl⟩ := okWide_slice Tryd.underlying22 (hval 0 22 v0 rfl rfl)
  obtain ⟨L0, w0⟩ : ∃ L, Come W a0 len0 cap0 L := by
    obtain ⟨fuel, hf⟩ := h0
    simp [Value.cells] at hf
    obtain ⟨a, len, cap, L, e, _, hC⟩ := come_trod hf
    injection e with e1 e2 e3
    subst e1 e2 e3
    exact ⟨L, hC⟩
  have k1 := h1
  have lt1 : ∀ x ∈ p1, x.block < W.heap.size := by obtain ⟨m, hm⟩ := k1; exact DataW.trod_lt m _ _ _ hm
  obtain ⟨a1, len1, cap1, rfl⟩ := okWide_slice Tryd.underlying31 (hval 1 31 v1 rfl rfl)
  obtain ⟨l1, w1, o1, n1⟩ := open_msgs h1
  have k2 := h2
  have lt2 : ∀ x ∈ p2, x.block < W.heap.size := by obtain ⟨m, hm⟩ := k2; exact DataW.trod_lt m _ _ _ hm
  obtain ⟨a2, len2, cap2, rfl⟩ := okWide_slice Tryd.underlying22 (hval 2 22 v2 rfl rfl)
  obtain ⟨L2, w2⟩ : ∃ L, Come W a2 len2 cap2 L := by
    obtain ⟨fuel, hf⟩ := h2
    simp [Value.cells] at hf
    obtain ⟨a, len, cap, L, e, _, hC⟩ := come_trod hf
    injection e with e1 e2 e3
    subst e1 e2 e3
    exact ⟨L, hC⟩
  clear hA0 hval0
  refine (walk a0 len0 cap0 L0 a1 len1 cap1 l1 a2 len2 cap2 L2 W (of_laid hL) w0 w1 o1 n1 w2).mono fun e W' ⟨he, bel⟩ => ?_
  subst he
  exact ⟨_, rfl, _, _, _, [], _, [], hW', trodAll_mk1 (shut_bool Tryd.underlying4 _), (trodAll_cons_mk (Below.trod laidOut (by kernel_rfl) (of_decide_eq_true (by kernel_rfl)) k0 bel lt0) (trodAll_cons_mk (Below.trod laidOut (by kernel_rfl) (of_decide_eq_true (by kernel_rfl)) k1 bel lt1) (trodAll_cons_mk (Below.trod laidOut (by kernel_rfl) (of_decide_eq_true (by kernel_rfl)) k2 bel lt2) trodAll_mk0))), rfl, bel.frame _, fun h => by cases h⟩

theorem over : Rows.frameFoundRow.holds Tryd.pinned (OpenSpec.ofChange Rows.frameFoundSpec) :=
  OpenClaim.holds_of_wide 6 Tryd.f6 rfl rfl rfl rfl rfl rfl rfl ⟨rfl, rfl, rfl, rfl, rfl⟩ rfl rfl rfl rfl rfl (by kernel_rfl) Tryd.func6 (by kernel_rfl)
    (of_decide_eq_true (by kernel_rfl)) (by unfold Func.isWrapper; first | (rw [if_pos (by decide +kernel)]; kernel_rfl) | (rw [if_neg (by decide +kernel)]; exact ⟨rfl, rfl⟩))
    (fun os started H enc _ => lifted os started H enc)

end Go.Proofs.YtflehhliddcfgaaDoor.frameFound
namespace Go.Proofs.YtflehhliddcfgaaDoor
open Go
/-- The given statement: the tied card. -/
theorem frameFound_holds : Rows.FrameFoundCardSaid :=
  Claim7.holds_tied_plain_at .later [] [.data] true (true, "b6d3ccd65e86aaf9af8f2caa1f26db8f9516de964096a69fb383989cbd7168b9") false
    frameFound.over (fun _ h => by cases h) (by kernel_rfl) (fun _ h => by cases h) frameFound_row_tie rfl ⟨rfl, rfl⟩ (by kernel_rfl) rfl
    (fun f fn hf hfn => by
      obtain rfl : f = 6 := Option.some.inj ((show Tryd.prog.funcNamed "stopline/stoplinelaw04.FrameFound" = some 6 by kernel_rfl).symm.trans hf) |>.symm
      obtain rfl : fn = Tryd.f6 := (Option.some.inj (Tryd.func6.symm.trans hfn)).symm
      exact ⟨by kernel_rfl, fun j t ht => by
        rw [Tryd.params6] at ht
        have hm : t ∈ [22, 31, 22] := by
          have := Array.mem_of_getElem? ht
          first | (simpa [or_comm] using this) | (simp at this ⊢; omega)
        have hall : ([22, 31, 22].all fun u => !Tryd.prog.wantsStandIn u) = true := by kernel_rfl
        exact (show Tryd.prog.wantsStandIn t = false by simpa using List.all_eq_true.1 hall t hm)⟩)
    (by kernel_rfl)
#print axioms frameFound_holds
end Go.Proofs.YtflehhliddcfgaaDoor
