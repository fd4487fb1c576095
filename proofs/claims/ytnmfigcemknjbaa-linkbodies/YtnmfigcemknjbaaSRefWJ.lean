/-
  Texts joined: some of those that the proofs of this seat stand on.
-/
import Derived.Test.YtnmfigcemknjbaaWorld
import Derived.Test.YtnmfigcemknjbaaJoin
import Derived.Test.YtnmfigcemknjbaaRefNum
import Derived.Test.YtnmfigcemknjbaaMaths
import Derived.Test.YtnmfigcemknjbaaSSiteB
import Derived.Test.YtnmfigcemknjbaaSFitsJ
import Derived.Deep.RegionHeldLaw
import Derived.Test.YtnmfigcemknjbaaSBitsJ
/-
  Of the text RefW: what this stage needs (culled by a program).
-/
namespace Go.Proofs.Ytnmfigcemknjbaa
open Go.RowKit Go.Lib Go.Deep
set_option linter.unusedVariables false
set_option linter.unusedSimpArgs false

theorem By.some_of {w : World} {a : Option Addr} {n : Nat} {L : List Nat} (h : By w a n L) (hp : 0 < L.length) : ∃ x, a = some x ∧ n = L.length := by
  have hs := h.size
  obtain ⟨b, off, e, _⟩ := h.at_ (by omega)
  exact ⟨_, e, by omega⟩

set_option maxRecDepth 100000 in
set_option maxHeartbeats 1000000 in
theorem rsmalls_any {w : World} {b : Option Addr} {m d : Nat} {l : List Int} (hI : Ints w b m d l) (hpos : ∀ x ∈ l, 0 ≤ x) (hlen : m ≤ 1099511627776) :
    Calls Try.prog 56 #[.slice b m d] w fun e w' => ∃ a' c', e = .returned (.slice a' (smlI l).length c') ∧ Mine w' w.heap.size a' (smlI l).length c' (smlI l) ∧ Kept w w' none := by
  have HI := Hid.mk' hI
  have HPOS := Hid.mk' hpos
  have hsz := hI.size
  have HSZ := Hid.mk' hsz
  have hrng := hI.rng
  have HR := Hid.mk' hrng
  clear hI hpos hsz hrng
  go_enter Try.func56, Try.ntmps56
  go_wp2
  go_loopw [3, 4] (fun s i wr => ∃ k : Nat, k ≤ m ∧ i = .int .i64 k ∧ ∃ a1 n1 c1, s = .slice a1 n1 c1 ∧ n1 = (smlI (l.take k)).length ∧ n1 ≤ 10 * k ∧ Mine wr w.heap.size a1 n1 c1 (smlI (l.take k)) ∧ Kept w wr none) (fun _ i _ => m - (intOf i).toNat)
  case atStart => exact ⟨0, Nat.zero_le _, rfl, none, 0, 0, rfl, by simp [smlI], by omega, by simpa [smlI] using Mine.empty _ _, Kept.refl _ _⟩
  case round =>
    obtain ⟨k, hk, rfl, a1, n1, c1, rfl, hn1, hle, hMi, hkw⟩ := hrel
    have HMI := Hid.mk' hMi
    have HN1 := Hid.mk' hn1
    have HKW := Hid.mk' hkw
    clear hMi hn1
    by_cases hlt : k < m
    · obtain ⟨bi, oi, rfl, hbi, hci⟩ := (HI.out.kept hkw).at_ (by omega)
      have kc := hci k hlt
      have hkl : k < l.length := by have := HSZ.out; omega
      have hv0 := HPOS.out (l.getD k 0) (getD_mem hkl)
      have hv1 := (HR.out (l.getD k 0) (getD_mem hkl)).2
      have hst : smlI (l.take (k + 1)) = smlI (l.take k) ++ sml (l.getD k 0).toNat := by rw [take_snocI hkl, smlI_snoc]
      have HST := Hid.mk' hst
      have hs10 := sml_len10 (l.getD k 0).toNat (by omega)
      have hsp := sml_pos (l.getD k 0).toNat
      clear hci hst hkw
      generalize hv : l.getD k 0 = v at *
      clear hv
      obtain ⟨q, rfl⟩ : ∃ q : Nat, v = (q : Int) := ⟨v.toNat, by omega⟩
      rw [Int.toNat_natCast] at *
      have hwr := HKW.out.size
      go_wp2_with (first
        | (have hgo := O2; clear hgo; at_builtin; refine wpList_join (by rfl) _ _ (by rfl) w.heap.size (.slice a1 n1 c1) n1 (smlI (l.take k)) (by rfl) (own_keptR HMI.out.own K2.out (fun i _ => by simp)) _ _ _ (sml q) (by rfl) O2.out (fun e => by cases e) (by omega) (by have := K2.out.size; omega) ?_; intro a3 c3 w3 hm3 hg3)
        | (go_at_call 46; refine (rsmall_any q _ (by omega)).mono ?_; rintro e w2 ⟨a2, k2, c2, rfl, ho2, hk2⟩; obtain ⟨x2, rfl, rfl⟩ := ho2.some_of hsp; have O2 := Hid.mk' ho2; have K2 := Hid.mk' hk2; clear ho2 hk2))
      go_roundw
      case rel =>
        refine ⟨k + 1, by omega, by go_num, a3, _, c3, rfl, ?_, by omega, ?_, ?_⟩
        · rw [HST.out, List.length_append, HN1.out]
        · rw [HST.out]; exact hm3
        · exact (HKW.out.tr K2.out).newRow hg3 HMI.out.new
      case measure => simp [intOf]; omega
    · have hkk : l.take k = l := List.take_of_length_le (by have := HSZ.out; omega)
      rw [hkk] at HMI HN1
      have e := HN1.out
      subst e
      go_wp2
      go_ret
      exact ⟨a1, c1, rfl, HMI.out, HKW.out⟩

end Go.Proofs.Ytnmfigcemknjbaa

/-
  Of the text RefG: what this stage needs (culled by a program).
-/
namespace Go.Proofs.Ytnmfigcemknjbaa
open Go.RowKit Go.Lib Go.Deep
set_option linter.unusedVariables false
set_option linter.unusedSimpArgs false

theorem rin_any (n lo hi : Int) (w : World) : Calls Try.prog 57 #[.int .i64 n, .int .i64 lo, .int .i64 hi] w fun e w' => e = .returned (.bool (inB n lo hi)) ∧ w' = w := by
  go_enter Try.func57, Try.ntmps57
  go_wp2
  all_goals
    go_ret
    refine ⟨?_, rfl⟩
    simp [inB, *] <;> (first | omega | (intros; omega))
theorem rin_is {n lo hi : Int} {b : Bool} {w : World} (h : inB n lo hi = b) : Calls Try.prog 57 #[.int .i64 n, .int .i64 lo, .int .i64 hi] w fun e w' => e = .returned (.bool b) ∧ w' = w := by
  rw [← h]; exact rin_any n lo hi w
/-- No list of it is long. -/
structure Few (S : St) : Prop where
  g : S.groups.length ≤ 40
  a : S.apart.length ≤ 40
  b : S.between.length ≤ 40
  p : S.phases.length ≤ 40
  e : S.eyes.length ≤ 60
  l : S.plans.length ≤ 40
  br : ∀ i, i < S.between.length → (S.between.getD i []).length ≤ 40
  lr : ∀ i, i < S.plans.length → (S.plans.getD i q0).splits.length ≤ 40
def GreatP (S : St) (w : World) (e : Ending) (w' : World) : Prop := ∃ g, e = .returned (.bool g) ∧ (g = false → Few S) ∧ Kept w w' none
theorem GreatP.of {S : St} {w w' : World} (g : Bool) (h : g = false → Few S) (k : Kept w w' none) : GreatP S w (.returned (.bool g)) w' := ⟨g, rfl, h, k⟩
end Go.Proofs.Ytnmfigcemknjbaa

