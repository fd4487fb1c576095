/-
  THE WALK of RawSums.
-/
import Derived.Test.YtpngkgfanaebcaaDoorJoin
import Derived.Test.YtpngkgfanaebcaaDoorRefSum
namespace Go.Proofs.YtpngkgfanaebcaaDoor
open Go.RowKit Go.Lib Go.Deep
set_option linter.unusedVariables false
set_option linter.unusedSimpArgs false

theorem sums_long (a : Option Addr) (len cap : Nat) (w : World) (h : 100000 < len) (h2 : len ≤ 9223372036854775807) :
    Calls Tryd.prog 4 #[.slice a len cap] w fun e w' => e = .returned (.bool true) ∧ Below w.heap.size w w' := by
  go_enter Tryd.func4, Tryd.ntmps4
  go_wp2_with fail
  go_ret
  exact ⟨rfl, Below.refl _ _⟩
set_option maxRecDepth 100000 in
set_option maxHeartbeats 1000000 in
theorem sums_main (a : Option Addr) (len cap : Nat) (L : List Nat) (w : World) (h : len ≤ 100000) (hC : Come w a len cap L) (ht : Table w) :
    Calls Tryd.prog 4 #[.slice a len cap] w fun e w' => e = .returned (.bool true) ∧ Below w.heap.size w w' := by
  have HC : Hid (Come w a len cap L) := hC
  have HT : Hid (Table w) := ht
  clear hC ht
  have hse : (((sumB L : Nat) : Int) == ((sumB L : Nat) : Int)) = true := by simp
  go_enter Tryd.func4, Tryd.ntmps4
  go_wp2_with (first
    | (at_builtin; refine wpList_join (by rfl) _ _ (by rfl) w.heap.size (.slice none 0 0) 0 [] (by rfl) (World.ownsRow_nil _ _ _ _) a len cap L (by rfl) HC.out.by_ HC.out.nil (by omega) (Nat.le_refl _) ?_; intro a' c' w1 hm hg; rw [Nat.zero_add] at hm ⊢; rw [List.nil_append] at hm; have HB := hm.by HC.out.by_.lt; have hk : Kept w w1 none := hg)
    | (go_at_call 14; refine (sum_any HB (HT.out.kept hk)).mono ?_; rintro e w2 ⟨rfl, m1, rfl⟩)
    | (go_at_call 15; refine (rsum_any ((HC.out.by_.kept hk).drewN m1)).mono ?_; rintro e w3 ⟨rfl, m2, rfl⟩)
    | (go_at_call 16; refine (rsame_yes (HB.drewN _) ((HC.out.by_.kept hk).drewN _) rfl).mono ?_; rintro e w4 ⟨rfl, m3, rfl⟩))
  go_ret
  exact ⟨rfl, (hk.tr (Kept.drewN _ _ _)).below⟩

end Go.Proofs.YtpngkgfanaebcaaDoor
