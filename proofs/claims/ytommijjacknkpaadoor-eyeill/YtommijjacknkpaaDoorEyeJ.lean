/-
  THE STATEMENTS' OWN ill (made by a program).
-/
import Derived.Test.YtommijjacknkpaaDoorEyeI
import Derived.DeepKeys
import Derived.Deep.QuietTactic
import Derived.BigQuiet
namespace Go.Proofs.YtommijjacknkpaaDoor
open Go.RowKit Go.Lib Go.Deep
set_option linter.unusedVariables false
set_option linter.unusedSimpArgs false

set_option maxRecDepth 100000 in
set_option maxHeartbeats 4000000 in
theorem lill_any {a : Option Addr} {n c : Nat} {L : List Bool} {w : World} (hA : Bs w a n L) (hn : n ≤ 1000) {k : Nat} (hk : k < n) (E : Ey) : Calls Tryd.prog 23 #[eyU E, .slice a n c, .int .i64 (k : Int)] w fun e w' => e = .returned (.bool (ilB E L k)) ∧ Kept w w' none := by
  obtain ⟨b, off, ea, hb, _⟩ := hA.at_ hk
  obtain ⟨p, o, f, t⟩ := E
  have HA := Hid.mk' hA
  have hC0 : ∀ i, i < n → w.cell? ⟨b, off + i, none⟩ = some (.bool (tr L i)) := fun i hi => by
    obtain ⟨b', off', e', _, hc⟩ := hA.at_ hi
    rw [ea] at e'
    injection e' with e'
    injection e' with e1 e2
    subst e1 e2
    exact hc
  have kA : Kept w (w.alloc (.cells #[.int .i64 p, .int .i64 o, .int .i64 f, .int .i64 t] 60)) none := Kept.alloc _ _ _ _ _
  have c0 : (w.alloc (.cells #[.int .i64 p, .int .i64 o, .int .i64 f, .int .i64 t] 60)).cell? ⟨w.heap.size, 1, none⟩ = some (.int .i64 o) := World.cell?_alloc_mark ..
  have c1 : (w.alloc (.cells #[.int .i64 p, .int .i64 o, .int .i64 f, .int .i64 t] 60)).cell? ⟨w.heap.size, 2, none⟩ = some (.int .i64 f) := World.cell?_alloc_mark ..
  have c2 : (w.alloc (.cells #[.int .i64 p, .int .i64 o, .int .i64 f, .int .i64 t] 60)).cell? ⟨w.heap.size, 3, none⟩ = some (.int .i64 t) := World.cell?_alloc_mark ..
  subst ea
  obtain ⟨WA, hWA⟩ : ∃ WA, w.alloc (.cells #[.int .i64 p, .int .i64 o, .int .i64 f, .int .i64 t] 60) = WA := ⟨_, rfl⟩
  rw [hWA] at kA c0 c1 c2
  have HK := Hid.mk' kA
  have e1_ : ∀ w', Kept WA w' none → w'.cell? ⟨w.heap.size, 1, none⟩ = some (.int .i64 o) := fun w' q => cell_kept0 c0 q
  have e2_ : ∀ w', Kept WA w' none → w'.cell? ⟨w.heap.size, 2, none⟩ = some (.int .i64 f) := fun w' q => cell_kept0 c1 q
  have e3_ : ∀ w', Kept WA w' none → w'.cell? ⟨w.heap.size, 3, none⟩ = some (.int .i64 t) := fun w' q => cell_kept0 c2 q
  have HC0 : Hid (∀ w', Kept WA w' none → ∀ i, i < n → w'.cell? ⟨b, off + i, none⟩ = some (.bool (tr L i))) := fun w' q i hi => cell_kept0 (cell_kept0 (hC0 i hi) kA) q
  have HXK : Hid (∀ w', Kept WA w' none → w'.cell? ⟨b, off + k, none⟩ = some (.bool (tr L k))) := fun w' q => HC0.out w' q k hk
  obtain ⟨T, hT⟩ : ∃ T, T = tuN L k := ⟨_, rfl⟩
  have hT64 : T ≤ 64 := by rw [hT]; exact tuN_le L k
  have HTU : Hid (∀ w', Kept WA w' none → Calls Tryd.prog 36 #[.slice (some ⟨b, off, none⟩) n c, .int .i64 (k : Int)] w' fun e w'' => e = .returned (.int .i64 (T : Int)) ∧ w'' = w') := fun w' q => by rw [hT]; exact turns_any (HA.out.kept (kA.tr q)) hn hk
  obtain ⟨R0, hR0⟩ : ∃ R0, R0 = ilB ⟨p, o, f, t⟩ L k := ⟨_, rfl⟩
  have HRR : Hid (R0 = ((tr L k && decide (o ≤ (rl L k : Int))) || ((!tr L k && decide (f ≤ (rl L k : Int))) || decide (t < (T : Int))))) := by show R0 = _; rw [hR0, hT]; rfl
  rw [← hR0]
  have hK0 := Kept.refl WA none
  clear hA hC0 hT hR0 kA c0 c1 c2
  go_enter Tryd.func23, Tryd.ntmps23
  go_wp2_with (first | rw [hWA])
  go_loopw [7, 8] (fun rv iv wr => ∃ r : Nat, rv = .int .i64 (r : Int) ∧ iv = .int .i64 ((k : Int) - (r : Int)) ∧ r ≤ k + 1 ∧ Hid (∀ m, k < m + r → m ≤ k → tr L m = tr L k) ∧ Kept WA wr none) (fun rv _ _ => k + 1 - (intOf rv).toNat)
  case atStart => exact ⟨0, rfl, by go_num, by omega, fun m h1 h2 => by rw [show m = k by omega], hK0⟩
  case round =>
    obtain ⟨r, rfl, rfl, hr, HM, hkr⟩ := hrel
    have HKR := Hid.mk' hkr
    by_cases hend : r = k + 1
    · have HR : Hid (R0 = ((tr L k && decide (o ≤ (r : Int))) || ((!tr L k && decide (f ≤ (r : Int))) || decide (t < (T : Int))))) := by
        have h1 := rl_of (L := L) (s := 0) k (fun m _ h2 => by rw [Nat.zero_add] at h2 ⊢; exact HM.out m (by omega) h2) (.inl rfl)
        rw [Nat.zero_add] at h1
        show R0 = _
        rw [HRR.out, h1, hend]
      rw [show (k : Int) - (r : Int) = -1 by omega]
      clear hend HRR HM
      go_wp2
      go_quiet (fail)
      go_wp2
      have HK7 := Hid.mk' (HKR.out.tr (Kept.drewN _ nq _))
      obtain ⟨W7, hW7⟩ : ∃ W7, wr.drewN nq = W7 := ⟨_, rfl⟩
      rw [hW7] at HK7 ⊢
      clear hW7
      have hk7 := HK7.out
      cases hy : tr L k
      · rw [hy] at HR HXK
        have xk := HXK.out _ HK7.out
        by_cases hlim : f ≤ (r : Int)
        · have HR0 : Hid (R0 = true) := by show R0 = true; rw [HR.out]; simp [hlim]
          clear HR
          go_quiet (first | (go_at_call 36; refine Calls.quiet_of_same (HTU.out _ ?_); exact HK7.out.tr (Kept.drewN _ _ _)))
          go_wp2
          go_ret
          exact ⟨ret_bool (by rw [HR0.out]), (HK.out.tr HK7.out).tr (Kept.drewN _ _ _)⟩
        by_cases htu : t < (T : Int)
        · have HR0 : Hid (R0 = true) := by show R0 = true; rw [HR.out]; simp [htu]
          clear HR
          go_quiet (first | (go_at_call 36; refine Calls.quiet_of_same (HTU.out _ ?_); exact HK7.out.tr (Kept.drewN _ _ _)))
          go_wp2
          go_ret
          exact ⟨ret_bool (by rw [HR0.out]), (HK.out.tr HK7.out).tr (Kept.drewN _ _ _)⟩
        · have HR0 : Hid (R0 = false) := by show R0 = false; rw [HR.out]; simp [hlim, htu]
          clear HR
          go_quiet (first | (go_at_call 36; refine Calls.quiet_of_same (HTU.out _ ?_); exact HK7.out.tr (Kept.drewN _ _ _)))
          go_wp2
          go_ret
          exact ⟨ret_bool (by rw [HR0.out]), (HK.out.tr HK7.out).tr (Kept.drewN _ _ _)⟩
      · rw [hy] at HR HXK
        have xk := HXK.out _ HK7.out
        by_cases hlim : o ≤ (r : Int)
        · have HR0 : Hid (R0 = true) := by show R0 = true; rw [HR.out]; simp [hlim]
          clear HR
          go_quiet (first | (go_at_call 36; refine Calls.quiet_of_same (HTU.out _ ?_); exact HK7.out.tr (Kept.drewN _ _ _)))
          go_wp2
          go_ret
          exact ⟨ret_bool (by rw [HR0.out]), (HK.out.tr HK7.out).tr (Kept.drewN _ _ _)⟩
        by_cases htu : t < (T : Int)
        · have HR0 : Hid (R0 = true) := by show R0 = true; rw [HR.out]; simp [htu]
          clear HR
          go_quiet (first | (go_at_call 36; refine Calls.quiet_of_same (HTU.out _ ?_); exact HK7.out.tr (Kept.drewN _ _ _)))
          go_wp2
          go_ret
          exact ⟨ret_bool (by rw [HR0.out]), (HK.out.tr HK7.out).tr (Kept.drewN _ _ _)⟩
        · have HR0 : Hid (R0 = false) := by show R0 = false; rw [HR.out]; simp [hlim, htu]
          clear HR
          go_quiet (first | (go_at_call 36; refine Calls.quiet_of_same (HTU.out _ ?_); exact HK7.out.tr (Kept.drewN _ _ _)))
          go_wp2
          go_ret
          exact ⟨ret_bool (by rw [HR0.out]), (HK.out.tr HK7.out).tr (Kept.drewN _ _ _)⟩
    · obtain ⟨m, hm⟩ : ∃ m : Nat, (k : Int) - (r : Int) = (m : Int) := ⟨k - r, by omega⟩
      have hmk : m ≤ k := by omega
      have hmn : m < n := by omega
      have x1 := HC0.out _ hkr m hmn
      have xk := HXK.out _ hkr
      by_cases hq : tr L m = tr L k
      · have HM2 : Hid (∀ m, k < m + (r + 1) → m ≤ k → tr L m = tr L k) := fun m' h1 h2 => by
          by_cases em : m' = m
          · rw [em]; exact hq
          · exact HM.out m' (by omega) h2
        have hr1 : r + 1 ≤ k + 1 := by omega
        rw [hq] at x1
        clear hq
        rw [hm]
        generalize tr L k = y at *
        go_wp2
        go_quiet (fail)
        go_wp2
        go_roundw
        case rel => exact ⟨r + 1, by go_num, by go_num, hr1, HM2.out, HKR.out.tr (Kept.drewN _ _ _)⟩
        case measure => simp [intOf]; omega
      · have HR : Hid (R0 = ((tr L k && decide (o ≤ (r : Int))) || ((!tr L k && decide (f ≤ (r : Int))) || decide (t < (T : Int))))) := by
          have hr1 : 1 ≤ r := by
            by_cases h0 : r = 0
            · exfalso; apply hq; rw [show m = k by omega]
            · omega
          have h1 := rl_of (L := L) (s := m + 1) (r - 1) (fun m' h1 h2 => by
            rw [show m + 1 + (r - 1) = k by omega] at h2 ⊢
            exact HM.out m' (by omega) h2) (.inr (by rw [show m + 1 + (r - 1) = k by omega]; exact hq))
          rw [show m + 1 + (r - 1) = k by omega, show r - 1 + 1 = r by omega] at h1
          show R0 = _
          rw [HRR.out, h1]
        have hqb : (tr L m == tr L k) = false := by simpa using hq
        clear HRR HM hq
        rw [hm]
        generalize tr L m = z at *
        cases hy : tr L k
        all_goals rw [hy] at xk hqb HR HXK
        all_goals (cases z <;> try (exact absurd hqb (by decide)))
        all_goals clear hqb hy
        · go_wp2
          go_quiet (fail)
          go_wp2
          have HK7 := Hid.mk' (HKR.out.tr (Kept.drewN _ nq _))
          obtain ⟨W7, hW7⟩ : ∃ W7, wr.drewN nq = W7 := ⟨_, rfl⟩
          rw [hW7] at HK7 ⊢
          clear hW7
          have hk7 := HK7.out
          have xk := HXK.out _ HK7.out
          by_cases hlim : f ≤ (r : Int)
          · have HR0 : Hid (R0 = true) := by show R0 = true; rw [HR.out]; simp [hlim]
            clear HR
            go_quiet (first | (go_at_call 36; refine Calls.quiet_of_same (HTU.out _ ?_); exact HK7.out.tr (Kept.drewN _ _ _)))
            go_wp2
            go_ret
            exact ⟨ret_bool (by rw [HR0.out]), (HK.out.tr HK7.out).tr (Kept.drewN _ _ _)⟩
          by_cases htu : t < (T : Int)
          · have HR0 : Hid (R0 = true) := by show R0 = true; rw [HR.out]; simp [htu]
            clear HR
            go_quiet (first | (go_at_call 36; refine Calls.quiet_of_same (HTU.out _ ?_); exact HK7.out.tr (Kept.drewN _ _ _)))
            go_wp2
            go_ret
            exact ⟨ret_bool (by rw [HR0.out]), (HK.out.tr HK7.out).tr (Kept.drewN _ _ _)⟩
          · have HR0 : Hid (R0 = false) := by show R0 = false; rw [HR.out]; simp [hlim, htu]
            clear HR
            go_quiet (first | (go_at_call 36; refine Calls.quiet_of_same (HTU.out _ ?_); exact HK7.out.tr (Kept.drewN _ _ _)))
            go_wp2
            go_ret
            exact ⟨ret_bool (by rw [HR0.out]), (HK.out.tr HK7.out).tr (Kept.drewN _ _ _)⟩
        · go_wp2
          go_quiet (fail)
          go_wp2
          have HK7 := Hid.mk' (HKR.out.tr (Kept.drewN _ nq _))
          obtain ⟨W7, hW7⟩ : ∃ W7, wr.drewN nq = W7 := ⟨_, rfl⟩
          rw [hW7] at HK7 ⊢
          clear hW7
          have hk7 := HK7.out
          have xk := HXK.out _ HK7.out
          by_cases hlim : o ≤ (r : Int)
          · have HR0 : Hid (R0 = true) := by show R0 = true; rw [HR.out]; simp [hlim]
            clear HR
            go_quiet (first | (go_at_call 36; refine Calls.quiet_of_same (HTU.out _ ?_); exact HK7.out.tr (Kept.drewN _ _ _)))
            go_wp2
            go_ret
            exact ⟨ret_bool (by rw [HR0.out]), (HK.out.tr HK7.out).tr (Kept.drewN _ _ _)⟩
          by_cases htu : t < (T : Int)
          · have HR0 : Hid (R0 = true) := by show R0 = true; rw [HR.out]; simp [htu]
            clear HR
            go_quiet (first | (go_at_call 36; refine Calls.quiet_of_same (HTU.out _ ?_); exact HK7.out.tr (Kept.drewN _ _ _)))
            go_wp2
            go_ret
            exact ⟨ret_bool (by rw [HR0.out]), (HK.out.tr HK7.out).tr (Kept.drewN _ _ _)⟩
          · have HR0 : Hid (R0 = false) := by show R0 = false; rw [HR.out]; simp [hlim, htu]
            clear HR
            go_quiet (first | (go_at_call 36; refine Calls.quiet_of_same (HTU.out _ ?_); exact HK7.out.tr (Kept.drewN _ _ _)))
            go_wp2
            go_ret
            exact ⟨ret_bool (by rw [HR0.out]), (HK.out.tr HK7.out).tr (Kept.drewN _ _ _)⟩

end Go.Proofs.YtommijjacknkpaaDoor
