/-
  THE CONTRACT of the document's Reader.Number, for greater bounds (made by a program).
-/
import Derived.Test.YtnmfigcemknjbaaSRefN
namespace Go.Proofs.Ytnmfigcemknjbaa
open Go.RowKit Go.Lib Go.Deep
set_option linter.unusedVariables false
set_option linter.unusedSimpArgs false

set_option maxRecDepth 100000 in
set_option maxHeartbeats 1000000 in
theorem rnumL_any {w : World} {H b : Nat} {s : Rd} (h : Drd w H b s) (most : Nat) (hm : most ≤ 4611686018427387904) : Calls Try.prog 47 #[.pointer (some ⟨b, 0, none⟩), .int .i64 (most : Int)] w fun e w' => e = .returned (.int .i64 ((dnM most s).1 : Int)) ∧ Drd w' H b (dnM most s).2 ∧ Kept w w' (some b) := by
  have HR := Hid.mk' h
  obtain ⟨a, n, c, h1, h2, h3⟩ := h.ex
  have c1 := h.c1
  have f0 := h.f0
  have f1 := h.f1
  have HC := Hid.mk' h2
  have HX := Hid.mk' h3
  have hnN := rdN_lt s.1
  have hroom := h2.room
  have hcap := h2.max
  have hwm : IntKind.u64.wrap (most : Int) = (most : Int) := by rw [IntKind.wrap_u64]; omega
  obtain ⟨L, bd⟩ := s
  dsimp only at *
  clear h h2 h3
  cases hok : okR L with
  | false =>
    have hE : dnM most (L, bd) = (0, (L, true)) := dnM_no (by rw [hok]; rfl)
    rw [hE]
    obtain ⟨d1, d2, d3⟩ := rd_none (L := L) (by rw [hok]; decide)
    go_enter Try.func47, Try.ntmps47
    go_wp2_with (go_at_call 58; refine (rread_any HC.out.by_).mono ?_; rintro e w2 ⟨rfl, m, rfl⟩; rw [d1, d2, d3])
    go_ret
    exact ⟨rfl, (HR.out.kept (Kept.drewN _ _ none) (fun i e => by cases e)).bad, (Kept.drewN _ _ _).tr (dkept_set _ _ _ _)⟩
  | true =>
    obtain ⟨d1, d2, d3⟩ := rd_some (L := L) hok
    have hro := read_only L HC.out.by_.lt hok
    have hsz := HC.out.by_.size
    have hkn : rdK L ≤ n := by have := hro.2.2.1; omega
    have hk1 := hro.2.1
    have d3' : ((rdE L : Nat) : Int) = 0 := by rw [d3]; rfl
    have HSZ := Hid.mk' hsz
    clear d1 d2 d3 hro hsz
    by_cases hle : rdN L ≤ most
    · have hE : dnM most (L, bd) = (rdN L, (L.drop (rdK L), bd)) := dnM_yes (by rw [hok]; simp [hle])
      rw [hE]
      clear hE
      obtain ⟨bb, off, rfl, hbb, _⟩ := HC.out.by_.at_ (by omega)
      generalize hK : rdK L = K at *
      have HK := Hid.mk' hK
      clear hK
      generalize hNN : rdN L = N at *
      have HN := Hid.mk' hNN
      clear hNN
      have hdrop : ∀ m, Drd (w.drewN m) H b (L, bd) := fun m => HR.out.kept (Kept.drewN _ _ none) (fun i e => by cases e)
      have HD := Hid.mk' hdrop
      have hCm : ∀ m, Come (w.drewN m) (some ⟨bb, off + K, none⟩) (n - K) (c - K) (L.drop K) := fun m => ⟨(HC.out.by_.ddrop K hkn).drewN m, fun e => (nomatch e), by omega, by omega⟩
      have HCm := Hid.mk' hCm
      have hXm : 0 < n - K → ∀ x, some (⟨bb, off + K, none⟩ : Addr) = some x → x.block < H ∧ x.block ≠ b := fun hp x hx => by
        injection hx with hx
        subst hx
        exact HX.out (by omega) ⟨bb, off, none⟩ rfl
      have HXm := Hid.mk' hXm
      have hwn : IntKind.i64.wrap (N : Int) = (N : Int) := by simp [IntKind.wrap, IntKind.bits, IntKind.signed]; omega
      clear hdrop hCm hXm
      by_cases hcK : K = c
      · have hnK : n = K := by omega
        have hL0 : L.drop K = [] := by rw [List.drop_eq_nil_iff]; have := HSZ.out; omega
        subst hnK
        subst hcK
        rw [hL0]
        clear hL0 HCm HXm
        go_enter Try.func47, Try.ntmps47
        go_wp2_with (go_at_call 58; refine (rread_any HC.out.by_).mono ?_; rintro e w2 ⟨rfl, m, rfl⟩; rw [HK.out, HN.out, d3'])
        all_goals
          go_ret
          exact ⟨rfl, (HD.out _).set ⟨By.nil _ _, fun e => (by first | rfl | cases e), Nat.le_refl _, by omega⟩ (fun hp => absurd hp (by omega)), (Kept.drewN _ _ _).tr (dkept_set _ _ _ _)⟩
      · have hcK2 : ¬ c = K := fun e => hcK e.symm
        have hcK3 : K < c := by omega
        go_enter Try.func47, Try.ntmps47
        go_wp2_with (go_at_call 58; refine (rread_any HC.out.by_).mono ?_; rintro e w2 ⟨rfl, m, rfl⟩; rw [HK.out, HN.out, d3'])
        go_ret
        exact ⟨rfl, (HD.out _).set (HCm.out _) HXm.out, (Kept.drewN _ _ _).tr (dkept_set _ _ _ _)⟩
    · have hE : dnM most (L, bd) = (0, (L, true)) := dnM_no (by rw [hok]; simp [hle])
      rw [hE]
      have hgt : most < rdN L := by omega
      go_enter Try.func47, Try.ntmps47
      go_wp2_with (go_at_call 58; refine (rread_any HC.out.by_).mono ?_; rintro e w2 ⟨rfl, m, rfl⟩; rw [d3'])
      go_ret
      exact ⟨rfl, (HR.out.kept (Kept.drewN _ _ none) (fun i e => by cases e)).bad, (Kept.drewN _ _ _).tr (dkept_set _ _ _ _)⟩

end Go.Proofs.Ytnmfigcemknjbaa
