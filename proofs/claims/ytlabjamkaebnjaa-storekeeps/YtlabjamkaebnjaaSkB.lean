/-
  THE DOCUMENT's Parts: its answer is new memory.
-/
import Derived.Test.YtlabjamkaebnjaaSSiGJ
import Derived.Test.YtlabjamkaebnjaaSto4J
namespace Go.Proofs.Ytlabjamkaebnjaa
open Go.RowKit Go.Lib Go.Deep
set_option linter.unusedVariables false
set_option linter.unusedSimpArgs false

/-- What the document's Parts answers: new memory. -/
def DPartsF (w : World) (L : List Nat) (e : Ending) (w' : World) : Prop := Kept w w' none ∧ ((partsB L = true ∧ ∃ a c, e = .returned (.tuple #[.slice a (plansM (L, false)).1.length c, .int .i64 0]) ∧ PlF w' w.heap.size a (plansM (L, false)).1.length c (plansM (L, false)).1) ∨ (partsB L = false ∧ e = .returned (.tuple #[.slice none 0 0, .int .i64 8])))
theorem PlS.plF {w : World} {base : Nat} {v : Value} {l : List Pl} (h : PlS w base v l) (hr : ∀ p ∈ l, i64B p.cycle ∧ i64B p.offset) : ∃ a c, v = .slice a l.length c ∧ PlF w base a l.length c l := by
  have hlt := h.lt
  obtain ⟨r, h1, h2, h3⟩ := h.ex
  obtain ⟨a, c, e, hl, hc, _⟩ := lie_own (by omega) h1
  refine ⟨a, c, e, ⟨⟨r, hl, fun i hi => ⟨h2 i hi, fun x hx => (h3 i hi x hx).2.2⟩⟩, rfl, hc, hr, fun x hx => ?_⟩⟩
  subst hx
  exact (hlt x.block (by rw [e]; rfl)).1
set_option maxRecDepth 100000 in
set_option maxHeartbeats 4000000 in
theorem dpartsF_any {w : World} {a : Option Addr} {n c : Nat} {L : List Nat} (h : Come w a n c L) : Calls Try.prog 58 #[.slice a n c] w (DPartsF w L) := by
  have HBY := Hid.mk' h.by_
  have HLT := Hid.mk' h.by_.lt
  have kA : Kept w (w.alloc (.cells #[.slice a n c, .bool false] 135)) none := Kept.alloc _ _ _ _ _
  have qB := bxK_alloc w #[.slice a n c, .bool false] 135
  have hlt : ∀ x, a = some x → 0 < n → x.block < w.heap.size := fun x hx hn => by
    obtain ⟨bb, oo, e, hb, _⟩ := h.by_.at_ hn
    rw [hx] at e
    injection e with e
    rw [e]; exact hb
  have hD : Drd (w.alloc (.cells #[.slice a n c, .bool false] 135)) (w.heap.size + 1) w.heap.size (L, false) := ⟨⟨a, n, c, qB.cell (i := 0) (by simp), ⟨h.by_.kept kA, h.nil, h.room, h.max⟩, fun hp x hx => by have := hlt x hx hp; omega⟩, qB.cell (i := 1) (by simp), qB.frozen 0, qB.frozen 1, by omega⟩
  have zA : (w.alloc (.cells #[.slice a n c, .bool false] 135)).heap.size = w.heap.size + 1 := by simp
  obtain ⟨WA, hWA⟩ : ∃ WA, w.alloc (.cells #[.slice a n c, .bool false] 135) = WA := ⟨_, rfl⟩
  rw [hWA] at kA hD zA
  have HD := Hid.mk' hD
  have HK := Hid.mk' kA
  have HZ := Hid.mk' zA
  clear h kA qB hlt hD zA
  go_enter Try.func58, Try.ntmps58
  go_wp2_with (first | rw [hWA])
  go_at_call 78
  refine (rplans_any HD.out (by rw [HZ.out]; exact Nat.le_refl _)).mono ?_
  rintro e w2 ⟨v, l, s', rfl, hP⟩
  obtain ⟨a2, c2, hv, hPl⟩ := hP.pl.plF (fun p hp => by have := hP.typ p hp; unfold tickP at this; unfold i64B; omega)
  subst hv
  have rb := hP.rd.c1
  have HP := Hid.mk' hP
  have HPL := Hid.mk' hPl
  have K02 : Hid (Kept w w2 none) := kept_two HK.out hP.kept (fun g e => by injection e with e; exact .inr (by omega))
  have HBD := Hid.mk' (dparts_no HLT.out hP)
  have HTX := Hid.mk' (textOf_eq (wholeL_lt l) HLT.out)
  obtain ⟨sl, sb⟩ := s'
  dsimp only at rb HBD
  clear hP hPl hWA
  cases sb with
  | true =>
    have HB := Hid.mk' (HBD.out (.inl rfl))
    go_wp2
    go_ret2
    exact ⟨K02.out, .inr ⟨HB.out, rfl⟩⟩
  | false =>
    go_wp2_with (fail)
    go_at_call 50
    refine (rwhole_any HPL.out.plans).mono ?_
    rintro e w3 ⟨a3, c3, rfl, hm3, hk3⟩
    have t1 := run_text (hm3.by (wholeL_lt l)) c3
    have t2 := run_text (HBY.out.kept (K02.out.tr hk3)) c
    by_cases hE : wholeE l = 0
    · by_cases hw : wholeL l = L
      · have ht : ((textOf (wholeL l)).toList == (textOf L).toList) = true := by rw [HTX.out]; exact decide_eq_true hw
        have HGD : Hid (DPartsF w L (.returned (.tuple #[.slice a2 l.length c2, .int .i64 0])) w3) := by
          show DPartsF _ _ _ _
          obtain ⟨p1, p2⟩ := parts_whole hE
          rw [hw] at p1 p2
          refine ⟨K02.out.tr hk3, .inl ⟨p1, a2, c2, by rw [p2], ?_⟩⟩
          rw [p2]
          exact (HPL.out.kept hk3).mono (by rw [HZ.out]; omega)
        rw [hE]
        generalize (wholeL l).length = q at *
        generalize textOf (wholeL l) = T1 at *
        generalize textOf L = T2 at *
        clear HTX hw HBD hm3 hE
        go_wp2
        go_ret2
        exact HGD.out
      · have HB := Hid.mk' (HBD.out (.inr (.inr hw)))
        have ht : ((textOf (wholeL l)).toList == (textOf L).toList) = false := by rw [HTX.out]; exact decide_eq_false hw
        rw [hE]
        generalize (wholeL l).length = q at *
        generalize textOf (wholeL l) = T1 at *
        generalize textOf L = T2 at *
        clear HTX hw HBD hm3 hE
        go_wp2
        go_ret2
        exact ⟨K02.out.tr hk3, .inr ⟨HB.out, rfl⟩⟩
    · have HB := Hid.mk' (HBD.out (.inr (.inl hE)))
      have hEb : (wholeE l != 0) = true := by simpa using hE
      generalize wholeE l = z at *
      generalize (wholeL l).length = q at *
      clear HBD hm3 hE t1 t2
      go_wp2
      go_ret2
      exact ⟨K02.out.tr hk3, .inr ⟨HB.out, rfl⟩⟩

end Go.Proofs.Ytlabjamkaebnjaa
