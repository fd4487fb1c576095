/-
  THE CONTRACTS of the laws' of, alive, heavy.
-/
import Derived.Test.YtnmfigcemknjbaaLnkC
namespace Go.Proofs.Ytnmfigcemknjbaa
open Go.RowKit Go.Lib Go.Deep
set_option linter.unusedVariables false
set_option linter.unusedSimpArgs false

theorem lnext_any {w : World} {la : Option Addr} {n c : Nat} {l : List Msg} (s : Lk) (h : Ms w la n l) : Calls Try.prog 9 #[lkV s, .slice la n c] w fun e w' => NxP w s l e w' := by
  by_cases hm : mayK s
  · by_cases hE : ckE l = 0
    · exact lnext_ok s h hm hE
    · refine lnext_err s h hm (ckE l) rfl (by omega) ?_
      unfold ckE
      split
      · decide
      · split <;> decide
  · exact lnext_bad s hm
/-- Numbers that lie somewhere. -/
structure Us (w : World) (a : Option Addr) (n : Nat) (l : List Nat) : Prop where
  size : l.length = n
  at_ : 0 < n → ∃ b off, a = some ⟨b, off, none⟩ ∧ b < w.heap.size ∧ ∀ i, i < n → w.cell? ⟨b, off + i, none⟩ = some (.int .u32 ((l.getD i 0 : Nat) : Int))
theorem Us.kept {w w' : World} {a : Option Addr} {n : Nat} {l : List Nat} (h : Us w a n l) (k : Kept w w' none) : Us w' a n l := by
  refine ⟨h.size, fun hp => ?_⟩
  obtain ⟨b, off, rfl, hb, hc⟩ := h.at_ hp
  exact ⟨b, off, rfl, Nat.lt_of_lt_of_le hb k.size, fun i hi => (cell_kl k hb).trans (hc i hi)⟩
theorem us_alloc (w : World) (l : List Nat) (cs : Array Value) (t : TypeId) (h : ∀ i, i < l.length → cs[i]? = some (.int .u32 ((l.getD i 0 : Nat) : Int))) : Us (w.alloc (.cells cs t)) (some ⟨w.heap.size, 0, none⟩) l.length l :=
  ⟨rfl, fun hp => ⟨w.heap.size, 0, rfl, by simp, fun i hi => by rw [Nat.zero_add, World.cell?_alloc_mark]; exact h i hi⟩⟩
def ofL (l : List Nat) : List Msg := l.map fun q => (2, q, [])
theorem ofL_step {l : List Nat} {k : Nat} (h : k < l.length) : ofL (l.take (k + 1)) = ofL (l.take k) ++ [(2, l.getD k 0, [])] := by
  unfold ofL
  rw [List.take_add_one, List.getElem?_eq_getElem h, List.map_append]
  congr 1
  simp [h]
theorem ofL_len (l : List Nat) : (ofL l).length = l.length := by simp [ofL]
def OfP (w : World) (l : List Nat) (e : Ending) (w' : World) : Prop := ∃ v, e = .returned v ∧ Mw w w' (ofL l) v
set_option maxRecDepth 100000 in
set_option maxHeartbeats 4000000 in
theorem of_any {w : World} {a : Option Addr} {n c : Nat} {l : List Nat} (h : Us w a n l) (hn : n ≤ 1000) : Calls Try.prog 10 #[.slice a n c] w fun e w' => OfP w l e w' := by
  have HU := Hid.mk' h
  clear h
  go_enter Try.func10, Try.ntmps10
  go_wp2
  go_loopw [3, 4] (fun v i wr => ∃ k : Nat, k ≤ n ∧ i = .int .i64 k ∧ Hid (Mw w wr (ofL (l.take k)) v)) (fun _ i _ => n - (intOf i).toNat)
  case atStart => exact ⟨0, Nat.zero_le _, rfl, Hid.mk' (Mw.nil w)⟩
  case round =>
    obtain ⟨k, hk, rfl, HT⟩ := hrel
    by_cases hlt : k < n
    case neg =>
      have e : k = n := by omega
      subst e
      have HE : Hid (l.take k = l) := Hid.mk' (List.take_of_length_le (by rw [HU.out.size]; exact Nat.le_refl _))
      go_wp2
      go_ret
      exact ⟨_, rfl, by have := HT.out; rwa [HE.out] at this⟩
    obtain ⟨b, off, rfl, hb, hc⟩ := (HU.out.kept HT.out.kept).at_ (by omega)
    have p0 := hc k hlt
    clear hc
    have HST := Hid.mk' (ofL_step (l := l) (k := k) (by rw [HU.out.size]; exact hlt))
    obtain ⟨v', W5, hrun, hX, _⟩ := (HT.out.keptN (Kept.alloc wr (msC (2, l.getD k 0, []) none 0) 47 (0, 0) none)).app (m := (2, l.getD k 0, [])) (c := 1) (mb_alloc wr (2, l.getD k 0, []) none 0) (mine_nil _ _) (by rw [ofL_len, List.length_take]; omega) 25
    have HR := Hid.mk' hrun
    have HX := Hid.mk' hX
    clear hrun hX
    generalize l.getD k 0 = q at *
    go_wp2_with (at_builtin; refine wpList_app (by rfl) _ _ _ (by rfl) (by rfl) (by rfl) HR.out ?_)
    go_roundw
    case rel => exact ⟨k + 1, by omega, by go_num, by rw [HST.out]; exact HX⟩
    case measure => simp [intOf]; omega
theorem ofL_ok {l : List Nat} (h : ∀ q ∈ l, q < 4294967296) : ∀ m ∈ ofL l, Mok m := by
  intro m hm
  unfold ofL at hm
  simp only [List.mem_map] at hm
  obtain ⟨q, hq, rfl⟩ := hm
  exact ⟨(by decide : 2 < 256), h q hq, fun x hx => nomatch hx⟩
set_option maxRecDepth 100000 in
set_option maxHeartbeats 4000000 in
theorem alive_any (w : World) : Calls Try.prog 16 #[] w fun e w' => e = .returned (.bool true) ∧ Kept w w' none := by
  have HU : Hid (Us (w.alloc (.cells #[.int .u32 5, .int .u32 7, .int .u32 6, .int .u32 7] 22)) (some ⟨w.heap.size, 0, none⟩) 4 [5, 7, 6, 7]) := Hid.mk' (us_alloc w [5, 7, 6, 7] #[.int .u32 5, .int .u32 7, .int .u32 6, .int .u32 7] 22 (fun i hi => by
    have : i = 0 ∨ i = 1 ∨ i = 2 ∨ i = 3 := by simp at hi; omega
    rcases this with rfl | rfl | rfl | rfl <;> rfl))
  go_enter Try.func16, Try.ntmps16
  go_wp2_with (first
    | (have hgo := hO; clear hgo; go_at_call 9; refine (lnext_any (n := 4) lk0 (hO.ms (ofL_ok (l := [5, 7, 6, 7]) (by decide)))).mono ?_; rintro e w2 ⟨v2, rfl, hN⟩; have hk := hN.kept; have hT : nxT lk0 (ofL [5, 7, 6, 7]) = ofL [5, 7] := (by decide +kernel); have hL : nxL lk0 (ofL [5, 7, 6, 7]) = ⟨true, 7, 0⟩ := (by kernel_rfl); have hE : nxE lk0 (ofL [5, 7, 6, 7]) = 0 := (by decide +kernel); rw [hT] at hN; rw [hL, hE]; obtain ⟨a2, c2, hv2, _⟩ := hN.slice; rw [show (ofL [5, 7]).length = 2 from rfl] at hv2; subst hv2; have hs := hN.ms (ofL_ok (l := [5, 7]) (by decide)); obtain ⟨b, off, m0, b0, d0, rfl, hb, e0, p1, p2, p3, _⟩ := hs.at_is (k := 0) (by decide); obtain ⟨b', off', m1, b1, d1, eb, _, e1, q1, q2, q3, _⟩ := hs.at_is (k := 1) (by decide); simp only [Option.some.injEq, Addr.mk.injEq] at eb; obtain ⟨rfl, rfl, _⟩ := eb; have f0 : ((2, 5, []) : Msg) = m0 := Option.some.inj e0; have f1 : ((2, 7, []) : Msg) = m1 := Option.some.inj e1; subst f0 f1; clear e0 e1 hT hL hE hN hs)
    | (go_at_call 10; refine (of_any HU.out (by omega)).mono ?_; rintro e w1 ⟨v1, rfl, hO⟩; obtain ⟨a1, c1, hv1, _⟩ := hO.slice; rw [show (ofL [5, 7, 6, 7]).length = 4 from rfl] at hv1; subst hv1; have hk1 := hO.kept))
  go_ret
  exact ⟨rfl, (((Kept.alloc _ _ _ _ _).tr hk1).tr hk).tr (Kept.alloc _ _ _ _ _)⟩
set_option maxRecDepth 100000 in
set_option maxHeartbeats 4000000 in
theorem heavy_any {w : World} {la : Option Addr} {n c : Nat} {l : List Msg} (h : Ms w la n l) : Calls Try.prog 17 #[.slice la n c] w fun e w' => e = .returned (.bool (hevB l)) ∧ Kept w w' none := by
  have HM := Hid.mk' h
  have hmx := h.max
  have HS := Hid.mk' h.size
  clear h
  by_cases h1 : 1100 < n
  · have HE : Hid (hevB l = true) := Hid.mk' (by unfold hevB; rw [HS.out]; simp [h1])
    go_enter Try.func17, Try.ntmps17
    go_wp2
    go_loopw [3, 4] (fun v i wr => ∃ (k : Nat) (z : Int), k ≤ n ∧ i = .int .i64 k ∧ v = .int .i64 z ∧ Hid (Kept w wr none)) (fun _ i _ => n - (intOf i).toNat)
    case atStart => exact ⟨0, 0, Nat.zero_le _, rfl, rfl, Hid.mk' (Kept.refl _ _)⟩
    case round =>
      obtain ⟨k, z, hk, rfl, rfl, HW⟩ := hrel
      by_cases hlt : k < n
      · obtain ⟨b, off, m, a, cc, rfl, hb, hm, p1, p2, p3, p4⟩ := (HM.out.kept HW.out).at_is hlt
        have hp := p4.by_.max
        clear hm p4
        by_cases hq : m.2.2.length ≤ 100000
        · go_wp2
          go_roundw
          case rel => exact ⟨k + 1, _, by omega, by go_num, rfl, HW⟩
          case measure => simp [intOf]; omega
        · go_wp2
          go_roundw
          case rel => exact ⟨k + 1, _, by omega, by go_num, rfl, HW⟩
          case measure => simp [intOf]; omega
      · go_wp2
        go_ret
        exact ⟨by rw [HE.out]; (first | (simp; done) | (simp; omega)), HW.out⟩
  · have HB : Hid (∀ k, k ≤ n → hevS (l.take k) ≤ 110000000) := Hid.mk' (fun k hk => by have := hevS_le (l.take k); rw [List.length_take] at this; omega)
    go_enter Try.func17, Try.ntmps17
    go_wp2
    go_loopw [3, 4] (fun v i wr => ∃ (k : Nat), k ≤ n ∧ i = .int .i64 k ∧ v = .int .i64 (hevS (l.take k)) ∧ Hid (Kept w wr none)) (fun _ i _ => n - (intOf i).toNat)
    case atStart => exact ⟨0, Nat.zero_le _, rfl, rfl, Hid.mk' (Kept.refl _ _)⟩
    case round =>
      obtain ⟨k, hk, rfl, rfl, HW⟩ := hrel
      have hb1 := HB.out k hk
      by_cases hlt : k < n
      · obtain ⟨b, off, m, a, cc, rfl, hb, hm, p1, p2, p3, p4⟩ := (HM.out.kept HW.out).at_is hlt
        have hp := p4.by_.max
        have HST := Hid.mk' (hevS_step hm)
        clear hm p4
        generalize hevS (l.take k) = S at *
        by_cases hq : m.2.2.length ≤ 100000
        · go_wp2
          go_roundw
          case rel => exact ⟨k + 1, by omega, by go_num, by rw [HST.out]; go_num, HW⟩
          case measure => simp [intOf]; omega
        · go_wp2
          go_roundw
          case rel => exact ⟨k + 1, by omega, by go_num, by rw [HST.out]; go_num, HW⟩
          case measure => simp [intOf]; omega
      · have e : k = n := by omega
        subst e
        have HE : Hid (hevB l = decide (100000 < hevS (l.take k))) := Hid.mk' (by unfold hevB; rw [HS.out, List.take_of_length_le (by rw [HS.out]; exact Nat.le_refl _)]; simp [h1])
        generalize hevS (l.take k) = S at *
        by_cases hS : 100000 < S
        · have hS' : (100000 : Int) < S := by omega
          rw [decide_eq_true hS] at HE
          go_wp2
          go_ret
          exact ⟨by rw [HE.out]; (first | (simp; done) | (simp; omega)), HW.out⟩
        · have hS' : (S : Int) ≤ 100000 := by omega
          rw [decide_eq_false hS] at HE
          go_wp2
          go_ret
          exact ⟨by rw [HE.out]; (first | (simp; done) | (simp; omega)), HW.out⟩

end Go.Proofs.Ytnmfigcemknjbaa
