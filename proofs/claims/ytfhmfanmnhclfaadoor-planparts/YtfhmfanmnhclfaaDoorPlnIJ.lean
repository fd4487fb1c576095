/-
  Texts joined: some of those that the proofs of this seat stand on.
-/
import Derived.Test.YtfhmfanmnhclfaaDoorPlnA
import Derived.Test.YtfhmfanmnhclfaaDoorMemJ
import Derived.RegionIn
import Derived.Stop.RegionWithIn
import Derived.WalkMore
import Derived.Scope
import Derived.Deep.RegionHeld
/-
  THE CONTRACTS of plan's parts, to whatever body, and whose (made by a program).
-/
namespace Go.Proofs.YtfhmfanmnhclfaaDoor
open Go.RowKit Go.Lib Go.Deep Go.Shelf
set_option linter.unusedVariables false
set_option linter.unusedSimpArgs false
attribute [local go_sem] Oper.semAt_some

/-- A number below another one. -/
abbrev Ix (m : Nat) := { i : Nat // i < m }
def ivals {m : Nat} (l : List (Ix m)) : List Nat := l.map (·.1)
theorem ivals_snoc {m : Nat} (l : List (Ix m)) (x : Ix m) : ivals (l ++ [x]) = ivals l ++ [x.1] := by simp [ivals]
/-- Where a part begins. -/
def bgI (L : List Int) (i : Nat) : Int := sumF (fun k => L.getD k 0) i
def partsV (L : List Int) {m : Nat} (x : Ix m) : Array Value := #[.int .i64 (x.1 : Int), .int .i64 (bgI L x.1)]
/-- How a round ends: it goes on, or it does not. -/
def Yp (A B : Prop) (t : Bool) : Prop := (t = true → A) ∧ (t = false → B)
set_option maxRecDepth 100000 in
set_option maxHeartbeats 4000000 in
theorem parts1_in (q : Nat) (hq : 1 ≤ q) (l B : Nat) {a : Option Addr} {n c : Nat} {L : List Int} (W0 : World) (hA : Ints W0 a n c L) (hr : ∀ k, k ≤ n → i64B (bgI L k))
    (J Jx : List (Ix n) → World → Prop) (W : World) (c1 : W.cell? ⟨B, 0, none⟩ = some (.slice a n c))
    (hY : ∀ pre (x : Ix n) W, J pre W → pre.length < n → YieldAt Fence.wide (q - 1) Tryd.prog l (partsV L x) W fun e W' =>
      (e = .returned (.bool true) ∧ J (pre ++ [x]) W' ∧ Below W0.heap.size W W') ∨ (e = .returned (.bool false) ∧ Jx (pre ++ [x]) W'))
    (hW : Below W0.heap.size W0 W) (h0 : J [] W) :
    CallsIn Fence.wide q Tryd.prog 93 #[.func (.yield l) #[] #[], .pointer (some ⟨B, 0, none⟩)] W fun e W' => (∃ v, e = .returned v) ∧
      ((∃ ys, ivals ys = List.range n ∧ J ys W') ∨ (∃ pre : List (Ix n), (∃ k, k < n ∧ ivals pre = List.range (k + 1)) ∧ Jx pre W')) := by
  have hn9 : n ≤ 9223372036854775807 := by have := hA.cap.room; have := hA.cap.max; omega
  have HA := Hid.mk' hA
  have HR := Hid.mk' hr
  have HW := Hid.mk' hW
  have HY := Hid.mk' hY
  have H0 := Hid.mk' h0
  have k1 := c1
  clear hA hr hW hY h0 c1
  refine callsIn_of_wp Tryd.func93 rfl trivial ?_ rfl
  simp only [Tryd.ntmps93, List.size_toArray, List.length_cons, List.length_nil, Nat.reduceAdd, Nat.reduceSub, Array.replicate_succ, Array.replicate_zero, List.push_toArray, List.append_toArray, List.nil_append, List.cons_append]
  gi_wp2
  gi_loopw [3, 4, 5, 8] (fun b _ _ i wr => ∃ (k : Nat) (pre : List (Ix n)), k ≤ n ∧ i = .int .i64 k ∧ b = .int .i64 (bgI L k) ∧ ivals pre = List.range k ∧ J pre wr ∧ Below W0.heap.size W0 wr) (fun _ _ _ i _ => n - (intOf i).toNat)
  case atStart => exact ⟨0, [], by omega, rfl, rfl, rfl, H0.out, HW.out⟩
  case round =>
    obtain ⟨k, pre, hk, rfl, rfl, hpre, hJs, hnx⟩ := hrel
    have HP := Hid.mk' hpre
    have HN := Hid.mk' hnx
    clear hpre
    by_cases hlt : k < n
    · obtain ⟨fn, tmps, assign, body, hy, hRR⟩ := HY.out pre ⟨k, hlt⟩ wr hJs (by have := congrArg List.length HP.out; simp [ivals] at this; omega)
      unfold partsV at hy
      dsimp only at hy
      have hkp := Kept.of_below HN.out
      obtain ⟨b1, o1, rfl, _, hc1⟩ := (HA.out.kept hkp).at_ (by omega)
      have y1 := hc1 k hlt
      have hb1 := HR.out k hk
      have hb2 := HR.out (k + 1) (by omega)
      have HB2 : Hid (bgI L (k + 1) = bgI L k + L.getD k 0) := sumF_succ _ _
      rw [HB2.out] at hb2
      unfold i64B at hb1 hb2
      have hsum : IntKind.i64.wrap (bgI L k + L.getD k 0) = bgI L k + L.getD k 0 := wrap_in (by omega) (by omega)
      clear hc1 hJs hkp hnx k1
      have HL : Hid (ivals (pre ++ [⟨k, hlt⟩]) = List.range (k + 1)) := by show _ = _; rw [ivals_snoc, HP.out, List.range_succ]
      generalize hz : (pre ++ [(⟨k, hlt⟩ : Ix n)]) = pre2 at *
      clear hz
      generalize L.getD k 0 = y at *
      generalize bgI L k = z at *
      gi_wp2
      refine hRR.mono ?_
      rintro e W3 (⟨rfl, hJ3, hk3⟩ | ⟨rfl, hJx3⟩)
      · gi_wp2
        go_roundw
        case rel => exact ⟨k + 1, pre2, by omega, by go_num, by rw [HB2.out]; try go_num, HL.out, hJ3, HN.out.trans hk3⟩
        case measure => simp [intOf]; omega
      · gi_wp2
        refine bodyPost_ret (results_none rfl _ _ _) rfl ?_
        exact ⟨⟨_, rfl⟩, .inr ⟨_, ⟨k, hlt, HL.out⟩, hJx3⟩⟩
    · obtain rfl : k = n := by omega
      gi_wp2
      go_end0
      exact ⟨⟨_, rfl⟩, .inl ⟨pre, HP.out, hJs⟩⟩
theorem parts_stops (q : Nat) (hq : 1 ≤ q) (B : Nat) {a : Option Addr} {n c : Nat} {L : List Int} (Wb W0 : World) (hA : Ints Wb a n c L) (hb : Below Wb.heap.size Wb W0) (hr : ∀ k, k ≤ n → i64B (bgI L k)) (c1 : W0.cell? ⟨B, 0, none⟩ = some (.slice a n c)) :
    SeqStopsK Fence.wide q Tryd.prog 93 #[.pointer (some ⟨B, 0, none⟩)] (fun x : Ix n => partsV L x) (Below Wb.heap.size) (fun ys => ivals ys = List.range n) (fun pre => ∃ k, k < n ∧ ivals pre = List.range (k + 1)) n W0 := fun l J Jx W hW hJ _ hY h0 =>
  parts1_in q hq l B Wb hA hr J Jx W (cell_kept0 c1 (Kept.of_below hW)) hY (hb.trans (hW.mono hb.size)) h0
set_option maxHeartbeats 1000000 in
theorem parts_in (q : Nat) (w : World) (a : Option Addr) (n c : Nat) :
    CallsIn Fence.wide q Tryd.prog 56 #[.slice a n c] w fun e w' => e = .returned (.func (.func 93) #[] #[.pointer (some ⟨w.heap.size, 0, none⟩)]) ∧ w' = w.alloc (.cells #[.slice a n c] 22) := by
  refine callsIn_of_wp Tryd.func56 rfl trivial ?_ rfl
  simp only [Tryd.ntmps56, List.size_toArray, List.length_cons, List.length_nil, Nat.reduceAdd, Nat.reduceSub, Array.replicate_succ, Array.replicate_zero, List.push_toArray, List.append_toArray, List.nil_append, List.cons_append]
  gi_wp2
  go_ret
  exact ⟨rfl, rfl⟩

/-! ### whose -/
/-- What stands behind some parts: the last one, and how far. -/
def atI (L : List Int) (q : Int) (l : List Nat) : Int × Int := match l.getLast? with
  | none => (0, 0)
  | some i => ((i : Int), q - bgI L i)
theorem atI_snoc (L : List Int) (q : Int) (l : List Nat) (i : Nat) : atI L q (l ++ [i]) = ((i : Int), q - bgI L i) := by simp [atI]
theorem atI_upto (L : List Int) (q : Int) (k : Nat) : atI L q (List.range (k + 1)) = ((k : Int), q - bgI L k) := by rw [List.range_succ, atI_snoc]
theorem place_is {S : St} {P : Pl} (hs : siteB S = true) (h : PlF S P) (t : Nat) : ((t : Int) - P.offset) % P.cycle = (placeN P t : Int) := by
  obtain ⟨_, h1, h2⟩ := pre_tot hs h
  have h3 := h.o0
  have h4 := h.o1
  unfold placeN
  obtain ⟨c, hc⟩ : ∃ c : Nat, P.cycle = c := ⟨P.cycle.toNat, by omega⟩
  obtain ⟨o, ho⟩ : ∃ o : Nat, P.offset = o := ⟨P.offset.toNat, by omega⟩
  have hoc : o ≤ c := by omega
  rw [hc, ho, Int.toNat_natCast, Int.toNat_natCast]
  rw [← Int.add_emod_right, show (t : Int) - o + c = ((t + (c - o) : Nat) : Int) by omega]
  simp
theorem bg_pre {S : St} {P : Pl} (hs : siteB S = true) (h : PlF S P) {k : Nat} (hk : k ≤ S.phases.length) : bgI P.splits k = ((preN (spN P) k : Nat) : Int) := (pre_sum hs h k hk).symm
/-- The part of a tick: the last one that has begun. -/
theorem part_of {S : St} {P : Pl} (hs : siteB S = true) (h : PlF S P) {t k : Nat} (hk : k < S.phases.length) (h1 : bgI P.splits k ≤ (placeN P t : Int)) (h2 : k + 1 < S.phases.length → (placeN P t : Int) < bgI P.splits (k + 1)) : ((k : Int), (placeN P t : Int) - bgI P.splits k) = (((partV P t).1 : Int), ((partV P t).2 : Int)) := by
  obtain ⟨i, x, hi, hx, hp, e⟩ := part_ex hs h t
  obtain ⟨ht, hc, ho⟩ := pre_tot hs h
  rw [e]
  rw [bg_pre hs h (by omega)] at h1 ⊢
  have hik : i = k := by
    rcases Nat.lt_trichotomy i k with e1 | e1 | e1
    · have := preN_mono (sp := spN P) (i := i + 1) (j := k) (by omega)
      rw [preN_succ] at this
      omega
    · exact e1
    · have h2 := h2 (by omega)
      rw [bg_pre hs h (by omega)] at h2
      have := preN_mono (sp := spN P) (i := k + 1) (j := i) (by omega)
      omega
  subst hik
  rw [hp]
  show _ = ((i : Int), (x : Int))
  rw [show ((preN (spN P) i + x : Nat) : Int) - (preN (spN P) i : Int) = (x : Int) by omega]

end Go.Proofs.YtfhmfanmnhclfaaDoor

/-
  THE CONTRACT of plan's whose (made by a program).
-/
namespace Go.Proofs.YtfhmfanmnhclfaaDoor
open Go.RowKit Go.Lib Go.Deep Go.Shelf
set_option linter.unusedVariables false
set_option linter.unusedSimpArgs false
attribute [local go_sem] Oper.semAt_some

theorem boxed_far {w : World} {D : Nat} {t : TypeId} {v : Value} (h : Boxed w D t v) {p : Addr} (hne : D ≠ p.block) (x : Value) : Boxed (w.setCell p x) D t v := (Below.heap_setCell _ _ _ _ hne).trans h
set_option maxRecDepth 100000 in
set_option maxHeartbeats 4000000 in
theorem pwho_any {S : St} {P : Pl} (hs : siteB S = true) (h : PlF S P) {w : World} {a : Option Addr} {c : Nat} (hI : Ints w a P.splits.length c P.splits) (t : Nat) (ht : t ≤ 1073741824) : Calls Tryd.prog 32 #[planV P a c, .int .i64 (t : Int)] w fun e w' => e = .returned (.tuple #[.int .i64 ((partV P t).1 : Int), .int .i64 ((partV P t).2 : Int)]) ∧ Kept w w' none := by
  refine (callsIn_wide (n := 8)).1 ?_
  have hn := (span_may hs).base.sh.ok.np
  have hc := cyc_facts hs
  have hlo := h.lo
  have hhi := h.hi
  have ho0 := h.o0
  have ho1 := h.o1
  have hcy : 1 ≤ P.cycle ∧ P.cycle ≤ 1048576 := by omega
  have hpl := place_lt hs h t
  have hpi := place_is hs h t
  have HN := Hid.mk' h.n
  have HREM : Hid (∀ w' : World, Calls Tryd.prog 29 #[.int .i64 ((t : Int) - P.offset), .int .i64 P.cycle] w' fun e w2 => e = .returned (.int .i64 (placeN P t : Int)) ∧ w2 = w') := fun w' => by
    have := prem_any ((t : Int) - P.offset) P.cycle (by unfold i64B; omega) hcy.1 hcy.2 w'
    rw [hpi] at this
    exact this
  have HBG : Hid (∀ k, k ≤ P.splits.length → i64B (bgI P.splits k)) := fun k hk => by
    rw [h.n] at hk
    rw [bg_pre hs h hk]
    have := preN_mono (sp := spN P) hk
    have := (pre_tot hs h).1
    unfold i64B
    omega
  have HBR : Hid (∀ k, k < P.splits.length → 0 ≤ bgI P.splits k ∧ bgI P.splits k ≤ 1048576) := fun k hk => by
    rw [h.n] at hk
    rw [bg_pre hs h (by omega)]
    have := preN_mono (sp := spN P) (i := k) (j := S.phases.length) (by omega)
    have := (pre_tot hs h).1
    omega
  have hq0 : (placeN P t : Int) ≤ 1048576 := by omega
  have HPO : Hid (∀ k, k < P.splits.length → bgI P.splits k ≤ (placeN P t : Int) → (k + 1 < P.splits.length → (placeN P t : Int) < bgI P.splits (k + 1)) → ((k : Int), (placeN P t : Int) - bgI P.splits k) = (((partV P t).1 : Int), ((partV P t).2 : Int))) := fun k hk h1 h2 => by
    rw [h.n] at hk h2
    exact part_of hs h hk h1 h2
  have hn1 : 1 ≤ P.splits.length := by rw [h.n]; omega
  have hq1 : (0 : Int) ≤ (placeN P t : Int) := by omega
  have hsub : IntKind.i64.wrap ((t : Int) - P.offset) = (t : Int) - P.offset := wrap_in (by omega) (by omega)
  have HI := Hid.mk' hI
  clear hs h hI hpl hpi
  generalize (placeN P t : Int) = q at *
  obtain ⟨R, hR⟩ : ∃ R, partV P t = R := ⟨_, rfl⟩
  rw [hR] at HPO ⊢
  clear hR
  refine callsIn_of_wp_marks Tryd.func32 rfl trivial ?_ rfl
  simp only [Tryd.ntmps32, List.size_toArray, List.length_cons, List.length_nil, Nat.reduceAdd, Nat.reduceSub, Array.replicate_succ, Array.replicate_zero, List.push_toArray, List.append_toArray, List.nil_append, List.cons_append]
  gi_wp2_with (first
    | (refine ⟨trivial, ?_⟩; gi_at_call 29; refine (callsIn_wide.2 (HREM.out _)).mono ?_; rintro e w9 ⟨rfl, h9⟩; have h9' := h9.symm; clear h9; subst h9')
    | (refine ⟨trivial, ?_⟩; gi_at_call 56; refine (parts_in _ _ _ _ _).mono ?_; rintro e w' ⟨rfl, rfl⟩))
  have b1 := ((Boxed.new (w.alloc (.cells #[.int .i64 P.cycle, .int .i64 P.offset, .slice a P.splits.length c] 24)) 3 (.int .i64 0)).alloc (.cells #[.int .i64 0] 3)).alloc (.cells #[.int .i64 q] 3) |>.alloc (.cells #[.slice a P.splits.length c] 22)
  have b2 := ((Boxed.new ((w.alloc (.cells #[.int .i64 P.cycle, .int .i64 P.offset, .slice a P.splits.length c] 24)).alloc (.cells #[.int .i64 0] 3)) 3 (.int .i64 0)).alloc (.cells #[.int .i64 q] 3)).alloc (.cells #[.slice a P.splits.length c] 22)
  have b3 := (Boxed.new (((w.alloc (.cells #[.int .i64 P.cycle, .int .i64 P.offset, .slice a P.splits.length c] 24)).alloc (.cells #[.int .i64 0] 3)).alloc (.cells #[.int .i64 0] 3)) 3 (.int .i64 q)).alloc (.cells #[.slice a P.splits.length c] 22)
  have b4 := Boxed.new ((((w.alloc (.cells #[.int .i64 P.cycle, .int .i64 P.offset, .slice a P.splits.length c] 24)).alloc (.cells #[.int .i64 0] 3)).alloc (.cells #[.int .i64 0] 3)).alloc (.cells #[.int .i64 q] 3)) 22 (.slice a P.splits.length c)
  simp only [World.size_alloc] at b1 b2 b3 b4
  have hB0 : Below w.heap.size w (((((w.alloc (.cells #[.int .i64 P.cycle, .int .i64 P.offset, .slice a P.splits.length c] 24)).alloc (.cells #[.int .i64 0] 3)).alloc (.cells #[.int .i64 0] 3)).alloc (.cells #[.int .i64 q] 3)).alloc (.cells #[.slice a P.splits.length c] 22)) := (((((Below.refl _ w).alloc (Nat.le_refl _) _).alloc (by simp) _).alloc (by simp; omega) _).alloc (by simp; omega) _).alloc (by simp; omega) _
  have hsz : (((((w.alloc (.cells #[.int .i64 P.cycle, .int .i64 P.offset, .slice a P.splits.length c] 24)).alloc (.cells #[.int .i64 0] 3)).alloc (.cells #[.int .i64 0] 3)).alloc (.cells #[.int .i64 q] 3)).alloc (.cells #[.slice a P.splits.length c] 22)).heap.size = w.heap.size + 5 := by simp
  obtain ⟨W0, hW0⟩ : ∃ W0, (((((w.alloc (.cells #[.int .i64 P.cycle, .int .i64 P.offset, .slice a P.splits.length c] 24)).alloc (.cells #[.int .i64 0] 3)).alloc (.cells #[.int .i64 0] 3)).alloc (.cells #[.int .i64 q] 3)).alloc (.cells #[.slice a P.splits.length c] 22)) = W0 := ⟨_, rfl⟩
  rw [hW0] at b1 b2 b3 b4 hB0 hsz ⊢
  have hsz1 : W0.heap.size ≤ w.heap.size + 5 := by omega
  have hsz2 : w.heap.size + 5 ≤ W0.heap.size := by omega
  clear hW0 hsz
  refine wpIn_rangeFunc_ownH rfl (by omega) (gf := 93) (lb := #[.pointer (some ⟨w.heap.size + 1 + 1 + 1 + 1, 0, none⟩)]) rfl trivial (enters_of Tryd.func93 (by kernel_rfl) rfl)
    (parts_stops 7 (by omega) (w.heap.size + 1 + 1 + 1 + 1) w W0 HI.out hB0 HBG.out b4.cell) belowK_t (belowK_b (by omega)) (Below.refl _ _) (fun _ => rfl)
    (fun pre W => ((((∀ i ∈ ivals pre, bgI P.splits i ≤ q) ∧ Boxed W (w.heap.size + 1) 3 (.int .i64 (atI P.splits q (ivals pre)).1)) ∧ Boxed W (w.heap.size + 1 + 1) 3 (.int .i64 (atI P.splits q (ivals pre)).2)) ∧ Boxed W (w.heap.size + 1 + 1 + 1) 3 (.int .i64 q)) ∧ Below w.heap.size w W)
    (fun c pre W => ((((c = .exit 0 ∧ (∀ i ∈ (ivals pre).dropLast, bgI P.splits i ≤ q) ∧ ∃ x, (ivals pre).getLast? = some x ∧ q < bgI P.splits x) ∧ Boxed W (w.heap.size + 1) 3 (.int .i64 (atI P.splits q (ivals pre).dropLast).1)) ∧ Boxed W (w.heap.size + 1 + 1) 3 (.int .i64 (atI P.splits q (ivals pre).dropLast).2)) ∧ Boxed W (w.heap.size + 1 + 1 + 1) 3 (.int .i64 q)) ∧ Below w.heap.size w W)
    (OwnFrom.and (OwnFrom.and (OwnFrom.and (OwnFrom.and (ownFrom_pure _ _) (Own.from (boxed_own _ _ _) _)) (Own.from (boxed_own _ _ _) _)) (Own.from (boxed_own _ _ _) _)) (ownFrom_below (Nat.le_refl _) (by omega)))
    (fun c => OwnFrom.and (OwnFrom.and (OwnFrom.and (OwnFrom.and (ownFrom_pure _ _) (Own.from (boxed_own _ _ _) _)) (Own.from (boxed_own _ _ _) _)) (Own.from (boxed_own _ _ _) _)) (ownFrom_below (Nat.le_refl _) (by omega)))
    ⟨⟨⟨⟨by simp [ivals], b1⟩, b2⟩, b3⟩, hB0⟩
    (fun x a' _ => a' = { tmps := #[planV P a c, .int .i64 (t : Int), .pointer (some ⟨w.heap.size, 0, none⟩), undef, .pointer (some ⟨w.heap.size + 1, 0, none⟩), .pointer (some ⟨w.heap.size + 1 + 1, 0, none⟩), .pointer (some ⟨w.heap.size + 1 + 1 + 1, 0, none⟩), .int .i64 (x.1 : Int), .int .i64 (bgI P.splits x.1), .int .i64 (t : Int), .pointer (some ⟨w.heap.size, 1, none⟩), .int .i64 P.offset, .int .i64 ((t : Int) - P.offset), .pointer (some ⟨w.heap.size, 0, none⟩), .int .i64 P.cycle, .int .i64 q, .pointer (some ⟨w.heap.size, 2, none⟩), .slice a P.splits.length c, .func (.func 93) #[] #[.pointer (some ⟨w.heap.size + 1 + 1 + 1 + 1, 0, none⟩)], .int .i64 (x.1 : Int), .int .i64 (bgI P.splits x.1), undef, undef, undef, undef, undef, undef, undef, undef, undef], defers := [] })
    (fun _ _ _ _ _ _ hs _ _ => hs)
    ?assign ?body ?done ?stop
  case assign =>
    rintro l pre x W K hi hK
    unfold partsV
    gi_wp2
    exact hK _ _ (KeepsFrom.refl _ _) (Below.refl _ _) hi rfl
  case body =>
    rintro l pre x a' W hl ⟨r, hr⟩ ⟨⟨⟨⟨hall, bP1⟩, bI1⟩, bQ1⟩, hBW⟩ rfl hlt
    have cP := bP1.cell
    have fP := bP1.frozen
    have cI := bI1.cell
    have fI := bI1.frozen
    have cQ := bQ1.cell
    obtain ⟨x, hx⟩ := x
    have HALL := Hid.mk' hall
    have hbr := HBR.out x hx
    clear hall
    dsimp only at *
    have HAT : Hid (atI P.splits q (ivals (pre ++ [⟨x, hx⟩])) = ((x : Int), q - bgI P.splits x)) := by show _ = _; rw [ivals_snoc, atI_snoc]
    have HD : Hid ((ivals (pre ++ [(⟨x, hx⟩ : Ix P.splits.length)])).dropLast = ivals pre) := by show _ = _; rw [ivals_snoc]; simp
    have HL : Hid ((ivals (pre ++ [(⟨x, hx⟩ : Ix P.splits.length)])).getLast? = some x) := by show _ = _; rw [ivals_snoc]; simp
    have HM : Hid (bgI P.splits x ≤ q → ∀ i ∈ ivals (pre ++ [(⟨x, hx⟩ : Ix P.splits.length)]), bgI P.splits i ≤ q) := fun hle i hi => by
      rw [ivals_snoc] at hi
      rcases List.mem_append.1 hi with hi | hi
      · exact HALL.out i hi
      · have e : i = x := by simpa using hi
        rw [e]; exact hle
    have HBP := Hid.mk' bP1
    have HBI := Hid.mk' bI1
    clear bP1 bI1
    obtain ⟨v1, hv1⟩ : ∃ v, (atI P.splits q (ivals pre)).1 = v := ⟨_, rfl⟩
    rw [hv1] at cP
    obtain ⟨v2, hv2⟩ : ∃ v, (atI P.splits q (ivals pre)).2 = v := ⟨_, rfl⟩
    rw [hv2] at cI
    clear hv1 hv2
    generalize hbg : bgI P.splits x = g at *
    by_cases hgt : q < g
    · gi_wp2
      refine ⟨KeepsFrom.refl _ _, ⟨⟨⟨⟨rfl, ?_, x, HL.out, by rw [hbg]; exact hgt⟩, ?_⟩, ?_⟩, bQ1⟩, hBW⟩
      · rw [HD.out]; exact HALL.out
      · rw [HD.out]; exact HBP.out
      · rw [HD.out]; exact HBI.out
    · have hle : g ≤ q := by omega
      have hwq : IntKind.i64.wrap (q - g) = q - g := wrap_in (by omega) (by omega)
      gi_wp2
      refine held_round (S := fun w' => w'.cell? ⟨w.heap.size + 1 + 1 + 1, 0, none⟩ = some (.int .i64 q)) (by kernel_rfl) (by kernel_rfl) cQ (fun hHeld => ?_)
      refine held_take (i := 0) (v := ?vb0) rfl rfl (by kernel_rfl) (by kernel_rfl) (by kernel_rfl) (fun _ _ _ h => (by cases h.1)) (Or.inl ⟨by rfl, ?hyb0⟩) (by assumption) ?restb0
      case hyb0 => first | (intro w hSw; go_simp; done) | (intro w hSw; go_simp; with_reducible rfl)
      try simp only [List.setIfInBounds_toArray, List.set_cons_zero, List.set_cons_succ]
      refine held_take (i := 1) (v := ?vb1) rfl rfl (by kernel_rfl) (by kernel_rfl) (by kernel_rfl) (fun _ _ _ h => (by cases h.1)) (Or.inl ⟨by rfl, ?hyb1⟩) (by assumption) ?restb1
      case hyb1 => first | (intro w hSw; go_simp; done) | (intro w hSw; go_simp; with_reducible rfl)
      try simp only [List.setIfInBounds_toArray, List.set_cons_zero, List.set_cons_succ]
      refine held_take (i := 2) (v := ?vb2) rfl rfl (by kernel_rfl) (by kernel_rfl) (by kernel_rfl) (fun _ _ _ h => (by cases h.1)) (Or.inl ⟨by rfl, ?hyb2⟩) (by assumption) ?restb2
      case hyb2 => first | (intro w hSw; go_simp; done) | (intro w hSw; go_simp; with_reducible rfl)
      try simp only [List.setIfInBounds_toArray, List.set_cons_zero, List.set_cons_succ]
      refine held_take (i := 3) (v := ?vb3) rfl rfl (by kernel_rfl) (by kernel_rfl) (by kernel_rfl) (fun _ _ _ h => (by cases h.1)) (Or.inl ⟨by rfl, ?hyb3⟩) (by assumption) ?restb3
      case hyb3 => first | (intro w hSw; go_simp; done) | (intro w hSw; go_simp; with_reducible rfl)
      try simp only [List.setIfInBounds_toArray, List.set_cons_zero, List.set_cons_succ]
      refine wpAnyH_ready (rs := [4]) (by kernel_rfl) (by simp) ?_
      refine AllReadyH.cons rfl (fun K hK => ?_) AllReadyH.nil
      go_simp
      refine hK.out _ _ ((World.cell?_setCell_far _ _ _ _ (by simp)).trans cQ) (fun hHeld2 => ?_)
      clear hK K hHeld2
      refine wpAnyH_ready (rs := [5]) (by kernel_rfl) (by simp) ?_
      refine AllReadyH.cons rfl (fun K hK => ?_) AllReadyH.nil
      go_simp
      refine hK.out _ _ ((World.cell?_setCell_far _ _ _ _ (by simp)).trans ((World.cell?_setCell_far _ _ _ _ (by simp)).trans cQ)) (fun hHeld3 => ?_)
      clear hK K hHeld3
      refine wpAnyH_done (by kernel_rfl) ⟨rfl, ?_⟩ _
      gi_wp2
      refine ⟨(((KeepsOthers.setCell _ _ _).trans (KeepsOthers.setCell _ _ _)).trans (KeepsOthers.drew _)).from _, (((Below.refl _ W).setCell (p := ⟨w.heap.size + 1, 0, none⟩) (by simp) _).setCell (p := ⟨w.heap.size + 1 + 1, 0, none⟩) (by simp <;> omega) _).drew, ⟨⟨⟨HM.out hle, ?_⟩, ?_⟩, ?_⟩, ((hBW.setCell (p := ⟨w.heap.size + 1, 0, none⟩) (by simp) _).setCell (p := ⟨w.heap.size + 1 + 1, 0, none⟩) (by simp <;> omega) _).drew⟩
      · rw [HAT.out]; exact boxed_far (HBP.out.set _) (p := ⟨w.heap.size + 1 + 1, 0, none⟩) (by simp <;> omega) _
      · rw [HAT.out]; exact (boxed_far HBI.out (p := ⟨w.heap.size + 1, 0, none⟩) (by simp <;> omega) _).set _
      · exact boxed_far (boxed_far bQ1 (p := ⟨w.heap.size + 1, 0, none⟩) (by simp <;> omega) _) (p := ⟨w.heap.size + 1 + 1, 0, none⟩) (by simp <;> omega) _
  case done =>
    rintro D zs W hD hzs ⟨⟨⟨⟨hall, bP1⟩, bI1⟩, bQ1⟩, hBW⟩ hK9
    have hP1 : atI P.splits q (ivals zs) = ((R.1 : Int), (R.2 : Int)) := by
      obtain ⟨k, hk⟩ : ∃ k, P.splits.length = k + 1 := ⟨P.splits.length - 1, by omega⟩
      rw [hzs, hk, atI_upto]
      exact HPO.out k (by omega) (hall k (by rw [hzs, hk]; simp)) (fun e => by omega)
    rw [hP1] at bP1 bI1
    dsimp only at bP1 bI1
    have cP := bP1.cell
    have fP := bP1.frozen
    have cI := bI1.cell
    have fI := bI1.frozen
    have hS0 : W.drew.cell? ⟨w.heap.size + 1, 0, none⟩ = some (.int .i64 (R.1 : Int)) ∧ W.drew.cell? ⟨w.heap.size + 1 + 1, 0, none⟩ = some (.int .i64 (R.2 : Int)) := ⟨cP, cI⟩
    have hS1 : (W.drew.setCell ⟨w.heap.size + 1, 0, none⟩ (.int .i64 (R.1 : Int))).cell? ⟨w.heap.size + 1, 0, none⟩ = some (.int .i64 (R.1 : Int)) ∧ (W.drew.setCell ⟨w.heap.size + 1, 0, none⟩ (.int .i64 (R.1 : Int))).cell? ⟨w.heap.size + 1 + 1, 0, none⟩ = some (.int .i64 (R.2 : Int)) := ⟨World.cell?_setCell_same _ _ _ cP, (World.cell?_setCell_far _ _ _ _ (by simp)).trans cI⟩
    have hS2 : ((W.drew.setCell ⟨w.heap.size + 1, 0, none⟩ (.int .i64 (R.1 : Int))).setCell ⟨w.heap.size + 1 + 1, 0, none⟩ (.int .i64 (R.2 : Int))).cell? ⟨w.heap.size + 1, 0, none⟩ = some (.int .i64 (R.1 : Int)) ∧ ((W.drew.setCell ⟨w.heap.size + 1, 0, none⟩ (.int .i64 (R.1 : Int))).setCell ⟨w.heap.size + 1 + 1, 0, none⟩ (.int .i64 (R.2 : Int))).cell? ⟨w.heap.size + 1 + 1, 0, none⟩ = some (.int .i64 (R.2 : Int)) := ⟨(World.cell?_setCell_far _ _ _ _ (by simp)).trans hS1.1, World.cell?_setCell_same _ _ _ hS1.2⟩
    clear hall hP1
    gi_wp2
    refine held_wide (S := fun w' => w'.cell? ⟨w.heap.size + 1, 0, none⟩ = some (.int .i64 (R.1 : Int)) ∧ w'.cell? ⟨w.heap.size + 1 + 1, 0, none⟩ = some (.int .i64 (R.2 : Int))) (by kernel_rfl) (by kernel_rfl) hS0 (fun hHeld => ?_)
    refine held_take (i := 0) (v := ?vc0) rfl rfl (by kernel_rfl) (by kernel_rfl) (by kernel_rfl) (fun _ _ _ h => (by cases h.1)) (Or.inl ⟨by rfl, ?hyc0⟩) (by assumption) ?restc0
    case hyc0 => first | (intro w hSw; go_simp; done) | (intro w hSw; go_simp; with_reducible rfl)
    try simp only [List.setIfInBounds_toArray, List.set_cons_zero, List.set_cons_succ]
    refine held_take (i := 1) (v := ?vc1) rfl rfl (by kernel_rfl) (by kernel_rfl) (by kernel_rfl) (fun _ _ _ h => (by cases h.1)) (Or.inl ⟨by rfl, ?hyc1⟩) (by assumption) ?restc1
    case hyc1 => first | (intro w hSw; go_simp; done) | (intro w hSw; go_simp; with_reducible rfl)
    try simp only [List.setIfInBounds_toArray, List.set_cons_zero, List.set_cons_succ]
    refine wpAnyH_ready (rs := [2]) (by kernel_rfl) (by simp) ?_
    refine AllReadyH.cons rfl (fun K hK => ?_) AllReadyH.nil
    go_simp
    refine hK.out _ _ hS1 (fun hHeld2 => ?_)
    clear hK K hHeld2
    refine wpAnyH_ready (rs := [3]) (by kernel_rfl) (by simp) ?_
    refine AllReadyH.cons rfl (fun K hK => ?_) AllReadyH.nil
    go_simp
    refine hK.out _ _ hS2 (fun hHeld3 => ?_)
    clear hK K hHeld3 hHeld
    refine wpAnyH_done (by kernel_rfl) ⟨rfl, ?_⟩ _
    gi_wp2
    have hkD := (((KeepsOthers.setCell W ⟨w.heap.size + 1, 0, none⟩ (.int .i64 (R.1 : Int))).trans (KeepsOthers.setCell _ ⟨w.heap.size + 1 + 1, 0, none⟩ (.int .i64 (R.2 : Int)))).trans (KeepsOthers.drew _)).same D _ hK9 rfl
    refine ⟨by simp, .inl ⟨_, _, rfl, run_takeDeferred hkD, ?_⟩⟩
    have hS3 : (((W.setCell ⟨w.heap.size + 1, 0, none⟩ (.int .i64 (R.1 : Int))).setCell ⟨w.heap.size + 1 + 1, 0, none⟩ (.int .i64 (R.2 : Int))).drew).cell? ⟨w.heap.size + 1, 0, none⟩ = some (.int .i64 (R.1 : Int)) ∧ (((W.setCell ⟨w.heap.size + 1, 0, none⟩ (.int .i64 (R.1 : Int))).setCell ⟨w.heap.size + 1 + 1, 0, none⟩ (.int .i64 (R.2 : Int))).drew).cell? ⟨w.heap.size + 1 + 1, 0, none⟩ = some (.int .i64 (R.2 : Int)) := hS2
    have hc5 := cell_kept hS3.1 (grownBy_putObj' _ D (.deferred none)) (fun r e => by cases e; exact ⟨_, hkD, rfl⟩)
    have hc6 := cell_kept hS3.2 (grownBy_putObj' _ D (.deferred none)) (fun r e => by cases e; exact ⟨_, hkD, rfl⟩)
    refine ⟨.tuple #[.int .i64 (R.1 : Int), .int .i64 (R.2 : Int)], ?_, rfl, Kept.of_below ((((hBW.setCell (p := ⟨w.heap.size + 1, 0, none⟩) (by simp) _).setCell (p := ⟨w.heap.size + 1 + 1, 0, none⟩) (by simp <;> omega) _).drew).trans (belowK_b (w := w) (Nat.le_refl _) _ D _ _ (by omega) hkD rfl rfl))⟩
    simp [results, Tryd.results32, go_sem, hc5, hc6]
  case stop =>
    rintro D c pre W hD ⟨k, hk, hpre⟩ ⟨⟨⟨⟨⟨rfl, hall, x, hx, hgt⟩, bP1⟩, bI1⟩, bQ1⟩, hBW⟩ hK9
    rw [hpre] at hall bP1 bI1 hx
    have hxk : k = x := by rw [List.range_succ] at hx; simpa using hx
    subst hxk
    have hdl : (List.range (k + 1)).dropLast = List.range k := by rw [List.range_succ]; simp
    rw [hdl] at hall bP1 bI1
    have hk0 : k ≠ 0 := fun e => by
      rw [e, show bgI P.splits 0 = 0 from rfl] at hgt
      omega
    have hP1 : atI P.splits q (List.range k) = ((R.1 : Int), (R.2 : Int)) := by
      obtain ⟨j, rfl⟩ : ∃ j, k = j + 1 := ⟨k - 1, by omega⟩
      rw [atI_upto]
      exact HPO.out j (by omega) (hall j (by simp)) (fun e => hgt)
    rw [hP1] at bP1 bI1
    dsimp only at bP1 bI1
    have cP := bP1.cell
    have fP := bP1.frozen
    have cI := bI1.cell
    have fI := bI1.frozen
    have hS0 : W.drew.cell? ⟨w.heap.size + 1, 0, none⟩ = some (.int .i64 (R.1 : Int)) ∧ W.drew.cell? ⟨w.heap.size + 1 + 1, 0, none⟩ = some (.int .i64 (R.2 : Int)) := ⟨cP, cI⟩
    have hS1 : (W.drew.setCell ⟨w.heap.size + 1, 0, none⟩ (.int .i64 (R.1 : Int))).cell? ⟨w.heap.size + 1, 0, none⟩ = some (.int .i64 (R.1 : Int)) ∧ (W.drew.setCell ⟨w.heap.size + 1, 0, none⟩ (.int .i64 (R.1 : Int))).cell? ⟨w.heap.size + 1 + 1, 0, none⟩ = some (.int .i64 (R.2 : Int)) := ⟨World.cell?_setCell_same _ _ _ cP, (World.cell?_setCell_far _ _ _ _ (by simp)).trans cI⟩
    have hS2 : ((W.drew.setCell ⟨w.heap.size + 1, 0, none⟩ (.int .i64 (R.1 : Int))).setCell ⟨w.heap.size + 1 + 1, 0, none⟩ (.int .i64 (R.2 : Int))).cell? ⟨w.heap.size + 1, 0, none⟩ = some (.int .i64 (R.1 : Int)) ∧ ((W.drew.setCell ⟨w.heap.size + 1, 0, none⟩ (.int .i64 (R.1 : Int))).setCell ⟨w.heap.size + 1 + 1, 0, none⟩ (.int .i64 (R.2 : Int))).cell? ⟨w.heap.size + 1 + 1, 0, none⟩ = some (.int .i64 (R.2 : Int)) := ⟨(World.cell?_setCell_far _ _ _ _ (by simp)).trans hS1.1, World.cell?_setCell_same _ _ _ hS1.2⟩
    clear hall hP1 hx hpre hdl hgt
    gi_wp2
    refine held_wide (S := fun w' => w'.cell? ⟨w.heap.size + 1, 0, none⟩ = some (.int .i64 (R.1 : Int)) ∧ w'.cell? ⟨w.heap.size + 1 + 1, 0, none⟩ = some (.int .i64 (R.2 : Int))) (by kernel_rfl) (by kernel_rfl) hS0 (fun hHeld => ?_)
    refine held_take (i := 0) (v := ?vd0) rfl rfl (by kernel_rfl) (by kernel_rfl) (by kernel_rfl) (fun _ _ _ h => (by cases h.1)) (Or.inl ⟨by rfl, ?hyd0⟩) (by assumption) ?restd0
    case hyd0 => first | (intro w hSw; go_simp; done) | (intro w hSw; go_simp; with_reducible rfl)
    try simp only [List.setIfInBounds_toArray, List.set_cons_zero, List.set_cons_succ]
    refine held_take (i := 1) (v := ?vd1) rfl rfl (by kernel_rfl) (by kernel_rfl) (by kernel_rfl) (fun _ _ _ h => (by cases h.1)) (Or.inl ⟨by rfl, ?hyd1⟩) (by assumption) ?restd1
    case hyd1 => first | (intro w hSw; go_simp; done) | (intro w hSw; go_simp; with_reducible rfl)
    try simp only [List.setIfInBounds_toArray, List.set_cons_zero, List.set_cons_succ]
    refine wpAnyH_ready (rs := [2]) (by kernel_rfl) (by simp) ?_
    refine AllReadyH.cons rfl (fun K hK => ?_) AllReadyH.nil
    go_simp
    refine hK.out _ _ hS1 (fun hHeld2 => ?_)
    clear hK K hHeld2
    refine wpAnyH_ready (rs := [3]) (by kernel_rfl) (by simp) ?_
    refine AllReadyH.cons rfl (fun K hK => ?_) AllReadyH.nil
    go_simp
    refine hK.out _ _ hS2 (fun hHeld3 => ?_)
    clear hK K hHeld3 hHeld
    refine wpAnyH_done (by kernel_rfl) ⟨rfl, ?_⟩ _
    gi_wp2
    have hkD := (((KeepsOthers.setCell W ⟨w.heap.size + 1, 0, none⟩ (.int .i64 (R.1 : Int))).trans (KeepsOthers.setCell _ ⟨w.heap.size + 1 + 1, 0, none⟩ (.int .i64 (R.2 : Int)))).trans (KeepsOthers.drew _)).same D _ hK9 rfl
    refine ⟨by simp, .inl ⟨_, _, rfl, run_takeDeferred hkD, ?_⟩⟩
    have hS3 : (((W.setCell ⟨w.heap.size + 1, 0, none⟩ (.int .i64 (R.1 : Int))).setCell ⟨w.heap.size + 1 + 1, 0, none⟩ (.int .i64 (R.2 : Int))).drew).cell? ⟨w.heap.size + 1, 0, none⟩ = some (.int .i64 (R.1 : Int)) ∧ (((W.setCell ⟨w.heap.size + 1, 0, none⟩ (.int .i64 (R.1 : Int))).setCell ⟨w.heap.size + 1 + 1, 0, none⟩ (.int .i64 (R.2 : Int))).drew).cell? ⟨w.heap.size + 1 + 1, 0, none⟩ = some (.int .i64 (R.2 : Int)) := hS2
    have hc5 := cell_kept hS3.1 (grownBy_putObj' _ D (.deferred none)) (fun r e => by cases e; exact ⟨_, hkD, rfl⟩)
    have hc6 := cell_kept hS3.2 (grownBy_putObj' _ D (.deferred none)) (fun r e => by cases e; exact ⟨_, hkD, rfl⟩)
    refine ⟨.tuple #[.int .i64 (R.1 : Int), .int .i64 (R.2 : Int)], ?_, rfl, Kept.of_below ((((hBW.setCell (p := ⟨w.heap.size + 1, 0, none⟩) (by simp) _).setCell (p := ⟨w.heap.size + 1 + 1, 0, none⟩) (by simp <;> omega) _).drew).trans (belowK_b (w := w) (Nat.le_refl _) _ D _ _ (by omega) hkD rfl rfl))⟩
    simp [results, Tryd.results32, go_sem, hc5, hc6]

end Go.Proofs.YtfhmfanmnhclfaaDoor

/-
  THE CONTRACTS of plan.At and Wants (made by a program).
-/
namespace Go.Proofs.YtfhmfanmnhclfaaDoor
open Go.RowKit Go.Lib Go.Deep
set_option linter.unusedVariables false
set_option linter.unusedSimpArgs false

set_option maxRecDepth 100000 in
set_option maxHeartbeats 2000000 in
theorem pat_no {X : Sa} {S : St} {w : World} (h : Sat w X S) (hT : Tabb w) {P : Pl} {a : Option Addr} {c : Nat} (hI : Ints w a P.splits.length c P.splits) (t : Int) (hs : siteB S = false) : Calls Tryd.prog 11 #[siteV X S, planV P a c, .int .i64 t] w fun e w' => e = .returned (.tuple #[.int .i64 0, .int .i64 0, .int .i64 50]) ∧ Kept w w' none := by
  obtain ⟨WA, hWA⟩ : ∃ WA, ((w.alloc (.cells #[.int .i64 S.id, .slice X.g S.groups.length X.gc, .slice X.a S.apart.length X.ac, .slice X.b S.between.length X.bc, .slice X.p S.phases.length X.pc, .slice X.e S.eyes.length X.ec, .int .i64 S.watch, .int .i64 S.feed, .int .i64 S.heal, .int .i64 S.low, .int .i64 S.high, .slice X.l S.plans.length X.lc] 35)).alloc (.cells #[.int .i64 P.cycle, .int .i64 P.offset, .slice a P.splits.length c] 24)) = WA := ⟨_, rfl⟩
  obtain ⟨HSB, HBP, HSZ, HK, HS, HI, p0_, p1_, p2_, s0_, s1_, s2_, s3_, s4_, s5_, s6_, s7_, s8_, s9_, s10_, s11_⟩ := hdp h hI hWA
  have HT := Hid.mk' (hT.kept HK.out)
  have HPQ := Hid.mk' (planq_no HS.out HT.out hs P a c)
  have hK0 := Kept.refl WA none
  clear h hT hI
  go_enter Tryd.func11, Tryd.ntmps11
  go_wp2_with (first | rw [hWA] | (go_at_call 21; refine HPQ.out.mono ?_; rintro e wC ⟨rfl, hkC⟩; have hKC : Kept WA wC none := hkC))
  go_ret3
  exact ⟨rfl, HK.out.tr hkC⟩
set_option maxRecDepth 100000 in
set_option maxHeartbeats 2000000 in
theorem pat_plan {X : Sa} {S : St} {w : World} (h : Sat w X S) (hT : Tabb w) {P : Pl} {a : Option Addr} {c : Nat} (hI : Ints w a P.splits.length c P.splits) (t : Int) (hs : siteB S = true) (hp : planB S P = false) : Calls Tryd.prog 11 #[siteV X S, planV P a c, .int .i64 t] w fun e w' => e = .returned (.tuple #[.int .i64 0, .int .i64 0, .int .i64 170]) ∧ Kept w w' none := by
  obtain ⟨WA, hWA⟩ : ∃ WA, ((w.alloc (.cells #[.int .i64 S.id, .slice X.g S.groups.length X.gc, .slice X.a S.apart.length X.ac, .slice X.b S.between.length X.bc, .slice X.p S.phases.length X.pc, .slice X.e S.eyes.length X.ec, .int .i64 S.watch, .int .i64 S.feed, .int .i64 S.heal, .int .i64 S.low, .int .i64 S.high, .slice X.l S.plans.length X.lc] 35)).alloc (.cells #[.int .i64 P.cycle, .int .i64 P.offset, .slice a P.splits.length c] 24)) = WA := ⟨_, rfl⟩
  obtain ⟨HSB, HBP, HSZ, HK, HS, HI, p0_, p1_, p2_, s0_, s1_, s2_, s3_, s4_, s5_, s6_, s7_, s8_, s9_, s10_, s11_⟩ := hdp h hI hWA
  have HT := Hid.mk' (hT.kept HK.out)
  have HPQ : Hid (Calls Tryd.prog 21 #[siteV X S, planV P a c] WA fun e w' => e = .returned (.tuple #[.bool false, .int .i64 0]) ∧ Kept WA w' none) := by
    have hx := planq_yes HS.out HT.out hs P a c HI.out
    rw [hp] at hx
    exact hx
  have hK0 := Kept.refl WA none
  clear h hT hI
  go_enter Tryd.func11, Tryd.ntmps11
  go_wp2_with (first | rw [hWA] | (go_at_call 21; refine HPQ.out.mono ?_; rintro e wC ⟨rfl, hkC⟩; have hKC : Kept WA wC none := hkC))
  go_ret3
  exact ⟨rfl, HK.out.tr hkC⟩
set_option maxRecDepth 100000 in
set_option maxHeartbeats 2000000 in
theorem pat_neg {X : Sa} {S : St} {w : World} (h : Sat w X S) (hT : Tabb w) {P : Pl} {a : Option Addr} {c : Nat} (hI : Ints w a P.splits.length c P.splits) (t : Int) (hs : siteB S = true) (hp : planB S P = true) (h0 : t < 0) : Calls Tryd.prog 11 #[siteV X S, planV P a c, .int .i64 t] w fun e w' => e = .returned (.tuple #[.int .i64 0, .int .i64 0, .int .i64 2]) ∧ Kept w w' none := by
  obtain ⟨WA, hWA⟩ : ∃ WA, ((w.alloc (.cells #[.int .i64 S.id, .slice X.g S.groups.length X.gc, .slice X.a S.apart.length X.ac, .slice X.b S.between.length X.bc, .slice X.p S.phases.length X.pc, .slice X.e S.eyes.length X.ec, .int .i64 S.watch, .int .i64 S.feed, .int .i64 S.heal, .int .i64 S.low, .int .i64 S.high, .slice X.l S.plans.length X.lc] 35)).alloc (.cells #[.int .i64 P.cycle, .int .i64 P.offset, .slice a P.splits.length c] 24)) = WA := ⟨_, rfl⟩
  obtain ⟨HSB, HBP, HSZ, HK, HS, HI, p0_, p1_, p2_, s0_, s1_, s2_, s3_, s4_, s5_, s6_, s7_, s8_, s9_, s10_, s11_⟩ := hdp h hI hWA
  have HT := Hid.mk' (hT.kept HK.out)
  have HPQ : Hid (Calls Tryd.prog 21 #[siteV X S, planV P a c] WA fun e w' => e = .returned (.tuple #[.bool true, .int .i64 0]) ∧ Kept WA w' none) := by
    have hx := planq_yes HS.out HT.out hs P a c HI.out
    rw [hp] at hx
    exact hx
  have hK0 := Kept.refl WA none
  clear h hT hI
  go_enter Tryd.func11, Tryd.ntmps11
  go_wp2_with (first | rw [hWA] | (go_at_call 21; refine HPQ.out.mono ?_; rintro e wC ⟨rfl, hkC⟩; have hKC : Kept WA wC none := hkC))
  go_ret3
  exact ⟨rfl, HK.out.tr hkC⟩
set_option maxRecDepth 100000 in
set_option maxHeartbeats 2000000 in
theorem pat_far {X : Sa} {S : St} {w : World} (h : Sat w X S) (hT : Tabb w) {P : Pl} {a : Option Addr} {c : Nat} (hI : Ints w a P.splits.length c P.splits) (t : Int) (hs : siteB S = true) (hp : planB S P = true) (h0 : ¬ t < 0) (h9 : 1073741824 < t) : Calls Tryd.prog 11 #[siteV X S, planV P a c, .int .i64 t] w fun e w' => e = .returned (.tuple #[.int .i64 0, .int .i64 0, .int .i64 2]) ∧ Kept w w' none := by
  obtain ⟨WA, hWA⟩ : ∃ WA, ((w.alloc (.cells #[.int .i64 S.id, .slice X.g S.groups.length X.gc, .slice X.a S.apart.length X.ac, .slice X.b S.between.length X.bc, .slice X.p S.phases.length X.pc, .slice X.e S.eyes.length X.ec, .int .i64 S.watch, .int .i64 S.feed, .int .i64 S.heal, .int .i64 S.low, .int .i64 S.high, .slice X.l S.plans.length X.lc] 35)).alloc (.cells #[.int .i64 P.cycle, .int .i64 P.offset, .slice a P.splits.length c] 24)) = WA := ⟨_, rfl⟩
  obtain ⟨HSB, HBP, HSZ, HK, HS, HI, p0_, p1_, p2_, s0_, s1_, s2_, s3_, s4_, s5_, s6_, s7_, s8_, s9_, s10_, s11_⟩ := hdp h hI hWA
  have HT := Hid.mk' (hT.kept HK.out)
  have HPQ : Hid (Calls Tryd.prog 21 #[siteV X S, planV P a c] WA fun e w' => e = .returned (.tuple #[.bool true, .int .i64 0]) ∧ Kept WA w' none) := by
    have hx := planq_yes HS.out HT.out hs P a c HI.out
    rw [hp] at hx
    exact hx
  have hK0 := Kept.refl WA none
  clear h hT hI
  go_enter Tryd.func11, Tryd.ntmps11
  go_wp2_with (first | rw [hWA] | (go_at_call 21; refine HPQ.out.mono ?_; rintro e wC ⟨rfl, hkC⟩; have hKC : Kept WA wC none := hkC))
  go_ret3
  exact ⟨rfl, HK.out.tr hkC⟩
set_option maxRecDepth 100000 in
set_option maxHeartbeats 2000000 in
theorem pat_go {X : Sa} {S : St} {w : World} (h : Sat w X S) (hT : Tabb w) {P : Pl} {a : Option Addr} {c : Nat} (hI : Ints w a P.splits.length c P.splits) (t : Nat) (hs : siteB S = true) (hp : planB S P = true) (h9 : t ≤ 1073741824) : Calls Tryd.prog 11 #[siteV X S, planV P a c, .int .i64 (t : Int)] w fun e w' => e = .returned (.tuple #[.int .i64 ((partV P t).1 : Int), .int .i64 ((partV P t).2 : Int), .int .i64 0]) ∧ Kept w w' none := by
  have hpf := plan_facts hp
  have h90 : ¬ (1073741824 : Int) < (t : Int) := by omega
  have h91 : ¬ (t : Int) < 0 := by omega
  obtain ⟨WA, hWA⟩ : ∃ WA, ((w.alloc (.cells #[.int .i64 S.id, .slice X.g S.groups.length X.gc, .slice X.a S.apart.length X.ac, .slice X.b S.between.length X.bc, .slice X.p S.phases.length X.pc, .slice X.e S.eyes.length X.ec, .int .i64 S.watch, .int .i64 S.feed, .int .i64 S.heal, .int .i64 S.low, .int .i64 S.high, .slice X.l S.plans.length X.lc] 35)).alloc (.cells #[.int .i64 P.cycle, .int .i64 P.offset, .slice a P.splits.length c] 24)) = WA := ⟨_, rfl⟩
  obtain ⟨HSB, HBP, HSZ, HK, HS, HI, p0_, p1_, p2_, s0_, s1_, s2_, s3_, s4_, s5_, s6_, s7_, s8_, s9_, s10_, s11_⟩ := hdp h hI hWA
  have HT := Hid.mk' (hT.kept HK.out)
  have HPQ : Hid (Calls Tryd.prog 21 #[siteV X S, planV P a c] WA fun e w' => e = .returned (.tuple #[.bool true, .int .i64 0]) ∧ Kept WA w' none) := by
    have hx := planq_yes HS.out HT.out hs P a c HI.out
    rw [hp] at hx
    exact hx
  have HWH : Hid (∀ w', Kept WA w' none → Calls Tryd.prog 32 #[planV P a c, .int .i64 (t : Int)] w' fun e w2 => e = .returned (.tuple #[.int .i64 ((partV P t).1 : Int), .int .i64 ((partV P t).2 : Int)]) ∧ Kept w' w2 none) := fun w' q => pwho_any hs hpf (HI.out.kept q) t h9
  clear hpf hs hp
  have hK0 := Kept.refl WA none
  clear h hT hI
  go_enter Tryd.func11, Tryd.ntmps11
  go_wp2_with (first | rw [hWA] | (have hgo := hKC; clear hgo; go_at_call 32; refine (HWH.out _ hKC).mono ?_; rintro e wT ⟨rfl, hkT⟩) | (go_at_call 21; refine HPQ.out.mono ?_; rintro e wC ⟨rfl, hkC⟩; have hKC : Kept WA wC none := hkC))
  go_ret3
  exact ⟨rfl, (HK.out.tr hkC).tr hkT⟩

/-- What At tells. -/
def atE (S : St) (P : Pl) (t : Int) : Int := if siteB S = false then 50 else if planB S P = false then 170 else if t < 0 ∨ 1073741824 < t then 2 else 0
def atPh (S : St) (P : Pl) (t : Int) : Int := if atE S P t = 0 then ((partV P t.toNat).1 : Int) else 0
def atIn (S : St) (P : Pl) (t : Int) : Int := if atE S P t = 0 then ((partV P t.toNat).2 : Int) else 0
theorem atE_ok {S : St} {P : Pl} {t : Int} (h : atE S P t = 0) : siteB S = true ∧ planB S P = true ∧ ∃ n : Nat, t = n ∧ n ≤ 1073741824 := by
  unfold atE at h
  cases hs : siteB S with
  | false => rw [hs, if_pos rfl] at h; cases h
  | true =>
    cases hp : planB S P with
    | false => rw [hs, hp, if_neg (by decide), if_pos rfl] at h; cases h
    | true =>
      rw [hs, hp, if_neg (by decide), if_neg (by decide)] at h
      by_cases e : t < 0 ∨ 1073741824 < t
      · rw [if_pos e] at h; cases h
      · exact ⟨rfl, rfl, t.toNat, by omega, by omega⟩
theorem atE_go {S : St} {P : Pl} {t : Nat} (hs : siteB S = true) (hp : planB S P = true) (h : t ≤ 1073741824) : atE S P (t : Int) = 0 := by
  unfold atE
  rw [hs, hp, if_neg (by decide), if_neg (by decide), if_neg (by omega)]
theorem pat_any {X : Sa} {S : St} {w : World} (h : Sat w X S) (hT : Tabb w) {P : Pl} {a : Option Addr} {c : Nat} (hI : Ints w a P.splits.length c P.splits) (t : Int) : Calls Tryd.prog 11 #[siteV X S, planV P a c, .int .i64 t] w fun e w' => e = .returned (.tuple #[.int .i64 (atPh S P t), .int .i64 (atIn S P t), .int .i64 (atE S P t)]) ∧ Kept w w' none := by
  by_cases he : atE S P t = 0
  · obtain ⟨hs, hp, n, rfl, hn⟩ := atE_ok he
    unfold atPh atIn
    rw [if_pos he, if_pos he, he]
    exact pat_go h hT hI n hs hp hn
  · unfold atPh atIn
    rw [if_neg he, if_neg he]
    unfold atE at he ⊢
    cases hs : siteB S with
    | false => exact pat_no h hT hI t hs
    | true =>
      cases hp : planB S P with
      | false => exact pat_plan h hT hI t hs hp
      | true =>
        rw [hs, hp, if_neg (by decide), if_neg (by decide)] at he
        rw [if_neg (by decide), if_neg (by decide)]
        by_cases e : t < 0 ∨ 1073741824 < t
        · rw [if_pos e]
          by_cases e1 : t < 0
          · exact pat_neg h hT hI t hs hp e1
          · exact pat_far h hT hI t hs hp e1 (by omega)
        · exact absurd (if_neg e) he

/-! ### Wants -/
/-- Which phase is wanted. -/
def wtN (S : St) (P : Pl) (t : Nat) : Nat := wanP S.phases.length (spN P) (gpN S) (fun u => (partV P u).1) (fun u => (partV P u).2) t
def wtV (S : St) (P : Pl) (t : Int) : Int := if atE S P t = 0 then (wtN S P t.toNat : Int) else 0
set_option maxRecDepth 100000 in
set_option maxHeartbeats 2000000 in
theorem pwan_no {X : Sa} {S : St} {w : World} (h : Sat w X S) (hT : Tabb w) {P : Pl} {a : Option Addr} {c : Nat} (hI : Ints w a P.splits.length c P.splits) (t : Int) (E : Int) (hE : atE S P t = E) (h0 : E ≠ 0) : Calls Tryd.prog 12 #[siteV X S, planV P a c, .int .i64 t] w fun e w' => e = .returned (.tuple #[.int .i64 0, .int .i64 E]) ∧ Kept w w' none := by
  have hEb : (E != 0) = true := by simpa using h0
  have hpz : atPh S P t = 0 := by unfold atPh; rw [hE, if_neg h0]
  have hiz : atIn S P t = 0 := by unfold atIn; rw [hE, if_neg h0]
  obtain ⟨WA, hWA⟩ : ∃ WA, ((w.alloc (.cells #[.int .i64 S.id, .slice X.g S.groups.length X.gc, .slice X.a S.apart.length X.ac, .slice X.b S.between.length X.bc, .slice X.p S.phases.length X.pc, .slice X.e S.eyes.length X.ec, .int .i64 S.watch, .int .i64 S.feed, .int .i64 S.heal, .int .i64 S.low, .int .i64 S.high, .slice X.l S.plans.length X.lc] 35)).alloc (.cells #[.int .i64 P.cycle, .int .i64 P.offset, .slice a P.splits.length c] 24)) = WA := ⟨_, rfl⟩
  obtain ⟨HSB, HBP, HSZ, HK, HS, HI, p0_, p1_, p2_, s0_, s1_, s2_, s3_, s4_, s5_, s6_, s7_, s8_, s9_, s10_, s11_⟩ := hdp h hI hWA
  have HT := Hid.mk' (hT.kept HK.out)
  have HAT : Hid (Calls Tryd.prog 11 #[siteV X S, planV P a c, .int .i64 t] WA fun e w' => e = .returned (.tuple #[.int .i64 0, .int .i64 0, .int .i64 E]) ∧ Kept WA w' none) := by
    have hx := pat_any HS.out HT.out HI.out t
    rw [hpz, hiz, hE] at hx
    exact hx
  clear hE hpz hiz
  have hK0 := Kept.refl WA none
  clear h hT hI
  go_enter Tryd.func12, Tryd.ntmps12
  go_wp2_with (first | rw [hWA] | (go_at_call 11; refine HAT.out.mono ?_; rintro e wC ⟨rfl, hkC⟩; have hKC : Kept WA wC none := hkC))
  go_ret2
  exact ⟨rfl, HK.out.tr hkC⟩
set_option maxRecDepth 100000 in
set_option maxHeartbeats 2000000 in
theorem pwan_nx {X : Sa} {S : St} {w : World} (h : Sat w X S) (hT : Tabb w) {P : Pl} {a : Option Addr} {c : Nat} (hI : Ints w a P.splits.length c P.splits) (t : Nat) (hs : siteB S = true) (hp : planB S P = true) (h9 : t ≤ 1073741824) (i x : Nat) (e : partV P t = (i, x)) (hi : i < S.phases.length) (hx0 : (x : Int) < P.splits.getD i 0) (hc : P.splits.getD i 0 - (x : Int) ≤ gapM S i) : Calls Tryd.prog 12 #[siteV X S, planV P a c, .int .i64 (t : Int)] w fun e w' => e = .returned (.tuple #[.int .i64 (((i + 1) % S.phases.length : Nat) : Int), .int .i64 0]) ∧ Kept w w' none := by
  have hpf := plan_facts hp
  have hn9 := (span_may hs).base.sh.ok.np
  have hcf := cyc_facts hs
  have hsr : 1 ≤ P.splits.getD i 0 ∧ P.splits.getD i 0 ≤ 1048576 := by
    have h1 := hpf.sp i hi
    have h2 := partM_ge hs hi
    have h3 := sumF_one (f := fun k => P.splits.getD k 0) (n := S.phases.length) (i := i) (fun k hk => by have := hpf.sp k hk; have := partM_ge hs hk; omega) hi
    have h4 := hpf.tot
    have h5 := hpf.hi
    omega
  have hin : i < P.splits.length := by rw [hpf.n]; exact hi
  obtain ⟨WA, hWA⟩ : ∃ WA, ((w.alloc (.cells #[.int .i64 S.id, .slice X.g S.groups.length X.gc, .slice X.a S.apart.length X.ac, .slice X.b S.between.length X.bc, .slice X.p S.phases.length X.pc, .slice X.e S.eyes.length X.ec, .int .i64 S.watch, .int .i64 S.feed, .int .i64 S.heal, .int .i64 S.low, .int .i64 S.high, .slice X.l S.plans.length X.lc] 35)).alloc (.cells #[.int .i64 P.cycle, .int .i64 P.offset, .slice a P.splits.length c] 24)) = WA := ⟨_, rfl⟩
  obtain ⟨HSB, HBP, HSZ, HK, HS, HI, p0_, p1_, p2_, s0_, s1_, s2_, s3_, s4_, s5_, s6_, s7_, s8_, s9_, s10_, s11_⟩ := hdp h hI hWA
  have HT := Hid.mk' (hT.kept HK.out)
  have HAT : Hid (Calls Tryd.prog 11 #[siteV X S, planV P a c, .int .i64 (t : Int)] WA fun e w' => e = .returned (.tuple #[.int .i64 (i : Int), .int .i64 (x : Int), .int .i64 0]) ∧ Kept WA w' none) := by
    have hx := pat_go HS.out HT.out HI.out t hs hp h9
    rw [e] at hx
    exact hx
  have HCL : Hid (∀ w', Kept WA w' none → Calls Tryd.prog 33 #[.pointer (some ⟨w.heap.size, 0, none⟩), .int .i64 (i : Int)] w' fun e w2 => e = .returned (.int .i64 (gapM S i)) ∧ Kept w' w2 none) := fun w' q => pclr_any (HSB.out.kept q) (HT.out.kept q) hs hi
  have HNX : Hid (∀ w', Kept WA w' none → Calls Tryd.prog 34 #[.pointer (some ⟨w.heap.size, 0, none⟩), .int .i64 (i : Int)] w' fun e w2 => e = .returned (.int .i64 (((i + 1) % S.phases.length : Nat) : Int)) ∧ w2 = w') := fun w' q => pnxt_any (HSB.out.kept q) hn9.2 hi
  have hK0 := Kept.refl WA none
  clear h hT hI
  obtain ⟨b, off, ea, hb, hcel⟩ := HI.out.at_ (by omega)
  have kc := hcel i hin
  have kc_ : ∀ w', Kept WA w' none → w'.cell? ⟨b, off + i, none⟩ = some (.int .i64 (P.splits.getD i 0)) := fun w' q => cell_kept0 kc q
  have hw : IntKind.i64.wrap (P.splits.getD i 0 - (x : Int)) = P.splits.getD i 0 - (x : Int) := wrap_in (by omega) (by omega)
  clear hcel hb kc hpf hcf hs hp e
  subst ea
  generalize P.splits.getD i 0 = y at *
  generalize gapM S i = z at *
  go_enter Tryd.func12, Tryd.ntmps12
  go_wp2_with (first | rw [hWA] | (have hgo := hKD; clear hgo; go_at_call 34; refine (HNX.out _ hKD).mono ?_; rintro e wN ⟨rfl, hwN⟩; have hwN := hwN.symm; subst hwN) | (have hgo := hKC; clear hgo; go_at_call 33; refine (HCL.out _ hKC).mono ?_; rintro e wD ⟨rfl, hkD⟩; have hKD : Kept WA wD none := hKC.tr hkD) | (go_at_call 11; refine HAT.out.mono ?_; rintro e wC ⟨rfl, hkC⟩; have hKC : Kept WA wC none := hkC))
  go_ret2
  exact ⟨rfl, HK.out.tr hKD⟩
set_option maxRecDepth 100000 in
set_option maxHeartbeats 2000000 in
theorem pwan_own {X : Sa} {S : St} {w : World} (h : Sat w X S) (hT : Tabb w) {P : Pl} {a : Option Addr} {c : Nat} (hI : Ints w a P.splits.length c P.splits) (t : Nat) (hs : siteB S = true) (hp : planB S P = true) (h9 : t ≤ 1073741824) (i x : Nat) (e : partV P t = (i, x)) (hi : i < S.phases.length) (hx0 : (x : Int) < P.splits.getD i 0) (hc : ¬ P.splits.getD i 0 - (x : Int) ≤ gapM S i) : Calls Tryd.prog 12 #[siteV X S, planV P a c, .int .i64 (t : Int)] w fun e w' => e = .returned (.tuple #[.int .i64 ((i : Nat) : Int), .int .i64 0]) ∧ Kept w w' none := by
  have hpf := plan_facts hp
  have hn9 := (span_may hs).base.sh.ok.np
  have hcf := cyc_facts hs
  have hsr : 1 ≤ P.splits.getD i 0 ∧ P.splits.getD i 0 ≤ 1048576 := by
    have h1 := hpf.sp i hi
    have h2 := partM_ge hs hi
    have h3 := sumF_one (f := fun k => P.splits.getD k 0) (n := S.phases.length) (i := i) (fun k hk => by have := hpf.sp k hk; have := partM_ge hs hk; omega) hi
    have h4 := hpf.tot
    have h5 := hpf.hi
    omega
  have hin : i < P.splits.length := by rw [hpf.n]; exact hi
  obtain ⟨WA, hWA⟩ : ∃ WA, ((w.alloc (.cells #[.int .i64 S.id, .slice X.g S.groups.length X.gc, .slice X.a S.apart.length X.ac, .slice X.b S.between.length X.bc, .slice X.p S.phases.length X.pc, .slice X.e S.eyes.length X.ec, .int .i64 S.watch, .int .i64 S.feed, .int .i64 S.heal, .int .i64 S.low, .int .i64 S.high, .slice X.l S.plans.length X.lc] 35)).alloc (.cells #[.int .i64 P.cycle, .int .i64 P.offset, .slice a P.splits.length c] 24)) = WA := ⟨_, rfl⟩
  obtain ⟨HSB, HBP, HSZ, HK, HS, HI, p0_, p1_, p2_, s0_, s1_, s2_, s3_, s4_, s5_, s6_, s7_, s8_, s9_, s10_, s11_⟩ := hdp h hI hWA
  have HT := Hid.mk' (hT.kept HK.out)
  have HAT : Hid (Calls Tryd.prog 11 #[siteV X S, planV P a c, .int .i64 (t : Int)] WA fun e w' => e = .returned (.tuple #[.int .i64 (i : Int), .int .i64 (x : Int), .int .i64 0]) ∧ Kept WA w' none) := by
    have hx := pat_go HS.out HT.out HI.out t hs hp h9
    rw [e] at hx
    exact hx
  have HCL : Hid (∀ w', Kept WA w' none → Calls Tryd.prog 33 #[.pointer (some ⟨w.heap.size, 0, none⟩), .int .i64 (i : Int)] w' fun e w2 => e = .returned (.int .i64 (gapM S i)) ∧ Kept w' w2 none) := fun w' q => pclr_any (HSB.out.kept q) (HT.out.kept q) hs hi
  have hK0 := Kept.refl WA none
  clear h hT hI
  obtain ⟨b, off, ea, hb, hcel⟩ := HI.out.at_ (by omega)
  have kc := hcel i hin
  have kc_ : ∀ w', Kept WA w' none → w'.cell? ⟨b, off + i, none⟩ = some (.int .i64 (P.splits.getD i 0)) := fun w' q => cell_kept0 kc q
  have hw : IntKind.i64.wrap (P.splits.getD i 0 - (x : Int)) = P.splits.getD i 0 - (x : Int) := wrap_in (by omega) (by omega)
  clear hcel hb kc hpf hcf hs hp e
  subst ea
  generalize P.splits.getD i 0 = y at *
  generalize gapM S i = z at *
  go_enter Tryd.func12, Tryd.ntmps12
  go_wp2_with (first | rw [hWA] | (have hgo := hKC; clear hgo; go_at_call 33; refine (HCL.out _ hKC).mono ?_; rintro e wD ⟨rfl, hkD⟩; have hKD : Kept WA wD none := hKC.tr hkD) | (go_at_call 11; refine HAT.out.mono ?_; rintro e wC ⟨rfl, hkC⟩; have hKC : Kept WA wC none := hkC))
  go_ret2
  exact ⟨rfl, HK.out.tr hKD⟩
theorem pwan_go {X : Sa} {S : St} {w : World} (h : Sat w X S) (hT : Tabb w) {P : Pl} {a : Option Addr} {c : Nat} (hI : Ints w a P.splits.length c P.splits) (t : Nat) (hs : siteB S = true) (hp : planB S P = true) (h9 : t ≤ 1073741824) : Calls Tryd.prog 12 #[siteV X S, planV P a c, .int .i64 (t : Int)] w fun e w' => e = .returned (.tuple #[.int .i64 (wtN S P t : Int), .int .i64 0]) ∧ Kept w w' none := by
  have hpf := plan_facts hp
  obtain ⟨i, x, hi, hx, _, e⟩ := part_ex hs hpf t
  have h1 := hpf.sp i hi
  have h2 := partM_ge hs hi
  have hg := liesM_ge S i ((i + 1) % S.phases.length)
  have hx0 : (x : Int) < P.splits.getD i 0 := by unfold spN at hx; omega
  have hv : wtN S P t = if x + gpN S i < spN P i then i else nxP S.phases.length i := by
    unfold wtN wanP
    simp only [e]
  rw [hv]
  have hsp : (spN P i : Int) = P.splits.getD i 0 := by unfold spN; omega
  have hgp : (gpN S i : Int) = gapM S i := Int.toNat_of_nonneg hg
  by_cases hc : P.splits.getD i 0 - (x : Int) ≤ gapM S i
  · rw [if_neg (show ¬ (x + gpN S i < spN P i) by omega), nx_mod hi]
    exact pwan_nx h hT hI t hs hp h9 i x e hi hx0 hc
  · rw [if_pos (show x + gpN S i < spN P i by omega)]
    exact pwan_own h hT hI t hs hp h9 i x e hi hx0 hc
theorem pwan_any {X : Sa} {S : St} {w : World} (h : Sat w X S) (hT : Tabb w) {P : Pl} {a : Option Addr} {c : Nat} (hI : Ints w a P.splits.length c P.splits) (t : Int) : Calls Tryd.prog 12 #[siteV X S, planV P a c, .int .i64 t] w fun e w' => e = .returned (.tuple #[.int .i64 (wtV S P t), .int .i64 (atE S P t)]) ∧ Kept w w' none := by
  unfold wtV
  by_cases he : atE S P t = 0
  · rw [if_pos he, he]
    obtain ⟨hs, hp, n, rfl, hn⟩ := atE_ok he
    exact pwan_go h hT hI n hs hp hn
  · rw [if_neg he]
    exact pwan_no h hT hI t _ rfl he

end Go.Proofs.YtfhmfanmnhclfaaDoor

