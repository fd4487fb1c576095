/-
  THE CONTRACTS of both and differ: two lists at once, as far as the shorter one goes, to whatever body; whether one aspect is another one (made by a program).
-/
import Derived.Test.YtlpphapbehajnaaDoorBackM
import Derived.Test.YtlpphapbehajnaaDoorRnd
import Derived.RegionIn
import Derived.Stop.RegionWithIn
import Derived.WalkMore
import Derived.Scope
namespace Go.Proofs.YtlpphapbehajnaaDoor
open Go.RowKit Go.Lib Go.Deep Go.Shelf
set_option linter.unusedVariables false
set_option linter.unusedSimpArgs false
attribute [local go_sem] Oper.semAt_some

/-- A number below another one. -/
abbrev Ix (m : Nat) := { i : Nat // i < m }
def ivals {m : Nat} (l : List (Ix m)) : List Nat := l.map (·.1)
theorem ivals_snoc {m : Nat} (l : List (Ix m)) (x : Ix m) : ivals (l ++ [x]) = ivals l ++ [x.1] := by simp [ivals]
theorem ivals_lt {m : Nat} {l : List (Ix m)} {i : Nat} (h : i ∈ ivals l) : i < m := by
  simp only [ivals, List.mem_map] at h
  obtain ⟨x, _, rfl⟩ := h
  exact x.2
/-- How a round ends: it goes on, or it does not. -/
def Yp (A B : Prop) (t : Bool) : Prop := (t = true → A) ∧ (t = false → B)
def pairV (L M : List Nat) {m : Nat} (x : Ix m) : Array Value := #[.int .u8 ((at10 L x.1 : Nat) : Int), .int .u8 ((at10 M x.1 : Nat) : Int)]
set_option maxRecDepth 100000 in
set_option maxHeartbeats 4000000 in
theorem both1_less (q : Nat) (hq : 1 ≤ q) (l B1 B2 : Nat) {a b : Option Addr} {n c m d : Nat} {L M : List Nat} (W0 : World) (hA : By W0 a n L) (hB : By W0 b m M) (hmn : m < n)
    (c1 : W0.cell? ⟨B1, 0, none⟩ = some (.slice a n c)) (c2 : W0.cell? ⟨B2, 0, none⟩ = some (.slice b m d)) (J Jx : List (Ix m) → World → Prop) (W : World) (hJ : AbidesFrom W.heap.size J)
    (hY : ∀ pre (x : Ix m) W, J pre W → pre.length < m → YieldAt Fence.wide (q - 1) Tryd.prog l (pairV L M x) W fun e W' =>
      (e = .returned (.bool true) ∧ J (pre ++ [x]) W' ∧ Below W0.heap.size W W') ∨ (e = .returned (.bool false) ∧ Jx (pre ++ [x]) W'))
    (hW : Below W0.heap.size W0 W) (h0 : J [] W) :
    CallsIn Fence.wide q Tryd.prog 40 #[.func (.yield l) #[] #[], .pointer (some ⟨B1, 0, none⟩), .pointer (some ⟨B2, 0, none⟩)] W fun e W' => (∃ v, e = .returned v) ∧
      ((∃ ys, ivals ys = List.range m ∧ J ys W') ∨ (∃ pre : List (Ix m), True ∧ Jx pre W')) := by
  have hAm := hA.max
  have hBm := hB.max
  have HA := Hid.mk' hA
  have HB := Hid.mk' hB
  have C1 := Hid.mk' c1
  have C2 := Hid.mk' c2
  have HJ := Hid.mk' hJ
  have HW := Hid.mk' hW
  have HY := Hid.mk' hY
  have H0 := Hid.mk' h0
  have k1 := cell_kept0 c1 (Kept.of_below hW)
  have k2 := cell_kept0 c2 (Kept.of_below hW)
  clear hA hB c1 c2 hJ hW hY h0
  refine callsIn_of_wp Tryd.func40 rfl trivial ?_ rfl
  simp only [Tryd.ntmps40, List.size_toArray, List.length_cons, List.length_nil, Nat.reduceAdd, Nat.reduceSub, Array.replicate_succ, Array.replicate_zero, List.push_toArray, List.append_toArray, List.nil_append, List.cons_append]
  gi_wp2
  gi_loopw [4, 10] (fun _ i wr => ∃ (k : Nat) (pre : List (Ix m)), k ≤ m ∧ i = .int .i64 k ∧ ivals pre = List.range k ∧ J pre wr ∧ Below W0.heap.size W0 wr) (fun _ i _ => m - (intOf i).toNat)
  case atStart => exact ⟨0, [], by omega, rfl, rfl, H0.out, HW.out⟩
  case round =>
    obtain ⟨k, pre, hk, rfl, hpre, hJs, hnx⟩ := hrel
    have HP := Hid.mk' hpre
    have HN := Hid.mk' hnx
    clear hpre
    by_cases hlt : k < m
    · have hJd : J pre wr.drew := HJ.out pre wr wr.drew none hJs ⟨rfl, rfl, rfl, Nat.le_refl _, fun _ _ _ => rfl⟩ (fun r e => by cases e)
      obtain ⟨fn, tmps, assign, body, hy, hR⟩ := HY.out pre ⟨k, hlt⟩ wr.drew hJd (by have := congrArg List.length HP.out; simp [ivals] at this; omega)
      have hR2 := hR.mono (R' := fun e W' => ∃ t : Bool, e = .returned (.bool t) ∧ Yp (J (pre ++ [⟨k, hlt⟩]) W' ∧ Below W0.heap.size wr.drew W') (Jx (pre ++ [⟨k, hlt⟩]) W') t) (by
        rintro e W' (⟨rfl, h1, h2⟩ | ⟨rfl, h1⟩)
        · exact ⟨true, rfl, fun _ => ⟨h1, h2⟩, fun h => absurd h (by decide)⟩
        · exact ⟨false, rfl, fun h => absurd h (by decide), fun _ => h1⟩)
      unfold pairV at hy
      dsimp only at hy
      have hkp := Kept.of_below HN.out
      have x1 := cell_kept0 C1.out hkp
      have x2 := cell_kept0 C2.out hkp
      obtain ⟨b1, o1, rfl, _, hc1⟩ := (HA.out.kept hkp).at_ (by omega)
      obtain ⟨b2, o2, rfl, _, hc2⟩ := (HB.out.kept hkp).at_ (by omega)
      have y1 := hc1 k (by omega)
      have y2 := hc2 k hlt
      rw [show L.getD k 0 = at10 L k from rfl] at y1
      rw [show M.getD k 0 = at10 M k from rfl] at y2
      have HR2 := Hid.mk' hR2
      clear hc1 hc2 hR hR2 hJd hJs hkp hnx k1 k2
      have HL : Hid (ivals (pre ++ [⟨k, hlt⟩]) = List.range (k + 1)) := by show _ = _; rw [ivals_snoc, HP.out, List.range_succ]
      generalize hz : (pre ++ [(⟨k, hlt⟩ : Ix m)]) = pre2 at *
      clear hz
      generalize at10 L k = y at *
      generalize at10 M k = z at *
      gi_wp2
      gi_region_with (refine HR2.out.mono ?_; rintro e W3 ⟨t, rfl, h3⟩)
      all_goals
        cases t with
        | true =>
          obtain ⟨hJ3, hk3⟩ := h3.1 rfl
          gi_wp2
          go_roundw
          case rel => exact ⟨k + 1, pre2, by omega, by go_num, HL.out, hJ3, (HN.out.drew).trans hk3⟩
          case measure => simp [intOf]; omega
        | false =>
          have hJx3 := h3.2 rfl
          gi_wp2
          refine bodyPost_ret (results_none rfl _ _ _) rfl ?_
          exact ⟨⟨_, rfl⟩, .inr ⟨_, trivial, hJx3⟩⟩
    · obtain rfl : k = m := by omega
      gi_wp2
      go_end0
      exact ⟨⟨_, rfl⟩, .inl ⟨pre, HP.out, hJs⟩⟩
set_option maxRecDepth 100000 in
set_option maxHeartbeats 4000000 in
theorem both1_same (q : Nat) (hq : 1 ≤ q) (l B1 B2 : Nat) {a b : Option Addr} {c m d : Nat} {L M : List Nat} (W0 : World) (hA : By W0 a m L) (hB : By W0 b m M)
    (c1 : W0.cell? ⟨B1, 0, none⟩ = some (.slice a m c)) (c2 : W0.cell? ⟨B2, 0, none⟩ = some (.slice b m d)) (J Jx : List (Ix m) → World → Prop) (W : World) (hJ : AbidesFrom W.heap.size J)
    (hY : ∀ pre (x : Ix m) W, J pre W → pre.length < m → YieldAt Fence.wide (q - 1) Tryd.prog l (pairV L M x) W fun e W' =>
      (e = .returned (.bool true) ∧ J (pre ++ [x]) W' ∧ Below W0.heap.size W W') ∨ (e = .returned (.bool false) ∧ Jx (pre ++ [x]) W'))
    (hW : Below W0.heap.size W0 W) (h0 : J [] W) :
    CallsIn Fence.wide q Tryd.prog 40 #[.func (.yield l) #[] #[], .pointer (some ⟨B1, 0, none⟩), .pointer (some ⟨B2, 0, none⟩)] W fun e W' => (∃ v, e = .returned v) ∧
      ((∃ ys, ivals ys = List.range m ∧ J ys W') ∨ (∃ pre : List (Ix m), True ∧ Jx pre W')) := by
  have hAm := hA.max
  have hBm := hB.max
  have HA := Hid.mk' hA
  have HB := Hid.mk' hB
  have C1 := Hid.mk' c1
  have C2 := Hid.mk' c2
  have HJ := Hid.mk' hJ
  have HW := Hid.mk' hW
  have HY := Hid.mk' hY
  have H0 := Hid.mk' h0
  have k1 := cell_kept0 c1 (Kept.of_below hW)
  have k2 := cell_kept0 c2 (Kept.of_below hW)
  clear hA hB c1 c2 hJ hW hY h0
  refine callsIn_of_wp Tryd.func40 rfl trivial ?_ rfl
  simp only [Tryd.ntmps40, List.size_toArray, List.length_cons, List.length_nil, Nat.reduceAdd, Nat.reduceSub, Array.replicate_succ, Array.replicate_zero, List.push_toArray, List.append_toArray, List.nil_append, List.cons_append]
  gi_wp2
  gi_loopw [4, 10] (fun _ i wr => ∃ (k : Nat) (pre : List (Ix m)), k ≤ m ∧ i = .int .i64 k ∧ ivals pre = List.range k ∧ J pre wr ∧ Below W0.heap.size W0 wr) (fun _ i _ => m - (intOf i).toNat)
  case atStart => exact ⟨0, [], by omega, rfl, rfl, H0.out, HW.out⟩
  case round =>
    obtain ⟨k, pre, hk, rfl, hpre, hJs, hnx⟩ := hrel
    have HP := Hid.mk' hpre
    have HN := Hid.mk' hnx
    clear hpre
    by_cases hlt : k < m
    · have hJd : J pre wr.drew := HJ.out pre wr wr.drew none hJs ⟨rfl, rfl, rfl, Nat.le_refl _, fun _ _ _ => rfl⟩ (fun r e => by cases e)
      obtain ⟨fn, tmps, assign, body, hy, hR⟩ := HY.out pre ⟨k, hlt⟩ wr.drew hJd (by have := congrArg List.length HP.out; simp [ivals] at this; omega)
      have hR2 := hR.mono (R' := fun e W' => ∃ t : Bool, e = .returned (.bool t) ∧ Yp (J (pre ++ [⟨k, hlt⟩]) W' ∧ Below W0.heap.size wr.drew W') (Jx (pre ++ [⟨k, hlt⟩]) W') t) (by
        rintro e W' (⟨rfl, h1, h2⟩ | ⟨rfl, h1⟩)
        · exact ⟨true, rfl, fun _ => ⟨h1, h2⟩, fun h => absurd h (by decide)⟩
        · exact ⟨false, rfl, fun h => absurd h (by decide), fun _ => h1⟩)
      unfold pairV at hy
      dsimp only at hy
      have hkp := Kept.of_below HN.out
      have x1 := cell_kept0 C1.out hkp
      have x2 := cell_kept0 C2.out hkp
      obtain ⟨b1, o1, rfl, _, hc1⟩ := (HA.out.kept hkp).at_ (by omega)
      obtain ⟨b2, o2, rfl, _, hc2⟩ := (HB.out.kept hkp).at_ (by omega)
      have y1 := hc1 k (by omega)
      have y2 := hc2 k hlt
      rw [show L.getD k 0 = at10 L k from rfl] at y1
      rw [show M.getD k 0 = at10 M k from rfl] at y2
      have HR2 := Hid.mk' hR2
      clear hc1 hc2 hR hR2 hJd hJs hkp hnx k1 k2
      have HL : Hid (ivals (pre ++ [⟨k, hlt⟩]) = List.range (k + 1)) := by show _ = _; rw [ivals_snoc, HP.out, List.range_succ]
      generalize hz : (pre ++ [(⟨k, hlt⟩ : Ix m)]) = pre2 at *
      clear hz
      generalize at10 L k = y at *
      generalize at10 M k = z at *
      gi_wp2
      gi_region_with (refine HR2.out.mono ?_; rintro e W3 ⟨t, rfl, h3⟩)
      all_goals
        cases t with
        | true =>
          obtain ⟨hJ3, hk3⟩ := h3.1 rfl
          gi_wp2
          go_roundw
          case rel => exact ⟨k + 1, pre2, by omega, by go_num, HL.out, hJ3, (HN.out.drew).trans hk3⟩
          case measure => simp [intOf]; omega
        | false =>
          have hJx3 := h3.2 rfl
          gi_wp2
          refine bodyPost_ret (results_none rfl _ _ _) rfl ?_
          exact ⟨⟨_, rfl⟩, .inr ⟨_, trivial, hJx3⟩⟩
    · obtain rfl : k = m := by omega
      gi_wp2
      go_end0
      exact ⟨⟨_, rfl⟩, .inl ⟨pre, HP.out, hJs⟩⟩

theorem both1_in (q : Nat) (hq : 1 ≤ q) (l B1 B2 : Nat) {a b : Option Addr} {n c m d : Nat} {L M : List Nat} (W0 : World) (hA : By W0 a n L) (hB : By W0 b m M) (hmn : m ≤ n)
    (c1 : W0.cell? ⟨B1, 0, none⟩ = some (.slice a n c)) (c2 : W0.cell? ⟨B2, 0, none⟩ = some (.slice b m d)) (J Jx : List (Ix m) → World → Prop) (W : World) (hJ : AbidesFrom W.heap.size J)
    (hY : ∀ pre (x : Ix m) W, J pre W → pre.length < m → YieldAt Fence.wide (q - 1) Tryd.prog l (pairV L M x) W fun e W' =>
      (e = .returned (.bool true) ∧ J (pre ++ [x]) W' ∧ Below W0.heap.size W W') ∨ (e = .returned (.bool false) ∧ Jx (pre ++ [x]) W'))
    (hW : Below W0.heap.size W0 W) (h0 : J [] W) :
    CallsIn Fence.wide q Tryd.prog 40 #[.func (.yield l) #[] #[], .pointer (some ⟨B1, 0, none⟩), .pointer (some ⟨B2, 0, none⟩)] W fun e W' => (∃ v, e = .returned v) ∧
      ((∃ ys, ivals ys = List.range m ∧ J ys W') ∨ (∃ pre : List (Ix m), True ∧ Jx pre W')) := by
  by_cases h : m < n
  · exact both1_less q hq l B1 B2 W0 hA hB h c1 c2 J Jx W hJ hY hW h0
  · obtain rfl : m = n := by omega
    exact both1_same q hq l B1 B2 W0 hA hB c1 c2 J Jx W hJ hY hW h0
theorem both_stops (q : Nat) (hq : 1 ≤ q) (B1 B2 : Nat) {a b : Option Addr} {n c m d : Nat} {L M : List Nat} (W0 : World) (hA : By W0 a n L) (hB : By W0 b m M) (hmn : m ≤ n)
    (c1 : W0.cell? ⟨B1, 0, none⟩ = some (.slice a n c)) (c2 : W0.cell? ⟨B2, 0, none⟩ = some (.slice b m d)) :
    SeqStopsK Fence.wide q Tryd.prog 40 #[.pointer (some ⟨B1, 0, none⟩), .pointer (some ⟨B2, 0, none⟩)] (fun x : Ix m => pairV L M x) (Below W0.heap.size) (fun ys => ivals ys = List.range m) (fun _ => True) m W0 := fun l J Jx W hW hJ _ hY h0 =>
  both1_in q hq l B1 B2 W0 hA hB hmn c1 c2 J Jx W hJ hY hW h0
set_option maxHeartbeats 1000000 in
theorem both_in (q : Nat) (w : World) (a b : Option Addr) (n c m d : Nat) :
    CallsIn Fence.wide q Tryd.prog 24 #[.slice a n c, .slice b m d] w fun e w' => e = .returned (.func (.func 40) #[] #[.pointer (some ⟨w.heap.size, 0, none⟩), .pointer (some ⟨w.heap.size + 1, 0, none⟩)]) ∧ w' = (w.alloc (.cells #[.slice a n c] 34)).alloc (.cells #[.slice b m d] 34) := by
  refine callsIn_of_wp Tryd.func24 rfl trivial ?_ rfl
  simp only [Tryd.ntmps24, List.size_toArray, List.length_cons, List.length_nil, Nat.reduceAdd, Nat.reduceSub, Array.replicate_succ, Array.replicate_zero, List.push_toArray, List.append_toArray, List.nil_append, List.cons_append]
  gi_wp2
  go_ret
  exact ⟨rfl, rfl⟩
set_option maxRecDepth 100000 in
set_option maxHeartbeats 4000000 in
theorem differ_any {w : World} {a b : Option Addr} {n c m d : Nat} {L M : List Nat} (hA : By w a n L) (hB : By w b m M) (hmn : m ≤ n) : Calls Tryd.prog 18 #[.slice a n c, .slice b m d] w fun e w' => e = .returned (.bool (difB L M)) ∧ Kept w w' none := by
  refine (callsIn_wide (n := 8)).1 ?_
  have HA := Hid.mk' hA
  have HB := Hid.mk' hB
  have hMl := hB.size
  have HM := Hid.mk' hMl
  clear hA hB hMl
  refine callsIn_of_wp_marks Tryd.func18 rfl trivial ?_ rfl
  simp only [Tryd.ntmps18, List.size_toArray, List.length_cons, List.length_nil, Nat.reduceAdd, Nat.reduceSub, Array.replicate_succ, Array.replicate_zero, List.push_toArray, List.append_toArray, List.nil_append, List.cons_append]
  gi_wp2
  refine (wpIn_wide (n := 8)).2 (wp_scope_straight ((wpIn_wide (n := 8)).1 ?_))
  gi_wp2
  refine wpIn_label ?_
  gi_wp2_with (refine ⟨trivial, ?_⟩; gi_at_call 24; refine (both_in _ _ _ _ _ _ _ _).mono ?_; rintro e w' ⟨rfl, rfl⟩)
  have bR := ((Boxed.new w 4 (.bool false)).alloc (.cells #[.slice a n c] 34)).alloc (.cells #[.slice b m d] 34)
  have b1 := (Boxed.new (w.alloc (.cells #[.bool false] 4)) 34 (.slice a n c)).alloc (.cells #[.slice b m d] 34)
  have b2 := Boxed.new ((w.alloc (.cells #[.bool false] 4)).alloc (.cells #[.slice a n c] 34)) 34 (.slice b m d)
  simp only [World.size_alloc] at b1 b2
  have hB0 : Below w.heap.size w (((w.alloc (.cells #[.bool false] 4)).alloc (.cells #[.slice a n c] 34)).alloc (.cells #[.slice b m d] 34)) := (((Below.refl _ w).alloc (Nat.le_refl _) _).alloc (by simp) _).alloc (by simp; omega) _
  have hsz : (((w.alloc (.cells #[.bool false] 4)).alloc (.cells #[.slice a n c] 34)).alloc (.cells #[.slice b m d] 34)).heap.size = w.heap.size + 3 := by simp
  obtain ⟨W0, hW0⟩ : ∃ W0, ((w.alloc (.cells #[.bool false] 4)).alloc (.cells #[.slice a n c] 34)).alloc (.cells #[.slice b m d] 34) = W0 := ⟨_, rfl⟩
  rw [hW0] at bR b1 b2 hB0 hsz ⊢
  have hsz1 : W0.heap.size ≤ w.heap.size + 3 := by omega
  have hsz2 : w.heap.size + 3 ≤ W0.heap.size := by omega
  clear hW0 hsz
  refine wpIn_rangeFunc_ownH rfl (by omega) (gf := 40) (lb := #[.pointer (some ⟨w.heap.size + 1, 0, none⟩), .pointer (some ⟨w.heap.size + 1 + 1, 0, none⟩)]) rfl trivial (enters_of Tryd.func40 (by kernel_rfl) rfl)
    (both_stops 7 (by omega) (w.heap.size + 1) (w.heap.size + 1 + 1) W0 (HA.out.kept (Kept.of_below hB0)) (HB.out.kept (Kept.of_below hB0)) hmn b1.cell b2.cell) belowK_t (belowK_b (Nat.le_refl _)) (Below.refl _ _) (fun _ => rfl)
    (fun pre W => ((∀ i ∈ ivals pre, at10 L i = at10 M i) ∧ Boxed W w.heap.size 4 (.bool false)) ∧ Below w.heap.size w W)
    (fun c pre W => ((c = .ret ∧ ∃ i ∈ ivals pre, at10 L i ≠ at10 M i) ∧ Boxed W w.heap.size 4 (.bool true)) ∧ Below w.heap.size w W)
    (OwnFrom.and (OwnFrom.and (ownFrom_pure _ _) (Own.from (boxed_own _ _ _) _)) (ownFrom_below (Nat.le_refl _) (by omega)))
    (fun c => OwnFrom.and (OwnFrom.and (ownFrom_pure _ _) (Own.from (boxed_own _ _ _) _)) (ownFrom_below (Nat.le_refl _) (by omega)))
    ⟨⟨by simp [ivals], bR⟩, hB0⟩
    (fun x a' _ => a' = { tmps := #[.slice a n c, .slice b m d, undef, undef, .pointer (some ⟨w.heap.size, 0, none⟩), .int .u8 ((at10 L x.1 : Nat) : Int), .int .u8 ((at10 M x.1 : Nat) : Int), .slice a n c, .slice b m d, .func (.func 40) #[] #[.pointer (some ⟨w.heap.size + 1, 0, none⟩), .pointer (some ⟨w.heap.size + 1 + 1, 0, none⟩)], .int .u8 ((at10 L x.1 : Nat) : Int), .int .u8 ((at10 M x.1 : Nat) : Int), undef, undef, undef], defers := [] })
    (fun _ _ _ _ _ _ hs _ _ => hs)
    ?assign ?body ?done ?stop
  case assign =>
    rintro l pre x W K hi hK
    unfold pairV
    gi_wp2
    exact hK _ _ (KeepsFrom.refl _ _) (Below.refl _ _) hi rfl
  case body =>
    rintro l pre x a' W hl ⟨r, hr⟩ ⟨⟨hall, bR1⟩, hBW⟩ rfl hlt
    have cR := bR1.cell
    have fR := bR1.frozen
    obtain ⟨x, hx⟩ := x
    have HALL := Hid.mk' hall
    clear hall
    dsimp only at *
    by_cases hq : at10 L x = at10 M x
    · have HQ := Hid.mk' hq
      have hqb : ((at10 L x : Int) == (at10 M x : Int)) = true := by rw [hq]; simp
      clear hq
      gi_wp2
      refine ⟨KeepsFrom.refl _ _, Below.refl _ _, ⟨?_, bR1⟩, hBW⟩
      rw [ivals_snoc]
      intro i hi
      rcases List.mem_append.1 hi with hi | hi
      · exact HALL.out i hi
      · have e : i = x := by simpa using hi
        rw [e]; exact HQ.out
    · have HQ := Hid.mk' hq
      have hqb : ((at10 L x : Int) == (at10 M x : Int)) = false := by simp; omega
      clear hq
      gi_wp2
      exact ⟨(KeepsOthers.setCell _ _ _).from _, ⟨⟨rfl, x, by rw [ivals_snoc]; simp, HQ.out⟩, bR1.set _⟩, hBW.setCell (p := ⟨w.heap.size, 0, none⟩) (by simp) _⟩
  case done =>
    rintro D zs W hD hzs ⟨⟨hall, bR1⟩, hBW⟩ hK
    have cR := bR1.cell
    have fR := bR1.frozen
    have hE : difB L M = false := difB_no (fun i hi => hall i (by rw [hzs]; simpa [HM.out] using hi))
    have HE := Hid.mk' hE
    clear hE hall
    gi_wp2
    have hK' := (KeepsOthers.setCell W ⟨w.heap.size, 0, none⟩ (.bool false)).same D _ hK rfl
    refine ⟨by simp, .inl ⟨_, _, rfl, run_takeDeferred hK', ?_⟩⟩
    have hc5 := cell_kept (bR1.set (.bool false)).cell (grownBy_putObj' _ D (.deferred none)) (fun r e => by cases e; exact ⟨_, hK', rfl⟩)
    refine ⟨.bool false, ?_, by rw [HE.out], Kept.of_below ((hBW.setCell (p := ⟨w.heap.size, 0, none⟩) (by simp) _).trans (belowK_b (w := w) (Nat.le_refl _) _ D _ _ (by omega) hK' rfl rfl))⟩
    simp [results, Tryd.f18, go_sem, hc5]
  case stop =>
    rintro D c pre W hD hpre ⟨⟨⟨rfl, i, hi, hq⟩, bR1⟩, hBW⟩ hK
    have hE : difB L M = true := difB_yes (by have := ivals_lt hi; rw [HM.out]; exact this) hq
    have HE := Hid.mk' hE
    clear hE
    gi_wp2
    refine ⟨by simp, .inl ⟨_, _, rfl, run_takeDeferred hK, ?_⟩⟩
    have hc5 := cell_kept bR1.cell (grownBy_putObj' _ D (.deferred none)) (fun r e => by cases e; exact ⟨_, hK, rfl⟩)
    refine ⟨.bool true, ?_, by rw [HE.out], Kept.of_below (hBW.trans (belowK_b (w := w) (Nat.le_refl _) W D _ _ (by omega) hK rfl rfl))⟩
    simp [results, Tryd.f18, go_sem, hc5]

end Go.Proofs.YtlpphapbehajnaaDoor
