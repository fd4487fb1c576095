/-
  THE WALK of FrameTurned.
-/
import Derived.Test.YtflehhliddcfgabDoorAlive
namespace Go.Proofs.YtflehhliddcfgabDoor
open Go.RowKit Go.Lib Go.Deep
set_option linter.unusedVariables false
set_option linter.unusedSimpArgs false

theorem xor_ne {a x : Nat} (h : x ≠ 0) : a ^^^ x ≠ a := by
  intro e
  have : a ^^^ (a ^^^ x) = a ^^^ a := by rw [e]
  rw [← Nat.xor_assoc, Nat.xor_self, Nat.zero_xor] at this
  exact h this
theorem set_parts (L : List Nat) (p y : Nat) (hp : p < L.length) : L.set p y = L.take p ++ [y] ++ L.drop (p + 1) := by
  rw [List.set_eq_take_append_cons_drop, if_pos hp]
  simp
theorem self_parts (L : List Nat) (p : Nat) (hp : p < L.length) : L = L.take p ++ [L.getD p 0] ++ L.drop (p + 1) := by
  have := set_parts L p (L.getD p 0) hp
  rw [← this]
  apply List.ext_getElem
  · simp
  · intro j h1 h2
    rw [List.getElem_set]
    split
    · rename_i e; subst e; simp [h1]
    · rfl
/-- An inside one of whose bytes is another one is none. -/
theorem opn_turned (L : List Nat) (hb : ∀ x ∈ L, x < 256) (h : opnB L = true) (p y : Nat) (hp : p < L.length) (hy : y < 256) (hne : y ≠ L.getD p 0) : opnB (L.set p y) = false := by
  cases e : opnB (L.set p y) with
  | false => rfl
  | true =>
    exfalso
    obtain ⟨h9, h5, hs⟩ := (opnB_iff L).1 h
    obtain ⟨_, _, hs2⟩ := (opnB_iff _).1 e
    unfold told tolds at hs hs2
    rw [List.length_set] at hs2
    by_cases hc : p < L.length - 4
    · rw [List.drop_set_of_lt hc, hs, List.take_set] at hs2
      have l1 := congrArg v256 hs2
      have hbt : ∀ x ∈ L.take (L.length - 4), x < 256 := fun x hx => hb x (List.mem_of_mem_take hx)
      have hT := self_parts (L.take (L.length - 4)) p (by simp; omega)
      have hS := set_parts (L.take (L.length - 4)) p y (by simp; omega)
      have hg : (L.take (L.length - 4)).getD p 0 = L.getD p 0 := by
        simp only [List.getD_eq_getElem?_getD]
        rw [List.getElem?_take_of_lt hc]
      generalize L.take (L.length - 4) = T at *
      have hbs : ∀ x ∈ T.set p y, x < 256 := fun x hx => by
        rcases List.mem_or_eq_of_mem_set hx with h | h
        · exact hbt x h
        · omega
      rw [v256_leb, v256_leb] at l1
      have b1 := sumB_lt T hbt
      have b2 := sumB_lt (T.set p y) hbs
      have l2 : sumB T = sumB (T.set p y) := by
        rw [Nat.mod_eq_of_lt (by omega), Nat.mod_eq_of_lt (by omega)] at l1
        exact l1
      have l3 := sumB_inj l2
      rw [hS] at l3
      rw [show crc T = crc (T.take p ++ [T.getD p 0] ++ T.drop (p + 1)) from congrArg crc hT] at l3
      have hgl : T.getD p 0 < 256 := by
        by_cases hpT : p < T.length
        · have : T.getD p 0 = T[p] := by simp [hpT]
          rw [this]; exact hbt _ (List.getElem_mem hpT)
        · simp [show T.length ≤ p by omega]
      have := crc_turned (T.take p) [T.getD p 0] [y] (T.drop (p + 1)) rfl (by simp) (fun x hx => hbt x (List.mem_of_mem_take hx)) (by simpa using hgl) (by simpa using hy) (fun x hx => hbt x (List.mem_of_mem_drop hx)) l3
      have e2 : T.getD p 0 = y := by simpa using this
      exact hne (by rw [← e2, hg])
    · rw [List.take_set_of_le (by omega), ← hs, List.drop_set, if_neg (by omega)] at hs2
      have hj : p - (L.length - 4) < (L.drop (L.length - 4)).length := by simp; omega
      have e2 := congrArg (fun l => l[p - (L.length - 4)]?) hs2
      simp only [List.getElem?_set_self hj] at e2
      rw [List.getElem?_drop, show L.length - 4 + (p - (L.length - 4)) = p by omega] at e2
      exact hne (by simp [← e2])
theorem Mine.row {w : World} {base g n cap : Nat} {L : List Nat} (h : Mine w base (some ⟨g, 0, none⟩) n cap L) : n ≤ cap ∧ ∃ f : Nat → Value, w.rowIs g 5 cap (fun j => if j < n then .int .u8 ((L.getD j 0 : Nat) : Int) else f j) := by
  have hl : L.length = n := by have := h.own.1; simpa using this
  obtain ⟨_, ⟨e, _⟩ | ⟨g', cap', cur, e, hb, hh, hle, hmx, hsz, htk⟩⟩ := h.own
  · cases e
  · injection e with e1 e2 e3
    subst e3
    injection e1 with e1
    injection e1 with e1 _
    subst e1
    refine ⟨hle, fun j => (cur[j]?).getD (.bool false), cur, hh, by omega, fun i hi => ?_⟩
    show cur[i]? = some (if i < n then _ else _)
    by_cases hin : i < n
    · rw [if_pos hin]
      have : (cur.toList.take (n * 1))[i]? = (L.map byteV)[i]? := by rw [htk]
      rw [List.getElem?_take_of_lt (by omega)] at this
      have hiL : i < L.length := by omega
      simp [hiL] at this
      simp [this, hiL]
    · rw [if_neg hin]
      have : i < cur.size := by omega
      simp [this]
/-- A byte of one's own is another one. -/
theorem Mine.setByte {w : World} {base g n cap : Nat} {L : List Nat} (h : Mine w base (some ⟨g, 0, none⟩) n cap L) (hb : ∀ x ∈ L, x < 256) (p y : Nat) (hp : p < n) (hy : y < 256) : Come (w.setCell ⟨g, p, none⟩ (.int .u8 (y : Int))) (some ⟨g, 0, none⟩) n cap (L.set p y) := by
  obtain ⟨hcap, f, hrow⟩ := h.row
  have hl : L.length = n := by have := h.own.1; simpa using this
  have hmx := h.max
  refine ⟨By.row (hrow.set p _) _ n hcap (by simp [hl]) (by omega) (fun x hx => ?_) (fun i hi => ?_), (fun e => nomatch e), h.room, h.max⟩
  · rcases List.mem_or_eq_of_mem_set hx with h | h
    · exact hb x h
    · omega
  · by_cases e : i = p
    · subst e; rw [if_pos rfl]; simp [hl, hi]
    · rw [if_neg e, if_pos hi]
      simp [List.getElem?_set_ne (Ne.symm e)]
set_option maxRecDepth 100000 in
set_option maxHeartbeats 1000000 in
theorem turned_out (m : Msg) (a : Option Addr) (cap : Nat) (at_ by_ : Int) (w : World) (hC : Come w a m.2.2.length cap m.2.2) (hm : Mok m) (ht : Table w) (h : 512 < m.2.2.length) :
    Calls Tryd.prog 3 #[msgV m a m.2.2.length cap, .int .i64 at_, .int .u8 by_] w fun e w' => e = .returned (.bool true) ∧ Below w.heap.size w w' := by
  have HT := Hid.mk' ht
  have hmx : m.2.2.length ≤ 9223372036854775807 := by have := hC.room; have := hC.max; omega
  clear ht hC hm
  have HB0 := Hid.mk' (box_alloc w (.int .u8 (m.1 : Int)) (.int .u32 (m.2.1 : Int)) (.slice a m.2.2.length cap) 25)
  generalize hlen : m.2.2.length = len at *
  go_enter Tryd.func3, Tryd.ntmps3
  go_wp2_with (first
    | (have hgo := hk1; clear hgo; go_at_call 5; refine (inside_no m a len cap _ hlen h hmx).mono ?_; rintro e w2 ⟨rfl, hk2⟩)
    | (go_at_call 4; refine (alive_any _ (HT.out.kept (Kept.alloc _ _ _ _ _))).mono ?_; rintro e w1 ⟨rfl, hk1⟩; have hX := HB0.out.kept hk1; have x0 := hX.c0; have x1 := hX.c1; have x2 := hX.c2))
  go_ret
  exact ⟨rfl, (((Kept.alloc _ _ _ _ _).tr hk1).tr hk2).below⟩
set_option maxRecDepth 100000 in
set_option maxHeartbeats 1000000 in
theorem turned_way (m : Msg) (a : Option Addr) (len cap : Nat) (at_ : Int) (by_ : Nat) (w : World) (hC : Come w a len cap m.2.2) (hm : Mok m) (ht : Table w) (h : len ≤ 512) (hl : m.2.2.length = len) (ho : at_ < 0 ∨ (0 ≤ at_ ∧ ((9 + len : Nat) : Int) ≤ at_) ∨ (0 ≤ at_ ∧ at_ < ((9 + len : Nat) : Int) ∧ by_ = 0)) :
    Calls Tryd.prog 3 #[msgV m a len cap, .int .i64 at_, .int .u8 by_] w fun e w' => e = .returned (.bool true) ∧ Below w.heap.size w w' := by
  have HT := Hid.mk' ht
  have HC := Hid.mk' hC
  have HM := Hid.mk' hm
  clear ht hC hm
  have HB0 := Hid.mk' (box_alloc w (.int .u8 (m.1 : Int)) (.int .u32 (m.2.1 : Int)) (.slice a len cap) 25)
  rcases ho with ho | ⟨ho, ho2⟩ | ⟨ho, ho2, rfl⟩
  all_goals
    go_enter Tryd.func3, Tryd.ntmps3
    go_wp2_with (first
      | (have hgo := hk1; clear hgo; go_at_call 5; refine (inside_yes m a len cap _ (HC.out.by_.kept hK1) HC.out.nil HM.out h (HT.out.kept hK1)).mono ?_; rintro e w2 ⟨a2, c2, rfl, hm2, hk2⟩)
      | (go_at_call 4; refine (alive_any _ (HT.out.kept (Kept.alloc _ _ _ _ _))).mono ?_; rintro e w1 ⟨rfl, hk1⟩; have hX := HB0.out.kept hk1; have x0 := hX.c0; have x1 := hX.c1; have x2 := hX.c2; have hK1 : Kept w w1 none := (Kept.alloc _ _ _ _ _).tr hk1))
    go_ret
    exact ⟨rfl, (hK1.tr hk2).below⟩
set_option maxRecDepth 100000 in
set_option maxHeartbeats 1000000 in
theorem turned_main (m : Msg) (a : Option Addr) (len cap p x : Nat) (w : World) (hC : Come w a len cap m.2.2) (hm : Mok m) (ht : Table w) (h : len ≤ 512) (hl : m.2.2.length = len) (hp : p < 9 + len) (hx : x < 256) (hx0 : x ≠ 0) :
    Calls Tryd.prog 3 #[msgV m a len cap, .int .i64 p, .int .u8 x] w fun e w' => e = .returned (.bool true) ∧ Below w.heap.size w w' := by
  have HT := Hid.mk' ht
  have HC := Hid.mk' hC
  have HM := Hid.mk' hm
  have HL := Hid.mk' hl
  clear ht hC hm hl
  have HB0 := Hid.mk' (box_alloc w (.int .u8 (m.1 : Int)) (.int .u32 (m.2.1 : Int)) (.slice a len cap) 25)
  have hyl : (inside m).getD p 0 < 256 := by
    by_cases hpT : p < (inside m).length
    · have : (inside m).getD p 0 = (inside m)[p] := by simp [hpT]
      rw [this]; exact inside_lt HM.out _ (List.getElem_mem hpT)
    · simp [show (inside m).length ≤ p by omega]
  have hxor := u8_xor_nat ((inside m).getD p 0) x hyl hx
  have hz : (inside m).getD p 0 ^^^ x < 256 := Nat.xor_lt_two_pow (n := 8) hyl hx
  have HE : Hid (opnE ((inside m).set p ((inside m).getD p 0 ^^^ x)) = 8) := by
    show opnE _ = 8
    unfold opnE
    rw [opn_turned (inside m) (inside_lt HM.out) (opnB_inside m (by rw [HL.out]; exact h)) p _ (by rw [inside_len, HL.out]; exact hp) hz (xor_ne hx0)]
    rfl
  obtain ⟨y, hy⟩ : ∃ y, y = (inside m).getD p 0 := ⟨_, rfl⟩
  obtain ⟨z, hze⟩ : ∃ z, z = (inside m).getD p 0 ^^^ x := ⟨_, rfl⟩
  rw [← hze] at hz hxor HE
  rw [← hy] at hxor hyl
  have HY := Hid.mk' hy
  clear hy hze
  have hp' : (p : Int) < 9 + (len : Int) := by omega
  have e1 : ((x : Int) == 0) = false := by simp; omega
  have e2 : decide ((p : Int) < 0) = false := decide_eq_false (by omega)
  have e3 : decide (9 + (len : Int) ≤ (p : Int)) = false := decide_eq_false (by omega)
  go_enter Tryd.func3, Tryd.ntmps3
  go_wp2_with (first
    | (have hgo := hO3; clear hgo; go_at_call 6; refine (open_any hO3 HT3.out).mono ?_; rw [HE.out]; rintro e w4 ⟨a4, c4, rfl, hm4, hk4⟩)
    | (have hgo := hk1; clear hgo; go_at_call 5; refine (inside_yes m a len cap _ (HC.out.by_.kept hK1) HC.out.nil HM.out h (HT.out.kept hK1)).mono ?_; rintro e w2 ⟨a2, c2, rfl, hm2, hk2⟩; obtain ⟨g, off, hae, _, _⟩ := (hm2.by (inside_lt HM.out)).at_ (by omega); obtain ⟨g0, cp0, hv0, hb0, _⟩ := hm2.own.form (by omega); injection hv0 with hv0 hv1 hv2; subst hv2; rw [hv0] at hae; injection hae with hae; injection hae with hae1 hae2; subst hae1 hae2; subst hv0; obtain ⟨hcap, f, hrow⟩ := hm2.row; have hcl := hrow.cell (i := p) (by omega); rw [if_pos hp, ← HY.out] at hcl; have hfz := hrow.frozen p; have hO3 := hm2.setByte (inside_lt HM.out) p z hp hz; have HT3 := Hid.mk' (Table.sep ((HT.out.kept hK1).kept hk2) (Sep.set w2 g0 p (.int .u8 (z : Int))) (by have := HT.out.lt; have := hK1.size; omega)))
    | (go_at_call 4; refine (alive_any _ (HT.out.kept (Kept.alloc _ _ _ _ _))).mono ?_; rintro e w1 ⟨rfl, hk1⟩; have hX := HB0.out.kept hk1; have x0 := hX.c0; have x1 := hX.c1; have x2 := hX.c2; have hK1 : Kept w w1 none := (Kept.alloc _ _ _ _ _).tr hk1))
  go_ret
  exact ⟨rfl, ((((hK1.tr hk2).setNew (p := ⟨g0, p, none⟩) (Nat.le_trans hK1.size hb0) _).tr hk4).tr (Kept.alloc _ _ _ _ _)).below⟩
theorem turned_any (m : Msg) (a : Option Addr) (cap : Nat) (at_ by_ : Int) (w : World) (hC : Come w a m.2.2.length cap m.2.2) (hm : Mok m) (h1 : (Lit.int .i64 at_).wf = true) (h2 : (Lit.int .u8 by_).wf = true) (ht : Table w) :
    Calls Tryd.prog 3 #[msgV m a m.2.2.length cap, .int .i64 at_, .int .u8 by_] w fun e w' => e = .returned (.bool true) ∧ Below w.heap.size w w' := by
  have hb := bounds_u8 h2
  by_cases h : m.2.2.length ≤ 512
  · obtain ⟨x, rfl⟩ : ∃ x : Nat, by_ = (x : Int) := ⟨by_.toNat, by omega⟩
    by_cases ho : at_ < 0 ∨ (0 ≤ at_ ∧ ((9 + m.2.2.length : Nat) : Int) ≤ at_) ∨ (0 ≤ at_ ∧ at_ < ((9 + m.2.2.length : Nat) : Int) ∧ x = 0)
    · exact turned_way m a _ cap at_ x w hC hm ht h rfl ho
    · obtain ⟨p, rfl⟩ : ∃ p : Nat, at_ = (p : Int) := ⟨at_.toNat, by omega⟩
      exact turned_main m a _ cap p x w hC hm ht h rfl (by omega) (by omega) (by omega)
  · exact turned_out m a cap at_ by_ w hC hm ht (by omega)

end Go.Proofs.YtflehhliddcfgabDoor
