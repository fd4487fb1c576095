/-
  THE CONTRACTS of link's within, mayBe, Fresh, Send, checkMessages; the document's May, Fresh, Send; the laws' heavy.
-/
import Derived.Test.YtnmfigcemknjbaaLnkA
namespace Go.Proofs.Ytnmfigcemknjbaa
open Go.RowKit Go.Lib Go.Deep
set_option linter.unusedVariables false
set_option linter.unusedSimpArgs false

abbrev lkV (s : Lk) : Value := .agg #[.bool s.any, .int .u32 (s.last : Int), .int .i64 s.age]
theorem lwithin_any (n lo hi : Int) (b : Bool) (w : World) (hb : decide (lo ≤ n ∧ n ≤ hi) = b) : Calls Try.prog 33 #[.int .i64 n, .int .i64 lo, .int .i64 hi] w fun e w' => e = .returned (.bool b) ∧ Kept w w' none := by
  subst hb
  by_cases h1 : lo ≤ n
  · by_cases h2 : n ≤ hi
    · go_enter Try.func33, Try.ntmps33
      go_wp2
      go_ret
      exact ⟨by simp [h1, h2], Kept.refl _ _⟩
    · go_enter Try.func33, Try.ntmps33
      go_wp2
      go_ret
      exact ⟨by simp [h2], Kept.refl _ _⟩
  · go_enter Try.func33, Try.ntmps33
    go_wp2
    go_ret
    exact ⟨by simp; omega, Kept.refl _ _⟩
theorem lmay_any (s : Lk) (w : World) : Calls Try.prog 30 #[lkV s] w fun e w' => e = .returned (.bool (decide (mayK s))) ∧ Kept w w' none := by
  obtain ⟨any, last, age⟩ := s
  by_cases h1 : 0 ≤ age ∧ age ≤ 1048576
  · cases any with
    | true =>
      go_enter Try.func30, Try.ntmps30
      go_wp2_with (go_at_call 33; refine (lwithin_any _ _ _ true _ (decide_eq_true h1)).mono ?_; rintro e w2 ⟨rfl, hk⟩; have hb0 := cell_kept0 (B := w.heap.size) (j := 0) (v := .bool true) (by simp only [World.cell?_alloc_mark]; rfl) hk; have hb1 := cell_kept0 (B := w.heap.size) (j := 1) (v := .int .u32 (last : Int)) (by simp only [World.cell?_alloc_mark]; rfl) hk)
      go_ret
      exact ⟨by simp [mayK, h1], (Kept.alloc _ _ _ _ _).tr hk⟩
    | false =>
      have h3 : ((last : Int) == 0) = decide (last = 0) := by rw [Bool.eq_iff_iff]; simp
      go_enter Try.func30, Try.ntmps30
      go_wp2_with (go_at_call 33; refine (lwithin_any _ _ _ true _ (decide_eq_true h1)).mono ?_; rintro e w2 ⟨rfl, hk⟩; have hb0 := cell_kept0 (B := w.heap.size) (j := 0) (v := .bool false) (by simp only [World.cell?_alloc_mark]; rfl) hk; have hb1 := cell_kept0 (B := w.heap.size) (j := 1) (v := .int .u32 (last : Int)) (by simp only [World.cell?_alloc_mark]; rfl) hk)
      go_ret
      exact ⟨by simp [mayK, h1], (Kept.alloc _ _ _ _ _).tr hk⟩
  · go_enter Try.func30, Try.ntmps30
    go_wp2_with (go_at_call 33; refine (lwithin_any _ _ _ false _ (decide_eq_false h1)).mono ?_; rintro e w2 ⟨rfl, hk⟩)
    go_ret
    exact ⟨by simp [mayK]; exact decide_eq_false (fun q => h1 q.1), (Kept.alloc _ _ _ _ _).tr hk⟩
theorem rmay20_any (s : Lk) (w : World) : Calls Try.prog 43 #[lkV s] w fun e w' => e = .returned (.bool (decide (mayK s))) ∧ Kept w w' none := by
  obtain ⟨any, last, age⟩ := s
  by_cases h1 : 0 ≤ age
  · by_cases h2 : age ≤ 1048576
    · cases any with
      | true =>
        go_enter Try.func43, Try.ntmps43
        go_wp2
        go_ret
        exact ⟨by simp [mayK, h1, h2], Kept.alloc _ _ _ _ _⟩
      | false =>
        have h3 : ((last : Int) == 0) = decide (last = 0) := by rw [Bool.eq_iff_iff]; simp
        go_enter Try.func43, Try.ntmps43
        go_wp2
        go_ret
        exact ⟨by simp [mayK, h1, h2], Kept.alloc _ _ _ _ _⟩
    · go_enter Try.func43, Try.ntmps43
      go_wp2
      go_ret
      exact ⟨by simp [mayK]; exact decide_eq_false (fun q => by have := q.1; omega), Kept.alloc _ _ _ _ _⟩
  · go_enter Try.func43, Try.ntmps43
    go_wp2
    go_ret
    exact ⟨by simp [mayK]; exact decide_eq_false (fun q => by have := q.1; omega), Kept.alloc _ _ _ _ _⟩
theorem lmay_is (s : Lk) (w : World) (b : Bool) (hb : decide (mayK s) = b) : Calls Try.prog 30 #[lkV s] w fun e w' => e = .returned (.bool b) ∧ Kept w w' none := by subst hb; exact lmay_any s w
theorem rmay_is (s : Lk) (w : World) (b : Bool) (hb : decide (mayK s) = b) : Calls Try.prog 43 #[lkV s] w fun e w' => e = .returned (.bool b) ∧ Kept w w' none := by subst hb; exact rmay20_any s w

/-- The cells of a link in a box. -/
abbrev fLk (s : Lk) (i : Nat) : Value := if i = 0 then .bool s.any else if i = 1 then .int .u32 (s.last : Int) else .int .i64 s.age
abbrev Lb (w : World) (b : Nat) (s : Lk) : Prop := w.rowIs b 24 3 (fLk s)
theorem lb_alloc (w : World) (s : Lk) : Lb (w.alloc (.cells #[.bool s.any, .int .u32 (s.last : Int), .int .i64 s.age] 24)) w.heap.size s :=
  World.rowIs_alloc w _ _ _ (fun i hi => by
    have : i = 0 ∨ i = 1 ∨ i = 2 := by simp at hi; omega
    rcases this with rfl | rfl | rfl <;> rfl)
theorem Lb.c0 {w : World} {b : Nat} {s : Lk} (h : Lb w b s) : w.cell? ⟨b, 0, none⟩ = some (.bool s.any) := h.cell (i := 0) (by omega)
theorem Lb.c1 {w : World} {b : Nat} {s : Lk} (h : Lb w b s) : w.cell? ⟨b, 1, none⟩ = some (.int .u32 (s.last : Int)) := h.cell (i := 1) (by omega)
theorem Lb.c2 {w : World} {b : Nat} {s : Lk} (h : Lb w b s) : w.cell? ⟨b, 2, none⟩ = some (.int .i64 s.age) := h.cell (i := 2) (by omega)
theorem Lb.fz {w : World} {b : Nat} {s : Lk} (h : Lb w b s) (i : Nat) : w.frozen? ⟨b, i, none⟩ = false := h.frozen i
theorem lfresh_any (s : Lk) (t : Int) (w : World) : Calls Try.prog 11 #[lkV s, .int .i64 t] w fun e w' => e = .returned (.tuple #[.bool (frB s t), .int .i64 (frE s t : Int)]) ∧ Kept w w' none := by
  by_cases hm : mayK s
  · by_cases ht : 1 ≤ t ∧ t ≤ 1048576
    · have HE : Hid (frE s t = 0) := Hid.mk' (by unfold frE; rw [if_neg (fun q => q hm), if_pos ht])
      obtain ⟨any, last, age⟩ := s
      have HM := Hid.mk' hm
      clear hm
      cases any with
      | true =>
        go_enter Try.func11, Try.ntmps11
        go_wp2_with (first
          | (have hgo := hk1; clear hgo; go_at_call 33; refine (lwithin_any _ _ _ true _ (decide_eq_true ht)).mono ?_; rintro e w2 ⟨rfl, hk2⟩; have hL2 := row_kept hL1 hk2 (by simp); have c0 : w2.cell? ⟨w.heap.size, 0, none⟩ = some (.bool true) := Lb.c0 hL2; have c2 : w2.cell? ⟨w.heap.size, 2, none⟩ = some (.int .i64 age) := Lb.c2 hL2)
          | (go_at_call 30; refine (lmay_is _ _ true (decide_eq_true HM.out)).mono ?_; rintro e w1 ⟨rfl, hk1⟩; have hL1 := row_kept (lb_alloc w ⟨true, last, age⟩) hk1 (by simp)))
        go_ret2
        exact ⟨by unfold frB; rw [HE.out]; simp, ((Kept.alloc _ _ _ _ _).tr hk1).tr hk2⟩
      | false =>
        go_enter Try.func11, Try.ntmps11
        go_wp2_with (first
          | (have hgo := hk1; clear hgo; go_at_call 33; refine (lwithin_any _ _ _ true _ (decide_eq_true ht)).mono ?_; rintro e w2 ⟨rfl, hk2⟩; have hL2 := row_kept hL1 hk2 (by simp); have c0 : w2.cell? ⟨w.heap.size, 0, none⟩ = some (.bool false) := Lb.c0 hL2; have c2 : w2.cell? ⟨w.heap.size, 2, none⟩ = some (.int .i64 age) := Lb.c2 hL2)
          | (go_at_call 30; refine (lmay_is _ _ true (decide_eq_true HM.out)).mono ?_; rintro e w1 ⟨rfl, hk1⟩; have hL1 := row_kept (lb_alloc w ⟨false, last, age⟩) hk1 (by simp)))
        go_ret2
        exact ⟨by unfold frB; rw [HE.out]; simp, ((Kept.alloc _ _ _ _ _).tr hk1).tr hk2⟩
    · have HE : Hid (frE s t = 2) := Hid.mk' (by unfold frE; rw [if_neg (fun q => q hm), if_neg ht])
      have HM := Hid.mk' hm
      clear hm
      go_enter Try.func11, Try.ntmps11
      go_wp2_with (first
        | (have hgo := hk1; clear hgo; go_at_call 33; refine (lwithin_any _ _ _ false _ (decide_eq_false ht)).mono ?_; rintro e w2 ⟨rfl, hk2⟩)
        | (go_at_call 30; refine (lmay_is _ _ true (decide_eq_true HM.out)).mono ?_; rintro e w1 ⟨rfl, hk1⟩))
      go_ret2
      exact ⟨by unfold frB; rw [HE.out]; simp, ((Kept.alloc _ _ _ _ _).tr hk1).tr hk2⟩
  · have HE : Hid (frE s t = 8) := Hid.mk' (by unfold frE; rw [if_pos hm])
    have HM := Hid.mk' hm
    clear hm
    go_enter Try.func11, Try.ntmps11
    go_wp2_with (go_at_call 30; refine (lmay_is _ _ false (decide_eq_false HM.out)).mono ?_; rintro e w1 ⟨rfl, hk1⟩)
    go_ret2
    exact ⟨by unfold frB; rw [HE.out]; simp, (Kept.alloc _ _ _ _ _).tr hk1⟩
theorem rfresh20_any (s : Lk) (t : Int) (w : World) : Calls Try.prog 20 #[lkV s, .int .i64 t] w fun e w' => e = .returned (.tuple #[.bool (frB s t), .int .i64 (frE s t : Int)]) ∧ Kept w w' none := by
  by_cases hm : mayK s
  · by_cases h1 : 1 ≤ t
    · by_cases h2 : t ≤ 1048576
      · have HE : Hid (frE s t = 0) := Hid.mk' (by unfold frE; rw [if_neg (fun q => q hm), if_pos ⟨h1, h2⟩])
        obtain ⟨any, last, age⟩ := s
        have HM := Hid.mk' hm
        clear hm
        cases any with
        | true =>
          go_enter Try.func20, Try.ntmps20
          go_wp2_with (go_at_call 43; refine (rmay_is _ _ true (decide_eq_true HM.out)).mono ?_; rintro e w1 ⟨rfl, hk1⟩; have hL2 := row_kept (lb_alloc w ⟨true, last, age⟩) hk1 (by simp); have c0 : w1.cell? ⟨w.heap.size, 0, none⟩ = some (.bool true) := Lb.c0 hL2; have c2 : w1.cell? ⟨w.heap.size, 2, none⟩ = some (.int .i64 age) := Lb.c2 hL2)
          go_ret2
          exact ⟨by unfold frB; rw [HE.out]; simp, (Kept.alloc _ _ _ _ _).tr hk1⟩
        | false =>
          go_enter Try.func20, Try.ntmps20
          go_wp2_with (go_at_call 43; refine (rmay_is _ _ true (decide_eq_true HM.out)).mono ?_; rintro e w1 ⟨rfl, hk1⟩; have hL2 := row_kept (lb_alloc w ⟨false, last, age⟩) hk1 (by simp); have c0 : w1.cell? ⟨w.heap.size, 0, none⟩ = some (.bool false) := Lb.c0 hL2; have c2 : w1.cell? ⟨w.heap.size, 2, none⟩ = some (.int .i64 age) := Lb.c2 hL2)
          go_ret2
          exact ⟨by unfold frB; rw [HE.out]; simp, (Kept.alloc _ _ _ _ _).tr hk1⟩
      · have HE : Hid (frE s t = 2) := Hid.mk' (by unfold frE; rw [if_neg (fun q => q hm), if_neg (fun q => h2 q.2)])
        have HM := Hid.mk' hm
        clear hm
        go_enter Try.func20, Try.ntmps20
        go_wp2_with (go_at_call 43; refine (rmay_is _ _ true (decide_eq_true HM.out)).mono ?_; rintro e w1 ⟨rfl, hk1⟩)
        go_ret2
        exact ⟨by unfold frB; rw [HE.out]; simp, (Kept.alloc _ _ _ _ _).tr hk1⟩
    · have HE : Hid (frE s t = 2) := Hid.mk' (by unfold frE; rw [if_neg (fun q => q hm), if_neg (fun q => h1 q.1)])
      have HM := Hid.mk' hm
      clear hm
      go_enter Try.func20, Try.ntmps20
      go_wp2_with (go_at_call 43; refine (rmay_is _ _ true (decide_eq_true HM.out)).mono ?_; rintro e w1 ⟨rfl, hk1⟩)
      go_ret2
      exact ⟨by unfold frB; rw [HE.out]; simp, (Kept.alloc _ _ _ _ _).tr hk1⟩
  · have HE : Hid (frE s t = 8) := Hid.mk' (by unfold frE; rw [if_pos hm])
    have HM := Hid.mk' hm
    clear hm
    go_enter Try.func20, Try.ntmps20
    go_wp2_with (go_at_call 43; refine (rmay_is _ _ false (decide_eq_false HM.out)).mono ?_; rintro e w1 ⟨rfl, hk1⟩)
    go_ret2
    exact ⟨by unfold frB; rw [HE.out]; simp, (Kept.alloc _ _ _ _ _).tr hk1⟩
theorem lsend_any (n : Nat) (hn : n < 4294967296) (w : World) : Calls Try.prog 12 #[.int .u32 (n : Int)] w fun e w' => e = .returned (.tuple #[.int .u32 (seV n : Int), .int .i64 (seE n : Int)]) ∧ Kept w w' none := by
  by_cases h : n = 4294967295
  · subst h
    go_enter Try.func12, Try.ntmps12
    go_wp2
    go_ret2
    exact ⟨rfl, Kept.refl _ _⟩
  · have h1 : ((n : Int) == 4294967295) = false := by simp; omega
    have HE : Hid (seE n = 0 ∧ seV n = n + 1) := Hid.mk' ⟨if_neg h, if_neg h⟩
    go_enter Try.func12, Try.ntmps12
    go_wp2
    go_ret2
    exact ⟨by rw [HE.out.1, HE.out.2]; simp, Kept.refl _ _⟩
theorem rsend20_any (n : Nat) (hn : n < 4294967296) (w : World) : Calls Try.prog 21 #[.int .u32 (n : Int)] w fun e w' => e = .returned (.tuple #[.int .u32 (seV n : Int), .int .i64 (seE n : Int)]) ∧ Kept w w' none := by
  by_cases h : n = 4294967295
  · subst h
    go_enter Try.func21, Try.ntmps21
    go_wp2
    go_ret2
    exact ⟨rfl, Kept.refl _ _⟩
  · have h1 : ((n : Int) == 4294967295) = false := by simp; omega
    have HE : Hid (seE n = 0 ∧ seV n = n + 1) := Hid.mk' ⟨if_neg h, if_neg h⟩
    go_enter Try.func21, Try.ntmps21
    go_wp2
    go_ret2
    exact ⟨by rw [HE.out.1, HE.out.2]; simp, Kept.refl _ _⟩
theorem Ms.at_is {w : World} {la : Option Addr} {n : Nat} {l : List Msg} (h : Ms w la n l) {k : Nat} (hk : k < n) : ∃ b off m a c, la = some ⟨b, off, none⟩ ∧ b < w.heap.size ∧ l[k]? = some m ∧ w.cell? ⟨b, off + k * 3, none⟩ = some (.int .u8 (m.1 : Int)) ∧ w.cell? ⟨b, off + k * 3 + 1, none⟩ = some (.int .u32 (m.2.1 : Int)) ∧ w.cell? ⟨b, off + k * 3 + 2, none⟩ = some (.slice a m.2.2.length c) ∧ Come w a m.2.2.length c m.2.2 := by
  obtain ⟨b, off, rfl, hb, hc⟩ := h.at_ (by omega)
  obtain ⟨m, hm⟩ : ∃ m, l[k]? = some m := ⟨_, List.getElem?_eq_getElem (by rw [h.size]; exact hk)⟩
  obtain ⟨a, c, h1, h2, h3, h4⟩ := hc k m hm
  exact ⟨b, off, m, a, c, rfl, hb, hm, h1, h2, h3, h4⟩
/-- The first messages' bodies are not too long. -/
theorem long_step {l : List Msg} {k : Nat} {m : Msg} (h : l[k]? = some m) (h1 : ∀ m ∈ l.take k, m.2.2.length ≤ 512) (h2 : m.2.2.length ≤ 512) : ∀ m ∈ l.take (k + 1), m.2.2.length ≤ 512 := by
  rw [List.take_add_one, h]
  intro x hx
  rcases List.mem_append.1 hx with hx | hx
  · exact h1 x hx
  · simp at hx; subst hx; exact h2
theorem long_no {l : List Msg} (h : ∀ m ∈ l, m.2.2.length ≤ 512) : longB l = false := by
  unfold longB
  rw [List.any_eq_false]
  intro m hm
  have := h m hm
  simp; omega
theorem long_yes {l : List Msg} {k : Nat} {m : Msg} (h : l[k]? = some m) (h2 : 512 < m.2.2.length) : longB l = true := by
  unfold longB
  rw [List.any_eq_true]
  exact ⟨m, List.mem_of_getElem? h, by simpa using h2⟩
def ckE (l : List Msg) : Nat := if 1024 < l.length then 4 else if longB l = true then 3 else 0
theorem lcheck_any {w : World} {la : Option Addr} {n c : Nat} {l : List Msg} (h : Ms w la n l) : Calls Try.prog 31 #[.slice la n c] w fun e w' => e = .returned (.int .i64 (ckE l : Int)) ∧ Kept w w' none := by
  have HM := Hid.mk' h
  have hmx := h.max
  have hsz := h.size
  clear h
  by_cases h1 : 1024 < n
  · have HE : Hid (ckE l = 4) := Hid.mk' (if_pos (by rw [hsz]; exact h1))
    go_enter Try.func31, Try.ntmps31
    go_wp2
    go_ret
    exact ⟨by rw [HE.out]; simp, Kept.refl _ _⟩
  · have HN : Hid (¬ 1024 < l.length) := Hid.mk' (by rw [hsz]; exact h1)
    have HS := Hid.mk' hsz
    clear hsz
    go_enter Try.func31, Try.ntmps31
    go_wp2
    go_loopw [10] (fun i wr => ∃ k : Nat, k ≤ n ∧ i = .int .i64 k ∧ Hid (∀ m ∈ l.take k, m.2.2.length ≤ 512) ∧ Hid (Kept w wr none)) (fun i _ => n - (intOf i).toNat)
    case atStart => exact ⟨0, Nat.zero_le _, rfl, Hid.mk' (by simp), Hid.mk' (Kept.refl _ _)⟩
    case round =>
      obtain ⟨k, hk, rfl, HL, HK⟩ := hrel
      by_cases hlt : k < n
      · obtain ⟨b, off, m, a, cc, rfl, hb, hm, p1, p2, p3, p4⟩ := (HM.out.kept HK.out).at_is hlt
        have hp := p4.by_.max
        by_cases hl : 512 < m.2.2.length
        · have HE : Hid (ckE l = 3) := Hid.mk' (by unfold ckE; rw [if_neg HN.out, if_pos (long_yes hm hl)])
          clear hm p4
          go_wp2
          go_ret
          exact ⟨by rw [HE.out]; simp, HK.out.tr (Kept.alloc _ _ _ _ _)⟩
        · have HL2 := Hid.mk' (long_step hm HL.out (by omega))
          clear hm p4
          go_wp2
          go_roundw
          case rel => exact ⟨k + 1, by omega, by go_num, HL2, Hid.mk' (HK.out.tr (Kept.alloc _ _ _ _ _))⟩
          case measure => simp [intOf]; omega
      · have e : k = n := by omega
        subst e
        have HE : Hid (ckE l = 0) := Hid.mk' (by unfold ckE; rw [if_neg HN.out, long_no (by have := HL.out; rwa [List.take_of_length_le (by rw [HS.out]; exact Nat.le_refl _)] at this)]; simp)
        go_wp2
        go_ret
        exact ⟨by rw [HE.out]; simp, HK.out⟩

end Go.Proofs.Ytnmfigcemknjbaa
