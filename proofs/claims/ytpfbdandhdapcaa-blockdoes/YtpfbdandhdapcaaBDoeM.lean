/-
  THE DOCUMENT'S OWN Do, whole; what BlockDoes asks (made by a program).
-/
import Derived.Test.YtpfbdandhdapcaaBlkU
namespace Go.Proofs.Ytpfbdandhdapcaa
open Go.RowKit Go.Lib Go.Deep
set_option linter.unusedVariables false
set_option linter.unusedSimpArgs false

theorem rdo_any {a : Option Addr} {n c : Nat} {L : List Nat} {la : Option Addr} {m : Nat} (lc : Nat) {l : List Pw} (wh to : Int) (w : World) (hC : Come w a n c L) (hP : Plw w la m l) : Calls Try.prog 21 #[dvV a n c, .slice la m lc, .int .i64 wh, .int .i64 to] w fun e w' => DcP w w' e (doE n l wh to) (doL L l wh to) := by
  have hl := hC.by_.size
  have hs := hP.size
  have none_ : ∀ (E : Int), doE n l wh to = E → ¬ E = 0 → ∀ e w', (e = dvR none 0 0 E ∧ Kept w w' none) → DcP w w' e (doE n l wh to) (doL L l wh to) := by
    rintro E hE h0 e w' ⟨rfl, hk⟩
    rw [doL_no hl (by rw [hE]; exact h0), hE]
    exact ⟨none, 0, rfl, Hid.mk' (Dv.none w _).come, hk⟩
  by_cases hF : cwE n l = 0
  · by_cases b : 0 ≤ wh
    · by_cases b2 : wh ≤ (m : Int)
      · by_cases b3 : 0 ≤ to
        · by_cases b4 : to ≤ 64
          · have hE : doE n l wh to = 0 := do_zero hF b (by rw [hs]; exact b2) b3 b4
            obtain ⟨y1, y2⟩ := doL_yes hl hE
            obtain ⟨wh, rfl⟩ := Int.eq_ofNat_of_zero_le b
            obtain ⟨to, rfl⟩ := Int.eq_ofNat_of_zero_le b3
            have e1 : ((wh : Nat) : Int).toNat = wh := by omega
            have e2 : ((to : Nat) : Int).toNat = to := by omega
            rw [e1, e2] at y1
            by_cases hw : wh < m
            · refine (rdo_mid lc wh to w hC hP hF hw (by omega)).mono ?_
              rintro e w' ⟨a', c', rfl, hc, hk⟩
              rw [hE]
              rw [← y1] at hc
              exact ⟨a', c', by rw [y2], by rw [y2]; exact hc, hk⟩
            · have hwm : wh = m := by omega
              refine (rdo_end lc wh to w hC hP hF hwm (by omega)).mono ?_
              rintro e w' ⟨a', c', rfl, hc, hk⟩
              have y3 : doD l wh to L = doD l wh 0 L := by
                rw [hwm, ← hs]
                exact doD_all l to L
              rw [hE]
              rw [← y3, ← y1] at hc
              exact ⟨a', c', by rw [y2], by rw [y2]; exact hc, hk⟩
          · exact (rdo_argd lc wh to w hC hP hF b b2 b3 (by omega)).mono (none_ 2 (by unfold doE; rw [if_pos hF, if_neg (fun q => b4 q.2.2.2)]) (by decide))
        · exact (rdo_argc lc wh to w hC hP hF b b2 (by omega)).mono (none_ 2 (by unfold doE; rw [if_pos hF, if_neg (fun q => b3 q.2.2.1)]) (by decide))
      · exact (rdo_argb lc wh to w hC hP hF b (by omega)).mono (none_ 2 (by unfold doE; rw [if_pos hF, hs, if_neg (fun q => b2 q.2.1)]) (by decide))
    · exact (rdo_arga lc wh to w hC hP hF (by omega)).mono (none_ 2 (by unfold doE; rw [if_pos hF, if_neg (fun q => b q.1)]) (by decide))
  · exact (rdo_err lc wh to w hC hP rfl hF).mono (none_ _ (by unfold doE; rw [if_neg hF]) hF)
theorem lsame_yes {a b : Option Addr} {n m c d : Nat} {L : List Nat} {w : World} (h : By w a n L) (k : By w b m L) : Calls Try.prog 23 #[dvV a n c, dvV b m d] w fun e w' => e = .returned (.bool true) ∧ Kept w w' none := (lsame_any h k).mono fun e w' h => ⟨by rw [h.1, decide_eq_true rfl], h.2⟩
/-- Bytes that may be written over. -/
def Wb (w : World) (g n : Nat) : Prop := ∀ j, j < n → (∃ z : Int, w.cell? ⟨g, j, none⟩ = some (.int .u8 z)) ∧ w.frozen? ⟨g, j, none⟩ = false
theorem Wb.set {w : World} {g n : Nat} (h : Wb w g n) (i : Nat) (v : Int) : Wb (w.setCell ⟨g, i, none⟩ (.int .u8 v)) g n := by
  intro j hj
  obtain ⟨⟨z, hz⟩, hf⟩ := h j hj
  refine ⟨?_, by rw [World.frozen?_setCell]; exact hf⟩
  by_cases e : i = j
  · subst e
    exact ⟨v, World.cell?_setCell_same _ _ _ hz⟩
  · exact ⟨z, (World.cell?_setCell_other _ _ _ _ (by simp [e])).trans hz⟩
theorem Wb.kept {w w' : World} {g n : Nat} {r : Option Nat} (h : Wb w g n) (k : Kept w w' r) (hr : some g ≠ r) (hg : g < w.heap.size) : Wb w' g n := by
  intro j hj
  obtain ⟨⟨z, hz⟩, hf⟩ := h j hj
  have e := k.block g hg hr
  refine ⟨⟨z, (World.cell?_of_block (w := w) (a := ⟨g, j, none⟩) e).trans hz⟩, ?_⟩
  simp only [World.frozen?, e] at hf ⊢
  exact hf
theorem Wb.far {w w' : World} {g n : Nat} {r : Option Nat} (h : Wb w g n) (k : Kept w w' r) (hr : some g ≠ r) (hg : 0 < n → g < w.heap.size) : Wb w' g n := fun j hj => (h.kept k hr (hg (by omega))) j hj
/-- Where what a call made lies: a row that may be written over, or nothing at all. -/
theorem dv_wb {w0 w : World} {a : Option Addr} {n c : Nat} {L : List Nat} (h : Dv w0 w a n c L) (hs : w0.heap.size ≤ w.heap.size) : ∃ g, w0.heap.size ≤ g ∧ (0 < n → a = some ⟨g, 0, none⟩ ∧ g < w.heap.size) ∧ Wb w g n ∧ (n = 0 → w.heap.size ≤ g) := by
  by_cases hn : 0 < n
  · rcases h.at_ with ⟨_, e⟩ | ⟨g, e, hg, hr⟩
    · omega
    · refine ⟨g, hg, fun _ => ⟨e, hr.lt⟩, fun j hj => ⟨⟨_, hr.cell (by rw [h.size]; exact hj)⟩, hr.frozen j⟩, fun e => by omega⟩
  · exact ⟨w.heap.size, hs, fun q => absurd q hn, fun j hj => by omega, fun _ => Nat.le_refl _⟩
theorem bsm_of {a b : Option Addr} {n m c d : Nat} {L M : List Nat} {w : World} (h : By w a n L) (k : By w b m M) {D : Bool} (hD : decide (L = M) = D) : Calls Try.prog 16 #[dvV a n c, dvV b m d] w fun e w' => e = .returned (.bool D) ∧ Kept w w' none := by
  subst hD
  exact bsame_any h k
theorem lsm_of {a b : Option Addr} {n m c d : Nat} {L M : List Nat} {w : World} (h : By w a n L) (k : By w b m M) {D : Bool} (hD : decide (L = M) = D) : Calls Try.prog 23 #[dvV a n c, dvV b m d] w fun e w' => e = .returned (.bool D) ∧ Kept w w' none := by
  subst hD
  exact lsame_any h k
theorem bck_of (a : Option Addr) (n c : Nat) (w : World) (hn : n ≤ 9223372036854775807) {E : Int} (hE : chkE n = E) : Calls Try.prog 15 #[dvV a n c] w fun e w' => e = .returned (.int .i64 E) ∧ Kept w w' none := by
  subst hE
  exact bchk_any a n c w hn
theorem far_of {a : Option Addr} {g N P Q S : Nat} (h1 : 0 < N → a = some ⟨g, 0, none⟩ ∧ g < S) (h2 : N = 0 → S ≤ g) (hl : ∀ x, a = some x → x.block < P) (hPQ : P ≤ Q) (hQS : Q < S) : g ≠ Q := by
  by_cases x : 0 < N
  · have := hl _ (h1 x).1
    simp only at this
    omega
  · have := h2 (by omega)
    omega
theorem far_two {a : Option Addr} {g g' N P S : Nat} (h1 : 0 < N → a = some ⟨g, 0, none⟩ ∧ g < S) (h2 : N = 0 → S ≤ g) (hl : ∀ x, a = some x → x.block < P) (hP : P ≤ g') (hS : g' < S) : g ≠ g' := by
  by_cases x : 0 < N
  · have := hl _ (h1 x).1
    simp only at this
    omega
  · have := h2 (by omega)
    omega
theorem dvn_read {a : Option Addr} {n c : Nat} {L : List Nat} (i : Int) (w : World) (hC : Come w a n c L) {E : Int} {M : List Nat} {N : Nat} (hE : brE n i = E) (hM : brL L i = M) (hN : M.length = N) : Calls Try.prog 12 #[dvV a n c, .int .i64 i] w fun e w' => ∃ a2 c2, e = slR a2 N c2 E ∧ Hid (Dv w w' a2 N c2 M) ∧ Kept w w' none := by
  refine (bread_any hC i).mono ?_
  rintro e w' ⟨⟨a2, m2, c2, rfl, hd⟩, hk⟩
  rw [hM] at hd
  obtain rfl : m2 = N := by rw [← hd.size, hN]
  rw [hE]
  exact ⟨a2, c2, rfl, Hid.mk' hd, hk⟩
theorem dvn_do {a la : Option Addr} {n c m : Nat} (lc : Nat) {L : List Nat} {l : List Pw} {wh to : Int} (w : World) (hC : Come w a n c L) (hP : Plw w la m l) {E : Int} {M : List Nat} {N : Nat} (hE : doE n l wh to = E) (hM : doL L l wh to = M) (hN : M.length = N) : Calls Try.prog 13 #[dvV a n c, .slice la m lc, .int .i64 wh, .int .i64 to] w fun e w' => ∃ a2 c2, e = dvR a2 N c2 E ∧ Hid (Dv w w' a2 N c2 M) ∧ Kept w w' none := by
  refine (do_any lc w hC hP wh to).mono ?_
  rintro e w' ⟨⟨a2, m2, c2, rfl, hd⟩, hk⟩
  rw [hM] at hd
  obtain rfl : m2 = N := by rw [← hd.size, hN]
  rw [hE]
  exact ⟨a2, c2, rfl, Hid.mk' hd, hk⟩
/-- The document's answer, under names. -/
abbrev DcN (w w' : World) (e : Ending) (E : Int) (M : List Nat) (N : Nat) : Prop := ∃ a2 c2, e = dvR a2 N c2 E ∧ Hid (Come w' a2 N c2 M) ∧ Kept w w' none
theorem dcn_new (i : Int) (w : World) {E : Int} {M : List Nat} {N : Nat} (hE : newE i = E) (hM : newL i = M) (hN : M.length = N) : Calls Try.prog 18 #[.int .i64 i] w fun e w' => DcN w w' e E M N := by
  subst hE hM hN
  exact rnew_any i w
theorem dcn_write {a b : Option Addr} {n c q d : Nat} {L B : List Nat} (i : Int) (w : World) (hC : Come w a n c L) (hB : Come w b q d B) {E : Int} {M : List Nat} {N : Nat} (hE : doE n [⟨i, B⟩] 1 0 = E) (hM : doL L [⟨i, B⟩] 1 0 = M) (hN : M.length = N) : Calls Try.prog 20 #[dvV a n c, .int .i64 i, .slice b q d] w fun e w' => DcN w w' e E M N := by
  subst hE hM hN
  exact rwrite_any i w hC hB
theorem dcn_do {a la : Option Addr} {n c m : Nat} (lc : Nat) {L : List Nat} {l : List Pw} {wh to : Int} (w : World) (hC : Come w a n c L) (hP : Plw w la m l) {E : Int} {M : List Nat} {N : Nat} (hE : doE n l wh to = E) (hM : doL L l wh to = M) (hN : M.length = N) : Calls Try.prog 21 #[dvV a n c, .slice la m lc, .int .i64 wh, .int .i64 to] w fun e w' => DcN w w' e E M N := by
  subst hE hM hN
  exact rdo_any lc wh to w hC hP
theorem dcn_read {a : Option Addr} {n c : Nat} {L : List Nat} (i : Int) (w : World) (hC : Come w a n c L) {E : Int} {M : List Nat} {N : Nat} (hE : brE n i = E) (hM : brL L i = M) (hN : M.length = N) : Calls Try.prog 19 #[dvV a n c, .int .i64 i] w fun e w' => ∃ a2 c2, e = slR a2 N c2 E ∧ Hid (Come w' a2 N c2 M) ∧ Kept w w' none := by
  subst hE hM hN
  exact rread_any i w hC

end Go.Proofs.Ytpfbdandhdapcaa
