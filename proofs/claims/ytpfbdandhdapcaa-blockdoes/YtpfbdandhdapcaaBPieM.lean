/-
  WHAT Do TELLS, in numbers, and as the walks want it (made by a program).
-/
import Derived.Test.YtpfbdandhdapcaaBlkE
namespace Go.Proofs.Ytpfbdandhdapcaa
open Go.RowKit Go.Lib Go.Deep
set_option linter.unusedVariables false
set_option linter.unusedSimpArgs false

theorem do_says {n : Nat} {l : List Pw} {wh to : Int} (h : doE n l wh to = 0) : (n % 64 = 0 ∧ 64 ≤ n ∧ n ≤ 4096) ∧ cwE n l = 0 ∧ wrE n l = 0 ∧ 0 ≤ wh ∧ wh ≤ (l.length : Int) ∧ 0 ≤ to ∧ to ≤ 64 := by
  unfold doE at h
  by_cases q : cwE n l = 0
  · rw [if_pos q] at h
    have q' := q
    unfold cwE at q'
    by_cases z : chkE n = 0
    · rw [if_pos z] at q'
      have hc2 : n % 64 = 0 ∧ 64 ≤ n ∧ n ≤ 4096 := by
        rcases chk_cases n with ⟨_, h⟩ | h
        · exact h
        · rw [z] at h; exact absurd h (by decide)
      by_cases y : 0 ≤ wh ∧ wh ≤ (l.length : Int) ∧ 0 ≤ to ∧ to ≤ 64
      · exact ⟨hc2, q, q', y⟩
      · rw [if_neg y] at h; exact absurd h (by decide)
    · rw [if_neg z] at q'; exact absurd q' (by decide)
  · rw [if_neg q] at h; exact absurd h q
theorem do_zero {n : Nat} {l : List Pw} {wh to : Int} (h : cwE n l = 0) (h1 : 0 ≤ wh) (h2 : wh ≤ (l.length : Int)) (h3 : 0 ≤ to) (h4 : to ≤ 64) : doE n l wh to = 0 := by
  unfold doE
  rw [if_pos h, if_pos ⟨h1, h2, h3, h4⟩]
theorem doL_yes {n : Nat} {L : List Nat} {l : List Pw} {wh to : Int} (hl : L.length = n) (h : doE n l wh to = 0) : doL L l wh to = doD l wh.toNat to.toNat L ∧ (doL L l wh to).length = n := by
  obtain ⟨⟨a1, a2, a3⟩, b, c, d1, d2, d3, d4⟩ := do_says h
  have e : doL L l wh to = doD l wh.toNat to.toNat L := by
    unfold doL
    rw [hl, if_pos h]
  refine ⟨e, ?_⟩
  rw [e, doD_len l _ _ L (by rw [hl]; exact wr_ok a1 c) (by omega), hl]
theorem doL_no {n : Nat} {L : List Nat} {l : List Pw} {wh to : Int} (hl : L.length = n) (h : ¬ doE n l wh to = 0) : doL L l wh to = [] := by
  unfold doL
  rw [hl, if_neg h]
theorem tell_do {a la : Option Addr} {n c m : Nat} (lc : Nat) {L : List Nat} {l : List Pw} {wh to : Int} (w : World) (hC : Come w a n c L) (hP : Plw w la m l) (hE : doE n l wh to = 0) {M : List Nat} (hM : doL L l wh to = M) : Calls Try.prog 13 #[dvV a n c, .slice la m lc, .int .i64 wh, .int .i64 to] w fun e w' => ∃ a2 c2, e = dvR a2 n c2 0 ∧ Hid (Come w' a2 n c2 M) ∧ Kept w w' none := by
  refine (do_any lc w hC hP wh to).mono ?_
  rintro e w' ⟨⟨a2, n2, c2, rfl, hd⟩, hk⟩
  obtain ⟨_, m3⟩ := doL_yes hC.by_.size hE
  obtain rfl : n2 = n := by rw [← hd.size, m3]
  rw [hE]
  rw [hM] at hd
  exact ⟨a2, c2, rfl, Hid.mk' hd.come, hk⟩
theorem none_do {a la : Option Addr} {n c m : Nat} (lc : Nat) {L : List Nat} {l : List Pw} {wh to : Int} (w : World) (hC : Come w a n c L) (hP : Plw w la m l) (hE : ¬ doE n l wh to = 0) : Calls Try.prog 13 #[dvV a n c, .slice la m lc, .int .i64 wh, .int .i64 to] w fun e w' => ∃ a2 c2 E, e = dvR a2 0 c2 E ∧ ¬ E = 0 ∧ Kept w w' none := by
  refine (do_any lc w hC hP wh to).mono ?_
  rintro e w' ⟨⟨a2, n2, c2, rfl, hd⟩, hk⟩
  obtain rfl : n2 = 0 := by
    have := hd.size
    rw [doL_no hC.by_.size hE] at this
    simpa using this.symm
  exact ⟨a2, c2, _, rfl, hE, hk⟩
theorem wr_drop {n : Nat} : ∀ {l : List Pw} (k : Nat), wrE n l = 0 → wrE n (l.drop k) = 0
  | [], k, h => by simp [wrE]
  | p :: l, 0, h => h
  | p :: l, k + 1, h => by
    unfold wrE at h
    by_cases h1 : hasV n p.n = true
    · rw [if_pos h1] at h
      by_cases h2 : p.data.length = 64
      · rw [if_pos h2] at h
        exact wr_drop k h
      · rw [if_neg h2] at h; exact absurd h (by decide)
    · rw [if_neg h1] at h; exact absurd h (by decide)
theorem Plw.drop {w : World} {b off m : Nat} {l : List Pw} (h : Plw w (some ⟨b, off, none⟩) m l) (k : Nat) (hk : k ≤ m) : Plw w (some ⟨b, off + k * 2, none⟩) (m - k) (l.drop k) := by
  refine ⟨by rw [List.length_drop, h.size], by have := h.max; omega, fun hp => ?_⟩
  obtain ⟨b', off', e, hb, hc⟩ := h.at_ (by omega)
  injection e with e
  injection e with e1 e2 e3
  subst e1 e2
  refine ⟨b, off + k * 2, rfl, hb, fun i p hi => ?_⟩
  obtain ⟨a, c, p0, p1, p2⟩ := hc (k + i) p (by rw [List.getElem?_drop] at hi; exact hi)
  rw [show off + (k + i) * 2 = off + k * 2 + i * 2 by omega] at p0 p1
  exact ⟨a, c, p0, p1, p2⟩
theorem Plw.zero {w : World} {la : Option Addr} : Plw w la 0 [] := ⟨rfl, by omega, fun h => absurd h (by omega)⟩
/-- In pieces, as Do tells it. -/
theorem pie_math {n m : Nat} {L : List Nat} {l : List Pw} (hl : L.length = n) (hm : l.length = m) (hE : doE n l (m : Int) 0 = 0) (at_ : Nat) (hat : at_ ≤ m) : doE n l (at_ : Int) 0 = 0 ∧ doE n (l.drop at_) ((m : Int) - at_) 0 = 0 ∧ doL (doL L l (at_ : Int) 0) (l.drop at_) ((m : Int) - at_) 0 = doL L l (m : Int) 0 ∧ (at_ < m → doE n l (at_ : Int) 64 = 0 ∧ doE n l ((at_ : Int) + 1) 0 = 0 ∧ doL L l (at_ : Int) 64 = doL L l ((at_ : Int) + 1) 0) := by
  obtain ⟨q1, q2, q3, _⟩ := do_says hE
  have e1 : doE n l (at_ : Int) 0 = 0 := do_zero q2 (by omega) (by omega) (by omega) (by omega)
  have hch : chkE n = 0 := if_pos q1
  have cd : cwE n (l.drop at_) = 0 := by
    unfold cwE
    rw [if_pos hch]
    exact wr_drop at_ q3
  have e2 : doE n (l.drop at_) ((m : Int) - at_) 0 = 0 := do_zero cd (by omega) (by rw [List.length_drop]; omega) (by omega) (by omega)
  obtain ⟨y1, y2⟩ := doL_yes hl e1
  refine ⟨e1, e2, ?_, fun hlt => ?_⟩
  · rw [(doL_yes y2 e2).1, y1, (doL_yes hl hE).1, show ((m : Int) - at_).toNat = l.length - at_ by omega, show ((m : Nat) : Int).toNat = l.length by omega, show (0 : Int).toNat = 0 from rfl, show ((at_ : Nat) : Int).toNat = at_ by omega]
    exact doD_split l at_ L (by omega)
  · have e3 : doE n l (at_ : Int) 64 = 0 := do_zero q2 (by omega) (by omega) (by omega) (by omega)
    have e4 : doE n l ((at_ : Int) + 1) 0 = 0 := do_zero q2 (by omega) (by omega) (by omega) (by omega)
    refine ⟨e3, e4, ?_⟩
    rw [(doL_yes hl e3).1, (doL_yes hl e4).1, show ((at_ : Nat) : Int).toNat = at_ by omega, show (((at_ : Nat) : Int) + 1).toNat = at_ + 1 by omega, show (0 : Int).toNat = 0 from rfl, show (64 : Int).toNat = 64 from rfl]
    exact doD_full l at_ L (by omega)
/-- Behind a region that makes a device, and a box. -/
def R2 (A : Option Addr → Nat → Nat → Act) (P : Option Addr → Nat → Nat → World → Prop) (e : Exit) (a : Act) (w : World) : Prop := match e with
  | .normal => ∃ o c b, a = A o c b ∧ P o c b w
  | _ => False
theorem R2.out {A : Option Addr → Nat → Nat → Act} {P : Option Addr → Nat → Nat → World → Prop} {e : Exit} {a : Act} {w : World} (h : R2 A P e a w) : e = .normal ∧ ∃ o c b, a = A o c b ∧ P o c b w := by
  cases e with
  | normal => exact ⟨rfl, h⟩
  | _ => exact h.elim
structure Dbx (W w' : World) (n : Nat) (M : List Nat) (o : Option Addr) (c b : Nat) : Prop where
  kept : Kept W w' none
  come : Come w' o n c M
  bx : Db w' b o n c
theorem Come.far {w : World} {a : Option Addr} {n c : Nat} {L : List Nat} (h : Come w a n c L) {b : Nat} (i : Nat) (v : Value) (hb : ∀ x, a = some x → x.block ≠ b) : Come (w.setCell ⟨b, i, none⟩ v) a n c L := by
  refine ⟨⟨h.by_.size, h.by_.max, h.by_.lt, fun hp => ?_⟩, h.nil, h.room, h.max⟩
  obtain ⟨g, off, rfl, hg, hc⟩ := h.by_.at_ hp
  exact ⟨g, off, rfl, by simpa [World.setCell] using hg, fun j hj => (World.cell?_setCell_other _ _ _ _ (fun e => hb _ rfl (by injection e with e1; exact e1.symm))).trans (hc j hj)⟩

end Go.Proofs.Ytpfbdandhdapcaa
