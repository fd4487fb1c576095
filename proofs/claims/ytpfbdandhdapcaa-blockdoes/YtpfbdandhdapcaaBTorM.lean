/-
  WRITES THAT ARE BROKEN OFF, in numbers (made by a program).
-/
import Derived.Test.YtpfbdandhdapcaaBPieM
namespace Go.Proofs.Ytpfbdandhdapcaa
open Go.RowKit Go.Lib Go.Deep
set_option linter.unusedVariables false
set_option linter.unusedSimpArgs false

theorem torn_math {n : Nat} {L : List Nat} {l : List Pw} {wh to : Nat} (hl : L.length = n) (hE : doE n l (wh : Int) (to : Int) = 0) (hp : l.Pairwise fun p q => p.n ≠ q.n) {i : Nat} (hi : i < l.length) : hasV n l[i].n = true ∧ 0 ≤ l[i].n ∧ 64 * l[i].n + 64 ≤ (n : Int) ∧ l[i].data.length = 64 ∧ (blD (doL L l wh to) l[i].n.toNat).take (dnW wh to i) = l[i].data.take (dnW wh to i) ∧ (blD (doL L l wh to) l[i].n.toNat).drop (dnW wh to i) = (blD L l[i].n.toNat).drop (dnW wh to i) := by
  obtain ⟨q1, q2, q3, q4, q5, q6, q7⟩ := do_says hE
  have hok := wr_ok q1.1 q3
  obtain ⟨r1, r2, r3⟩ := hok l[i] (List.getElem_mem hi)
  obtain ⟨y1, y2⟩ := doL_yes hl hE
  have hk : dnW wh to i ≤ 64 := by unfold dnW; split <;> (try split) <;> omega
  have ht := fun j hj => doD_torn l wh to L (by rw [hl]; exact hok) (by omega) hp i hi j hj
  have e1 : ((wh : Nat) : Int).toNat = wh := by omega
  have e2 : ((to : Nat) : Int).toNat = to := by omega
  rw [e1, e2] at y1
  refine ⟨(has_iff q1.1).2 ⟨r1, r2⟩, r1, r2, r3, ?_, ?_⟩
  · refine ext_getD ?_ (fun j hj => ?_)
    · rw [List.length_take, List.length_take, blD_len (by omega), r3]
    · have hj' : j < dnW wh to i := by rw [List.length_take] at hj; omega
      have g1 : ∀ X : List Nat, (X.take (dnW wh to i)).getD j 0 = X.getD j 0 := fun X => by
        simp only [List.getD_eq_getElem?_getD]
        rw [List.getElem?_take, if_pos hj']
      rw [g1, g1, blD_get (by omega), y1, ht j (by omega), if_pos hj']
  · refine ext_getD ?_ (fun j hj => ?_)
    · rw [List.length_drop, List.length_drop, blD_len (by omega), blD_len (by omega)]
    · have hj' : dnW wh to i + j < 64 := by rw [List.length_drop, blD_len (by omega)] at hj; omega
      have g1 : ∀ X : List Nat, (X.drop (dnW wh to i)).getD j 0 = X.getD (dnW wh to i + j) 0 := fun X => by
        simp only [List.getD_eq_getElem?_getD]
        rw [List.getElem?_drop]
      rw [g1, g1, blD_get hj', blD_get hj', y1, ht _ hj', if_neg (by omega)]
theorem By.drp {w : World} {b off n : Nat} {L : List Nat} (h : By w (some ⟨b, off, none⟩) n L) (k : Nat) (hk : k ≤ n) : By w (some ⟨b, off + k, none⟩) (n - k) (L.drop k) := by
  obtain ⟨h1, h2, h3, h4⟩ := h
  refine ⟨by rw [List.length_drop, h1], by omega, fun x hx => h3 x (List.mem_of_mem_drop hx), fun hp => ?_⟩
  obtain ⟨b', off', e, hb, hc⟩ := h4 (by omega)
  injection e with e
  injection e with e1 e2 e3
  subst e1 e2
  refine ⟨b, off + k, rfl, hb, fun i hi => ?_⟩
  rw [Nat.add_assoc, hc _ (by omega)]
  simp [List.getElem?_drop]
theorem Plw.get {w : World} {b off m : Nat} {l : List Pw} (h : Plw w (some ⟨b, off, none⟩) m l) {i : Nat} (hi : i < l.length) : ∃ a c, (∀ w', Kept w w' none → w'.cell? ⟨b, off + i * 2, none⟩ = some (.int .i64 l[i].n)) ∧ (∀ w', Kept w w' none → w'.cell? ⟨b, off + i * 2 + 1, none⟩ = some (.slice a l[i].data.length c)) ∧ Hid (Come w a l[i].data.length c l[i].data) := by
  obtain ⟨b', off', e, hb, hc⟩ := h.at_ (by have := h.size; omega)
  injection e with e
  injection e with e1 e2 e3
  subst e1 e2
  obtain ⟨a, c, p0, p1, p2⟩ := hc i l[i] (by simp)
  exact ⟨a, c, fun w' hk => (cell_kpt hk hb).trans p0, fun w' hk => (cell_kpt hk hb).trans p1, Hid.mk' p2⟩
/-- The first ones are all other ones. -/
def Apt (l : List Pw) (i : Nat) : Prop := ∀ x y (hx : x < l.length) (hy : y < l.length), x < y → y < i → l[x].n ≠ l[y].n
theorem apt_pair {l : List Pw} (h : Apt l l.length) : l.Pairwise fun p q => p.n ≠ q.n := by
  rw [List.pairwise_iff_getElem]
  intro i j hi hj hlt
  exact h i j hi hj hlt hj
theorem dn_lo {wh to i : Nat} (h : i < wh) : dnW wh to i = 64 := by unfold dnW; rw [if_pos h]
theorem dn_at (wh to : Nat) : dnW wh to wh = to := by unfold dnW; rw [if_neg (by omega), if_pos rfl]
theorem dn_hi {wh to i : Nat} (h : wh < i) : dnW wh to i = 0 := by unfold dnW; rw [if_neg (by omega), if_neg (by omega)]
theorem torn_read {w : World} {a : Option Addr} {n c : Nat} {L : List Nat} {i : Int} (hC : Come w a n c L) (hc : chkE n = 0) (h : hasV n i = true) (h0 : 0 ≤ i) (h1 : 64 * i + 64 ≤ (n : Int)) : Calls Try.prog 12 #[dvV a n c, .int .i64 i] w fun e w' => ∃ g, e = slR (some ⟨g, 0, none⟩) 64 64 0 ∧ Hid (Row w' g (blD L i.toNat)) ∧ Kept w w' none := by
  obtain ⟨b, off, rfl, _⟩ := hC.by_.at_ (by omega)
  refine (bread_yes w hC hc h h0 h1).mono ?_
  rintro e w' ⟨g, rfl, _, hr, hk⟩
  exact ⟨g, rfl, Hid.mk' hr, hk⟩

end Go.Proofs.Ytpfbdandhdapcaa
