/-
  THE MATHS of the document's OfCommand and OfReport: what they read, and that it is what the program reads.
-/
import Derived.Test.YtnmfigcemknjbaaLnkX
import Derived.Test.YtnmfigcemknjbaaSPlG
namespace Go.Proofs.Ytnmfigcemknjbaa
open Go.RowKit Go.Lib Go.Deep
set_option linter.unusedVariables false
set_option linter.unusedSimpArgs false

/-- Numbers until there are n, or one is bad. -/
def spD (most : Nat) : Nat → Rd → List Int × Rd
  | 0, s => ([], s)
  | n + 1, s => if s.2 = true then ([], s) else (((dnM most s).1 : Int) :: (spD most n (dnM most s).2).1, (spD most n (dnM most s).2).2)
theorem spD_bad {most : Nat} {s : Rd} (h : s.2 = true) : ∀ n, spD most n s = ([], s)
  | 0 => rfl
  | n + 1 => by unfold spD; rw [if_pos h]
theorem spD_step {most n : Nat} {s : Rd} (h : s.2 = false) : spD most (n + 1) s = (((dnM most s).1 : Int) :: (spD most n (dnM most s).2).1, (spD most n (dnM most s).2).2) := by
  rw [spD, if_neg (by rw [h]; decide)]
theorem spD_fwd {most : Nat} (hm : most < 18446744073709551616) (T : List Nat) : ∀ l : List Int, (∀ x ∈ l, 0 ≤ x ∧ x ≤ (most : Int)) → spD most l.length (smlI l ++ T, false) = (l, (T, false))
  | [], _ => rfl
  | x :: l, h => by
    obtain ⟨h0, h1⟩ := h x (List.mem_cons_self ..)
    have e : smlI (x :: l) ++ T = sml x.toNat ++ (smlI l ++ T) := by
      show (x :: l).flatMap _ ++ T = _
      rw [List.flatMap_cons, List.append_assoc]; rfl
    rw [List.length_cons, spD_step rfl, e, dn_fwd hm (by omega), spD_fwd hm T l (fun y hy => h y (List.mem_cons_of_mem _ hy))]
    show (((x.toNat : Nat) : Int) :: l, _) = _
    rw [Int.toNat_of_nonneg h0]
/-- What the document's OfCommand reads. -/
def dcM (s : Rd) : Cm × Rd :=
  let p1 := dnM 65535 s
  let p2 := dnM 1048576 p1.2
  let p3 := dnM 1048576 p2.2
  let p4 := dnM 8 p3.2
  let q := spD 1048576 p4.1 p4.2
  (⟨(p1.1 : Int), ⟨(p2.1 : Int), (p3.1 : Int), q.1⟩⟩, q.2)
/-- What the document's OfReport reads. -/
def drM (s : Rd) : Rp × Rd :=
  let p1 := dnM 65535 s
  let p2 := dnM 3 p1.2
  let p3 := dnM 1073741824 p2.2
  let p4 := dnM 8 p3.2
  let q := spD 70368744177664 p4.1 p4.2
  (⟨(p1.1 : Int), p2.1, (p3.1 : Int), q.1⟩, q.2)
theorem smlI_cons (x : Int) (l : List Int) : smlI (x :: l) = sml x.toNat ++ smlI l := rfl
theorem dc_fwd {c : Cm} (h : cmE c = 0) : dcM (cmL c, false) = (c, ([], false)) := by
  obtain ⟨⟨a1, a2⟩, ⟨b1, b2⟩, ⟨c1, c2⟩, h8, hs⟩ := cm_ok h
  have hL : cmL c = sml c.site.toNat ++ (sml c.plan.cycle.toNat ++ (sml c.plan.offset.toNat ++ (sml c.plan.splits.length ++ (smlI c.plan.splits ++ [])))) := by
    unfold cmL
    rw [if_pos h]
    show smlI ([c.site, c.plan.cycle, c.plan.offset, (c.plan.splits.length : Int)] ++ c.plan.splits) = _
    simp only [List.cons_append, List.nil_append, smlI_cons, Int.toNat_natCast, List.append_nil]
  unfold dcM
  rw [hL, dn_fwd (by omega) (by omega)]
  dsimp only
  rw [dn_fwd (by omega) (by omega)]
  dsimp only
  rw [dn_fwd (by omega) (by omega)]
  dsimp only
  rw [dn_fwd (by omega) (by omega)]
  dsimp only
  rw [spD_fwd (by omega) [] c.plan.splits (fun x hx => by have := hs x hx; omega)]
  dsimp only
  rw [Int.toNat_of_nonneg a1, Int.toNat_of_nonneg b1, Int.toNat_of_nonneg c1]
theorem dr_fwd {r : Rp} (h : rpE r = 0) : drM (rpL r, false) = (r, ([], false)) := by
  obtain ⟨⟨a1, a2⟩, b2, ⟨c1, c2⟩, h8, hs⟩ := rp_ok h
  have hL : rpL r = sml r.site.toNat ++ (sml r.mode ++ (sml r.tick.toNat ++ (sml r.loads.length ++ (smlI r.loads ++ [])))) := by
    unfold rpL
    rw [if_pos h]
    show smlI ([r.site, (r.mode : Int), r.tick, (r.loads.length : Int)] ++ r.loads) = _
    simp only [List.cons_append, List.nil_append, smlI_cons, Int.toNat_natCast, List.append_nil]
  unfold drM
  rw [hL, dn_fwd (by omega) (by omega)]
  dsimp only
  rw [dn_fwd (by omega) (by omega)]
  dsimp only
  rw [dn_fwd (by omega) (by omega)]
  dsimp only
  rw [dn_fwd (by omega) (by omega)]
  dsimp only
  rw [spD_fwd (by omega) [] r.loads (fun x hx => by have := hs x hx; omega)]
  dsimp only
  rw [Int.toNat_of_nonneg a1, Int.toNat_of_nonneg c1]
/-- The document takes just what the program takes, and reads the same. -/
theorem dc_iff {b : List Nat} (hb : ∀ x ∈ b, x < 256) : ofcB b = true ↔ ((dcM (b, false)).2.2 = false ∧ cmE (dcM (b, false)).1 = 0 ∧ cmL (dcM (b, false)).1 = b) := by
  constructor
  · intro h
    obtain ⟨h1, h2⟩ := cm_only hb h
    have e := dc_fwd h1
    rw [h2] at e
    rw [e]
    exact ⟨rfl, h1, h2⟩
  · rintro ⟨_, h1, h2⟩
    have := (cm_back h1).1
    rwa [h2] at this
theorem dc_same {b : List Nat} (hb : ∀ x ∈ b, x < 256) (h : ofcB b = true) : (dcM (b, false)).1 = ofcC b := by
  obtain ⟨h1, h2⟩ := cm_only hb h
  have e := dc_fwd h1
  rw [h2] at e
  rw [e]
theorem dr_iff {b : List Nat} (hb : ∀ x ∈ b, x < 256) : ofrB b = true ↔ ((drM (b, false)).2.2 = false ∧ rpE (drM (b, false)).1 = 0 ∧ rpL (drM (b, false)).1 = b) := by
  constructor
  · intro h
    obtain ⟨h1, h2⟩ := rp_only hb h
    have e := dr_fwd h1
    rw [h2] at e
    rw [e]
    exact ⟨rfl, h1, h2⟩
  · rintro ⟨_, h1, h2⟩
    have := (rp_back h1).1
    rwa [h2] at this
theorem dr_same {b : List Nat} (hb : ∀ x ∈ b, x < 256) (h : ofrB b = true) : (drM (b, false)).1 = ofrR b := by
  obtain ⟨h1, h2⟩ := rp_only hb h
  have e := dr_fwd h1
  rw [h2] at e
  rw [e]

end Go.Proofs.Ytnmfigcemknjbaa
