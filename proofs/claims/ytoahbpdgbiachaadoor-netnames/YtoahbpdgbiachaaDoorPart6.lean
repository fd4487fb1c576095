/-
  Part 6 of the texts that the proofs of this seat stand on.
-/
import Derived.Test.YtoahbpdgbiachaaDoorPart5
import Derived.Test.YtoahbpdgbiachaaDoorPart3
import Derived.Test.YtoahbpdgbiachaaDoorPart1
import Derived.Maps.OwnSet
import Derived.Maps.OwnOps
import Derived.DeepKeys4
import Derived.MapViews
/-
  THE CONTRACT of site, the reader. (mksiter.py writes this text.)
-/
namespace Go.Proofs.YtoahbpdgbiachaaDoor
open Go.RowKit Go.Lib Go.Deep
set_option linter.unusedVariables false
set_option linter.unusedSimpArgs false

set_option maxRecDepth 100000 in
set_option maxHeartbeats 4000000 in
theorem site_rd {w : World} {H b : Nat} {s : Rd} (h : Rdr w H b s) (hH : H ≤ w.heap.size) : Calls Tryd.prog 108 #[.pointer (some ⟨b, 0, none⟩)] w fun e w' => ∃ X : Sa, e = .returned (siteV X (siteM s).1) ∧ (∀ w'', Ltr (w.heap.size + 1) w' w'' → Sat w'' X (siteM s).1) ∧ Rdr w' H b (siteM s).2 ∧ Kept w w' (some b) := by
  have hbl := h.lt
  have HE : siteM s = (⟨(numM s).1, (listM grM (upM 16 (numM s).2).1 (upM 16 (numM s).2).2).1, (listM (upM 4294967295) (listM grM (upM 16 (numM s).2).1 (upM 16 (numM s).2).2).1.length (listM grM (upM 16 (numM s).2).1 (upM 16 (numM s).2).2).2).1, (listM (listM numM (listM grM (upM 16 (numM s).2).1 (upM 16 (numM s).2).2).1.length) (listM grM (upM 16 (numM s).2).1 (upM 16 (numM s).2).2).1.length (listM (upM 4294967295) (listM grM (upM 16 (numM s).2).1 (upM 16 (numM s).2).2).1.length (listM grM (upM 16 (numM s).2).1 (upM 16 (numM s).2).2).2).2).1, (listM phM (upM 8 (listM (listM numM (listM grM (upM 16 (numM s).2).1 (upM 16 (numM s).2).2).1.length) (listM grM (upM 16 (numM s).2).1 (upM 16 (numM s).2).2).1.length (listM (upM 4294967295) (listM grM (upM 16 (numM s).2).1 (upM 16 (numM s).2).2).1.length (listM grM (upM 16 (numM s).2).1 (upM 16 (numM s).2).2).2).2).2).1 (upM 8 (listM (listM numM (listM grM (upM 16 (numM s).2).1 (upM 16 (numM s).2).2).1.length) (listM grM (upM 16 (numM s).2).1 (upM 16 (numM s).2).2).1.length (listM (upM 4294967295) (listM grM (upM 16 (numM s).2).1 (upM 16 (numM s).2).2).1.length (listM grM (upM 16 (numM s).2).1 (upM 16 (numM s).2).2).2).2).2).2).1, (listM eyM (upM 24 (listM phM (upM 8 (listM (listM numM (listM grM (upM 16 (numM s).2).1 (upM 16 (numM s).2).2).1.length) (listM grM (upM 16 (numM s).2).1 (upM 16 (numM s).2).2).1.length (listM (upM 4294967295) (listM grM (upM 16 (numM s).2).1 (upM 16 (numM s).2).2).1.length (listM grM (upM 16 (numM s).2).1 (upM 16 (numM s).2).2).2).2).2).1 (upM 8 (listM (listM numM (listM grM (upM 16 (numM s).2).1 (upM 16 (numM s).2).2).1.length) (listM grM (upM 16 (numM s).2).1 (upM 16 (numM s).2).2).1.length (listM (upM 4294967295) (listM grM (upM 16 (numM s).2).1 (upM 16 (numM s).2).2).1.length (listM grM (upM 16 (numM s).2).1 (upM 16 (numM s).2).2).2).2).2).2).2).1 (upM 24 (listM phM (upM 8 (listM (listM numM (listM grM (upM 16 (numM s).2).1 (upM 16 (numM s).2).2).1.length) (listM grM (upM 16 (numM s).2).1 (upM 16 (numM s).2).2).1.length (listM (upM 4294967295) (listM grM (upM 16 (numM s).2).1 (upM 16 (numM s).2).2).1.length (listM grM (upM 16 (numM s).2).1 (upM 16 (numM s).2).2).2).2).2).1 (upM 8 (listM (listM numM (listM grM (upM 16 (numM s).2).1 (upM 16 (numM s).2).2).1.length) (listM grM (upM 16 (numM s).2).1 (upM 16 (numM s).2).2).1.length (listM (upM 4294967295) (listM grM (upM 16 (numM s).2).1 (upM 16 (numM s).2).2).1.length (listM grM (upM 16 (numM s).2).1 (upM 16 (numM s).2).2).2).2).2).2).2).2).1, (numM (listM eyM (upM 24 (listM phM (upM 8 (listM (listM numM (listM grM (upM 16 (numM s).2).1 (upM 16 (numM s).2).2).1.length) (listM grM (upM 16 (numM s).2).1 (upM 16 (numM s).2).2).1.length (listM (upM 4294967295) (listM grM (upM 16 (numM s).2).1 (upM 16 (numM s).2).2).1.length (listM grM (upM 16 (numM s).2).1 (upM 16 (numM s).2).2).2).2).2).1 (upM 8 (listM (listM numM (listM grM (upM 16 (numM s).2).1 (upM 16 (numM s).2).2).1.length) (listM grM (upM 16 (numM s).2).1 (upM 16 (numM s).2).2).1.length (listM (upM 4294967295) (listM grM (upM 16 (numM s).2).1 (upM 16 (numM s).2).2).1.length (listM grM (upM 16 (numM s).2).1 (upM 16 (numM s).2).2).2).2).2).2).2).1 (upM 24 (listM phM (upM 8 (listM (listM numM (listM grM (upM 16 (numM s).2).1 (upM 16 (numM s).2).2).1.length) (listM grM (upM 16 (numM s).2).1 (upM 16 (numM s).2).2).1.length (listM (upM 4294967295) (listM grM (upM 16 (numM s).2).1 (upM 16 (numM s).2).2).1.length (listM grM (upM 16 (numM s).2).1 (upM 16 (numM s).2).2).2).2).2).1 (upM 8 (listM (listM numM (listM grM (upM 16 (numM s).2).1 (upM 16 (numM s).2).2).1.length) (listM grM (upM 16 (numM s).2).1 (upM 16 (numM s).2).2).1.length (listM (upM 4294967295) (listM grM (upM 16 (numM s).2).1 (upM 16 (numM s).2).2).1.length (listM grM (upM 16 (numM s).2).1 (upM 16 (numM s).2).2).2).2).2).2).2).2).2).1, (numM (numM (listM eyM (upM 24 (listM phM (upM 8 (listM (listM numM (listM grM (upM 16 (numM s).2).1 (upM 16 (numM s).2).2).1.length) (listM grM (upM 16 (numM s).2).1 (upM 16 (numM s).2).2).1.length (listM (upM 4294967295) (listM grM (upM 16 (numM s).2).1 (upM 16 (numM s).2).2).1.length (listM grM (upM 16 (numM s).2).1 (upM 16 (numM s).2).2).2).2).2).1 (upM 8 (listM (listM numM (listM grM (upM 16 (numM s).2).1 (upM 16 (numM s).2).2).1.length) (listM grM (upM 16 (numM s).2).1 (upM 16 (numM s).2).2).1.length (listM (upM 4294967295) (listM grM (upM 16 (numM s).2).1 (upM 16 (numM s).2).2).1.length (listM grM (upM 16 (numM s).2).1 (upM 16 (numM s).2).2).2).2).2).2).2).1 (upM 24 (listM phM (upM 8 (listM (listM numM (listM grM (upM 16 (numM s).2).1 (upM 16 (numM s).2).2).1.length) (listM grM (upM 16 (numM s).2).1 (upM 16 (numM s).2).2).1.length (listM (upM 4294967295) (listM grM (upM 16 (numM s).2).1 (upM 16 (numM s).2).2).1.length (listM grM (upM 16 (numM s).2).1 (upM 16 (numM s).2).2).2).2).2).1 (upM 8 (listM (listM numM (listM grM (upM 16 (numM s).2).1 (upM 16 (numM s).2).2).1.length) (listM grM (upM 16 (numM s).2).1 (upM 16 (numM s).2).2).1.length (listM (upM 4294967295) (listM grM (upM 16 (numM s).2).1 (upM 16 (numM s).2).2).1.length (listM grM (upM 16 (numM s).2).1 (upM 16 (numM s).2).2).2).2).2).2).2).2).2).2).1, (numM (numM (numM (listM eyM (upM 24 (listM phM (upM 8 (listM (listM numM (listM grM (upM 16 (numM s).2).1 (upM 16 (numM s).2).2).1.length) (listM grM (upM 16 (numM s).2).1 (upM 16 (numM s).2).2).1.length (listM (upM 4294967295) (listM grM (upM 16 (numM s).2).1 (upM 16 (numM s).2).2).1.length (listM grM (upM 16 (numM s).2).1 (upM 16 (numM s).2).2).2).2).2).1 (upM 8 (listM (listM numM (listM grM (upM 16 (numM s).2).1 (upM 16 (numM s).2).2).1.length) (listM grM (upM 16 (numM s).2).1 (upM 16 (numM s).2).2).1.length (listM (upM 4294967295) (listM grM (upM 16 (numM s).2).1 (upM 16 (numM s).2).2).1.length (listM grM (upM 16 (numM s).2).1 (upM 16 (numM s).2).2).2).2).2).2).2).1 (upM 24 (listM phM (upM 8 (listM (listM numM (listM grM (upM 16 (numM s).2).1 (upM 16 (numM s).2).2).1.length) (listM grM (upM 16 (numM s).2).1 (upM 16 (numM s).2).2).1.length (listM (upM 4294967295) (listM grM (upM 16 (numM s).2).1 (upM 16 (numM s).2).2).1.length (listM grM (upM 16 (numM s).2).1 (upM 16 (numM s).2).2).2).2).2).1 (upM 8 (listM (listM numM (listM grM (upM 16 (numM s).2).1 (upM 16 (numM s).2).2).1.length) (listM grM (upM 16 (numM s).2).1 (upM 16 (numM s).2).2).1.length (listM (upM 4294967295) (listM grM (upM 16 (numM s).2).1 (upM 16 (numM s).2).2).1.length (listM grM (upM 16 (numM s).2).1 (upM 16 (numM s).2).2).2).2).2).2).2).2).2).2).2).1, (numM (numM (numM (numM (listM eyM (upM 24 (listM phM (upM 8 (listM (listM numM (listM grM (upM 16 (numM s).2).1 (upM 16 (numM s).2).2).1.length) (listM grM (upM 16 (numM s).2).1 (upM 16 (numM s).2).2).1.length (listM (upM 4294967295) (listM grM (upM 16 (numM s).2).1 (upM 16 (numM s).2).2).1.length (listM grM (upM 16 (numM s).2).1 (upM 16 (numM s).2).2).2).2).2).1 (upM 8 (listM (listM numM (listM grM (upM 16 (numM s).2).1 (upM 16 (numM s).2).2).1.length) (listM grM (upM 16 (numM s).2).1 (upM 16 (numM s).2).2).1.length (listM (upM 4294967295) (listM grM (upM 16 (numM s).2).1 (upM 16 (numM s).2).2).1.length (listM grM (upM 16 (numM s).2).1 (upM 16 (numM s).2).2).2).2).2).2).2).1 (upM 24 (listM phM (upM 8 (listM (listM numM (listM grM (upM 16 (numM s).2).1 (upM 16 (numM s).2).2).1.length) (listM grM (upM 16 (numM s).2).1 (upM 16 (numM s).2).2).1.length (listM (upM 4294967295) (listM grM (upM 16 (numM s).2).1 (upM 16 (numM s).2).2).1.length (listM grM (upM 16 (numM s).2).1 (upM 16 (numM s).2).2).2).2).2).1 (upM 8 (listM (listM numM (listM grM (upM 16 (numM s).2).1 (upM 16 (numM s).2).2).1.length) (listM grM (upM 16 (numM s).2).1 (upM 16 (numM s).2).2).1.length (listM (upM 4294967295) (listM grM (upM 16 (numM s).2).1 (upM 16 (numM s).2).2).1.length (listM grM (upM 16 (numM s).2).1 (upM 16 (numM s).2).2).2).2).2).2).2).2).2).2).2).2).1, (numM (numM (numM (numM (numM (listM eyM (upM 24 (listM phM (upM 8 (listM (listM numM (listM grM (upM 16 (numM s).2).1 (upM 16 (numM s).2).2).1.length) (listM grM (upM 16 (numM s).2).1 (upM 16 (numM s).2).2).1.length (listM (upM 4294967295) (listM grM (upM 16 (numM s).2).1 (upM 16 (numM s).2).2).1.length (listM grM (upM 16 (numM s).2).1 (upM 16 (numM s).2).2).2).2).2).1 (upM 8 (listM (listM numM (listM grM (upM 16 (numM s).2).1 (upM 16 (numM s).2).2).1.length) (listM grM (upM 16 (numM s).2).1 (upM 16 (numM s).2).2).1.length (listM (upM 4294967295) (listM grM (upM 16 (numM s).2).1 (upM 16 (numM s).2).2).1.length (listM grM (upM 16 (numM s).2).1 (upM 16 (numM s).2).2).2).2).2).2).2).1 (upM 24 (listM phM (upM 8 (listM (listM numM (listM grM (upM 16 (numM s).2).1 (upM 16 (numM s).2).2).1.length) (listM grM (upM 16 (numM s).2).1 (upM 16 (numM s).2).2).1.length (listM (upM 4294967295) (listM grM (upM 16 (numM s).2).1 (upM 16 (numM s).2).2).1.length (listM grM (upM 16 (numM s).2).1 (upM 16 (numM s).2).2).2).2).2).1 (upM 8 (listM (listM numM (listM grM (upM 16 (numM s).2).1 (upM 16 (numM s).2).2).1.length) (listM grM (upM 16 (numM s).2).1 (upM 16 (numM s).2).2).1.length (listM (upM 4294967295) (listM grM (upM 16 (numM s).2).1 (upM 16 (numM s).2).2).1.length (listM grM (upM 16 (numM s).2).1 (upM 16 (numM s).2).2).2).2).2).2).2).2).2).2).2).2).2).1, (plansM (numM (numM (numM (numM (numM (listM eyM (upM 24 (listM phM (upM 8 (listM (listM numM (listM grM (upM 16 (numM s).2).1 (upM 16 (numM s).2).2).1.length) (listM grM (upM 16 (numM s).2).1 (upM 16 (numM s).2).2).1.length (listM (upM 4294967295) (listM grM (upM 16 (numM s).2).1 (upM 16 (numM s).2).2).1.length (listM grM (upM 16 (numM s).2).1 (upM 16 (numM s).2).2).2).2).2).1 (upM 8 (listM (listM numM (listM grM (upM 16 (numM s).2).1 (upM 16 (numM s).2).2).1.length) (listM grM (upM 16 (numM s).2).1 (upM 16 (numM s).2).2).1.length (listM (upM 4294967295) (listM grM (upM 16 (numM s).2).1 (upM 16 (numM s).2).2).1.length (listM grM (upM 16 (numM s).2).1 (upM 16 (numM s).2).2).2).2).2).2).2).1 (upM 24 (listM phM (upM 8 (listM (listM numM (listM grM (upM 16 (numM s).2).1 (upM 16 (numM s).2).2).1.length) (listM grM (upM 16 (numM s).2).1 (upM 16 (numM s).2).2).1.length (listM (upM 4294967295) (listM grM (upM 16 (numM s).2).1 (upM 16 (numM s).2).2).1.length (listM grM (upM 16 (numM s).2).1 (upM 16 (numM s).2).2).2).2).2).1 (upM 8 (listM (listM numM (listM grM (upM 16 (numM s).2).1 (upM 16 (numM s).2).2).1.length) (listM grM (upM 16 (numM s).2).1 (upM 16 (numM s).2).2).1.length (listM (upM 4294967295) (listM grM (upM 16 (numM s).2).1 (upM 16 (numM s).2).2).1.length (listM grM (upM 16 (numM s).2).1 (upM 16 (numM s).2).2).2).2).2).2).2).2).2).2).2).2).2).2).1⟩, (plansM (numM (numM (numM (numM (numM (listM eyM (upM 24 (listM phM (upM 8 (listM (listM numM (listM grM (upM 16 (numM s).2).1 (upM 16 (numM s).2).2).1.length) (listM grM (upM 16 (numM s).2).1 (upM 16 (numM s).2).2).1.length (listM (upM 4294967295) (listM grM (upM 16 (numM s).2).1 (upM 16 (numM s).2).2).1.length (listM grM (upM 16 (numM s).2).1 (upM 16 (numM s).2).2).2).2).2).1 (upM 8 (listM (listM numM (listM grM (upM 16 (numM s).2).1 (upM 16 (numM s).2).2).1.length) (listM grM (upM 16 (numM s).2).1 (upM 16 (numM s).2).2).1.length (listM (upM 4294967295) (listM grM (upM 16 (numM s).2).1 (upM 16 (numM s).2).2).1.length (listM grM (upM 16 (numM s).2).1 (upM 16 (numM s).2).2).2).2).2).2).2).1 (upM 24 (listM phM (upM 8 (listM (listM numM (listM grM (upM 16 (numM s).2).1 (upM 16 (numM s).2).2).1.length) (listM grM (upM 16 (numM s).2).1 (upM 16 (numM s).2).2).1.length (listM (upM 4294967295) (listM grM (upM 16 (numM s).2).1 (upM 16 (numM s).2).2).1.length (listM grM (upM 16 (numM s).2).1 (upM 16 (numM s).2).2).2).2).2).1 (upM 8 (listM (listM numM (listM grM (upM 16 (numM s).2).1 (upM 16 (numM s).2).2).1.length) (listM grM (upM 16 (numM s).2).1 (upM 16 (numM s).2).2).1.length (listM (upM 4294967295) (listM grM (upM 16 (numM s).2).1 (upM 16 (numM s).2).2).1.length (listM grM (upM 16 (numM s).2).1 (upM 16 (numM s).2).2).2).2).2).2).2).2).2).2).2).2).2).2).2) := rfl
  have hlen2 := listM_len grM (upM 16 (numM s).2).1 (upM 16 (numM s).2).2
  rw [hlen2] at HE
  have hle1 := upM_le 16 (numM s).2
  have hr2 := Hid.mk' (listM_all (P := fun g : Gr => g.kind < 256 ∧ i64B g.min ∧ i64B g.yellow) grM_r (upM 16 (numM s).2).1 (upM 16 (numM s).2).2)
  rw [HE]
  clear HE
  have hid := numM_i64 s
  generalize hu : numM s = u at *
  have HU0 := Hid.mk' hu
  clear hu
  obtain ⟨v0, s0⟩ := u
  dsimp only at *
  generalize hu : upM 16 s0 = u at *
  have HU1 := Hid.mk' hu
  clear hu
  obtain ⟨v1, s1⟩ := u
  dsimp only at *
  generalize hu : listM grM v1 s1 = u at *
  have HU2 := Hid.mk' hu
  clear hu
  obtain ⟨v2, s2⟩ := u
  dsimp only at *
  have hlen3 := listM_len (upM 4294967295) v1 s2
  have hr3 := Hid.mk' (listM_all (P := fun x : Nat => x < 4294967296) (fun s => by have := upM_le 4294967295 s; show (upM 4294967295 s).1 < 4294967296; omega) v1 s2)
  generalize hu : listM (upM 4294967295) v1 s2 = u at *
  have HU3 := Hid.mk' hu
  clear hu
  obtain ⟨v3, s3⟩ := u
  dsimp only at *
  have hlen4 := listM_len (listM numM v1) v1 s3
  have hr4 := Hid.mk' (listM_all (P := fun l : List Int => l.length ≤ 1000 ∧ ∀ x ∈ l, i64B x) (f := listM numM v1) (fun s => ⟨by rw [listM_len]; omega, listM_all numM_i64 v1 s⟩) v1 s3)
  generalize hu : listM (listM numM v1) v1 s3 = u at *
  have HU4 := Hid.mk' hu
  clear hu
  obtain ⟨v4, s4⟩ := u
  dsimp only at *
  have hle5 := upM_le 8 s4
  generalize hu : upM 8 s4 = u at *
  have HU5 := Hid.mk' hu
  clear hu
  obtain ⟨v5, s5⟩ := u
  dsimp only at *
  have hlen6 := listM_len phM v5 s5
  have hr6 := Hid.mk' (listM_all (P := fun p : Ph => p.groups < 4294967296 ∧ i64B p.min ∧ i64B p.max ∧ i64B p.gap) phM_r v5 s5)
  generalize hu : listM phM v5 s5 = u at *
  have HU6 := Hid.mk' hu
  clear hu
  obtain ⟨v6, s6⟩ := u
  dsimp only at *
  have hle7 := upM_le 24 s6
  generalize hu : upM 24 s6 = u at *
  have HU7 := Hid.mk' hu
  clear hu
  obtain ⟨v7, s7⟩ := u
  dsimp only at *
  have hlen8 := listM_len eyM v7 s7
  have hr8 := Hid.mk' (listM_all (P := fun e : Ey => i64B e.phase ∧ i64B e.on ∧ i64B e.off ∧ i64B e.turns) eyM_r v7 s7)
  generalize hu : listM eyM v7 s7 = u at *
  have HU8 := Hid.mk' hu
  clear hu
  obtain ⟨v8, s8⟩ := u
  dsimp only at *
  have hi9 := numM_i64 s8
  generalize hu : numM s8 = u at *
  have HU9 := Hid.mk' hu
  clear hu
  obtain ⟨v9, s9⟩ := u
  dsimp only at *
  have hi10 := numM_i64 s9
  generalize hu : numM s9 = u at *
  have HU10 := Hid.mk' hu
  clear hu
  obtain ⟨v10, s10⟩ := u
  dsimp only at *
  have hi11 := numM_i64 s10
  generalize hu : numM s10 = u at *
  have HU11 := Hid.mk' hu
  clear hu
  obtain ⟨v11, s11⟩ := u
  dsimp only at *
  have hi12 := numM_i64 s11
  generalize hu : numM s11 = u at *
  have HU12 := Hid.mk' hu
  clear hu
  obtain ⟨v12, s12⟩ := u
  dsimp only at *
  have hi13 := numM_i64 s12
  generalize hu : numM s12 = u at *
  have HU13 := Hid.mk' hu
  clear hu
  obtain ⟨v13, s13⟩ := u
  dsimp only at *
  have hr14 := Hid.mk' (plansM_r s13)
  generalize hu : plansM s13 = u at *
  have HU14 := Hid.mk' hu
  clear hu
  obtain ⟨v14, s14⟩ := u
  dsimp only at *
  have HNUM : Hid (i64B v0 ∧ i64B v9 ∧ i64B v10 ∧ i64B v11 ∧ i64B v12 ∧ i64B v13) := ⟨hid, hi9, hi10, hi11, hi12, hi13⟩
  have HLEN : Hid (v2.length = v1 ∧ v3.length = v1 ∧ v4.length = v1 ∧ v6.length = v5 ∧ v8.length = v7) := ⟨hlen2, hlen3, hlen4, hlen6, hlen8⟩
  clear hid hi9 hi10 hi11 hi12 hi13 hlen2 hlen3 hlen4 hlen6 hlen8
  have hA0 : Kept w ((w.alloc (.cells #[.pointer (some ⟨b, 0, none⟩)] 158)).alloc (.cells zS 48)) (some b) := (Kept.alloc w _ _ (0, 0) _).tr (Kept.alloc _ _ _ (0, 0) _)
  have HA := Hid.mk' ((h.alloc #[.pointer (some ⟨b, 0, none⟩)] 158).alloc zS 48)
  have HB : Hid (((w.alloc (.cells #[.pointer (some ⟨b, 0, none⟩)] 158)).alloc (.cells zS 48)).cell? ⟨w.heap.size, 0, none⟩ = some (.pointer (some ⟨b, 0, none⟩))) := by show _ = _; go_simp
  have hC := World.rowIs_alloc (w.alloc (.cells #[.pointer (some ⟨b, 0, none⟩)] 158)) zS 48 (fS zS) (fun i hi => by unfold fS; rw [Array.getElem?_eq_getElem hi]; rfl)
  rw [World.size_alloc] at hC
  have HC := Hid.mk' hC
  clear h hC
  go_enter Tryd.func108, Tryd.ntmps108
  go_wp2_with (go_at_call 53; have hn := number_any HA.out; rw [HU0.out] at hn; refine hn.mono ?_; rintro e w1 ⟨rfl, hr1, hk1⟩)
  have hsz1 : w.heap.size + 2 ≤ w1.heap.size := by have := hk1.size; simp at this; omega
  have T0 : Hid (Sit w (w1.alloc (.cells #[.int .i64 v0, .slice none 0 0, .slice none 0 0, .slice none 0 0, .slice none 0 0, .slice none 0 0, .int .i64 0, .int .i64 0, .int .i64 0, .int .i64 0, .int .i64 0, .slice none 0 0] 48)) H b w1.heap.size #[.int .i64 v0, .slice none 0 0, .slice none 0 0, .slice none 0 0, .slice none 0 0, .slice none 0 0, .int .i64 0, .int .i64 0, .int .i64 0, .int .i64 0, .int .i64 0, .slice none 0 0] s0) :=
    ⟨hr1.alloc _ _, (World.cell?_alloc_lt _ _ _ (by show w.heap.size < _; omega)).trans (cell_keptR HB.out hk1 (fun e => by have := Option.some.inj e; omega)), World.rowIs.alloc (row_kept HC.out hk1 (fun e => by have := Option.some.inj e; omega)) _, World.rowIs_alloc w1 _ _ _ (fun i hi => by unfold fS; rw [Array.getElem?_eq_getElem hi]; rfl), by omega, (hA0.tr hk1).tr (Kept.alloc _ _ _ (0, 0) _), hH⟩
  clear hn hA0 HA HB HC hr1 hk1
  generalize w1.alloc (.cells #[.int .i64 v0, .slice none 0 0, .slice none 0 0, .slice none 0 0, .slice none 0 0, .slice none 0 0, .int .i64 0, .int .i64 0, .int .i64 0, .int .i64 0, .int .i64 0, .slice none 0 0] 48) = x0 at *
  generalize hg : w1.heap.size = g at *
  clear hg
  have T := T0
  clear T0
  have hbg : b < g := by have := T.out.lt; omega
  -- groups
  refine wp_region_held_drew (S := fun w' => w'.cell? ⟨w.heap.size, 0, none⟩ = some (.pointer (some ⟨b, 0, none⟩))) (by kernel_rfl) T.out.drew.bx (fun hHeld => ?_)
  refine held_take (i := 0) (v := ?vh1x0) rfl rfl (by kernel_rfl) (by kernel_rfl) (by kernel_rfl) (fun _ _ _ h => h) (Or.inl ⟨by rfl, ?hyh1x0⟩) hHeld ?resth1x0
  case hyh1x0 => first | (intro w hSw; go_simp; done) | (intro w hSw; go_simp; with_reducible rfl)
  try simp only [List.setIfInBounds_toArray, List.set_cons_zero, List.set_cons_succ]
  refine held_take (i := 1) (v := ?vh1x1) rfl rfl (by kernel_rfl) (by kernel_rfl) (by kernel_rfl) (fun _ _ _ h => h) (Or.inl ⟨by rfl, ?hyh1x1⟩) hHeld ?resth1x1
  case hyh1x1 => first | (intro w hSw; go_simp; done) | (intro w hSw; go_simp; with_reducible rfl)
  try simp only [List.setIfInBounds_toArray, List.set_cons_zero, List.set_cons_succ]
  refine held_take (i := 2) (v := ?vh1x2) rfl rfl (by kernel_rfl) (by kernel_rfl) (by kernel_rfl) (fun _ _ _ h => h) (Or.inl ⟨by rfl, ?hyh1x2⟩) hHeld ?resth1x2
  case hyh1x2 => first | (intro w hSw; go_simp; done) | (intro w hSw; go_simp; with_reducible rfl)
  try simp only [List.setIfInBounds_toArray, List.set_cons_zero, List.set_cons_succ]
  refine held_take (i := 4) (v := ?vh1x4) rfl rfl (by kernel_rfl) (by kernel_rfl) (by kernel_rfl) (fun _ _ _ h => h) (Or.inl ⟨by rfl, ?hyh1x4⟩) hHeld ?resth1x4
  case hyh1x4 => first | (intro w hSw; go_simp; done) | (intro w hSw; go_simp; with_reducible rfl)
  try simp only [List.setIfInBounds_toArray, List.set_cons_zero, List.set_cons_succ]
  refine held_take (i := 5) (v := ?vh1x5) rfl rfl (by kernel_rfl) (by kernel_rfl) (by kernel_rfl) (fun _ _ _ h => h) (Or.inl ⟨by rfl, ?hyh1x5⟩) hHeld ?resth1x5
  case hyh1x5 => first | (intro w hSw; go_simp; done) | (intro w hSw; go_simp; with_reducible rfl)
  try simp only [List.setIfInBounds_toArray, List.set_cons_zero, List.set_cons_succ]
  refine wpAnyH_ready (rs := [3]) (by kernel_rfl) (by simp) ?_
  refine AllReadyH.cons rfl (fun K hK => ?_) AllReadyH.nil
  go_simp
  go_wp2_with (go_at_call 49; have hn := many_any T.out.drew.rd 16 (by omega); rw [HU1.out] at hn; refine hn.mono ?_; rintro e wA ⟨rfl, hrA, hkA⟩)
  have TA := Hid.mk' (T.out.drew.call hkA hrA)
  clear hrA
  refine hK.out _ _ TA.out.bx (fun hHeld => ?_)
  clear hK K
  refine wpAnyH_ready (rs := [6]) (by kernel_rfl) (by simp) ?_
  refine AllReadyH.cons rfl (fun K hK => ?_) AllReadyH.nil
  go_simp
  go_wp2_with (go_at_call 117; have hn := list_group TA.out.rd TA.out.up v1 (by omega); rw [HU2.out] at hn; refine hn.mono ?_; rintro e wB ⟨rfl, hlB, hrB, hkB⟩)
  have TB := Hid.mk' (TA.out.call hkB hrB)
  have LB : Hid (LieN wB (g + 1) wA.heap.size v1 3 (fun i j => grV (v2.getD i g0) j)) := ⟨hlB, TA.out.box.lt⟩
  clear hrB hlB
  refine hK.out _ _ TB.out.bx (fun hHeld => ?_)
  clear hK K
  refine held_take (i := 7) (v := ?vh2x7) rfl rfl (by kernel_rfl) (by kernel_rfl) (by kernel_rfl) (fun _ _ _ h => h) (Or.inl ⟨by rfl, ?hyh2x7⟩) hHeld ?resth2x7
  case hyh2x7 => first | (intro w hSw; go_simp; done) | (intro w hSw; go_simp; with_reducible rfl)
  try simp only [List.setIfInBounds_toArray, List.set_cons_zero, List.set_cons_succ]
  have hq1 : Ltr (g + 1) x0 wB := (((Kept.drew x0 (some b)).ltr (by omega)).tr (hkA.ltr (by omega))).tr (hkB.ltr (by omega))
  generalize wA.heap.size = a1 at *
  clear hkA hkB TA
  have k := TB.out.box.cell (i := 1) (by omega)
  have z := TB.out.box.frozen 1
  refine wpAnyH_ready (rs := [8]) (by kernel_rfl) (by simp) ?_
  refine AllReadyH.cons rfl (fun K hK => ?_) AllReadyH.nil
  go_simp
  refine hK.out _ _ (TB.out.put 1 _ (by simp)).bx (fun hHeld => ?_)
  clear hK K
  refine wpAnyH_done (by kernel_rfl) ?_ _
  have T : Hid (Sit w (wB.setCell ⟨g, 1, none⟩ (.slice (some ⟨a1, 0, none⟩) v1 v1)) H b g #[.int .i64 v0, .slice (some ⟨a1, 0, none⟩) v1 v1, .slice none 0 0, .slice none 0 0, .slice none 0 0, .slice none 0 0, .int .i64 0, .int .i64 0, .int .i64 0, .int .i64 0, .int .i64 0, .slice none 0 0] s2) := TB.out.put 1 _ (by simp)
  have hq := hq1.tr (Ltr.set wB (show g < g + 1 by omega) 1 (.slice (some ⟨a1, 0, none⟩) v1 v1))
  have hq2 := Ltr.set wB (show g < g + 1 by omega) 1 (.slice (some ⟨a1, 0, none⟩) v1 v1)
  clear k z TB hq1 hHeld
  have L1 := Hid.mk' (LB.out.ltr hq2)
  clear hq hq2 LB
  generalize wB.setCell ⟨g, 1, none⟩ (.slice (some ⟨a1, 0, none⟩) v1 v1) = x1 at *
  have k1 := T.out.box.cell (i := 1) (by omega)
  simp only [fS] at k1
  have gq := (Kept.alloc x1 #[.int .i64 (v1 : Int)] 3 (0, 0) (some b)).ltr (show b < g + 1 by omega)
  have G0 : Hid ((x1.alloc (.cells #[.int .i64 (v1 : Int)] 3)).cell? ⟨x1.heap.size, 0, none⟩ = some (.int .i64 (v1 : Int))) := by show _ = _; go_simp
  have hgb : g + 1 ≤ x1.heap.size := T.out.box.lt
  have T2 := Hid.mk' (T.out.alloc #[.int .i64 (v1 : Int)] 3)
  have L1a := Hid.mk' (L1.out.ltr gq)
  have bx2 := T2.out.bx
  have hwb : w.heap.size ≠ b := by have := T.out.lt; omega
  clear gq
  go_wp2_with (first
    | (have hgo := T3; clear hgo; go_at_call 121; have hn := list_row T3.out.rd T3.out.up v1 (by omega) G3.out T3.out.bx (show x1.heap.size ≠ b by omega) hwb; rw [HU4.out, E3.out] at hn; refine hn.mono ?_; rintro e wC ⟨rfl, hlC, hrC, hkC⟩; have TC := Hid.mk' (T3.out.call hkC hrC); have LC := Hid.mk' (hlC.down (show g + 1 ≤ _ from LT3.out)); clear hrC hlC hn; have k3 := TC.out.box.cell (i := 3) (by omega); have z3 := TC.out.box.frozen 3)
    | (go_at_call 119; have hn := list_set T2.out.rd T2.out.up v1 (by omega); rw [HU3.out, World.size_alloc] at hn; refine hn.mono ?_; rintro e wB ⟨rfl, hlB, hrB, hkB⟩; have TB := Hid.mk' (T2.out.call hkB hrB); have LB : Hid (LieN wB (g + 1) (x1.heap.size + 1) v1 1 (fun i j => .int .u32 (v3.getD i 0 : Int))) := ⟨hlB, by omega⟩; have k := TB.out.box.cell (i := 2) (by omega); have z := TB.out.box.frozen 2; have hq1 : Ltr (g + 1) (x1.alloc (.cells #[.int .i64 (v1 : Int)] 3)) wB := hkB.ltr (by omega); have hq2 := Ltr.set wB (show g < g + 1 by omega) 2 (.slice (some ⟨x1.heap.size + 1, 0, none⟩) v1 v1); have hq := hq1.tr hq2; have T3 : Hid (Sit w (wB.setCell ⟨g, 2, none⟩ (.slice (some ⟨x1.heap.size + 1, 0, none⟩) v1 v1)) H b g #[.int .i64 v0, .slice (some ⟨a1, 0, none⟩) v1 v1, .slice (some ⟨x1.heap.size + 1, 0, none⟩) v1 v1, .slice none 0 0, .slice none 0 0, .slice none 0 0, .int .i64 0, .int .i64 0, .int .i64 0, .int .i64 0, .int .i64 0, .slice none 0 0] s3) := TB.out.put 2 _ (by simp); have L1b := Hid.mk' (L1a.out.ltr hq); have G3 := Hid.mk' (Ltr.cell hq G0.out (by omega)); have L2b := Hid.mk' (LB.out.ltr hq2); have bx3 := T3.out.bx; have gx3 := G3.out; have E3 : Hid ((wB.setCell ⟨g, 2, none⟩ (.slice (some ⟨x1.heap.size + 1, 0, none⟩) v1 v1)).heap.size = wB.heap.size) := (by show _ = _; simp [World.setCell]); have LT3 : Hid (g + 1 ≤ wB.heap.size) := (by have h1 := hkB.size; rw [World.size_alloc] at h1; show _ ≤ _; omega); clear hn hrB hlB hkB LB TB hq hq1 hq2))
  clear k z k1 bx2 bx3 gx3 T2 G0 T
  have hqC : Ltr (g + 1) (wB.setCell ⟨g, 2, none⟩ (.slice (some ⟨x1.heap.size + 1, 0, none⟩) v1 v1)) wC := hkC.ltr (by omega)
  have T : Hid (Sit w (wC.setCell ⟨g, 3, none⟩ (.slice (some ⟨wB.heap.size, 0, none⟩) v1 v1)) H b g #[.int .i64 v0, .slice (some ⟨a1, 0, none⟩) v1 v1, .slice (some ⟨x1.heap.size + 1, 0, none⟩) v1 v1, .slice (some ⟨wB.heap.size, 0, none⟩) v1 v1, .slice none 0 0, .slice none 0 0, .int .i64 0, .int .i64 0, .int .i64 0, .int .i64 0, .int .i64 0, .slice none 0 0] s4) := TC.out.put 3 _ (by simp)
  have hq2 := Ltr.set wC (show g < g + 1 by omega) 3 (.slice (some ⟨wB.heap.size, 0, none⟩) v1 v1)
  have hq := hqC.tr hq2
  clear L1
  have L1 := Hid.mk' (L1b.out.ltr hq)
  have L2 := Hid.mk' (L2b.out.ltr hq)
  have L3 := Hid.mk' (LC.out.ltr hq2)
  have G := Hid.mk' (Ltr.cell hq G3.out (by omega))
  clear L1a L1b L2b hq hq2 hqC hkC LC TC T3 G3 E3 LT3 k3 z3
  generalize wC.setCell ⟨g, 3, none⟩ (.slice (some ⟨wB.heap.size, 0, none⟩) v1 v1) = x4 at *
  generalize wB.heap.size = a3 at *
  generalize x1.heap.size + 1 = a2 at *
  generalize x1.heap.size = gb at *
  -- phases
  refine wp_region_held_drew (S := fun w' => w'.cell? ⟨w.heap.size, 0, none⟩ = some (.pointer (some ⟨b, 0, none⟩))) (by kernel_rfl) T.out.drew.bx (fun hHeld => ?_)
  refine held_take (i := 0) (v := ?vh3x0) rfl rfl (by kernel_rfl) (by kernel_rfl) (by kernel_rfl) (fun _ _ _ h => h) (Or.inl ⟨by rfl, ?hyh3x0⟩) hHeld ?resth3x0
  case hyh3x0 => first | (intro w hSw; go_simp; done) | (intro w hSw; go_simp; with_reducible rfl)
  try simp only [List.setIfInBounds_toArray, List.set_cons_zero, List.set_cons_succ]
  refine held_take (i := 1) (v := ?vh3x1) rfl rfl (by kernel_rfl) (by kernel_rfl) (by kernel_rfl) (fun _ _ _ h => h) (Or.inl ⟨by rfl, ?hyh3x1⟩) hHeld ?resth3x1
  case hyh3x1 => first | (intro w hSw; go_simp; done) | (intro w hSw; go_simp; with_reducible rfl)
  try simp only [List.setIfInBounds_toArray, List.set_cons_zero, List.set_cons_succ]
  refine held_take (i := 2) (v := ?vh3x2) rfl rfl (by kernel_rfl) (by kernel_rfl) (by kernel_rfl) (fun _ _ _ h => h) (Or.inl ⟨by rfl, ?hyh3x2⟩) hHeld ?resth3x2
  case hyh3x2 => first | (intro w hSw; go_simp; done) | (intro w hSw; go_simp; with_reducible rfl)
  try simp only [List.setIfInBounds_toArray, List.set_cons_zero, List.set_cons_succ]
  refine held_take (i := 4) (v := ?vh3x4) rfl rfl (by kernel_rfl) (by kernel_rfl) (by kernel_rfl) (fun _ _ _ h => h) (Or.inl ⟨by rfl, ?hyh3x4⟩) hHeld ?resth3x4
  case hyh3x4 => first | (intro w hSw; go_simp; done) | (intro w hSw; go_simp; with_reducible rfl)
  try simp only [List.setIfInBounds_toArray, List.set_cons_zero, List.set_cons_succ]
  refine held_take (i := 5) (v := ?vh3x5) rfl rfl (by kernel_rfl) (by kernel_rfl) (by kernel_rfl) (fun _ _ _ h => h) (Or.inl ⟨by rfl, ?hyh3x5⟩) hHeld ?resth3x5
  case hyh3x5 => first | (intro w hSw; go_simp; done) | (intro w hSw; go_simp; with_reducible rfl)
  try simp only [List.setIfInBounds_toArray, List.set_cons_zero, List.set_cons_succ]
  refine wpAnyH_ready (rs := [3]) (by kernel_rfl) (by simp) ?_
  refine AllReadyH.cons rfl (fun K hK => ?_) AllReadyH.nil
  go_simp
  go_wp2_with (go_at_call 49; have hn := many_any T.out.drew.rd 8 (by omega); rw [HU5.out] at hn; refine hn.mono ?_; rintro e wA ⟨rfl, hrA, hkA⟩)
  have TA := Hid.mk' (T.out.drew.call hkA hrA)
  clear hrA
  refine hK.out _ _ TA.out.bx (fun hHeld => ?_)
  clear hK K
  refine wpAnyH_ready (rs := [6]) (by kernel_rfl) (by simp) ?_
  refine AllReadyH.cons rfl (fun K hK => ?_) AllReadyH.nil
  go_simp
  go_wp2_with (go_at_call 123; have hn := list_phase TA.out.rd TA.out.up v5 (by omega); rw [HU6.out] at hn; refine hn.mono ?_; rintro e wB ⟨rfl, hlB, hrB, hkB⟩)
  have TB := Hid.mk' (TA.out.call hkB hrB)
  have LB : Hid (LieN wB (g + 1) wA.heap.size v5 5 (fun i j => phV (v6.getD i p0) j)) := ⟨hlB, TA.out.box.lt⟩
  clear hrB hlB
  refine hK.out _ _ TB.out.bx (fun hHeld => ?_)
  clear hK K
  refine held_take (i := 7) (v := ?vh4x7) rfl rfl (by kernel_rfl) (by kernel_rfl) (by kernel_rfl) (fun _ _ _ h => h) (Or.inl ⟨by rfl, ?hyh4x7⟩) hHeld ?resth4x7
  case hyh4x7 => first | (intro w hSw; go_simp; done) | (intro w hSw; go_simp; with_reducible rfl)
  try simp only [List.setIfInBounds_toArray, List.set_cons_zero, List.set_cons_succ]
  have hq1 : Ltr (g + 1) x4 wB := (((Kept.drew x4 (some b)).ltr (by omega)).tr (hkA.ltr (by omega))).tr (hkB.ltr (by omega))
  generalize wA.heap.size = a4 at *
  clear hkA hkB TA
  have k := TB.out.box.cell (i := 4) (by omega)
  have z := TB.out.box.frozen 4
  refine wpAnyH_ready (rs := [8]) (by kernel_rfl) (by simp) ?_
  refine AllReadyH.cons rfl (fun K hK => ?_) AllReadyH.nil
  go_simp
  refine hK.out _ _ (TB.out.put 4 _ (by simp)).bx (fun hHeld => ?_)
  clear hK K
  refine wpAnyH_done (by kernel_rfl) ?_ _
  have T : Hid (Sit w (wB.setCell ⟨g, 4, none⟩ (.slice (some ⟨a4, 0, none⟩) v5 v5)) H b g #[.int .i64 v0, .slice (some ⟨a1, 0, none⟩) v1 v1, .slice (some ⟨a2, 0, none⟩) v1 v1, .slice (some ⟨a3, 0, none⟩) v1 v1, .slice (some ⟨a4, 0, none⟩) v5 v5, .slice none 0 0, .int .i64 0, .int .i64 0, .int .i64 0, .int .i64 0, .int .i64 0, .slice none 0 0] s6) := TB.out.put 4 _ (by simp)
  have hq := hq1.tr (Ltr.set wB (show g < g + 1 by omega) 4 (.slice (some ⟨a4, 0, none⟩) v5 v5))
  have hq2 := Ltr.set wB (show g < g + 1 by omega) 4 (.slice (some ⟨a4, 0, none⟩) v5 v5)
  clear k z TB hq1 hHeld
  have L1 := Hid.mk' (L1.out.ltr hq)
  have L2 := Hid.mk' (L2.out.ltr hq)
  have L3 := Hid.mk' (L3.out.ltr hq)
  have G := Hid.mk' (Ltr.cell hq G.out (by omega))
  have L4 := Hid.mk' (LB.out.ltr hq2)
  clear hq hq2 LB
  generalize wB.setCell ⟨g, 4, none⟩ (.slice (some ⟨a4, 0, none⟩) v5 v5) = x5 at *
  go_wp2_with fail
  -- eyes
  refine wp_region_held_drew (S := fun w' => w'.cell? ⟨w.heap.size, 0, none⟩ = some (.pointer (some ⟨b, 0, none⟩))) (by kernel_rfl) T.out.drew.bx (fun hHeld => ?_)
  refine held_take (i := 0) (v := ?vh5x0) rfl rfl (by kernel_rfl) (by kernel_rfl) (by kernel_rfl) (fun _ _ _ h => h) (Or.inl ⟨by rfl, ?hyh5x0⟩) hHeld ?resth5x0
  case hyh5x0 => first | (intro w hSw; go_simp; done) | (intro w hSw; go_simp; with_reducible rfl)
  try simp only [List.setIfInBounds_toArray, List.set_cons_zero, List.set_cons_succ]
  refine held_take (i := 1) (v := ?vh5x1) rfl rfl (by kernel_rfl) (by kernel_rfl) (by kernel_rfl) (fun _ _ _ h => h) (Or.inl ⟨by rfl, ?hyh5x1⟩) hHeld ?resth5x1
  case hyh5x1 => first | (intro w hSw; go_simp; done) | (intro w hSw; go_simp; with_reducible rfl)
  try simp only [List.setIfInBounds_toArray, List.set_cons_zero, List.set_cons_succ]
  refine held_take (i := 2) (v := ?vh5x2) rfl rfl (by kernel_rfl) (by kernel_rfl) (by kernel_rfl) (fun _ _ _ h => h) (Or.inl ⟨by rfl, ?hyh5x2⟩) hHeld ?resth5x2
  case hyh5x2 => first | (intro w hSw; go_simp; done) | (intro w hSw; go_simp; with_reducible rfl)
  try simp only [List.setIfInBounds_toArray, List.set_cons_zero, List.set_cons_succ]
  refine held_take (i := 4) (v := ?vh5x4) rfl rfl (by kernel_rfl) (by kernel_rfl) (by kernel_rfl) (fun _ _ _ h => h) (Or.inl ⟨by rfl, ?hyh5x4⟩) hHeld ?resth5x4
  case hyh5x4 => first | (intro w hSw; go_simp; done) | (intro w hSw; go_simp; with_reducible rfl)
  try simp only [List.setIfInBounds_toArray, List.set_cons_zero, List.set_cons_succ]
  refine held_take (i := 5) (v := ?vh5x5) rfl rfl (by kernel_rfl) (by kernel_rfl) (by kernel_rfl) (fun _ _ _ h => h) (Or.inl ⟨by rfl, ?hyh5x5⟩) hHeld ?resth5x5
  case hyh5x5 => first | (intro w hSw; go_simp; done) | (intro w hSw; go_simp; with_reducible rfl)
  try simp only [List.setIfInBounds_toArray, List.set_cons_zero, List.set_cons_succ]
  refine wpAnyH_ready (rs := [3]) (by kernel_rfl) (by simp) ?_
  refine AllReadyH.cons rfl (fun K hK => ?_) AllReadyH.nil
  go_simp
  go_wp2_with (go_at_call 49; have hn := many_any T.out.drew.rd 24 (by omega); rw [HU7.out] at hn; refine hn.mono ?_; rintro e wA ⟨rfl, hrA, hkA⟩)
  have TA := Hid.mk' (T.out.drew.call hkA hrA)
  clear hrA
  refine hK.out _ _ TA.out.bx (fun hHeld => ?_)
  clear hK K
  refine wpAnyH_ready (rs := [6]) (by kernel_rfl) (by simp) ?_
  refine AllReadyH.cons rfl (fun K hK => ?_) AllReadyH.nil
  go_simp
  go_wp2_with (go_at_call 125; have hn := list_eye TA.out.rd TA.out.up v7 (by omega); rw [HU8.out] at hn; refine hn.mono ?_; rintro e wB ⟨rfl, hlB, hrB, hkB⟩)
  have TB := Hid.mk' (TA.out.call hkB hrB)
  have LB : Hid (LieN wB (g + 1) wA.heap.size v7 4 (fun i j => eyV (v8.getD i e0) j)) := ⟨hlB, TA.out.box.lt⟩
  clear hrB hlB
  refine hK.out _ _ TB.out.bx (fun hHeld => ?_)
  clear hK K
  refine held_take (i := 7) (v := ?vh6x7) rfl rfl (by kernel_rfl) (by kernel_rfl) (by kernel_rfl) (fun _ _ _ h => h) (Or.inl ⟨by rfl, ?hyh6x7⟩) hHeld ?resth6x7
  case hyh6x7 => first | (intro w hSw; go_simp; done) | (intro w hSw; go_simp; with_reducible rfl)
  try simp only [List.setIfInBounds_toArray, List.set_cons_zero, List.set_cons_succ]
  have hq1 : Ltr (g + 1) x5 wB := (((Kept.drew x5 (some b)).ltr (by omega)).tr (hkA.ltr (by omega))).tr (hkB.ltr (by omega))
  generalize wA.heap.size = a5 at *
  clear hkA hkB TA
  have k := TB.out.box.cell (i := 5) (by omega)
  have z := TB.out.box.frozen 5
  refine wpAnyH_ready (rs := [8]) (by kernel_rfl) (by simp) ?_
  refine AllReadyH.cons rfl (fun K hK => ?_) AllReadyH.nil
  go_simp
  refine hK.out _ _ (TB.out.put 5 _ (by simp)).bx (fun hHeld => ?_)
  clear hK K
  refine wpAnyH_done (by kernel_rfl) ?_ _
  have T : Hid (Sit w (wB.setCell ⟨g, 5, none⟩ (.slice (some ⟨a5, 0, none⟩) v7 v7)) H b g #[.int .i64 v0, .slice (some ⟨a1, 0, none⟩) v1 v1, .slice (some ⟨a2, 0, none⟩) v1 v1, .slice (some ⟨a3, 0, none⟩) v1 v1, .slice (some ⟨a4, 0, none⟩) v5 v5, .slice (some ⟨a5, 0, none⟩) v7 v7, .int .i64 0, .int .i64 0, .int .i64 0, .int .i64 0, .int .i64 0, .slice none 0 0] s8) := TB.out.put 5 _ (by simp)
  have hq := hq1.tr (Ltr.set wB (show g < g + 1 by omega) 5 (.slice (some ⟨a5, 0, none⟩) v7 v7))
  have hq2 := Ltr.set wB (show g < g + 1 by omega) 5 (.slice (some ⟨a5, 0, none⟩) v7 v7)
  clear k z TB hq1 hHeld
  have L1 := Hid.mk' (L1.out.ltr hq)
  have L2 := Hid.mk' (L2.out.ltr hq)
  have L3 := Hid.mk' (L3.out.ltr hq)
  have L4 := Hid.mk' (L4.out.ltr hq)
  have G := Hid.mk' (Ltr.cell hq G.out (by omega))
  have L5 := Hid.mk' (LB.out.ltr hq2)
  clear hq hq2 LB
  generalize wB.setCell ⟨g, 5, none⟩ (.slice (some ⟨a5, 0, none⟩) v7 v7) = x6 at *
  go_wp2_with fail
  refine wp_region_held_drew (S := fun w' => w'.cell? ⟨w.heap.size, 0, none⟩ = some (.pointer (some ⟨b, 0, none⟩))) (by kernel_rfl) T.out.drew.bx (fun hHeld => ?_)
  refine held_take (i := 0) (v := ?vh7x0) rfl rfl (by kernel_rfl) (by kernel_rfl) (by kernel_rfl) (fun _ _ _ h => h) (Or.inl ⟨by rfl, ?hyh7x0⟩) hHeld ?resth7x0
  case hyh7x0 => first | (intro w hSw; go_simp; done) | (intro w hSw; go_simp; with_reducible rfl)
  try simp only [List.setIfInBounds_toArray, List.set_cons_zero, List.set_cons_succ]
  refine held_take (i := 1) (v := ?vh7x1) rfl rfl (by kernel_rfl) (by kernel_rfl) (by kernel_rfl) (fun _ _ _ h => h) (Or.inl ⟨by rfl, ?hyh7x1⟩) hHeld ?resth7x1
  case hyh7x1 => first | (intro w hSw; go_simp; done) | (intro w hSw; go_simp; with_reducible rfl)
  try simp only [List.setIfInBounds_toArray, List.set_cons_zero, List.set_cons_succ]
  refine held_take (i := 2) (v := ?vh7x2) rfl rfl (by kernel_rfl) (by kernel_rfl) (by kernel_rfl) (fun _ _ _ h => h) (Or.inl ⟨by rfl, ?hyh7x2⟩) hHeld ?resth7x2
  case hyh7x2 => first | (intro w hSw; go_simp; done) | (intro w hSw; go_simp; with_reducible rfl)
  try simp only [List.setIfInBounds_toArray, List.set_cons_zero, List.set_cons_succ]
  refine held_take (i := 4) (v := ?vh7x4) rfl rfl (by kernel_rfl) (by kernel_rfl) (by kernel_rfl) (fun _ _ _ h => h) (Or.inl ⟨by rfl, ?hyh7x4⟩) hHeld ?resth7x4
  case hyh7x4 => first | (intro w hSw; go_simp; done) | (intro w hSw; go_simp; with_reducible rfl)
  try simp only [List.setIfInBounds_toArray, List.set_cons_zero, List.set_cons_succ]
  refine held_take (i := 5) (v := ?vh7x5) rfl rfl (by kernel_rfl) (by kernel_rfl) (by kernel_rfl) (fun _ _ _ h => h) (Or.inl ⟨by rfl, ?hyh7x5⟩) hHeld ?resth7x5
  case hyh7x5 => first | (intro w hSw; go_simp; done) | (intro w hSw; go_simp; with_reducible rfl)
  try simp only [List.setIfInBounds_toArray, List.set_cons_zero, List.set_cons_succ]
  refine held_take (i := 6) (v := ?vh7x6) rfl rfl (by kernel_rfl) (by kernel_rfl) (by kernel_rfl) (fun _ _ _ h => h) (Or.inl ⟨by rfl, ?hyh7x6⟩) hHeld ?resth7x6
  case hyh7x6 => first | (intro w hSw; go_simp; done) | (intro w hSw; go_simp; with_reducible rfl)
  try simp only [List.setIfInBounds_toArray, List.set_cons_zero, List.set_cons_succ]
  refine held_take (i := 8) (v := ?vh7x8) rfl rfl (by kernel_rfl) (by kernel_rfl) (by kernel_rfl) (fun _ _ _ h => h) (Or.inl ⟨by rfl, ?hyh7x8⟩) hHeld ?resth7x8
  case hyh7x8 => first | (intro w hSw; go_simp; done) | (intro w hSw; go_simp; with_reducible rfl)
  try simp only [List.setIfInBounds_toArray, List.set_cons_zero, List.set_cons_succ]
  refine held_take (i := 9) (v := ?vh7x9) rfl rfl (by kernel_rfl) (by kernel_rfl) (by kernel_rfl) (fun _ _ _ h => h) (Or.inl ⟨by rfl, ?hyh7x9⟩) hHeld ?resth7x9
  case hyh7x9 => first | (intro w hSw; go_simp; done) | (intro w hSw; go_simp; with_reducible rfl)
  try simp only [List.setIfInBounds_toArray, List.set_cons_zero, List.set_cons_succ]
  refine held_take (i := 10) (v := ?vh7x10) rfl rfl (by kernel_rfl) (by kernel_rfl) (by kernel_rfl) (fun _ _ _ h => h) (Or.inl ⟨by rfl, ?hyh7x10⟩) hHeld ?resth7x10
  case hyh7x10 => first | (intro w hSw; go_simp; done) | (intro w hSw; go_simp; with_reducible rfl)
  try simp only [List.setIfInBounds_toArray, List.set_cons_zero, List.set_cons_succ]
  have TA := Hid.mk' T.out.drew
  have hq1 : Ltr (g + 1) x6 x6.drew := (Kept.drew _ (some b)).ltr (by omega)
  refine wpAnyH_ready (rs := [3]) (by kernel_rfl) (by simp) ?_
  refine AllReadyH.cons rfl (fun K hK => ?_) AllReadyH.nil
  go_simp
  go_wp2_with (go_at_call 53; have hn := number_any TA.out.rd; rw [HU9.out] at hn; refine hn.mono ?_; rintro e wA0 ⟨rfl, hrA, hkA⟩)
  have TA := Hid.mk' (TA.out.call hkA hrA)
  have hq1 := hq1.tr (hkA.ltr (show b < g + 1 by omega))
  clear hrA hkA
  refine hK.out _ _ TA.out.bx (fun hHeld => ?_)
  clear hK K
  refine held_take (i := 12) (v := ?vh8x12) rfl rfl (by kernel_rfl) (by kernel_rfl) (by kernel_rfl) (fun _ _ _ h => h) (Or.inl ⟨by rfl, ?hyh8x12⟩) hHeld ?resth8x12
  case hyh8x12 => first | (intro w hSw; go_simp; done) | (intro w hSw; go_simp; with_reducible rfl)
  try simp only [List.setIfInBounds_toArray, List.set_cons_zero, List.set_cons_succ]
  refine wpAnyH_ready (rs := [7]) (by kernel_rfl) (by simp) ?_
  refine AllReadyH.cons rfl (fun K hK => ?_) AllReadyH.nil
  go_simp
  go_wp2_with (go_at_call 53; have hn := number_any TA.out.rd; rw [HU10.out] at hn; refine hn.mono ?_; rintro e wA1 ⟨rfl, hrA, hkA⟩)
  have TA := Hid.mk' (TA.out.call hkA hrA)
  have hq1 := hq1.tr (hkA.ltr (show b < g + 1 by omega))
  clear hrA hkA
  refine hK.out _ _ TA.out.bx (fun hHeld => ?_)
  clear hK K
  refine wpAnyH_ready (rs := [11]) (by kernel_rfl) (by simp) ?_
  refine AllReadyH.cons rfl (fun K hK => ?_) AllReadyH.nil
  go_simp
  go_wp2_with (go_at_call 53; have hn := number_any TA.out.rd; rw [HU11.out] at hn; refine hn.mono ?_; rintro e wA2 ⟨rfl, hrA, hkA⟩)
  have TA := Hid.mk' (TA.out.call hkA hrA)
  have hq1 := hq1.tr (hkA.ltr (show b < g + 1 by omega))
  clear hrA hkA
  refine hK.out _ _ TA.out.bx (fun hHeld => ?_)
  clear hK K
  have k := TA.out.box.cell (i := 6) (by omega)
  have z := TA.out.box.frozen 6
  refine wpAnyH_ready (rs := [13]) (by kernel_rfl) (by simp) ?_
  refine AllReadyH.cons rfl (fun K hK => ?_) AllReadyH.nil
  go_simp
  refine hK.out _ _ (TA.out.put 6 _ (by simp)).bx (fun hHeld => ?_)
  clear hK K
  have TA : Hid (Sit w (wA2.setCell ⟨g, 6, none⟩ (.int .i64 v9)) H b g #[.int .i64 v0, .slice (some ⟨a1, 0, none⟩) v1 v1, .slice (some ⟨a2, 0, none⟩) v1 v1, .slice (some ⟨a3, 0, none⟩) v1 v1, .slice (some ⟨a4, 0, none⟩) v5 v5, .slice (some ⟨a5, 0, none⟩) v7 v7, .int .i64 v9, .int .i64 0, .int .i64 0, .int .i64 0, .int .i64 0, .slice none 0 0] s11) := TA.out.put 6 _ (by simp)
  have hq1 := hq1.tr (Ltr.set wA2 (show g < g + 1 by omega) 6 (.int .i64 v9))
  clear k z
  generalize (wA2.setCell ⟨g, 6, none⟩ (.int .i64 v9)) = y6c6 at *
  refine held_take (i := 14) (v := ?vh9x14) rfl rfl (by kernel_rfl) (by kernel_rfl) (by kernel_rfl) (fun _ _ _ h => h) (Or.inl ⟨by rfl, ?hyh9x14⟩) hHeld ?resth9x14
  case hyh9x14 => first | (intro w hSw; go_simp; done) | (intro w hSw; go_simp; with_reducible rfl)
  try simp only [List.setIfInBounds_toArray, List.set_cons_zero, List.set_cons_succ]
  have k := TA.out.box.cell (i := 7) (by omega)
  have z := TA.out.box.frozen 7
  refine wpAnyH_ready (rs := [15]) (by kernel_rfl) (by simp) ?_
  refine AllReadyH.cons rfl (fun K hK => ?_) AllReadyH.nil
  go_simp
  refine hK.out _ _ (TA.out.put 7 _ (by simp)).bx (fun hHeld => ?_)
  clear hK K
  have TA : Hid (Sit w (y6c6.setCell ⟨g, 7, none⟩ (.int .i64 v10)) H b g #[.int .i64 v0, .slice (some ⟨a1, 0, none⟩) v1 v1, .slice (some ⟨a2, 0, none⟩) v1 v1, .slice (some ⟨a3, 0, none⟩) v1 v1, .slice (some ⟨a4, 0, none⟩) v5 v5, .slice (some ⟨a5, 0, none⟩) v7 v7, .int .i64 v9, .int .i64 v10, .int .i64 0, .int .i64 0, .int .i64 0, .slice none 0 0] s11) := TA.out.put 7 _ (by simp)
  have hq1 := hq1.tr (Ltr.set y6c6 (show g < g + 1 by omega) 7 (.int .i64 v10))
  clear k z
  generalize (y6c6.setCell ⟨g, 7, none⟩ (.int .i64 v10)) = y6c7 at *
  refine held_take (i := 16) (v := ?vh10x16) rfl rfl (by kernel_rfl) (by kernel_rfl) (by kernel_rfl) (fun _ _ _ h => h) (Or.inl ⟨by rfl, ?hyh10x16⟩) hHeld ?resth10x16
  case hyh10x16 => first | (intro w hSw; go_simp; done) | (intro w hSw; go_simp; with_reducible rfl)
  try simp only [List.setIfInBounds_toArray, List.set_cons_zero, List.set_cons_succ]
  have k := TA.out.box.cell (i := 8) (by omega)
  have z := TA.out.box.frozen 8
  refine wpAnyH_ready (rs := [17]) (by kernel_rfl) (by simp) ?_
  refine AllReadyH.cons rfl (fun K hK => ?_) AllReadyH.nil
  go_simp
  refine hK.out _ _ (TA.out.put 8 _ (by simp)).bx (fun hHeld => ?_)
  clear hK K
  have TA : Hid (Sit w (y6c7.setCell ⟨g, 8, none⟩ (.int .i64 v11)) H b g #[.int .i64 v0, .slice (some ⟨a1, 0, none⟩) v1 v1, .slice (some ⟨a2, 0, none⟩) v1 v1, .slice (some ⟨a3, 0, none⟩) v1 v1, .slice (some ⟨a4, 0, none⟩) v5 v5, .slice (some ⟨a5, 0, none⟩) v7 v7, .int .i64 v9, .int .i64 v10, .int .i64 v11, .int .i64 0, .int .i64 0, .slice none 0 0] s11) := TA.out.put 8 _ (by simp)
  have hq1 := hq1.tr (Ltr.set y6c7 (show g < g + 1 by omega) 8 (.int .i64 v11))
  clear k z
  generalize (y6c7.setCell ⟨g, 8, none⟩ (.int .i64 v11)) = y6c8 at *
  refine wpAnyH_done (by kernel_rfl) ?_ _
  have T := TA
  clear TA hHeld
  have L1 := Hid.mk' (L1.out.ltr hq1)
  have L2 := Hid.mk' (L2.out.ltr hq1)
  have L3 := Hid.mk' (L3.out.ltr hq1)
  have L4 := Hid.mk' (L4.out.ltr hq1)
  have L5 := Hid.mk' (L5.out.ltr hq1)
  have G := Hid.mk' (Ltr.cell hq1 G.out (by omega))
  clear hq1
  generalize y6c8 = x7 at *
  go_wp2_with fail
  refine wp_region_held_drew (S := fun w' => w'.cell? ⟨w.heap.size, 0, none⟩ = some (.pointer (some ⟨b, 0, none⟩))) (by kernel_rfl) T.out.drew.bx (fun hHeld => ?_)
  refine held_take (i := 0) (v := ?vh11x0) rfl rfl (by kernel_rfl) (by kernel_rfl) (by kernel_rfl) (fun _ _ _ h => h) (Or.inl ⟨by rfl, ?hyh11x0⟩) hHeld ?resth11x0
  case hyh11x0 => first | (intro w hSw; go_simp; done) | (intro w hSw; go_simp; with_reducible rfl)
  try simp only [List.setIfInBounds_toArray, List.set_cons_zero, List.set_cons_succ]
  refine held_take (i := 1) (v := ?vh11x1) rfl rfl (by kernel_rfl) (by kernel_rfl) (by kernel_rfl) (fun _ _ _ h => h) (Or.inl ⟨by rfl, ?hyh11x1⟩) hHeld ?resth11x1
  case hyh11x1 => first | (intro w hSw; go_simp; done) | (intro w hSw; go_simp; with_reducible rfl)
  try simp only [List.setIfInBounds_toArray, List.set_cons_zero, List.set_cons_succ]
  refine held_take (i := 2) (v := ?vh11x2) rfl rfl (by kernel_rfl) (by kernel_rfl) (by kernel_rfl) (fun _ _ _ h => h) (Or.inl ⟨by rfl, ?hyh11x2⟩) hHeld ?resth11x2
  case hyh11x2 => first | (intro w hSw; go_simp; done) | (intro w hSw; go_simp; with_reducible rfl)
  try simp only [List.setIfInBounds_toArray, List.set_cons_zero, List.set_cons_succ]
  refine held_take (i := 4) (v := ?vh11x4) rfl rfl (by kernel_rfl) (by kernel_rfl) (by kernel_rfl) (fun _ _ _ h => h) (Or.inl ⟨by rfl, ?hyh11x4⟩) hHeld ?resth11x4
  case hyh11x4 => first | (intro w hSw; go_simp; done) | (intro w hSw; go_simp; with_reducible rfl)
  try simp only [List.setIfInBounds_toArray, List.set_cons_zero, List.set_cons_succ]
  refine held_take (i := 5) (v := ?vh11x5) rfl rfl (by kernel_rfl) (by kernel_rfl) (by kernel_rfl) (fun _ _ _ h => h) (Or.inl ⟨by rfl, ?hyh11x5⟩) hHeld ?resth11x5
  case hyh11x5 => first | (intro w hSw; go_simp; done) | (intro w hSw; go_simp; with_reducible rfl)
  try simp only [List.setIfInBounds_toArray, List.set_cons_zero, List.set_cons_succ]
  refine held_take (i := 6) (v := ?vh11x6) rfl rfl (by kernel_rfl) (by kernel_rfl) (by kernel_rfl) (fun _ _ _ h => h) (Or.inl ⟨by rfl, ?hyh11x6⟩) hHeld ?resth11x6
  case hyh11x6 => first | (intro w hSw; go_simp; done) | (intro w hSw; go_simp; with_reducible rfl)
  try simp only [List.setIfInBounds_toArray, List.set_cons_zero, List.set_cons_succ]
  have TA := Hid.mk' T.out.drew
  have hq1 : Ltr (g + 1) x7 x7.drew := (Kept.drew _ (some b)).ltr (by omega)
  refine wpAnyH_ready (rs := [3]) (by kernel_rfl) (by simp) ?_
  refine AllReadyH.cons rfl (fun K hK => ?_) AllReadyH.nil
  go_simp
  go_wp2_with (go_at_call 53; have hn := number_any TA.out.rd; rw [HU12.out] at hn; refine hn.mono ?_; rintro e wA0 ⟨rfl, hrA, hkA⟩)
  have TA := Hid.mk' (TA.out.call hkA hrA)
  have hq1 := hq1.tr (hkA.ltr (show b < g + 1 by omega))
  clear hrA hkA
  refine hK.out _ _ TA.out.bx (fun hHeld => ?_)
  clear hK K
  refine held_take (i := 8) (v := ?vh12x8) rfl rfl (by kernel_rfl) (by kernel_rfl) (by kernel_rfl) (fun _ _ _ h => h) (Or.inl ⟨by rfl, ?hyh12x8⟩) hHeld ?resth12x8
  case hyh12x8 => first | (intro w hSw; go_simp; done) | (intro w hSw; go_simp; with_reducible rfl)
  try simp only [List.setIfInBounds_toArray, List.set_cons_zero, List.set_cons_succ]
  refine wpAnyH_ready (rs := [7]) (by kernel_rfl) (by simp) ?_
  refine AllReadyH.cons rfl (fun K hK => ?_) AllReadyH.nil
  go_simp
  go_wp2_with (go_at_call 53; have hn := number_any TA.out.rd; rw [HU13.out] at hn; refine hn.mono ?_; rintro e wA1 ⟨rfl, hrA, hkA⟩)
  have TA := Hid.mk' (TA.out.call hkA hrA)
  have hq1 := hq1.tr (hkA.ltr (show b < g + 1 by omega))
  clear hrA hkA
  refine hK.out _ _ TA.out.bx (fun hHeld => ?_)
  clear hK K
  have k := TA.out.box.cell (i := 9) (by omega)
  have z := TA.out.box.frozen 9
  refine wpAnyH_ready (rs := [9]) (by kernel_rfl) (by simp) ?_
  refine AllReadyH.cons rfl (fun K hK => ?_) AllReadyH.nil
  go_simp
  refine hK.out _ _ (TA.out.put 9 _ (by simp)).bx (fun hHeld => ?_)
  clear hK K
  have TA : Hid (Sit w (wA1.setCell ⟨g, 9, none⟩ (.int .i64 v12)) H b g #[.int .i64 v0, .slice (some ⟨a1, 0, none⟩) v1 v1, .slice (some ⟨a2, 0, none⟩) v1 v1, .slice (some ⟨a3, 0, none⟩) v1 v1, .slice (some ⟨a4, 0, none⟩) v5 v5, .slice (some ⟨a5, 0, none⟩) v7 v7, .int .i64 v9, .int .i64 v10, .int .i64 v11, .int .i64 v12, .int .i64 0, .slice none 0 0] s13) := TA.out.put 9 _ (by simp)
  have hq1 := hq1.tr (Ltr.set wA1 (show g < g + 1 by omega) 9 (.int .i64 v12))
  clear k z
  generalize (wA1.setCell ⟨g, 9, none⟩ (.int .i64 v12)) = y7c9 at *
  refine held_take (i := 10) (v := ?vh13x10) rfl rfl (by kernel_rfl) (by kernel_rfl) (by kernel_rfl) (fun _ _ _ h => h) (Or.inl ⟨by rfl, ?hyh13x10⟩) hHeld ?resth13x10
  case hyh13x10 => first | (intro w hSw; go_simp; done) | (intro w hSw; go_simp; with_reducible rfl)
  try simp only [List.setIfInBounds_toArray, List.set_cons_zero, List.set_cons_succ]
  have k := TA.out.box.cell (i := 10) (by omega)
  have z := TA.out.box.frozen 10
  refine wpAnyH_ready (rs := [11]) (by kernel_rfl) (by simp) ?_
  refine AllReadyH.cons rfl (fun K hK => ?_) AllReadyH.nil
  go_simp
  refine hK.out _ _ (TA.out.put 10 _ (by simp)).bx (fun hHeld => ?_)
  clear hK K
  have TA : Hid (Sit w (y7c9.setCell ⟨g, 10, none⟩ (.int .i64 v13)) H b g #[.int .i64 v0, .slice (some ⟨a1, 0, none⟩) v1 v1, .slice (some ⟨a2, 0, none⟩) v1 v1, .slice (some ⟨a3, 0, none⟩) v1 v1, .slice (some ⟨a4, 0, none⟩) v5 v5, .slice (some ⟨a5, 0, none⟩) v7 v7, .int .i64 v9, .int .i64 v10, .int .i64 v11, .int .i64 v12, .int .i64 v13, .slice none 0 0] s13) := TA.out.put 10 _ (by simp)
  have hq1 := hq1.tr (Ltr.set y7c9 (show g < g + 1 by omega) 10 (.int .i64 v13))
  clear k z
  generalize (y7c9.setCell ⟨g, 10, none⟩ (.int .i64 v13)) = y7c10 at *
  refine wpAnyH_done (by kernel_rfl) ?_ _
  have T := TA
  clear TA hHeld
  have L1 := Hid.mk' (L1.out.ltr hq1)
  have L2 := Hid.mk' (L2.out.ltr hq1)
  have L3 := Hid.mk' (L3.out.ltr hq1)
  have L4 := Hid.mk' (L4.out.ltr hq1)
  have L5 := Hid.mk' (L5.out.ltr hq1)
  have G := Hid.mk' (Ltr.cell hq1 G.out (by omega))
  clear hq1
  generalize y7c10 = x8 at *
  have TX := Hid.mk' T.out
  clear T
  have bxx := TX.out.bx
  go_wp2_with (go_at_call 127; have hn := readPlans_any TX.out.rd TX.out.up; rw [HU14.out] at hn; refine hn.mono ?_; rintro e wB ⟨rfl, a11, c2, hlB, hrB, hkB⟩; have TB := Hid.mk' (TX.out.call hkB hrB); have LB := Hid.mk' (hlB.down (show g + 1 ≤ _ from TX.out.box.lt)); clear hrB hlB bxx; have bxx := TB.out.bx; have k0 := TB.out.box.cell (i := 0) (by omega); have r0 := TB.out.res.cell (i := 0) (by omega); have y0 := TB.out.res.frozen 0; have k1 := TB.out.box.cell (i := 1) (by omega); have r1 := TB.out.res.cell (i := 1) (by omega); have y1 := TB.out.res.frozen 1; have k2 := TB.out.box.cell (i := 2) (by omega); have r2 := TB.out.res.cell (i := 2) (by omega); have y2 := TB.out.res.frozen 2; have k3 := TB.out.box.cell (i := 3) (by omega); have r3 := TB.out.res.cell (i := 3) (by omega); have y3 := TB.out.res.frozen 3; have k4 := TB.out.box.cell (i := 4) (by omega); have r4 := TB.out.res.cell (i := 4) (by omega); have y4 := TB.out.res.frozen 4; have k5 := TB.out.box.cell (i := 5) (by omega); have r5 := TB.out.res.cell (i := 5) (by omega); have y5 := TB.out.res.frozen 5; have k6 := TB.out.box.cell (i := 6) (by omega); have r6 := TB.out.res.cell (i := 6) (by omega); have y6 := TB.out.res.frozen 6; have k7 := TB.out.box.cell (i := 7) (by omega); have r7 := TB.out.res.cell (i := 7) (by omega); have y7 := TB.out.res.frozen 7; have k8 := TB.out.box.cell (i := 8) (by omega); have r8 := TB.out.res.cell (i := 8) (by omega); have y8 := TB.out.res.frozen 8; have k9 := TB.out.box.cell (i := 9) (by omega); have r9 := TB.out.res.cell (i := 9) (by omega); have y9 := TB.out.res.frozen 9; have k10 := TB.out.box.cell (i := 10) (by omega); have r10 := TB.out.res.cell (i := 10) (by omega); have y10 := TB.out.res.frozen 10; have k11 := TB.out.box.cell (i := 11) (by omega); have r11 := TB.out.res.cell (i := 11) (by omega); have y11 := TB.out.res.frozen 11; have z := TB.out.box.frozen 11; simp only [fS, zS] at k0 r0 k1 r1 k2 r2 k3 r3 k4 r4 k5 r5 k6 r6 k7 r7 k8 r8 k9 r9 k10 r10 k11 r11)
  have F0 := Hid.mk' (TB.out.fin12 rfl (.slice (some ⟨a11, 0, none⟩) v14.length v14.length) (.int .i64 v0) (.slice (some ⟨a1, 0, none⟩) v1 v1) (.slice (some ⟨a2, 0, none⟩) v1 v1) (.slice (some ⟨a3, 0, none⟩) v1 v1) (.slice (some ⟨a4, 0, none⟩) v5 v5) (.slice (some ⟨a5, 0, none⟩) v7 v7) (.int .i64 v9) (.int .i64 v10) (.int .i64 v11) (.int .i64 v12) (.int .i64 v13) (.slice (some ⟨a11, 0, none⟩) v14.length v14.length))
  clear hn bxx z c2 k0 r0 y0 k1 r1 y1 k2 r2 y2 k3 r3 y3 k4 r4 y4 k5 r5 y5 k6 r6 y6 k7 r7 y7 k8 r8 y8 k9 r9 y9 k10 r10 y10 k11 r11 y11
  generalize (((((((((((((wB.setCell ⟨g, 11, none⟩ (.slice (some ⟨a11, 0, none⟩) v14.length v14.length)).setCell ⟨w.heap.size + 1, 0, none⟩ (.int .i64 v0)).setCell ⟨w.heap.size + 1, 1, none⟩ (.slice (some ⟨a1, 0, none⟩) v1 v1)).setCell ⟨w.heap.size + 1, 2, none⟩ (.slice (some ⟨a2, 0, none⟩) v1 v1)).setCell ⟨w.heap.size + 1, 3, none⟩ (.slice (some ⟨a3, 0, none⟩) v1 v1)).setCell ⟨w.heap.size + 1, 4, none⟩ (.slice (some ⟨a4, 0, none⟩) v5 v5)).setCell ⟨w.heap.size + 1, 5, none⟩ (.slice (some ⟨a5, 0, none⟩) v7 v7)).setCell ⟨w.heap.size + 1, 6, none⟩ (.int .i64 v9)).setCell ⟨w.heap.size + 1, 7, none⟩ (.int .i64 v10)).setCell ⟨w.heap.size + 1, 8, none⟩ (.int .i64 v11)).setCell ⟨w.heap.size + 1, 9, none⟩ (.int .i64 v12)).setCell ⟨w.heap.size + 1, 10, none⟩ (.int .i64 v13)).setCell ⟨w.heap.size + 1, 11, none⟩ (.slice (some ⟨a11, 0, none⟩) v14.length v14.length)) = W at *
  have hq1 : Ltr (g + 1) x8 W := (hkB.ltr (by omega)).tr F0.out.ltr
  have L1 := Hid.mk' (L1.out.ltr hq1)
  have L2 := Hid.mk' (L2.out.ltr hq1)
  have L3 := Hid.mk' (L3.out.ltr hq1)
  have L4 := Hid.mk' (L4.out.ltr hq1)
  have L5 := Hid.mk' (L5.out.ltr hq1)
  have G := Hid.mk' (Ltr.cell hq1 G.out (by omega))
  have L6 := Hid.mk' (LB.out.ltr F0.out.ltr)
  obtain ⟨q0, q1, q2, q3, q4, q5, q6, q7, q8, q9, q10, q11⟩ := F0.out.cells
  refine bodyPost_ret (v := .agg #[.int .i64 v0, .slice (some ⟨a1, 0, none⟩) v1 v1, .slice (some ⟨a2, 0, none⟩) v1 v1, .slice (some ⟨a3, 0, none⟩) v1 v1, .slice (some ⟨a4, 0, none⟩) v5 v5, .slice (some ⟨a5, 0, none⟩) v7 v7, .int .i64 v9, .int .i64 v10, .int .i64 v11, .int .i64 v12, .int .i64 v13, .slice (some ⟨a11, 0, none⟩) v14.length v14.length]) (by simp [results, Tryd.results108, go_sem, q0, q1, q2, q3, q4, q5, q6, q7, q8, q9, q10, q11]) rfl ?_
  clear q0 q1 q2 q3 q4 q5 q6 q7 q8 q9 q10 q11
  obtain ⟨l2, l3, l4, l6, l8⟩ := HLEN.out
  refine ⟨⟨some ⟨a1, 0, none⟩, v1, some ⟨a2, 0, none⟩, v1, some ⟨a3, 0, none⟩, v1, some ⟨a4, 0, none⟩, v5, some ⟨a5, 0, none⟩, v7, some ⟨a11, 0, none⟩, v14.length⟩, ?_, ?_, F0.out.rd, F0.out.kept⟩
  · simp only [siteV, l2, l3, l4, l6, l8]
  · intro w'' hqq
    have hqq := hqq.up (show w.heap.size + 1 ≤ g + 1 by have := F0.out.gt; omega)
    constructor
    · show Lie w'' (some ⟨a1, 0, none⟩) v2.length 3 (fun i j => grV (v2.getD i g0) j)
      rw [l2]; exact (L1.out.ltr hqq).lie
    · show Lie w'' (some ⟨a2, 0, none⟩) v3.length 1 (fun i _ => .int .u32 (v3.getD i 0 : Int))
      rw [l3]; exact (L2.out.ltr hqq).lie
    · show Grid w'' (some ⟨a3, 0, none⟩) v4.length v1 v4
      rw [l4]; exact (L3.out.ltr hqq).grid l4 (by omega) hr4.out
    · show Lie w'' (some ⟨a4, 0, none⟩) v6.length 5 (fun i j => phV (v6.getD i p0) j)
      rw [l6]; exact (L4.out.ltr hqq).lie
    · show Lie w'' (some ⟨a5, 0, none⟩) v8.length 4 (fun i j => eyV (v8.getD i e0) j)
      rw [l8]; exact (L5.out.ltr hqq).lie
    · exact (L6.out.ltr hqq).plans rfl (by have := hr14.out.1; omega) hr14.out.2
    · show Cap _ v2.length v1
      rw [l2]; exact cap_some (by omega)
    · show Cap _ v3.length v1
      rw [l3]; exact cap_some (by omega)
    · show Cap _ v6.length v5
      rw [l6]; exact cap_some (by omega)
    · show Cap _ v8.length v7
      rw [l8]; exact cap_some (by omega)
    · exact hr2.out
    · exact hr3.out
    · exact hr6.out
    · exact hr8.out
    · exact HNUM.out

end Go.Proofs.YtoahbpdgbiachaaDoor

/-
  THE CONTRACTS of bytes.Equal and Parts.
-/
namespace Go.Proofs.YtoahbpdgbiachaaDoor
open Go.RowKit Go.Lib Go.Deep
set_option linter.unusedVariables false
set_option linter.unusedSimpArgs false

theorem textOf_inj {L M : List Nat} (hL : ∀ x ∈ L, x < 256) (hM : ∀ x ∈ M, x < 256) (h : textOf L = textOf M) : L = M := by
  unfold textOf at h
  have h1 : L.map UInt8.ofNat = M.map UInt8.ofNat := by injection h with h; simpa using h
  have h2 : ∀ N : List Nat, (∀ x ∈ N, x < 256) → (N.map UInt8.ofNat).map UInt8.toNat = N := by
    intro N hN
    rw [List.map_map]
    conv => rhs; rw [← List.map_id N]
    apply List.map_congr_left
    intro x hx
    have := hN x hx
    simp; omega
  rw [← h2 L hL, ← h2 M hM, h1]
theorem textOf_eq {L M : List Nat} (hL : ∀ x ∈ L, x < 256) (hM : ∀ x ∈ M, x < 256) : ((textOf L).toList == (textOf M).toList) = decide (L = M) := by
  rw [ByteArray.toList_eq, ByteArray.toList_eq]
  by_cases e : L = M
  · subst e; simp
  · have : ¬ (textOf L).data.toList = (textOf M).data.toList := fun e2 => e (textOf_inj hL hM (by
      have : (textOf L).data = (textOf M).data := Array.toList_inj.1 e2
      show ByteArray.mk (textOf L).data = ByteArray.mk (textOf M).data
      rw [this]))
    rw [decide_eq_false e]
    exact beq_eq_false_iff_ne.2 this
theorem equal_any {w : World} {a a' : Option Addr} {n n' c c' : Nat} {L M : List Nat} (hL : By w a n L) (hM : By w a' n' M) : Calls Tryd.prog 46 #[.slice a n c, .slice a' n' c'] w fun e w' => e = .returned (.bool (decide (L = M))) ∧ w' = w := by
  have t1 := run_text hL c
  have t2 := run_text hM c'
  have HE := Hid.mk' (textOf_eq hL.lt hM.lt)
  generalize hd : decide (L = M) = d at *
  clear hd hL hM
  go_enter Tryd.func46, Tryd.ntmps46
  go_wp2
  go_ret
  exact ⟨by rw [← HE.out]; simp, rfl⟩
theorem readerOf_any {w : World} {a : Option Addr} {n c : Nat} : Calls Tryd.prog 28 #[.slice a n c] w fun e w' => e = .returned (.agg #[.slice a n c, .bool false]) ∧ Kept w w' none := by
  go_enter Tryd.func28, Tryd.ntmps28
  go_wp2
  refine bodyPost_ret (v := .agg #[.slice a n c, .bool false]) (by simp [results, Tryd.results28, go_sem]) rfl ⟨rfl, ?_⟩
  exact Kept.alloc _ _ _ (0, 0) _
/-- A reader that has just been made. -/
theorem rdr_new {w : World} {a : Option Addr} {n c : Nat} {L : List Nat} (h : Come w a n c L) (t : TypeId) (v : Value) : Rdr (w.alloc (.cells #[.slice a n c, .bool false, v] t)) (w.heap.size + 1) w.heap.size (L, false) := by
  refine ⟨⟨a, n, c, by go_simp, h.keptR (Kept.alloc _ _ _ (0, 0) none) (fun _ _ _ => by simp), fun hp x hx => ?_⟩, by go_simp, by go_simp, by go_simp, ⟨v, by go_simp⟩, by go_simp, by omega⟩
  obtain ⟨b, off, e, hb, _⟩ := h.by_.at_ hp
  rw [hx] at e
  injection e with e
  subst e
  dsimp only
  omega
theorem kept_own {w W w' : World} (h : Kept w W none) (k : Kept W w' (some w.heap.size)) : Kept w w' none :=
  ⟨k.os.trans h.os, k.tape.trans h.tape, k.output.trans h.output, Nat.le_trans h.size k.size, fun i hi _ => (k.block i (Nat.lt_of_lt_of_le hi h.size) (fun e => by have := Option.some.inj e; omega)).trans (h.block i hi (by simp))⟩
def partsB (L : List Nat) : Bool := doneB (plansM (L, false)).2 && allB (plansM (L, false)).1.length (fun k => mayB ((plansM (L, false)).1.getD k q0))
end Go.Proofs.YtoahbpdgbiachaaDoor

/-
  THE CONTRACT of Read.
-/
namespace Go.Proofs.YtoahbpdgbiachaaDoor
open Go.RowKit Go.Lib Go.Deep
set_option linter.unusedVariables false
set_option linter.unusedSimpArgs false

def X0 : Sa := ⟨none, 0, none, 0, none, 0, none, 0, none, 0, none, 0⟩
def S0 : St := ⟨0, [], [], [], [], [], 0, 0, 0, 0, 0, []⟩
/-- The site that the bytes ahead of the sum tell. -/
def readS (L : List Nat) : St := (siteM (L.take (L.length - 4), false)).1
def sumOk (L : List Nat) : Bool := decide (L.drop (L.length - 4) = sum4 (L.take (L.length - 4)))
def toldOk (L : List Nat) : Bool := doneB (siteM (L.take (L.length - 4), false)).2
def readB (L : List Nat) : Bool := decide (4 ≤ L.length) && (sumOk L && (toldOk L && siteB (readS L)))
theorem zrow (w : World) : (w.alloc (.cells zS 48)).rowIs w.heap.size 48 12 (fS zS) := World.rowIs_alloc w zS 48 (fS zS) (fun i hi => by unfold fS; rw [Array.getElem?_eq_getElem hi]; rfl)
theorem zcells {wx : World} {B : Nat} (h : wx.rowIs B 48 12 (fS zS)) : wx.cell? ⟨B, 0, none⟩ = some (.int .i64 0) ∧ wx.cell? ⟨B, 1, none⟩ = some (.slice none 0 0) ∧ wx.cell? ⟨B, 2, none⟩ = some (.slice none 0 0) ∧ wx.cell? ⟨B, 3, none⟩ = some (.slice none 0 0) ∧ wx.cell? ⟨B, 4, none⟩ = some (.slice none 0 0) ∧ wx.cell? ⟨B, 5, none⟩ = some (.slice none 0 0) ∧ wx.cell? ⟨B, 6, none⟩ = some (.int .i64 0) ∧ wx.cell? ⟨B, 7, none⟩ = some (.int .i64 0) ∧ wx.cell? ⟨B, 8, none⟩ = some (.int .i64 0) ∧ wx.cell? ⟨B, 9, none⟩ = some (.int .i64 0) ∧ wx.cell? ⟨B, 10, none⟩ = some (.int .i64 0) ∧ wx.cell? ⟨B, 11, none⟩ = some (.slice none 0 0) ∧ wx.frozen? ⟨B, 0, none⟩ = false ∧ wx.frozen? ⟨B, 1, none⟩ = false ∧ wx.frozen? ⟨B, 2, none⟩ = false ∧ wx.frozen? ⟨B, 3, none⟩ = false ∧ wx.frozen? ⟨B, 4, none⟩ = false ∧ wx.frozen? ⟨B, 5, none⟩ = false ∧ wx.frozen? ⟨B, 6, none⟩ = false ∧ wx.frozen? ⟨B, 7, none⟩ = false ∧ wx.frozen? ⟨B, 8, none⟩ = false ∧ wx.frozen? ⟨B, 9, none⟩ = false ∧ wx.frozen? ⟨B, 10, none⟩ = false ∧ wx.frozen? ⟨B, 11, none⟩ = false :=
  ⟨h.cell (i := 0) (by omega), h.cell (i := 1) (by omega), h.cell (i := 2) (by omega), h.cell (i := 3) (by omega), h.cell (i := 4) (by omega), h.cell (i := 5) (by omega), h.cell (i := 6) (by omega), h.cell (i := 7) (by omega), h.cell (i := 8) (by omega), h.cell (i := 9) (by omega), h.cell (i := 10) (by omega), h.cell (i := 11) (by omega), h.frozen 0, h.frozen 1, h.frozen 2, h.frozen 3, h.frozen 4, h.frozen 5, h.frozen 6, h.frozen 7, h.frozen 8, h.frozen 9, h.frozen 10, h.frozen 11⟩
theorem wrapI (m : Nat) (h : m ≤ 9223372036854775807) : IntKind.i64.wrap (m : Int) = m := by
  simp [IntKind.wrap, IntKind.bits, IntKind.signed]; omega
def ReadP (w : World) (L : List Nat) (e : Ending) (w' : World) : Prop := Kept w w' none ∧ ((readB L = true ∧ ∃ X, e = .returned (.tuple #[siteV X (readS L), .int .i64 0]) ∧ ∀ w'', Ltr (w.heap.size + 1) w' w'' → Sat w'' X (readS L)) ∨ (readB L = false ∧ e = .returned (.tuple #[siteV X0 S0, .int .i64 8])))
theorem ahead_short {w : World} {a : Option Addr} {n c : Nat} (h4 : n < 4) : Calls Tryd.prog 27 #[.slice a n c] w fun e w' => e = .returned (.tuple #[.slice none 0 0, .bool false]) ∧ w' = w := by
  go_enter Tryd.func27, Tryd.ntmps27
  go_wp2
  go_ret2
  exact ⟨rfl, rfl⟩
set_option maxRecDepth 100000 in
set_option maxHeartbeats 2000000 in
theorem ahead_long {w : World} {blk off m c : Nat} {L : List Nat} (h : Come w (some ⟨blk, off, none⟩) (m + 4) c L) (hTb : Table w) : Calls Tryd.prog 27 #[.slice (some ⟨blk, off, none⟩) (m + 4 : Nat) c] w fun e w' => e = .returned (.tuple #[.slice (some ⟨blk, off, none⟩) m c, .bool (decide (L.drop m = sum4 (L.take m)))]) ∧ Kept w w' none := by
  have hroom := h.room
  have hmax := h.max
  have bt := h.by_.take m (by omega)
  have bs := h.by_.drop m (by omega)
  rw [Nat.add_sub_cancel_left] at bs
  have HT := Hid.mk' bt
  have HS := Hid.mk' bs
  have HTB := Hid.mk' hTb
  clear h bt bs hTb
  generalize L.take m = T at *
  generalize L.drop m = D at *
  generalize hd1 : decide (D = sum4 T) = d1 at *
  have HD1 := Hid.mk' hd1
  clear hd1
  have hcne : ¬ c = m := by omega
  have hwr : IntKind.i64.wrap (m : Int) = m := wrapI m (by omega)
  have hle0 : (0 : Int) ≤ (m : Int) := by omega
  have hlec : (m : Int) ≤ (c : Int) := by omega
  have hlec4 : (m : Int) ≤ (m : Int) + 4 := by omega
  have hcne2 : ¬ m = c := by omega
  have hclt : m < c := by omega
  go_enter Tryd.func27, Tryd.ntmps27
  go_wp2
  refine wp_region_held_drew (S := fun _ => True) (by kernel_rfl) trivial (fun _ => ?_)
  refine held_take (i := 0) (v := ?vp1x0) rfl rfl (by kernel_rfl) (by kernel_rfl) (by kernel_rfl) (fun _ _ _ h => h) (Or.inl ⟨by rfl, ?hyp1x0⟩) trivial ?restp1x0
  case hyp1x0 => first | (intro w hSw; go_simp; done) | (intro w hSw; go_simp; with_reducible rfl)
  try simp only [List.setIfInBounds_toArray, List.set_cons_zero, List.set_cons_succ]
  refine held_take (i := 1) (v := ?vp1x1) rfl rfl (by kernel_rfl) (by kernel_rfl) (by kernel_rfl) (fun _ _ _ h => h) (Or.inl ⟨by rfl, ?hyp1x1⟩) trivial ?restp1x1
  case hyp1x1 => first | (intro w hSw; go_simp; done) | (intro w hSw; go_simp; with_reducible rfl)
  try simp only [List.setIfInBounds_toArray, List.set_cons_zero, List.set_cons_succ]
  refine held_take (i := 2) (v := ?vp1x2) rfl rfl (by kernel_rfl) (by kernel_rfl) (by kernel_rfl) (fun _ _ _ h => h) (Or.inl ⟨by rfl, ?hyp1x2⟩) trivial ?restp1x2
  case hyp1x2 => first | (intro w hSw; go_simp; done) | (intro w hSw; go_simp; with_reducible rfl)
  try simp only [List.setIfInBounds_toArray, List.set_cons_zero, List.set_cons_succ]
  refine held_take (i := 3) (v := ?vp1x3) rfl rfl (by kernel_rfl) (by kernel_rfl) (by kernel_rfl) (fun _ _ _ h => h) (Or.inl ⟨by rfl, ?hyp1x3⟩) trivial ?restp1x3
  case hyp1x3 => first | (intro w hSw; go_simp; done) | (intro w hSw; go_simp; with_reducible rfl)
  try simp only [List.setIfInBounds_toArray, List.set_cons_zero, List.set_cons_succ]
  refine held_take (i := 4) (v := ?vp1x4) rfl rfl (by kernel_rfl) (by kernel_rfl) (by kernel_rfl) (fun _ _ _ h => h) (Or.inl ⟨by rfl, ?hyp1x4⟩) trivial ?restp1x4
  case hyp1x4 => first | (intro w hSw; go_simp; done) | (intro w hSw; go_simp; with_reducible rfl)
  try simp only [List.setIfInBounds_toArray, List.set_cons_zero, List.set_cons_succ]
  refine held_take (i := 5) (v := ?vp1x5) rfl rfl (by kernel_rfl) (by kernel_rfl) (by kernel_rfl) (fun _ _ _ h => h) (Or.inl ⟨by rfl, ?hyp1x5⟩) trivial ?restp1x5
  case hyp1x5 => first | (intro w hSw; go_simp; done) | (intro w hSw; go_simp; with_reducible rfl)
  try simp only [List.setIfInBounds_toArray, List.set_cons_zero, List.set_cons_succ]
  refine held_take (i := 6) (v := ?vp1x6) rfl rfl (by kernel_rfl) (by kernel_rfl) (by kernel_rfl) (fun _ _ _ h => h) (Or.inl ⟨by rfl, ?hyp1x6⟩) trivial ?restp1x6
  case hyp1x6 => first | (intro w hSw; go_simp; done) | (intro w hSw; go_simp; with_reducible rfl)
  try simp only [List.setIfInBounds_toArray, List.set_cons_zero, List.set_cons_succ]
  refine held_take (i := 7) (v := ?vp1x7) rfl rfl (by kernel_rfl) (by kernel_rfl) (by kernel_rfl) (fun _ _ _ h => h) (Or.inl ⟨by rfl, ?hyp1x7⟩) trivial ?restp1x7
  case hyp1x7 => first | (intro w hSw; go_simp; done) | (intro w hSw; go_simp; with_reducible rfl)
  try simp only [List.setIfInBounds_toArray, List.set_cons_zero, List.set_cons_succ]
  refine held_take (i := 8) (v := ?vp1x8) rfl rfl (by kernel_rfl) (by kernel_rfl) (by kernel_rfl) (fun _ _ _ h => h) (Or.inl ⟨by rfl, ?hyp1x8⟩) trivial ?restp1x8
  case hyp1x8 => first | (intro w hSw; go_simp; done) | (intro w hSw; go_simp; with_reducible rfl)
  try simp only [List.setIfInBounds_toArray, List.set_cons_zero, List.set_cons_succ]
  refine held_take (i := 9) (v := ?vp1x9) rfl rfl (by kernel_rfl) (by kernel_rfl) (by kernel_rfl) (fun _ _ _ h => h) (Or.inl ⟨by rfl, ?hyp1x9⟩) trivial ?restp1x9
  case hyp1x9 => first | (intro w hSw; go_simp; done) | (intro w hSw; go_simp; with_reducible rfl)
  try simp only [List.setIfInBounds_toArray, List.set_cons_zero, List.set_cons_succ]
  refine wpAnyH_ready (rs := [10]) (by kernel_rfl) (by simp) ?_
  refine AllReadyH.cons rfl (fun K hK => ?_) AllReadyH.nil
  go_simp
  refine hK.out _ _ trivial (fun _ => ?_)
  clear hK K
  refine wpAnyH_ready (rs := [11]) (by kernel_rfl) (by simp) ?_
  refine AllReadyH.cons rfl (fun K hK => ?_) AllReadyH.nil
  go_simp
  refine hK.out _ _ trivial (fun _ => ?_)
  clear hK K
  refine wpAnyH_done (by kernel_rfl) ?_ _
  have KZ : Hid (Kept w w.drew none) := Kept.drew _ _
  clear hwr hle0 hlec hlec4 hcne hcne2 hclt
  go_wp2_with (first
      | (have hgo := B2; clear hgo; go_at_call 46; have hn := equal_any (c := c - m) (c' := 4) B1.out B2.out; rw [HD1.out] at hn; refine hn.mono ?_; rintro e w2 ⟨rfl, hw2⟩; have hw2 := hw2.symm; subst hw2)
      | (go_at_call 47; refine (sumOf_any (By.kept HT.out KZ.out) (Table.kept HTB.out KZ.out)).mono ?_; rintro e w1 ⟨g1, rfl, hb2, hk1⟩; have B2 := Hid.mk' hb2; have B1 := Hid.mk' (By.kept HS.out (KZ.out.tr hk1)); have KK := Hid.mk' (KZ.out.tr hk1); clear hb2 hk1))
  go_ret2
  exact ⟨rfl, KK.out⟩
set_option maxRecDepth 100000 in
set_option maxHeartbeats 2000000 in
theorem rd_short {w : World} {a : Option Addr} {n c : Nat} {L : List Nat} (h : Come w a n c L) (h4 : n < 4) : Calls Tryd.prog 83 #[.slice a n c] w (ReadP w L) := by
  have hB : readB L = false := by unfold readB; rw [decide_eq_false (by have := h.by_.size; omega)]; rfl
  have hrow := zrow w
  have HB := Hid.mk' hB
  have HROW := Hid.mk' hrow
  clear h hB hrow
  go_enter Tryd.func83, Tryd.ntmps83
  go_wp2_with (go_at_call 27; refine (ahead_short h4).mono ?_; rintro e w1 ⟨rfl, hw1⟩; subst hw1)
  refine bodyPost_ret (v := .tuple #[siteV X0 S0, .int .i64 8]) (by simp [results, Tryd.results83, go_sem, X0, S0]) rfl ?_
  exact ⟨Kept.alloc _ _ _ (0, 0) _, .inr ⟨HB.out, rfl⟩⟩
set_option maxRecDepth 100000 in
set_option maxHeartbeats 4000000 in
theorem rd_long {w : World} {a : Option Addr} {m c : Nat} {L : List Nat} (h : Come w a (m + 4) c L) (hT : Tabb w) (hTb : Table w) : Calls Tryd.prog 83 #[.slice a (m + 4 : Nat) c] w (ReadP w L) := by
  obtain ⟨blk, off, rfl, hblk, _⟩ := h.by_.at_ (by omega)
  have hL := h.by_.size
  have hE4 : L.length - 4 = m := by omega
  have hroom := h.room
  have hmax := h.max
  have bt := h.by_.take m (by omega)
  have hAH := fun (v : World) (hv : Kept w v none) => ahead_long (h.keptR hv (fun _ _ _ => by simp)) (hTb.kept hv)
  have HCT : Hid (Come w (some ⟨blk, off, none⟩) m c (L.take m)) := ⟨bt, fun e => (nomatch e), by omega, hmax⟩
  have hB : readB L = (decide (L.drop m = sum4 (L.take m)) && (doneB (siteM (L.take m, false)).2 && siteB (siteM (L.take m, false)).1)) := by
    unfold readB sumOk toldOk readS
    rw [hE4, decide_eq_true (show 4 ≤ L.length by omega)]
    rfl
  have hS : readS L = (siteM (L.take m, false)).1 := by unfold readS; rw [hE4]
  have hrow := zrow w
  have HROW := Hid.mk' hrow
  have HTA := Hid.mk' hT
  unfold ReadP
  rw [hB, hS]
  clear h hL hE4 bt hB hS hrow hTb hT
  generalize L.take m = T at *
  generalize L.drop m = D at *
  have hsite := fun (v : World) (hv : Come v (some ⟨blk, off, none⟩) m c T) => site_rd (rdr_new hv 152 (.slice none 0 0)) (by simp)
  generalize siteM (T, false) = u at *
  obtain ⟨S, s'⟩ := u
  dsimp only at *
  have HSITE := Hid.mk' hsite
  clear hsite
  generalize hd1 : decide (D = sum4 T) = d1 at *
  clear hd1
  have HAH := Hid.mk' hAH
  clear hAH
  generalize hd2 : doneB s' = d2 at *
  have HD2 := Hid.mk' hd2
  clear hd2
  have HCE : Hid (checkE S = if siteB S = true then 0 else 50) := rfl
  generalize hd3 : siteB S = d3 at *
  clear hd3
  have KZ : Hid (Kept w (w.alloc (.cells zS 48)) none) := Kept.alloc w _ _ (0, 0) _
  cases d1
  · go_enter Tryd.func83, Tryd.ntmps83
    go_wp2_with (first
      | (have hgo := SB; clear hgo; go_at_call 24; have hn := check_any SB.out.sat TA4.out; rw [HCE.out] at hn; refine hn.mono ?_; rintro e w5 ⟨rfl, hk5⟩; have SB5 := Hid.mk' (SB.out.kept hk5); have KK := Hid.mk' (KK.out.tr hk5); have R := Hid.mk' (row_kept R.out hk5 (by simp)); clear r0 r1 r2 r3 r4 r5 r6 r7 r8 r9 r10 r11 y0 y1 y2 y3 y4 y5 y6 y7 y8 y9 y10 y11; obtain ⟨r0, r1, r2, r3, r4, r5, r6, r7, r8, r9, r10, r11, y0, y1, y2, y3, y4, y5, y6, y7, y8, y9, y10, y11⟩ := zcells R.out; have HS5 := Hid.mk' (fun w'' (q : Ltr (w.heap.size + 1) w5 w'') => HS4.out w'' ((Ltr.of_none hk5).tr q)); have b0 := SB5.out.c0; have b1 := SB5.out.c1; have b2 := SB5.out.c2; have b3 := SB5.out.c3; have b4 := SB5.out.c4; have b5 := SB5.out.c5; have b6 := SB5.out.c6; have b7 := SB5.out.c7; have b8 := SB5.out.c8; have b9 := SB5.out.c9; have b10 := SB5.out.c10; have b11 := SB5.out.c11)
      | (have hgo := R3; clear hgo; go_at_call 33; have hn := done_any (R3.out.alloc #[.int .i64 S.id, .slice X.g S.groups.length X.gc, .slice X.a S.apart.length X.ac, .slice X.b S.between.length X.bc, .slice X.p S.phases.length X.pc, .slice X.e S.eyes.length X.ec, .int .i64 S.watch, .int .i64 S.feed, .int .i64 S.heal, .int .i64 S.low, .int .i64 S.high, .slice X.l S.plans.length X.lc] 48); rw [HD2.out] at hn; refine hn.mono ?_; rintro e w4 ⟨rfl, rfl⟩; have KK := Hid.mk' (KK.out.tr (Kept.alloc _ #[.int .i64 S.id, .slice X.g S.groups.length X.gc, .slice X.a S.apart.length X.ac, .slice X.b S.between.length X.bc, .slice X.p S.phases.length X.pc, .slice X.e S.eyes.length X.ec, .int .i64 S.watch, .int .i64 S.feed, .int .i64 S.heal, .int .i64 S.low, .int .i64 S.high, .slice X.l S.plans.length X.lc] 48 (0, 0) none)); have R := Hid.mk' (World.rowIs.alloc R.out (.cells #[.int .i64 S.id, .slice X.g S.groups.length X.gc, .slice X.a S.apart.length X.ac, .slice X.b S.between.length X.bc, .slice X.p S.phases.length X.pc, .slice X.e S.eyes.length X.ec, .int .i64 S.watch, .int .i64 S.feed, .int .i64 S.heal, .int .i64 S.low, .int .i64 S.high, .slice X.l S.plans.length X.lc] 48)); obtain ⟨r0, r1, r2, r3, r4, r5, r6, r7, r8, r9, r10, r11, y0, y1, y2, y3, y4, y5, y6, y7, y8, y9, y10, y11⟩ := zcells R.out; have SB := Hid.mk' (sbox_alloc (HS3.out _ Ltr.rfl') 48); have TA4 := Hid.mk' (HTA.out.kept KK.out); have HS4 := Hid.mk' (fun w'' (q : Ltr (w.heap.size + 1) (w3.alloc (.cells #[.int .i64 S.id, .slice X.g S.groups.length X.gc, .slice X.a S.apart.length X.ac, .slice X.b S.between.length X.bc, .slice X.p S.phases.length X.pc, .slice X.e S.eyes.length X.ec, .int .i64 S.watch, .int .i64 S.feed, .int .i64 S.heal, .int .i64 S.low, .int .i64 S.high, .slice X.l S.plans.length X.lc] 48)) w'') => HS3.out w'' ((Ltr.of_none (Kept.alloc _ _ _ (0, 0) _)).tr q)))
      | (have hgo := SM; clear hgo; go_at_call 108; refine (HSITE.out w2 SM.out).mono ?_; rintro e w3 ⟨X, rfl, hs3, hr3, hk3⟩; have KK := Hid.mk' (KK.out.tr (kept_own (Kept.alloc w2 #[.slice (some ⟨blk, off, none⟩) m c, .bool false, .slice none 0 0] 152 (0, 0) none) hk3)); have R := Hid.mk' (row_kept (World.rowIs.alloc R.out (.cells #[.slice (some ⟨blk, off, none⟩) m c, .bool false, .slice none 0 0] 152)) hk3 (fun e => by have := Option.some.inj e; have := NE.out; omega)); have R3 := Hid.mk' hr3; have HS3 := Hid.mk' (fun w'' (q : Ltr (w.heap.size + 1) w3 w'') => hs3 w'' (q.up (by have := NE.out; simp; omega))); clear hr3 hs3 hk3)
      | (have hgo := R; clear hgo; go_at_call 28; refine readerOf_any.mono ?_; rintro e w2 ⟨rfl, hk2⟩; have KK := Hid.mk' (KK.out.tr hk2); have R := Hid.mk' (row_kept R.out hk2 (by simp)); have NE := Hid.mk' R.out.lt; have SM := Hid.mk' (HCT.out.keptR KK.out (fun _ _ _ => by simp)); clear r0 r1 r2 r3 r4 r5 r6 r7 r8 r9 r10 r11 y0 y1 y2 y3 y4 y5 y6 y7 y8 y9 y10 y11)
      | (go_at_call 27; refine (HAH.out _ KZ.out).mono ?_; rintro e w1 ⟨rfl, hk1⟩; have KK := Hid.mk' (KZ.out.tr hk1); have R := Hid.mk' (row_kept HROW.out hk1 (by simp)); obtain ⟨r0, r1, r2, r3, r4, r5, r6, r7, r8, r9, r10, r11, y0, y1, y2, y3, y4, y5, y6, y7, y8, y9, y10, y11⟩ := zcells R.out))
    obtain ⟨hkW, hlW, q0, q1, q2, q3, q4, q5, q6, q7, q8, q9, q10, q11⟩ := row12 (lo := w.heap.size + 1) R.out KK.out (Nat.le_refl _) (Nat.lt_succ_self _) (.int .i64 0) (.slice none 0 0) (.slice none 0 0) (.slice none 0 0) (.slice none 0 0) (.slice none 0 0) (.int .i64 0) (.int .i64 0) (.int .i64 0) (.int .i64 0) (.int .i64 0) (.slice none 0 0)
    clear r0 r1 r2 r3 r4 r5 r6 r7 r8 r9 r10 r11 y0 y1 y2 y3 y4 y5 y6 y7 y8 y9 y10 y11
    generalize ((((((((((((w1.setCell ⟨w.heap.size, 0, none⟩ (.int .i64 0)).setCell ⟨w.heap.size, 1, none⟩ (.slice none 0 0)).setCell ⟨w.heap.size, 2, none⟩ (.slice none 0 0)).setCell ⟨w.heap.size, 3, none⟩ (.slice none 0 0)).setCell ⟨w.heap.size, 4, none⟩ (.slice none 0 0)).setCell ⟨w.heap.size, 5, none⟩ (.slice none 0 0)).setCell ⟨w.heap.size, 6, none⟩ (.int .i64 0)).setCell ⟨w.heap.size, 7, none⟩ (.int .i64 0)).setCell ⟨w.heap.size, 8, none⟩ (.int .i64 0)).setCell ⟨w.heap.size, 9, none⟩ (.int .i64 0)).setCell ⟨w.heap.size, 10, none⟩ (.int .i64 0)).setCell ⟨w.heap.size, 11, none⟩ (.slice none 0 0)) = W at *
    refine bodyPost_ret (v := .tuple #[siteV X0 S0, .int .i64 8]) (by simp [results, Tryd.results83, go_sem, X0, S0, q0, q1, q2, q3, q4, q5, q6, q7, q8, q9, q10, q11]) rfl ?_
    exact ⟨hkW, .inr ⟨by simp, rfl⟩⟩
  cases d2
  · go_enter Tryd.func83, Tryd.ntmps83
    go_wp2_with (first
      | (have hgo := SB; clear hgo; go_at_call 24; have hn := check_any SB.out.sat TA4.out; rw [HCE.out] at hn; refine hn.mono ?_; rintro e w5 ⟨rfl, hk5⟩; have SB5 := Hid.mk' (SB.out.kept hk5); have KK := Hid.mk' (KK.out.tr hk5); have R := Hid.mk' (row_kept R.out hk5 (by simp)); clear r0 r1 r2 r3 r4 r5 r6 r7 r8 r9 r10 r11 y0 y1 y2 y3 y4 y5 y6 y7 y8 y9 y10 y11; obtain ⟨r0, r1, r2, r3, r4, r5, r6, r7, r8, r9, r10, r11, y0, y1, y2, y3, y4, y5, y6, y7, y8, y9, y10, y11⟩ := zcells R.out; have HS5 := Hid.mk' (fun w'' (q : Ltr (w.heap.size + 1) w5 w'') => HS4.out w'' ((Ltr.of_none hk5).tr q)); have b0 := SB5.out.c0; have b1 := SB5.out.c1; have b2 := SB5.out.c2; have b3 := SB5.out.c3; have b4 := SB5.out.c4; have b5 := SB5.out.c5; have b6 := SB5.out.c6; have b7 := SB5.out.c7; have b8 := SB5.out.c8; have b9 := SB5.out.c9; have b10 := SB5.out.c10; have b11 := SB5.out.c11)
      | (have hgo := R3; clear hgo; go_at_call 33; have hn := done_any (R3.out.alloc #[.int .i64 S.id, .slice X.g S.groups.length X.gc, .slice X.a S.apart.length X.ac, .slice X.b S.between.length X.bc, .slice X.p S.phases.length X.pc, .slice X.e S.eyes.length X.ec, .int .i64 S.watch, .int .i64 S.feed, .int .i64 S.heal, .int .i64 S.low, .int .i64 S.high, .slice X.l S.plans.length X.lc] 48); rw [HD2.out] at hn; refine hn.mono ?_; rintro e w4 ⟨rfl, rfl⟩; have KK := Hid.mk' (KK.out.tr (Kept.alloc _ #[.int .i64 S.id, .slice X.g S.groups.length X.gc, .slice X.a S.apart.length X.ac, .slice X.b S.between.length X.bc, .slice X.p S.phases.length X.pc, .slice X.e S.eyes.length X.ec, .int .i64 S.watch, .int .i64 S.feed, .int .i64 S.heal, .int .i64 S.low, .int .i64 S.high, .slice X.l S.plans.length X.lc] 48 (0, 0) none)); have R := Hid.mk' (World.rowIs.alloc R.out (.cells #[.int .i64 S.id, .slice X.g S.groups.length X.gc, .slice X.a S.apart.length X.ac, .slice X.b S.between.length X.bc, .slice X.p S.phases.length X.pc, .slice X.e S.eyes.length X.ec, .int .i64 S.watch, .int .i64 S.feed, .int .i64 S.heal, .int .i64 S.low, .int .i64 S.high, .slice X.l S.plans.length X.lc] 48)); obtain ⟨r0, r1, r2, r3, r4, r5, r6, r7, r8, r9, r10, r11, y0, y1, y2, y3, y4, y5, y6, y7, y8, y9, y10, y11⟩ := zcells R.out; have SB := Hid.mk' (sbox_alloc (HS3.out _ Ltr.rfl') 48); have TA4 := Hid.mk' (HTA.out.kept KK.out); have HS4 := Hid.mk' (fun w'' (q : Ltr (w.heap.size + 1) (w3.alloc (.cells #[.int .i64 S.id, .slice X.g S.groups.length X.gc, .slice X.a S.apart.length X.ac, .slice X.b S.between.length X.bc, .slice X.p S.phases.length X.pc, .slice X.e S.eyes.length X.ec, .int .i64 S.watch, .int .i64 S.feed, .int .i64 S.heal, .int .i64 S.low, .int .i64 S.high, .slice X.l S.plans.length X.lc] 48)) w'') => HS3.out w'' ((Ltr.of_none (Kept.alloc _ _ _ (0, 0) _)).tr q)))
      | (have hgo := SM; clear hgo; go_at_call 108; refine (HSITE.out w2 SM.out).mono ?_; rintro e w3 ⟨X, rfl, hs3, hr3, hk3⟩; have KK := Hid.mk' (KK.out.tr (kept_own (Kept.alloc w2 #[.slice (some ⟨blk, off, none⟩) m c, .bool false, .slice none 0 0] 152 (0, 0) none) hk3)); have R := Hid.mk' (row_kept (World.rowIs.alloc R.out (.cells #[.slice (some ⟨blk, off, none⟩) m c, .bool false, .slice none 0 0] 152)) hk3 (fun e => by have := Option.some.inj e; have := NE.out; omega)); have R3 := Hid.mk' hr3; have HS3 := Hid.mk' (fun w'' (q : Ltr (w.heap.size + 1) w3 w'') => hs3 w'' (q.up (by have := NE.out; simp; omega))); clear hr3 hs3 hk3)
      | (have hgo := R; clear hgo; go_at_call 28; refine readerOf_any.mono ?_; rintro e w2 ⟨rfl, hk2⟩; have KK := Hid.mk' (KK.out.tr hk2); have R := Hid.mk' (row_kept R.out hk2 (by simp)); have NE := Hid.mk' R.out.lt; have SM := Hid.mk' (HCT.out.keptR KK.out (fun _ _ _ => by simp)); clear r0 r1 r2 r3 r4 r5 r6 r7 r8 r9 r10 r11 y0 y1 y2 y3 y4 y5 y6 y7 y8 y9 y10 y11)
      | (go_at_call 27; refine (HAH.out _ KZ.out).mono ?_; rintro e w1 ⟨rfl, hk1⟩; have KK := Hid.mk' (KZ.out.tr hk1); have R := Hid.mk' (row_kept HROW.out hk1 (by simp)); obtain ⟨r0, r1, r2, r3, r4, r5, r6, r7, r8, r9, r10, r11, y0, y1, y2, y3, y4, y5, y6, y7, y8, y9, y10, y11⟩ := zcells R.out))
    obtain ⟨hkW, hlW, q0, q1, q2, q3, q4, q5, q6, q7, q8, q9, q10, q11⟩ := row12 (lo := w.heap.size + 1) R.out KK.out (Nat.le_refl _) (Nat.lt_succ_self _) (.int .i64 0) (.slice none 0 0) (.slice none 0 0) (.slice none 0 0) (.slice none 0 0) (.slice none 0 0) (.int .i64 0) (.int .i64 0) (.int .i64 0) (.int .i64 0) (.int .i64 0) (.slice none 0 0)
    clear r0 r1 r2 r3 r4 r5 r6 r7 r8 r9 r10 r11 y0 y1 y2 y3 y4 y5 y6 y7 y8 y9 y10 y11
    generalize (((((((((((((w3.alloc (.cells #[.int .i64 S.id, .slice X.g S.groups.length X.gc, .slice X.a S.apart.length X.ac, .slice X.b S.between.length X.bc, .slice X.p S.phases.length X.pc, .slice X.e S.eyes.length X.ec, .int .i64 S.watch, .int .i64 S.feed, .int .i64 S.heal, .int .i64 S.low, .int .i64 S.high, .slice X.l S.plans.length X.lc] 48)).setCell ⟨w.heap.size, 0, none⟩ (.int .i64 0)).setCell ⟨w.heap.size, 1, none⟩ (.slice none 0 0)).setCell ⟨w.heap.size, 2, none⟩ (.slice none 0 0)).setCell ⟨w.heap.size, 3, none⟩ (.slice none 0 0)).setCell ⟨w.heap.size, 4, none⟩ (.slice none 0 0)).setCell ⟨w.heap.size, 5, none⟩ (.slice none 0 0)).setCell ⟨w.heap.size, 6, none⟩ (.int .i64 0)).setCell ⟨w.heap.size, 7, none⟩ (.int .i64 0)).setCell ⟨w.heap.size, 8, none⟩ (.int .i64 0)).setCell ⟨w.heap.size, 9, none⟩ (.int .i64 0)).setCell ⟨w.heap.size, 10, none⟩ (.int .i64 0)).setCell ⟨w.heap.size, 11, none⟩ (.slice none 0 0)) = W at *
    refine bodyPost_ret (v := .tuple #[siteV X0 S0, .int .i64 8]) (by simp [results, Tryd.results83, go_sem, X0, S0, q0, q1, q2, q3, q4, q5, q6, q7, q8, q9, q10, q11]) rfl ?_
    exact ⟨hkW, .inr ⟨by simp, rfl⟩⟩
  cases d3
  · go_enter Tryd.func83, Tryd.ntmps83
    go_wp2_with (first
      | (have hgo := SB; clear hgo; go_at_call 24; have hn := check_any SB.out.sat TA4.out; rw [HCE.out] at hn; refine hn.mono ?_; rintro e w5 ⟨rfl, hk5⟩; have SB5 := Hid.mk' (SB.out.kept hk5); have KK := Hid.mk' (KK.out.tr hk5); have R := Hid.mk' (row_kept R.out hk5 (by simp)); clear r0 r1 r2 r3 r4 r5 r6 r7 r8 r9 r10 r11 y0 y1 y2 y3 y4 y5 y6 y7 y8 y9 y10 y11; obtain ⟨r0, r1, r2, r3, r4, r5, r6, r7, r8, r9, r10, r11, y0, y1, y2, y3, y4, y5, y6, y7, y8, y9, y10, y11⟩ := zcells R.out; have HS5 := Hid.mk' (fun w'' (q : Ltr (w.heap.size + 1) w5 w'') => HS4.out w'' ((Ltr.of_none hk5).tr q)); have b0 := SB5.out.c0; have b1 := SB5.out.c1; have b2 := SB5.out.c2; have b3 := SB5.out.c3; have b4 := SB5.out.c4; have b5 := SB5.out.c5; have b6 := SB5.out.c6; have b7 := SB5.out.c7; have b8 := SB5.out.c8; have b9 := SB5.out.c9; have b10 := SB5.out.c10; have b11 := SB5.out.c11)
      | (have hgo := R3; clear hgo; go_at_call 33; have hn := done_any (R3.out.alloc #[.int .i64 S.id, .slice X.g S.groups.length X.gc, .slice X.a S.apart.length X.ac, .slice X.b S.between.length X.bc, .slice X.p S.phases.length X.pc, .slice X.e S.eyes.length X.ec, .int .i64 S.watch, .int .i64 S.feed, .int .i64 S.heal, .int .i64 S.low, .int .i64 S.high, .slice X.l S.plans.length X.lc] 48); rw [HD2.out] at hn; refine hn.mono ?_; rintro e w4 ⟨rfl, rfl⟩; have KK := Hid.mk' (KK.out.tr (Kept.alloc _ #[.int .i64 S.id, .slice X.g S.groups.length X.gc, .slice X.a S.apart.length X.ac, .slice X.b S.between.length X.bc, .slice X.p S.phases.length X.pc, .slice X.e S.eyes.length X.ec, .int .i64 S.watch, .int .i64 S.feed, .int .i64 S.heal, .int .i64 S.low, .int .i64 S.high, .slice X.l S.plans.length X.lc] 48 (0, 0) none)); have R := Hid.mk' (World.rowIs.alloc R.out (.cells #[.int .i64 S.id, .slice X.g S.groups.length X.gc, .slice X.a S.apart.length X.ac, .slice X.b S.between.length X.bc, .slice X.p S.phases.length X.pc, .slice X.e S.eyes.length X.ec, .int .i64 S.watch, .int .i64 S.feed, .int .i64 S.heal, .int .i64 S.low, .int .i64 S.high, .slice X.l S.plans.length X.lc] 48)); obtain ⟨r0, r1, r2, r3, r4, r5, r6, r7, r8, r9, r10, r11, y0, y1, y2, y3, y4, y5, y6, y7, y8, y9, y10, y11⟩ := zcells R.out; have SB := Hid.mk' (sbox_alloc (HS3.out _ Ltr.rfl') 48); have TA4 := Hid.mk' (HTA.out.kept KK.out); have HS4 := Hid.mk' (fun w'' (q : Ltr (w.heap.size + 1) (w3.alloc (.cells #[.int .i64 S.id, .slice X.g S.groups.length X.gc, .slice X.a S.apart.length X.ac, .slice X.b S.between.length X.bc, .slice X.p S.phases.length X.pc, .slice X.e S.eyes.length X.ec, .int .i64 S.watch, .int .i64 S.feed, .int .i64 S.heal, .int .i64 S.low, .int .i64 S.high, .slice X.l S.plans.length X.lc] 48)) w'') => HS3.out w'' ((Ltr.of_none (Kept.alloc _ _ _ (0, 0) _)).tr q)))
      | (have hgo := SM; clear hgo; go_at_call 108; refine (HSITE.out w2 SM.out).mono ?_; rintro e w3 ⟨X, rfl, hs3, hr3, hk3⟩; have KK := Hid.mk' (KK.out.tr (kept_own (Kept.alloc w2 #[.slice (some ⟨blk, off, none⟩) m c, .bool false, .slice none 0 0] 152 (0, 0) none) hk3)); have R := Hid.mk' (row_kept (World.rowIs.alloc R.out (.cells #[.slice (some ⟨blk, off, none⟩) m c, .bool false, .slice none 0 0] 152)) hk3 (fun e => by have := Option.some.inj e; have := NE.out; omega)); have R3 := Hid.mk' hr3; have HS3 := Hid.mk' (fun w'' (q : Ltr (w.heap.size + 1) w3 w'') => hs3 w'' (q.up (by have := NE.out; simp; omega))); clear hr3 hs3 hk3)
      | (have hgo := R; clear hgo; go_at_call 28; refine readerOf_any.mono ?_; rintro e w2 ⟨rfl, hk2⟩; have KK := Hid.mk' (KK.out.tr hk2); have R := Hid.mk' (row_kept R.out hk2 (by simp)); have NE := Hid.mk' R.out.lt; have SM := Hid.mk' (HCT.out.keptR KK.out (fun _ _ _ => by simp)); clear r0 r1 r2 r3 r4 r5 r6 r7 r8 r9 r10 r11 y0 y1 y2 y3 y4 y5 y6 y7 y8 y9 y10 y11)
      | (go_at_call 27; refine (HAH.out _ KZ.out).mono ?_; rintro e w1 ⟨rfl, hk1⟩; have KK := Hid.mk' (KZ.out.tr hk1); have R := Hid.mk' (row_kept HROW.out hk1 (by simp)); obtain ⟨r0, r1, r2, r3, r4, r5, r6, r7, r8, r9, r10, r11, y0, y1, y2, y3, y4, y5, y6, y7, y8, y9, y10, y11⟩ := zcells R.out))
    obtain ⟨hkW, hlW, q0, q1, q2, q3, q4, q5, q6, q7, q8, q9, q10, q11⟩ := row12 (lo := w.heap.size + 1) R.out KK.out (Nat.le_refl _) (Nat.lt_succ_self _) (.int .i64 0) (.slice none 0 0) (.slice none 0 0) (.slice none 0 0) (.slice none 0 0) (.slice none 0 0) (.int .i64 0) (.int .i64 0) (.int .i64 0) (.int .i64 0) (.int .i64 0) (.slice none 0 0)
    clear r0 r1 r2 r3 r4 r5 r6 r7 r8 r9 r10 r11 y0 y1 y2 y3 y4 y5 y6 y7 y8 y9 y10 y11
    generalize ((((((((((((w5.setCell ⟨w.heap.size, 0, none⟩ (.int .i64 0)).setCell ⟨w.heap.size, 1, none⟩ (.slice none 0 0)).setCell ⟨w.heap.size, 2, none⟩ (.slice none 0 0)).setCell ⟨w.heap.size, 3, none⟩ (.slice none 0 0)).setCell ⟨w.heap.size, 4, none⟩ (.slice none 0 0)).setCell ⟨w.heap.size, 5, none⟩ (.slice none 0 0)).setCell ⟨w.heap.size, 6, none⟩ (.int .i64 0)).setCell ⟨w.heap.size, 7, none⟩ (.int .i64 0)).setCell ⟨w.heap.size, 8, none⟩ (.int .i64 0)).setCell ⟨w.heap.size, 9, none⟩ (.int .i64 0)).setCell ⟨w.heap.size, 10, none⟩ (.int .i64 0)).setCell ⟨w.heap.size, 11, none⟩ (.slice none 0 0)) = W at *
    refine bodyPost_ret (v := .tuple #[siteV X0 S0, .int .i64 8]) (by simp [results, Tryd.results83, go_sem, X0, S0, q0, q1, q2, q3, q4, q5, q6, q7, q8, q9, q10, q11]) rfl ?_
    exact ⟨hkW, .inr ⟨by simp, rfl⟩⟩
  · go_enter Tryd.func83, Tryd.ntmps83
    go_wp2_with (first
      | (have hgo := SB; clear hgo; go_at_call 24; have hn := check_any SB.out.sat TA4.out; rw [HCE.out] at hn; refine hn.mono ?_; rintro e w5 ⟨rfl, hk5⟩; have SB5 := Hid.mk' (SB.out.kept hk5); have KK := Hid.mk' (KK.out.tr hk5); have R := Hid.mk' (row_kept R.out hk5 (by simp)); clear r0 r1 r2 r3 r4 r5 r6 r7 r8 r9 r10 r11 y0 y1 y2 y3 y4 y5 y6 y7 y8 y9 y10 y11; obtain ⟨r0, r1, r2, r3, r4, r5, r6, r7, r8, r9, r10, r11, y0, y1, y2, y3, y4, y5, y6, y7, y8, y9, y10, y11⟩ := zcells R.out; have HS5 := Hid.mk' (fun w'' (q : Ltr (w.heap.size + 1) w5 w'') => HS4.out w'' ((Ltr.of_none hk5).tr q)); have b0 := SB5.out.c0; have b1 := SB5.out.c1; have b2 := SB5.out.c2; have b3 := SB5.out.c3; have b4 := SB5.out.c4; have b5 := SB5.out.c5; have b6 := SB5.out.c6; have b7 := SB5.out.c7; have b8 := SB5.out.c8; have b9 := SB5.out.c9; have b10 := SB5.out.c10; have b11 := SB5.out.c11)
      | (have hgo := R3; clear hgo; go_at_call 33; have hn := done_any (R3.out.alloc #[.int .i64 S.id, .slice X.g S.groups.length X.gc, .slice X.a S.apart.length X.ac, .slice X.b S.between.length X.bc, .slice X.p S.phases.length X.pc, .slice X.e S.eyes.length X.ec, .int .i64 S.watch, .int .i64 S.feed, .int .i64 S.heal, .int .i64 S.low, .int .i64 S.high, .slice X.l S.plans.length X.lc] 48); rw [HD2.out] at hn; refine hn.mono ?_; rintro e w4 ⟨rfl, rfl⟩; have KK := Hid.mk' (KK.out.tr (Kept.alloc _ #[.int .i64 S.id, .slice X.g S.groups.length X.gc, .slice X.a S.apart.length X.ac, .slice X.b S.between.length X.bc, .slice X.p S.phases.length X.pc, .slice X.e S.eyes.length X.ec, .int .i64 S.watch, .int .i64 S.feed, .int .i64 S.heal, .int .i64 S.low, .int .i64 S.high, .slice X.l S.plans.length X.lc] 48 (0, 0) none)); have R := Hid.mk' (World.rowIs.alloc R.out (.cells #[.int .i64 S.id, .slice X.g S.groups.length X.gc, .slice X.a S.apart.length X.ac, .slice X.b S.between.length X.bc, .slice X.p S.phases.length X.pc, .slice X.e S.eyes.length X.ec, .int .i64 S.watch, .int .i64 S.feed, .int .i64 S.heal, .int .i64 S.low, .int .i64 S.high, .slice X.l S.plans.length X.lc] 48)); obtain ⟨r0, r1, r2, r3, r4, r5, r6, r7, r8, r9, r10, r11, y0, y1, y2, y3, y4, y5, y6, y7, y8, y9, y10, y11⟩ := zcells R.out; have SB := Hid.mk' (sbox_alloc (HS3.out _ Ltr.rfl') 48); have TA4 := Hid.mk' (HTA.out.kept KK.out); have HS4 := Hid.mk' (fun w'' (q : Ltr (w.heap.size + 1) (w3.alloc (.cells #[.int .i64 S.id, .slice X.g S.groups.length X.gc, .slice X.a S.apart.length X.ac, .slice X.b S.between.length X.bc, .slice X.p S.phases.length X.pc, .slice X.e S.eyes.length X.ec, .int .i64 S.watch, .int .i64 S.feed, .int .i64 S.heal, .int .i64 S.low, .int .i64 S.high, .slice X.l S.plans.length X.lc] 48)) w'') => HS3.out w'' ((Ltr.of_none (Kept.alloc _ _ _ (0, 0) _)).tr q)))
      | (have hgo := SM; clear hgo; go_at_call 108; refine (HSITE.out w2 SM.out).mono ?_; rintro e w3 ⟨X, rfl, hs3, hr3, hk3⟩; have KK := Hid.mk' (KK.out.tr (kept_own (Kept.alloc w2 #[.slice (some ⟨blk, off, none⟩) m c, .bool false, .slice none 0 0] 152 (0, 0) none) hk3)); have R := Hid.mk' (row_kept (World.rowIs.alloc R.out (.cells #[.slice (some ⟨blk, off, none⟩) m c, .bool false, .slice none 0 0] 152)) hk3 (fun e => by have := Option.some.inj e; have := NE.out; omega)); have R3 := Hid.mk' hr3; have HS3 := Hid.mk' (fun w'' (q : Ltr (w.heap.size + 1) w3 w'') => hs3 w'' (q.up (by have := NE.out; simp; omega))); clear hr3 hs3 hk3)
      | (have hgo := R; clear hgo; go_at_call 28; refine readerOf_any.mono ?_; rintro e w2 ⟨rfl, hk2⟩; have KK := Hid.mk' (KK.out.tr hk2); have R := Hid.mk' (row_kept R.out hk2 (by simp)); have NE := Hid.mk' R.out.lt; have SM := Hid.mk' (HCT.out.keptR KK.out (fun _ _ _ => by simp)); clear r0 r1 r2 r3 r4 r5 r6 r7 r8 r9 r10 r11 y0 y1 y2 y3 y4 y5 y6 y7 y8 y9 y10 y11)
      | (go_at_call 27; refine (HAH.out _ KZ.out).mono ?_; rintro e w1 ⟨rfl, hk1⟩; have KK := Hid.mk' (KZ.out.tr hk1); have R := Hid.mk' (row_kept HROW.out hk1 (by simp)); obtain ⟨r0, r1, r2, r3, r4, r5, r6, r7, r8, r9, r10, r11, y0, y1, y2, y3, y4, y5, y6, y7, y8, y9, y10, y11⟩ := zcells R.out))
    obtain ⟨hkW, hlW, q0, q1, q2, q3, q4, q5, q6, q7, q8, q9, q10, q11⟩ := row12 (lo := w.heap.size + 1) R.out KK.out (Nat.le_refl _) (Nat.lt_succ_self _) (.int .i64 S.id) (.slice X.g S.groups.length X.gc) (.slice X.a S.apart.length X.ac) (.slice X.b S.between.length X.bc) (.slice X.p S.phases.length X.pc) (.slice X.e S.eyes.length X.ec) (.int .i64 S.watch) (.int .i64 S.feed) (.int .i64 S.heal) (.int .i64 S.low) (.int .i64 S.high) (.slice X.l S.plans.length X.lc)
    clear r0 r1 r2 r3 r4 r5 r6 r7 r8 r9 r10 r11 y0 y1 y2 y3 y4 y5 y6 y7 y8 y9 y10 y11
    generalize ((((((((((((w5.setCell ⟨w.heap.size, 0, none⟩ (.int .i64 S.id)).setCell ⟨w.heap.size, 1, none⟩ (.slice X.g S.groups.length X.gc)).setCell ⟨w.heap.size, 2, none⟩ (.slice X.a S.apart.length X.ac)).setCell ⟨w.heap.size, 3, none⟩ (.slice X.b S.between.length X.bc)).setCell ⟨w.heap.size, 4, none⟩ (.slice X.p S.phases.length X.pc)).setCell ⟨w.heap.size, 5, none⟩ (.slice X.e S.eyes.length X.ec)).setCell ⟨w.heap.size, 6, none⟩ (.int .i64 S.watch)).setCell ⟨w.heap.size, 7, none⟩ (.int .i64 S.feed)).setCell ⟨w.heap.size, 8, none⟩ (.int .i64 S.heal)).setCell ⟨w.heap.size, 9, none⟩ (.int .i64 S.low)).setCell ⟨w.heap.size, 10, none⟩ (.int .i64 S.high)).setCell ⟨w.heap.size, 11, none⟩ (.slice X.l S.plans.length X.lc)) = W at *
    refine bodyPost_ret (v := .tuple #[siteV X S, .int .i64 0]) (by simp [results, Tryd.results83, go_sem, X0, S0, q0, q1, q2, q3, q4, q5, q6, q7, q8, q9, q10, q11]) rfl ?_
    exact ⟨hkW, .inl ⟨rfl, X, rfl, fun w'' q => HS5.out w'' (hlW.tr q)⟩⟩
theorem read_site {w : World} {a : Option Addr} {n c : Nat} {L : List Nat} (h : Come w a n c L) (hT : Tabb w) (hTb : Table w) : Calls Tryd.prog 83 #[.slice a n c] w (ReadP w L) := by
  by_cases h4 : n < 4
  · exact rd_short h h4
  · obtain ⟨m, rfl⟩ : ∃ m, n = m + 4 := ⟨n - 4, by omega⟩
    exact rd_long h hT hTb

end Go.Proofs.YtoahbpdgbiachaaDoor

/-
  MARKS: a map of triples of numbers, as the list of what was put into it; isFirst's contract.
-/
namespace Go.Proofs.YtoahbpdgbiachaaDoor
open Go.RowKit Go.Lib Go.Deep Go.Maps Go.WideMaps
set_option linter.unusedVariables false
set_option linter.unusedSimpArgs false

theorem Tryd.laidOut : laidOutB Tryd.prog = true := by kernel_rfl
theorem Tryd.rowMk : (70 : TypeId) < Tryd.prog.types.size := of_decide_eq_true (by kernel_rfl)
theorem Tryd.uMk : Tryd.prog.underlying 70 = some (.array 3 3) := by kernel_rfl
theorem Tryd.uMi : Tryd.prog.underlying 3 = some (.int .i64) := by kernel_rfl
theorem Tryd.uMks : Tryd.prog.underlying 80 = some (.map 70 3) := by kernel_rfl
theorem Tryd.wideMk : (match Tryd.prog.underlying 70 with | some (.array _ _) | some (.struct _) => true | _ => false) = true := by kernel_rfl
set_option maxRecDepth 100000 in
theorem Tryd.lawMk : Keyed Tryd.prog 70 := Keyed.of_law (deep_law_laid Tryd.laidOut (m := 2) (by omega) Tryd.rowMk (by kernel_rfl) Tryd.wideMk)
theorem Tryd.zeroMi (w : World) : (zeroValue 3).run Tryd.prog w = .ok (.int .i64 0) w := by kernel_rfl
theorem Tryd.keyMk : Tryd.prog.keyType 70 = true := by kernel_rfl
theorem Tryd.cellsMk : Tryd.prog.cellsOf 70 = 3 := by kernel_rfl
theorem Tryd.cellsMi : Tryd.prog.cellsOf 3 = 1 := by kernel_rfl

/-- A mark: which sort, and two numbers. -/
abbrev Mk := Int × Int × Int
def mkV (k : Mk) : Value := .agg #[.int .i64 k.1, .int .i64 k.2.1, .int .i64 k.2.2]
def mkL (k : Mk) : Lit := .string (keyBytes [.int .i64 k.1, .int .i64 k.2.1, .int .i64 k.2.2])
def mkR (k : Mk) : Prop := i64B k.1 ∧ i64B k.2.1 ∧ i64B k.2.2
theorem wf_of {x : Int} (h : i64B x) : (Lit.int .i64 x).wf = true := by
  unfold i64B at h
  exact WalkArith.wf_i64 (by omega)
theorem mk_key {k : Mk} (h : mkR k) : keyOf Tryd.prog 70 (mkV k) = some (mkL k) := by
  obtain ⟨a, b, c⟩ := k
  have h1 := wf_of h.1
  have h2 := wf_of h.2.1
  have h3 := wf_of h.2.2
  unfold keyOf
  rw [Tryd.uMk]
  have hf : (mkV (a, b, c)).formed Tryd.prog 70 = true := by simp [mkV, Value.formed, Tryd.uMk, Tryd.cellsMk]
  simp only [Tryd.keyMk, hf, Bool.and_self, if_true]
  have hpos : 0 < Tryd.prog.types.size := Nat.lt_of_le_of_lt (Nat.zero_le _) Tryd.rowMk
  generalize Tryd.prog.types.size = N at hpos ⊢
  obtain ⟨N, rfl⟩ : ∃ n, N = n + 1 := ⟨N - 1, by omega⟩
  have hk : Tryd.prog.keyLits (N + 1 + 1) 70 (mkV (a, b, c)).cells.toList = some [.int .i64 a, .int .i64 b, .int .i64 c] := by
    have h4 : ∀ x : Int, (Lit.int .i64 x).wf = true → Tryd.prog.keyLits (N + 1) 3 [.int .i64 x] = some [.int .i64 x] := fun x hx => by
      unfold Program.keyLits
      rw [Tryd.uMi]
      simp [hx]
    unfold Program.keyLits
    rw [Tryd.uMk]
    simp only [Tryd.cellsMk, Tryd.cellsMi]
    have e : (mkV (a, b, c)).cells.toList = [.int .i64 a, .int .i64 b, .int .i64 c] := rfl
    rw [e]
    simp [List.range, List.range.loop, List.mapM_cons, h4 a h1, h4 b h2, h4 c h3]
  rw [hk]
  rfl
theorem mkV_inj {k m : Mk} (h : mkV k = mkV m) : k = m := by
  obtain ⟨a, b, c⟩ := k
  obtain ⟨x, y, z⟩ := m
  simp only [mkV, Value.agg.injEq, Array.mk.injEq, List.cons.injEq, Value.int.injEq, true_and, and_true] at h
  obtain ⟨rfl, rfl, rfl⟩ := h
  rfl
theorem mkL_inj {k m : Mk} (hk : mkR k) (hm : mkR m) (h : mkL k = mkL m) : k = m := mkV_inj (Tryd.lawMk.inj (mk_key hk) ((mk_key hm).trans (by rw [h])))
/-- What a map of marks reads as. -/
def mkD : List (Mk × Int) → DataW Unit
  | [] => .map []
  | x :: M => (mkD M).put (mkL x.1) (.lit (.int .i64 x.2))
def mkF (M : List (Mk × Int)) (k : Mk) : Option Int := (M.find? (fun x => x.1 == k)).map (·.2)
theorem mkF_nil (k : Mk) : mkF [] k = none := rfl
theorem mkF_same (k : Mk) (v : Int) (M : List (Mk × Int)) : mkF ((k, v) :: M) k = some v := by simp [mkF]
theorem mkF_other {k m : Mk} (v : Int) (M : List (Mk × Int)) (h : m ≠ k) : mkF ((k, v) :: M) m = mkF M m := by
  have : ((k == m) : Bool) = false := beq_eq_false_iff_ne.2 (fun e => h e.symm)
  simp [mkF, List.find?_cons, this]
theorem mkD_map : ∀ M, IsMap (mkD M)
  | [] => isMap_empty
  | x :: M => (mkD_map M).put _ _
def mkAll (M : List (Mk × Int)) : Prop := ∀ x ∈ M, mkR x.1 ∧ i64B x.2
theorem mkD_has : ∀ (M : List (Mk × Int)), mkAll M → ∀ k, mkR k → Maps.has (mkD M) (mkL k) = (mkF M k).isSome
  | [], _, k, _ => rfl
  | x :: M, hM, k, hk => by
    obtain ⟨m, v⟩ := x
    have hm := (hM (m, v) (List.mem_cons_self ..)).1
    have ih := mkD_has M (fun y hy => hM y (List.mem_cons_of_mem _ hy)) k hk
    by_cases e : k = m
    · subst e
      rw [mkF_same]
      exact has_put_same (mkD_map M) (Tryd.lawMk.key (mk_key hk)) _
    · rw [mkF_other v M e, ← ih]
      exact has_put_other (fun h => e (mkL_inj hk hm h)) _
theorem mkD_at : ∀ (M : List (Mk × Int)), mkAll M → ∀ k, mkR k → ∀ v, mkF M k = some v → ∀ z, (mkD M).atKey (mkL k) z = .lit (.int .i64 v)
  | [], _, k, _, v, h, _ => by cases h
  | x :: M, hM, k, hk, v, h, z => by
    obtain ⟨m, u⟩ := x
    have hm := (hM (m, u) (List.mem_cons_self ..)).1
    by_cases e : k = m
    · subst e
      rw [mkF_same] at h
      injection h with h
      subst h
      exact atKey_put_same (mkD_map M) (Tryd.lawMk.key (mk_key hk)) _ _
    · rw [mkF_other u M e] at h
      rw [← mkD_at M (fun y hy => hM y (List.mem_cons_of_mem _ hy)) k hk v h z]
      exact atKey_put_other (fun h => e (mkL_inj hk hm h)) _ _
/-- A map of marks in block B. -/
structure Marks (w : World) (B : Nat) (M : List (Mk × Int)) : Prop where
  own : w.ownsMap Tryd.prog 70 (plainElem Tryd.prog 3) B M.length (mkD M)
  all : mkAll M
theorem kept_any {w w' : World} {r : Option Nat} (h : Kept w w' none) : Kept w w' r := ⟨h.os, h.tape, h.output, h.size, fun k hk _ => h.block k hk (by simp)⟩
theorem Marks.kept {w w' : World} {B : Nat} {M : List (Mk × Int)} {r : Option Nat} (h : Marks w B M) (q : Kept w w' r) (hr : some B ≠ r) : Marks w' B M := ⟨h.own.kept q hr, h.all⟩
theorem Marks.lt {w : World} {B : Nat} {M : List (Mk × Int)} (h : Marks w B M) : B < w.heap.size := h.own.lt
theorem Marks.made (w : World) : Marks (w.alloc (.map #[] 0)) w.heap.size [] := ⟨World.ownsMap_made _ _ _ _, fun x hx => nomatch hx⟩
set_option maxRecDepth 100000 in
set_option maxHeartbeats 1000000 in
theorem isFirst_old {w : World} {B : Nat} {M : List (Mk × Int)} (h : Marks w B M) {a b c : Int} (hk : mkR (a, b, c)) (place v : Int) (hf : mkF M (a, b, c) = some v) : Calls Tryd.prog 87 #[.map (some B), .agg #[.int .i64 a, .int .i64 b, .int .i64 c], .int .i64 place] w fun e w' => e = .returned (.bool false) ∧ Kept w w' none := by
  have hh : Maps.has (mkD M) (mkL (a, b, c)) = true := by rw [mkD_has M h.all _ hk, hf]; rfl
  have hk1 : Kept w (w.alloc (.cells #[.int .i64 a, .int .i64 b, .int .i64 c] 70)) none := Kept.alloc _ _ _ _ _
  have HM := Hid.mk' (h.kept hk1 (by simp))
  have HK := Hid.mk' hk1
  have HKY := Hid.mk' (mk_key hk)
  clear h hk1
  go_enter Tryd.func87, Tryd.ntmps87
  go_wp2_with (at_lookup; refine wpList_lookup_own_ok_int _ rfl _ _ 80 rfl 70 3 .i64 Tryd.lawMk Tryd.uMks Tryd.uMi (Tryd.zeroMi _) B _ _ rfl HM.out.own _ _ rfl HKY.out ?_; intro x hat hwc; rw [hh])
  go_ret
  exact ⟨rfl, HK.out⟩
set_option maxRecDepth 100000 in
set_option maxHeartbeats 1000000 in
theorem isFirst_new {w : World} {B : Nat} {M : List (Mk × Int)} (h : Marks w B M) {a b c : Int} (hk : mkR (a, b, c)) (place : Int) (hp : i64B place) (hn : M.length ≤ 1000) (hf : mkF M (a, b, c) = none) : Calls Tryd.prog 87 #[.map (some B), .agg #[.int .i64 a, .int .i64 b, .int .i64 c], .int .i64 place] w fun e w' => e = .returned (.bool true) ∧ Marks w' B (((a, b, c), place) :: M) ∧ Kept w w' (some B) := by
  have hh : Maps.has (mkD M) (mkL (a, b, c)) = false := by rw [mkD_has M h.all _ hk, hf]; rfl
  have hk1 : Kept w (w.alloc (.cells #[.int .i64 a, .int .i64 b, .int .i64 c] 70)) none := Kept.alloc _ _ _ _ _
  have HM := Hid.mk' (h.kept hk1 (by simp))
  have HK := Hid.mk' hk1
  have HKY := Hid.mk' (mk_key hk)
  have HA : Hid (mkAll (((a, b, c), place) :: M)) := fun x hx => by
    rcases List.mem_cons.1 hx with rfl | hx
    · exact ⟨hk, hp⟩
    · exact h.all x hx
  have HV : Hid (plainElem (H := Unit) Tryd.prog 3 (.int .i64 place) = some (.lit (.int .i64 place), [])) := plainElem_int Tryd.uMi (wf_of hp)
  clear h hk1
  go_enter Tryd.func87, Tryd.ntmps87
  go_wp2_with (first
    | (at_lookup; refine wpList_lookup_own_ok_int _ rfl _ _ 80 rfl 70 3 .i64 Tryd.lawMk Tryd.uMks Tryd.uMi (Tryd.zeroMi _) B _ _ rfl HM.out.own _ _ rfl HKY.out ?_; intro x hat hwc; rw [hh])
    | (at_mapUpdate; refine wpList_mapUpdate_in _ rfl _ _ _ 80 rfl 70 3 Tryd.lawMk Tryd.uMks _ B _ _ rfl HM.out.own (by unfold maxLen; omega) _ _ _ rfl rfl HKY.out _ [] HV.out ?_; intro w1 hown1 hturn1))
  go_ret
  exact ⟨rfl, ⟨hown1, HA.out⟩, (kept_any HK.out).tr hturn1.grown⟩

end Go.Proofs.YtoahbpdgbiachaaDoor

