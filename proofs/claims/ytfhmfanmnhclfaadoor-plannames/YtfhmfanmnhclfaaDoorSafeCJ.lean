/-
  Texts joined: some of those that the proofs of this seat stand on.
-/
import Derived.Test.YtfhmfanmnhclfaaDoorSafeB
/-
  THE CONTRACT of faultOf (made by a program: a way each).
-/
namespace Go.Proofs.YtfhmfanmnhclfaaDoor
open Go.RowKit Go.Lib Go.Deep
set_option linter.unusedVariables false
set_option linter.unusedSimpArgs false

set_option maxRecDepth 100000 in
set_option maxHeartbeats 1000000 in
theorem fault_flash {w : World} {B : Nat} {X : Sa} {S : St} {a : Option Addr} {c : Nat} {G : List Sn} {st : Int} {fl : Bool} {al : Option Addr} {cl : Nat} {L : List Nat} (h : Sbox w B X S) (hSh : Shape S) (hF : SafeAt w a c ⟨G, st, fl⟩) (hf : G.length = S.groups.length) (hB : By w al S.groups.length L) (h4 : allIs L 4 = true) : Calls Tryd.prog 50 #[.pointer (some ⟨B, 0, none⟩), safeV a c ⟨G, st, fl⟩, .slice al S.groups.length cl] w fun e w' => e = .returned (.int .u8 (0)) ∧ Kept w w' none := by
  have hng := hSh.ok.ng
  have hkA : Kept w (w.alloc (.cells #[.slice a G.length c, .int .i64 st, .bool fl] 61)) none := Kept.alloc _ _ _ _ _
  have bx := box_alloc w (.slice a G.length c) (.int .i64 st) (.bool fl) 61
  have HKA := Hid.mk' hkA
  have HBX := Hid.mk' bx
  have HSB := Hid.mk' (h.kept hkA)
  have HF := Hid.mk' (hF.kept hkA)
  have HB := Hid.mk' (hB.kept hkA)
  have HSH := Hid.mk' hSh
  have HFN := Hid.mk' hf
  have c1 := h.c1
  have hBlt := h.lt
  have hK0 := Kept.refl (w.alloc (.cells #[.slice a G.length c, .int .i64 st, .bool fl] 61)) none
  obtain ⟨W0, hW0⟩ : ∃ W0, w.alloc (.cells #[.slice a G.length c, .int .i64 st, .bool fl] 61) = W0 := ⟨_, rfl⟩
  rw [hW0] at HKA HBX HSB HF HB hK0
  have b0 : ∀ w', Kept W0 w' none → w'.cell? ⟨w.heap.size, 0, none⟩ = some (.slice a G.length c) := fun w' q => (HBX.out.kept q).c0
  have b1 : ∀ w', Kept W0 w' none → w'.cell? ⟨w.heap.size, 1, none⟩ = some (.int .i64 st) := fun w' q => (HBX.out.kept q).c1
  have b2 : ∀ w', Kept W0 w' none → w'.cell? ⟨w.heap.size, 2, none⟩ = some (.bool fl) := fun w' q => (HBX.out.kept q).c2
  have d1 : ∀ w', Kept W0 w' none → w'.cell? ⟨B, 1, none⟩ = some (.slice X.g S.groups.length X.gc) := fun w' q => (HSB.out.kept q).c1
  clear h hF hB hSh hf hkA bx c1
  go_enter Tryd.func50, Tryd.ntmps50
  go_wp2_with (first
    | rw [hW0]
    | (go_at_call 88; refine (all_any (HB.out.kept (by assumption)) _).mono ?_; rintro e wA ⟨rfl, hkA⟩; have hKA : Kept W0 wA none := Kept.tr (by assumption) hkA)
    | (go_at_call 89; refine (contains_any (HB.out.kept (by assumption)) _).mono ?_; rintro e wB ⟨rfl, hwB⟩; have hwB := hwB.symm; subst hwB)
    | (go_at_call 90; refine (one_any (HSB.out.kept (by assumption)) HSH.out.ok (HF.out.kept (by assumption)) HFN.out (HB.out.kept (by assumption)) rfl).mono ?_; rintro e wC ⟨rfl, hkC⟩; have hKC : Kept W0 wC none := Kept.tr (by assumption) hkC)
    | (go_at_call 87; refine (meet_any (HSB.out.kept (by assumption)) HSH.out.ok (HB.out.kept (by assumption)) rfl).mono ?_; rintro e wD ⟨rfl, hwD⟩; have hwD := hwD.symm; subst hwD)
    | (go_at_call 91; refine (soon_any (HSB.out.kept (by assumption)) HSH.out (HF.out.kept (by assumption)) HFN.out (HB.out.kept (by assumption)) rfl).mono ?_; rintro e wE ⟨rfl, hkE⟩; have hKE : Kept W0 wE none := Kept.tr (by assumption) hkE))
  go_ret
  exact ⟨rfl, HKA.out.tr (by assumption)⟩
set_option maxRecDepth 100000 in
set_option maxHeartbeats 1000000 in
theorem fault_some {w : World} {B : Nat} {X : Sa} {S : St} {a : Option Addr} {c : Nat} {G : List Sn} {st : Int} {fl : Bool} {al : Option Addr} {cl : Nat} {L : List Nat} (h : Sbox w B X S) (hSh : Shape S) (hF : SafeAt w a c ⟨G, st, fl⟩) (hf : G.length = S.groups.length) (hB : By w al S.groups.length L) (h4 : allIs L 4 = false) (hH : hasIt L 4 = true) : Calls Tryd.prog 50 #[.pointer (some ⟨B, 0, none⟩), safeV a c ⟨G, st, fl⟩, .slice al S.groups.length cl] w fun e w' => e = .returned (.int .u8 (7)) ∧ Kept w w' none := by
  have hng := hSh.ok.ng
  have hkA : Kept w (w.alloc (.cells #[.slice a G.length c, .int .i64 st, .bool fl] 61)) none := Kept.alloc _ _ _ _ _
  have bx := box_alloc w (.slice a G.length c) (.int .i64 st) (.bool fl) 61
  have HKA := Hid.mk' hkA
  have HBX := Hid.mk' bx
  have HSB := Hid.mk' (h.kept hkA)
  have HF := Hid.mk' (hF.kept hkA)
  have HB := Hid.mk' (hB.kept hkA)
  have HSH := Hid.mk' hSh
  have HFN := Hid.mk' hf
  have c1 := h.c1
  have hBlt := h.lt
  have hK0 := Kept.refl (w.alloc (.cells #[.slice a G.length c, .int .i64 st, .bool fl] 61)) none
  obtain ⟨W0, hW0⟩ : ∃ W0, w.alloc (.cells #[.slice a G.length c, .int .i64 st, .bool fl] 61) = W0 := ⟨_, rfl⟩
  rw [hW0] at HKA HBX HSB HF HB hK0
  have b0 : ∀ w', Kept W0 w' none → w'.cell? ⟨w.heap.size, 0, none⟩ = some (.slice a G.length c) := fun w' q => (HBX.out.kept q).c0
  have b1 : ∀ w', Kept W0 w' none → w'.cell? ⟨w.heap.size, 1, none⟩ = some (.int .i64 st) := fun w' q => (HBX.out.kept q).c1
  have b2 : ∀ w', Kept W0 w' none → w'.cell? ⟨w.heap.size, 2, none⟩ = some (.bool fl) := fun w' q => (HBX.out.kept q).c2
  have d1 : ∀ w', Kept W0 w' none → w'.cell? ⟨B, 1, none⟩ = some (.slice X.g S.groups.length X.gc) := fun w' q => (HSB.out.kept q).c1
  clear h hF hB hSh hf hkA bx c1
  go_enter Tryd.func50, Tryd.ntmps50
  go_wp2_with (first
    | rw [hW0]
    | (go_at_call 88; refine (all_any (HB.out.kept (by assumption)) _).mono ?_; rintro e wA ⟨rfl, hkA⟩; have hKA : Kept W0 wA none := Kept.tr (by assumption) hkA)
    | (go_at_call 89; refine (contains_any (HB.out.kept (by assumption)) _).mono ?_; rintro e wB ⟨rfl, hwB⟩; have hwB := hwB.symm; subst hwB)
    | (go_at_call 90; refine (one_any (HSB.out.kept (by assumption)) HSH.out.ok (HF.out.kept (by assumption)) HFN.out (HB.out.kept (by assumption)) rfl).mono ?_; rintro e wC ⟨rfl, hkC⟩; have hKC : Kept W0 wC none := Kept.tr (by assumption) hkC)
    | (go_at_call 87; refine (meet_any (HSB.out.kept (by assumption)) HSH.out.ok (HB.out.kept (by assumption)) rfl).mono ?_; rintro e wD ⟨rfl, hwD⟩; have hwD := hwD.symm; subst hwD)
    | (go_at_call 91; refine (soon_any (HSB.out.kept (by assumption)) HSH.out (HF.out.kept (by assumption)) HFN.out (HB.out.kept (by assumption)) rfl).mono ?_; rintro e wE ⟨rfl, hkE⟩; have hKE : Kept W0 wE none := Kept.tr (by assumption) hkE))
  go_ret
  exact ⟨rfl, HKA.out.tr (by assumption)⟩
set_option maxRecDepth 100000 in
set_option maxHeartbeats 1000000 in
theorem fault_start1 {w : World} {B : Nat} {X : Sa} {S : St} {a : Option Addr} {c : Nat} {G : List Sn} {st : Int} {al : Option Addr} {cl : Nat} {L : List Nat} (h : Sbox w B X S) (hSh : Shape S) (hF : SafeAt w a c ⟨G, st, true⟩) (hf : G.length = S.groups.length) (hB : By w al S.groups.length L) (h4 : allIs L 4 = false) (hH : hasIt L 4 = false) (h1 : allIs L 1 = false) : Calls Tryd.prog 50 #[.pointer (some ⟨B, 0, none⟩), safeV a c ⟨G, st, true⟩, .slice al S.groups.length cl] w fun e w' => e = .returned (.int .u8 (8)) ∧ Kept w w' none := by
  have hng := hSh.ok.ng
  have hkA : Kept w (w.alloc (.cells #[.slice a G.length c, .int .i64 st, .bool true] 61)) none := Kept.alloc _ _ _ _ _
  have bx := box_alloc w (.slice a G.length c) (.int .i64 st) (.bool true) 61
  have HKA := Hid.mk' hkA
  have HBX := Hid.mk' bx
  have HSB := Hid.mk' (h.kept hkA)
  have HF := Hid.mk' (hF.kept hkA)
  have HB := Hid.mk' (hB.kept hkA)
  have HSH := Hid.mk' hSh
  have HFN := Hid.mk' hf
  have c1 := h.c1
  have hBlt := h.lt
  have hK0 := Kept.refl (w.alloc (.cells #[.slice a G.length c, .int .i64 st, .bool true] 61)) none
  obtain ⟨W0, hW0⟩ : ∃ W0, w.alloc (.cells #[.slice a G.length c, .int .i64 st, .bool true] 61) = W0 := ⟨_, rfl⟩
  rw [hW0] at HKA HBX HSB HF HB hK0
  have b0 : ∀ w', Kept W0 w' none → w'.cell? ⟨w.heap.size, 0, none⟩ = some (.slice a G.length c) := fun w' q => (HBX.out.kept q).c0
  have b1 : ∀ w', Kept W0 w' none → w'.cell? ⟨w.heap.size, 1, none⟩ = some (.int .i64 st) := fun w' q => (HBX.out.kept q).c1
  have b2 : ∀ w', Kept W0 w' none → w'.cell? ⟨w.heap.size, 2, none⟩ = some (.bool true) := fun w' q => (HBX.out.kept q).c2
  have d1 : ∀ w', Kept W0 w' none → w'.cell? ⟨B, 1, none⟩ = some (.slice X.g S.groups.length X.gc) := fun w' q => (HSB.out.kept q).c1
  clear h hF hB hSh hf hkA bx c1
  go_enter Tryd.func50, Tryd.ntmps50
  go_wp2_with (first
    | rw [hW0]
    | (go_at_call 88; refine (all_any (HB.out.kept (by assumption)) _).mono ?_; rintro e wA ⟨rfl, hkA⟩; have hKA : Kept W0 wA none := Kept.tr (by assumption) hkA)
    | (go_at_call 89; refine (contains_any (HB.out.kept (by assumption)) _).mono ?_; rintro e wB ⟨rfl, hwB⟩; have hwB := hwB.symm; subst hwB)
    | (go_at_call 90; refine (one_any (HSB.out.kept (by assumption)) HSH.out.ok (HF.out.kept (by assumption)) HFN.out (HB.out.kept (by assumption)) rfl).mono ?_; rintro e wC ⟨rfl, hkC⟩; have hKC : Kept W0 wC none := Kept.tr (by assumption) hkC)
    | (go_at_call 87; refine (meet_any (HSB.out.kept (by assumption)) HSH.out.ok (HB.out.kept (by assumption)) rfl).mono ?_; rintro e wD ⟨rfl, hwD⟩; have hwD := hwD.symm; subst hwD)
    | (go_at_call 91; refine (soon_any (HSB.out.kept (by assumption)) HSH.out (HF.out.kept (by assumption)) HFN.out (HB.out.kept (by assumption)) rfl).mono ?_; rintro e wE ⟨rfl, hkE⟩; have hKE : Kept W0 wE none := Kept.tr (by assumption) hkE))
  go_ret
  exact ⟨rfl, HKA.out.tr (by assumption)⟩
set_option maxRecDepth 100000 in
set_option maxHeartbeats 1000000 in
theorem fault_start2 {w : World} {B : Nat} {X : Sa} {S : St} {a : Option Addr} {c : Nat} {G : List Sn} {st : Int} {al : Option Addr} {cl : Nat} {L : List Nat} (h : Sbox w B X S) (hSh : Shape S) (hF : SafeAt w a c ⟨G, st, false⟩) (hf : G.length = S.groups.length) (hB : By w al S.groups.length L) (h4 : allIs L 4 = false) (hH : hasIt L 4 = false) (hs : 0 < st) (h1 : allIs L 1 = false) : Calls Tryd.prog 50 #[.pointer (some ⟨B, 0, none⟩), safeV a c ⟨G, st, false⟩, .slice al S.groups.length cl] w fun e w' => e = .returned (.int .u8 (8)) ∧ Kept w w' none := by
  have hng := hSh.ok.ng
  have hkA : Kept w (w.alloc (.cells #[.slice a G.length c, .int .i64 st, .bool false] 61)) none := Kept.alloc _ _ _ _ _
  have bx := box_alloc w (.slice a G.length c) (.int .i64 st) (.bool false) 61
  have HKA := Hid.mk' hkA
  have HBX := Hid.mk' bx
  have HSB := Hid.mk' (h.kept hkA)
  have HF := Hid.mk' (hF.kept hkA)
  have HB := Hid.mk' (hB.kept hkA)
  have HSH := Hid.mk' hSh
  have HFN := Hid.mk' hf
  have c1 := h.c1
  have hBlt := h.lt
  have hK0 := Kept.refl (w.alloc (.cells #[.slice a G.length c, .int .i64 st, .bool false] 61)) none
  obtain ⟨W0, hW0⟩ : ∃ W0, w.alloc (.cells #[.slice a G.length c, .int .i64 st, .bool false] 61) = W0 := ⟨_, rfl⟩
  rw [hW0] at HKA HBX HSB HF HB hK0
  have b0 : ∀ w', Kept W0 w' none → w'.cell? ⟨w.heap.size, 0, none⟩ = some (.slice a G.length c) := fun w' q => (HBX.out.kept q).c0
  have b1 : ∀ w', Kept W0 w' none → w'.cell? ⟨w.heap.size, 1, none⟩ = some (.int .i64 st) := fun w' q => (HBX.out.kept q).c1
  have b2 : ∀ w', Kept W0 w' none → w'.cell? ⟨w.heap.size, 2, none⟩ = some (.bool false) := fun w' q => (HBX.out.kept q).c2
  have d1 : ∀ w', Kept W0 w' none → w'.cell? ⟨B, 1, none⟩ = some (.slice X.g S.groups.length X.gc) := fun w' q => (HSB.out.kept q).c1
  clear h hF hB hSh hf hkA bx c1
  go_enter Tryd.func50, Tryd.ntmps50
  go_wp2_with (first
    | rw [hW0]
    | (go_at_call 88; refine (all_any (HB.out.kept (by assumption)) _).mono ?_; rintro e wA ⟨rfl, hkA⟩; have hKA : Kept W0 wA none := Kept.tr (by assumption) hkA)
    | (go_at_call 89; refine (contains_any (HB.out.kept (by assumption)) _).mono ?_; rintro e wB ⟨rfl, hwB⟩; have hwB := hwB.symm; subst hwB)
    | (go_at_call 90; refine (one_any (HSB.out.kept (by assumption)) HSH.out.ok (HF.out.kept (by assumption)) HFN.out (HB.out.kept (by assumption)) rfl).mono ?_; rintro e wC ⟨rfl, hkC⟩; have hKC : Kept W0 wC none := Kept.tr (by assumption) hkC)
    | (go_at_call 87; refine (meet_any (HSB.out.kept (by assumption)) HSH.out.ok (HB.out.kept (by assumption)) rfl).mono ?_; rintro e wD ⟨rfl, hwD⟩; have hwD := hwD.symm; subst hwD)
    | (go_at_call 91; refine (soon_any (HSB.out.kept (by assumption)) HSH.out (HF.out.kept (by assumption)) HFN.out (HB.out.kept (by assumption)) rfl).mono ?_; rintro e wE ⟨rfl, hkE⟩; have hKE : Kept W0 wE none := Kept.tr (by assumption) hkE))
  go_ret
  exact ⟨rfl, HKA.out.tr (by assumption)⟩
set_option maxRecDepth 100000 in
set_option maxHeartbeats 1000000 in
theorem fault_ameet {w : World} {B : Nat} {X : Sa} {S : St} {a : Option Addr} {c : Nat} {G : List Sn} {st : Int} {al : Option Addr} {cl : Nat} {L : List Nat} (h : Sbox w B X S) (hSh : Shape S) (hF : SafeAt w a c ⟨G, st, true⟩) (hf : G.length = S.groups.length) (hB : By w al S.groups.length L) (h4 : allIs L 4 = false) (hH : hasIt L 4 = false) (h1 : allIs L 1 = true) (hz : oneV S ⟨G, st, true⟩ L = 0) (hm : mtB S L = true) : Calls Tryd.prog 50 #[.pointer (some ⟨B, 0, none⟩), safeV a c ⟨G, st, true⟩, .slice al S.groups.length cl] w fun e w' => e = .returned (.int .u8 (3)) ∧ Kept w w' none := by
  have hng := hSh.ok.ng
  have hkA : Kept w (w.alloc (.cells #[.slice a G.length c, .int .i64 st, .bool true] 61)) none := Kept.alloc _ _ _ _ _
  have bx := box_alloc w (.slice a G.length c) (.int .i64 st) (.bool true) 61
  have HKA := Hid.mk' hkA
  have HBX := Hid.mk' bx
  have HSB := Hid.mk' (h.kept hkA)
  have HF := Hid.mk' (hF.kept hkA)
  have HB := Hid.mk' (hB.kept hkA)
  have HSH := Hid.mk' hSh
  have HFN := Hid.mk' hf
  have c1 := h.c1
  have hBlt := h.lt
  have hK0 := Kept.refl (w.alloc (.cells #[.slice a G.length c, .int .i64 st, .bool true] 61)) none
  obtain ⟨W0, hW0⟩ : ∃ W0, w.alloc (.cells #[.slice a G.length c, .int .i64 st, .bool true] 61) = W0 := ⟨_, rfl⟩
  rw [hW0] at HKA HBX HSB HF HB hK0
  have b0 : ∀ w', Kept W0 w' none → w'.cell? ⟨w.heap.size, 0, none⟩ = some (.slice a G.length c) := fun w' q => (HBX.out.kept q).c0
  have b1 : ∀ w', Kept W0 w' none → w'.cell? ⟨w.heap.size, 1, none⟩ = some (.int .i64 st) := fun w' q => (HBX.out.kept q).c1
  have b2 : ∀ w', Kept W0 w' none → w'.cell? ⟨w.heap.size, 2, none⟩ = some (.bool true) := fun w' q => (HBX.out.kept q).c2
  have d1 : ∀ w', Kept W0 w' none → w'.cell? ⟨B, 1, none⟩ = some (.slice X.g S.groups.length X.gc) := fun w' q => (HSB.out.kept q).c1
  clear h hF hB hSh hf hkA bx c1
  go_enter Tryd.func50, Tryd.ntmps50
  go_wp2_with (first
    | rw [hW0]
    | (go_at_call 88; refine (all_any (HB.out.kept (by assumption)) _).mono ?_; rintro e wA ⟨rfl, hkA⟩; have hKA : Kept W0 wA none := Kept.tr (by assumption) hkA)
    | (go_at_call 89; refine (contains_any (HB.out.kept (by assumption)) _).mono ?_; rintro e wB ⟨rfl, hwB⟩; have hwB := hwB.symm; subst hwB)
    | (go_at_call 90; refine (one_any (HSB.out.kept (by assumption)) HSH.out.ok (HF.out.kept (by assumption)) HFN.out (HB.out.kept (by assumption)) rfl).mono ?_; rintro e wC ⟨rfl, hkC⟩; have hKC : Kept W0 wC none := Kept.tr (by assumption) hkC)
    | (go_at_call 87; refine (meet_any (HSB.out.kept (by assumption)) HSH.out.ok (HB.out.kept (by assumption)) rfl).mono ?_; rintro e wD ⟨rfl, hwD⟩; have hwD := hwD.symm; subst hwD)
    | (go_at_call 91; refine (soon_any (HSB.out.kept (by assumption)) HSH.out (HF.out.kept (by assumption)) HFN.out (HB.out.kept (by assumption)) rfl).mono ?_; rintro e wE ⟨rfl, hkE⟩; have hKE : Kept W0 wE none := Kept.tr (by assumption) hkE))
  go_ret
  exact ⟨rfl, HKA.out.tr (by assumption)⟩
set_option maxRecDepth 100000 in
set_option maxHeartbeats 1000000 in
theorem fault_asoon {w : World} {B : Nat} {X : Sa} {S : St} {a : Option Addr} {c : Nat} {G : List Sn} {st : Int} {al : Option Addr} {cl : Nat} {L : List Nat} (h : Sbox w B X S) (hSh : Shape S) (hF : SafeAt w a c ⟨G, st, true⟩) (hf : G.length = S.groups.length) (hB : By w al S.groups.length L) (h4 : allIs L 4 = false) (hH : hasIt L 4 = false) (h1 : allIs L 1 = true) (hz : oneV S ⟨G, st, true⟩ L = 0) (hm : mtB S L = false) (ho : soonB S ⟨G, st, true⟩ L = true) : Calls Tryd.prog 50 #[.pointer (some ⟨B, 0, none⟩), safeV a c ⟨G, st, true⟩, .slice al S.groups.length cl] w fun e w' => e = .returned (.int .u8 (4)) ∧ Kept w w' none := by
  have hng := hSh.ok.ng
  have hkA : Kept w (w.alloc (.cells #[.slice a G.length c, .int .i64 st, .bool true] 61)) none := Kept.alloc _ _ _ _ _
  have bx := box_alloc w (.slice a G.length c) (.int .i64 st) (.bool true) 61
  have HKA := Hid.mk' hkA
  have HBX := Hid.mk' bx
  have HSB := Hid.mk' (h.kept hkA)
  have HF := Hid.mk' (hF.kept hkA)
  have HB := Hid.mk' (hB.kept hkA)
  have HSH := Hid.mk' hSh
  have HFN := Hid.mk' hf
  have c1 := h.c1
  have hBlt := h.lt
  have hK0 := Kept.refl (w.alloc (.cells #[.slice a G.length c, .int .i64 st, .bool true] 61)) none
  obtain ⟨W0, hW0⟩ : ∃ W0, w.alloc (.cells #[.slice a G.length c, .int .i64 st, .bool true] 61) = W0 := ⟨_, rfl⟩
  rw [hW0] at HKA HBX HSB HF HB hK0
  have b0 : ∀ w', Kept W0 w' none → w'.cell? ⟨w.heap.size, 0, none⟩ = some (.slice a G.length c) := fun w' q => (HBX.out.kept q).c0
  have b1 : ∀ w', Kept W0 w' none → w'.cell? ⟨w.heap.size, 1, none⟩ = some (.int .i64 st) := fun w' q => (HBX.out.kept q).c1
  have b2 : ∀ w', Kept W0 w' none → w'.cell? ⟨w.heap.size, 2, none⟩ = some (.bool true) := fun w' q => (HBX.out.kept q).c2
  have d1 : ∀ w', Kept W0 w' none → w'.cell? ⟨B, 1, none⟩ = some (.slice X.g S.groups.length X.gc) := fun w' q => (HSB.out.kept q).c1
  clear h hF hB hSh hf hkA bx c1
  go_enter Tryd.func50, Tryd.ntmps50
  go_wp2_with (first
    | rw [hW0]
    | (go_at_call 88; refine (all_any (HB.out.kept (by assumption)) _).mono ?_; rintro e wA ⟨rfl, hkA⟩; have hKA : Kept W0 wA none := Kept.tr (by assumption) hkA)
    | (go_at_call 89; refine (contains_any (HB.out.kept (by assumption)) _).mono ?_; rintro e wB ⟨rfl, hwB⟩; have hwB := hwB.symm; subst hwB)
    | (go_at_call 90; refine (one_any (HSB.out.kept (by assumption)) HSH.out.ok (HF.out.kept (by assumption)) HFN.out (HB.out.kept (by assumption)) rfl).mono ?_; rintro e wC ⟨rfl, hkC⟩; have hKC : Kept W0 wC none := Kept.tr (by assumption) hkC)
    | (go_at_call 87; refine (meet_any (HSB.out.kept (by assumption)) HSH.out.ok (HB.out.kept (by assumption)) rfl).mono ?_; rintro e wD ⟨rfl, hwD⟩; have hwD := hwD.symm; subst hwD)
    | (go_at_call 91; refine (soon_any (HSB.out.kept (by assumption)) HSH.out (HF.out.kept (by assumption)) HFN.out (HB.out.kept (by assumption)) rfl).mono ?_; rintro e wE ⟨rfl, hkE⟩; have hKE : Kept W0 wE none := Kept.tr (by assumption) hkE))
  go_ret
  exact ⟨rfl, HKA.out.tr (by assumption)⟩
set_option maxRecDepth 100000 in
set_option maxHeartbeats 1000000 in
theorem fault_anone {w : World} {B : Nat} {X : Sa} {S : St} {a : Option Addr} {c : Nat} {G : List Sn} {st : Int} {al : Option Addr} {cl : Nat} {L : List Nat} (h : Sbox w B X S) (hSh : Shape S) (hF : SafeAt w a c ⟨G, st, true⟩) (hf : G.length = S.groups.length) (hB : By w al S.groups.length L) (h4 : allIs L 4 = false) (hH : hasIt L 4 = false) (h1 : allIs L 1 = true) (hz : oneV S ⟨G, st, true⟩ L = 0) (hm : mtB S L = false) (ho : soonB S ⟨G, st, true⟩ L = false) : Calls Tryd.prog 50 #[.pointer (some ⟨B, 0, none⟩), safeV a c ⟨G, st, true⟩, .slice al S.groups.length cl] w fun e w' => e = .returned (.int .u8 (0)) ∧ Kept w w' none := by
  have hng := hSh.ok.ng
  have hkA : Kept w (w.alloc (.cells #[.slice a G.length c, .int .i64 st, .bool true] 61)) none := Kept.alloc _ _ _ _ _
  have bx := box_alloc w (.slice a G.length c) (.int .i64 st) (.bool true) 61
  have HKA := Hid.mk' hkA
  have HBX := Hid.mk' bx
  have HSB := Hid.mk' (h.kept hkA)
  have HF := Hid.mk' (hF.kept hkA)
  have HB := Hid.mk' (hB.kept hkA)
  have HSH := Hid.mk' hSh
  have HFN := Hid.mk' hf
  have c1 := h.c1
  have hBlt := h.lt
  have hK0 := Kept.refl (w.alloc (.cells #[.slice a G.length c, .int .i64 st, .bool true] 61)) none
  obtain ⟨W0, hW0⟩ : ∃ W0, w.alloc (.cells #[.slice a G.length c, .int .i64 st, .bool true] 61) = W0 := ⟨_, rfl⟩
  rw [hW0] at HKA HBX HSB HF HB hK0
  have b0 : ∀ w', Kept W0 w' none → w'.cell? ⟨w.heap.size, 0, none⟩ = some (.slice a G.length c) := fun w' q => (HBX.out.kept q).c0
  have b1 : ∀ w', Kept W0 w' none → w'.cell? ⟨w.heap.size, 1, none⟩ = some (.int .i64 st) := fun w' q => (HBX.out.kept q).c1
  have b2 : ∀ w', Kept W0 w' none → w'.cell? ⟨w.heap.size, 2, none⟩ = some (.bool true) := fun w' q => (HBX.out.kept q).c2
  have d1 : ∀ w', Kept W0 w' none → w'.cell? ⟨B, 1, none⟩ = some (.slice X.g S.groups.length X.gc) := fun w' q => (HSB.out.kept q).c1
  clear h hF hB hSh hf hkA bx c1
  go_enter Tryd.func50, Tryd.ntmps50
  go_wp2_with (first
    | rw [hW0]
    | (go_at_call 88; refine (all_any (HB.out.kept (by assumption)) _).mono ?_; rintro e wA ⟨rfl, hkA⟩; have hKA : Kept W0 wA none := Kept.tr (by assumption) hkA)
    | (go_at_call 89; refine (contains_any (HB.out.kept (by assumption)) _).mono ?_; rintro e wB ⟨rfl, hwB⟩; have hwB := hwB.symm; subst hwB)
    | (go_at_call 90; refine (one_any (HSB.out.kept (by assumption)) HSH.out.ok (HF.out.kept (by assumption)) HFN.out (HB.out.kept (by assumption)) rfl).mono ?_; rintro e wC ⟨rfl, hkC⟩; have hKC : Kept W0 wC none := Kept.tr (by assumption) hkC)
    | (go_at_call 87; refine (meet_any (HSB.out.kept (by assumption)) HSH.out.ok (HB.out.kept (by assumption)) rfl).mono ?_; rintro e wD ⟨rfl, hwD⟩; have hwD := hwD.symm; subst hwD)
    | (go_at_call 91; refine (soon_any (HSB.out.kept (by assumption)) HSH.out (HF.out.kept (by assumption)) HFN.out (HB.out.kept (by assumption)) rfl).mono ?_; rintro e wE ⟨rfl, hkE⟩; have hKE : Kept W0 wE none := Kept.tr (by assumption) hkE))
  go_ret
  exact ⟨rfl, HKA.out.tr (by assumption)⟩
set_option maxRecDepth 100000 in
set_option maxHeartbeats 1000000 in
theorem fault_bone {w : World} {B : Nat} {X : Sa} {S : St} {a : Option Addr} {c : Nat} {G : List Sn} {st : Int} {al : Option Addr} {cl : Nat} {L : List Nat} (h : Sbox w B X S) (hSh : Shape S) (hF : SafeAt w a c ⟨G, st, false⟩) (hf : G.length = S.groups.length) (hB : By w al S.groups.length L) (h4 : allIs L 4 = false) (hH : hasIt L 4 = false) (hs : 0 < st) (h1 : allIs L 1 = true) (hz : (oneV S ⟨G, st, false⟩ L != 0) = true) : Calls Tryd.prog 50 #[.pointer (some ⟨B, 0, none⟩), safeV a c ⟨G, st, false⟩, .slice al S.groups.length cl] w fun e w' => e = .returned (.int .u8 (oneV S ⟨G, st, false⟩ L)) ∧ Kept w w' none := by
  have hng := hSh.ok.ng
  have hkA : Kept w (w.alloc (.cells #[.slice a G.length c, .int .i64 st, .bool false] 61)) none := Kept.alloc _ _ _ _ _
  have bx := box_alloc w (.slice a G.length c) (.int .i64 st) (.bool false) 61
  have HKA := Hid.mk' hkA
  have HBX := Hid.mk' bx
  have HSB := Hid.mk' (h.kept hkA)
  have HF := Hid.mk' (hF.kept hkA)
  have HB := Hid.mk' (hB.kept hkA)
  have HSH := Hid.mk' hSh
  have HFN := Hid.mk' hf
  have c1 := h.c1
  have hBlt := h.lt
  have hK0 := Kept.refl (w.alloc (.cells #[.slice a G.length c, .int .i64 st, .bool false] 61)) none
  obtain ⟨W0, hW0⟩ : ∃ W0, w.alloc (.cells #[.slice a G.length c, .int .i64 st, .bool false] 61) = W0 := ⟨_, rfl⟩
  rw [hW0] at HKA HBX HSB HF HB hK0
  have b0 : ∀ w', Kept W0 w' none → w'.cell? ⟨w.heap.size, 0, none⟩ = some (.slice a G.length c) := fun w' q => (HBX.out.kept q).c0
  have b1 : ∀ w', Kept W0 w' none → w'.cell? ⟨w.heap.size, 1, none⟩ = some (.int .i64 st) := fun w' q => (HBX.out.kept q).c1
  have b2 : ∀ w', Kept W0 w' none → w'.cell? ⟨w.heap.size, 2, none⟩ = some (.bool false) := fun w' q => (HBX.out.kept q).c2
  have d1 : ∀ w', Kept W0 w' none → w'.cell? ⟨B, 1, none⟩ = some (.slice X.g S.groups.length X.gc) := fun w' q => (HSB.out.kept q).c1
  clear h hF hB hSh hf hkA bx c1
  go_enter Tryd.func50, Tryd.ntmps50
  go_wp2_with (first
    | rw [hW0]
    | (go_at_call 88; refine (all_any (HB.out.kept (by assumption)) _).mono ?_; rintro e wA ⟨rfl, hkA⟩; have hKA : Kept W0 wA none := Kept.tr (by assumption) hkA)
    | (go_at_call 89; refine (contains_any (HB.out.kept (by assumption)) _).mono ?_; rintro e wB ⟨rfl, hwB⟩; have hwB := hwB.symm; subst hwB)
    | (go_at_call 90; refine (one_any (HSB.out.kept (by assumption)) HSH.out.ok (HF.out.kept (by assumption)) HFN.out (HB.out.kept (by assumption)) rfl).mono ?_; rintro e wC ⟨rfl, hkC⟩; have hKC : Kept W0 wC none := Kept.tr (by assumption) hkC)
    | (go_at_call 87; refine (meet_any (HSB.out.kept (by assumption)) HSH.out.ok (HB.out.kept (by assumption)) rfl).mono ?_; rintro e wD ⟨rfl, hwD⟩; have hwD := hwD.symm; subst hwD)
    | (go_at_call 91; refine (soon_any (HSB.out.kept (by assumption)) HSH.out (HF.out.kept (by assumption)) HFN.out (HB.out.kept (by assumption)) rfl).mono ?_; rintro e wE ⟨rfl, hkE⟩; have hKE : Kept W0 wE none := Kept.tr (by assumption) hkE))
  go_ret
  exact ⟨rfl, HKA.out.tr (by assumption)⟩
set_option maxRecDepth 100000 in
set_option maxHeartbeats 1000000 in
theorem fault_bmeet {w : World} {B : Nat} {X : Sa} {S : St} {a : Option Addr} {c : Nat} {G : List Sn} {st : Int} {al : Option Addr} {cl : Nat} {L : List Nat} (h : Sbox w B X S) (hSh : Shape S) (hF : SafeAt w a c ⟨G, st, false⟩) (hf : G.length = S.groups.length) (hB : By w al S.groups.length L) (h4 : allIs L 4 = false) (hH : hasIt L 4 = false) (hs : 0 < st) (h1 : allIs L 1 = true) (hz : oneV S ⟨G, st, false⟩ L = 0) (hm : mtB S L = true) : Calls Tryd.prog 50 #[.pointer (some ⟨B, 0, none⟩), safeV a c ⟨G, st, false⟩, .slice al S.groups.length cl] w fun e w' => e = .returned (.int .u8 (3)) ∧ Kept w w' none := by
  have hng := hSh.ok.ng
  have hkA : Kept w (w.alloc (.cells #[.slice a G.length c, .int .i64 st, .bool false] 61)) none := Kept.alloc _ _ _ _ _
  have bx := box_alloc w (.slice a G.length c) (.int .i64 st) (.bool false) 61
  have HKA := Hid.mk' hkA
  have HBX := Hid.mk' bx
  have HSB := Hid.mk' (h.kept hkA)
  have HF := Hid.mk' (hF.kept hkA)
  have HB := Hid.mk' (hB.kept hkA)
  have HSH := Hid.mk' hSh
  have HFN := Hid.mk' hf
  have c1 := h.c1
  have hBlt := h.lt
  have hK0 := Kept.refl (w.alloc (.cells #[.slice a G.length c, .int .i64 st, .bool false] 61)) none
  obtain ⟨W0, hW0⟩ : ∃ W0, w.alloc (.cells #[.slice a G.length c, .int .i64 st, .bool false] 61) = W0 := ⟨_, rfl⟩
  rw [hW0] at HKA HBX HSB HF HB hK0
  have b0 : ∀ w', Kept W0 w' none → w'.cell? ⟨w.heap.size, 0, none⟩ = some (.slice a G.length c) := fun w' q => (HBX.out.kept q).c0
  have b1 : ∀ w', Kept W0 w' none → w'.cell? ⟨w.heap.size, 1, none⟩ = some (.int .i64 st) := fun w' q => (HBX.out.kept q).c1
  have b2 : ∀ w', Kept W0 w' none → w'.cell? ⟨w.heap.size, 2, none⟩ = some (.bool false) := fun w' q => (HBX.out.kept q).c2
  have d1 : ∀ w', Kept W0 w' none → w'.cell? ⟨B, 1, none⟩ = some (.slice X.g S.groups.length X.gc) := fun w' q => (HSB.out.kept q).c1
  clear h hF hB hSh hf hkA bx c1
  go_enter Tryd.func50, Tryd.ntmps50
  go_wp2_with (first
    | rw [hW0]
    | (go_at_call 88; refine (all_any (HB.out.kept (by assumption)) _).mono ?_; rintro e wA ⟨rfl, hkA⟩; have hKA : Kept W0 wA none := Kept.tr (by assumption) hkA)
    | (go_at_call 89; refine (contains_any (HB.out.kept (by assumption)) _).mono ?_; rintro e wB ⟨rfl, hwB⟩; have hwB := hwB.symm; subst hwB)
    | (go_at_call 90; refine (one_any (HSB.out.kept (by assumption)) HSH.out.ok (HF.out.kept (by assumption)) HFN.out (HB.out.kept (by assumption)) rfl).mono ?_; rintro e wC ⟨rfl, hkC⟩; have hKC : Kept W0 wC none := Kept.tr (by assumption) hkC)
    | (go_at_call 87; refine (meet_any (HSB.out.kept (by assumption)) HSH.out.ok (HB.out.kept (by assumption)) rfl).mono ?_; rintro e wD ⟨rfl, hwD⟩; have hwD := hwD.symm; subst hwD)
    | (go_at_call 91; refine (soon_any (HSB.out.kept (by assumption)) HSH.out (HF.out.kept (by assumption)) HFN.out (HB.out.kept (by assumption)) rfl).mono ?_; rintro e wE ⟨rfl, hkE⟩; have hKE : Kept W0 wE none := Kept.tr (by assumption) hkE))
  go_ret
  exact ⟨rfl, HKA.out.tr (by assumption)⟩
set_option maxRecDepth 100000 in
set_option maxHeartbeats 1000000 in
theorem fault_bsoon {w : World} {B : Nat} {X : Sa} {S : St} {a : Option Addr} {c : Nat} {G : List Sn} {st : Int} {al : Option Addr} {cl : Nat} {L : List Nat} (h : Sbox w B X S) (hSh : Shape S) (hF : SafeAt w a c ⟨G, st, false⟩) (hf : G.length = S.groups.length) (hB : By w al S.groups.length L) (h4 : allIs L 4 = false) (hH : hasIt L 4 = false) (hs : 0 < st) (h1 : allIs L 1 = true) (hz : oneV S ⟨G, st, false⟩ L = 0) (hm : mtB S L = false) (ho : soonB S ⟨G, st, false⟩ L = true) : Calls Tryd.prog 50 #[.pointer (some ⟨B, 0, none⟩), safeV a c ⟨G, st, false⟩, .slice al S.groups.length cl] w fun e w' => e = .returned (.int .u8 (4)) ∧ Kept w w' none := by
  have hng := hSh.ok.ng
  have hkA : Kept w (w.alloc (.cells #[.slice a G.length c, .int .i64 st, .bool false] 61)) none := Kept.alloc _ _ _ _ _
  have bx := box_alloc w (.slice a G.length c) (.int .i64 st) (.bool false) 61
  have HKA := Hid.mk' hkA
  have HBX := Hid.mk' bx
  have HSB := Hid.mk' (h.kept hkA)
  have HF := Hid.mk' (hF.kept hkA)
  have HB := Hid.mk' (hB.kept hkA)
  have HSH := Hid.mk' hSh
  have HFN := Hid.mk' hf
  have c1 := h.c1
  have hBlt := h.lt
  have hK0 := Kept.refl (w.alloc (.cells #[.slice a G.length c, .int .i64 st, .bool false] 61)) none
  obtain ⟨W0, hW0⟩ : ∃ W0, w.alloc (.cells #[.slice a G.length c, .int .i64 st, .bool false] 61) = W0 := ⟨_, rfl⟩
  rw [hW0] at HKA HBX HSB HF HB hK0
  have b0 : ∀ w', Kept W0 w' none → w'.cell? ⟨w.heap.size, 0, none⟩ = some (.slice a G.length c) := fun w' q => (HBX.out.kept q).c0
  have b1 : ∀ w', Kept W0 w' none → w'.cell? ⟨w.heap.size, 1, none⟩ = some (.int .i64 st) := fun w' q => (HBX.out.kept q).c1
  have b2 : ∀ w', Kept W0 w' none → w'.cell? ⟨w.heap.size, 2, none⟩ = some (.bool false) := fun w' q => (HBX.out.kept q).c2
  have d1 : ∀ w', Kept W0 w' none → w'.cell? ⟨B, 1, none⟩ = some (.slice X.g S.groups.length X.gc) := fun w' q => (HSB.out.kept q).c1
  clear h hF hB hSh hf hkA bx c1
  go_enter Tryd.func50, Tryd.ntmps50
  go_wp2_with (first
    | rw [hW0]
    | (go_at_call 88; refine (all_any (HB.out.kept (by assumption)) _).mono ?_; rintro e wA ⟨rfl, hkA⟩; have hKA : Kept W0 wA none := Kept.tr (by assumption) hkA)
    | (go_at_call 89; refine (contains_any (HB.out.kept (by assumption)) _).mono ?_; rintro e wB ⟨rfl, hwB⟩; have hwB := hwB.symm; subst hwB)
    | (go_at_call 90; refine (one_any (HSB.out.kept (by assumption)) HSH.out.ok (HF.out.kept (by assumption)) HFN.out (HB.out.kept (by assumption)) rfl).mono ?_; rintro e wC ⟨rfl, hkC⟩; have hKC : Kept W0 wC none := Kept.tr (by assumption) hkC)
    | (go_at_call 87; refine (meet_any (HSB.out.kept (by assumption)) HSH.out.ok (HB.out.kept (by assumption)) rfl).mono ?_; rintro e wD ⟨rfl, hwD⟩; have hwD := hwD.symm; subst hwD)
    | (go_at_call 91; refine (soon_any (HSB.out.kept (by assumption)) HSH.out (HF.out.kept (by assumption)) HFN.out (HB.out.kept (by assumption)) rfl).mono ?_; rintro e wE ⟨rfl, hkE⟩; have hKE : Kept W0 wE none := Kept.tr (by assumption) hkE))
  go_ret
  exact ⟨rfl, HKA.out.tr (by assumption)⟩
set_option maxRecDepth 100000 in
set_option maxHeartbeats 1000000 in
theorem fault_bnone {w : World} {B : Nat} {X : Sa} {S : St} {a : Option Addr} {c : Nat} {G : List Sn} {st : Int} {al : Option Addr} {cl : Nat} {L : List Nat} (h : Sbox w B X S) (hSh : Shape S) (hF : SafeAt w a c ⟨G, st, false⟩) (hf : G.length = S.groups.length) (hB : By w al S.groups.length L) (h4 : allIs L 4 = false) (hH : hasIt L 4 = false) (hs : 0 < st) (h1 : allIs L 1 = true) (hz : oneV S ⟨G, st, false⟩ L = 0) (hm : mtB S L = false) (ho : soonB S ⟨G, st, false⟩ L = false) : Calls Tryd.prog 50 #[.pointer (some ⟨B, 0, none⟩), safeV a c ⟨G, st, false⟩, .slice al S.groups.length cl] w fun e w' => e = .returned (.int .u8 (0)) ∧ Kept w w' none := by
  have hng := hSh.ok.ng
  have hkA : Kept w (w.alloc (.cells #[.slice a G.length c, .int .i64 st, .bool false] 61)) none := Kept.alloc _ _ _ _ _
  have bx := box_alloc w (.slice a G.length c) (.int .i64 st) (.bool false) 61
  have HKA := Hid.mk' hkA
  have HBX := Hid.mk' bx
  have HSB := Hid.mk' (h.kept hkA)
  have HF := Hid.mk' (hF.kept hkA)
  have HB := Hid.mk' (hB.kept hkA)
  have HSH := Hid.mk' hSh
  have HFN := Hid.mk' hf
  have c1 := h.c1
  have hBlt := h.lt
  have hK0 := Kept.refl (w.alloc (.cells #[.slice a G.length c, .int .i64 st, .bool false] 61)) none
  obtain ⟨W0, hW0⟩ : ∃ W0, w.alloc (.cells #[.slice a G.length c, .int .i64 st, .bool false] 61) = W0 := ⟨_, rfl⟩
  rw [hW0] at HKA HBX HSB HF HB hK0
  have b0 : ∀ w', Kept W0 w' none → w'.cell? ⟨w.heap.size, 0, none⟩ = some (.slice a G.length c) := fun w' q => (HBX.out.kept q).c0
  have b1 : ∀ w', Kept W0 w' none → w'.cell? ⟨w.heap.size, 1, none⟩ = some (.int .i64 st) := fun w' q => (HBX.out.kept q).c1
  have b2 : ∀ w', Kept W0 w' none → w'.cell? ⟨w.heap.size, 2, none⟩ = some (.bool false) := fun w' q => (HBX.out.kept q).c2
  have d1 : ∀ w', Kept W0 w' none → w'.cell? ⟨B, 1, none⟩ = some (.slice X.g S.groups.length X.gc) := fun w' q => (HSB.out.kept q).c1
  clear h hF hB hSh hf hkA bx c1
  go_enter Tryd.func50, Tryd.ntmps50
  go_wp2_with (first
    | rw [hW0]
    | (go_at_call 88; refine (all_any (HB.out.kept (by assumption)) _).mono ?_; rintro e wA ⟨rfl, hkA⟩; have hKA : Kept W0 wA none := Kept.tr (by assumption) hkA)
    | (go_at_call 89; refine (contains_any (HB.out.kept (by assumption)) _).mono ?_; rintro e wB ⟨rfl, hwB⟩; have hwB := hwB.symm; subst hwB)
    | (go_at_call 90; refine (one_any (HSB.out.kept (by assumption)) HSH.out.ok (HF.out.kept (by assumption)) HFN.out (HB.out.kept (by assumption)) rfl).mono ?_; rintro e wC ⟨rfl, hkC⟩; have hKC : Kept W0 wC none := Kept.tr (by assumption) hkC)
    | (go_at_call 87; refine (meet_any (HSB.out.kept (by assumption)) HSH.out.ok (HB.out.kept (by assumption)) rfl).mono ?_; rintro e wD ⟨rfl, hwD⟩; have hwD := hwD.symm; subst hwD)
    | (go_at_call 91; refine (soon_any (HSB.out.kept (by assumption)) HSH.out (HF.out.kept (by assumption)) HFN.out (HB.out.kept (by assumption)) rfl).mono ?_; rintro e wE ⟨rfl, hkE⟩; have hKE : Kept W0 wE none := Kept.tr (by assumption) hkE))
  go_ret
  exact ⟨rfl, HKA.out.tr (by assumption)⟩
set_option maxRecDepth 100000 in
set_option maxHeartbeats 1000000 in
theorem fault_cone {w : World} {B : Nat} {X : Sa} {S : St} {a : Option Addr} {c : Nat} {G : List Sn} {st : Int} {al : Option Addr} {cl : Nat} {L : List Nat} (h : Sbox w B X S) (hSh : Shape S) (hF : SafeAt w a c ⟨G, st, false⟩) (hf : G.length = S.groups.length) (hB : By w al S.groups.length L) (h4 : allIs L 4 = false) (hH : hasIt L 4 = false) (hs : st ≤ 0) (hz : (oneV S ⟨G, st, false⟩ L != 0) = true) : Calls Tryd.prog 50 #[.pointer (some ⟨B, 0, none⟩), safeV a c ⟨G, st, false⟩, .slice al S.groups.length cl] w fun e w' => e = .returned (.int .u8 (oneV S ⟨G, st, false⟩ L)) ∧ Kept w w' none := by
  have hng := hSh.ok.ng
  have hkA : Kept w (w.alloc (.cells #[.slice a G.length c, .int .i64 st, .bool false] 61)) none := Kept.alloc _ _ _ _ _
  have bx := box_alloc w (.slice a G.length c) (.int .i64 st) (.bool false) 61
  have HKA := Hid.mk' hkA
  have HBX := Hid.mk' bx
  have HSB := Hid.mk' (h.kept hkA)
  have HF := Hid.mk' (hF.kept hkA)
  have HB := Hid.mk' (hB.kept hkA)
  have HSH := Hid.mk' hSh
  have HFN := Hid.mk' hf
  have c1 := h.c1
  have hBlt := h.lt
  have hK0 := Kept.refl (w.alloc (.cells #[.slice a G.length c, .int .i64 st, .bool false] 61)) none
  obtain ⟨W0, hW0⟩ : ∃ W0, w.alloc (.cells #[.slice a G.length c, .int .i64 st, .bool false] 61) = W0 := ⟨_, rfl⟩
  rw [hW0] at HKA HBX HSB HF HB hK0
  have b0 : ∀ w', Kept W0 w' none → w'.cell? ⟨w.heap.size, 0, none⟩ = some (.slice a G.length c) := fun w' q => (HBX.out.kept q).c0
  have b1 : ∀ w', Kept W0 w' none → w'.cell? ⟨w.heap.size, 1, none⟩ = some (.int .i64 st) := fun w' q => (HBX.out.kept q).c1
  have b2 : ∀ w', Kept W0 w' none → w'.cell? ⟨w.heap.size, 2, none⟩ = some (.bool false) := fun w' q => (HBX.out.kept q).c2
  have d1 : ∀ w', Kept W0 w' none → w'.cell? ⟨B, 1, none⟩ = some (.slice X.g S.groups.length X.gc) := fun w' q => (HSB.out.kept q).c1
  clear h hF hB hSh hf hkA bx c1
  go_enter Tryd.func50, Tryd.ntmps50
  go_wp2_with (first
    | rw [hW0]
    | (go_at_call 88; refine (all_any (HB.out.kept (by assumption)) _).mono ?_; rintro e wA ⟨rfl, hkA⟩; have hKA : Kept W0 wA none := Kept.tr (by assumption) hkA)
    | (go_at_call 89; refine (contains_any (HB.out.kept (by assumption)) _).mono ?_; rintro e wB ⟨rfl, hwB⟩; have hwB := hwB.symm; subst hwB)
    | (go_at_call 90; refine (one_any (HSB.out.kept (by assumption)) HSH.out.ok (HF.out.kept (by assumption)) HFN.out (HB.out.kept (by assumption)) rfl).mono ?_; rintro e wC ⟨rfl, hkC⟩; have hKC : Kept W0 wC none := Kept.tr (by assumption) hkC)
    | (go_at_call 87; refine (meet_any (HSB.out.kept (by assumption)) HSH.out.ok (HB.out.kept (by assumption)) rfl).mono ?_; rintro e wD ⟨rfl, hwD⟩; have hwD := hwD.symm; subst hwD)
    | (go_at_call 91; refine (soon_any (HSB.out.kept (by assumption)) HSH.out (HF.out.kept (by assumption)) HFN.out (HB.out.kept (by assumption)) rfl).mono ?_; rintro e wE ⟨rfl, hkE⟩; have hKE : Kept W0 wE none := Kept.tr (by assumption) hkE))
  go_ret
  exact ⟨rfl, HKA.out.tr (by assumption)⟩
set_option maxRecDepth 100000 in
set_option maxHeartbeats 1000000 in
theorem fault_cmeet {w : World} {B : Nat} {X : Sa} {S : St} {a : Option Addr} {c : Nat} {G : List Sn} {st : Int} {al : Option Addr} {cl : Nat} {L : List Nat} (h : Sbox w B X S) (hSh : Shape S) (hF : SafeAt w a c ⟨G, st, false⟩) (hf : G.length = S.groups.length) (hB : By w al S.groups.length L) (h4 : allIs L 4 = false) (hH : hasIt L 4 = false) (hs : st ≤ 0) (hz : oneV S ⟨G, st, false⟩ L = 0) (hm : mtB S L = true) : Calls Tryd.prog 50 #[.pointer (some ⟨B, 0, none⟩), safeV a c ⟨G, st, false⟩, .slice al S.groups.length cl] w fun e w' => e = .returned (.int .u8 (3)) ∧ Kept w w' none := by
  have hng := hSh.ok.ng
  have hkA : Kept w (w.alloc (.cells #[.slice a G.length c, .int .i64 st, .bool false] 61)) none := Kept.alloc _ _ _ _ _
  have bx := box_alloc w (.slice a G.length c) (.int .i64 st) (.bool false) 61
  have HKA := Hid.mk' hkA
  have HBX := Hid.mk' bx
  have HSB := Hid.mk' (h.kept hkA)
  have HF := Hid.mk' (hF.kept hkA)
  have HB := Hid.mk' (hB.kept hkA)
  have HSH := Hid.mk' hSh
  have HFN := Hid.mk' hf
  have c1 := h.c1
  have hBlt := h.lt
  have hK0 := Kept.refl (w.alloc (.cells #[.slice a G.length c, .int .i64 st, .bool false] 61)) none
  obtain ⟨W0, hW0⟩ : ∃ W0, w.alloc (.cells #[.slice a G.length c, .int .i64 st, .bool false] 61) = W0 := ⟨_, rfl⟩
  rw [hW0] at HKA HBX HSB HF HB hK0
  have b0 : ∀ w', Kept W0 w' none → w'.cell? ⟨w.heap.size, 0, none⟩ = some (.slice a G.length c) := fun w' q => (HBX.out.kept q).c0
  have b1 : ∀ w', Kept W0 w' none → w'.cell? ⟨w.heap.size, 1, none⟩ = some (.int .i64 st) := fun w' q => (HBX.out.kept q).c1
  have b2 : ∀ w', Kept W0 w' none → w'.cell? ⟨w.heap.size, 2, none⟩ = some (.bool false) := fun w' q => (HBX.out.kept q).c2
  have d1 : ∀ w', Kept W0 w' none → w'.cell? ⟨B, 1, none⟩ = some (.slice X.g S.groups.length X.gc) := fun w' q => (HSB.out.kept q).c1
  clear h hF hB hSh hf hkA bx c1
  go_enter Tryd.func50, Tryd.ntmps50
  go_wp2_with (first
    | rw [hW0]
    | (go_at_call 88; refine (all_any (HB.out.kept (by assumption)) _).mono ?_; rintro e wA ⟨rfl, hkA⟩; have hKA : Kept W0 wA none := Kept.tr (by assumption) hkA)
    | (go_at_call 89; refine (contains_any (HB.out.kept (by assumption)) _).mono ?_; rintro e wB ⟨rfl, hwB⟩; have hwB := hwB.symm; subst hwB)
    | (go_at_call 90; refine (one_any (HSB.out.kept (by assumption)) HSH.out.ok (HF.out.kept (by assumption)) HFN.out (HB.out.kept (by assumption)) rfl).mono ?_; rintro e wC ⟨rfl, hkC⟩; have hKC : Kept W0 wC none := Kept.tr (by assumption) hkC)
    | (go_at_call 87; refine (meet_any (HSB.out.kept (by assumption)) HSH.out.ok (HB.out.kept (by assumption)) rfl).mono ?_; rintro e wD ⟨rfl, hwD⟩; have hwD := hwD.symm; subst hwD)
    | (go_at_call 91; refine (soon_any (HSB.out.kept (by assumption)) HSH.out (HF.out.kept (by assumption)) HFN.out (HB.out.kept (by assumption)) rfl).mono ?_; rintro e wE ⟨rfl, hkE⟩; have hKE : Kept W0 wE none := Kept.tr (by assumption) hkE))
  go_ret
  exact ⟨rfl, HKA.out.tr (by assumption)⟩
set_option maxRecDepth 100000 in
set_option maxHeartbeats 1000000 in
theorem fault_csoon {w : World} {B : Nat} {X : Sa} {S : St} {a : Option Addr} {c : Nat} {G : List Sn} {st : Int} {al : Option Addr} {cl : Nat} {L : List Nat} (h : Sbox w B X S) (hSh : Shape S) (hF : SafeAt w a c ⟨G, st, false⟩) (hf : G.length = S.groups.length) (hB : By w al S.groups.length L) (h4 : allIs L 4 = false) (hH : hasIt L 4 = false) (hs : st ≤ 0) (hz : oneV S ⟨G, st, false⟩ L = 0) (hm : mtB S L = false) (ho : soonB S ⟨G, st, false⟩ L = true) : Calls Tryd.prog 50 #[.pointer (some ⟨B, 0, none⟩), safeV a c ⟨G, st, false⟩, .slice al S.groups.length cl] w fun e w' => e = .returned (.int .u8 (4)) ∧ Kept w w' none := by
  have hng := hSh.ok.ng
  have hkA : Kept w (w.alloc (.cells #[.slice a G.length c, .int .i64 st, .bool false] 61)) none := Kept.alloc _ _ _ _ _
  have bx := box_alloc w (.slice a G.length c) (.int .i64 st) (.bool false) 61
  have HKA := Hid.mk' hkA
  have HBX := Hid.mk' bx
  have HSB := Hid.mk' (h.kept hkA)
  have HF := Hid.mk' (hF.kept hkA)
  have HB := Hid.mk' (hB.kept hkA)
  have HSH := Hid.mk' hSh
  have HFN := Hid.mk' hf
  have c1 := h.c1
  have hBlt := h.lt
  have hK0 := Kept.refl (w.alloc (.cells #[.slice a G.length c, .int .i64 st, .bool false] 61)) none
  obtain ⟨W0, hW0⟩ : ∃ W0, w.alloc (.cells #[.slice a G.length c, .int .i64 st, .bool false] 61) = W0 := ⟨_, rfl⟩
  rw [hW0] at HKA HBX HSB HF HB hK0
  have b0 : ∀ w', Kept W0 w' none → w'.cell? ⟨w.heap.size, 0, none⟩ = some (.slice a G.length c) := fun w' q => (HBX.out.kept q).c0
  have b1 : ∀ w', Kept W0 w' none → w'.cell? ⟨w.heap.size, 1, none⟩ = some (.int .i64 st) := fun w' q => (HBX.out.kept q).c1
  have b2 : ∀ w', Kept W0 w' none → w'.cell? ⟨w.heap.size, 2, none⟩ = some (.bool false) := fun w' q => (HBX.out.kept q).c2
  have d1 : ∀ w', Kept W0 w' none → w'.cell? ⟨B, 1, none⟩ = some (.slice X.g S.groups.length X.gc) := fun w' q => (HSB.out.kept q).c1
  clear h hF hB hSh hf hkA bx c1
  go_enter Tryd.func50, Tryd.ntmps50
  go_wp2_with (first
    | rw [hW0]
    | (go_at_call 88; refine (all_any (HB.out.kept (by assumption)) _).mono ?_; rintro e wA ⟨rfl, hkA⟩; have hKA : Kept W0 wA none := Kept.tr (by assumption) hkA)
    | (go_at_call 89; refine (contains_any (HB.out.kept (by assumption)) _).mono ?_; rintro e wB ⟨rfl, hwB⟩; have hwB := hwB.symm; subst hwB)
    | (go_at_call 90; refine (one_any (HSB.out.kept (by assumption)) HSH.out.ok (HF.out.kept (by assumption)) HFN.out (HB.out.kept (by assumption)) rfl).mono ?_; rintro e wC ⟨rfl, hkC⟩; have hKC : Kept W0 wC none := Kept.tr (by assumption) hkC)
    | (go_at_call 87; refine (meet_any (HSB.out.kept (by assumption)) HSH.out.ok (HB.out.kept (by assumption)) rfl).mono ?_; rintro e wD ⟨rfl, hwD⟩; have hwD := hwD.symm; subst hwD)
    | (go_at_call 91; refine (soon_any (HSB.out.kept (by assumption)) HSH.out (HF.out.kept (by assumption)) HFN.out (HB.out.kept (by assumption)) rfl).mono ?_; rintro e wE ⟨rfl, hkE⟩; have hKE : Kept W0 wE none := Kept.tr (by assumption) hkE))
  go_ret
  exact ⟨rfl, HKA.out.tr (by assumption)⟩
set_option maxRecDepth 100000 in
set_option maxHeartbeats 1000000 in
theorem fault_cnone {w : World} {B : Nat} {X : Sa} {S : St} {a : Option Addr} {c : Nat} {G : List Sn} {st : Int} {al : Option Addr} {cl : Nat} {L : List Nat} (h : Sbox w B X S) (hSh : Shape S) (hF : SafeAt w a c ⟨G, st, false⟩) (hf : G.length = S.groups.length) (hB : By w al S.groups.length L) (h4 : allIs L 4 = false) (hH : hasIt L 4 = false) (hs : st ≤ 0) (hz : oneV S ⟨G, st, false⟩ L = 0) (hm : mtB S L = false) (ho : soonB S ⟨G, st, false⟩ L = false) : Calls Tryd.prog 50 #[.pointer (some ⟨B, 0, none⟩), safeV a c ⟨G, st, false⟩, .slice al S.groups.length cl] w fun e w' => e = .returned (.int .u8 (0)) ∧ Kept w w' none := by
  have hng := hSh.ok.ng
  have hkA : Kept w (w.alloc (.cells #[.slice a G.length c, .int .i64 st, .bool false] 61)) none := Kept.alloc _ _ _ _ _
  have bx := box_alloc w (.slice a G.length c) (.int .i64 st) (.bool false) 61
  have HKA := Hid.mk' hkA
  have HBX := Hid.mk' bx
  have HSB := Hid.mk' (h.kept hkA)
  have HF := Hid.mk' (hF.kept hkA)
  have HB := Hid.mk' (hB.kept hkA)
  have HSH := Hid.mk' hSh
  have HFN := Hid.mk' hf
  have c1 := h.c1
  have hBlt := h.lt
  have hK0 := Kept.refl (w.alloc (.cells #[.slice a G.length c, .int .i64 st, .bool false] 61)) none
  obtain ⟨W0, hW0⟩ : ∃ W0, w.alloc (.cells #[.slice a G.length c, .int .i64 st, .bool false] 61) = W0 := ⟨_, rfl⟩
  rw [hW0] at HKA HBX HSB HF HB hK0
  have b0 : ∀ w', Kept W0 w' none → w'.cell? ⟨w.heap.size, 0, none⟩ = some (.slice a G.length c) := fun w' q => (HBX.out.kept q).c0
  have b1 : ∀ w', Kept W0 w' none → w'.cell? ⟨w.heap.size, 1, none⟩ = some (.int .i64 st) := fun w' q => (HBX.out.kept q).c1
  have b2 : ∀ w', Kept W0 w' none → w'.cell? ⟨w.heap.size, 2, none⟩ = some (.bool false) := fun w' q => (HBX.out.kept q).c2
  have d1 : ∀ w', Kept W0 w' none → w'.cell? ⟨B, 1, none⟩ = some (.slice X.g S.groups.length X.gc) := fun w' q => (HSB.out.kept q).c1
  clear h hF hB hSh hf hkA bx c1
  go_enter Tryd.func50, Tryd.ntmps50
  go_wp2_with (first
    | rw [hW0]
    | (go_at_call 88; refine (all_any (HB.out.kept (by assumption)) _).mono ?_; rintro e wA ⟨rfl, hkA⟩; have hKA : Kept W0 wA none := Kept.tr (by assumption) hkA)
    | (go_at_call 89; refine (contains_any (HB.out.kept (by assumption)) _).mono ?_; rintro e wB ⟨rfl, hwB⟩; have hwB := hwB.symm; subst hwB)
    | (go_at_call 90; refine (one_any (HSB.out.kept (by assumption)) HSH.out.ok (HF.out.kept (by assumption)) HFN.out (HB.out.kept (by assumption)) rfl).mono ?_; rintro e wC ⟨rfl, hkC⟩; have hKC : Kept W0 wC none := Kept.tr (by assumption) hkC)
    | (go_at_call 87; refine (meet_any (HSB.out.kept (by assumption)) HSH.out.ok (HB.out.kept (by assumption)) rfl).mono ?_; rintro e wD ⟨rfl, hwD⟩; have hwD := hwD.symm; subst hwD)
    | (go_at_call 91; refine (soon_any (HSB.out.kept (by assumption)) HSH.out (HF.out.kept (by assumption)) HFN.out (HB.out.kept (by assumption)) rfl).mono ?_; rintro e wE ⟨rfl, hkE⟩; have hKE : Kept W0 wE none := Kept.tr (by assumption) hkE))
  go_ret
  exact ⟨rfl, HKA.out.tr (by assumption)⟩

end Go.Proofs.YtfhmfanmnhclfaaDoor

/-
  THE CONTRACTS of moveOn and of faultOf, whatever the lights.
-/
namespace Go.Proofs.YtfhmfanmnhclfaaDoor
open Go.RowKit Go.Lib Go.Deep
set_option linter.unusedVariables false
set_option linter.unusedSimpArgs false

/-! ### faultOf -/
set_option maxRecDepth 100000 in
set_option maxHeartbeats 1000000 in
theorem fault_count {w : World} {B : Nat} {X : Sa} {S : St} {a : Option Addr} {c : Nat} {F : Sf} {al : Option Addr} {n cl : Nat} (h : Sbox w B X S) (hn : n ≠ S.groups.length) : Calls Tryd.prog 50 #[.pointer (some ⟨B, 0, none⟩), safeV a c F, .slice al n cl] w fun e w' => e = .returned (.int .u8 1) ∧ Kept w w' none := by
  have c1 := h.c1
  have hBlt := h.lt
  have hnb : ((n : Int) != (S.groups.length : Int)) = true := by simp; omega
  clear h hn
  go_enter Tryd.func50, Tryd.ntmps50
  go_wp2
  go_ret
  exact ⟨rfl, Kept.alloc _ _ _ _ _⟩
theorem fault_any {w : World} {B : Nat} {X : Sa} {S : St} {a : Option Addr} {c : Nat} {F : Sf} {al : Option Addr} {n cl : Nat} {L : List Nat} (h : Sbox w B X S) (hSh : Shape S) (hF : SafeAt w a c F) (hf : F.groups.length = S.groups.length) (hB : By w al n L) : Calls Tryd.prog 50 #[.pointer (some ⟨B, 0, none⟩), safeV a c F, .slice al n cl] w fun e w' => e = .returned (.int .u8 (faultV S F L)) ∧ Kept w w' none := by
  unfold faultV
  by_cases hn : n = S.groups.length
  · subst hn
    rw [if_neg (by simp [hB.size])]
    obtain ⟨G, st, fl⟩ := F
    dsimp only at hf ⊢
    cases h4 : allIs L 4 with
    | true => rw [if_pos rfl]; exact fault_flash h hSh hF hf hB h4
    | false =>
      rw [if_neg (by simp)]
      cases hH : hasIt L 4 with
      | true => rw [if_pos rfl]; exact fault_some h hSh hF hf hB h4 hH
      | false =>
        rw [if_neg (by simp)]
        have one0 : oneV S ⟨G, st, true⟩ L = 0 := by unfold oneV; simp
        cases h1 : allIs L 1 with
        | false =>
          cases fl with
          | true => rw [if_pos (by simp)]; exact fault_start1 h hSh hF hf hB h4 hH h1
          | false =>
            by_cases hs : 0 < st
            · rw [if_pos (by simp [hs])]; exact fault_start2 h hSh hF hf hB h4 hH hs h1
            · rw [if_neg (by simp [hs])]
              by_cases hz : oneV S ⟨G, st, false⟩ L = 0
              · rw [if_neg (by simp [hz])]
                cases hm : mtB S L with
                | true => rw [if_pos rfl]; exact fault_cmeet h hSh hF hf hB h4 hH (by omega) hz hm
                | false =>
                  rw [if_neg (by simp)]
                  cases ho : soonB S ⟨G, st, false⟩ L with
                  | true => rw [if_pos rfl]; exact fault_csoon h hSh hF hf hB h4 hH (by omega) hz hm ho
                  | false => rw [if_neg (by simp)]; exact fault_cnone h hSh hF hf hB h4 hH (by omega) hz hm ho
              · rw [if_pos hz]; exact fault_cone h hSh hF hf hB h4 hH (by omega) (by simpa using hz)
        | true =>
          rw [if_neg (by simp)]
          cases fl with
          | true =>
            rw [if_neg (by simp [one0])]
            cases hm : mtB S L with
            | true => rw [if_pos rfl]; exact fault_ameet h hSh hF hf hB h4 hH h1 one0 hm
            | false =>
              rw [if_neg (by simp)]
              cases ho : soonB S ⟨G, st, true⟩ L with
              | true => rw [if_pos rfl]; exact fault_asoon h hSh hF hf hB h4 hH h1 one0 hm ho
              | false => rw [if_neg (by simp)]; exact fault_anone h hSh hF hf hB h4 hH h1 one0 hm ho
          | false =>
            by_cases hs : 0 < st
            · by_cases hz : oneV S ⟨G, st, false⟩ L = 0
              · rw [if_neg (by simp [hz])]
                cases hm : mtB S L with
                | true => rw [if_pos rfl]; exact fault_bmeet h hSh hF hf hB h4 hH hs h1 hz hm
                | false =>
                  rw [if_neg (by simp)]
                  cases ho : soonB S ⟨G, st, false⟩ L with
                  | true => rw [if_pos rfl]; exact fault_bsoon h hSh hF hf hB h4 hH hs h1 hz hm ho
                  | false => rw [if_neg (by simp)]; exact fault_bnone h hSh hF hf hB h4 hH hs h1 hz hm ho
              · rw [if_pos hz]; exact fault_bone h hSh hF hf hB h4 hH hs h1 (by simpa using hz)
            · by_cases hz : oneV S ⟨G, st, false⟩ L = 0
              · rw [if_neg (by simp [hz])]
                cases hm : mtB S L with
                | true => rw [if_pos rfl]; exact fault_cmeet h hSh hF hf hB h4 hH (by omega) hz hm
                | false =>
                  rw [if_neg (by simp)]
                  cases ho : soonB S ⟨G, st, false⟩ L with
                  | true => rw [if_pos rfl]; exact fault_csoon h hSh hF hf hB h4 hH (by omega) hz hm ho
                  | false => rw [if_neg (by simp)]; exact fault_cnone h hSh hF hf hB h4 hH (by omega) hz hm ho
              · rw [if_pos hz]; exact fault_cone h hSh hF hf hB h4 hH (by omega) (by simpa using hz)
  · rw [if_pos (by rw [hB.size]; exact hn)]
    exact fault_count h hn

/-! ### moveOn -/
theorem Box.other {w : World} {b : Nat} {v0 v1 v2 : Value} (h : Box w b v0 v1 v2) {p : Addr} (hp : p.block ≠ b) (v : Value) : Box (w.setCell p v) b v0 v1 v2 := by
  have e : (w.setCell p v).heap[b]? = w.heap[b]? := blk_setCell_other _ _ _ _ (fun e => hp e.symm)
  exact ⟨(World.cell?_of_block (w := w) (a := ⟨b, 0, none⟩) e).trans h.c0, (World.cell?_of_block (w := w) (a := ⟨b, 1, none⟩) e).trans h.c1, (World.cell?_of_block (w := w) (a := ⟨b, 2, none⟩) e).trans h.c2, (World.frozen?_of_block (w := w) (a := ⟨b, 0, none⟩) e).trans h.f0, (World.frozen?_of_block (w := w) (a := ⟨b, 1, none⟩) e).trans h.f1, (World.frozen?_of_block (w := w) (a := ⟨b, 2, none⟩) e).trans h.f2, by simpa [World.setCell] using h.lt⟩
theorem Box.set1 {w : World} {b : Nat} {v0 v1 v2 : Value} (h : Box w b v0 v1 v2) (v : Value) : Box (w.setCell ⟨b, 1, none⟩ v) b v0 v v2 :=
  ⟨(World.cell?_setCell_other _ _ _ _ (by simp)).trans h.c0, World.cell?_setCell_same _ _ _ h.c1, (World.cell?_setCell_other _ _ _ _ (by simp)).trans h.c2, (World.frozen?_setCell ..).trans h.f0, (World.frozen?_setCell ..).trans h.f1, (World.frozen?_setCell ..).trans h.f2, by simpa [World.setCell] using h.lt⟩
theorem Box.set2 {w : World} {b : Nat} {v0 v1 v2 : Value} (h : Box w b v0 v1 v2) (v : Value) : Box (w.setCell ⟨b, 2, none⟩ v) b v0 v1 v :=
  ⟨(World.cell?_setCell_other _ _ _ _ (by simp)).trans h.c0, (World.cell?_setCell_other _ _ _ _ (by simp)).trans h.c1, World.cell?_setCell_same _ _ _ h.c2, (World.frozen?_setCell ..).trans h.f0, (World.frozen?_setCell ..).trans h.f1, (World.frozen?_setCell ..).trans h.f2, by simpa [World.setCell] using h.lt⟩
theorem Kept.setRow {a b : World} {g : Nat} (h : Kept a b (some g)) (i : Nat) (v : Value) : Kept a (b.setCell ⟨g, i, none⟩ v) (some g) :=
  ⟨h.os, h.tape, h.output, by simpa [World.setCell] using h.size, fun k hk hr => (Below.heap_setCell _ _ _ _ (fun e => hr (by rw [e]))).trans (h.block k hk hr)⟩
theorem cell_keptS {w w' : World} {r : Option Nat} {B j : Nat} {v : Value} (h : w.cell? ⟨B, j, none⟩ = some v) (q : Kept w w' r) (hr : some B ≠ r) : w'.cell? ⟨B, j, none⟩ = some v :=
  (World.cell?_of_block (w := w) (a := ⟨B, j, none⟩) (q.block B (block_lt h) hr)).trans h
theorem Kept.weakS {w w' : World} (h : Kept w w' none) (r : Option Nat) : Kept w w' r := ⟨h.os, h.tape, h.output, h.size, fun i hi _ => h.block i hi (by simp)⟩
/-- A drawn region's one way, with what holds behind it. -/
def Rs (A : Act) (P : World → Prop) (e : Exit) (a : Act) (w : World) : Prop := match e with
  | .normal => a = A ∧ P w
  | _ => False
theorem Rs.out {A : Act} {P : World → Prop} {w : World} {e : Exit} {a : Act} (h : Rs A P e a w) : e = .normal ∧ a = A ∧ P w := by
  cases e with
  | normal => exact ⟨rfl, h.1, h.2⟩
  | _ => exact h.elim
def mixG (k : Nat) (f g : Nat → Sn) (i : Nat) : Sn := if i < k then f i else g i

end Go.Proofs.YtfhmfanmnhclfaaDoor

/-
  THE CONTRACT of moveOn.
-/
namespace Go.Proofs.YtfhmfanmnhclfaaDoor
open Go.RowKit Go.Lib Go.Deep
set_option linter.unusedVariables false
set_option linter.unusedSimpArgs false

theorem mixG_set {k : Nat} {f g : Nat → Sn} : (fun i => if i = k then f k else mixG k f g i) = mixG (k + 1) f g := by
  funext i
  unfold mixG
  by_cases h : i = k
  · subst h; simp
  · rw [if_neg h]
    by_cases h2 : i < k
    · rw [if_pos h2, if_pos (by omega)]
    · rw [if_neg h2, if_neg (by omega)]
def nextS (gr st : Int) (fl al : Bool) : Int := if al = true then gr else max ((if fl = true then gr else st) - 1) 0
set_option maxRecDepth 100000 in
set_option maxHeartbeats 2000000 in
theorem move_loop {Wb w : World} {B : Nat} {X : Sa} {S : St} {al : Option Addr} {n cl : Nat} {L : List Nat} (hSB : Sbox Wb B X S) (hO : Okay S) (hB : By Wb al n L) (hn : n = S.groups.length) (hk : Kept Wb w none) {bN bG : Nat} (hN : Wb.heap.size ≤ bN) (hG : Wb.heap.size ≤ bG) (hne : bN ≠ bG) {st : Int} {fl : Bool} {g : Nat → Sn} {cg : Nat} (hcg : n ≤ cg) (hcm : cg ≤ 9223372036854775807) (bx : Box w bN (.slice (some ⟨bG, 0, none⟩) n cg) (.int .i64 st) (.bool fl)) (hg : OwnG w bG n g) (gr : Int) (hst : 0 ≤ st ∧ st ≤ 1048576) (hgr : 0 ≤ gr ∧ gr ≤ 1048576) : Calls Tryd.prog 51 #[.pointer (some ⟨B, 0, none⟩), .pointer (some ⟨bN, 0, none⟩), .slice al n cl, .int .i64 gr] w fun e w' => (∃ v, e = .returned v) ∧ Kept Wb w' none ∧ Box w' bN (.slice (some ⟨bG, 0, none⟩) n cg) (.int .i64 (nextS gr st fl (allIs L 4))) (.bool (allIs L 4)) ∧ OwnG w' bG n (fun i => sndV (g i) (lg L i)) := by
  subst hn
  have hng := hO.ng
  obtain ⟨bl, ol, rfl, hbl, hcl⟩ := hB.at_ (by omega)
  have c1 := (hSB.kept hk).c1
  have HSB := Hid.mk' hSB
  have HB := Hid.mk' hB
  have HCL := Hid.mk' hcl
  have HNG := Hid.mk' hne
  clear hSB hO hB hcl
  go_enter Tryd.func51, Tryd.ntmps51
  go_wp2
  go_loopw [8, 9, 16] (fun _ _ i wr => ∃ k : Nat, k ≤ S.groups.length ∧ i = .int .i64 k ∧ Kept Wb wr none ∧ Box wr bN (.slice (some ⟨bG, 0, none⟩) S.groups.length cg) (.int .i64 st) (.bool fl) ∧ OwnG wr bG S.groups.length (mixG k (fun i => sndV (g i) (lg L i)) g)) (fun _ _ i _ => S.groups.length - (intOf i).toNat)
  case atStart => exact ⟨0, by omega, rfl, hk, bx, hg.congr (fun i hi => by unfold gcell mixG; simp)⟩
  case round =>
    obtain ⟨k, hk2, rfl, hkw, hbx, hgw⟩ := hrel
    have HKW := Hid.mk' hkw
    have HBX := Hid.mk' hbx
    have HGW := Hid.mk' hgw
    clear hkw hbx hgw hk bx hg c1
    by_cases hlt : k < S.groups.length
    · obtain ⟨bg, og, eg, g0, g1, g2⟩ := (HSB.out.kept HKW.out).sat.grAt hlt
      rw [eg]
      clear eg
      have hbg := block_lt g0
      have l0 := HCL.out k hlt
      rw [show L.getD k 0 = lg L k from rfl] at l0
      obtain ⟨s0, s1, s2⟩ := HGW.out.cells hlt
      have hmk : mixG k (fun i => sndV (g i) (lg L i)) g k = g k := by unfold mixG; rw [if_neg (by omega)]
      rw [hmk] at s0 s1 s2
      have hset : OwnG wr bG S.groups.length (mixG k (fun i => sndV (g i) (lg L i)) g) → True := fun _ => trivial
      generalize S.gr k = G at *
      have hbG := HGW.out.lt
      have hbN := HBX.out.lt
      go_wp2
      clear g0 g1 g2
      obtain ⟨W1, hW1⟩ : ∃ W1, wr.alloc (.cells #[.int .u8 (G.kind : Int), .int .i64 G.min, .int .i64 G.yellow] 77) = W1 := ⟨_, rfl⟩
      have bg1 := box_alloc wr (.int .u8 (G.kind : Int)) (.int .i64 G.min) (.int .i64 G.yellow) 77
      have k01 : Kept wr W1 none := by rw [← hW1]; exact Kept.alloc _ _ _ _ _
      have K1 := Hid.mk' (HKW.out.tr k01)
      have BG := Hid.mk' bg1
      rw [hW1] at BG ⊢
      have hg1 : OwnG W1 bG S.groups.length (mixG k (fun i => sndV (g i) (lg L i)) g) := row_kept HGW.out k01 (by simp)
      have HG1 := Hid.mk' hg1
      have HBX1 := Hid.mk' (HBX.out.kept k01)
      have hz0 := hg1.frozen (k * 3)
      have hz1 := hg1.frozen (k * 3 + 1)
      have hz2 := hg1.frozen (k * 3 + 2)
      have t0 := cell_kept0 s0 k01
      have t1 := cell_kept0 s1 k01
      have t2 := cell_kept0 s2 k01
      have hne1 : some wr.heap.size ≠ some bG := by intro e; have := Option.some.inj e; omega
      have hne2 : some bN ≠ some bG := by intro e; have := Option.some.inj e; exact HNG.out this
      have hne3 : some bl ≠ some bG := by intro e; have := Option.some.inj e; omega
      have e0 : ∀ w', Kept W1 w' (some bG) → w'.cell? ⟨wr.heap.size, 0, none⟩ = some (.int .u8 (G.kind : Int)) := fun w' q => cell_keptS BG.out.c0 q hne1
      have e1 : ∀ w', Kept W1 w' (some bG) → w'.cell? ⟨wr.heap.size, 1, none⟩ = some (.int .i64 G.min) := fun w' q => cell_keptS BG.out.c1 q hne1
      have e2 : ∀ w', Kept W1 w' (some bG) → w'.cell? ⟨wr.heap.size, 2, none⟩ = some (.int .i64 G.yellow) := fun w' q => cell_keptS BG.out.c2 q hne1
      have f0 : ∀ w', Kept W1 w' (some bG) → w'.cell? ⟨bN, 0, none⟩ = some (.slice (some ⟨bG, 0, none⟩) S.groups.length cg) := fun w' q => cell_keptS HBX1.out.c0 q hne2
      have m0 : ∀ w', Kept W1 w' (some bG) → w'.cell? ⟨bl, ol + k, none⟩ = some (.int .u8 (lg L k : Int)) := fun w' q => cell_keptS (cell_kept0 l0 K1.out) q hne3
      clear hW1 bg1 k01 s0 s1 s2 l0 hg1
      refine Code.wp_mono (Q := Rs ?A (fun w' => Kept Wb w' none ∧ Box w' bN (.slice (some ⟨bG, 0, none⟩) S.groups.length cg) (.int .i64 st) (.bool fl) ∧ OwnG w' bG S.groups.length (mixG (k + 1) (fun i => sndV (g i) (lg L i)) g))) ?cont ?reg
      case reg =>
        repeat (rename_i hh; clear hh)
        refine wp_region_held_drew (S := fun w' => Kept W1 w' (some bG)) (by kernel_rfl) (Kept.drew _ _) (fun hHeld => ?_)
        refine held_take (i := 0) (v := ?v1) rfl rfl (by kernel_rfl) (by kernel_rfl) (by kernel_rfl) (fun _ _ _ h => h) (Or.inl ⟨by rfl, ?hy1⟩) hHeld ?rest1
        case hy1 => first | (intro w hSw; (try dsimp only at hSw); go_simp; done) | (intro w hSw; (try dsimp only at hSw); go_simp; with_reducible rfl)
        try simp only [List.setIfInBounds_toArray, List.set_cons_zero, List.set_cons_succ]
        refine held_take (i := 1) (v := ?v2) rfl rfl (by kernel_rfl) (by kernel_rfl) (by kernel_rfl) (fun _ _ _ h => h) (Or.inl ⟨by rfl, ?hy2⟩) hHeld ?rest2
        case hy2 => first | (intro w hSw; (try dsimp only at hSw); go_simp; done) | (intro w hSw; (try dsimp only at hSw); go_simp; with_reducible rfl)
        try simp only [List.setIfInBounds_toArray, List.set_cons_zero, List.set_cons_succ]
        refine held_take (i := 2) (v := ?v3) rfl rfl (by kernel_rfl) (by kernel_rfl) (by kernel_rfl) (fun _ _ _ h => h) (Or.inl ⟨by rfl, ?hy3⟩) hHeld ?rest3
        case hy3 => first | (intro w hSw; (try dsimp only at hSw); go_simp; done) | (intro w hSw; (try dsimp only at hSw); go_simp; with_reducible rfl)
        try simp only [List.setIfInBounds_toArray, List.set_cons_zero, List.set_cons_succ]
        refine held_take (i := 3) (v := ?v4) rfl rfl (by kernel_rfl) (by kernel_rfl) (by kernel_rfl) (fun _ _ _ h => h) (Or.inl ⟨by rfl, ?hy4⟩) hHeld ?rest4
        case hy4 => first | (intro w hSw; (try dsimp only at hSw); go_simp; done) | (intro w hSw; (try dsimp only at hSw); go_simp; with_reducible rfl)
        try simp only [List.setIfInBounds_toArray, List.set_cons_zero, List.set_cons_succ]
        refine held_take (i := 4) (v := ?v5) rfl rfl (by kernel_rfl) (by kernel_rfl) (by kernel_rfl) (fun _ _ _ h => h) (Or.inl ⟨by rfl, ?hy5⟩) hHeld ?rest5
        case hy5 => first | (intro w hSw; (try dsimp only at hSw); go_simp; done) | (intro w hSw; (try dsimp only at hSw); go_simp; with_reducible rfl)
        try simp only [List.setIfInBounds_toArray, List.set_cons_zero, List.set_cons_succ]
        refine held_take (i := 5) (v := ?v6) rfl rfl (by kernel_rfl) (by kernel_rfl) (by kernel_rfl) (fun _ _ _ h => h) (Or.inl ⟨by rfl, ?hy6⟩) hHeld ?rest6
        case hy6 => first | (intro w hSw; (try dsimp only at hSw); go_simp; done) | (intro w hSw; (try dsimp only at hSw); go_simp; with_reducible rfl)
        try simp only [List.setIfInBounds_toArray, List.set_cons_zero, List.set_cons_succ]
        refine held_take (i := 6) (v := ?v7) rfl rfl (by kernel_rfl) (by kernel_rfl) (by kernel_rfl) (fun _ _ _ h => h) (Or.inl ⟨by rfl, ?hy7⟩) hHeld ?rest7
        case hy7 => first | (intro w hSw; (try dsimp only at hSw); go_simp; done) | (intro w hSw; (try dsimp only at hSw); go_simp; with_reducible rfl)
        try simp only [List.setIfInBounds_toArray, List.set_cons_zero, List.set_cons_succ]
        refine held_take (i := 7) (v := ?v8) rfl rfl (by kernel_rfl) (by kernel_rfl) (by kernel_rfl) (fun _ _ _ h => h) (Or.inl ⟨by rfl, ?hy8⟩) hHeld ?rest8
        case hy8 => first | (intro w hSw; (try dsimp only at hSw); go_simp; done) | (intro w hSw; (try dsimp only at hSw); go_simp; with_reducible rfl)
        try simp only [List.setIfInBounds_toArray, List.set_cons_zero, List.set_cons_succ]
        refine held_take (i := 8) (v := ?v9) rfl rfl (by kernel_rfl) (by kernel_rfl) (by kernel_rfl) (fun _ _ _ h => h) (Or.inl ⟨by rfl, ?hy9⟩) hHeld ?rest9
        case hy9 => first | (intro w hSw; (try dsimp only at hSw); go_simp; done) | (intro w hSw; (try dsimp only at hSw); go_simp; with_reducible rfl)
        try simp only [List.setIfInBounds_toArray, List.set_cons_zero, List.set_cons_succ]
        refine held_take (i := 9) (v := ?v10) rfl rfl (by kernel_rfl) (by kernel_rfl) (by kernel_rfl) (fun _ _ _ h => h) (Or.inl ⟨by rfl, ?hy10⟩) hHeld ?rest10
        case hy10 => first | (intro w hSw; (try dsimp only at hSw); go_simp; done) | (intro w hSw; (try dsimp only at hSw); go_simp; with_reducible rfl)
        try simp only [List.setIfInBounds_toArray, List.set_cons_zero, List.set_cons_succ]
        refine held_take (i := 10) (v := ?v11) rfl rfl (by kernel_rfl) (by kernel_rfl) (by kernel_rfl) (fun _ _ _ h => h) (Or.inl ⟨by rfl, ?hy11⟩) hHeld ?rest11
        case hy11 => first | (intro w hSw; (try dsimp only at hSw); go_simp; done) | (intro w hSw; (try dsimp only at hSw); go_simp; with_reducible rfl)
        try simp only [List.setIfInBounds_toArray, List.set_cons_zero, List.set_cons_succ]
        refine held_take (i := 11) (v := ?v12) rfl rfl (by kernel_rfl) (by kernel_rfl) (by kernel_rfl) (fun _ _ _ h => h) (Or.inl ⟨by rfl, ?hy12⟩) hHeld ?rest12
        case hy12 => first | (intro w hSw; (try dsimp only at hSw); go_simp; done) | (intro w hSw; (try dsimp only at hSw); go_simp; with_reducible rfl)
        try simp only [List.setIfInBounds_toArray, List.set_cons_zero, List.set_cons_succ]
        refine held_take (i := 13) (v := ?v13) rfl rfl (by kernel_rfl) (by kernel_rfl) (by kernel_rfl) (fun _ _ _ h => h) (Or.inl ⟨by rfl, ?hy13⟩) hHeld ?rest13
        case hy13 => first | (intro w hSw; (try dsimp only at hSw); go_simp; done) | (intro w hSw; (try dsimp only at hSw); go_simp; with_reducible rfl)
        try simp only [List.setIfInBounds_toArray, List.set_cons_zero, List.set_cons_succ]
        refine held_take (i := 14) (v := ?v14) rfl rfl (by kernel_rfl) (by kernel_rfl) (by kernel_rfl) (fun _ _ _ h => h) (Or.inl ⟨by rfl, ?hy14⟩) hHeld ?rest14
        case hy14 => first | (intro w hSw; (try dsimp only at hSw); go_simp; done) | (intro w hSw; (try dsimp only at hSw); go_simp; with_reducible rfl)
        try simp only [List.setIfInBounds_toArray, List.set_cons_zero, List.set_cons_succ]
        refine held_take (i := 15) (v := ?v15) rfl rfl (by kernel_rfl) (by kernel_rfl) (by kernel_rfl) (fun _ _ _ h => h) (Or.inl ⟨by rfl, ?hy15⟩) hHeld ?rest15
        case hy15 => first | (intro w hSw; (try dsimp only at hSw); go_simp; done) | (intro w hSw; (try dsimp only at hSw); go_simp; with_reducible rfl)
        try simp only [List.setIfInBounds_toArray, List.set_cons_zero, List.set_cons_succ]
        refine held_take (i := 16) (v := ?v16) rfl rfl (by kernel_rfl) (by kernel_rfl) (by kernel_rfl) (fun _ _ _ h => h) (Or.inl ⟨by rfl, ?hy16⟩) hHeld ?rest16
        case hy16 => first | (intro w hSw; (try dsimp only at hSw); go_simp; done) | (intro w hSw; (try dsimp only at hSw); go_simp; with_reducible rfl)
        try simp only [List.setIfInBounds_toArray, List.set_cons_zero, List.set_cons_succ]
        refine wpAnyH_ready (rs := [12]) (by kernel_rfl) (by simp) ?_
        refine AllReadyH.cons rfl (fun K hK => ?_) AllReadyH.nil
        go_simp
        refine hK.out _ _ hHeld (fun hHeld => ?_)
        clear hK K
        refine wpAnyH_ready (rs := [17]) (by kernel_rfl) (by simp) ?_
        refine AllReadyH.cons rfl (fun K hK => ?_) AllReadyH.nil
        go_simp
        go_wp2_with (go_at_call 92; refine (next_any _ _ _ _ _ _ _ _).mono ?_; rintro e wS ⟨rfl, hkS⟩)
        have hk1 : Kept W1 wS none := Kept.tr (Kept.drew _ _) hkS
        refine hK.out _ _ (hk1.weakS _) (fun hHeld => ?_)
        clear hK K hkS
        refine held_take (i := 18) (v := ?v17) rfl rfl (by kernel_rfl) (by kernel_rfl) (by kernel_rfl) (fun _ _ _ h => h) (Or.inl ⟨by rfl, ?hy17⟩) hHeld ?rest17
        case hy17 => first | (intro w hSw; (try dsimp only at hSw); go_simp; done) | (intro w hSw; (try dsimp only at hSw); go_simp; with_reducible rfl)
        try simp only [List.setIfInBounds_toArray, List.set_cons_zero, List.set_cons_succ]
        have HGS := Hid.mk' (row_kept HG1.out hk1 (by simp))
        have hz0 := HGS.out.frozen (k * 3)
        have hz1 := HGS.out.frozen (k * 3 + 1)
        have hz2 := HGS.out.frozen (k * 3 + 2)
        have y0 := HGS.out.cell (i := k * 3) (by omega)
        have y1 := HGS.out.cell (i := k * 3 + 1) (by omega)
        have y2 := HGS.out.cell (i := k * 3 + 2) (by omega)
        refine wpAnyH_ready (rs := [19]) (by kernel_rfl) (by simp) ?_
        refine AllReadyH.cons rfl (fun K hK => ?_) AllReadyH.nil
        go_simp
        refine hK.out _ _ (((hHeld.setRow _ _).setRow _ _).setRow _ _) (fun hHeld => ?_)
        clear hK K
        refine wpAnyH_done (by kernel_rfl) ?_ _
        refine And.intro (by with_reducible rfl) ?_
        have hst := OwnG.set HGS.out (i := k) (sndV (g k) (lg L k))
        refine ⟨(((K1.out.tr hk1).setNew (by show Wb.heap.size ≤ bG; omega) _).setNew (by show Wb.heap.size ≤ bG; omega) _).setNew (by show Wb.heap.size ≤ bG; omega) _, (((HBX1.out.kept hk1).other (fun e => HNG.out e.symm) _).other (fun e => HNG.out e.symm) _).other (fun e => HNG.out e.symm) _, ?_⟩
        rw [← mixG_set]
        exact hst
      case cont =>
      intro e a' w' hq
      obtain ⟨rfl, rfl, hkq, hbq, hgq⟩ := hq.out
      go_wp2
      go_roundw
      case rel => exact ⟨k + 1, by omega, by go_num, hkq, hbq, hgq⟩
      case measure => simp [intOf]; omega
    · have e : k = S.groups.length := by omega
      subst e
      have hgf : OwnG wr bG S.groups.length (fun i => sndV (g i) (lg L i)) := HGW.out.congr (fun q hq => by unfold gcell mixG; rw [if_pos (by omega)])
      have HGF := Hid.mk' hgf
      have HAL := Hid.mk' (fun w' (q : Kept wr w' none) => all_any (c := cl) ((HB.out.kept HKW.out).kept q) 4)
      clear hgf
      have hNe : bN ≠ bG := HNG.out
      by_cases h4 : allIs L 4 = true
      · have H4 := Hid.mk' h4
        rw [h4] at HAL
        have HV : Hid (nextS gr st fl (allIs L 4) = gr) := by show _ = _; unfold nextS; rw [if_pos h4]
        clear h4
        go_wp2_with (go_at_call 88; refine (HAL.out _ (Kept.refl _ _)).mono ?_; rintro e wA ⟨rfl, hkA⟩; have BA := Hid.mk' (HBX.out.kept hkA); have c0 := BA.out.c0; have c1 := BA.out.c1; have c2 := BA.out.c2; have z1 := BA.out.f1; have z2 := BA.out.f2)
        go_end0
        rw [HV.out, H4.out]
        exact ⟨⟨_, rfl⟩, (((HKW.out.tr hkA).setNew (by show Wb.heap.size ≤ bN; omega) _).setNew (by show Wb.heap.size ≤ bN; omega) _), (BA.out.set1 _).set2 _, (((row_kept HGF.out hkA (by simp)).setOther hNe.symm _).setOther hNe.symm _)⟩
      · have h4 : allIs L 4 = false := by simpa using h4
        have H4 := Hid.mk' h4
        rw [h4] at HAL
        cases fl with
        | true =>
          by_cases hv : gr = 0
          · subst hv
            have HV : Hid (nextS 0 st true (allIs L 4) = 0) := by show _ = _; unfold nextS; rw [h4, if_neg (by simp), if_pos rfl]; rfl
            clear h4
            go_wp2_with (go_at_call 88; refine (HAL.out _ (Kept.refl _ _)).mono ?_; rintro e wA ⟨rfl, hkA⟩; have BA := Hid.mk' (HBX.out.kept hkA); have c0 := BA.out.c0; have c1 := BA.out.c1; have c2 := BA.out.c2; have z1 := BA.out.f1; have z2 := BA.out.f2)
            go_end0
            rw [HV.out, H4.out]
            exact ⟨⟨_, rfl⟩, ((((HKW.out.tr hkA).setNew (by show Wb.heap.size ≤ bN; omega) _).setNew (by show Wb.heap.size ≤ bN; omega) _).setNew (by show Wb.heap.size ≤ bN; omega) _), ((BA.out.set1 _).set1 _).set2 _, ((((row_kept HGF.out hkA (by simp)).setOther hNe.symm _).setOther hNe.symm _).setOther hNe.symm _)⟩
          · have HV : Hid (nextS gr st true (allIs L 4) = gr - 1) := by show _ = _; unfold nextS; rw [h4, if_neg (by simp), if_pos rfl]; omega
            have hv1 : 0 ≤ gr - 1 := by omega
            clear h4
            go_wp2_with (go_at_call 88; refine (HAL.out _ (Kept.refl _ _)).mono ?_; rintro e wA ⟨rfl, hkA⟩; have BA := Hid.mk' (HBX.out.kept hkA); have c0 := BA.out.c0; have c1 := BA.out.c1; have c2 := BA.out.c2; have z1 := BA.out.f1; have z2 := BA.out.f2)
            go_end0
            rw [HV.out, H4.out]
            exact ⟨⟨_, rfl⟩, ((((HKW.out.tr hkA).setNew (by show Wb.heap.size ≤ bN; omega) _).setNew (by show Wb.heap.size ≤ bN; omega) _).setNew (by show Wb.heap.size ≤ bN; omega) _), ((BA.out.set1 _).set1 _).set2 _, ((((row_kept HGF.out hkA (by simp)).setOther hNe.symm _).setOther hNe.symm _).setOther hNe.symm _)⟩
        | false =>
          by_cases hv : st = 0
          · subst hv
            have HV : Hid (nextS gr 0 false (allIs L 4) = 0) := by show _ = _; unfold nextS; rw [h4, if_neg (by simp), if_neg (by simp)]; rfl
            clear h4
            go_wp2_with (go_at_call 88; refine (HAL.out _ (Kept.refl _ _)).mono ?_; rintro e wA ⟨rfl, hkA⟩; have BA := Hid.mk' (HBX.out.kept hkA); have c0 := BA.out.c0; have c1 := BA.out.c1; have c2 := BA.out.c2; have z1 := BA.out.f1; have z2 := BA.out.f2)
            go_end0
            rw [HV.out, H4.out]
            exact ⟨⟨_, rfl⟩, (((HKW.out.tr hkA).setNew (by show Wb.heap.size ≤ bN; omega) _).setNew (by show Wb.heap.size ≤ bN; omega) _), (BA.out.set1 _).set2 _, (((row_kept HGF.out hkA (by simp)).setOther hNe.symm _).setOther hNe.symm _)⟩
          · have HV : Hid (nextS gr st false (allIs L 4) = st - 1) := by show _ = _; unfold nextS; rw [h4, if_neg (by simp), if_neg (by simp)]; omega
            have hv1 : 0 ≤ st - 1 := by omega
            clear h4
            go_wp2_with (go_at_call 88; refine (HAL.out _ (Kept.refl _ _)).mono ?_; rintro e wA ⟨rfl, hkA⟩; have BA := Hid.mk' (HBX.out.kept hkA); have c0 := BA.out.c0; have c1 := BA.out.c1; have c2 := BA.out.c2; have z1 := BA.out.f1; have z2 := BA.out.f2)
            go_end0
            rw [HV.out, H4.out]
            exact ⟨⟨_, rfl⟩, (((HKW.out.tr hkA).setNew (by show Wb.heap.size ≤ bN; omega) _).setNew (by show Wb.heap.size ≤ bN; omega) _), (BA.out.set1 _).set2 _, (((row_kept HGF.out hkA (by simp)).setOther hNe.symm _).setOther hNe.symm _)⟩

end Go.Proofs.YtfhmfanmnhclfaaDoor

