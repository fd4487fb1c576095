/-
  THE CONTRACT of faultOf (made by a program: a way each).
-/
import Derived.Test.YtcgflfngoaccoaaDoorSafeB
namespace Go.Proofs.YtcgflfngoaccoaaDoor
open Go.RowKit Go.Lib Go.Deep
set_option linter.unusedVariables false
set_option linter.unusedSimpArgs false

set_option maxRecDepth 100000 in
set_option maxHeartbeats 1000000 in
theorem fault_flash {w : World} {B : Nat} {X : Sa} {S : St} {a : Option Addr} {c : Nat} {G : List Sn} {st : Int} {fl : Bool} {al : Option Addr} {cl : Nat} {L : List Nat} (h : Sbox w B X S) (hSh : Shape S) (hF : SafeAt w a c ⟨G, st, fl⟩) (hf : G.length = S.groups.length) (hB : By w al S.groups.length L) (h4 : allIs L 4 = true) : Calls Tryd.prog 10 #[.pointer (some ⟨B, 0, none⟩), safeV a c ⟨G, st, fl⟩, .slice al S.groups.length cl] w fun e w' => e = .returned (.int .u8 (0)) ∧ Kept w w' none := by
  have hng := hSh.ok.ng
  have hkA : Kept w (w.alloc (.cells #[.slice a G.length c, .int .i64 st, .bool fl] 45)) none := Kept.alloc _ _ _ _ _
  have bx := box_alloc w (.slice a G.length c) (.int .i64 st) (.bool fl) 45
  have HKA := Hid.mk' hkA
  have HBX := Hid.mk' bx
  have HSB := Hid.mk' (h.kept hkA)
  have HF := Hid.mk' (hF.kept hkA)
  have HB := Hid.mk' (hB.kept hkA)
  have HSH := Hid.mk' hSh
  have HFN := Hid.mk' hf
  have c1 := h.c1
  have hBlt := h.lt
  have hK0 := Kept.refl (w.alloc (.cells #[.slice a G.length c, .int .i64 st, .bool fl] 45)) none
  obtain ⟨W0, hW0⟩ : ∃ W0, w.alloc (.cells #[.slice a G.length c, .int .i64 st, .bool fl] 45) = W0 := ⟨_, rfl⟩
  rw [hW0] at HKA HBX HSB HF HB hK0
  have b0 : ∀ w', Kept W0 w' none → w'.cell? ⟨w.heap.size, 0, none⟩ = some (.slice a G.length c) := fun w' q => (HBX.out.kept q).c0
  have b1 : ∀ w', Kept W0 w' none → w'.cell? ⟨w.heap.size, 1, none⟩ = some (.int .i64 st) := fun w' q => (HBX.out.kept q).c1
  have b2 : ∀ w', Kept W0 w' none → w'.cell? ⟨w.heap.size, 2, none⟩ = some (.bool fl) := fun w' q => (HBX.out.kept q).c2
  have d1 : ∀ w', Kept W0 w' none → w'.cell? ⟨B, 1, none⟩ = some (.slice X.g S.groups.length X.gc) := fun w' q => (HSB.out.kept q).c1
  clear h hF hB hSh hf hkA bx c1
  go_enter Tryd.func10, Tryd.ntmps10
  go_wp2_with (first
    | rw [hW0]
    | (go_at_call 17; refine (all_any (HB.out.kept (by assumption)) _).mono ?_; rintro e wA ⟨rfl, hkA⟩; have hKA : Kept W0 wA none := Kept.tr (by assumption) hkA)
    | (go_at_call 18; refine (contains_any (HB.out.kept (by assumption)) _).mono ?_; rintro e wB ⟨rfl, hwB⟩; have hwB := hwB.symm; subst hwB)
    | (go_at_call 19; refine (one_any (HSB.out.kept (by assumption)) HSH.out.ok (HF.out.kept (by assumption)) HFN.out (HB.out.kept (by assumption)) rfl).mono ?_; rintro e wC ⟨rfl, hkC⟩; have hKC : Kept W0 wC none := Kept.tr (by assumption) hkC)
    | (go_at_call 20; refine (meet_any (HSB.out.kept (by assumption)) HSH.out.ok (HB.out.kept (by assumption)) rfl).mono ?_; rintro e wD ⟨rfl, hwD⟩; have hwD := hwD.symm; subst hwD)
    | (go_at_call 21; refine (soon_any (HSB.out.kept (by assumption)) HSH.out (HF.out.kept (by assumption)) HFN.out (HB.out.kept (by assumption)) rfl).mono ?_; rintro e wE ⟨rfl, hkE⟩; have hKE : Kept W0 wE none := Kept.tr (by assumption) hkE))
  go_ret
  exact ⟨rfl, HKA.out.tr (by assumption)⟩
set_option maxRecDepth 100000 in
set_option maxHeartbeats 1000000 in
theorem fault_some {w : World} {B : Nat} {X : Sa} {S : St} {a : Option Addr} {c : Nat} {G : List Sn} {st : Int} {fl : Bool} {al : Option Addr} {cl : Nat} {L : List Nat} (h : Sbox w B X S) (hSh : Shape S) (hF : SafeAt w a c ⟨G, st, fl⟩) (hf : G.length = S.groups.length) (hB : By w al S.groups.length L) (h4 : allIs L 4 = false) (hH : hasIt L 4 = true) : Calls Tryd.prog 10 #[.pointer (some ⟨B, 0, none⟩), safeV a c ⟨G, st, fl⟩, .slice al S.groups.length cl] w fun e w' => e = .returned (.int .u8 (7)) ∧ Kept w w' none := by
  have hng := hSh.ok.ng
  have hkA : Kept w (w.alloc (.cells #[.slice a G.length c, .int .i64 st, .bool fl] 45)) none := Kept.alloc _ _ _ _ _
  have bx := box_alloc w (.slice a G.length c) (.int .i64 st) (.bool fl) 45
  have HKA := Hid.mk' hkA
  have HBX := Hid.mk' bx
  have HSB := Hid.mk' (h.kept hkA)
  have HF := Hid.mk' (hF.kept hkA)
  have HB := Hid.mk' (hB.kept hkA)
  have HSH := Hid.mk' hSh
  have HFN := Hid.mk' hf
  have c1 := h.c1
  have hBlt := h.lt
  have hK0 := Kept.refl (w.alloc (.cells #[.slice a G.length c, .int .i64 st, .bool fl] 45)) none
  obtain ⟨W0, hW0⟩ : ∃ W0, w.alloc (.cells #[.slice a G.length c, .int .i64 st, .bool fl] 45) = W0 := ⟨_, rfl⟩
  rw [hW0] at HKA HBX HSB HF HB hK0
  have b0 : ∀ w', Kept W0 w' none → w'.cell? ⟨w.heap.size, 0, none⟩ = some (.slice a G.length c) := fun w' q => (HBX.out.kept q).c0
  have b1 : ∀ w', Kept W0 w' none → w'.cell? ⟨w.heap.size, 1, none⟩ = some (.int .i64 st) := fun w' q => (HBX.out.kept q).c1
  have b2 : ∀ w', Kept W0 w' none → w'.cell? ⟨w.heap.size, 2, none⟩ = some (.bool fl) := fun w' q => (HBX.out.kept q).c2
  have d1 : ∀ w', Kept W0 w' none → w'.cell? ⟨B, 1, none⟩ = some (.slice X.g S.groups.length X.gc) := fun w' q => (HSB.out.kept q).c1
  clear h hF hB hSh hf hkA bx c1
  go_enter Tryd.func10, Tryd.ntmps10
  go_wp2_with (first
    | rw [hW0]
    | (go_at_call 17; refine (all_any (HB.out.kept (by assumption)) _).mono ?_; rintro e wA ⟨rfl, hkA⟩; have hKA : Kept W0 wA none := Kept.tr (by assumption) hkA)
    | (go_at_call 18; refine (contains_any (HB.out.kept (by assumption)) _).mono ?_; rintro e wB ⟨rfl, hwB⟩; have hwB := hwB.symm; subst hwB)
    | (go_at_call 19; refine (one_any (HSB.out.kept (by assumption)) HSH.out.ok (HF.out.kept (by assumption)) HFN.out (HB.out.kept (by assumption)) rfl).mono ?_; rintro e wC ⟨rfl, hkC⟩; have hKC : Kept W0 wC none := Kept.tr (by assumption) hkC)
    | (go_at_call 20; refine (meet_any (HSB.out.kept (by assumption)) HSH.out.ok (HB.out.kept (by assumption)) rfl).mono ?_; rintro e wD ⟨rfl, hwD⟩; have hwD := hwD.symm; subst hwD)
    | (go_at_call 21; refine (soon_any (HSB.out.kept (by assumption)) HSH.out (HF.out.kept (by assumption)) HFN.out (HB.out.kept (by assumption)) rfl).mono ?_; rintro e wE ⟨rfl, hkE⟩; have hKE : Kept W0 wE none := Kept.tr (by assumption) hkE))
  go_ret
  exact ⟨rfl, HKA.out.tr (by assumption)⟩
set_option maxRecDepth 100000 in
set_option maxHeartbeats 1000000 in
theorem fault_start1 {w : World} {B : Nat} {X : Sa} {S : St} {a : Option Addr} {c : Nat} {G : List Sn} {st : Int} {al : Option Addr} {cl : Nat} {L : List Nat} (h : Sbox w B X S) (hSh : Shape S) (hF : SafeAt w a c ⟨G, st, true⟩) (hf : G.length = S.groups.length) (hB : By w al S.groups.length L) (h4 : allIs L 4 = false) (hH : hasIt L 4 = false) (h1 : allIs L 1 = false) : Calls Tryd.prog 10 #[.pointer (some ⟨B, 0, none⟩), safeV a c ⟨G, st, true⟩, .slice al S.groups.length cl] w fun e w' => e = .returned (.int .u8 (8)) ∧ Kept w w' none := by
  have hng := hSh.ok.ng
  have hkA : Kept w (w.alloc (.cells #[.slice a G.length c, .int .i64 st, .bool true] 45)) none := Kept.alloc _ _ _ _ _
  have bx := box_alloc w (.slice a G.length c) (.int .i64 st) (.bool true) 45
  have HKA := Hid.mk' hkA
  have HBX := Hid.mk' bx
  have HSB := Hid.mk' (h.kept hkA)
  have HF := Hid.mk' (hF.kept hkA)
  have HB := Hid.mk' (hB.kept hkA)
  have HSH := Hid.mk' hSh
  have HFN := Hid.mk' hf
  have c1 := h.c1
  have hBlt := h.lt
  have hK0 := Kept.refl (w.alloc (.cells #[.slice a G.length c, .int .i64 st, .bool true] 45)) none
  obtain ⟨W0, hW0⟩ : ∃ W0, w.alloc (.cells #[.slice a G.length c, .int .i64 st, .bool true] 45) = W0 := ⟨_, rfl⟩
  rw [hW0] at HKA HBX HSB HF HB hK0
  have b0 : ∀ w', Kept W0 w' none → w'.cell? ⟨w.heap.size, 0, none⟩ = some (.slice a G.length c) := fun w' q => (HBX.out.kept q).c0
  have b1 : ∀ w', Kept W0 w' none → w'.cell? ⟨w.heap.size, 1, none⟩ = some (.int .i64 st) := fun w' q => (HBX.out.kept q).c1
  have b2 : ∀ w', Kept W0 w' none → w'.cell? ⟨w.heap.size, 2, none⟩ = some (.bool true) := fun w' q => (HBX.out.kept q).c2
  have d1 : ∀ w', Kept W0 w' none → w'.cell? ⟨B, 1, none⟩ = some (.slice X.g S.groups.length X.gc) := fun w' q => (HSB.out.kept q).c1
  clear h hF hB hSh hf hkA bx c1
  go_enter Tryd.func10, Tryd.ntmps10
  go_wp2_with (first
    | rw [hW0]
    | (go_at_call 17; refine (all_any (HB.out.kept (by assumption)) _).mono ?_; rintro e wA ⟨rfl, hkA⟩; have hKA : Kept W0 wA none := Kept.tr (by assumption) hkA)
    | (go_at_call 18; refine (contains_any (HB.out.kept (by assumption)) _).mono ?_; rintro e wB ⟨rfl, hwB⟩; have hwB := hwB.symm; subst hwB)
    | (go_at_call 19; refine (one_any (HSB.out.kept (by assumption)) HSH.out.ok (HF.out.kept (by assumption)) HFN.out (HB.out.kept (by assumption)) rfl).mono ?_; rintro e wC ⟨rfl, hkC⟩; have hKC : Kept W0 wC none := Kept.tr (by assumption) hkC)
    | (go_at_call 20; refine (meet_any (HSB.out.kept (by assumption)) HSH.out.ok (HB.out.kept (by assumption)) rfl).mono ?_; rintro e wD ⟨rfl, hwD⟩; have hwD := hwD.symm; subst hwD)
    | (go_at_call 21; refine (soon_any (HSB.out.kept (by assumption)) HSH.out (HF.out.kept (by assumption)) HFN.out (HB.out.kept (by assumption)) rfl).mono ?_; rintro e wE ⟨rfl, hkE⟩; have hKE : Kept W0 wE none := Kept.tr (by assumption) hkE))
  go_ret
  exact ⟨rfl, HKA.out.tr (by assumption)⟩
set_option maxRecDepth 100000 in
set_option maxHeartbeats 1000000 in
theorem fault_start2 {w : World} {B : Nat} {X : Sa} {S : St} {a : Option Addr} {c : Nat} {G : List Sn} {st : Int} {al : Option Addr} {cl : Nat} {L : List Nat} (h : Sbox w B X S) (hSh : Shape S) (hF : SafeAt w a c ⟨G, st, false⟩) (hf : G.length = S.groups.length) (hB : By w al S.groups.length L) (h4 : allIs L 4 = false) (hH : hasIt L 4 = false) (hs : 0 < st) (h1 : allIs L 1 = false) : Calls Tryd.prog 10 #[.pointer (some ⟨B, 0, none⟩), safeV a c ⟨G, st, false⟩, .slice al S.groups.length cl] w fun e w' => e = .returned (.int .u8 (8)) ∧ Kept w w' none := by
  have hng := hSh.ok.ng
  have hkA : Kept w (w.alloc (.cells #[.slice a G.length c, .int .i64 st, .bool false] 45)) none := Kept.alloc _ _ _ _ _
  have bx := box_alloc w (.slice a G.length c) (.int .i64 st) (.bool false) 45
  have HKA := Hid.mk' hkA
  have HBX := Hid.mk' bx
  have HSB := Hid.mk' (h.kept hkA)
  have HF := Hid.mk' (hF.kept hkA)
  have HB := Hid.mk' (hB.kept hkA)
  have HSH := Hid.mk' hSh
  have HFN := Hid.mk' hf
  have c1 := h.c1
  have hBlt := h.lt
  have hK0 := Kept.refl (w.alloc (.cells #[.slice a G.length c, .int .i64 st, .bool false] 45)) none
  obtain ⟨W0, hW0⟩ : ∃ W0, w.alloc (.cells #[.slice a G.length c, .int .i64 st, .bool false] 45) = W0 := ⟨_, rfl⟩
  rw [hW0] at HKA HBX HSB HF HB hK0
  have b0 : ∀ w', Kept W0 w' none → w'.cell? ⟨w.heap.size, 0, none⟩ = some (.slice a G.length c) := fun w' q => (HBX.out.kept q).c0
  have b1 : ∀ w', Kept W0 w' none → w'.cell? ⟨w.heap.size, 1, none⟩ = some (.int .i64 st) := fun w' q => (HBX.out.kept q).c1
  have b2 : ∀ w', Kept W0 w' none → w'.cell? ⟨w.heap.size, 2, none⟩ = some (.bool false) := fun w' q => (HBX.out.kept q).c2
  have d1 : ∀ w', Kept W0 w' none → w'.cell? ⟨B, 1, none⟩ = some (.slice X.g S.groups.length X.gc) := fun w' q => (HSB.out.kept q).c1
  clear h hF hB hSh hf hkA bx c1
  go_enter Tryd.func10, Tryd.ntmps10
  go_wp2_with (first
    | rw [hW0]
    | (go_at_call 17; refine (all_any (HB.out.kept (by assumption)) _).mono ?_; rintro e wA ⟨rfl, hkA⟩; have hKA : Kept W0 wA none := Kept.tr (by assumption) hkA)
    | (go_at_call 18; refine (contains_any (HB.out.kept (by assumption)) _).mono ?_; rintro e wB ⟨rfl, hwB⟩; have hwB := hwB.symm; subst hwB)
    | (go_at_call 19; refine (one_any (HSB.out.kept (by assumption)) HSH.out.ok (HF.out.kept (by assumption)) HFN.out (HB.out.kept (by assumption)) rfl).mono ?_; rintro e wC ⟨rfl, hkC⟩; have hKC : Kept W0 wC none := Kept.tr (by assumption) hkC)
    | (go_at_call 20; refine (meet_any (HSB.out.kept (by assumption)) HSH.out.ok (HB.out.kept (by assumption)) rfl).mono ?_; rintro e wD ⟨rfl, hwD⟩; have hwD := hwD.symm; subst hwD)
    | (go_at_call 21; refine (soon_any (HSB.out.kept (by assumption)) HSH.out (HF.out.kept (by assumption)) HFN.out (HB.out.kept (by assumption)) rfl).mono ?_; rintro e wE ⟨rfl, hkE⟩; have hKE : Kept W0 wE none := Kept.tr (by assumption) hkE))
  go_ret
  exact ⟨rfl, HKA.out.tr (by assumption)⟩
set_option maxRecDepth 100000 in
set_option maxHeartbeats 1000000 in
theorem fault_ameet {w : World} {B : Nat} {X : Sa} {S : St} {a : Option Addr} {c : Nat} {G : List Sn} {st : Int} {al : Option Addr} {cl : Nat} {L : List Nat} (h : Sbox w B X S) (hSh : Shape S) (hF : SafeAt w a c ⟨G, st, true⟩) (hf : G.length = S.groups.length) (hB : By w al S.groups.length L) (h4 : allIs L 4 = false) (hH : hasIt L 4 = false) (h1 : allIs L 1 = true) (hz : oneV S ⟨G, st, true⟩ L = 0) (hm : mtB S L = true) : Calls Tryd.prog 10 #[.pointer (some ⟨B, 0, none⟩), safeV a c ⟨G, st, true⟩, .slice al S.groups.length cl] w fun e w' => e = .returned (.int .u8 (3)) ∧ Kept w w' none := by
  have hng := hSh.ok.ng
  have hkA : Kept w (w.alloc (.cells #[.slice a G.length c, .int .i64 st, .bool true] 45)) none := Kept.alloc _ _ _ _ _
  have bx := box_alloc w (.slice a G.length c) (.int .i64 st) (.bool true) 45
  have HKA := Hid.mk' hkA
  have HBX := Hid.mk' bx
  have HSB := Hid.mk' (h.kept hkA)
  have HF := Hid.mk' (hF.kept hkA)
  have HB := Hid.mk' (hB.kept hkA)
  have HSH := Hid.mk' hSh
  have HFN := Hid.mk' hf
  have c1 := h.c1
  have hBlt := h.lt
  have hK0 := Kept.refl (w.alloc (.cells #[.slice a G.length c, .int .i64 st, .bool true] 45)) none
  obtain ⟨W0, hW0⟩ : ∃ W0, w.alloc (.cells #[.slice a G.length c, .int .i64 st, .bool true] 45) = W0 := ⟨_, rfl⟩
  rw [hW0] at HKA HBX HSB HF HB hK0
  have b0 : ∀ w', Kept W0 w' none → w'.cell? ⟨w.heap.size, 0, none⟩ = some (.slice a G.length c) := fun w' q => (HBX.out.kept q).c0
  have b1 : ∀ w', Kept W0 w' none → w'.cell? ⟨w.heap.size, 1, none⟩ = some (.int .i64 st) := fun w' q => (HBX.out.kept q).c1
  have b2 : ∀ w', Kept W0 w' none → w'.cell? ⟨w.heap.size, 2, none⟩ = some (.bool true) := fun w' q => (HBX.out.kept q).c2
  have d1 : ∀ w', Kept W0 w' none → w'.cell? ⟨B, 1, none⟩ = some (.slice X.g S.groups.length X.gc) := fun w' q => (HSB.out.kept q).c1
  clear h hF hB hSh hf hkA bx c1
  go_enter Tryd.func10, Tryd.ntmps10
  go_wp2_with (first
    | rw [hW0]
    | (go_at_call 17; refine (all_any (HB.out.kept (by assumption)) _).mono ?_; rintro e wA ⟨rfl, hkA⟩; have hKA : Kept W0 wA none := Kept.tr (by assumption) hkA)
    | (go_at_call 18; refine (contains_any (HB.out.kept (by assumption)) _).mono ?_; rintro e wB ⟨rfl, hwB⟩; have hwB := hwB.symm; subst hwB)
    | (go_at_call 19; refine (one_any (HSB.out.kept (by assumption)) HSH.out.ok (HF.out.kept (by assumption)) HFN.out (HB.out.kept (by assumption)) rfl).mono ?_; rintro e wC ⟨rfl, hkC⟩; have hKC : Kept W0 wC none := Kept.tr (by assumption) hkC)
    | (go_at_call 20; refine (meet_any (HSB.out.kept (by assumption)) HSH.out.ok (HB.out.kept (by assumption)) rfl).mono ?_; rintro e wD ⟨rfl, hwD⟩; have hwD := hwD.symm; subst hwD)
    | (go_at_call 21; refine (soon_any (HSB.out.kept (by assumption)) HSH.out (HF.out.kept (by assumption)) HFN.out (HB.out.kept (by assumption)) rfl).mono ?_; rintro e wE ⟨rfl, hkE⟩; have hKE : Kept W0 wE none := Kept.tr (by assumption) hkE))
  go_ret
  exact ⟨rfl, HKA.out.tr (by assumption)⟩
set_option maxRecDepth 100000 in
set_option maxHeartbeats 1000000 in
theorem fault_asoon {w : World} {B : Nat} {X : Sa} {S : St} {a : Option Addr} {c : Nat} {G : List Sn} {st : Int} {al : Option Addr} {cl : Nat} {L : List Nat} (h : Sbox w B X S) (hSh : Shape S) (hF : SafeAt w a c ⟨G, st, true⟩) (hf : G.length = S.groups.length) (hB : By w al S.groups.length L) (h4 : allIs L 4 = false) (hH : hasIt L 4 = false) (h1 : allIs L 1 = true) (hz : oneV S ⟨G, st, true⟩ L = 0) (hm : mtB S L = false) (ho : soonB S ⟨G, st, true⟩ L = true) : Calls Tryd.prog 10 #[.pointer (some ⟨B, 0, none⟩), safeV a c ⟨G, st, true⟩, .slice al S.groups.length cl] w fun e w' => e = .returned (.int .u8 (4)) ∧ Kept w w' none := by
  have hng := hSh.ok.ng
  have hkA : Kept w (w.alloc (.cells #[.slice a G.length c, .int .i64 st, .bool true] 45)) none := Kept.alloc _ _ _ _ _
  have bx := box_alloc w (.slice a G.length c) (.int .i64 st) (.bool true) 45
  have HKA := Hid.mk' hkA
  have HBX := Hid.mk' bx
  have HSB := Hid.mk' (h.kept hkA)
  have HF := Hid.mk' (hF.kept hkA)
  have HB := Hid.mk' (hB.kept hkA)
  have HSH := Hid.mk' hSh
  have HFN := Hid.mk' hf
  have c1 := h.c1
  have hBlt := h.lt
  have hK0 := Kept.refl (w.alloc (.cells #[.slice a G.length c, .int .i64 st, .bool true] 45)) none
  obtain ⟨W0, hW0⟩ : ∃ W0, w.alloc (.cells #[.slice a G.length c, .int .i64 st, .bool true] 45) = W0 := ⟨_, rfl⟩
  rw [hW0] at HKA HBX HSB HF HB hK0
  have b0 : ∀ w', Kept W0 w' none → w'.cell? ⟨w.heap.size, 0, none⟩ = some (.slice a G.length c) := fun w' q => (HBX.out.kept q).c0
  have b1 : ∀ w', Kept W0 w' none → w'.cell? ⟨w.heap.size, 1, none⟩ = some (.int .i64 st) := fun w' q => (HBX.out.kept q).c1
  have b2 : ∀ w', Kept W0 w' none → w'.cell? ⟨w.heap.size, 2, none⟩ = some (.bool true) := fun w' q => (HBX.out.kept q).c2
  have d1 : ∀ w', Kept W0 w' none → w'.cell? ⟨B, 1, none⟩ = some (.slice X.g S.groups.length X.gc) := fun w' q => (HSB.out.kept q).c1
  clear h hF hB hSh hf hkA bx c1
  go_enter Tryd.func10, Tryd.ntmps10
  go_wp2_with (first
    | rw [hW0]
    | (go_at_call 17; refine (all_any (HB.out.kept (by assumption)) _).mono ?_; rintro e wA ⟨rfl, hkA⟩; have hKA : Kept W0 wA none := Kept.tr (by assumption) hkA)
    | (go_at_call 18; refine (contains_any (HB.out.kept (by assumption)) _).mono ?_; rintro e wB ⟨rfl, hwB⟩; have hwB := hwB.symm; subst hwB)
    | (go_at_call 19; refine (one_any (HSB.out.kept (by assumption)) HSH.out.ok (HF.out.kept (by assumption)) HFN.out (HB.out.kept (by assumption)) rfl).mono ?_; rintro e wC ⟨rfl, hkC⟩; have hKC : Kept W0 wC none := Kept.tr (by assumption) hkC)
    | (go_at_call 20; refine (meet_any (HSB.out.kept (by assumption)) HSH.out.ok (HB.out.kept (by assumption)) rfl).mono ?_; rintro e wD ⟨rfl, hwD⟩; have hwD := hwD.symm; subst hwD)
    | (go_at_call 21; refine (soon_any (HSB.out.kept (by assumption)) HSH.out (HF.out.kept (by assumption)) HFN.out (HB.out.kept (by assumption)) rfl).mono ?_; rintro e wE ⟨rfl, hkE⟩; have hKE : Kept W0 wE none := Kept.tr (by assumption) hkE))
  go_ret
  exact ⟨rfl, HKA.out.tr (by assumption)⟩
set_option maxRecDepth 100000 in
set_option maxHeartbeats 1000000 in
theorem fault_anone {w : World} {B : Nat} {X : Sa} {S : St} {a : Option Addr} {c : Nat} {G : List Sn} {st : Int} {al : Option Addr} {cl : Nat} {L : List Nat} (h : Sbox w B X S) (hSh : Shape S) (hF : SafeAt w a c ⟨G, st, true⟩) (hf : G.length = S.groups.length) (hB : By w al S.groups.length L) (h4 : allIs L 4 = false) (hH : hasIt L 4 = false) (h1 : allIs L 1 = true) (hz : oneV S ⟨G, st, true⟩ L = 0) (hm : mtB S L = false) (ho : soonB S ⟨G, st, true⟩ L = false) : Calls Tryd.prog 10 #[.pointer (some ⟨B, 0, none⟩), safeV a c ⟨G, st, true⟩, .slice al S.groups.length cl] w fun e w' => e = .returned (.int .u8 (0)) ∧ Kept w w' none := by
  have hng := hSh.ok.ng
  have hkA : Kept w (w.alloc (.cells #[.slice a G.length c, .int .i64 st, .bool true] 45)) none := Kept.alloc _ _ _ _ _
  have bx := box_alloc w (.slice a G.length c) (.int .i64 st) (.bool true) 45
  have HKA := Hid.mk' hkA
  have HBX := Hid.mk' bx
  have HSB := Hid.mk' (h.kept hkA)
  have HF := Hid.mk' (hF.kept hkA)
  have HB := Hid.mk' (hB.kept hkA)
  have HSH := Hid.mk' hSh
  have HFN := Hid.mk' hf
  have c1 := h.c1
  have hBlt := h.lt
  have hK0 := Kept.refl (w.alloc (.cells #[.slice a G.length c, .int .i64 st, .bool true] 45)) none
  obtain ⟨W0, hW0⟩ : ∃ W0, w.alloc (.cells #[.slice a G.length c, .int .i64 st, .bool true] 45) = W0 := ⟨_, rfl⟩
  rw [hW0] at HKA HBX HSB HF HB hK0
  have b0 : ∀ w', Kept W0 w' none → w'.cell? ⟨w.heap.size, 0, none⟩ = some (.slice a G.length c) := fun w' q => (HBX.out.kept q).c0
  have b1 : ∀ w', Kept W0 w' none → w'.cell? ⟨w.heap.size, 1, none⟩ = some (.int .i64 st) := fun w' q => (HBX.out.kept q).c1
  have b2 : ∀ w', Kept W0 w' none → w'.cell? ⟨w.heap.size, 2, none⟩ = some (.bool true) := fun w' q => (HBX.out.kept q).c2
  have d1 : ∀ w', Kept W0 w' none → w'.cell? ⟨B, 1, none⟩ = some (.slice X.g S.groups.length X.gc) := fun w' q => (HSB.out.kept q).c1
  clear h hF hB hSh hf hkA bx c1
  go_enter Tryd.func10, Tryd.ntmps10
  go_wp2_with (first
    | rw [hW0]
    | (go_at_call 17; refine (all_any (HB.out.kept (by assumption)) _).mono ?_; rintro e wA ⟨rfl, hkA⟩; have hKA : Kept W0 wA none := Kept.tr (by assumption) hkA)
    | (go_at_call 18; refine (contains_any (HB.out.kept (by assumption)) _).mono ?_; rintro e wB ⟨rfl, hwB⟩; have hwB := hwB.symm; subst hwB)
    | (go_at_call 19; refine (one_any (HSB.out.kept (by assumption)) HSH.out.ok (HF.out.kept (by assumption)) HFN.out (HB.out.kept (by assumption)) rfl).mono ?_; rintro e wC ⟨rfl, hkC⟩; have hKC : Kept W0 wC none := Kept.tr (by assumption) hkC)
    | (go_at_call 20; refine (meet_any (HSB.out.kept (by assumption)) HSH.out.ok (HB.out.kept (by assumption)) rfl).mono ?_; rintro e wD ⟨rfl, hwD⟩; have hwD := hwD.symm; subst hwD)
    | (go_at_call 21; refine (soon_any (HSB.out.kept (by assumption)) HSH.out (HF.out.kept (by assumption)) HFN.out (HB.out.kept (by assumption)) rfl).mono ?_; rintro e wE ⟨rfl, hkE⟩; have hKE : Kept W0 wE none := Kept.tr (by assumption) hkE))
  go_ret
  exact ⟨rfl, HKA.out.tr (by assumption)⟩
set_option maxRecDepth 100000 in
set_option maxHeartbeats 1000000 in
theorem fault_bone {w : World} {B : Nat} {X : Sa} {S : St} {a : Option Addr} {c : Nat} {G : List Sn} {st : Int} {al : Option Addr} {cl : Nat} {L : List Nat} (h : Sbox w B X S) (hSh : Shape S) (hF : SafeAt w a c ⟨G, st, false⟩) (hf : G.length = S.groups.length) (hB : By w al S.groups.length L) (h4 : allIs L 4 = false) (hH : hasIt L 4 = false) (hs : 0 < st) (h1 : allIs L 1 = true) (hz : (oneV S ⟨G, st, false⟩ L != 0) = true) : Calls Tryd.prog 10 #[.pointer (some ⟨B, 0, none⟩), safeV a c ⟨G, st, false⟩, .slice al S.groups.length cl] w fun e w' => e = .returned (.int .u8 (oneV S ⟨G, st, false⟩ L)) ∧ Kept w w' none := by
  have hng := hSh.ok.ng
  have hkA : Kept w (w.alloc (.cells #[.slice a G.length c, .int .i64 st, .bool false] 45)) none := Kept.alloc _ _ _ _ _
  have bx := box_alloc w (.slice a G.length c) (.int .i64 st) (.bool false) 45
  have HKA := Hid.mk' hkA
  have HBX := Hid.mk' bx
  have HSB := Hid.mk' (h.kept hkA)
  have HF := Hid.mk' (hF.kept hkA)
  have HB := Hid.mk' (hB.kept hkA)
  have HSH := Hid.mk' hSh
  have HFN := Hid.mk' hf
  have c1 := h.c1
  have hBlt := h.lt
  have hK0 := Kept.refl (w.alloc (.cells #[.slice a G.length c, .int .i64 st, .bool false] 45)) none
  obtain ⟨W0, hW0⟩ : ∃ W0, w.alloc (.cells #[.slice a G.length c, .int .i64 st, .bool false] 45) = W0 := ⟨_, rfl⟩
  rw [hW0] at HKA HBX HSB HF HB hK0
  have b0 : ∀ w', Kept W0 w' none → w'.cell? ⟨w.heap.size, 0, none⟩ = some (.slice a G.length c) := fun w' q => (HBX.out.kept q).c0
  have b1 : ∀ w', Kept W0 w' none → w'.cell? ⟨w.heap.size, 1, none⟩ = some (.int .i64 st) := fun w' q => (HBX.out.kept q).c1
  have b2 : ∀ w', Kept W0 w' none → w'.cell? ⟨w.heap.size, 2, none⟩ = some (.bool false) := fun w' q => (HBX.out.kept q).c2
  have d1 : ∀ w', Kept W0 w' none → w'.cell? ⟨B, 1, none⟩ = some (.slice X.g S.groups.length X.gc) := fun w' q => (HSB.out.kept q).c1
  clear h hF hB hSh hf hkA bx c1
  go_enter Tryd.func10, Tryd.ntmps10
  go_wp2_with (first
    | rw [hW0]
    | (go_at_call 17; refine (all_any (HB.out.kept (by assumption)) _).mono ?_; rintro e wA ⟨rfl, hkA⟩; have hKA : Kept W0 wA none := Kept.tr (by assumption) hkA)
    | (go_at_call 18; refine (contains_any (HB.out.kept (by assumption)) _).mono ?_; rintro e wB ⟨rfl, hwB⟩; have hwB := hwB.symm; subst hwB)
    | (go_at_call 19; refine (one_any (HSB.out.kept (by assumption)) HSH.out.ok (HF.out.kept (by assumption)) HFN.out (HB.out.kept (by assumption)) rfl).mono ?_; rintro e wC ⟨rfl, hkC⟩; have hKC : Kept W0 wC none := Kept.tr (by assumption) hkC)
    | (go_at_call 20; refine (meet_any (HSB.out.kept (by assumption)) HSH.out.ok (HB.out.kept (by assumption)) rfl).mono ?_; rintro e wD ⟨rfl, hwD⟩; have hwD := hwD.symm; subst hwD)
    | (go_at_call 21; refine (soon_any (HSB.out.kept (by assumption)) HSH.out (HF.out.kept (by assumption)) HFN.out (HB.out.kept (by assumption)) rfl).mono ?_; rintro e wE ⟨rfl, hkE⟩; have hKE : Kept W0 wE none := Kept.tr (by assumption) hkE))
  go_ret
  exact ⟨rfl, HKA.out.tr (by assumption)⟩
set_option maxRecDepth 100000 in
set_option maxHeartbeats 1000000 in
theorem fault_bmeet {w : World} {B : Nat} {X : Sa} {S : St} {a : Option Addr} {c : Nat} {G : List Sn} {st : Int} {al : Option Addr} {cl : Nat} {L : List Nat} (h : Sbox w B X S) (hSh : Shape S) (hF : SafeAt w a c ⟨G, st, false⟩) (hf : G.length = S.groups.length) (hB : By w al S.groups.length L) (h4 : allIs L 4 = false) (hH : hasIt L 4 = false) (hs : 0 < st) (h1 : allIs L 1 = true) (hz : oneV S ⟨G, st, false⟩ L = 0) (hm : mtB S L = true) : Calls Tryd.prog 10 #[.pointer (some ⟨B, 0, none⟩), safeV a c ⟨G, st, false⟩, .slice al S.groups.length cl] w fun e w' => e = .returned (.int .u8 (3)) ∧ Kept w w' none := by
  have hng := hSh.ok.ng
  have hkA : Kept w (w.alloc (.cells #[.slice a G.length c, .int .i64 st, .bool false] 45)) none := Kept.alloc _ _ _ _ _
  have bx := box_alloc w (.slice a G.length c) (.int .i64 st) (.bool false) 45
  have HKA := Hid.mk' hkA
  have HBX := Hid.mk' bx
  have HSB := Hid.mk' (h.kept hkA)
  have HF := Hid.mk' (hF.kept hkA)
  have HB := Hid.mk' (hB.kept hkA)
  have HSH := Hid.mk' hSh
  have HFN := Hid.mk' hf
  have c1 := h.c1
  have hBlt := h.lt
  have hK0 := Kept.refl (w.alloc (.cells #[.slice a G.length c, .int .i64 st, .bool false] 45)) none
  obtain ⟨W0, hW0⟩ : ∃ W0, w.alloc (.cells #[.slice a G.length c, .int .i64 st, .bool false] 45) = W0 := ⟨_, rfl⟩
  rw [hW0] at HKA HBX HSB HF HB hK0
  have b0 : ∀ w', Kept W0 w' none → w'.cell? ⟨w.heap.size, 0, none⟩ = some (.slice a G.length c) := fun w' q => (HBX.out.kept q).c0
  have b1 : ∀ w', Kept W0 w' none → w'.cell? ⟨w.heap.size, 1, none⟩ = some (.int .i64 st) := fun w' q => (HBX.out.kept q).c1
  have b2 : ∀ w', Kept W0 w' none → w'.cell? ⟨w.heap.size, 2, none⟩ = some (.bool false) := fun w' q => (HBX.out.kept q).c2
  have d1 : ∀ w', Kept W0 w' none → w'.cell? ⟨B, 1, none⟩ = some (.slice X.g S.groups.length X.gc) := fun w' q => (HSB.out.kept q).c1
  clear h hF hB hSh hf hkA bx c1
  go_enter Tryd.func10, Tryd.ntmps10
  go_wp2_with (first
    | rw [hW0]
    | (go_at_call 17; refine (all_any (HB.out.kept (by assumption)) _).mono ?_; rintro e wA ⟨rfl, hkA⟩; have hKA : Kept W0 wA none := Kept.tr (by assumption) hkA)
    | (go_at_call 18; refine (contains_any (HB.out.kept (by assumption)) _).mono ?_; rintro e wB ⟨rfl, hwB⟩; have hwB := hwB.symm; subst hwB)
    | (go_at_call 19; refine (one_any (HSB.out.kept (by assumption)) HSH.out.ok (HF.out.kept (by assumption)) HFN.out (HB.out.kept (by assumption)) rfl).mono ?_; rintro e wC ⟨rfl, hkC⟩; have hKC : Kept W0 wC none := Kept.tr (by assumption) hkC)
    | (go_at_call 20; refine (meet_any (HSB.out.kept (by assumption)) HSH.out.ok (HB.out.kept (by assumption)) rfl).mono ?_; rintro e wD ⟨rfl, hwD⟩; have hwD := hwD.symm; subst hwD)
    | (go_at_call 21; refine (soon_any (HSB.out.kept (by assumption)) HSH.out (HF.out.kept (by assumption)) HFN.out (HB.out.kept (by assumption)) rfl).mono ?_; rintro e wE ⟨rfl, hkE⟩; have hKE : Kept W0 wE none := Kept.tr (by assumption) hkE))
  go_ret
  exact ⟨rfl, HKA.out.tr (by assumption)⟩
set_option maxRecDepth 100000 in
set_option maxHeartbeats 1000000 in
theorem fault_bsoon {w : World} {B : Nat} {X : Sa} {S : St} {a : Option Addr} {c : Nat} {G : List Sn} {st : Int} {al : Option Addr} {cl : Nat} {L : List Nat} (h : Sbox w B X S) (hSh : Shape S) (hF : SafeAt w a c ⟨G, st, false⟩) (hf : G.length = S.groups.length) (hB : By w al S.groups.length L) (h4 : allIs L 4 = false) (hH : hasIt L 4 = false) (hs : 0 < st) (h1 : allIs L 1 = true) (hz : oneV S ⟨G, st, false⟩ L = 0) (hm : mtB S L = false) (ho : soonB S ⟨G, st, false⟩ L = true) : Calls Tryd.prog 10 #[.pointer (some ⟨B, 0, none⟩), safeV a c ⟨G, st, false⟩, .slice al S.groups.length cl] w fun e w' => e = .returned (.int .u8 (4)) ∧ Kept w w' none := by
  have hng := hSh.ok.ng
  have hkA : Kept w (w.alloc (.cells #[.slice a G.length c, .int .i64 st, .bool false] 45)) none := Kept.alloc _ _ _ _ _
  have bx := box_alloc w (.slice a G.length c) (.int .i64 st) (.bool false) 45
  have HKA := Hid.mk' hkA
  have HBX := Hid.mk' bx
  have HSB := Hid.mk' (h.kept hkA)
  have HF := Hid.mk' (hF.kept hkA)
  have HB := Hid.mk' (hB.kept hkA)
  have HSH := Hid.mk' hSh
  have HFN := Hid.mk' hf
  have c1 := h.c1
  have hBlt := h.lt
  have hK0 := Kept.refl (w.alloc (.cells #[.slice a G.length c, .int .i64 st, .bool false] 45)) none
  obtain ⟨W0, hW0⟩ : ∃ W0, w.alloc (.cells #[.slice a G.length c, .int .i64 st, .bool false] 45) = W0 := ⟨_, rfl⟩
  rw [hW0] at HKA HBX HSB HF HB hK0
  have b0 : ∀ w', Kept W0 w' none → w'.cell? ⟨w.heap.size, 0, none⟩ = some (.slice a G.length c) := fun w' q => (HBX.out.kept q).c0
  have b1 : ∀ w', Kept W0 w' none → w'.cell? ⟨w.heap.size, 1, none⟩ = some (.int .i64 st) := fun w' q => (HBX.out.kept q).c1
  have b2 : ∀ w', Kept W0 w' none → w'.cell? ⟨w.heap.size, 2, none⟩ = some (.bool false) := fun w' q => (HBX.out.kept q).c2
  have d1 : ∀ w', Kept W0 w' none → w'.cell? ⟨B, 1, none⟩ = some (.slice X.g S.groups.length X.gc) := fun w' q => (HSB.out.kept q).c1
  clear h hF hB hSh hf hkA bx c1
  go_enter Tryd.func10, Tryd.ntmps10
  go_wp2_with (first
    | rw [hW0]
    | (go_at_call 17; refine (all_any (HB.out.kept (by assumption)) _).mono ?_; rintro e wA ⟨rfl, hkA⟩; have hKA : Kept W0 wA none := Kept.tr (by assumption) hkA)
    | (go_at_call 18; refine (contains_any (HB.out.kept (by assumption)) _).mono ?_; rintro e wB ⟨rfl, hwB⟩; have hwB := hwB.symm; subst hwB)
    | (go_at_call 19; refine (one_any (HSB.out.kept (by assumption)) HSH.out.ok (HF.out.kept (by assumption)) HFN.out (HB.out.kept (by assumption)) rfl).mono ?_; rintro e wC ⟨rfl, hkC⟩; have hKC : Kept W0 wC none := Kept.tr (by assumption) hkC)
    | (go_at_call 20; refine (meet_any (HSB.out.kept (by assumption)) HSH.out.ok (HB.out.kept (by assumption)) rfl).mono ?_; rintro e wD ⟨rfl, hwD⟩; have hwD := hwD.symm; subst hwD)
    | (go_at_call 21; refine (soon_any (HSB.out.kept (by assumption)) HSH.out (HF.out.kept (by assumption)) HFN.out (HB.out.kept (by assumption)) rfl).mono ?_; rintro e wE ⟨rfl, hkE⟩; have hKE : Kept W0 wE none := Kept.tr (by assumption) hkE))
  go_ret
  exact ⟨rfl, HKA.out.tr (by assumption)⟩
set_option maxRecDepth 100000 in
set_option maxHeartbeats 1000000 in
theorem fault_bnone {w : World} {B : Nat} {X : Sa} {S : St} {a : Option Addr} {c : Nat} {G : List Sn} {st : Int} {al : Option Addr} {cl : Nat} {L : List Nat} (h : Sbox w B X S) (hSh : Shape S) (hF : SafeAt w a c ⟨G, st, false⟩) (hf : G.length = S.groups.length) (hB : By w al S.groups.length L) (h4 : allIs L 4 = false) (hH : hasIt L 4 = false) (hs : 0 < st) (h1 : allIs L 1 = true) (hz : oneV S ⟨G, st, false⟩ L = 0) (hm : mtB S L = false) (ho : soonB S ⟨G, st, false⟩ L = false) : Calls Tryd.prog 10 #[.pointer (some ⟨B, 0, none⟩), safeV a c ⟨G, st, false⟩, .slice al S.groups.length cl] w fun e w' => e = .returned (.int .u8 (0)) ∧ Kept w w' none := by
  have hng := hSh.ok.ng
  have hkA : Kept w (w.alloc (.cells #[.slice a G.length c, .int .i64 st, .bool false] 45)) none := Kept.alloc _ _ _ _ _
  have bx := box_alloc w (.slice a G.length c) (.int .i64 st) (.bool false) 45
  have HKA := Hid.mk' hkA
  have HBX := Hid.mk' bx
  have HSB := Hid.mk' (h.kept hkA)
  have HF := Hid.mk' (hF.kept hkA)
  have HB := Hid.mk' (hB.kept hkA)
  have HSH := Hid.mk' hSh
  have HFN := Hid.mk' hf
  have c1 := h.c1
  have hBlt := h.lt
  have hK0 := Kept.refl (w.alloc (.cells #[.slice a G.length c, .int .i64 st, .bool false] 45)) none
  obtain ⟨W0, hW0⟩ : ∃ W0, w.alloc (.cells #[.slice a G.length c, .int .i64 st, .bool false] 45) = W0 := ⟨_, rfl⟩
  rw [hW0] at HKA HBX HSB HF HB hK0
  have b0 : ∀ w', Kept W0 w' none → w'.cell? ⟨w.heap.size, 0, none⟩ = some (.slice a G.length c) := fun w' q => (HBX.out.kept q).c0
  have b1 : ∀ w', Kept W0 w' none → w'.cell? ⟨w.heap.size, 1, none⟩ = some (.int .i64 st) := fun w' q => (HBX.out.kept q).c1
  have b2 : ∀ w', Kept W0 w' none → w'.cell? ⟨w.heap.size, 2, none⟩ = some (.bool false) := fun w' q => (HBX.out.kept q).c2
  have d1 : ∀ w', Kept W0 w' none → w'.cell? ⟨B, 1, none⟩ = some (.slice X.g S.groups.length X.gc) := fun w' q => (HSB.out.kept q).c1
  clear h hF hB hSh hf hkA bx c1
  go_enter Tryd.func10, Tryd.ntmps10
  go_wp2_with (first
    | rw [hW0]
    | (go_at_call 17; refine (all_any (HB.out.kept (by assumption)) _).mono ?_; rintro e wA ⟨rfl, hkA⟩; have hKA : Kept W0 wA none := Kept.tr (by assumption) hkA)
    | (go_at_call 18; refine (contains_any (HB.out.kept (by assumption)) _).mono ?_; rintro e wB ⟨rfl, hwB⟩; have hwB := hwB.symm; subst hwB)
    | (go_at_call 19; refine (one_any (HSB.out.kept (by assumption)) HSH.out.ok (HF.out.kept (by assumption)) HFN.out (HB.out.kept (by assumption)) rfl).mono ?_; rintro e wC ⟨rfl, hkC⟩; have hKC : Kept W0 wC none := Kept.tr (by assumption) hkC)
    | (go_at_call 20; refine (meet_any (HSB.out.kept (by assumption)) HSH.out.ok (HB.out.kept (by assumption)) rfl).mono ?_; rintro e wD ⟨rfl, hwD⟩; have hwD := hwD.symm; subst hwD)
    | (go_at_call 21; refine (soon_any (HSB.out.kept (by assumption)) HSH.out (HF.out.kept (by assumption)) HFN.out (HB.out.kept (by assumption)) rfl).mono ?_; rintro e wE ⟨rfl, hkE⟩; have hKE : Kept W0 wE none := Kept.tr (by assumption) hkE))
  go_ret
  exact ⟨rfl, HKA.out.tr (by assumption)⟩
set_option maxRecDepth 100000 in
set_option maxHeartbeats 1000000 in
theorem fault_cone {w : World} {B : Nat} {X : Sa} {S : St} {a : Option Addr} {c : Nat} {G : List Sn} {st : Int} {al : Option Addr} {cl : Nat} {L : List Nat} (h : Sbox w B X S) (hSh : Shape S) (hF : SafeAt w a c ⟨G, st, false⟩) (hf : G.length = S.groups.length) (hB : By w al S.groups.length L) (h4 : allIs L 4 = false) (hH : hasIt L 4 = false) (hs : st ≤ 0) (hz : (oneV S ⟨G, st, false⟩ L != 0) = true) : Calls Tryd.prog 10 #[.pointer (some ⟨B, 0, none⟩), safeV a c ⟨G, st, false⟩, .slice al S.groups.length cl] w fun e w' => e = .returned (.int .u8 (oneV S ⟨G, st, false⟩ L)) ∧ Kept w w' none := by
  have hng := hSh.ok.ng
  have hkA : Kept w (w.alloc (.cells #[.slice a G.length c, .int .i64 st, .bool false] 45)) none := Kept.alloc _ _ _ _ _
  have bx := box_alloc w (.slice a G.length c) (.int .i64 st) (.bool false) 45
  have HKA := Hid.mk' hkA
  have HBX := Hid.mk' bx
  have HSB := Hid.mk' (h.kept hkA)
  have HF := Hid.mk' (hF.kept hkA)
  have HB := Hid.mk' (hB.kept hkA)
  have HSH := Hid.mk' hSh
  have HFN := Hid.mk' hf
  have c1 := h.c1
  have hBlt := h.lt
  have hK0 := Kept.refl (w.alloc (.cells #[.slice a G.length c, .int .i64 st, .bool false] 45)) none
  obtain ⟨W0, hW0⟩ : ∃ W0, w.alloc (.cells #[.slice a G.length c, .int .i64 st, .bool false] 45) = W0 := ⟨_, rfl⟩
  rw [hW0] at HKA HBX HSB HF HB hK0
  have b0 : ∀ w', Kept W0 w' none → w'.cell? ⟨w.heap.size, 0, none⟩ = some (.slice a G.length c) := fun w' q => (HBX.out.kept q).c0
  have b1 : ∀ w', Kept W0 w' none → w'.cell? ⟨w.heap.size, 1, none⟩ = some (.int .i64 st) := fun w' q => (HBX.out.kept q).c1
  have b2 : ∀ w', Kept W0 w' none → w'.cell? ⟨w.heap.size, 2, none⟩ = some (.bool false) := fun w' q => (HBX.out.kept q).c2
  have d1 : ∀ w', Kept W0 w' none → w'.cell? ⟨B, 1, none⟩ = some (.slice X.g S.groups.length X.gc) := fun w' q => (HSB.out.kept q).c1
  clear h hF hB hSh hf hkA bx c1
  go_enter Tryd.func10, Tryd.ntmps10
  go_wp2_with (first
    | rw [hW0]
    | (go_at_call 17; refine (all_any (HB.out.kept (by assumption)) _).mono ?_; rintro e wA ⟨rfl, hkA⟩; have hKA : Kept W0 wA none := Kept.tr (by assumption) hkA)
    | (go_at_call 18; refine (contains_any (HB.out.kept (by assumption)) _).mono ?_; rintro e wB ⟨rfl, hwB⟩; have hwB := hwB.symm; subst hwB)
    | (go_at_call 19; refine (one_any (HSB.out.kept (by assumption)) HSH.out.ok (HF.out.kept (by assumption)) HFN.out (HB.out.kept (by assumption)) rfl).mono ?_; rintro e wC ⟨rfl, hkC⟩; have hKC : Kept W0 wC none := Kept.tr (by assumption) hkC)
    | (go_at_call 20; refine (meet_any (HSB.out.kept (by assumption)) HSH.out.ok (HB.out.kept (by assumption)) rfl).mono ?_; rintro e wD ⟨rfl, hwD⟩; have hwD := hwD.symm; subst hwD)
    | (go_at_call 21; refine (soon_any (HSB.out.kept (by assumption)) HSH.out (HF.out.kept (by assumption)) HFN.out (HB.out.kept (by assumption)) rfl).mono ?_; rintro e wE ⟨rfl, hkE⟩; have hKE : Kept W0 wE none := Kept.tr (by assumption) hkE))
  go_ret
  exact ⟨rfl, HKA.out.tr (by assumption)⟩
set_option maxRecDepth 100000 in
set_option maxHeartbeats 1000000 in
theorem fault_cmeet {w : World} {B : Nat} {X : Sa} {S : St} {a : Option Addr} {c : Nat} {G : List Sn} {st : Int} {al : Option Addr} {cl : Nat} {L : List Nat} (h : Sbox w B X S) (hSh : Shape S) (hF : SafeAt w a c ⟨G, st, false⟩) (hf : G.length = S.groups.length) (hB : By w al S.groups.length L) (h4 : allIs L 4 = false) (hH : hasIt L 4 = false) (hs : st ≤ 0) (hz : oneV S ⟨G, st, false⟩ L = 0) (hm : mtB S L = true) : Calls Tryd.prog 10 #[.pointer (some ⟨B, 0, none⟩), safeV a c ⟨G, st, false⟩, .slice al S.groups.length cl] w fun e w' => e = .returned (.int .u8 (3)) ∧ Kept w w' none := by
  have hng := hSh.ok.ng
  have hkA : Kept w (w.alloc (.cells #[.slice a G.length c, .int .i64 st, .bool false] 45)) none := Kept.alloc _ _ _ _ _
  have bx := box_alloc w (.slice a G.length c) (.int .i64 st) (.bool false) 45
  have HKA := Hid.mk' hkA
  have HBX := Hid.mk' bx
  have HSB := Hid.mk' (h.kept hkA)
  have HF := Hid.mk' (hF.kept hkA)
  have HB := Hid.mk' (hB.kept hkA)
  have HSH := Hid.mk' hSh
  have HFN := Hid.mk' hf
  have c1 := h.c1
  have hBlt := h.lt
  have hK0 := Kept.refl (w.alloc (.cells #[.slice a G.length c, .int .i64 st, .bool false] 45)) none
  obtain ⟨W0, hW0⟩ : ∃ W0, w.alloc (.cells #[.slice a G.length c, .int .i64 st, .bool false] 45) = W0 := ⟨_, rfl⟩
  rw [hW0] at HKA HBX HSB HF HB hK0
  have b0 : ∀ w', Kept W0 w' none → w'.cell? ⟨w.heap.size, 0, none⟩ = some (.slice a G.length c) := fun w' q => (HBX.out.kept q).c0
  have b1 : ∀ w', Kept W0 w' none → w'.cell? ⟨w.heap.size, 1, none⟩ = some (.int .i64 st) := fun w' q => (HBX.out.kept q).c1
  have b2 : ∀ w', Kept W0 w' none → w'.cell? ⟨w.heap.size, 2, none⟩ = some (.bool false) := fun w' q => (HBX.out.kept q).c2
  have d1 : ∀ w', Kept W0 w' none → w'.cell? ⟨B, 1, none⟩ = some (.slice X.g S.groups.length X.gc) := fun w' q => (HSB.out.kept q).c1
  clear h hF hB hSh hf hkA bx c1
  go_enter Tryd.func10, Tryd.ntmps10
  go_wp2_with (first
    | rw [hW0]
    | (go_at_call 17; refine (all_any (HB.out.kept (by assumption)) _).mono ?_; rintro e wA ⟨rfl, hkA⟩; have hKA : Kept W0 wA none := Kept.tr (by assumption) hkA)
    | (go_at_call 18; refine (contains_any (HB.out.kept (by assumption)) _).mono ?_; rintro e wB ⟨rfl, hwB⟩; have hwB := hwB.symm; subst hwB)
    | (go_at_call 19; refine (one_any (HSB.out.kept (by assumption)) HSH.out.ok (HF.out.kept (by assumption)) HFN.out (HB.out.kept (by assumption)) rfl).mono ?_; rintro e wC ⟨rfl, hkC⟩; have hKC : Kept W0 wC none := Kept.tr (by assumption) hkC)
    | (go_at_call 20; refine (meet_any (HSB.out.kept (by assumption)) HSH.out.ok (HB.out.kept (by assumption)) rfl).mono ?_; rintro e wD ⟨rfl, hwD⟩; have hwD := hwD.symm; subst hwD)
    | (go_at_call 21; refine (soon_any (HSB.out.kept (by assumption)) HSH.out (HF.out.kept (by assumption)) HFN.out (HB.out.kept (by assumption)) rfl).mono ?_; rintro e wE ⟨rfl, hkE⟩; have hKE : Kept W0 wE none := Kept.tr (by assumption) hkE))
  go_ret
  exact ⟨rfl, HKA.out.tr (by assumption)⟩
set_option maxRecDepth 100000 in
set_option maxHeartbeats 1000000 in
theorem fault_csoon {w : World} {B : Nat} {X : Sa} {S : St} {a : Option Addr} {c : Nat} {G : List Sn} {st : Int} {al : Option Addr} {cl : Nat} {L : List Nat} (h : Sbox w B X S) (hSh : Shape S) (hF : SafeAt w a c ⟨G, st, false⟩) (hf : G.length = S.groups.length) (hB : By w al S.groups.length L) (h4 : allIs L 4 = false) (hH : hasIt L 4 = false) (hs : st ≤ 0) (hz : oneV S ⟨G, st, false⟩ L = 0) (hm : mtB S L = false) (ho : soonB S ⟨G, st, false⟩ L = true) : Calls Tryd.prog 10 #[.pointer (some ⟨B, 0, none⟩), safeV a c ⟨G, st, false⟩, .slice al S.groups.length cl] w fun e w' => e = .returned (.int .u8 (4)) ∧ Kept w w' none := by
  have hng := hSh.ok.ng
  have hkA : Kept w (w.alloc (.cells #[.slice a G.length c, .int .i64 st, .bool false] 45)) none := Kept.alloc _ _ _ _ _
  have bx := box_alloc w (.slice a G.length c) (.int .i64 st) (.bool false) 45
  have HKA := Hid.mk' hkA
  have HBX := Hid.mk' bx
  have HSB := Hid.mk' (h.kept hkA)
  have HF := Hid.mk' (hF.kept hkA)
  have HB := Hid.mk' (hB.kept hkA)
  have HSH := Hid.mk' hSh
  have HFN := Hid.mk' hf
  have c1 := h.c1
  have hBlt := h.lt
  have hK0 := Kept.refl (w.alloc (.cells #[.slice a G.length c, .int .i64 st, .bool false] 45)) none
  obtain ⟨W0, hW0⟩ : ∃ W0, w.alloc (.cells #[.slice a G.length c, .int .i64 st, .bool false] 45) = W0 := ⟨_, rfl⟩
  rw [hW0] at HKA HBX HSB HF HB hK0
  have b0 : ∀ w', Kept W0 w' none → w'.cell? ⟨w.heap.size, 0, none⟩ = some (.slice a G.length c) := fun w' q => (HBX.out.kept q).c0
  have b1 : ∀ w', Kept W0 w' none → w'.cell? ⟨w.heap.size, 1, none⟩ = some (.int .i64 st) := fun w' q => (HBX.out.kept q).c1
  have b2 : ∀ w', Kept W0 w' none → w'.cell? ⟨w.heap.size, 2, none⟩ = some (.bool false) := fun w' q => (HBX.out.kept q).c2
  have d1 : ∀ w', Kept W0 w' none → w'.cell? ⟨B, 1, none⟩ = some (.slice X.g S.groups.length X.gc) := fun w' q => (HSB.out.kept q).c1
  clear h hF hB hSh hf hkA bx c1
  go_enter Tryd.func10, Tryd.ntmps10
  go_wp2_with (first
    | rw [hW0]
    | (go_at_call 17; refine (all_any (HB.out.kept (by assumption)) _).mono ?_; rintro e wA ⟨rfl, hkA⟩; have hKA : Kept W0 wA none := Kept.tr (by assumption) hkA)
    | (go_at_call 18; refine (contains_any (HB.out.kept (by assumption)) _).mono ?_; rintro e wB ⟨rfl, hwB⟩; have hwB := hwB.symm; subst hwB)
    | (go_at_call 19; refine (one_any (HSB.out.kept (by assumption)) HSH.out.ok (HF.out.kept (by assumption)) HFN.out (HB.out.kept (by assumption)) rfl).mono ?_; rintro e wC ⟨rfl, hkC⟩; have hKC : Kept W0 wC none := Kept.tr (by assumption) hkC)
    | (go_at_call 20; refine (meet_any (HSB.out.kept (by assumption)) HSH.out.ok (HB.out.kept (by assumption)) rfl).mono ?_; rintro e wD ⟨rfl, hwD⟩; have hwD := hwD.symm; subst hwD)
    | (go_at_call 21; refine (soon_any (HSB.out.kept (by assumption)) HSH.out (HF.out.kept (by assumption)) HFN.out (HB.out.kept (by assumption)) rfl).mono ?_; rintro e wE ⟨rfl, hkE⟩; have hKE : Kept W0 wE none := Kept.tr (by assumption) hkE))
  go_ret
  exact ⟨rfl, HKA.out.tr (by assumption)⟩
set_option maxRecDepth 100000 in
set_option maxHeartbeats 1000000 in
theorem fault_cnone {w : World} {B : Nat} {X : Sa} {S : St} {a : Option Addr} {c : Nat} {G : List Sn} {st : Int} {al : Option Addr} {cl : Nat} {L : List Nat} (h : Sbox w B X S) (hSh : Shape S) (hF : SafeAt w a c ⟨G, st, false⟩) (hf : G.length = S.groups.length) (hB : By w al S.groups.length L) (h4 : allIs L 4 = false) (hH : hasIt L 4 = false) (hs : st ≤ 0) (hz : oneV S ⟨G, st, false⟩ L = 0) (hm : mtB S L = false) (ho : soonB S ⟨G, st, false⟩ L = false) : Calls Tryd.prog 10 #[.pointer (some ⟨B, 0, none⟩), safeV a c ⟨G, st, false⟩, .slice al S.groups.length cl] w fun e w' => e = .returned (.int .u8 (0)) ∧ Kept w w' none := by
  have hng := hSh.ok.ng
  have hkA : Kept w (w.alloc (.cells #[.slice a G.length c, .int .i64 st, .bool false] 45)) none := Kept.alloc _ _ _ _ _
  have bx := box_alloc w (.slice a G.length c) (.int .i64 st) (.bool false) 45
  have HKA := Hid.mk' hkA
  have HBX := Hid.mk' bx
  have HSB := Hid.mk' (h.kept hkA)
  have HF := Hid.mk' (hF.kept hkA)
  have HB := Hid.mk' (hB.kept hkA)
  have HSH := Hid.mk' hSh
  have HFN := Hid.mk' hf
  have c1 := h.c1
  have hBlt := h.lt
  have hK0 := Kept.refl (w.alloc (.cells #[.slice a G.length c, .int .i64 st, .bool false] 45)) none
  obtain ⟨W0, hW0⟩ : ∃ W0, w.alloc (.cells #[.slice a G.length c, .int .i64 st, .bool false] 45) = W0 := ⟨_, rfl⟩
  rw [hW0] at HKA HBX HSB HF HB hK0
  have b0 : ∀ w', Kept W0 w' none → w'.cell? ⟨w.heap.size, 0, none⟩ = some (.slice a G.length c) := fun w' q => (HBX.out.kept q).c0
  have b1 : ∀ w', Kept W0 w' none → w'.cell? ⟨w.heap.size, 1, none⟩ = some (.int .i64 st) := fun w' q => (HBX.out.kept q).c1
  have b2 : ∀ w', Kept W0 w' none → w'.cell? ⟨w.heap.size, 2, none⟩ = some (.bool false) := fun w' q => (HBX.out.kept q).c2
  have d1 : ∀ w', Kept W0 w' none → w'.cell? ⟨B, 1, none⟩ = some (.slice X.g S.groups.length X.gc) := fun w' q => (HSB.out.kept q).c1
  clear h hF hB hSh hf hkA bx c1
  go_enter Tryd.func10, Tryd.ntmps10
  go_wp2_with (first
    | rw [hW0]
    | (go_at_call 17; refine (all_any (HB.out.kept (by assumption)) _).mono ?_; rintro e wA ⟨rfl, hkA⟩; have hKA : Kept W0 wA none := Kept.tr (by assumption) hkA)
    | (go_at_call 18; refine (contains_any (HB.out.kept (by assumption)) _).mono ?_; rintro e wB ⟨rfl, hwB⟩; have hwB := hwB.symm; subst hwB)
    | (go_at_call 19; refine (one_any (HSB.out.kept (by assumption)) HSH.out.ok (HF.out.kept (by assumption)) HFN.out (HB.out.kept (by assumption)) rfl).mono ?_; rintro e wC ⟨rfl, hkC⟩; have hKC : Kept W0 wC none := Kept.tr (by assumption) hkC)
    | (go_at_call 20; refine (meet_any (HSB.out.kept (by assumption)) HSH.out.ok (HB.out.kept (by assumption)) rfl).mono ?_; rintro e wD ⟨rfl, hwD⟩; have hwD := hwD.symm; subst hwD)
    | (go_at_call 21; refine (soon_any (HSB.out.kept (by assumption)) HSH.out (HF.out.kept (by assumption)) HFN.out (HB.out.kept (by assumption)) rfl).mono ?_; rintro e wE ⟨rfl, hkE⟩; have hKE : Kept W0 wE none := Kept.tr (by assumption) hkE))
  go_ret
  exact ⟨rfl, HKA.out.tr (by assumption)⟩

end Go.Proofs.YtcgflfngoaccoaaDoor
