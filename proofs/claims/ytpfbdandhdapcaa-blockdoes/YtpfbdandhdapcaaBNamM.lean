/-
  WRITE AND DO, as regions want them (made by a program).
-/
import Derived.Test.YtpfbdandhdapcaaBPieW
namespace Go.Proofs.Ytpfbdandhdapcaa
open Go.RowKit Go.Lib Go.Deep
set_option linter.unusedVariables false
set_option linter.unusedSimpArgs false

/-- What is answered: new memory. -/
structure Nw (w w' : World) (a : Option Addr) (n c : Nat) (M : List Nat) : Prop where
  come : Come w' a n c M
  ge : ∀ x, a = some x → w.heap.size ≤ x.block
  lt : ∀ x, a = some x → x.block < w'.heap.size
  kept : Kept w w' none
theorem dv_nw {w w' : World} {a : Option Addr} {n c : Nat} {L : List Nat} (hd : Dv w w' a n c L) (hk : Kept w w' none) : Nw w w' a n c L := by
  refine ⟨hd.come, ?_, ?_, hk⟩
  · rintro x rfl
    rcases hd.at_ with ⟨e, _⟩ | ⟨g, e, hg, _⟩
    · cases e
    · injection e with e; rw [e]; exact hg
  · rintro x rfl
    rcases hd.at_ with ⟨e, _⟩ | ⟨g, e, hg, hr⟩
    · cases e
    · injection e with e; rw [e]; exact hr.lt
theorem nw_write {a b : Option Addr} {n c q d : Nat} {L B : List Nat} {i : Int} (w : World) (hC : Come w a n c L) (hB : Come w b q d B) {E : Int} {M : List Nat} {n2 : Nat} (hE : doE n [⟨i, B⟩] 1 0 = E) (hM : doL L [⟨i, B⟩] 1 0 = M) (hn : M.length = n2) : Calls Try.prog 10 #[dvV a n c, .int .i64 i, .slice b q d] w fun e w' => ∃ a2 c2, e = dvR a2 n2 c2 E ∧ Hid (Nw w w' a2 n2 c2 M) ∧ Kept w w' none := by
  refine (write_any w hC i hB).mono ?_
  rintro e w' ⟨⟨a2, m2, c2, rfl, hd⟩, hk⟩
  rw [hM] at hd
  obtain rfl : m2 = n2 := by rw [← hd.size, hn]
  rw [hE]
  exact ⟨a2, c2, rfl, Hid.mk' (dv_nw hd hk), hk⟩
theorem nw_do {a la : Option Addr} {n c m : Nat} (lc : Nat) {L : List Nat} {l : List Pw} {wh to : Int} (w : World) (hC : Come w a n c L) (hP : Plw w la m l) {E : Int} {M : List Nat} {n2 : Nat} (hE : doE n l wh to = E) (hM : doL L l wh to = M) (hn : M.length = n2) : Calls Try.prog 13 #[dvV a n c, .slice la m lc, .int .i64 wh, .int .i64 to] w fun e w' => ∃ a2 c2, e = dvR a2 n2 c2 E ∧ Hid (Nw w w' a2 n2 c2 M) ∧ Kept w w' none := by
  refine (do_any lc w hC hP wh to).mono ?_
  rintro e w' ⟨⟨a2, m2, c2, rfl, hd⟩, hk⟩
  rw [hM] at hd
  obtain rfl : m2 = n2 := by rw [← hd.size, hn]
  rw [hE]
  exact ⟨a2, c2, rfl, Hid.mk' (dv_nw hd hk), hk⟩
theorem nw_new (i : Int) (w : World) {E : Int} {M : List Nat} {n2 : Nat} (hE : newE i = E) (hM : newL i = M) (hn : M.length = n2) : Calls Try.prog 8 #[.int .i64 i] w fun e w' => ∃ a2 c2, e = dvR a2 n2 c2 E ∧ Hid (Nw w w' a2 n2 c2 M) ∧ Kept w w' none := by
  refine (bnew_any i w).mono ?_
  rintro e w' ⟨⟨a2, m2, c2, rfl, hd⟩, hk⟩
  rw [hM] at hd
  obtain rfl : m2 = n2 := by rw [← hd.size, hn]
  rw [hE]
  exact ⟨a2, c2, rfl, Hid.mk' (dv_nw hd hk), hk⟩
theorem nw_read {a : Option Addr} {n c : Nat} {L : List Nat} (i : Int) (w : World) (hC : Come w a n c L) {E : Int} {M : List Nat} {n2 : Nat} (hE : brE n i = E) (hM : brL L i = M) (hn : M.length = n2) : Calls Try.prog 12 #[dvV a n c, .int .i64 i] w fun e w' => ∃ a2 c2, e = slR a2 n2 c2 E ∧ Hid (Nw w w' a2 n2 c2 M) ∧ Kept w w' none := by
  refine (bread_any hC i).mono ?_
  rintro e w' ⟨⟨a2, m2, c2, rfl, hd⟩, hk⟩
  rw [hM] at hd
  obtain rfl : m2 = n2 := by rw [← hd.size, hn]
  rw [hE]
  exact ⟨a2, c2, rfl, Hid.mk' (dv_nw hd hk), hk⟩
/-- Behind a region that asks ones, something that makes a device, and a box. -/
def R4 (A : Nat → Option Addr → Nat → Nat → Nat → Act) (P : Option Addr → Nat → Nat → World → Prop) (e : Exit) (a : Act) (w : World) : Prop := match e with
  | .normal => ∃ o1 oa c s b, a = A o1 oa c s b ∧ P oa c b w
  | _ => False
theorem R4.out {A : Nat → Option Addr → Nat → Nat → Nat → Act} {P : Option Addr → Nat → Nat → World → Prop} {e : Exit} {a : Act} {w : World} (h : R4 A P e a w) : e = .normal ∧ ∃ o1 oa c s b, a = A o1 oa c s b ∧ P oa c b w := by
  cases e with
  | normal => exact ⟨rfl, h⟩
  | _ => exact h.elim
def R22 (A : Nat → Nat → Act) (P : World → Prop) (e : Exit) (a : Act) (w : World) : Prop := match e with
  | .normal => ∃ o s, a = A o s ∧ P w
  | _ => False
theorem R22.out {A : Nat → Nat → Act} {P : World → Prop} {e : Exit} {a : Act} {w : World} (h : R22 A P e a w) : e = .normal ∧ ∃ o s, a = A o s ∧ P w := by
  cases e with
  | normal => exact ⟨rfl, h⟩
  | _ => exact h.elim

end Go.Proofs.Ytpfbdandhdapcaa
