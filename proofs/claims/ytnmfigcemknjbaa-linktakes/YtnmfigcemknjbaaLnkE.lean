/-
  LISTS OF LISTS OF MESSAGES; what a region leaves whose new block may lie here or there.
-/
import Derived.Test.YtnmfigcemknjbaaLnkD
import Derived.Deep.RegionHeld
import Derived.Deep.RegionHeld3
namespace Go.Proofs.Ytnmfigcemknjbaa
open Go.RowKit Go.Lib Go.Deep
set_option linter.unusedVariables false
set_option linter.unusedSimpArgs false

/-- Lists of messages that lie somewhere. -/
structure Ts (w : World) (pa : Option Addr) (n : Nat) (ls : List (List Msg)) : Prop where
  size : ls.length = n
  max : n ≤ 9223372036854775807
  at_ : 0 < n → ∃ b off, pa = some ⟨b, off, none⟩ ∧ b < w.heap.size ∧ ∀ i l, ls[i]? = some l → ∃ a c, w.cell? ⟨b, off + i, none⟩ = some (.slice a l.length c) ∧ Ms w a l.length l
theorem Ts.kept {w w' : World} {a : Option Addr} {n : Nat} {ls : List (List Msg)} (h : Ts w a n ls) (k : Kept w w' none) : Ts w' a n ls := by
  refine ⟨h.size, h.max, fun hp => ?_⟩
  obtain ⟨b, off, rfl, hb, hc⟩ := h.at_ hp
  refine ⟨b, off, rfl, Nat.lt_of_lt_of_le hb k.size, fun i m hm => ?_⟩
  obtain ⟨a, c, h1, h4⟩ := hc i m hm
  exact ⟨a, c, (cell_kl k hb).trans h1, h4.kept k⟩
theorem Ts.at_is {w : World} {pa : Option Addr} {n : Nat} {ls : List (List Msg)} (h : Ts w pa n ls) {k : Nat} (hk : k < n) : ∃ b off l a c, pa = some ⟨b, off, none⟩ ∧ b < w.heap.size ∧ ls[k]? = some l ∧ w.cell? ⟨b, off + k, none⟩ = some (.slice a l.length c) ∧ Ms w a l.length l := by
  obtain ⟨b, off, rfl, hb, hc⟩ := h.at_ (by omega)
  obtain ⟨l, hl⟩ : ∃ l, ls[k]? = some l := ⟨_, List.getElem?_eq_getElem (by rw [h.size]; exact hk)⟩
  obtain ⟨a, c, h1, h4⟩ := hc k l hl
  exact ⟨b, off, l, a, c, rfl, hb, hl, h1, h4⟩
/-- What a region leaves: a block and a value that are not said. -/
def Rn (A : Nat → Value → Act) (P : Nat → Value → World → Prop) (e : Exit) (a : Act) (w : World) : Prop := match e with
  | .normal => ∃ b v, a = A b v ∧ P b v w
  | _ => False
theorem Rn.out {A : Nat → Value → Act} {P : Nat → Value → World → Prop} {e : Exit} {a : Act} {w : World} (h : Rn A P e a w) : e = .normal ∧ ∃ b v, a = A b v ∧ P b v w := by
  cases e with
  | normal => exact ⟨rfl, h⟩
  | _ => exact h.elim
theorem Rn.mk {A : Nat → Value → Act} {P : Nat → Value → World → Prop} {a : Act} {w : World} {b : Nat} {v : Value} (h : a = A b v) (p : P b v w) : Rn A P .normal a w := ⟨b, v, h, p⟩
/-- What a region leaves that turns nothing. -/
def Rz (A : Act) (W : World) (e : Exit) (a : Act) (w : World) : Prop := match e with
  | .normal => a = A ∧ w = W
  | _ => False
theorem Rz.out {A : Act} {W : World} {e : Exit} {a : Act} {w : World} (h : Rz A W e a w) : e = .normal ∧ a = A ∧ w = W := by
  cases e with
  | normal => exact ⟨rfl, h.1, h.2⟩
  | _ => exact h.elim
theorem Rz.mk {A : Act} {W : World} {a : Act} (h : a = A) : Rz A W .normal a W := ⟨h, rfl⟩
theorem kept_drl (w : World) (r : Option Nat) : Kept w w.drew r := ⟨rfl, rfl, rfl, Nat.le_refl _, fun _ _ _ => rfl⟩
theorem Lb.set3K (w : World) (b : Nat) (t : Lk) : Kept w (((w.setCell ⟨b, 0, none⟩ (.bool t.any)).setCell ⟨b, 1, none⟩ (.int .u32 (t.last : Int))).setCell ⟨b, 2, none⟩ (.int .i64 t.age)) (some b) :=
  ((kept_setZ _ _ _ _).tr (kept_setZ _ _ _ _)).tr (kept_setZ _ _ _ _)
theorem Mw.set3 {w0 w : World} {l : List Msg} {v : Value} {b : Nat} {s : Lk} (h : Mw w0 w l v) (hb : Lb w b s) (h0 : w0.heap.size ≤ b) (t : Lk) : Mw w0 (((w.setCell ⟨b, 0, none⟩ (.bool t.any)).setCell ⟨b, 1, none⟩ (.int .u32 (t.last : Int))).setCell ⟨b, 2, none⟩ (.int .i64 t.age)) l v :=
  h.kept' (Lb.set3K w b t) (NoB.row hb (by decide)) (NoB.row hb (by decide)) (fun g e => by injection e with e; omega)
theorem Mw.kw {w0 w : World} {l : List Msg} {v : Value} (h : Mw w0 w l v) : Kept w0 w none := h.kept

end Go.Proofs.Ytnmfigcemknjbaa
