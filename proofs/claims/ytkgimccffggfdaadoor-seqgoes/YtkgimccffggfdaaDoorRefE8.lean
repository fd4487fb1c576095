/-
  Texts joined: some of those that the proofs of this seat stand on.
-/
import Derived.Test.YtkgimccffggfdaaDoorRefB8J
import Derived.Test.YtkgimccffggfdaaDoorRefK2
/-
  THE DOCUMENT'S Shown, May of layer 8 (made by a program).
-/
namespace Go.Proofs.YtkgimccffggfdaaDoor
open Go.RowKit Go.Lib Go.Deep
set_option linter.unusedVariables false
set_option linter.unusedSimpArgs false

/-- Bytes of one's own. -/
abbrev BtS (w : World) (base : Nat) (v : Value) (l : List Nat) : Prop := Ow8 5 1 (fun (x : Nat) (_ : Nat) => Value.int .u8 (x : Int)) 0 w base v l
theorem BtS.grow {w : World} {base : Nat} {v : Value} {l : List Nat} (h : BtS w base v l) (x : Nat) (hn : l.length ≤ 900) (hb : base ≤ w.heap.size) :
    ∃ a' c' w', (Builtin.append_ #[41, 41] 41 #[v, .slice (some ⟨w.heap.size, 0, none⟩) 1 1]).run Tryd.prog (w.alloc (.cells #[.int .u8 (x : Int)] 5)) = .ok (.slice a' (l.length + 1) c') w' ∧ BtS w' base (.slice a' (l.length + 1) c') (l ++ [x]) ∧ Kept w w' v.ownBlock := by
  obtain ⟨i, hi, hz, hs, hby⟩ := info_parts Tryd.infoByte
  exact Ow8.grow h x (cs := #[.int .u8 (x : Int)]) (fun j hj => by
    have : j = 0 := by omega
    subst this
    rfl) Tryd.underlying41 hi hz hs hby rfl (by omega) (by omega) (fun j => rfl) hn hb
theorem BtS.by {w : World} {base : Nat} {a : Option Addr} {n c : Nat} {l : List Nat} (h : BtS w base (.slice a n c) l) (hl : l.length ≤ 1000) (h8 : ∀ x ∈ l, x < 256) : By w a n l := by
  obtain ⟨a', c', e, h1, h2, _⟩ := Ow8.lie h (by omega)
  injection e with e1 e2 e3
  subst e1 e2 e3
  exact ⟨rfl, by omega, h8, fun hp => h1.one hp⟩
end Go.Proofs.YtkgimccffggfdaaDoor

