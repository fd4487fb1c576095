/-
  Texts joined: some of those that the proofs of this seat stand on.
-/
import Derived.Test.YtkgimccffggfdaaDoorTurWJ
import Derived.Test.YtkgimccffggfdaaDoorOwn8J
import Derived.Test.YtkgimccffggfdaaDoorLampC
/-
  THE DOCUMENT'S Start of layer 8; standings' groups of one's own (made by a program).
-/
namespace Go.Proofs.YtkgimccffggfdaaDoor
open Go.RowKit Go.Lib Go.Deep
set_option linter.unusedVariables false
set_option linter.unusedSimpArgs false

/-- Groups' standings of one's own. -/
abbrev SnS (w : World) (base : Nat) (v : Value) (l : List Sn) : Prop := Ow8 23 3 snV n0 w base v l
theorem SnS.shape {w : World} {base : Nat} {v : Value} {l : List Sn} (h : SnS w base v l) : ∃ a c, v = .slice a l.length c := by
  obtain ⟨a, c, e, _⟩ := Ow8.lie h (by omega)
  exact ⟨a, c, e⟩
theorem SnS.safe {w : World} {base : Nat} {a : Option Addr} {n c : Nat} {l : List Sn} (h : SnS w base (.slice a n c) l) {F : Sf} (hF : F.groups = l) (hr : ∀ s ∈ l, s.asp < 256 ∧ i64B s.since ∧ i64B s.ended) : n = l.length ∧ SafeAt w a c F := by
  obtain ⟨a', c', e, h1, h2, _⟩ := Ow8.lie h (by omega)
  injection e with e1 e2 e3
  subst e1 e2 e3
  refine ⟨rfl, ⟨?_, by rw [hF]; exact h2, by rw [hF]; exact hr⟩⟩
  rw [hF]
  unfold Sf.g
  rw [hF]
  exact h1
theorem SnS.own {w : World} {base : Nat} {a : Option Addr} {n c : Nat} {l : List Sn} (h : SnS w base (.slice a n c) l) (b : Addr) (e : a = some b) : base ≤ b.block := by
  obtain ⟨a', c', e0, h1, h2, h3⟩ := Ow8.lie h (by omega)
  injection e0 with e1 e2 e3
  exact (h3 b (by rw [← e1]; exact e)).1
theorem SnS.grow {w : World} {base : Nat} {v : Value} {l : List Sn} (h : SnS w base v l) (x : Sn) (hn : l.length ≤ 900) (hb : base ≤ w.heap.size) :
    ∃ a' c' w', (Builtin.append_ #[24, 24] 24 #[v, .slice (some ⟨w.heap.size, 0, none⟩) 1 1]).run Tryd.prog (w.alloc (.cells #[.int .u8 (x.asp : Int), .int .i64 x.since, .int .i64 x.ended] 23)) = .ok (.slice a' (l.length + 1) c') w' ∧ SnS w' base (.slice a' (l.length + 1) c') (l ++ [x]) ∧ Kept w w' v.ownBlock := by
  obtain ⟨i, hi, hz, hs, hby⟩ := info_parts Tryd.infoSeen
  exact Ow8.grow h x (cs := #[.int .u8 (x.asp : Int), .int .i64 x.since, .int .i64 x.ended]) (fun j hj => by
    have : j = 0 ∨ j = 1 ∨ j = 2 := by omega
    rcases this with rfl | rfl | rfl <;> rfl) Tryd.underlying24 hi hz hs hby rfl (by omega) (by omega) (fun j => by unfold snV; split <;> rfl) hn hb
theorem Box.set0 {w : World} {b : Nat} {v0 v1 v2 : Value} (h : Box w b v0 v1 v2) (v : Value) : Box (w.setCell ⟨b, 0, none⟩ v) b v v1 v2 :=
  ⟨World.cell?_setCell_same _ _ _ h.c0, (World.cell?_setCell_other _ _ _ _ (by simp)).trans h.c1, (World.cell?_setCell_other _ _ _ _ (by simp)).trans h.c2, (World.frozen?_setCell ..).trans h.f0, (World.frozen?_setCell ..).trans h.f1, (World.frozen?_setCell ..).trans h.f2, by simpa [World.setCell] using h.lt⟩
theorem Box.keptR {w w' : World} {b : Nat} {v0 v1 v2 : Value} {r : Option Nat} (h : Box w b v0 v1 v2) (k : Kept w w' r) (hr : some b ≠ r) : Box w' b v0 v1 v2 := by
  have e := k.block b h.lt hr
  exact ⟨(World.cell?_of_block (w := w) (a := ⟨b, 0, none⟩) e).trans h.c0, (World.cell?_of_block (w := w) (a := ⟨b, 1, none⟩) e).trans h.c1, (World.cell?_of_block (w := w) (a := ⟨b, 2, none⟩) e).trans h.c2, (World.frozen?_of_block (w := w) (a := ⟨b, 0, none⟩) e).trans h.f0, (World.frozen?_of_block (w := w) (a := ⟨b, 1, none⟩) e).trans h.f1, (World.frozen?_of_block (w := w) (a := ⟨b, 2, none⟩) e).trans h.f2, Nat.lt_of_lt_of_le h.lt k.size⟩
theorem SnS.setOther {w : World} {base : Nat} {v : Value} {l : List Sn} (h : SnS w base v l) {b i : Nat} (hb : b < base) (u : Value) : SnS (w.setCell ⟨b, i, none⟩ u) base v l :=
  Ow8.keptR h (r := some b) ⟨rfl, rfl, rfl, by simp [World.setCell], fun k hk hr => Below.heap_setCell _ _ _ _ (fun e => hr (by rw [e]))⟩ (fun g e => .inl (by injection e with e; omega))
end Go.Proofs.YtkgimccffggfdaaDoor

/-
  THE DOCUMENT'S OWN ANSWERS for one group of lights: the same numbers.
-/
namespace Go.Proofs.YtkgimccffggfdaaDoor
open Go.RowKit Go.Lib Go.Deep
set_option linter.unusedVariables false
set_option linter.unusedSimpArgs false

def goesB (a : Int) : Bool := decide (a = 1 ∨ a = 2 ∨ a = 3)
end Go.Proofs.YtkgimccffggfdaaDoor

/-
  THE DOCUMENT'S Behind of layer 8 (made by a program).
-/
namespace Go.Proofs.YtkgimccffggfdaaDoor
open Go.RowKit Go.Lib Go.Deep
set_option linter.unusedVariables false
set_option linter.unusedSimpArgs false

/-- A drawn region's one way, two slots left open. -/
def Rv8 (A : Value → Value → Act) (P : World → Prop) (e : Exit) (a : Act) (w : World) : Prop := match e with
  | .normal => ∃ u v, a = A u v ∧ P w
  | _ => False
theorem Rv8.out {A : Value → Value → Act} {P : World → Prop} {w : World} {e : Exit} {a : Act} (h : Rv8 A P e a w) : e = .normal ∧ ∃ u v, a = A u v ∧ P w := by
  cases e with
  | normal => exact ⟨rfl, h⟩
  | _ => exact h.elim
end Go.Proofs.YtkgimccffggfdaaDoor

