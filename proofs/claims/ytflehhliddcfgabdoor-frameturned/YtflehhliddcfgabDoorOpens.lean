/-
  WHAT CAME IN: a message, messages, pieces, as the walks want them.
-/
import Derived.Test.YtflehhliddcfgabDoorScan
import Derived.Deep.Matrix
import Derived.Deep.Strs
import Derived.OpenShut
import Derived.ShutString
namespace Go.Proofs.YtflehhliddcfgabDoor
open Go.ChangeShapes Go.WideShapes Go.ChangeAt Go.RowKit Go.Lib Go.Deep
set_option linter.unusedVariables false
set_option linter.unusedSimpArgs false

/-- Lists of bytes that lie somewhere. -/
structure Ps (w : World) (pa : Option Addr) (n : Nat) (Ls : List (List Nat)) : Prop where
  size : Ls.length = n
  max : n ≤ 9223372036854775807
  at_ : 0 < n → ∃ b off, pa = some ⟨b, off, none⟩ ∧ b < w.heap.size ∧ ∀ i L, Ls[i]? = some L → ∃ a c, w.cell? ⟨b, off + i, none⟩ = some (.slice a L.length c) ∧ Come w a L.length c L
theorem Ps.kept {w w' : World} {la : Option Addr} {n : Nat} {l : List (List Nat)} (h : Ps w la n l) (k : Kept w w' none) : Ps w' la n l := by
  refine ⟨h.size, h.max, fun hp => ?_⟩
  obtain ⟨b, off, rfl, hb, hc⟩ := h.at_ hp
  refine ⟨b, off, rfl, Nat.lt_of_lt_of_le hb k.size, fun i m hm => ?_⟩
  obtain ⟨a, c, h1, h4⟩ := hc i m hm
  exact ⟨a, c, (cell_kept k hb).trans h1, h4.kept k⟩

theorem nat_u8 {z : Int} (h : (Lit.int .u8 z).wf = true) : ∃ n : Nat, z = (n : Int) ∧ n < 256 := by
  have := bounds_u8 h
  exact ⟨z.toNat, by omega, by omega⟩
theorem nat_u32 {z : Int} (h : (Lit.int .u32 z).wf = true) : ∃ n : Nat, z = (n : Int) ∧ n < 4294967296 := by
  have := bounds_u32 h
  exact ⟨z.toNat, by omega, by omega⟩
theorem addr_plain {w : World} {a : Addr} {v : Value} (h : w.cell? a = some v) : ∃ b off, a = ⟨b, off, none⟩ := by
  obtain ⟨b, off, s⟩ := a
  cases s with
  | none => exact ⟨b, off, rfl⟩
  | some x =>
    simp [World.cell?] at h
    split at h <;> simp at h
section
variable {H : Type} {enc : TypeId × Value → H}
theorem come_trod {W : World} {fuel : Nat} {c : Value} {x : DataW H × List MemPlace} (h : DataW.trod enc Tryd.prog W 0 (fun _ => true) true fuel 23 [c] = some x) : ∃ a len cap L, c = .slice a len cap ∧ L.length = len ∧ Come W a len cap L := by
  rcases open_ints Tryd.underlying23 Tryd.underlying5 (by kernel_rfl) h with ⟨hcs, _⟩ | ⟨x, l, c', zs, hcs, _, hl, hm, hz, _, hcell, hwz⟩
  · have e : c = .slice none 0 0 := by simpa using hcs
    exact ⟨none, 0, 0, [], e, rfl, By.nil _ _, fun _ => rfl, Nat.le_refl _, by omega⟩
  · have e : c = .slice (some x) l c' := by simpa using hcs
    have hC := come_of (w := W) (a := some x) (len := l) (cap := c') (zs := zs) (.inr ⟨x, rfl, hl, hm, by simpa using hz, hcell, hwz⟩)
    exact ⟨some x, l, c', _, e, hC.by_.size, hC⟩
theorem cells_msg {W : World} {fuel : Nat} {c0 c1 c2 : Value} {x : DataW H × List MemPlace} (h : DataW.trod enc Tryd.prog W 0 (fun _ => true) true fuel 25 [c0, c1, c2] = some x) :
    ∃ (m : Msg) (a : Option Addr) (cap : Nat), c0 = .int .u8 (m.1 : Int) ∧ c1 = .int .u32 (m.2.1 : Int) ∧ c2 = .slice a m.2.2.length cap ∧ Come W a m.2.2.length cap m.2.2 ∧ Mok m := by
  obtain ⟨y0, y1, y2, n, _, _, h0, h1, h2⟩ := trod_struct3 Tryd.underlying25 h
  have k5 : Tryd.prog.cellsOf 5 = 1 := by kernel_rfl
  have k32 : Tryd.prog.cellsOf 22 = 1 := by kernel_rfl
  have kB : Tryd.prog.cellsOf 23 = 1 := by kernel_rfl
  simp [k5] at h0
  simp [k32] at h1
  simp [kB] at h2
  obtain ⟨z0, e0, _, w0⟩ := DataW.trod_int Tryd.underlying5 h0
  obtain ⟨z1, e1, _, w1⟩ := DataW.trod_int Tryd.underlying22 h1
  obtain ⟨a, len, cap, L, e2, hl, hC⟩ := come_trod h2
  obtain ⟨n0, rfl, b0⟩ := nat_u8 w0
  obtain ⟨n1, rfl, b1⟩ := nat_u32 w1
  subst hl
  exact ⟨(n0, n1, L), a, cap, by simpa using e0, by simpa using e1, e2, hC, b0, b1, hC.by_.lt⟩
theorem open_msg {W : World} {base : Nat} {v : Value} {d : DataW H} {p : List MemPlace} (hv : Value.okWide Tryd.prog W .any base 25 v) (h : DataW.Trod enc Tryd.prog W 0 (fun _ => true) true 25 v d p) :
    ∃ (m : Msg) (a : Option Addr) (cap : Nat), v = msgV m a m.2.2.length cap ∧ Come W a m.2.2.length cap m.2.2 ∧ Mok m := by
  obtain ⟨cs, rfl, hsz⟩ := okWide_struct Tryd.underlying25 hv
  have hC : Tryd.prog.cellsOf 25 = 3 := by kernel_rfl
  rw [hC] at hsz
  obtain ⟨l⟩ := cs
  match l, hsz with
  | [c0, c1, c2], _ =>
    obtain ⟨fuel, hf⟩ := h
    simp [Value.cells] at hf
    obtain ⟨m, a, cap, rfl, rfl, rfl, h1, h2⟩ := cells_msg hf
    exact ⟨m, a, cap, rfl, h1, h2⟩
end

end Go.Proofs.YtflehhliddcfgabDoor
