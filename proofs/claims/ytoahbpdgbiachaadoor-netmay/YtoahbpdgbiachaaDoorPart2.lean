/-
  Part 2 of the texts that the proofs of this seat stand on.
-/
import Derived.Test.YtoahbpdgbiachaaDoorPart1
import Derived.Deep.Matrix
import Derived.Deep.Strs
import Derived.OpenShut
import Derived.ShutString
import Derived.Maps.OwnSet
import Derived.Maps.OwnOps
import Derived.DeepKeys4
import Derived.MapViews
import Derived.Deep.RegionWith
import Derived.Laws.AppendOwnNone
import Derived.RangeFuncNested
import Derived.RangeFuncBound
import Derived.RangeFuncCalls
import Derived.RangeFuncLeaves
import Derived.Shelf.Abstract
import Derived.Shelf.RegionOpen
import Derived.OwnWalkIn
import Derived.TacticsInMore
import Derived.LoopNIn
import Derived.LoopIn
import Derived.Deep.RegionHeld
/-
  WHAT CAME IN: a site, plans, a plan, bytes, as the walks want them.
-/
namespace Go.Proofs.YtoahbpdgbiachaaDoor
open Go.ChangeShapes Go.WideShapes Go.ChangeAt Go.RowKit Go.Lib Go.Deep
set_option linter.unusedVariables false
set_option linter.unusedSimpArgs false

theorem nat_u8 {z : Int} (h : (Lit.int .u8 z).wf = true) : ∃ n : Nat, z = (n : Int) ∧ n < 256 := by
  have := bounds_u8 h
  exact ⟨z.toNat, by omega, by omega⟩
theorem nat_u32 {z : Int} (h : (Lit.int .u32 z).wf = true) : ∃ n : Nat, z = (n : Int) ∧ n < 4294967296 := by
  have := bounds_u32 h
  exact ⟨z.toNat, by omega, by omega⟩
theorem i64_of {z : Int} (h : (Lit.int .i64 z).wf = true) : i64B z := by
  have := bounds_i64 h
  unfold i64B
  omega
theorem addr_plain {w : World} {a : Addr} {v : Value} (h : w.cell? a = some v) : ∃ b off, a = ⟨b, off, none⟩ := by
  obtain ⟨b, off, s⟩ := a
  cases s with
  | none => exact ⟨b, off, rfl⟩
  | some x =>
    simp [World.cell?] at h
    split at h <;> simp at h
theorem add_add (a : Addr) (i j : Nat) : (a.add i).add j = a.add (i + j) := by
  unfold Addr.add
  by_cases h3 : i = 0
  · simp [h3]
  · by_cases hj : j = 0
    · simp [hj, h3]
    · simp [h3, hj, Nat.add_assoc]
section
variable {H : Type} {enc : TypeId × Value → H}
abbrev Tr (enc : TypeId × Value → H) (W : World) (n : Nat) (t : TypeId) (cs : List Value) (x : DataW H × List MemPlace) : Prop := DataW.trod enc Tryd.prog W 0 (fun _ => true) true n t cs = some x
theorem flds {W : World} {fuel : Nat} {t : TypeId} {fs : Array Field} {cs : List Value} {x : DataW H × List MemPlace} (ht : Tryd.prog.underlying t = some (.struct fs)) (h : Tr enc W fuel t cs x) : ∃ n, cs.length = Tryd.prog.cellsOf t ∧ ∀ (i : Nat) (f : Field), fs[i]? = some f → ∃ y, Tr enc W n f.type ((cs.drop f.offset).take (Tryd.prog.cellsOf f.type)) y := by
  obtain ⟨xs, n, _, _, hl, hlen, hf⟩ := DataW.trod_struct ht h
  refine ⟨n, hl, fun i f hi => ?_⟩
  have hi' : i < fs.size := (Array.getElem?_eq_some_iff.1 hi).1
  exact ⟨xs[i]'(by omega), (hf i f hi).trans (List.getElem?_eq_getElem (by omega))⟩
/-- A list of elements of K cells. -/
theorem open_list {α : Type} (d : α) {W : World} {fuel : Nat} {t e : TypeId} {K : Nat} {c : Value} {x : DataW H × List MemPlace} (hK : 0 < K) (f : α → Nat → Value) (Ok : α → Prop) (ht : Tryd.prog.underlying t = some (.slice e)) (hc : Tryd.prog.cellsOf e = K)
    (hel : ∀ n cs x, Tr enc W n e cs x → ∃ y : α, (∀ j, j < K → cs[j]? = some (f y j)) ∧ Ok y) (h : Tr enc W fuel t [c] x) :
    ∃ (a : Option Addr) (cap : Nat) (l : List α), c = .slice a l.length cap ∧ Lie W a l.length K (fun i j => f (l.getD i d) j) ∧ Cap a l.length cap ∧ ∀ y ∈ l, Ok y := by
  rcases open_slice ht h with ⟨hcs, _⟩ | ⟨a', len', cap', m, n, D, Pl, hcs, _, hl, hm, hmm, _, hx⟩
  · simp at hcs
    subst hcs
    exact ⟨none, 0, [], rfl, ⟨fun h => absurd h (by simp)⟩, ⟨fun _ => ⟨rfl, rfl⟩, Nat.le_refl _, by omega⟩, by simp⟩
  · simp at hcs
    subst hcs
    rw [hc] at hx
    have hmm : m = cap' := by simpa using hmm
    subst hmm
    unfold maxLen at hm
    have each : ∀ i, ∃ y : α, i < len' → (∀ j, j < K → W.cell? (a'.add (i * K + j)) = some (f y j)) ∧ Ok y := by
      intro i
      by_cases hi : i < len'
      · obtain ⟨cs', h1, h2⟩ := hx i (by omega)
        obtain ⟨_, hlen, hcell⟩ := World.cells?_some h1
        obtain ⟨y, hy, ho⟩ := hel _ _ _ h2
        refine ⟨y, fun _ => ⟨fun j hj => ?_, ho⟩⟩
        have q := hcell j (by omega)
        rw [add_add] at q
        rw [q]
        exact hy j hj
      · exact ⟨d, fun h => absurd h hi⟩
    have hcc := fun i => Classical.choose_spec (each i)
    obtain ⟨F, hcc⟩ : ∃ F : Nat → α, ∀ i, i < len' → (∀ j, j < K → W.cell? (a'.add (i * K + j)) = some (f (F i) j)) ∧ Ok (F i) := ⟨fun i => Classical.choose (each i), hcc⟩
    refine ⟨some a', m, (List.range len').map F, by simp, ⟨fun hp => ?_⟩, ⟨fun e => (nomatch e), by simpa using hl, by omega⟩, fun y hy => ?_⟩
    · have hp' : 0 < len' := by simpa using hp
      have q0 := (hcc 0 hp').1 0 hK
      rw [show a'.add (0 * K + 0) = a' by simp [Addr.add]] at q0
      obtain ⟨b, off, rfl⟩ := addr_plain q0
      refine ⟨b, off, rfl, block_lt q0, fun i hi j hj => ?_⟩
      have hi' : i < len' := by simpa using hi
      have q := (hcc i hi').1 j hj
      rw [Addr.add_lit, ← Nat.add_assoc] at q
      rw [q]
      simp [hi']
    · simp only [List.mem_map, List.mem_range] at hy
      obtain ⟨i, hi, rfl⟩ := hy
      exact (hcc i hi).2
theorem open_int1 {W : World} {n : Nat} {t : TypeId} {k : IntKind} {cs : List Value} {x : DataW H × List MemPlace} (ht : Tryd.prog.underlying t = some (.int k)) (h : Tr enc W n t cs x) : ∃ z, cs = [.int k z] ∧ (Lit.int k z).wf = true := by
  obtain ⟨z, e, _, hw⟩ := DataW.trod_int ht h
  exact ⟨z, e, hw⟩
/-- Numbers. -/
theorem open_nums {W : World} {fuel : Nat} {c : Value} {x : DataW H × List MemPlace} (h : Tr enc W fuel 31 [c] x) : ∃ (a : Option Addr) (cap : Nat) (l : List Int), c = .slice a l.length cap ∧ Ints W a l.length cap l := by
  obtain ⟨a, cap, l, rfl, h1, h2, h3⟩ := open_list (0 : Int) (e := 3) (K := 1) (by omega) (fun z _ => .int .i64 z) (fun z => i64B z) Tryd.underlying31 (by kernel_rfl) (fun n cs x h => by
    obtain ⟨z, rfl, hw⟩ := open_int1 Tryd.underlying3 h
    exact ⟨z, fun j hj => by rw [show j = 0 by omega]; rfl, i64_of hw⟩) h
  exact ⟨a, cap, l, rfl, h1, rfl, h2, h3⟩
set_option maxRecDepth 100000 in
theorem open_plan1 {W : World} {n : Nat} {cs : List Value} {x : DataW H × List MemPlace} (h : Tr enc W n 113 cs x) : ∃ y : Pl × Option Addr × Nat, (∀ j, j < 3 → cs[j]? = some (plV y.1 y.2.1 y.2.2 j)) ∧ Ints W y.2.1 y.1.splits.length y.2.2 y.1.splits ∧ i64B y.1.cycle ∧ i64B y.1.offset := by
  obtain ⟨n, hl, hf⟩ := flds Tryd.underlying113 h
  have hC : Tryd.prog.cellsOf 113 = 3 := by kernel_rfl
  have kI : Tryd.prog.cellsOf 3 = 1 := by kernel_rfl
  have kL : Tryd.prog.cellsOf 31 = 1 := by kernel_rfl
  rw [hC] at hl
  match cs, hl with
  | [c0, c1, c2], _ =>
    obtain ⟨y0, h0⟩ := hf 0 _ rfl
    obtain ⟨y1, h1⟩ := hf 1 _ rfl
    obtain ⟨y2, h2⟩ := hf 2 _ rfl
    simp [kI] at h0 h1
    simp [kL] at h2
    obtain ⟨z0, e0, w0⟩ := open_int1 Tryd.underlying3 h0
    obtain ⟨z1, e1, w1⟩ := open_int1 Tryd.underlying3 h1
    obtain ⟨a, cap, l, rfl, hI⟩ := open_nums h2
    simp at e0 e1
    subst e0 e1
    refine ⟨(⟨z0, z1, l⟩, a, cap), fun j hj => ?_, hI, i64_of w0, i64_of w1⟩
    match j, hj with
    | 0, _ => rfl
    | 1, _ => rfl
    | 2, _ => rfl
theorem open_plansC {W : World} {fuel : Nat} {c : Value} {x : DataW H × List MemPlace} (h : Tr enc W fuel 46 [c] x) : ∃ (a : Option Addr) (cap : Nat) (l : List Pl), c = .slice a l.length cap ∧ Plans W a l.length cap l := by
  obtain ⟨a, cap, l, rfl, h1, h2, h3⟩ := open_list ((q0, none, 0) : Pl × Option Addr × Nat) (e := 113) (K := 3) (by omega) (fun y j => plV y.1 y.2.1 y.2.2 j) (fun y => Ints W y.2.1 y.1.splits.length y.2.2 y.1.splits ∧ i64B y.1.cycle ∧ i64B y.1.offset) Tryd.underlying46 (by kernel_rfl) (fun n cs x h => open_plan1 h) h
  refine ⟨a, cap, l.map Prod.fst, by simp, ⟨⟨fun i => (l.getD i (q0, none, 0)).2, ?_, ?_⟩, by simp, by simpa using h2, ?_⟩⟩
  · rw [List.length_map]
    refine h1.congr (fun i hi j hj => ?_)
    simp [hi]
  · intro i hi
    rw [List.length_map] at hi
    have := (h3 (l[i]) (List.getElem_mem _)).1
    simpa [hi] using this
  · intro p hp
    simp only [List.mem_map] at hp
    obtain ⟨y, hy, rfl⟩ := hp
    exact (h3 y hy).2
theorem open_grid {W : World} {fuel : Nat} {c : Value} {x : DataW H × List MemPlace} (h : Tr enc W fuel 43 [c] x) : ∃ (a : Option Addr) (cap : Nat) (l : List (List Int)), c = .slice a l.length cap ∧ Grid W a l.length cap l := by
  obtain ⟨a, cap, l, rfl, h1, h2, h3⟩ := open_list (([], none, 0) : List Int × Option Addr × Nat) (e := 31) (K := 1) (by omega) (fun y _ => .slice y.2.1 y.1.length y.2.2) (fun y => Ints W y.2.1 y.1.length y.2.2 y.1) Tryd.underlying43 (by kernel_rfl) (fun n cs x h => by
    obtain ⟨a, len, cap', e⟩ : ∃ a len cap', cs = [.slice a len cap'] := by
      rcases open_slice Tryd.underlying31 h with ⟨hcs, _⟩ | ⟨a', len', cap', m, n, D, Pl, hcs, _⟩
      · exact ⟨_, _, _, hcs⟩
      · exact ⟨_, _, _, hcs⟩
    subst e
    obtain ⟨a2, c2, l2, e2, hI⟩ := open_nums h
    rw [e2]
    exact ⟨(l2, a2, c2), fun j hj => by rw [show j = 0 by omega]; rfl, hI⟩) h
  refine ⟨a, cap, l.map Prod.fst, by simp, ⟨⟨fun i => (l.getD i ([], none, 0)).2, ?_, ?_⟩, by simp, by simpa using h2⟩⟩
  · rw [List.length_map]
    refine h1.congr (fun i hi j hj => ?_)
    simp [hi]
  · intro i hi
    rw [List.length_map] at hi
    have := h3 (l[i]) (List.getElem_mem _)
    simpa [hi] using this
set_option maxRecDepth 100000 in
theorem open_groups {W : World} {fuel : Nat} {c : Value} {x : DataW H × List MemPlace} (h : Tr enc W fuel 41 [c] x) : ∃ (a : Option Addr) (cap : Nat) (l : List Gr), c = .slice a l.length cap ∧ Lie W a l.length 3 (fun i j => grV (l.getD i g0) j) ∧ Cap a l.length cap ∧ ∀ g ∈ l, g.kind < 256 ∧ i64B g.min ∧ i64B g.yellow :=
  open_list g0 (e := 64) (K := 3) (by omega) grV (fun g => g.kind < 256 ∧ i64B g.min ∧ i64B g.yellow) Tryd.underlying41 (by kernel_rfl) (fun n cs x h => by
    obtain ⟨n, hl, hf⟩ := flds Tryd.underlying64 h
    have hC : Tryd.prog.cellsOf 64 = 3 := by kernel_rfl
    have kI : Tryd.prog.cellsOf 3 = 1 := by kernel_rfl
    have k8 : Tryd.prog.cellsOf 5 = 1 := by kernel_rfl
    rw [hC] at hl
    match cs, hl with
    | [c0, c1, c2], _ =>
      obtain ⟨y0, h0⟩ := hf 0 _ rfl
      obtain ⟨y1, h1⟩ := hf 1 _ rfl
      obtain ⟨y2, h2⟩ := hf 2 _ rfl
      simp [k8] at h0
      simp [kI] at h1 h2
      obtain ⟨z0, e0, w0⟩ := open_int1 Tryd.underlying5 h0
      obtain ⟨z1, e1, w1⟩ := open_int1 Tryd.underlying3 h1
      obtain ⟨z2, e2, w2⟩ := open_int1 Tryd.underlying3 h2
      obtain ⟨n0, rfl, b0⟩ := nat_u8 w0
      simp at e0 e1 e2
      subst e0 e1 e2
      refine ⟨⟨n0, z1, z2⟩, fun j hj => ?_, b0, i64_of w1, i64_of w2⟩
      match j, hj with
      | 0, _ => rfl
      | 1, _ => rfl
      | 2, _ => rfl) h
theorem open_apart {W : World} {fuel : Nat} {c : Value} {x : DataW H × List MemPlace} (h : Tr enc W fuel 42 [c] x) : ∃ (a : Option Addr) (cap : Nat) (l : List Nat), c = .slice a l.length cap ∧ Lie W a l.length 1 (fun i _ => .int .u32 ((l.getD i 0 : Nat) : Int)) ∧ Cap a l.length cap ∧ ∀ x ∈ l, x < 4294967296 :=
  open_list (0 : Nat) (e := 65) (K := 1) (by omega) (fun y _ => .int .u32 (y : Int)) (fun y => y < 4294967296) Tryd.underlying42 (by kernel_rfl) (fun n cs x h => by
    obtain ⟨z, rfl, hw⟩ := open_int1 Tryd.underlying65 h
    obtain ⟨n0, rfl, b0⟩ := nat_u32 hw
    exact ⟨n0, fun j hj => by rw [show j = 0 by omega]; rfl, b0⟩) h
set_option maxRecDepth 100000 in
theorem open_phases {W : World} {fuel : Nat} {c : Value} {x : DataW H × List MemPlace} (h : Tr enc W fuel 44 [c] x) : ∃ (a : Option Addr) (cap : Nat) (l : List Ph), c = .slice a l.length cap ∧ Lie W a l.length 5 (fun i j => phV (l.getD i p0) j) ∧ Cap a l.length cap ∧ ∀ p ∈ l, p.groups < 4294967296 ∧ i64B p.min ∧ i64B p.max ∧ i64B p.gap :=
  open_list p0 (e := 67) (K := 5) (by omega) phV (fun p => p.groups < 4294967296 ∧ i64B p.min ∧ i64B p.max ∧ i64B p.gap) Tryd.underlying44 (by kernel_rfl) (fun n cs x h => by
    obtain ⟨n, hl, hf⟩ := flds Tryd.underlying67 h
    have hC : Tryd.prog.cellsOf 67 = 5 := by kernel_rfl
    have kI : Tryd.prog.cellsOf 3 = 1 := by kernel_rfl
    have k3 : Tryd.prog.cellsOf 65 = 1 := by kernel_rfl
    have kb : Tryd.prog.cellsOf 4 = 1 := by kernel_rfl
    rw [hC] at hl
    match cs, hl with
    | [c0, c1, c2, c3, c4], _ =>
      obtain ⟨y0, h0⟩ := hf 0 _ rfl
      obtain ⟨y1, h1⟩ := hf 1 _ rfl
      obtain ⟨y2, h2⟩ := hf 2 _ rfl
      obtain ⟨y3, h3⟩ := hf 3 _ rfl
      obtain ⟨y4, h4⟩ := hf 4 _ rfl
      simp [k3] at h0
      simp [kI] at h1 h2 h3
      simp [kb] at h4
      obtain ⟨z0, e0, w0⟩ := open_int1 Tryd.underlying65 h0
      obtain ⟨z1, e1, w1⟩ := open_int1 Tryd.underlying3 h1
      obtain ⟨z2, e2, w2⟩ := open_int1 Tryd.underlying3 h2
      obtain ⟨z3, e3, w3⟩ := open_int1 Tryd.underlying3 h3
      obtain ⟨b4, e4, _⟩ := DataW.trod_bool Tryd.underlying4 h4
      obtain ⟨n0, rfl, b0⟩ := nat_u32 w0
      simp at e0 e1 e2 e3 e4
      subst e0 e1 e2 e3 e4
      refine ⟨⟨n0, z1, z2, z3, b4⟩, fun j hj => ?_, b0, i64_of w1, i64_of w2, i64_of w3⟩
      match j, hj with
      | 0, _ => rfl
      | 1, _ => rfl
      | 2, _ => rfl
      | 3, _ => rfl
      | 4, _ => rfl) h
set_option maxRecDepth 100000 in
theorem open_eyes {W : World} {fuel : Nat} {c : Value} {x : DataW H × List MemPlace} (h : Tr enc W fuel 45 [c] x) : ∃ (a : Option Addr) (cap : Nat) (l : List Ey), c = .slice a l.length cap ∧ Lie W a l.length 4 (fun i j => eyV (l.getD i e0) j) ∧ Cap a l.length cap ∧ ∀ e ∈ l, i64B e.phase ∧ i64B e.on ∧ i64B e.off ∧ i64B e.turns :=
  open_list e0 (e := 116) (K := 4) (by omega) eyV (fun e => i64B e.phase ∧ i64B e.on ∧ i64B e.off ∧ i64B e.turns) Tryd.underlying45 (by kernel_rfl) (fun n cs x h => by
    obtain ⟨n, hl, hf⟩ := flds Tryd.underlying116 h
    have hC : Tryd.prog.cellsOf 116 = 4 := by kernel_rfl
    have kI : Tryd.prog.cellsOf 3 = 1 := by kernel_rfl
    rw [hC] at hl
    match cs, hl with
    | [c0, c1, c2, c3], _ =>
      obtain ⟨y0, h0⟩ := hf 0 _ rfl
      obtain ⟨y1, h1⟩ := hf 1 _ rfl
      obtain ⟨y2, h2⟩ := hf 2 _ rfl
      obtain ⟨y3, h3⟩ := hf 3 _ rfl
      simp [kI] at h0 h1 h2 h3
      obtain ⟨z0, q0, w0⟩ := open_int1 Tryd.underlying3 h0
      obtain ⟨z1, q1, w1⟩ := open_int1 Tryd.underlying3 h1
      obtain ⟨z2, q2, w2⟩ := open_int1 Tryd.underlying3 h2
      obtain ⟨z3, q3, w3⟩ := open_int1 Tryd.underlying3 h3
      simp at q0 q1 q2 q3
      subst q0 q1 q2 q3
      refine ⟨⟨z0, z1, z2, z3⟩, fun j hj => ?_, i64_of w0, i64_of w1, i64_of w2, i64_of w3⟩
      match j, hj with
      | 0, _ => rfl
      | 1, _ => rfl
      | 2, _ => rfl
      | 3, _ => rfl) h
set_option maxRecDepth 100000 in
theorem open_site {W : World} {base : Nat} {v : Value} {d : DataW H} {p : List MemPlace} (hv : Value.okWide Tryd.prog W .any base 48 v) (h : DataW.Trod enc Tryd.prog W 0 (fun _ => true) true 48 v d p) : ∃ (X : Sa) (S : St), v = siteV X S ∧ Sat W X S := by
  obtain ⟨cs, rfl, hsz⟩ := okWide_struct Tryd.underlying48 hv
  have hC : Tryd.prog.cellsOf 48 = 12 := by kernel_rfl
  rw [hC] at hsz
  obtain ⟨l⟩ := cs
  have kI : Tryd.prog.cellsOf 3 = 1 := by kernel_rfl
  have k1 : Tryd.prog.cellsOf 41 = 1 := by kernel_rfl
  have k2 : Tryd.prog.cellsOf 42 = 1 := by kernel_rfl
  have k3 : Tryd.prog.cellsOf 43 = 1 := by kernel_rfl
  have k4 : Tryd.prog.cellsOf 44 = 1 := by kernel_rfl
  have k5 : Tryd.prog.cellsOf 45 = 1 := by kernel_rfl
  have k6 : Tryd.prog.cellsOf 46 = 1 := by kernel_rfl
  match l, hsz with
  | [c0, c1, c2, c3, c4, c5, c6, c7, c8, c9, c10, c11], _ =>
    obtain ⟨fuel, hf0⟩ := h
    simp [Value.cells] at hf0
    obtain ⟨n, hl, hf⟩ := flds Tryd.underlying48 hf0
    obtain ⟨y0, h0⟩ := hf 0 _ rfl
    obtain ⟨y1, h1⟩ := hf 1 _ rfl
    obtain ⟨y2, h2⟩ := hf 2 _ rfl
    obtain ⟨y3, h3⟩ := hf 3 _ rfl
    obtain ⟨y4, h4⟩ := hf 4 _ rfl
    obtain ⟨y5, h5⟩ := hf 5 _ rfl
    obtain ⟨y6, h6⟩ := hf 6 _ rfl
    obtain ⟨y7, h7⟩ := hf 7 _ rfl
    obtain ⟨y8, h8⟩ := hf 8 _ rfl
    obtain ⟨y9, h9⟩ := hf 9 _ rfl
    obtain ⟨y10, h10⟩ := hf 10 _ rfl
    obtain ⟨y11, h11⟩ := hf 11 _ rfl
    simp [kI] at h0 h6 h7 h8 h9 h10
    simp [k1] at h1
    simp [k2] at h2
    simp [k3] at h3
    simp [k4] at h4
    simp [k5] at h5
    simp [k6] at h11
    obtain ⟨z0, q0, w0⟩ := open_int1 Tryd.underlying3 h0
    obtain ⟨z6, q6, w6⟩ := open_int1 Tryd.underlying3 h6
    obtain ⟨z7, q7, w7⟩ := open_int1 Tryd.underlying3 h7
    obtain ⟨z8, q8, w8⟩ := open_int1 Tryd.underlying3 h8
    obtain ⟨z9, q9, w9⟩ := open_int1 Tryd.underlying3 h9
    obtain ⟨z10, q10, w10⟩ := open_int1 Tryd.underlying3 h10
    simp at q0 q6 q7 q8 q9 q10
    subst q0 q6 q7 q8 q9 q10
    obtain ⟨a1, u1, l1, rfl, i1, j1, r1⟩ := open_groups h1
    obtain ⟨a2, u2, l2, rfl, i2, j2, r2⟩ := open_apart h2
    obtain ⟨a3, u3, l3, rfl, i3⟩ := open_grid h3
    obtain ⟨a4, u4, l4, rfl, i4, j4, r4⟩ := open_phases h4
    obtain ⟨a5, u5, l5, rfl, i5, j5, r5⟩ := open_eyes h5
    obtain ⟨a6, u6, l6, rfl, i6⟩ := open_plansC h11
    exact ⟨⟨a1, u1, a2, u2, a3, u3, a4, u4, a5, u5, a6, u6⟩, ⟨z0, l1, l2, l3, l4, l5, z6, z7, z8, z9, z10, l6⟩, rfl, i1, i2, i3, i4, i5, i6, j1, j2, j4, j5, r1, r2, r4, r5, i64_of w0, i64_of w6, i64_of w7, i64_of w8, i64_of w9, i64_of w10⟩
theorem open_plans {W : World} {a : Option Addr} {len cap : Nat} {d : DataW H} {p : List MemPlace} (h : DataW.Trod enc Tryd.prog W 0 (fun _ => true) true 46 (.slice a len cap) d p) : ∃ l : List Pl, Plans W a len cap l := by
  obtain ⟨fuel, hf⟩ := h
  simp [Value.cells] at hf
  obtain ⟨a', cap', l, e, hP⟩ := open_plansC hf
  injection e with e1 e2 e3
  subst e1 e2 e3
  exact ⟨l, hP⟩
set_option maxRecDepth 100000 in
theorem open_plan {W : World} {base : Nat} {v : Value} {d : DataW H} {p : List MemPlace} (hv : Value.okWide Tryd.prog W .any base 113 v) (h : DataW.Trod enc Tryd.prog W 0 (fun _ => true) true 113 v d p) : ∃ (P : Pl) (a : Option Addr) (c : Nat), v = planV P a c ∧ Ints W a P.splits.length c P.splits ∧ i64B P.cycle ∧ i64B P.offset := by
  obtain ⟨cs, rfl, hsz⟩ := okWide_struct Tryd.underlying113 hv
  have hC : Tryd.prog.cellsOf 113 = 3 := by kernel_rfl
  rw [hC] at hsz
  obtain ⟨l⟩ := cs
  match l, hsz with
  | [c0, c1, c2], _ =>
    obtain ⟨fuel, hf⟩ := h
    simp [Value.cells] at hf
    obtain ⟨⟨P, a, c⟩, hc, hI, h1, h2⟩ := open_plan1 hf
    have e0 := hc 0 (by omega)
    have e1 := hc 1 (by omega)
    have e2 := hc 2 (by omega)
    simp [plV] at e0 e1 e2
    subst e0 e1 e2
    exact ⟨P, a, c, rfl, hI, h1, h2⟩
theorem come_trod {W : World} {fuel : Nat} {c : Value} {x : DataW H × List MemPlace} (h : DataW.trod enc Tryd.prog W 0 (fun _ => true) true fuel 58 [c] = some x) : ∃ a len cap L, c = .slice a len cap ∧ L.length = len ∧ Come W a len cap L := by
  rcases open_ints Tryd.underlying58 Tryd.underlying5 (by kernel_rfl) h with ⟨hcs, _⟩ | ⟨x, l, c', zs, hcs, _, hl, hm, hz, _, hcell, hwz⟩
  · have e : c = .slice none 0 0 := by simpa using hcs
    exact ⟨none, 0, 0, [], e, rfl, By.nil _ _, fun _ => rfl, Nat.le_refl _, by omega⟩
  · have e : c = .slice (some x) l c' := by simpa using hcs
    have hC := come_of (w := W) (a := some x) (len := l) (cap := c') (zs := zs) (.inr ⟨x, rfl, hl, hm, by simpa using hz, hcell, hwz⟩)
    exact ⟨some x, l, c', _, e, hC.by_.size, hC⟩
end

end Go.Proofs.YtoahbpdgbiachaaDoor

/-
  MARKS: a map of triples of numbers, as the list of what was put into it; isFirst's contract.
-/
namespace Go.Proofs.YtoahbpdgbiachaaDoor
open Go.RowKit Go.Lib Go.Deep Go.Maps Go.WideMaps
set_option linter.unusedVariables false
set_option linter.unusedSimpArgs false

theorem Tryd.laidOut : laidOutB Tryd.prog = true := by kernel_rfl
theorem Tryd.rowMk : (70 : TypeId) < Tryd.prog.types.size := of_decide_eq_true (by kernel_rfl)
theorem Tryd.uMk : Tryd.prog.underlying 70 = some (.array 3 3) := by kernel_rfl
theorem Tryd.uMi : Tryd.prog.underlying 3 = some (.int .i64) := by kernel_rfl
theorem Tryd.uMks : Tryd.prog.underlying 80 = some (.map 70 3) := by kernel_rfl
theorem Tryd.wideMk : (match Tryd.prog.underlying 70 with | some (.array _ _) | some (.struct _) => true | _ => false) = true := by kernel_rfl
set_option maxRecDepth 100000 in
theorem Tryd.lawMk : Keyed Tryd.prog 70 := Keyed.of_law (deep_law_laid Tryd.laidOut (m := 2) (by omega) Tryd.rowMk (by kernel_rfl) Tryd.wideMk)
theorem Tryd.zeroMi (w : World) : (zeroValue 3).run Tryd.prog w = .ok (.int .i64 0) w := by kernel_rfl
theorem Tryd.keyMk : Tryd.prog.keyType 70 = true := by kernel_rfl
theorem Tryd.cellsMk : Tryd.prog.cellsOf 70 = 3 := by kernel_rfl
theorem Tryd.cellsMi : Tryd.prog.cellsOf 3 = 1 := by kernel_rfl

/-- A mark: which sort, and two numbers. -/
abbrev Mk := Int × Int × Int
def mkV (k : Mk) : Value := .agg #[.int .i64 k.1, .int .i64 k.2.1, .int .i64 k.2.2]
def mkL (k : Mk) : Lit := .string (keyBytes [.int .i64 k.1, .int .i64 k.2.1, .int .i64 k.2.2])
def mkR (k : Mk) : Prop := i64B k.1 ∧ i64B k.2.1 ∧ i64B k.2.2
theorem wf_of {x : Int} (h : i64B x) : (Lit.int .i64 x).wf = true := by
  unfold i64B at h
  exact WalkArith.wf_i64 (by omega)
theorem mk_key {k : Mk} (h : mkR k) : keyOf Tryd.prog 70 (mkV k) = some (mkL k) := by
  obtain ⟨a, b, c⟩ := k
  have h1 := wf_of h.1
  have h2 := wf_of h.2.1
  have h3 := wf_of h.2.2
  unfold keyOf
  rw [Tryd.uMk]
  have hf : (mkV (a, b, c)).formed Tryd.prog 70 = true := by simp [mkV, Value.formed, Tryd.uMk, Tryd.cellsMk]
  simp only [Tryd.keyMk, hf, Bool.and_self, if_true]
  have hpos : 0 < Tryd.prog.types.size := Nat.lt_of_le_of_lt (Nat.zero_le _) Tryd.rowMk
  generalize Tryd.prog.types.size = N at hpos ⊢
  obtain ⟨N, rfl⟩ : ∃ n, N = n + 1 := ⟨N - 1, by omega⟩
  have hk : Tryd.prog.keyLits (N + 1 + 1) 70 (mkV (a, b, c)).cells.toList = some [.int .i64 a, .int .i64 b, .int .i64 c] := by
    have h4 : ∀ x : Int, (Lit.int .i64 x).wf = true → Tryd.prog.keyLits (N + 1) 3 [.int .i64 x] = some [.int .i64 x] := fun x hx => by
      unfold Program.keyLits
      rw [Tryd.uMi]
      simp [hx]
    unfold Program.keyLits
    rw [Tryd.uMk]
    simp only [Tryd.cellsMk, Tryd.cellsMi]
    have e : (mkV (a, b, c)).cells.toList = [.int .i64 a, .int .i64 b, .int .i64 c] := rfl
    rw [e]
    simp [List.range, List.range.loop, List.mapM_cons, h4 a h1, h4 b h2, h4 c h3]
  rw [hk]
  rfl
theorem mkV_inj {k m : Mk} (h : mkV k = mkV m) : k = m := by
  obtain ⟨a, b, c⟩ := k
  obtain ⟨x, y, z⟩ := m
  simp only [mkV, Value.agg.injEq, Array.mk.injEq, List.cons.injEq, Value.int.injEq, true_and, and_true] at h
  obtain ⟨rfl, rfl, rfl⟩ := h
  rfl
theorem mkL_inj {k m : Mk} (hk : mkR k) (hm : mkR m) (h : mkL k = mkL m) : k = m := mkV_inj (Tryd.lawMk.inj (mk_key hk) ((mk_key hm).trans (by rw [h])))
/-- What a map of marks reads as. -/
def mkD : List (Mk × Int) → DataW Unit
  | [] => .map []
  | x :: M => (mkD M).put (mkL x.1) (.lit (.int .i64 x.2))
def mkF (M : List (Mk × Int)) (k : Mk) : Option Int := (M.find? (fun x => x.1 == k)).map (·.2)
theorem mkF_nil (k : Mk) : mkF [] k = none := rfl
theorem mkF_same (k : Mk) (v : Int) (M : List (Mk × Int)) : mkF ((k, v) :: M) k = some v := by simp [mkF]
theorem mkF_other {k m : Mk} (v : Int) (M : List (Mk × Int)) (h : m ≠ k) : mkF ((k, v) :: M) m = mkF M m := by
  have : ((k == m) : Bool) = false := beq_eq_false_iff_ne.2 (fun e => h e.symm)
  simp [mkF, List.find?_cons, this]
theorem mkD_map : ∀ M, IsMap (mkD M)
  | [] => isMap_empty
  | x :: M => (mkD_map M).put _ _
def mkAll (M : List (Mk × Int)) : Prop := ∀ x ∈ M, mkR x.1 ∧ i64B x.2
theorem mkD_has : ∀ (M : List (Mk × Int)), mkAll M → ∀ k, mkR k → Maps.has (mkD M) (mkL k) = (mkF M k).isSome
  | [], _, k, _ => rfl
  | x :: M, hM, k, hk => by
    obtain ⟨m, v⟩ := x
    have hm := (hM (m, v) (List.mem_cons_self ..)).1
    have ih := mkD_has M (fun y hy => hM y (List.mem_cons_of_mem _ hy)) k hk
    by_cases e : k = m
    · subst e
      rw [mkF_same]
      exact has_put_same (mkD_map M) (Tryd.lawMk.key (mk_key hk)) _
    · rw [mkF_other v M e, ← ih]
      exact has_put_other (fun h => e (mkL_inj hk hm h)) _
theorem mkD_at : ∀ (M : List (Mk × Int)), mkAll M → ∀ k, mkR k → ∀ v, mkF M k = some v → ∀ z, (mkD M).atKey (mkL k) z = .lit (.int .i64 v)
  | [], _, k, _, v, h, _ => by cases h
  | x :: M, hM, k, hk, v, h, z => by
    obtain ⟨m, u⟩ := x
    have hm := (hM (m, u) (List.mem_cons_self ..)).1
    by_cases e : k = m
    · subst e
      rw [mkF_same] at h
      injection h with h
      subst h
      exact atKey_put_same (mkD_map M) (Tryd.lawMk.key (mk_key hk)) _ _
    · rw [mkF_other u M e] at h
      rw [← mkD_at M (fun y hy => hM y (List.mem_cons_of_mem _ hy)) k hk v h z]
      exact atKey_put_other (fun h => e (mkL_inj hk hm h)) _ _
/-- A map of marks in block B. -/
structure Marks (w : World) (B : Nat) (M : List (Mk × Int)) : Prop where
  own : w.ownsMap Tryd.prog 70 (plainElem Tryd.prog 3) B M.length (mkD M)
  all : mkAll M
theorem kept_any {w w' : World} {r : Option Nat} (h : Kept w w' none) : Kept w w' r := ⟨h.os, h.tape, h.output, h.size, fun k hk _ => h.block k hk (by simp)⟩
theorem Marks.kept {w w' : World} {B : Nat} {M : List (Mk × Int)} {r : Option Nat} (h : Marks w B M) (q : Kept w w' r) (hr : some B ≠ r) : Marks w' B M := ⟨h.own.kept q hr, h.all⟩
theorem Marks.lt {w : World} {B : Nat} {M : List (Mk × Int)} (h : Marks w B M) : B < w.heap.size := h.own.lt
theorem Marks.made (w : World) : Marks (w.alloc (.map #[] 0)) w.heap.size [] := ⟨World.ownsMap_made _ _ _ _, fun x hx => nomatch hx⟩
set_option maxRecDepth 100000 in
set_option maxHeartbeats 1000000 in
theorem isFirst_old {w : World} {B : Nat} {M : List (Mk × Int)} (h : Marks w B M) {a b c : Int} (hk : mkR (a, b, c)) (place v : Int) (hf : mkF M (a, b, c) = some v) : Calls Tryd.prog 87 #[.map (some B), .agg #[.int .i64 a, .int .i64 b, .int .i64 c], .int .i64 place] w fun e w' => e = .returned (.bool false) ∧ Kept w w' none := by
  have hh : Maps.has (mkD M) (mkL (a, b, c)) = true := by rw [mkD_has M h.all _ hk, hf]; rfl
  have hk1 : Kept w (w.alloc (.cells #[.int .i64 a, .int .i64 b, .int .i64 c] 70)) none := Kept.alloc _ _ _ _ _
  have HM := Hid.mk' (h.kept hk1 (by simp))
  have HK := Hid.mk' hk1
  have HKY := Hid.mk' (mk_key hk)
  clear h hk1
  go_enter Tryd.func87, Tryd.ntmps87
  go_wp2_with (at_lookup; refine wpList_lookup_own_ok_int _ rfl _ _ 80 rfl 70 3 .i64 Tryd.lawMk Tryd.uMks Tryd.uMi (Tryd.zeroMi _) B _ _ rfl HM.out.own _ _ rfl HKY.out ?_; intro x hat hwc; rw [hh])
  go_ret
  exact ⟨rfl, HK.out⟩
set_option maxRecDepth 100000 in
set_option maxHeartbeats 1000000 in
theorem isFirst_new {w : World} {B : Nat} {M : List (Mk × Int)} (h : Marks w B M) {a b c : Int} (hk : mkR (a, b, c)) (place : Int) (hp : i64B place) (hn : M.length ≤ 1000) (hf : mkF M (a, b, c) = none) : Calls Tryd.prog 87 #[.map (some B), .agg #[.int .i64 a, .int .i64 b, .int .i64 c], .int .i64 place] w fun e w' => e = .returned (.bool true) ∧ Marks w' B (((a, b, c), place) :: M) ∧ Kept w w' (some B) := by
  have hh : Maps.has (mkD M) (mkL (a, b, c)) = false := by rw [mkD_has M h.all _ hk, hf]; rfl
  have hk1 : Kept w (w.alloc (.cells #[.int .i64 a, .int .i64 b, .int .i64 c] 70)) none := Kept.alloc _ _ _ _ _
  have HM := Hid.mk' (h.kept hk1 (by simp))
  have HK := Hid.mk' hk1
  have HKY := Hid.mk' (mk_key hk)
  have HA : Hid (mkAll (((a, b, c), place) :: M)) := fun x hx => by
    rcases List.mem_cons.1 hx with rfl | hx
    · exact ⟨hk, hp⟩
    · exact h.all x hx
  have HV : Hid (plainElem (H := Unit) Tryd.prog 3 (.int .i64 place) = some (.lit (.int .i64 place), [])) := plainElem_int Tryd.uMi (wf_of hp)
  clear h hk1
  go_enter Tryd.func87, Tryd.ntmps87
  go_wp2_with (first
    | (at_lookup; refine wpList_lookup_own_ok_int _ rfl _ _ 80 rfl 70 3 .i64 Tryd.lawMk Tryd.uMks Tryd.uMi (Tryd.zeroMi _) B _ _ rfl HM.out.own _ _ rfl HKY.out ?_; intro x hat hwc; rw [hh])
    | (at_mapUpdate; refine wpList_mapUpdate_in _ rfl _ _ _ 80 rfl 70 3 Tryd.lawMk Tryd.uMks _ B _ _ rfl HM.out.own (by unfold maxLen; omega) _ _ _ rfl rfl HKY.out _ [] HV.out ?_; intro w1 hown1 hturn1))
  go_ret
  exact ⟨rfl, ⟨hown1, HA.out⟩, (kept_any HK.out).tr hturn1.grown⟩

end Go.Proofs.YtoahbpdgbiachaaDoor

/-
  REGIONS, as the program goes through them: marks put in one after the other.
-/
namespace Go.Proofs.YtoahbpdgbiachaaDoor
open Go.RowKit Go.Lib Go.Deep
set_option linter.unusedVariables false
set_option linter.unusedSimpArgs false

structure Sb where
  sites : List Int
  critical : Int
structure Wd where
  a : Int
  b : Int
  votes : Int
  offsets : List Int
structure Nt where
  sites : List St
  subs : List Sb
  weds : List Wd
  low : Int
  high : Int
  step : Int
def s0 : St := ⟨0, [], [], [], [], [], 0, 0, 0, 0, 0, []⟩
def u0 : Sb := ⟨[], 0⟩
def d0 : Wd := ⟨0, 0, 0, []⟩
abbrev Ms := List (Mk × Int)
def ncountsB (N : Nt) : Bool := inB N.sites.length 1 12 && inB N.subs.length 1 6 && decide (N.weds.length ≤ 8)
/-- One mark more, if it is not there. -/
def putF (M : Ms) (k : Mk) (place : Int) : Option Ms := match mkF M k with
  | some _ => none
  | none => some ((k, place) :: M)
/-- The first k sites. -/
def sitesF (N : Nt) : Nat → Option Ms
  | 0 => some []
  | k + 1 => match sitesF N k with
    | none => none
    | some M => if siteB (N.sites.getD k s0) = true then putF M (0, (N.sites.getD k s0).id, 0) k else none
/-- The first k sites of a sub. -/
def takeF (N : Nt) (place : Nat) (l : List Int) (M : Ms) : Nat → Option Ms
  | 0 => some M
  | k + 1 => match takeF N place l M k with
    | none => none
    | some M' => if inB (l.getD k 0) 0 ((N.sites.length : Int) - 1) = true then putF M' (1, l.getD k 0, 0) place else none
/-- The first k subs. -/
def subsF (N : Nt) (M : Ms) : Nat → Option Ms
  | 0 => some M
  | k + 1 => match subsF N M k with
    | none => none
    | some M' => match takeF N k (N.subs.getD k u0).sites M' (N.subs.getD k u0).sites.length with
      | none => none
      | some M'' => if mkF M'' (1, (N.subs.getD k u0).critical, 0) = some (k : Int) then some M'' else none
def placedB (N : Nt) (M : Ms) : Bool := allB N.sites.length (fun i => (mkF M (1, (i : Int), 0)).isSome)
def ncyclesB (N : Nt) : Bool := timeB N.low && inB N.high N.low 1048576 && timeB N.step && decide ((N.high - N.low) % N.step = 0) && decide ((N.high - N.low) / N.step ≤ 64) && allB N.sites.length (fun i => decide ((N.sites.getD i s0).low ≤ N.low) && decide (N.high ≤ (N.sites.getD i s0).high))
def offsetsB (N : Nt) (l : List Int) : Bool := inB l.length 1 8 && allB l.length (fun i => inB (l.getD i 0) 0 (N.low - 1))
/-- The first k weds. -/
def wedsF (N : Nt) (M : Ms) : Nat → Option Ms
  | 0 => some M
  | k + 1 => match wedsF N M k with
    | none => none
    | some M' => if (inB (N.weds.getD k d0).a 0 ((N.subs.length : Int) - 1) && inB (N.weds.getD k d0).b ((N.weds.getD k d0).a + 1) ((N.subs.length : Int) - 1)) = true then (match putF M' (2, (N.weds.getD k d0).a, (N.weds.getD k d0).b) k with
      | none => none
      | some M'' => if (timeB (N.weds.getD k d0).votes && offsetsB N (N.weds.getD k d0).offsets) = true then some M'' else none) else none
/-- All marks of a region that may be. -/
def lookF (N : Nt) : Option Ms :=
  if ncountsB N = true then (match sitesF N N.sites.length with
    | none => none
    | some M => match subsF N M N.subs.length with
      | none => none
      | some M' => if (placedB N M' && ncyclesB N) = true then wedsF N M' N.weds.length else none) else none
theorem putF_new {M : Ms} {k : Mk} {p : Int} (h : mkF M k = none) : putF M k p = some ((k, p) :: M) := by unfold putF; rw [h]
theorem putF_old {M : Ms} {k : Mk} {p v : Int} (h : mkF M k = some v) : putF M k p = none := by unfold putF; rw [h]
theorem sitesF_none {N : Nt} {k : Nat} (h : sitesF N k = none) : ∀ n, k ≤ n → sitesF N n = none
  | 0, hk => by have : k = 0 := by omega
                subst this; exact h
  | n + 1, hk => by
    by_cases e : k = n + 1
    · subst e; exact h
    · rw [sitesF, sitesF_none h n (by omega)]
theorem subsF_none {N : Nt} {M : Ms} {k : Nat} (h : subsF N M k = none) : ∀ n, k ≤ n → subsF N M n = none
  | 0, hk => by have : k = 0 := by omega
                subst this; exact h
  | n + 1, hk => by
    by_cases e : k = n + 1
    · subst e; exact h
    · rw [subsF, subsF_none h n (by omega)]
theorem takeF_none {N : Nt} {p : Nat} {l : List Int} {M : Ms} {k : Nat} (h : takeF N p l M k = none) : ∀ n, k ≤ n → takeF N p l M n = none
  | 0, hk => by have : k = 0 := by omega
                subst this; exact h
  | n + 1, hk => by
    by_cases e : k = n + 1
    · subst e; exact h
    · rw [takeF, takeF_none h n (by omega)]
theorem wedsF_none {N : Nt} {M : Ms} {k : Nat} (h : wedsF N M k = none) : ∀ n, k ≤ n → wedsF N M n = none
  | 0, hk => by have : k = 0 := by omega
                subst this; exact h
  | n + 1, hk => by
    by_cases e : k = n + 1
    · subst e; exact h
    · rw [wedsF, wedsF_none h n (by omega)]

/-! ### In memory -/
structure Na where
  s : Option Addr
  sc : Nat
  u : Option Addr
  uc : Nat
  d : Option Addr
  dc : Nat
  X : Nat → Sa
  r : Nat → Option Addr × Nat
  t : Nat → Option Addr × Nat
abbrev netV (Y : Na) (N : Nt) : Value := .agg #[.slice Y.s N.sites.length Y.sc, .slice Y.u N.subs.length Y.uc, .slice Y.d N.weds.length Y.dc, .int .i64 N.low, .int .i64 N.high, .int .i64 N.step]
def stV (X : Sa) (S : St) (j : Nat) : Value := match j with
  | 0 => .int .i64 S.id
  | 1 => .slice X.g S.groups.length X.gc
  | 2 => .slice X.a S.apart.length X.ac
  | 3 => .slice X.b S.between.length X.bc
  | 4 => .slice X.p S.phases.length X.pc
  | 5 => .slice X.e S.eyes.length X.ec
  | 6 => .int .i64 S.watch
  | 7 => .int .i64 S.feed
  | 8 => .int .i64 S.heal
  | 9 => .int .i64 S.low
  | 10 => .int .i64 S.high
  | _ => .slice X.l S.plans.length X.lc
def sbV (U : Sb) (a : Option Addr) (c : Nat) (j : Nat) : Value := match j with
  | 0 => .slice a U.sites.length c
  | _ => .int .i64 U.critical
def wdV (D : Wd) (a : Option Addr) (c : Nat) (j : Nat) : Value := match j with
  | 0 => .int .i64 D.a
  | 1 => .int .i64 D.b
  | 2 => .int .i64 D.votes
  | _ => .slice a D.offsets.length c
/-- A region's lists lie where they should. -/
structure NetAt (w : World) (Y : Na) (N : Nt) : Prop where
  s1 : Lie w Y.s N.sites.length 12 (fun i j => stV (Y.X i) (N.sites.getD i s0) j)
  s2 : ∀ i, i < N.sites.length → Sat w (Y.X i) (N.sites.getD i s0)
  u1 : Lie w Y.u N.subs.length 2 (fun i j => sbV (N.subs.getD i u0) (Y.r i).1 (Y.r i).2 j)
  u2 : ∀ i, i < N.subs.length → Ints w (Y.r i).1 (N.subs.getD i u0).sites.length (Y.r i).2 (N.subs.getD i u0).sites
  d1 : Lie w Y.d N.weds.length 4 (fun i j => wdV (N.weds.getD i d0) (Y.t i).1 (Y.t i).2 j)
  d2 : ∀ i, i < N.weds.length → Ints w (Y.t i).1 (N.weds.getD i d0).offsets.length (Y.t i).2 (N.weds.getD i d0).offsets
  sk : Cap Y.s N.sites.length Y.sc
  uk : Cap Y.u N.subs.length Y.uc
  dk : Cap Y.d N.weds.length Y.dc
  ur : ∀ x ∈ N.subs, i64B x.critical
  dr : ∀ x ∈ N.weds, i64B x.a ∧ i64B x.b ∧ i64B x.votes
  nr : i64B N.low ∧ i64B N.high ∧ i64B N.step
theorem NetAt.kept {w w' : World} {Y : Na} {N : Nt} (h : NetAt w Y N) (q : Kept w w' none) : NetAt w' Y N :=
  ⟨h.s1.kept q, fun i hi => (h.s2 i hi).kept q, h.u1.kept q, fun i hi => (h.u2 i hi).kept q, h.d1.kept q, fun i hi => (h.d2 i hi).kept q, h.sk, h.uk, h.dk, h.ur, h.dr, h.nr⟩

end Go.Proofs.YtoahbpdgbiachaaDoor

/-
  WHAT CAME IN: a region, as the walks want it.
-/
namespace Go.Proofs.YtoahbpdgbiachaaDoor
open Go.ChangeShapes Go.WideShapes Go.ChangeAt Go.RowKit Go.Lib Go.Deep
set_option linter.unusedVariables false
set_option linter.unusedSimpArgs false

section
variable {H : Type} {enc : TypeId × Value → H}
set_option maxRecDepth 100000 in
theorem open_site1 {W : World} {n : Nat} {cs : List Value} {x : DataW H × List MemPlace} (h : Tr enc W n 48 cs x) : ∃ y : Sa × St, (∀ j, j < 12 → cs[j]? = some (stV y.1 y.2 j)) ∧ Sat W y.1 y.2 := by
  obtain ⟨n, hl, hf⟩ := flds Tryd.underlying48 h
  have hC : Tryd.prog.cellsOf 48 = 12 := by kernel_rfl
  rw [hC] at hl
  have kI : Tryd.prog.cellsOf 3 = 1 := by kernel_rfl
  have k1 : Tryd.prog.cellsOf 41 = 1 := by kernel_rfl
  have k2 : Tryd.prog.cellsOf 42 = 1 := by kernel_rfl
  have k3 : Tryd.prog.cellsOf 43 = 1 := by kernel_rfl
  have k4 : Tryd.prog.cellsOf 44 = 1 := by kernel_rfl
  have k5 : Tryd.prog.cellsOf 45 = 1 := by kernel_rfl
  have k6 : Tryd.prog.cellsOf 46 = 1 := by kernel_rfl
  match cs, hl with
  | [c0, c1, c2, c3, c4, c5, c6, c7, c8, c9, c10, c11], _ =>
    obtain ⟨y0, h0⟩ := hf 0 _ rfl
    obtain ⟨y1, h1⟩ := hf 1 _ rfl
    obtain ⟨y2, h2⟩ := hf 2 _ rfl
    obtain ⟨y3, h3⟩ := hf 3 _ rfl
    obtain ⟨y4, h4⟩ := hf 4 _ rfl
    obtain ⟨y5, h5⟩ := hf 5 _ rfl
    obtain ⟨y6, h6⟩ := hf 6 _ rfl
    obtain ⟨y7, h7⟩ := hf 7 _ rfl
    obtain ⟨y8, h8⟩ := hf 8 _ rfl
    obtain ⟨y9, h9⟩ := hf 9 _ rfl
    obtain ⟨y10, h10⟩ := hf 10 _ rfl
    obtain ⟨y11, h11⟩ := hf 11 _ rfl
    simp [kI] at h0 h6 h7 h8 h9 h10
    simp [k1] at h1
    simp [k2] at h2
    simp [k3] at h3
    simp [k4] at h4
    simp [k5] at h5
    simp [k6] at h11
    obtain ⟨z0, q0, w0⟩ := open_int1 Tryd.underlying3 h0
    obtain ⟨z6, q6, w6⟩ := open_int1 Tryd.underlying3 h6
    obtain ⟨z7, q7, w7⟩ := open_int1 Tryd.underlying3 h7
    obtain ⟨z8, q8, w8⟩ := open_int1 Tryd.underlying3 h8
    obtain ⟨z9, q9, w9⟩ := open_int1 Tryd.underlying3 h9
    obtain ⟨z10, q10, w10⟩ := open_int1 Tryd.underlying3 h10
    simp at q0 q6 q7 q8 q9 q10
    subst q0 q6 q7 q8 q9 q10
    obtain ⟨a1, u1, l1, rfl, i1, j1, r1⟩ := open_groups h1
    obtain ⟨a2, u2, l2, rfl, i2, j2, r2⟩ := open_apart h2
    obtain ⟨a3, u3, l3, rfl, i3⟩ := open_grid h3
    obtain ⟨a4, u4, l4, rfl, i4, j4, r4⟩ := open_phases h4
    obtain ⟨a5, u5, l5, rfl, i5, j5, r5⟩ := open_eyes h5
    obtain ⟨a6, u6, l6, rfl, i6⟩ := open_plansC h11
    refine ⟨(⟨a1, u1, a2, u2, a3, u3, a4, u4, a5, u5, a6, u6⟩, ⟨z0, l1, l2, l3, l4, l5, z6, z7, z8, z9, z10, l6⟩), fun j hj => ?_, i1, i2, i3, i4, i5, i6, j1, j2, j4, j5, r1, r2, r4, r5, i64_of w0, i64_of w6, i64_of w7, i64_of w8, i64_of w9, i64_of w10⟩
    match j, hj with
    | 0, _ => rfl
    | 1, _ => rfl
    | 2, _ => rfl
    | 3, _ => rfl
    | 4, _ => rfl
    | 5, _ => rfl
    | 6, _ => rfl
    | 7, _ => rfl
    | 8, _ => rfl
    | 9, _ => rfl
    | 10, _ => rfl
    | 11, _ => rfl
def sa0 : Sa := ⟨none, 0, none, 0, none, 0, none, 0, none, 0, none, 0⟩
theorem open_sites {W : World} {fuel : Nat} {c : Value} {x : DataW H × List MemPlace} (h : Tr enc W fuel 22 [c] x) : ∃ (a : Option Addr) (cap : Nat) (X : Nat → Sa) (l : List St), c = .slice a l.length cap ∧ Lie W a l.length 12 (fun i j => stV (X i) (l.getD i s0) j) ∧ (∀ i, i < l.length → Sat W (X i) (l.getD i s0)) ∧ Cap a l.length cap := by
  obtain ⟨a, cap, l, rfl, h1, h2, h3⟩ := open_list ((sa0, s0) : Sa × St) (e := 48) (K := 12) (by omega) (fun y j => stV y.1 y.2 j) (fun y => Sat W y.1 y.2) Tryd.underlying22 (by kernel_rfl) (fun n cs x h => open_site1 h) h
  refine ⟨a, cap, fun i => (l.getD i (sa0, s0)).1, l.map Prod.snd, by simp, ?_, ?_, by simpa using h2⟩
  · rw [List.length_map]
    refine h1.congr (fun i hi j hj => ?_)
    simp [hi]
  · intro i hi
    rw [List.length_map] at hi
    have := h3 (l[i]) (List.getElem_mem _)
    simpa [hi] using this
set_option maxRecDepth 100000 in
theorem open_subs {W : World} {fuel : Nat} {c : Value} {x : DataW H × List MemPlace} (h : Tr enc W fuel 23 [c] x) : ∃ (a : Option Addr) (cap : Nat) (r : Nat → Option Addr × Nat) (l : List Sb), c = .slice a l.length cap ∧ Lie W a l.length 2 (fun i j => sbV (l.getD i u0) (r i).1 (r i).2 j) ∧ (∀ i, i < l.length → Ints W (r i).1 (l.getD i u0).sites.length (r i).2 (l.getD i u0).sites) ∧ Cap a l.length cap ∧ ∀ x ∈ l, i64B x.critical := by
  obtain ⟨a, cap, l, rfl, h1, h2, h3⟩ := open_list ((u0, none, 0) : Sb × Option Addr × Nat) (e := 38) (K := 2) (by omega) (fun y j => sbV y.1 y.2.1 y.2.2 j) (fun y => Ints W y.2.1 y.1.sites.length y.2.2 y.1.sites ∧ i64B y.1.critical) Tryd.underlying23 (by kernel_rfl) (fun n cs x h => by
    obtain ⟨n, hl, hf⟩ := flds Tryd.underlying38 h
    have hC : Tryd.prog.cellsOf 38 = 2 := by kernel_rfl
    have kI : Tryd.prog.cellsOf 3 = 1 := by kernel_rfl
    have kL : Tryd.prog.cellsOf 31 = 1 := by kernel_rfl
    rw [hC] at hl
    match cs, hl with
    | [c0, c1], _ =>
      obtain ⟨y0, h0⟩ := hf 0 _ rfl
      obtain ⟨y1, h1⟩ := hf 1 _ rfl
      simp [kL] at h0
      simp [kI] at h1
      obtain ⟨a, cap, l, rfl, hI⟩ := open_nums h0
      obtain ⟨z1, e1, w1⟩ := open_int1 Tryd.underlying3 h1
      simp at e1
      subst e1
      refine ⟨(⟨l, z1⟩, a, cap), fun j hj => ?_, hI, i64_of w1⟩
      match j, hj with
      | 0, _ => rfl
      | 1, _ => rfl) h
  refine ⟨a, cap, fun i => (l.getD i (u0, none, 0)).2, l.map Prod.fst, by simp, ?_, ?_, by simpa using h2, ?_⟩
  · rw [List.length_map]
    refine h1.congr (fun i hi j hj => ?_)
    simp [hi]
  · intro i hi
    rw [List.length_map] at hi
    have := (h3 (l[i]) (List.getElem_mem _)).1
    simpa [hi] using this
  · intro p hp
    simp only [List.mem_map] at hp
    obtain ⟨y, hy, rfl⟩ := hp
    exact (h3 y hy).2
set_option maxRecDepth 100000 in
theorem open_weds {W : World} {fuel : Nat} {c : Value} {x : DataW H × List MemPlace} (h : Tr enc W fuel 24 [c] x) : ∃ (a : Option Addr) (cap : Nat) (r : Nat → Option Addr × Nat) (l : List Wd), c = .slice a l.length cap ∧ Lie W a l.length 4 (fun i j => wdV (l.getD i d0) (r i).1 (r i).2 j) ∧ (∀ i, i < l.length → Ints W (r i).1 (l.getD i d0).offsets.length (r i).2 (l.getD i d0).offsets) ∧ Cap a l.length cap ∧ ∀ x ∈ l, i64B x.a ∧ i64B x.b ∧ i64B x.votes := by
  obtain ⟨a, cap, l, rfl, h1, h2, h3⟩ := open_list ((d0, none, 0) : Wd × Option Addr × Nat) (e := 40) (K := 4) (by omega) (fun y j => wdV y.1 y.2.1 y.2.2 j) (fun y => Ints W y.2.1 y.1.offsets.length y.2.2 y.1.offsets ∧ i64B y.1.a ∧ i64B y.1.b ∧ i64B y.1.votes) Tryd.underlying24 (by kernel_rfl) (fun n cs x h => by
    obtain ⟨n, hl, hf⟩ := flds Tryd.underlying40 h
    have hC : Tryd.prog.cellsOf 40 = 4 := by kernel_rfl
    have kI : Tryd.prog.cellsOf 3 = 1 := by kernel_rfl
    have kL : Tryd.prog.cellsOf 31 = 1 := by kernel_rfl
    rw [hC] at hl
    match cs, hl with
    | [c0, c1, c2, c3], _ =>
      obtain ⟨y0, h0⟩ := hf 0 _ rfl
      obtain ⟨y1, h1⟩ := hf 1 _ rfl
      obtain ⟨y2, h2⟩ := hf 2 _ rfl
      obtain ⟨y3, h3⟩ := hf 3 _ rfl
      simp [kI] at h0 h1 h2
      simp [kL] at h3
      obtain ⟨z0, e0, w0⟩ := open_int1 Tryd.underlying3 h0
      obtain ⟨z1, e1, w1⟩ := open_int1 Tryd.underlying3 h1
      obtain ⟨z2, e2, w2⟩ := open_int1 Tryd.underlying3 h2
      obtain ⟨a, cap, l, rfl, hI⟩ := open_nums h3
      simp at e0 e1 e2
      subst e0 e1 e2
      refine ⟨(⟨z0, z1, z2, l⟩, a, cap), fun j hj => ?_, hI, i64_of w0, i64_of w1, i64_of w2⟩
      match j, hj with
      | 0, _ => rfl
      | 1, _ => rfl
      | 2, _ => rfl
      | 3, _ => rfl) h
  refine ⟨a, cap, fun i => (l.getD i (d0, none, 0)).2, l.map Prod.fst, by simp, ?_, ?_, by simpa using h2, ?_⟩
  · rw [List.length_map]
    refine h1.congr (fun i hi j hj => ?_)
    simp [hi]
  · intro i hi
    rw [List.length_map] at hi
    have := (h3 (l[i]) (List.getElem_mem _)).1
    simpa [hi] using this
  · intro p hp
    simp only [List.mem_map] at hp
    obtain ⟨y, hy, rfl⟩ := hp
    exact (h3 y hy).2
set_option maxRecDepth 100000 in
theorem open_net {W : World} {base : Nat} {v : Value} {d : DataW H} {p : List MemPlace} (hv : Value.okWide Tryd.prog W .any base 26 v) (h : DataW.Trod enc Tryd.prog W 0 (fun _ => true) true 26 v d p) : ∃ (Y : Na) (N : Nt), v = netV Y N ∧ NetAt W Y N := by
  obtain ⟨cs, rfl, hsz⟩ := okWide_struct Tryd.underlying26 hv
  have hC : Tryd.prog.cellsOf 26 = 6 := by kernel_rfl
  rw [hC] at hsz
  obtain ⟨l⟩ := cs
  have kI : Tryd.prog.cellsOf 3 = 1 := by kernel_rfl
  have k1 : Tryd.prog.cellsOf 22 = 1 := by kernel_rfl
  have k2 : Tryd.prog.cellsOf 23 = 1 := by kernel_rfl
  have k3 : Tryd.prog.cellsOf 24 = 1 := by kernel_rfl
  match l, hsz with
  | [c0, c1, c2, c3, c4, c5], _ =>
    obtain ⟨fuel, hf0⟩ := h
    simp [Value.cells] at hf0
    obtain ⟨n, hl, hf⟩ := flds Tryd.underlying26 hf0
    obtain ⟨y0, h0⟩ := hf 0 _ rfl
    obtain ⟨y1, h1⟩ := hf 1 _ rfl
    obtain ⟨y2, h2⟩ := hf 2 _ rfl
    obtain ⟨y3, h3⟩ := hf 3 _ rfl
    obtain ⟨y4, h4⟩ := hf 4 _ rfl
    obtain ⟨y5, h5⟩ := hf 5 _ rfl
    simp [k1] at h0
    simp [k2] at h1
    simp [k3] at h2
    simp [kI] at h3 h4 h5
    obtain ⟨z3, q3, w3⟩ := open_int1 Tryd.underlying3 h3
    obtain ⟨z4, q4, w4⟩ := open_int1 Tryd.underlying3 h4
    obtain ⟨z5, q5, w5⟩ := open_int1 Tryd.underlying3 h5
    simp at q3 q4 q5
    subst q3 q4 q5
    obtain ⟨a1, u1, X, l1, rfl, i1, s1, j1⟩ := open_sites h0
    obtain ⟨a2, u2, r2, l2, rfl, i2, s2, j2, k2'⟩ := open_subs h1
    obtain ⟨a3, u3, r3, l3, rfl, i3, s3, j3, k3'⟩ := open_weds h2
    exact ⟨⟨a1, u1, a2, u2, a3, u3, X, r2, r3⟩, ⟨l1, l2, l3, z3, z4, z5⟩, rfl, i1, s1, i2, s2, i3, s3, j1, j2, j3, k2', k3', i64_of w3, i64_of w4, i64_of w5⟩
end

end Go.Proofs.YtoahbpdgbiachaaDoor

/-
  THE CONTRACTS of the conditions that ask nothing of phases' groups.
-/
namespace Go.Proofs.YtoahbpdgbiachaaDoor
open Go.RowKit Go.Lib Go.Deep
set_option linter.unusedVariables false
set_option linter.unusedSimpArgs false

theorem within_any (n lo hi : Int) (w : World) : Calls Tryd.prog 100 #[.int .i64 n, .int .i64 lo, .int .i64 hi] w fun e w' => e = .returned (.bool (inB n lo hi)) ∧ w' = w := by
  go_enter Tryd.func100, Tryd.ntmps100
  go_wp2
  all_goals
    go_ret
    refine ⟨?_, rfl⟩
    simp [inB, *] <;> (first | omega | (intros; omega))
theorem time_any (n : Int) (w : World) : Calls Tryd.prog 101 #[.int .i64 n] w fun e w' => e = .returned (.bool (timeB n)) ∧ w' = w := by
  go_enter Tryd.func101, Tryd.ntmps101
  go_wp2_with (go_at_call 100; refine (within_any _ _ _ _).mono ?_; rintro e w ⟨rfl, rfl⟩)
  go_ret
  exact ⟨rfl, rfl⟩
theorem own_any {B : Nat} {X : Sa} {S : St} {w : World} (h : Sbox w B X S) (i : Int) : Calls Tryd.prog 71 #[.pointer (some ⟨B, 0, none⟩), .int .i64 i] w fun e w' => e = .returned (.bool (ownB S)) ∧ w' = w := by
  have c0 := h.c0
  have c6 := h.c6
  have c7 := h.c7
  have c8 := h.c8
  clear h
  go_enter Tryd.func71, Tryd.ntmps71
  go_wp2_with (first
    | (go_at_call 100; refine (within_any _ _ _ _).mono ?_; rintro e w ⟨rfl, rfl⟩)
    | (go_at_call 101; refine (time_any _ _).mono ?_; rintro e w ⟨rfl, rfl⟩))
  all_goals
    go_ret
    refine ⟨?_, rfl⟩
    simp [ownB, *] <;> (first | omega | (intros; omega))
theorem counts_any {B : Nat} {X : Sa} {S : St} {w : World} (h : Sbox w B X S) (i : Int) : Calls Tryd.prog 70 #[.pointer (some ⟨B, 0, none⟩), .int .i64 i] w fun e w' => e = .returned (.bool (countsB S)) ∧ w' = w := by
  have c1 := h.c1
  have c2 := h.c2
  have c3 := h.c3
  have c4 := h.c4
  have c5 := h.c5
  have c11 := h.c11
  clear h
  go_enter Tryd.func70, Tryd.ntmps70
  go_wp2_with (go_at_call 100; refine (within_any _ _ _ _).mono ?_; rintro e w ⟨rfl, rfl⟩)
  all_goals
    go_ret
    refine ⟨?_, rfl⟩
    simp [countsB, *] <;> (first | omega | (intros; omega) | (rw [Bool.eq_iff_iff]; simp only [Bool.and_eq_true, decide_eq_true_eq]; omega))
theorem group_any {B : Nat} {X : Sa} {S : St} {w : World} (h : Sbox w B X S) (i : Nat) (hi : i < S.groups.length) (hl : S.groups.length ≤ 16) : Calls Tryd.prog 72 #[.pointer (some ⟨B, 0, none⟩), .int .i64 i] w fun e w' => e = .returned (.bool (groupB S i)) ∧ Kept w w' none := by
  have c1 := h.c1
  obtain ⟨b, off, e, k0, k1, k2⟩ := h.sat.grAt hi
  rw [e] at c1
  clear h e
  go_enter Tryd.func72, Tryd.ntmps72
  go_wp2_with (go_at_call 101; refine (time_any _ _).mono ?_; rintro e w ⟨rfl, rfl⟩)
  all_goals
    go_ret
    refine ⟨?_, Kept.alloc _ _ _ _ _⟩
    simp [groupB, *] <;> (first | omega | (intros; omega))
theorem allGroups_any {B : Nat} {X : Sa} {S : St} {w : World} (h : Sbox w B X S) (hl : S.groups.length ≤ 16) : Calls Tryd.prog 102 #[.pointer (some ⟨B, 0, none⟩)] w fun e w' => e = .returned (.int .u32 ((2 ^ S.groups.length - 1 : Nat) : Int)) ∧ w' = w := by
  have c1 := h.c1
  clear h
  have hp := pow_int (i := S.groups.length) (by omega)
  have hq : 1 ≤ 2 ^ S.groups.length := Nat.one_le_two_pow
  have hr := pow_lt32 (i := S.groups.length) (by omega)
  go_enter Tryd.func102, Tryd.ntmps102
  go_wp2
  go_ret
  refine ⟨?_, rfl⟩
  refine Eq.trans (b := Ending.returned (.int .u32 (((2 : Int) ^ S.groups.length % 4294967296 - 1) % 4294967296))) ?_ (ret_int ?_)
  · simp
  · rw [hp]; omega
/-- Numbers of groups alone. -/
theorem low_andn (x n : Nat) (hx : x < 4294967296) (hn : n ≤ 32) : (x &&& (4294967295 - (2 ^ n - 1)) = 0) ↔ x < 2 ^ n := by
  have hb : ∀ j, (4294967295 - (2 ^ n - 1)).testBit j = (decide (j < 32) && !decide (j < n)) := by
    intro j
    have h : 2 ^ n - 1 < 2 ^ 32 := by
      have : 2 ^ n ≤ 2 ^ 32 := Nat.pow_le_pow_right (by omega) hn
      have : 1 ≤ 2 ^ n := Nat.one_le_two_pow
      omega
    have := Nat.testBit_two_pow_sub_succ h j
    rw [Nat.testBit_two_pow_sub_one] at this
    rw [← this]
    congr 1
    omega
  constructor
  · intro h
    apply Nat.lt_pow_two_of_testBit
    intro j hj
    have := congrArg (fun y => y.testBit j) h
    simp only [Nat.testBit_and, hb, Nat.zero_testBit] at this
    cases hx2 : x.testBit j with
    | false => rfl
    | true =>
      have := lt_bit hx hx2
      simp_all
      omega
  · intro h
    apply Nat.eq_of_testBit_eq
    intro j
    rw [Nat.testBit_and, hb, Nat.zero_testBit]
    by_cases hj : j < n
    · simp [hj]
    · rw [Nat.testBit_lt_two_pow (Nat.lt_of_lt_of_le h (Nat.pow_le_pow_right (by omega) (by omega)))]
      rfl

end Go.Proofs.YtoahbpdgbiachaaDoor

/-
  THE CONTRACTS of apartHolds, betweenHolds, allGroupsServed, eyeHolds.
-/
namespace Go.Proofs.YtoahbpdgbiachaaDoor
open Go.RowKit Go.Lib Go.Deep
set_option linter.unusedVariables false
set_option linter.unusedSimpArgs false

theorem has_n (S i : Nat) (w : World) (hS : S < 4294967296) (hi : i < 32) : Calls Tryd.prog 103 #[.int .u32 S, .int .i64 i] w fun e w' => e = .returned (.bool (S.testBit i)) ∧ w' = w := by
  rw [← has_in hi]; exact has_any S i w hS
theorem has_is (S i : Nat) (b : Bool) (w : World) (hS : S < 4294967296) (hi : i < 32) (h : S.testBit i = b) : Calls Tryd.prog 103 #[.int .u32 S, .int .i64 i] w fun e w' => e = .returned (.bool b) ∧ w' = w := by
  rw [← h]; exact has_n S i w hS hi
set_option maxHeartbeats 1000000 in
theorem apart_any {B : Nat} {X : Sa} {S : St} {w : World} (h : Sbox w B X S) (a : Nat) (ha : a < S.groups.length) (hO : Okay S) : Calls Tryd.prog 73 #[.pointer (some ⟨B, 0, none⟩), .int .i64 a] w fun e w' => e = .returned (.bool (apartB S a)) ∧ ∃ m, w' = w.drewN m := by
  have c1 := h.c1
  have c2 := h.c2
  have hg16 := hO.ng.2
  have hna := hO.na
  have HB := Hid.mk' h
  obtain ⟨b, off, e, hc⟩ := h.sat.apAt (n := S.groups.length) (by omega) (by omega)
  rw [e] at c2
  have HC := Hid.mk' hc
  have ka := hc a ha
  have hr : ∀ i, S.ap i < 4294967296 := fun i => by
    by_cases hi : i < S.apart.length
    · exact h.sat.ar _ (getD_mem hi)
    · unfold St.ap; rw [List.getD_eq_getElem?_getD, List.getElem?_eq_none (by omega)]; simp
  have HR := Hid.mk' hr
  have har := hr a
  have hpl : 2 ^ S.groups.length - 1 < 4294967296 := by have := pow_lt32 (i := S.groups.length) (by omega); omega
  have han := u32_andNot_nat (S.ap a) (2 ^ S.groups.length - 1) har hpl
  have hlo := low_andn (S.ap a) S.groups.length har (by omega)
  by_cases hlow : S.ap a < 2 ^ S.groups.length
  · have hz := hlo.2 hlow
    have hz2 : (bits .andNot .u32 (S.ap a : Int) ((2 ^ S.groups.length - 1 : Nat) : Int) != 0) = false := by rw [han, hz]; rfl
    clear han hlo hz hc hr h e
    cases hself : (S.ap a).testBit a with
    | true =>
      have hans : apartB S a = false := by simp [apartB, hself]
      have HA := Hid.mk' hans
      clear hans
      go_enter Tryd.func73, Tryd.ntmps73
      go_wp2
      go_quiet ((first | (go_at_call 102; exact Calls.quiet_of_same (allGroups_any (HB.out.kept (Kept.drewN _ _ _)) hg16)) | (go_at_call 103; exact Calls.quiet_of_same (has_is _ _ _ _ har (by omega) hself))))
      go_wp2
      go_ret
      exact ⟨by rw [HA.out]; rfl, _, rfl⟩
    | false =>
      go_enter Tryd.func73, Tryd.ntmps73
      go_wp2
      go_quiet ((first | (go_at_call 102; exact Calls.quiet_of_same (allGroups_any (HB.out.kept (Kept.drewN _ _ _)) hg16)) | (go_at_call 103; exact Calls.quiet_of_same (has_is _ _ _ _ har (by omega) hself))))
      go_wp2
      go_loopw [34] (fun i wr => ∃ k : Nat, k ≤ S.groups.length ∧ i = .int .i64 k ∧ (∀ b, b < k → (S.ap a).testBit b = (S.ap b).testBit a) ∧ ∃ m, wr = w.drewN m) (fun i _ => S.groups.length - (intOf i).toNat)
      case atStart => exact ⟨0, Nat.zero_le _, rfl, fun b hb => by omega, _, rfl⟩
      case round =>
        obtain ⟨k, hk, rfl, hall, m, rfl⟩ := hrel
        have HALL := Hid.mk' hall
        have HLOW := Hid.mk' hlow
        have HSELF := Hid.mk' hself
        clear hall
        by_cases hlt : k < S.groups.length
        · have kb := HC.out k hlt
          have hbr := HR.out k
          cases heq : ((S.ap a).testBit k == (S.ap k).testBit a) with
          | true =>
            have hne : (!((S.ap a).testBit k == (S.ap k).testBit a)) = false := by rw [heq]; rfl
            have HEQ := Hid.mk' heq
            clear heq
            go_wp2_with (first | (go_at_call_of 103 (S.ap a); refine (has_n _ _ _ har (by omega)).mono ?_; rintro e w' ⟨rfl, rfl⟩) | (go_at_call 103; refine (has_n _ _ _ hbr (by omega)).mono ?_; rintro e w' ⟨rfl, rfl⟩))
            all_goals
              go_roundw
              case rel => exact ⟨k + 1, by omega, by go_num, fun b hb => by
                by_cases e : b = k
                · subst e; exact eq_of_beq HEQ.out
                · exact HALL.out b (by omega), _, rfl⟩
              case measure => simp [intOf]; omega
          | false =>
            have hne : (!((S.ap a).testBit k == (S.ap k).testBit a)) = true := by rw [heq]; rfl
            have hans : apartB S a = false := by
              unfold apartB
              rw [allB_no hlt heq]
              simp
            have HA := Hid.mk' hans
            clear heq hans
            go_wp2_with (first | (go_at_call_of 103 (S.ap a); refine (has_n _ _ _ har (by omega)).mono ?_; rintro e w' ⟨rfl, rfl⟩) | (go_at_call 103; refine (has_n _ _ _ hbr (by omega)).mono ?_; rintro e w' ⟨rfl, rfl⟩))
            all_goals
              go_ret
              exact ⟨by rw [HA.out]; rfl, _, rfl⟩
        · have hkk : k = S.groups.length := by omega
          have hans : apartB S a = true := by
            unfold apartB
            rw [allB_iff.2 (fun b hb => by rw [HALL.out b (by omega)]; exact beq_self_eq_true _), HSELF.out, decide_eq_true HLOW.out]
            rfl
          have HA := Hid.mk' hans
          clear hans
          go_wp2
          go_ret
          exact ⟨by rw [HA.out]; rfl, _, rfl⟩
  · have hz := fun e => hlow (hlo.1 e)
    have hz2 : (bits .andNot .u32 (S.ap a : Int) ((2 ^ S.groups.length - 1 : Nat) : Int) != 0) = true := by
      rw [han, bne_iff_ne]
      intro e
      exact hz (by omega)
    have hans : apartB S a = false := by simp [apartB, hlow]
    have HA := Hid.mk' hans
    clear han hlo hz hc hr h e hans
    go_enter Tryd.func73, Tryd.ntmps73
    go_wp2
    go_quiet ((go_at_call 102; exact Calls.quiet_of_same (allGroups_any (HB.out.kept (Kept.drewN _ _ _)) hg16)))
    go_wp2
    go_ret
    exact ⟨by rw [HA.out]; rfl, _, rfl⟩

end Go.Proofs.YtoahbpdgbiachaaDoor

/-
  THE CONTRACTS of betweenHolds, allGroupsServed, eyeHolds.
-/
namespace Go.Proofs.YtoahbpdgbiachaaDoor
open Go.RowKit Go.Lib Go.Deep
set_option linter.unusedVariables false
set_option linter.unusedSimpArgs false

theorem Sat.apr {w : World} {X : Sa} {S : St} (h : Sat w X S) (i : Nat) : S.ap i < 4294967296 := by
  by_cases hi : i < S.apart.length
  · exact h.ar _ (getD_mem hi)
  · unfold St.ap; rw [List.getD_eq_getElem?_getD, List.getElem?_eq_none (by omega)]; simp
theorem Sat.phr {w : World} {X : Sa} {S : St} (h : Sat w X S) (i : Nat) : (S.ph i).groups < 4294967296 := by
  by_cases hi : i < S.phases.length
  · exact (h.pr _ (getD_mem hi)).1
  · unfold St.ph; rw [List.getD_eq_getElem?_getD, List.getElem?_eq_none (by omega)]; simp [p0]
theorem within_is (n lo hi : Int) (b : Bool) (w : World) (h : inB n lo hi = b) : Calls Tryd.prog 100 #[.int .i64 n, .int .i64 lo, .int .i64 hi] w fun e w' => e = .returned (.bool b) ∧ w' = w := by
  rw [← h]; exact within_any n lo hi w
theorem time_is (n : Int) (b : Bool) (w : World) (h : timeB n = b) : Calls Tryd.prog 101 #[.int .i64 n] w fun e w' => e = .returned (.bool b) ∧ w' = w := by
  rw [← h]; exact time_any n w
set_option maxHeartbeats 1000000 in
theorem between_any {B : Nat} {X : Sa} {S : St} {w : World} (h : Sbox w B X S) (a : Nat) (ha : a < S.groups.length) (hO : Okay S) : Calls Tryd.prog 74 #[.pointer (some ⟨B, 0, none⟩), .int .i64 a] w fun e w' => e = .returned (.bool (betweenB S a)) ∧ ∃ m, w' = w.drewN m := by
  have c1 := h.c1
  have c2 := h.c2
  have c3 := h.c3
  have hg16 := hO.ng.2
  have hna := hO.na
  have hnb := hO.nb
  obtain ⟨b, off, e, hc⟩ := h.sat.apAt (n := S.groups.length) (by omega) (by omega)
  have ka := hc a ha
  have har := h.sat.apr a
  obtain ⟨bg, og, eg, g0, g1, g2⟩ := h.sat.grAt ha
  obtain ⟨bb, ob, a', c', eb, kb, hI⟩ := h.sat.b.at_ (i := a) (by omega)
  rw [e] at c2
  rw [eg] at c1
  rw [eb] at c3
  have HI := Hid.mk' hI
  have HNA := Hid.mk' hna
  have HNB := Hid.mk' hnb
  have hlm : (S.between.getD a []).length ≤ 9223372036854775807 := by have := hI.cap.room; have := hI.cap.max; omega
  have hab : a < S.between.length := by omega
  have haa : a < S.apart.length := by omega
  clear hc h e eg eb hI hna hnb hO g0 g1
  generalize hL : S.between.getD a [] = L at *
  have HL := Hid.mk' hL
  clear hL
  by_cases hlen : L.length = S.groups.length
  · have hn0 : (((L.length : Nat) : Int) != ((S.groups.length : Nat) : Int)) = false := by rw [hlen]; simp
    have HLEN := Hid.mk' hlen
    obtain ⟨bi, oi, ea, _, hc⟩ := HI.out.at_ (by omega)
    have HC := Hid.mk' hc
    subst ea
    have hln : (L.length : Int) = (S.groups.length : Int) := by omega
    clear hlen hc
    go_enter Tryd.func74, Tryd.ntmps74
    go_wp2
    go_quiet (fail)
    go_wp2
    go_loopw [31] (fun i wr => ∃ k : Nat, k ≤ S.groups.length ∧ i = .int .i64 k ∧ (∀ b, b < k → betB S a b = true) ∧ ∃ m, wr = w.drewN m) (fun i _ => S.groups.length - (intOf i).toNat)
    case atStart => exact ⟨0, Nat.zero_le _, rfl, fun b hb => by omega, _, rfl⟩
    case round =>
      obtain ⟨k, hk, rfl, hall, m, rfl⟩ := hrel
      have HALL := Hid.mk' hall
      clear hall
      by_cases hlt : k < S.groups.length
      · have hlt2 : k < L.length := by have := HLEN.out; omega
        have kk := HC.out k hlt2
        have hbt : Hid (S.bt a k = L.getD k 0) := by show S.bt a k = _; unfold St.bt; rw [HL.out]
        have ebt := hbt.out
        rw [← ebt] at kk
        clear ebt
        have hans : betB S a k = false → betweenB S a = false := fun hh => by
          unfold betweenB
          rw [allB_no hlt hh]
          simp
        have HA := Hid.mk' hans
        clear hans
        cases hb : (S.ap a).testBit k with
        | true =>
          cases hv : inB (S.bt a k) (S.gr a).yellow 1048576 with
          | true =>
            have HV : Hid (betB S a k = true) := by show betB S a k = true; unfold betB; rw [if_pos hb]; exact hv
            go_wp2_with (first | (go_at_call 103; refine (has_is _ _ _ _ har (by omega) hb).mono ?_; rintro e w' ⟨rfl, rfl⟩) | (go_at_call 100; refine (within_any _ _ _ _).mono ?_; rintro e w' ⟨rfl, rfl⟩))
            go_roundw
            case rel => exact ⟨k + 1, by omega, by go_num, fun b hb => (by
              by_cases e : b = k
              · subst e; exact HV.out
              · exact HALL.out b (by omega)), _, rfl⟩
            case measure => simp [intOf]; omega
          | false =>
            have HV : Hid (betweenB S a = false) := HA.out (by unfold betB; rw [if_pos hb]; exact hv)
            go_wp2_with (first | (go_at_call 103; refine (has_is _ _ _ _ har (by omega) hb).mono ?_; rintro e w' ⟨rfl, rfl⟩) | (go_at_call 100; refine (within_any _ _ _ _).mono ?_; rintro e w' ⟨rfl, rfl⟩))
            go_ret
            exact ⟨by rw [HV.out]; rfl, _, rfl⟩
        | false =>
          have hcv : inB (S.bt a k) 0 0 = betB S a k := by
            unfold betB inB
            rw [if_neg (by simp [hb])]
            rw [Bool.eq_iff_iff]
            simp
            omega
          cases hv : inB (S.bt a k) 0 0 with
          | true =>
            have HV : Hid (betB S a k = true) := by show betB S a k = true; rw [← hcv]; exact hv
            clear hcv
            go_wp2_with (first | (go_at_call 103; refine (has_is _ _ _ _ har (by omega) hb).mono ?_; rintro e w' ⟨rfl, rfl⟩) | (go_at_call 100; refine (within_any _ _ _ _).mono ?_; rintro e w' ⟨rfl, rfl⟩))
            go_roundw
            case rel => exact ⟨k + 1, by omega, by go_num, fun b hb => (by
              by_cases e : b = k
              · subst e; exact HV.out
              · exact HALL.out b (by omega)), _, rfl⟩
            case measure => simp [intOf]; omega
          | false =>
            have HV : Hid (betweenB S a = false) := HA.out (by rw [← hcv]; exact hv)
            clear hcv
            go_wp2_with (first | (go_at_call 103; refine (has_is _ _ _ _ har (by omega) hb).mono ?_; rintro e w' ⟨rfl, rfl⟩) | (go_at_call 100; refine (within_any _ _ _ _).mono ?_; rintro e w' ⟨rfl, rfl⟩))
            go_ret
            exact ⟨by rw [HV.out]; rfl, _, rfl⟩
      · have hkk : k = S.groups.length := by omega
        have hans : betweenB S a = true := by
          unfold betweenB
          rw [allB_iff.2 (fun b hb => HALL.out b (by omega)), HL.out, decide_eq_true HLEN.out]
          rfl
        have HA := Hid.mk' hans
        clear hans
        go_wp2
        go_ret
        exact ⟨by rw [HA.out]; rfl, _, rfl⟩
  · have hn0 : (((L.length : Nat) : Int) != ((S.groups.length : Nat) : Int)) = true := by rw [bne_iff_ne]; omega
    have hans : betweenB S a = false := by unfold betweenB; rw [HL.out, decide_eq_false hlen]; rfl
    have HA := Hid.mk' hans
    clear hans
    go_enter Tryd.func74, Tryd.ntmps74
    go_wp2
    go_quiet (fail)
    go_wp2
    go_ret
    exact ⟨by rw [HA.out]; rfl, _, rfl⟩

theorem unionN_lt {S : St} (h : ∀ i, (S.ph i).groups < 4294967296) : ∀ k, unionN S k < 4294967296
  | 0 => by simp [unionN]
  | k + 1 => Nat.or_lt_two_pow (n := 32) (unionN_lt h k) (h k)
set_option maxHeartbeats 1000000 in
theorem served_any {B : Nat} {X : Sa} {S : St} {w : World} (h : Sbox w B X S) (i : Int) (hO : Okay S) : Calls Tryd.prog 76 #[.pointer (some ⟨B, 0, none⟩), .int .i64 i] w fun e w' => e = .returned (.bool (servedB S)) ∧ Kept w w' none := by
  have c4 := h.c4
  have hg16 := hO.ng.2
  have hp8 := hO.np
  have HB := Hid.mk' h
  have hu : ∀ k, unionN S k < 4294967296 := unionN_lt h.sat.phr
  have HU := Hid.mk' hu
  clear hu h
  go_enter Tryd.func76, Tryd.ntmps76
  go_wp2
  go_loopw [5, 13] (fun s i wr => ∃ k : Nat, k ≤ S.phases.length ∧ i = .int .i64 k ∧ s = .int .u32 ((unionN S k : Nat) : Int) ∧ Kept w wr none) (fun _ i _ => S.phases.length - (intOf i).toNat)
  case atStart => exact ⟨0, Nat.zero_le _, rfl, rfl, Kept.refl _ _⟩
  case round =>
    obtain ⟨k, hk, rfl, rfl, hkw⟩ := hrel
    by_cases hlt : k < S.phases.length
    · obtain ⟨b, off, e, k0, k1, k2, k3, k4⟩ := (HB.out.kept hkw).sat.phAt hlt
      have hor := u32_or_nat (unionN S k) (S.ph k).groups (HU.out k) (HB.out.sat.phr k)
      rw [e] at *
      go_wp2
      go_roundw
      case rel => exact ⟨k + 1, by omega, by go_num, by rw [unionN], hkw.tr (Kept.alloc _ _ _ _ _)⟩
      case measure => simp [intOf]; omega
    · have hkk : k = S.phases.length := by omega
      subst hkk
      have hans : (((unionN S S.phases.length : Nat) : Int) == ((2 ^ S.groups.length - 1 : Nat) : Int)) = servedB S := by
        unfold servedB
        rw [Bool.eq_iff_iff]
        simp
        omega
      have HA := Hid.mk' hans
      clear hans
      go_wp2_with (go_at_call 102; refine (allGroups_any (HB.out.kept hkw) hg16).mono ?_; rintro e w' ⟨rfl, rfl⟩)
      go_ret
      exact ⟨ret_bool HA.out, hkw⟩
set_option maxHeartbeats 1000000 in
theorem eye_any {B : Nat} {X : Sa} {S : St} {w : World} (h : Sbox w B X S) (i : Nat) (hi : i < S.eyes.length) (hO : Okay S) : Calls Tryd.prog 77 #[.pointer (some ⟨B, 0, none⟩), .int .i64 i] w fun e w' => e = .returned (.bool (eyeB S i)) ∧ Kept w w' none := by
  have c4 := h.c4
  have c5 := h.c5
  have hp8 := hO.np
  have hle := hO.ne
  have hBl := h.lt
  obtain ⟨b, off, e, k0, k1, k2, k3⟩ := h.sat.eyAt hi
  rw [e] at c5
  clear h e hO
  have hkA : ∀ m, Kept w ((w.alloc (.cells #[.int .i64 (S.ey i).phase, .int .i64 (S.ey i).on, .int .i64 (S.ey i).off, .int .i64 (S.ey i).turns] 116)).drewN m) none := fun m => (Kept.alloc _ _ _ _ _ : Kept w _ none).tr (Kept.drewN _ _ _)
  cases h1 : inB (S.ey i).phase 0 ((S.phases.length : Int) - 1) with
  | false =>
    have HA : Hid (eyeB S i = false) := by show eyeB S i = false; simp [eyeB, h1]
    go_enter Tryd.func77, Tryd.ntmps77
    go_wp2
    go_quiet ((go_at_call 100; exact Calls.quiet_of_same (within_is _ _ _ _ _ h1)))
    go_wp2
    go_ret
    exact ⟨by rw [HA.out]; rfl, hkA _⟩
  | true =>
    cases h2 : timeB (S.ey i).on with
    | false =>
      have HA : Hid (eyeB S i = false) := by show eyeB S i = false; simp [eyeB, h1, h2]
      go_enter Tryd.func77, Tryd.ntmps77
      go_wp2
      go_quiet ((first | (go_at_call 100; exact Calls.quiet_of_same (within_is _ _ _ _ _ h1)) | (go_at_call 101; exact Calls.quiet_of_same (time_is _ _ _ h2))))
      go_wp2
      go_ret
      exact ⟨by rw [HA.out]; rfl, hkA _⟩
    | true =>
      cases h3 : timeB (S.ey i).off with
      | false =>
        have HA : Hid (eyeB S i = false) := by show eyeB S i = false; simp [eyeB, h1, h2, h3]
        go_enter Tryd.func77, Tryd.ntmps77
        go_wp2
        go_quiet ((first | (go_at_call 100; exact Calls.quiet_of_same (within_is _ _ _ _ _ h1)) | (go_at_call_of 101 (S.ey i).on; exact Calls.quiet_of_same (time_is _ _ _ h2)) | (go_at_call 101; exact Calls.quiet_of_same (time_is _ _ _ h3))))
        go_wp2
        go_ret
        exact ⟨by rw [HA.out]; rfl, hkA _⟩
      | true =>
        have HA : Hid (eyeB S i = inB (S.ey i).turns 1 64) := by show eyeB S i = _; simp [eyeB, h1, h2, h3]
        go_enter Tryd.func77, Tryd.ntmps77
        go_wp2
        go_quiet ((first | (go_at_call_of 100 (S.ey i).phase; exact Calls.quiet_of_same (within_is _ _ _ _ _ h1)) | (go_at_call 100; exact Calls.quiet_of_same (within_any _ _ _ _)) | (go_at_call_of 101 (S.ey i).on; exact Calls.quiet_of_same (time_is _ _ _ h2)) | (go_at_call 101; exact Calls.quiet_of_same (time_is _ _ _ h3))))
        go_wp2
        go_ret
        exact ⟨by rw [HA.out]; rfl, hkA _⟩

end Go.Proofs.YtoahbpdgbiachaaDoor

/-
  A LIST IN NEW MEMORY: append(nil, list...), whatever its elements are.
-/
namespace Go.Proofs.YtoahbpdgbiachaaDoor
open Go.RowKit Go.Lib Go.Deep
set_option linter.unusedVariables false
set_option linter.unusedSimpArgs false

/-- A list's cells, one after the other. -/
def cellsL (n k : Nat) (f : Nat → Nat → Value) : List Value := (List.range (n * k)).map fun q => f (q / k) (q % k)
theorem cellsL_len (n k : Nat) (f : Nat → Nat → Value) : (cellsL n k f).length = n * k := by simp [cellsL]
theorem cellsL_at {n k q : Nat} {f : Nat → Nat → Value} (h : q < n * k) : (cellsL n k f)[q]? = some (f (q / k) (q % k)) := by
  unfold cellsL
  rw [List.getElem?_map, List.getElem?_range h]
  rfl
theorem cellsL_news {w : World} {b off n k : Nat} {f : Nat → Nat → Value} (hk : 0 < k) (hc : ∀ i, i < n → ∀ j, j < k → w.cell? ⟨b, off + i * k + j, none⟩ = some (f i j)) :
    ∀ j u, (cellsL n k f)[j]? = some u → w.cell? ((⟨b, off, none⟩ : Addr).add j) = some u := by
  intro j u hu
  have hj : j < n * k := by have := (List.getElem?_eq_some_iff.1 hu).1; rwa [cellsL_len] at this
  rw [cellsL_at hj] at hu
  have h1 : j / k < n := by rw [Nat.div_lt_iff_lt_mul hk]; exact hj
  have h2 : j % k < k := Nat.mod_lt _ hk
  have h3 := hc _ h1 _ h2
  have h4 : off + j / k * k + j % k = off + j := by
    have := Nat.div_add_mod j k
    rw [Nat.mul_comm] at this
    omega
  rw [h4] at h3
  rw [Addr.add_lit, h3]
  exact hu
theorem cellsL_one {n k : Nat} {f : Nat → Nat → Value} (h : ∀ i j, (f i j).oneCell' = true) : ∀ u ∈ cellsL n k f, u.oneCell' = true := by
  intro u hu
  unfold cellsL at hu
  simp only [List.mem_map] at hu
  obtain ⟨x, _, rfl⟩ := hu
  exact h _ _
/-- What an own row holds, element by element. -/
theorem lie_own {w : World} {base n k : Nat} {e : TypeId} {v : Value} {f : Nat → Nat → Value} (hk : 0 < k) (h : w.ownsRow base e k v n (cellsL n k f)) : ∃ a cap, v = .slice a n cap ∧ Lie w a n k f ∧ Cap a n cap ∧ (∀ b, a = some b → base ≤ b.block ∧ b.block < w.heap.size) := by
  rcases id h.2 with ⟨rfl, rfl⟩ | ⟨g, cap, cur, rfl, hb, hg, hle, hm, hcs, ht⟩
  · exact ⟨none, 0, rfl, ⟨fun hp => absurd hp (by omega)⟩, ⟨fun _ => ⟨rfl, rfl⟩, Nat.le_refl _, by omega⟩, fun b e => nomatch e⟩
  · unfold maxLen at hm
    refine ⟨some ⟨g, 0, none⟩, cap, rfl, ⟨fun hp => ⟨g, 0, rfl, (Array.getElem?_eq_some_iff.1 hg).1, fun i hi j hj => ?_⟩⟩, ⟨fun e => (nomatch e), hle, by omega⟩, fun b e => by cases e; exact ⟨hb, (Array.getElem?_eq_some_iff.1 hg).1⟩⟩
    have hq : i * k + j < n * k := by
      have h1 : (i + 1) * k ≤ n * k := Nat.mul_le_mul_right k (by omega)
      rw [Nat.add_mul] at h1
      omega
    have h2 : (cur.toList.take (n * k))[i * k + j]? = some (f i j) := by
      rw [ht, cellsL_at hq]
      have h3 : (i * k + j) / k = i := by rw [Nat.add_comm, Nat.add_mul_div_right _ _ hk, Nat.div_eq_of_lt hj, Nat.zero_add]
      have h4 : (i * k + j) % k = j := by rw [Nat.add_comm, Nat.add_mul_mod_self_right, Nat.mod_eq_of_lt hj]
      rw [h3, h4]
    rw [List.getElem?_take_of_lt hq, Array.getElem?_toList] at h2
    rw [Nat.zero_add]
    simp only [World.cell?, hg]
    exact h2
/-- append(nil, list...). -/
theorem twin_run {w : World} {t ty e : TypeId} {i : TypeInfo} {z : Value} {k bytes : Nat} (ht : Tryd.prog.underlying t = some (.slice e)) (hi : Tryd.prog.info? e = some i) (hz : i.zero = some z) (hsize : i.size = k) (hby : i.bytes = bytes) (hzs : z.cells.size = k) (hk : 0 < k) (hbb : bytes ≤ 1000)
    {a : Option Addr} {n c : Nat} {f : Nat → Nat → Value} (hL : Lie w a n k f) (hc : Cap a n c) (hn : n ≤ 1000) (h1 : ∀ i j, (f i j).oneCell' = true) :
    ∃ a' cap w', (Builtin.append_ #[t, t] ty #[.slice none 0 0, .slice a n c]).run Tryd.prog w = .ok (.slice a' n cap) w' ∧ Lie w' a' n k f ∧ Cap a' n cap ∧ (∀ b, a' = some b → w.heap.size ≤ b.block ∧ b.block < w'.heap.size) ∧ Kept w w' none := by
  cases a with
  | none =>
    obtain ⟨rfl, rfl⟩ := hc.nil rfl
    have hrun := run_append_owned_none (P := Tryd.prog) (w := w) w.heap.size t ty e i k ht hi (.slice none 0 0) 0 [] (World.ownsRow_nil _ _ _ _)
    exact ⟨none, 0, w, hrun, ⟨fun hp => absurd hp (by omega)⟩, ⟨fun _ => ⟨rfl, rfl⟩, Nat.le_refl _, by omega⟩, fun b e => (nomatch e), Kept.refl _ _⟩
  | some ad =>
    have hnews : ∀ j u, (cellsL n k f)[j]? = some u → w.cell? (ad.add j) = some u := by
      by_cases hp : 0 < n
      · obtain ⟨b, off, e, _, hcell⟩ := hL.at_ hp
        injection e with e
        subst e
        exact cellsL_news hk hcell
      · intro j u hu
        have hn0 : n = 0 := by omega
        subst hn0
        simp [cellsL] at hu
    have hbytes : (0 + n) * bytes ≤ 140737488355328 := by
      have h2 : n * bytes ≤ 1000 * 1000 := Nat.mul_le_mul hn hbb
      rw [Nat.zero_add]
      omega
    obtain ⟨v', w', hr, h2, h3, _⟩ := run_append_own (P := Tryd.prog) w w.heap.size t ty e i z k bytes ht hi hz hsize hby hzs hk (.slice none 0 0) 0 [] (World.ownsRow_nil _ _ _ _) ad n c (cellsL n k f) (cellsL_len _ _ _) hnews (cellsL_one h1) (by unfold maxLen; omega) hbytes (Nat.le_refl _)
    rw [Nat.zero_add, List.nil_append] at h2
    obtain ⟨a', cap, rfl, g1, g2, g3⟩ := lie_own hk h2
    exact ⟨a', cap, w', hr, g1, g2, g3, h3⟩

end Go.Proofs.YtoahbpdgbiachaaDoor

/-
  THE NUMBERS OF A SET, rising.
-/
namespace Go.Proofs.YtoahbpdgbiachaaDoor
set_option linter.unusedVariables false
set_option linter.unusedSimpArgs false

def memb (S : Nat) : List Nat := (List.range 32).filter (fun i => S.testBit i)
theorem mem_memb {S i : Nat} : i ∈ memb S ↔ i < 32 ∧ S.testBit i = true := by unfold memb; simp
theorem memb_zero : memb 0 = [] := by
  unfold memb
  rw [List.filter_eq_nil_iff]
  simp
/-- Which of the numbers from a on are in a set, and which are without its least one. -/
theorem memb_low {S : Nat} (h0 : 0 < S) (hS : S < 4294967296) : memb S = lowN 32 S :: memb (withoutV S (lowN 32 S : Nat)) := by
  obtain ⟨h1, h2, h3⟩ := lowN_spec 32 S h0 (by simpa using hS)
  generalize hq : lowN 32 S = q at *
  have hw : ∀ j, (withoutV S (q : Nat)).testBit j = (S.testBit j && !decide (q = j)) := fun j => by
    rw [without_in h1]; exact without_bit S q j hS h1
  unfold memb
  have key : ∀ m, m ≤ 32 → (List.range m).filter (fun i => S.testBit i) = if q < m then q :: (List.range m).filter (fun i => (withoutV S (q : Nat)).testBit i) else [] := by
    intro m
    induction m with
    | zero => intro _; simp
    | succ m ih =>
      intro hm
      rw [List.range_succ, List.filter_append, List.filter_append, ih (by omega)]
      by_cases c1 : q < m
      · rw [if_pos c1, if_pos (by omega)]
        have : (withoutV S (q : Nat)).testBit m = S.testBit m := by rw [hw]; simp; omega
        simp [List.filter_cons, this]
      · rw [if_neg c1]
        by_cases c2 : q = m
        · subst c2
          rw [if_pos (by omega)]
          have hnone : (List.range q).filter (fun i => (withoutV S (q : Nat)).testBit i) = [] := by
            rw [List.filter_eq_nil_iff]
            intro x hx
            have hx' : x < q := by simpa using hx
            rw [hw, h3 x hx']
            simp
          rw [hnone]
          have : (withoutV S (q : Nat)).testBit q = false := by rw [hw]; simp
          simp [List.filter_cons, h2, this]
        · rw [if_neg (by omega)]
          simp [List.filter_cons, h3 m (by omega)]
  rw [key 32 (Nat.le_refl _), if_pos h1]

end Go.Proofs.YtoahbpdgbiachaaDoor

/-
  THE CONTRACT of members: the numbers of a set, one after another, to whatever body.
-/
namespace Go.Proofs.YtoahbpdgbiachaaDoor
open Go.RowKit Go.Lib Go.Deep Go.Shelf
set_option linter.unusedVariables false
set_option linter.unusedSimpArgs false
attribute [local go_sem] Oper.semAt_some

/-- A number of a set. -/
abbrev Mb (S : Nat) := { x : Nat // x ∈ memb S }
def vals {S : Nat} (l : List (Mb S)) : List Nat := l.map (·.1)
theorem vals_snoc {S : Nat} (l : List (Mb S)) (x : Mb S) : vals (l ++ [x]) = vals l ++ [x.1] := by simp [vals]
theorem Tabb.below {n : Nat} {w w' : World} (h : Tabb w) (hn : 1 < n) (k : Below n w w') : Tabb w' := fun i hi => (k.cell (p := ⟨1, i, none⟩) hn).trans (h i hi)
set_option maxRecDepth 100000 in
set_option maxHeartbeats 1000000 in
theorem members1_in (n : Nat) (hn : 1 ≤ n) (l Bn n₀ S : Nat) (hS : S < 4294967296) (hn₀ : 1 < n₀) (J Jx : List (Mb S) → World → Prop)
    (hY : ∀ pre (x : Mb S) W, J pre W → pre.length < (memb S).length → YieldAt Fence.wide (n - 1) Tryd.prog l #[.int .i64 ((x.1 : Nat) : Int)] W fun e W' =>
      (e = .returned (.bool true) ∧ J (pre ++ [x]) W' ∧ Below n₀ W W') ∨ (e = .returned (.bool false) ∧ Jx (pre ++ [x]) W'))
    (W : World) (hBn : W.cell? ⟨Bn, 0, none⟩ = some (.int .u32 S)) (hT : Tabb W) (h0 : J [] W) :
    CallsIn Fence.wide n Tryd.prog 112 #[.func (.yield l) #[] #[], .pointer (some ⟨Bn, 0, none⟩)] W fun e W' => (∃ v, e = .returned v) ∧
      ((∃ ys, vals ys = memb S ∧ J ys W') ∨ (∃ pre, vals pre <+: memb S ∧ Jx pre W')) := by
  refine callsIn_of_wp Tryd.func112 rfl trivial ?_ rfl
  simp only [Tryd.ntmps112, List.size_toArray, List.length_cons, List.length_nil, Nat.reduceAdd, Nat.reduceSub, Array.replicate_succ, Array.replicate_zero, List.push_toArray, List.append_toArray, List.nil_append, List.cons_append]
  gi_wp2
  gi_loopw [3] (fun r wr => ∃ (pre : List (Mb S)) (R : Nat), r = .int .u32 (R : Int) ∧ R < 4294967296 ∧ memb S = vals pre ++ memb R ∧ Tabb wr ∧ J pre wr) (fun r _ => (intOf r).toNat)
  case atStart =>
    exact ⟨[], S, rfl, hS, rfl, hT, h0⟩
  case round =>
    obtain ⟨pre, R, rfl, hR, hx, hTr, hJs⟩ := hrel
    by_cases hz : R = 0
    · subst hz
      gi_wp2
      go_end0
      exact ⟨⟨_, rfl⟩, .inl ⟨pre, by rw [hx, memb_zero, List.append_nil], hJs⟩⟩
    · have hR0 : 0 < R := by omega
      have hm := memb_low hR0 hR
      have hlt := (lowN_spec 32 R hR0 (by simpa using hR)).1
      have hlv : leastV R = ((lowN 32 R : Nat) : Int) := by unfold leastV; rw [if_neg hz]
      have hw : withoutV R ((lowN 32 R : Nat) : Int) < R := by
        obtain ⟨h1, h2, h3⟩ := lowN_spec 32 R hR0 (by simpa using hR)
        rw [without_in h1, without_yes R _ hR h1 h2]
        have : 0 < 2 ^ lowN 32 R := Nat.two_pow_pos _
        omega
      have hnz : ((R : Int) != 0) = true := by rw [bne_iff_ne]; omega
      have HT := Hid.mk' hTr
      have HM := Hid.mk' hm
      have HX := Hid.mk' hx
      have HLV := Hid.mk' hlv
      clear hTr hm hx hlv
      generalize hq : lowN 32 R = q at *
      have HQ := Hid.mk' hq
      clear hq
      generalize hr : withoutV R (q : Int) = R' at *
      have HR' := Hid.mk' hr
      clear hr
      have hqm : q ∈ memb S := by rw [HX.out, HM.out]; simp
      obtain ⟨fn, tmps, assign, body, hy, hRR⟩ := hY pre ⟨q, hqm⟩ wr hJs (by rw [HX.out, HM.out]; simp [vals])
      gi_wp2_with (first
        | (refine ⟨trivial, ?_⟩; gi_at_call 113; refine (callsIn_wide.2 (least_any R _ hR HT.out)).mono ?_; rintro e w' ⟨rfl, rfl⟩; rw [HLV.out])
        | (refine ⟨trivial, ?_⟩; gi_at_call 114; refine (callsIn_wide.2 (without_any R _ _ hR)).mono ?_; rintro e w' ⟨rfl, rfl⟩; rw [HR'.out]))
      refine hRR.mono ?_
      rintro e W3 (⟨rfl, hJ3, hk3⟩ | ⟨rfl, hJx3⟩)
      · gi_wp2
        go_roundw
        case rel => exact ⟨_, R', rfl, by omega, HX.out.trans (by rw [HM.out, vals_snoc]; simp), HT.out.below hn₀ hk3, hJ3⟩
        case measure => simp [intOf]; omega
      · gi_wp2
        refine bodyPost_ret (results_none rfl _ _ _) rfl ?_
        exact ⟨⟨_, rfl⟩, .inr ⟨_, ⟨memb R', (HX.out.trans (by rw [HM.out, vals_snoc]; simp)).symm⟩, hJx3⟩⟩
set_option maxHeartbeats 1000000 in
theorem members_in (n S : Nat) (w : World) :
    CallsIn Fence.wide n Tryd.prog 104 #[.int .u32 S] w fun e w' => e = .returned (.func (.func 112) #[] #[.pointer (some ⟨w.heap.size, 0, none⟩)]) ∧ w' = w.alloc (.cells #[.int .u32 S] 65) := by
  refine callsIn_of_wp Tryd.func104 rfl trivial ?_ rfl
  simp only [Tryd.ntmps104, List.size_toArray, List.length_cons, List.length_nil, Nat.reduceAdd, Nat.reduceSub, Array.replicate_succ, Array.replicate_zero, List.push_toArray, List.append_toArray, List.nil_append, List.cons_append]
  gi_wp2
  go_ret
  exact ⟨rfl, rfl⟩
theorem members_stops (n : Nat) (hn : 1 ≤ n) (Bn n₀ S : Nat) (w : World) (hBn : Bn < w.heap.size) (hS : S < 4294967296) (hn₀ : 1 < n₀) (hw : n₀ ≤ w.heap.size)
    (hc : w.cell? ⟨Bn, 0, none⟩ = some (.int .u32 S)) (hT : Tabb w) :
    SeqStopsK Fence.wide n Tryd.prog 112 #[.pointer (some ⟨Bn, 0, none⟩)] (fun x : Mb S => #[Value.int .i64 (x.1 : Int)]) (Below n₀) (fun ys => vals ys = memb S) (fun pre => vals pre <+: memb S) (memb S).length w := fun l J Jx W hW _ _ hY h0 =>
  members1_in n hn l Bn n₀ S hS hn₀ J Jx hY W ((hW.cell (p := ⟨Bn, 0, none⟩) hBn).trans hc) (hT.below (by omega) hW) h0

end Go.Proofs.YtoahbpdgbiachaaDoor

/-
  A REGION THAT DRAWS ITS ORDER, IN A ROUND of a loop over a function, walked as everywhere: the laws of regions, at the fence that asks nothing.
-/
namespace Go.Proofs.YtoahbpdgbiachaaDoor
open Go.RowKit Go.Lib Go.Deep Go.Shelf
set_option linter.unusedVariables false
set_option linter.unusedSimpArgs false

def plainB (o : Oper) : Bool := match o.op with
  | .defer _ => false
  | _ => true
theorem plainB_ne {o : Oper} (h : plainB o = true) : ∀ c, o.op ≠ .defer c := by
  intro c e
  unfold plainB at h
  rw [e] at h
  cases h
theorem upon_in {n l : Nat} {P : Program} {o : Oper} {a : Act} {next : Act → World → Prop} {Q0 : Act → World → Prop} {Q : Exit → Act → World → Prop} {r : Result Next}
    (h : o.upon P a next (fun e a w => e = .normal ∧ Q0 a w) r) : o.uponIn (Fence.wide.inRound l) n P a next Q r := by
  unfold Oper.upon at h
  unfold Oper.uponIn
  split at h
  · exact h
  · exact h
  · exact h
  · refine ⟨fun hd => by simp [Fence.wide, Fence.inRound] at hd, CallsIn.inRound l ((callsIn_wide.2 h).mono ?_)⟩
    intro e w' he
    cases e with
    | returned v => exact he
    | panicked c => exact absurd he.1 (by simp)
    | outgrown => obtain ⟨_, _, h1, _⟩ := he; exact absurd h1 (by simp)
  · refine ⟨fun hd => by simp [Fence.wide, Fence.inRound] at hd, ?_⟩
    intro c cs _
    obtain ⟨v, w', hr, hs⟩ := h c cs
    exact ⟨v, w', hr, stepsIn_wide.2 hs⟩
  · exact absurd h.1 (by simp)
  · exact h.elim
theorem any_round {n l : Nat} {P : Program} {md : Region.Mode} {ops : Array Oper} {Q0 : Act → World → Prop} {Q : Exit → Act → World → Prop} (hp : ops.all plainB = true) (hQ : ∀ a w, Q0 a w → Q .normal a w) : ∀ (fuel : Nat) (listed : Array Bool) (a : Act) (w : World),
    wpAny P md ops (fun e a w => e = .normal ∧ Q0 a w) fuel listed a w → wpAnyIn (Fence.wide.inRound l) n P md ops Q fuel listed a w
  | 0, _, _, _, h => ⟨h.1, hQ _ _ h.2.2⟩
  | fuel + 1, listed, a, w, h => by
    refine ⟨fun h0 => hQ _ _ (h.1 h0).2, fun i hi => ?_⟩
    have h1 := h.2 i hi
    unfold wpOp at h1
    unfold wpOpIn
    cases ho : ops[i]? with
    | none =>
      simp only [ho] at h1
      exact any_round hp hQ fuel _ _ _ h1
    | some o =>
      simp only [ho] at h1
      have hpo : plainB o = true := by
        rw [Array.all_eq_true] at hp
        obtain ⟨hlt, e⟩ := Array.getElem?_eq_some_iff.1 ho
        rw [← e]
        exact hp i hlt
      simp only
      split
      · rename_i hw
        rw [if_pos hw] at h1
        rcases h1 with h1 | ⟨_, _, _, h1, _⟩
        · refine ⟨fun f _ => trivial, ?_⟩
          rw [show (Fence.wide.inRound l).round = some l from rfl, Oper.semAt_eq _ _ _ (plainB_ne hpo)]
          refine upon_in (Q0 := Q0) ?_
          exact Oper.wp_mono (fun a' w' h' => any_round hp hQ fuel _ a' w' h') h1
        · exact absurd h1 (by simp)
      · rename_i hw
        rw [if_neg hw] at h1
        exact ⟨fun f _ => trivial, any_round hp hQ fuel _ _ _ h1⟩
/-- The beginning: S holds of the world behind the draw. -/
theorem held_round {S : World → Prop} {n l : Nat} {P : Program} {id : Nat} {ops : Array Oper} {Q : Exit → Act → World → Prop} {a : Act} {w : World} (hm : P.follows .mixedOrders = true) (hp : ops.all plainB = true) (hS : S w.drew)
    (h : S w.drew → wpAnyH P .any ops (fun e a w => e = .normal ∧ Q .normal a w) S ops.size (Array.replicate ops.size false) a w.drew) : (Code.region id ops true).wpIn (Fence.wide.inRound l) n P Q a w :=
  wpIn_region_any hm (any_round hp (fun _ _ h => h) _ _ _ _ (wpAny_of_held _ _ _ _ (h hS)))

theorem upon_wide {n : Nat} {P : Program} {o : Oper} {a : Act} {next : Act → World → Prop} {Q0 : Act → World → Prop} {Q : Exit → Act → World → Prop} {r : Result Next}
    (h : o.upon P a next (fun e a w => e = .normal ∧ Q0 a w) r) : o.uponIn Fence.wide n P a next Q r := by
  unfold Oper.upon at h
  unfold Oper.uponIn
  split at h
  · exact h
  · exact h
  · exact h
  · refine ⟨fun hd => by simp [Fence.wide, Fence.inRound] at hd, (callsIn_wide.2 h).mono ?_⟩
    intro e w' he
    cases e with
    | returned v => exact he
    | panicked c => exact absurd he.1 (by simp)
    | outgrown => obtain ⟨_, _, h1, _⟩ := he; exact absurd h1 (by simp)
  · refine ⟨fun hd => by simp [Fence.wide, Fence.inRound] at hd, ?_⟩
    intro c cs _
    obtain ⟨v, w', hr, hs⟩ := h c cs
    exact ⟨v, w', hr, stepsIn_wide.2 hs⟩
  · exact absurd h.1 (by simp)
  · exact h.elim
theorem any_wide {n : Nat} {P : Program} {md : Region.Mode} {ops : Array Oper} {Q0 : Act → World → Prop} {Q : Exit → Act → World → Prop} (hp : ops.all plainB = true) (hQ : ∀ a w, Q0 a w → Q .normal a w) : ∀ (fuel : Nat) (listed : Array Bool) (a : Act) (w : World),
    wpAny P md ops (fun e a w => e = .normal ∧ Q0 a w) fuel listed a w → wpAnyIn Fence.wide n P md ops Q fuel listed a w
  | 0, _, _, _, h => ⟨h.1, hQ _ _ h.2.2⟩
  | fuel + 1, listed, a, w, h => by
    refine ⟨fun h0 => hQ _ _ (h.1 h0).2, fun i hi => ?_⟩
    have h1 := h.2 i hi
    unfold wpOp at h1
    unfold wpOpIn
    cases ho : ops[i]? with
    | none =>
      simp only [ho] at h1
      exact any_wide hp hQ fuel _ _ _ h1
    | some o =>
      simp only [ho] at h1
      have hpo : plainB o = true := by
        rw [Array.all_eq_true] at hp
        obtain ⟨hlt, e⟩ := Array.getElem?_eq_some_iff.1 ho
        rw [← e]
        exact hp i hlt
      simp only
      split
      · rename_i hw
        rw [if_pos hw] at h1
        rcases h1 with h1 | ⟨_, _, _, h1, _⟩
        · refine ⟨fun f _ => trivial, ?_⟩
          rw [show Fence.wide.round = none from rfl, Oper.semAt_eq _ _ _ (plainB_ne hpo)]
          refine upon_wide (Q0 := Q0) ?_
          exact Oper.wp_mono (fun a' w' h' => any_wide hp hQ fuel _ a' w' h') h1
        · exact absurd h1 (by simp)
      · rename_i hw
        rw [if_neg hw] at h1
        exact ⟨fun f _ => trivial, any_wide hp hQ fuel _ _ _ h1⟩
/-- The beginning: S holds of the world behind the draw. -/
theorem held_wide {S : World → Prop} {n : Nat} {P : Program} {id : Nat} {ops : Array Oper} {Q : Exit → Act → World → Prop} {a : Act} {w : World} (hm : P.follows .mixedOrders = true) (hp : ops.all plainB = true) (hS : S w.drew)
    (h : S w.drew → wpAnyH P .any ops (fun e a w => e = .normal ∧ Q .normal a w) S ops.size (Array.replicate ops.size false) a w.drew) : (Code.region id ops true).wpIn Fence.wide n P Q a w :=
  wpIn_region_any hm (any_wide hp (fun _ _ h => h) _ _ _ _ (wpAny_of_held _ _ _ _ (h hS)))

theorem held_take {P : Program} {ops : Array Oper} {Q : Exit → Act → World → Prop} {md : Region.Mode} {S : World → Prop} {i d : Nat} {oi : Oper} {v : Value} {fuel : Nat} {listed : Array Bool} {a : Act} {w : World} (hi : ops[i]? = some oi) (hd : oi.dst = some d)
    (hs : Region.noSelect ops = true) (hf : Region.free md ops listed i = true) (hr : (Region.ready md ops listed).contains i = true)
    (hQ : ∀ c a w, Q (.panic c) (a.put oi.dst v) w → Q (.panic c) a w) (hy : YieldsIf P ops S oi v a) (hS : S w)
    (h : wpAnyH P md ops Q S fuel (listed.setIfInBounds i true) { tmps := a.tmps.setIfInBounds d v, defers := a.defers } w) : wpAnyH P md ops Q S (fuel + 1) listed a w :=
  wpAnyH_take hi hs hf hr hQ hy hS (by rw [hd]; exact h)

end Go.Proofs.YtoahbpdgbiachaaDoor

