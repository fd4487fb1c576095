import Derived.OwnWalk
import Derived.Deep.DeepAppendRoom
import Derived.Deep.AppendLies
import Derived.Laws.AppendOwnNone
import Derived.Deep.Matrix
import Derived.Deep.Strs
import Derived.OpenShut
import Derived.ShutString
import Derived.Test.YtfhmfanmnhclfaaDoorP2
namespace Go.Proofs.YtfhmfanmnhclfaaDoor
set_option linter.unusedVariables false
set_option linter.unusedSimpArgs false
section
open Go.RowKit Go.Lib Go.Deep

/-! ### Get -/


/-- A slice of the call's own: its bytes are L. -/
abbrev Own (w : World) (base g n cap : Nat) (L : List Nat) : Prop := w.ownsRow base 5 1 (.slice (some ⟨g, 0, none⟩) n cap) n (L.map byteV)
theorem Own.by {w : World} {base g n cap : Nat} {L : List Nat} (h : Own w base g n cap L) (hn : n ≤ 9223372036854775807) (hb : ∀ x ∈ L, x < 256) : By w (some ⟨g, 0, none⟩) n L := by
  have hl : L.length = n := by have := h.1; simpa using this
  refine ⟨hl, hn, hb, fun hp => ⟨g, 0, rfl, (h.lt g rfl).2, fun i hi => ?_⟩⟩
  have := h.cellAt i (by omega)
  rw [Nat.zero_add]
  rw [this]
  have hi' : i < L.length := by omega
  simp [hi']

/-- A slice of the call's own, nil or not: its bytes are L. -/
structure Mine (w : World) (base : Nat) (a : Option Addr) (n cap : Nat) (L : List Nat) : Prop where
  own : w.ownsRow base 5 1 (.slice a n cap) n (L.map byteV)
  nil : a = none → n = 0 ∧ cap = 0
  room : n ≤ cap
  max : cap ≤ 9223372036854775807
theorem Mine.by {w : World} {base : Nat} {a : Option Addr} {n cap : Nat} {L : List Nat} (h : Mine w base a n cap L) (hb : ∀ x ∈ L, x < 256) : By w a n L := by
  have hm := h.max
  have hr := h.room
  rcases id h.own.2 with ⟨e, rfl⟩ | ⟨g, cap', cur, e, _⟩
  · have hl : L = [] := List.length_eq_zero_iff.1 (by have := h.own.1; simpa using this)
    subst hl
    exact By.nil _ _
  · injection e with e1 e2 e3
    subst e1 e3
    exact Own.by h.own (by omega) hb
theorem Mine.new {w : World} {base : Nat} {a : Option Addr} {n cap : Nat} {L : List Nat} (h : Mine w base a n cap L) : ∀ k, (Value.slice a n cap).ownBlock = some k → base ≤ k := fun k hk => (h.own.lt k hk).1

end
section
open Go.ChangeShapes Go.WideShapes Go.ChangeAt Go.RowKit Go.Lib Go.Deep

theorem nat_u8 {z : Int} (h : (Lit.int .u8 z).wf = true) : ∃ n : Nat, z = (n : Int) ∧ n < 256 := by
  have := bounds_u8 h
  exact ⟨z.toNat, by omega, by omega⟩
theorem nat_u32 {z : Int} (h : (Lit.int .u32 z).wf = true) : ∃ n : Nat, z = (n : Int) ∧ n < 4294967296 := by
  have := bounds_u32 h
  exact ⟨z.toNat, by omega, by omega⟩
theorem i64_of {z : Int} (h : (Lit.int .i64 z).wf = true) : i64B z := by
  have := bounds_i64 h
  unfold i64B
  omega
theorem addr_plain {w : World} {a : Addr} {v : Value} (h : w.cell? a = some v) : ∃ b off, a = ⟨b, off, none⟩ := by
  obtain ⟨b, off, s⟩ := a
  cases s with
  | none => exact ⟨b, off, rfl⟩
  | some x =>
    simp [World.cell?] at h
    split at h <;> simp at h
theorem add_add (a : Addr) (i j : Nat) : (a.add i).add j = a.add (i + j) := by
  unfold Addr.add
  by_cases h3 : i = 0
  · simp [h3]
  · by_cases hj : j = 0
    · simp [hj, h3]
    · simp [h3, hj, Nat.add_assoc]
section
variable {H : Type} {enc : TypeId × Value → H}
abbrev Tr (enc : TypeId × Value → H) (W : World) (n : Nat) (t : TypeId) (cs : List Value) (x : DataW H × List MemPlace) : Prop := DataW.trod enc Tryd.prog W 0 (fun _ => true) true n t cs = some x
theorem flds {W : World} {fuel : Nat} {t : TypeId} {fs : Array Field} {cs : List Value} {x : DataW H × List MemPlace} (ht : Tryd.prog.underlying t = some (.struct fs)) (h : Tr enc W fuel t cs x) : ∃ n, cs.length = Tryd.prog.cellsOf t ∧ ∀ (i : Nat) (f : Field), fs[i]? = some f → ∃ y, Tr enc W n f.type ((cs.drop f.offset).take (Tryd.prog.cellsOf f.type)) y := by
  obtain ⟨xs, n, _, _, hl, hlen, hf⟩ := DataW.trod_struct ht h
  refine ⟨n, hl, fun i f hi => ?_⟩
  have hi' : i < fs.size := (Array.getElem?_eq_some_iff.1 hi).1
  exact ⟨xs[i]'(by omega), (hf i f hi).trans (List.getElem?_eq_getElem (by omega))⟩
/-- A list of elements of K cells. -/
theorem open_list {α : Type} (d : α) {W : World} {fuel : Nat} {t e : TypeId} {K : Nat} {c : Value} {x : DataW H × List MemPlace} (hK : 0 < K) (f : α → Nat → Value) (Ok : α → Prop) (ht : Tryd.prog.underlying t = some (.slice e)) (hc : Tryd.prog.cellsOf e = K)
    (hel : ∀ n cs x, Tr enc W n e cs x → ∃ y : α, (∀ j, j < K → cs[j]? = some (f y j)) ∧ Ok y) (h : Tr enc W fuel t [c] x) :
    ∃ (a : Option Addr) (cap : Nat) (l : List α), c = .slice a l.length cap ∧ Lie W a l.length K (fun i j => f (l.getD i d) j) ∧ Cap a l.length cap ∧ ∀ y ∈ l, Ok y := by
  rcases open_slice ht h with ⟨hcs, _⟩ | ⟨a', len', cap', m, n, D, Pl, hcs, _, hl, hm, hmm, _, hx⟩
  · simp at hcs
    subst hcs
    exact ⟨none, 0, [], rfl, ⟨fun h => absurd h (by simp)⟩, ⟨fun _ => ⟨rfl, rfl⟩, Nat.le_refl _, by omega⟩, by simp⟩
  · simp at hcs
    subst hcs
    rw [hc] at hx
    have hmm : m = cap' := by simpa using hmm
    subst hmm
    unfold maxLen at hm
    have each : ∀ i, ∃ y : α, i < len' → (∀ j, j < K → W.cell? (a'.add (i * K + j)) = some (f y j)) ∧ Ok y := by
      intro i
      by_cases hi : i < len'
      · obtain ⟨cs', h1, h2⟩ := hx i (by omega)
        obtain ⟨_, hlen, hcell⟩ := World.cells?_some h1
        obtain ⟨y, hy, ho⟩ := hel _ _ _ h2
        refine ⟨y, fun _ => ⟨fun j hj => ?_, ho⟩⟩
        have q := hcell j (by omega)
        rw [add_add] at q
        rw [q]
        exact hy j hj
      · exact ⟨d, fun h => absurd h hi⟩
    have hcc := fun i => Classical.choose_spec (each i)
    obtain ⟨F, hcc⟩ : ∃ F : Nat → α, ∀ i, i < len' → (∀ j, j < K → W.cell? (a'.add (i * K + j)) = some (f (F i) j)) ∧ Ok (F i) := ⟨fun i => Classical.choose (each i), hcc⟩
    refine ⟨some a', m, (List.range len').map F, by simp, ⟨fun hp => ?_⟩, ⟨fun e => (nomatch e), by simpa using hl, by omega⟩, fun y hy => ?_⟩
    · have hp' : 0 < len' := by simpa using hp
      have q0 := (hcc 0 hp').1 0 hK
      rw [show a'.add (0 * K + 0) = a' by simp [Addr.add]] at q0
      obtain ⟨b, off, rfl⟩ := addr_plain q0
      refine ⟨b, off, rfl, block_lt q0, fun i hi j hj => ?_⟩
      have hi' : i < len' := by simpa using hi
      have q := (hcc i hi').1 j hj
      rw [Addr.add_lit, ← Nat.add_assoc] at q
      rw [q]
      simp [hi']
    · simp only [List.mem_map, List.mem_range] at hy
      obtain ⟨i, hi, rfl⟩ := hy
      exact (hcc i hi).2
theorem open_int1 {W : World} {n : Nat} {t : TypeId} {k : IntKind} {cs : List Value} {x : DataW H × List MemPlace} (ht : Tryd.prog.underlying t = some (.int k)) (h : Tr enc W n t cs x) : ∃ z, cs = [.int k z] ∧ (Lit.int k z).wf = true := by
  obtain ⟨z, e, _, hw⟩ := DataW.trod_int ht h
  exact ⟨z, e, hw⟩
/-- Numbers. -/
theorem open_nums {W : World} {fuel : Nat} {c : Value} {x : DataW H × List MemPlace} (h : Tr enc W fuel 22 [c] x) : ∃ (a : Option Addr) (cap : Nat) (l : List Int), c = .slice a l.length cap ∧ Ints W a l.length cap l := by
  obtain ⟨a, cap, l, rfl, h1, h2, h3⟩ := open_list (0 : Int) (e := 3) (K := 1) (by omega) (fun z _ => .int .i64 z) (fun z => i64B z) Tryd.underlying22 (by kernel_rfl) (fun n cs x h => by
    obtain ⟨z, rfl, hw⟩ := open_int1 Tryd.underlying3 h
    exact ⟨z, fun j hj => by rw [show j = 0 by omega]; rfl, i64_of hw⟩) h
  exact ⟨a, cap, l, rfl, h1, rfl, h2, h3⟩
set_option maxRecDepth 100000 in
theorem open_plan1 {W : World} {n : Nat} {cs : List Value} {x : DataW H × List MemPlace} (h : Tr enc W n 24 cs x) : ∃ y : Pl × Option Addr × Nat, (∀ j, j < 3 → cs[j]? = some (plV y.1 y.2.1 y.2.2 j)) ∧ Ints W y.2.1 y.1.splits.length y.2.2 y.1.splits ∧ i64B y.1.cycle ∧ i64B y.1.offset := by
  obtain ⟨n, hl, hf⟩ := flds Tryd.underlying24 h
  have hC : Tryd.prog.cellsOf 24 = 3 := by kernel_rfl
  have kI : Tryd.prog.cellsOf 3 = 1 := by kernel_rfl
  have kL : Tryd.prog.cellsOf 22 = 1 := by kernel_rfl
  rw [hC] at hl
  match cs, hl with
  | [c0, c1, c2], _ =>
    obtain ⟨y0, h0⟩ := hf 0 _ rfl
    obtain ⟨y1, h1⟩ := hf 1 _ rfl
    obtain ⟨y2, h2⟩ := hf 2 _ rfl
    simp [kI] at h0 h1
    simp [kL] at h2
    obtain ⟨z0, e0, w0⟩ := open_int1 Tryd.underlying3 h0
    obtain ⟨z1, e1, w1⟩ := open_int1 Tryd.underlying3 h1
    obtain ⟨a, cap, l, rfl, hI⟩ := open_nums h2
    simp at e0 e1
    subst e0 e1
    refine ⟨(⟨z0, z1, l⟩, a, cap), fun j hj => ?_, hI, i64_of w0, i64_of w1⟩
    match j, hj with
    | 0, _ => rfl
    | 1, _ => rfl
    | 2, _ => rfl
theorem open_plansC {W : World} {fuel : Nat} {c : Value} {x : DataW H × List MemPlace} (h : Tr enc W fuel 33 [c] x) : ∃ (a : Option Addr) (cap : Nat) (l : List Pl), c = .slice a l.length cap ∧ Plans W a l.length cap l := by
  obtain ⟨a, cap, l, rfl, h1, h2, h3⟩ := open_list ((q0, none, 0) : Pl × Option Addr × Nat) (e := 24) (K := 3) (by omega) (fun y j => plV y.1 y.2.1 y.2.2 j) (fun y => Ints W y.2.1 y.1.splits.length y.2.2 y.1.splits ∧ i64B y.1.cycle ∧ i64B y.1.offset) Tryd.underlying33 (by kernel_rfl) (fun n cs x h => open_plan1 h) h
  refine ⟨a, cap, l.map Prod.fst, by simp, ⟨⟨fun i => (l.getD i (q0, none, 0)).2, ?_, ?_⟩, by simp, by simpa using h2, ?_⟩⟩
  · rw [List.length_map]
    refine h1.congr (fun i hi j hj => ?_)
    simp [hi]
  · intro i hi
    rw [List.length_map] at hi
    have := (h3 (l[i]) (List.getElem_mem _)).1
    simpa [hi] using this
  · intro p hp
    simp only [List.mem_map] at hp
    obtain ⟨y, hy, rfl⟩ := hp
    exact (h3 y hy).2
theorem open_grid {W : World} {fuel : Nat} {c : Value} {x : DataW H × List MemPlace} (h : Tr enc W fuel 30 [c] x) : ∃ (a : Option Addr) (cap : Nat) (l : List (List Int)), c = .slice a l.length cap ∧ Grid W a l.length cap l := by
  obtain ⟨a, cap, l, rfl, h1, h2, h3⟩ := open_list (([], none, 0) : List Int × Option Addr × Nat) (e := 22) (K := 1) (by omega) (fun y _ => .slice y.2.1 y.1.length y.2.2) (fun y => Ints W y.2.1 y.1.length y.2.2 y.1) Tryd.underlying30 (by kernel_rfl) (fun n cs x h => by
    obtain ⟨a, len, cap', e⟩ : ∃ a len cap', cs = [.slice a len cap'] := by
      rcases open_slice Tryd.underlying22 h with ⟨hcs, _⟩ | ⟨a', len', cap', m, n, D, Pl, hcs, _⟩
      · exact ⟨_, _, _, hcs⟩
      · exact ⟨_, _, _, hcs⟩
    subst e
    obtain ⟨a2, c2, l2, e2, hI⟩ := open_nums h
    rw [e2]
    exact ⟨(l2, a2, c2), fun j hj => by rw [show j = 0 by omega]; rfl, hI⟩) h
  refine ⟨a, cap, l.map Prod.fst, by simp, ⟨⟨fun i => (l.getD i ([], none, 0)).2, ?_, ?_⟩, by simp, by simpa using h2⟩⟩
  · rw [List.length_map]
    refine h1.congr (fun i hi j hj => ?_)
    simp [hi]
  · intro i hi
    rw [List.length_map] at hi
    have := h3 (l[i]) (List.getElem_mem _)
    simpa [hi] using this
set_option maxRecDepth 100000 in
theorem open_groups {W : World} {fuel : Nat} {c : Value} {x : DataW H × List MemPlace} (h : Tr enc W fuel 28 [c] x) : ∃ (a : Option Addr) (cap : Nat) (l : List Gr), c = .slice a l.length cap ∧ Lie W a l.length 3 (fun i j => grV (l.getD i g0) j) ∧ Cap a l.length cap ∧ ∀ g ∈ l, g.kind < 256 ∧ i64B g.min ∧ i64B g.yellow :=
  open_list g0 (e := 77) (K := 3) (by omega) grV (fun g => g.kind < 256 ∧ i64B g.min ∧ i64B g.yellow) Tryd.underlying28 (by kernel_rfl) (fun n cs x h => by
    obtain ⟨n, hl, hf⟩ := flds Tryd.underlying77 h
    have hC : Tryd.prog.cellsOf 77 = 3 := by kernel_rfl
    have kI : Tryd.prog.cellsOf 3 = 1 := by kernel_rfl
    have k8 : Tryd.prog.cellsOf 5 = 1 := by kernel_rfl
    rw [hC] at hl
    match cs, hl with
    | [c0, c1, c2], _ =>
      obtain ⟨y0, h0⟩ := hf 0 _ rfl
      obtain ⟨y1, h1⟩ := hf 1 _ rfl
      obtain ⟨y2, h2⟩ := hf 2 _ rfl
      simp [k8] at h0
      simp [kI] at h1 h2
      obtain ⟨z0, e0, w0⟩ := open_int1 Tryd.underlying5 h0
      obtain ⟨z1, e1, w1⟩ := open_int1 Tryd.underlying3 h1
      obtain ⟨z2, e2, w2⟩ := open_int1 Tryd.underlying3 h2
      obtain ⟨n0, rfl, b0⟩ := nat_u8 w0
      simp at e0 e1 e2
      subst e0 e1 e2
      refine ⟨⟨n0, z1, z2⟩, fun j hj => ?_, b0, i64_of w1, i64_of w2⟩
      match j, hj with
      | 0, _ => rfl
      | 1, _ => rfl
      | 2, _ => rfl) h
theorem open_apart {W : World} {fuel : Nat} {c : Value} {x : DataW H × List MemPlace} (h : Tr enc W fuel 29 [c] x) : ∃ (a : Option Addr) (cap : Nat) (l : List Nat), c = .slice a l.length cap ∧ Lie W a l.length 1 (fun i _ => .int .u32 ((l.getD i 0 : Nat) : Int)) ∧ Cap a l.length cap ∧ ∀ x ∈ l, x < 4294967296 :=
  open_list (0 : Nat) (e := 78) (K := 1) (by omega) (fun y _ => .int .u32 (y : Int)) (fun y => y < 4294967296) Tryd.underlying29 (by kernel_rfl) (fun n cs x h => by
    obtain ⟨z, rfl, hw⟩ := open_int1 Tryd.underlying78 h
    obtain ⟨n0, rfl, b0⟩ := nat_u32 hw
    exact ⟨n0, fun j hj => by rw [show j = 0 by omega]; rfl, b0⟩) h
set_option maxRecDepth 100000 in
theorem open_phases {W : World} {fuel : Nat} {c : Value} {x : DataW H × List MemPlace} (h : Tr enc W fuel 31 [c] x) : ∃ (a : Option Addr) (cap : Nat) (l : List Ph), c = .slice a l.length cap ∧ Lie W a l.length 5 (fun i j => phV (l.getD i p0) j) ∧ Cap a l.length cap ∧ ∀ p ∈ l, p.groups < 4294967296 ∧ i64B p.min ∧ i64B p.max ∧ i64B p.gap :=
  open_list p0 (e := 80) (K := 5) (by omega) phV (fun p => p.groups < 4294967296 ∧ i64B p.min ∧ i64B p.max ∧ i64B p.gap) Tryd.underlying31 (by kernel_rfl) (fun n cs x h => by
    obtain ⟨n, hl, hf⟩ := flds Tryd.underlying80 h
    have hC : Tryd.prog.cellsOf 80 = 5 := by kernel_rfl
    have kI : Tryd.prog.cellsOf 3 = 1 := by kernel_rfl
    have k3 : Tryd.prog.cellsOf 78 = 1 := by kernel_rfl
    have kb : Tryd.prog.cellsOf 4 = 1 := by kernel_rfl
    rw [hC] at hl
    match cs, hl with
    | [c0, c1, c2, c3, c4], _ =>
      obtain ⟨y0, h0⟩ := hf 0 _ rfl
      obtain ⟨y1, h1⟩ := hf 1 _ rfl
      obtain ⟨y2, h2⟩ := hf 2 _ rfl
      obtain ⟨y3, h3⟩ := hf 3 _ rfl
      obtain ⟨y4, h4⟩ := hf 4 _ rfl
      simp [k3] at h0
      simp [kI] at h1 h2 h3
      simp [kb] at h4
      obtain ⟨z0, e0, w0⟩ := open_int1 Tryd.underlying78 h0
      obtain ⟨z1, e1, w1⟩ := open_int1 Tryd.underlying3 h1
      obtain ⟨z2, e2, w2⟩ := open_int1 Tryd.underlying3 h2
      obtain ⟨z3, e3, w3⟩ := open_int1 Tryd.underlying3 h3
      obtain ⟨b4, e4, _⟩ := DataW.trod_bool Tryd.underlying4 h4
      obtain ⟨n0, rfl, b0⟩ := nat_u32 w0
      simp at e0 e1 e2 e3 e4
      subst e0 e1 e2 e3 e4
      refine ⟨⟨n0, z1, z2, z3, b4⟩, fun j hj => ?_, b0, i64_of w1, i64_of w2, i64_of w3⟩
      match j, hj with
      | 0, _ => rfl
      | 1, _ => rfl
      | 2, _ => rfl
      | 3, _ => rfl
      | 4, _ => rfl) h
set_option maxRecDepth 100000 in
theorem open_eyes {W : World} {fuel : Nat} {c : Value} {x : DataW H × List MemPlace} (h : Tr enc W fuel 32 [c] x) : ∃ (a : Option Addr) (cap : Nat) (l : List Ey), c = .slice a l.length cap ∧ Lie W a l.length 4 (fun i j => eyV (l.getD i e0) j) ∧ Cap a l.length cap ∧ ∀ e ∈ l, i64B e.phase ∧ i64B e.on ∧ i64B e.off ∧ i64B e.turns :=
  open_list e0 (e := 113) (K := 4) (by omega) eyV (fun e => i64B e.phase ∧ i64B e.on ∧ i64B e.off ∧ i64B e.turns) Tryd.underlying32 (by kernel_rfl) (fun n cs x h => by
    obtain ⟨n, hl, hf⟩ := flds Tryd.underlying113 h
    have hC : Tryd.prog.cellsOf 113 = 4 := by kernel_rfl
    have kI : Tryd.prog.cellsOf 3 = 1 := by kernel_rfl
    rw [hC] at hl
    match cs, hl with
    | [c0, c1, c2, c3], _ =>
      obtain ⟨y0, h0⟩ := hf 0 _ rfl
      obtain ⟨y1, h1⟩ := hf 1 _ rfl
      obtain ⟨y2, h2⟩ := hf 2 _ rfl
      obtain ⟨y3, h3⟩ := hf 3 _ rfl
      simp [kI] at h0 h1 h2 h3
      obtain ⟨z0, q0, w0⟩ := open_int1 Tryd.underlying3 h0
      obtain ⟨z1, q1, w1⟩ := open_int1 Tryd.underlying3 h1
      obtain ⟨z2, q2, w2⟩ := open_int1 Tryd.underlying3 h2
      obtain ⟨z3, q3, w3⟩ := open_int1 Tryd.underlying3 h3
      simp at q0 q1 q2 q3
      subst q0 q1 q2 q3
      refine ⟨⟨z0, z1, z2, z3⟩, fun j hj => ?_, i64_of w0, i64_of w1, i64_of w2, i64_of w3⟩
      match j, hj with
      | 0, _ => rfl
      | 1, _ => rfl
      | 2, _ => rfl
      | 3, _ => rfl) h
set_option maxRecDepth 100000 in
theorem open_site {W : World} {base : Nat} {v : Value} {d : DataW H} {p : List MemPlace} (hv : Value.okWide Tryd.prog W .any base 35 v) (h : DataW.Trod enc Tryd.prog W 0 (fun _ => true) true 35 v d p) : ∃ (X : Sa) (S : St), v = siteV X S ∧ Sat W X S := by
  obtain ⟨cs, rfl, hsz⟩ := okWide_struct Tryd.underlying35 hv
  have hC : Tryd.prog.cellsOf 35 = 12 := by kernel_rfl
  rw [hC] at hsz
  obtain ⟨l⟩ := cs
  have kI : Tryd.prog.cellsOf 3 = 1 := by kernel_rfl
  have k1 : Tryd.prog.cellsOf 28 = 1 := by kernel_rfl
  have k2 : Tryd.prog.cellsOf 29 = 1 := by kernel_rfl
  have k3 : Tryd.prog.cellsOf 30 = 1 := by kernel_rfl
  have k4 : Tryd.prog.cellsOf 31 = 1 := by kernel_rfl
  have k5 : Tryd.prog.cellsOf 32 = 1 := by kernel_rfl
  have k6 : Tryd.prog.cellsOf 33 = 1 := by kernel_rfl
  match l, hsz with
  | [c0, c1, c2, c3, c4, c5, c6, c7, c8, c9, c10, c11], _ =>
    obtain ⟨fuel, hf0⟩ := h
    simp [Value.cells] at hf0
    obtain ⟨n, hl, hf⟩ := flds Tryd.underlying35 hf0
    obtain ⟨y0, h0⟩ := hf 0 _ rfl
    obtain ⟨y1, h1⟩ := hf 1 _ rfl
    obtain ⟨y2, h2⟩ := hf 2 _ rfl
    obtain ⟨y3, h3⟩ := hf 3 _ rfl
    obtain ⟨y4, h4⟩ := hf 4 _ rfl
    obtain ⟨y5, h5⟩ := hf 5 _ rfl
    obtain ⟨y6, h6⟩ := hf 6 _ rfl
    obtain ⟨y7, h7⟩ := hf 7 _ rfl
    obtain ⟨y8, h8⟩ := hf 8 _ rfl
    obtain ⟨y9, h9⟩ := hf 9 _ rfl
    obtain ⟨y10, h10⟩ := hf 10 _ rfl
    obtain ⟨y11, h11⟩ := hf 11 _ rfl
    simp [kI] at h0 h6 h7 h8 h9 h10
    simp [k1] at h1
    simp [k2] at h2
    simp [k3] at h3
    simp [k4] at h4
    simp [k5] at h5
    simp [k6] at h11
    obtain ⟨z0, q0, w0⟩ := open_int1 Tryd.underlying3 h0
    obtain ⟨z6, q6, w6⟩ := open_int1 Tryd.underlying3 h6
    obtain ⟨z7, q7, w7⟩ := open_int1 Tryd.underlying3 h7
    obtain ⟨z8, q8, w8⟩ := open_int1 Tryd.underlying3 h8
    obtain ⟨z9, q9, w9⟩ := open_int1 Tryd.underlying3 h9
    obtain ⟨z10, q10, w10⟩ := open_int1 Tryd.underlying3 h10
    simp at q0 q6 q7 q8 q9 q10
    subst q0 q6 q7 q8 q9 q10
    obtain ⟨a1, u1, l1, rfl, i1, j1, r1⟩ := open_groups h1
    obtain ⟨a2, u2, l2, rfl, i2, j2, r2⟩ := open_apart h2
    obtain ⟨a3, u3, l3, rfl, i3⟩ := open_grid h3
    obtain ⟨a4, u4, l4, rfl, i4, j4, r4⟩ := open_phases h4
    obtain ⟨a5, u5, l5, rfl, i5, j5, r5⟩ := open_eyes h5
    obtain ⟨a6, u6, l6, rfl, i6⟩ := open_plansC h11
    exact ⟨⟨a1, u1, a2, u2, a3, u3, a4, u4, a5, u5, a6, u6⟩, ⟨z0, l1, l2, l3, l4, l5, z6, z7, z8, z9, z10, l6⟩, rfl, i1, i2, i3, i4, i5, i6, j1, j2, j4, j5, r1, r2, r4, r5, i64_of w0, i64_of w6, i64_of w7, i64_of w8, i64_of w9, i64_of w10⟩
set_option maxRecDepth 100000 in
theorem open_plan {W : World} {base : Nat} {v : Value} {d : DataW H} {p : List MemPlace} (hv : Value.okWide Tryd.prog W .any base 24 v) (h : DataW.Trod enc Tryd.prog W 0 (fun _ => true) true 24 v d p) : ∃ (P : Pl) (a : Option Addr) (c : Nat), v = planV P a c ∧ Ints W a P.splits.length c P.splits ∧ i64B P.cycle ∧ i64B P.offset := by
  obtain ⟨cs, rfl, hsz⟩ := okWide_struct Tryd.underlying24 hv
  have hC : Tryd.prog.cellsOf 24 = 3 := by kernel_rfl
  rw [hC] at hsz
  obtain ⟨l⟩ := cs
  match l, hsz with
  | [c0, c1, c2], _ =>
    obtain ⟨fuel, hf⟩ := h
    simp [Value.cells] at hf
    obtain ⟨⟨P, a, c⟩, hc, hI, h1, h2⟩ := open_plan1 hf
    have e0 := hc 0 (by omega)
    have e1 := hc 1 (by omega)
    have e2 := hc 2 (by omega)
    simp [plV] at e0 e1 e2
    subst e0 e1 e2
    exact ⟨P, a, c, rfl, hI, h1, h2⟩
end

end
end Go.Proofs.YtfhmfanmnhclfaaDoor
