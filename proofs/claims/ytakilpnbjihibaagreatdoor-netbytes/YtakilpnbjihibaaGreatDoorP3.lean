import Derived.Laws.AppendOwnNone
import Derived.Deep.Matrix
import Derived.Deep.Strs
import Derived.OpenShut
import Derived.ShutString
import Derived.Test.YtakilpnbjihibaaGreatDoorP2
import Derived.Maps.OwnSet
import Derived.Maps.OwnOps
import Derived.DeepKeys4
import Derived.MapViews
namespace Go.Proofs.YtakilpnbjihibaaGreatDoor
set_option linter.unusedVariables false
set_option linter.unusedSimpArgs false
set_option maxHeartbeats 1000000
set_option maxRecDepth 100000
section
open Go.RowKit Go.Lib Go.Deep
structure Mine (w : World) (base : Nat) (a : Option Addr) (n cap : Nat) (L : List Nat) : Prop where
 own : w.ownsRow base 5 1 (.slice a n cap) n (L.map byteV)
 nil : a = none -> n = 0 /\ cap = 0
 room : n <= cap
 max : cap <= 9223372036854775807
theorem mine_of {w : World} {base : Nat} {v : Value} {n : Nat} {L : List Nat} (h : w.ownsRow base 5 1 v n (L.map byteV)) : ∃ a cap, v = .slice a n cap /\ Mine w base a n cap L := by
 rcases id h.2 with ⟨rfl, rfl⟩ | ⟨g, cap, cur, rfl, _, _, hle, hm, _, _⟩
 . exact ⟨none, 0, rfl, h, fun _ => ⟨rfl, rfl⟩, Nat.le_refl _, by omega⟩
 . unfold maxLen at hm; exact ⟨some ⟨g, 0, none⟩, cap, rfl, h, fun e => (nomatch e), hle, by omega⟩
theorem Mine.by {w : World} {base : Nat} {a : Option Addr} {n cap : Nat} {L : List Nat} (h : Mine w base a n cap L) (hb : ∀ x ∈ L, x < 256) : By w a n L := by
 have hm := h.max; have hr := h.room; rcases id h.own.2 with ⟨e, rfl⟩ | ⟨g, cap', cur, e, _⟩
 . have hl : L = [] := List.length_eq_zero_iff.1 (by have := h.own.1; simpa using this); subst hl; exact By.nil _ _
 . injection e with e1 e2 e3; subst e1 e3; exact Own.by h.own (by omega) hb
theorem Mine.new {w : World} {base : Nat} {a : Option Addr} {n cap : Nat} {L : List Nat} (h : Mine w base a n cap L) : ∀ k, (Value.slice a n cap).ownBlock = some k -> base <= k := fun k hk => (h.own.lt k hk).1
theorem bytes_news {w : World} {b off m : Nat} {M : List Nat} (hl : M.length = m) (hc : ∀ i, i < m -> w.cell? ⟨b, off + i, none⟩ = some (.int .u8 ((M.getD i 0 : Nat) : Int))) :
 ∀ j u, (M.map byteV)[j]? = some u -> w.cell? ((⟨b, off, none⟩ : Addr).add j) = some u := by
 intro j u hu; have hj : j < M.length := by have := (List.getElem?_eq_some_iff.1 hu).1; simpa using this
 rw [Addr.add_lit, hc j (by omega), <- hu]; simp [hj]
theorem bytes_one (M : List Nat) : ∀ u ∈ M.map byteV, u.oneCell' = true := by
 intro u hu; simp only [List.mem_map] at hu; obtain ⟨x, _, rfl⟩ := hu; rfl
theorem wpList_join {ops : Array Oper} {rest : List Oper} {o : Oper} {act : Act} {Q : Exit -> Act -> World -> Prop} {w : World} (hgd : o.guard = none) (s x : Operand)
 (ho : o.op = .call { callee := .builtin .append, args := #[s, x], argTypes := #[27, 27] })
 (base : Nat) (v : Value) (n : Nat) (L : List Nat) (hs : act.eval s = v) (hown : w.ownsRow base 5 1 v n (L.map byteV))
 (a : Option Addr) (m c : Nat) (M : List Nat) (hx : act.eval x = .slice a m c) (hB : By w a m M) (ha : a = none -> c = 0)
 (hnm : n + m <= 70368744177664) (hbase : base <= w.heap.size)
 (h : ∀ a' cap w', Mine w' base a' (n + m) cap (L ++ M) -> w.grownBy w' v.ownBlock -> wpList Tryz.prog ops Q rest (act.put o.dst (.slice a' (n + m) cap)) w') : wpList Tryz.prog ops Q (o :: rest) act w := by
 obtain ⟨i0, hi0, hz0, hz1, hz2⟩ := info_parts Tryz.info5
 have key : ∀ v' w', w'.ownsRow base 5 1 v' (n + m) ((L ++ M).map byteV) -> w.grownBy w' v.ownBlock -> wpList Tryz.prog ops Q rest (act.put o.dst v') w' := by
  intro v' w' h1 h2; obtain ⟨a', cap, rfl, hm⟩ := mine_of h1; exact h a' cap w' hm h2
 cases a with
 | none =>
  have hm0 : m = 0 := by
   by_cases hm : 0 < m
   . obtain ⟨b, off, e, _⟩ := hB.at_ hm
     cases e
   . omega
  subst hm0; have hM : M = [] := List.length_eq_zero_iff.1 hB.size; subst hM; have hc := ha rfl; subst hc; refine wpList_append_own_none hgd s x 27 ho base 5 i0 1 Tryz.uB hi0 v n (L.map byteV) hs hown hx (key v w ?_ (World.grownBy.refl w _)); simpa using hown
 | some ad =>
  by_cases hm : 0 < m
  . obtain ⟨b, off, e, hb, hc⟩ := hB.at_ hm; injection e with e; subst e; refine wpList_append_own w hgd s x 27 ho base 5 i0 _ 1 1 Tryz.uB hi0 hz0 hz1 hz2 rfl (by omega) v n (L.map byteV) hs hown ⟨b, off, none⟩ m c (M.map byteV) hx (by simp [hB.size]) (bytes_news hB.size hc) (bytes_one M) (by unfold maxLen; omega) (by omega) hbase ?_; intro v' w' h1 h2 _; exact key v' w' (by rw [List.map_append]; exact h1) h2
  . have hm0 : m = 0 := by omega
    subst hm0; have hM : M = [] := List.length_eq_zero_iff.1 hB.size; subst hM; refine wpList_append_own w hgd s x 27 ho base 5 i0 _ 1 1 Tryz.uB hi0 hz0 hz1 hz2 rfl (by omega) v n (L.map byteV) hs hown ad 0 c [] hx (by simp) (fun j u hu => by simp at hu) (fun u hu => by cases hu) (by unfold maxLen; omega) (by omega) hbase ?_; intro v' w' h1 h2 _; exact key v' w' (by simpa using h1) h2
structure Come (w : World) (a : Option Addr) (len cap : Nat) (L : List Nat) : Prop where
 by_ : By w a len L
 nil : a = none -> cap = 0
 room : len <= cap
 max : cap <= 9223372036854775807
theorem come_of {w : World} {a : Option Addr} {len cap : Nat} {zs : List Int}
 (h : (a = none /\ len = 0 /\ cap = 0 /\ zs = []) \/ ∃ x, a = some x /\ len <= cap /\ cap <= maxLen /\ zs.length = cap /\ (∀ i, i < zs.length -> w.cell? (x.add i) = some (.int .u8 (zs.getD i 0))) /\ ∀ n ∈ zs, (Lit.int .u8 n).wf = true) :
 Come w a len cap ((zs.take len).map Int.toNat) := by
 have hb := by_of h; rcases h with ⟨rfl, rfl, rfl, rfl⟩ | ⟨x, rfl, hl, hm, hz, hcell, hwz⟩
 . exact ⟨hb, fun _ => rfl, Nat.le_refl _, by omega⟩
 . unfold maxLen at hm; exact ⟨hb, fun e => (nomatch e), hl, by omega⟩
end
section
open Go.ChangeShapes Go.WideShapes Go.ChangeAt Go.RowKit Go.Lib Go.Deep
theorem nat_u8 {z : Int} (h : (Lit.int .u8 z).wf = true) : ∃ n : Nat, z = (n : Int) /\ n < 256 := by
 have := bounds_u8 h; exact ⟨z.toNat, by omega, by omega⟩
theorem nat_u32 {z : Int} (h : (Lit.int .u32 z).wf = true) : ∃ n : Nat, z = (n : Int) /\ n < 4294967296 := by
 have := bounds_u32 h; exact ⟨z.toNat, by omega, by omega⟩
theorem i64_of {z : Int} (h : (Lit.int .i64 z).wf = true) : i64B z := by
 have := bounds_i64 h; unfold i64B; omega
theorem addr_plain {w : World} {a : Addr} {v : Value} (h : w.cell? a = some v) : ∃ b off, a = ⟨b, off, none⟩ := by
 obtain ⟨b, off, s⟩ := a
 cases s with
 | none => exact ⟨b, off, rfl⟩
 | some x =>
  simp [World.cell?] at h; split at h <;> simp at h
theorem add_add (a : Addr) (i j : Nat) : (a.add i).add j = a.add (i + j) := by
 unfold Addr.add; by_cases h3 : i = 0
 . simp [h3]
 . by_cases hj : j = 0
   . simp [hj, h3]
   . simp [h3, hj, Nat.add_assoc]
section
variable {H : Type} {enc : TypeId × Value -> H}
abbrev Tr (enc : TypeId × Value -> H) (W : World) (n : Nat) (t : TypeId) (cs : List Value) (x : DataW H × List MemPlace) : Prop := DataW.trod enc Tryz.prog W 0 (fun _ => true) true n t cs = some x
theorem flds {W : World} {fuel : Nat} {t : TypeId} {fs : Array Field} {cs : List Value} {x : DataW H × List MemPlace} (ht : Tryz.prog.underlying t = some (.struct fs)) (h : Tr enc W fuel t cs x) : ∃ n, cs.length = Tryz.prog.cellsOf t /\ ∀ (i : Nat) (f : Field), fs[i]? = some f -> ∃ y, Tr enc W n f.type ((cs.drop f.offset).take (Tryz.prog.cellsOf f.type)) y := by
 obtain ⟨xs, n, _, _, hl, hlen, hf⟩ := DataW.trod_struct ht h; refine ⟨n, hl, fun i f hi => ?_⟩; have hi' : i < fs.size := (Array.getElem?_eq_some_iff.1 hi).1; exact ⟨xs[i]'(by omega), (hf i f hi).trans (List.getElem?_eq_getElem (by omega))⟩
theorem open_list {α : Type} (d : α) {W : World} {fuel : Nat} {t e : TypeId} {K : Nat} {c : Value} {x : DataW H × List MemPlace} (hK : 0 < K) (f : α -> Nat -> Value) (Ok : α -> Prop) (ht : Tryz.prog.underlying t = some (.slice e)) (hc : Tryz.prog.cellsOf e = K)
 (hel : ∀ n cs x, Tr enc W n e cs x -> ∃ y : α, (∀ j, j < K -> cs[j]? = some (f y j)) /\ Ok y) (h : Tr enc W fuel t [c] x) :
 ∃ (a : Option Addr) (cap : Nat) (l : List α), c = .slice a l.length cap /\ Lie W a l.length K (fun i j => f (l.getD i d) j) /\ Cap a l.length cap /\ ∀ y ∈ l, Ok y := by
 rcases open_slice ht h with ⟨hcs, _⟩ | ⟨a', len', cap', m, n, D, Pl, hcs, _, hl, hm, hmm, _, hx⟩
 . simp at hcs; subst hcs; exact ⟨none, 0, [], rfl, ⟨fun h => absurd h (by simp)⟩, ⟨fun _ => ⟨rfl, rfl⟩, Nat.le_refl _, by omega⟩, by simp⟩
 . simp at hcs; subst hcs; rw [hc] at hx; have hmm : m = cap' := by simpa using hmm
   subst hmm; unfold maxLen at hm
   have each : ∀ i, ∃ y : α, i < len' -> (∀ j, j < K -> W.cell? (a'.add (i * K + j)) = some (f y j)) /\ Ok y := by
    intro i; by_cases hi : i < len'
    . obtain ⟨cs', h1, h2⟩ := hx i (by omega); obtain ⟨_, hlen, hcell⟩ := World.cells?_some h1; obtain ⟨y, hy, ho⟩ := hel _ _ _ h2; refine ⟨y, fun _ => ⟨fun j hj => ?_, ho⟩⟩; have q := hcell j (by omega); rw [add_add] at q; rw [q]; exact hy j hj
    . exact ⟨d, fun h => absurd h hi⟩
   have hcc := fun i => Classical.choose_spec (each i)
   obtain ⟨F, hcc⟩ : ∃ F : Nat -> α, ∀ i, i < len' -> (∀ j, j < K -> W.cell? (a'.add (i * K + j)) = some (f (F i) j)) /\ Ok (F i) := ⟨fun i => Classical.choose (each i), hcc⟩
   refine ⟨some a', m, (List.range len').map F, by simp, ⟨fun hp => ?_⟩, ⟨fun e => (nomatch e), by simpa using hl, by omega⟩, fun y hy => ?_⟩
   . have hp' : 0 < len' := by simpa using hp
     have q0 := (hcc 0 hp').1 0 hK; rw [show a'.add (0 * K + 0) = a' by simp [Addr.add]] at q0; obtain ⟨b, off, rfl⟩ := addr_plain q0; refine ⟨b, off, rfl, block_lt q0, fun i hi j hj => ?_⟩; have hi' : i < len' := by simpa using hi
     have q := (hcc i hi').1 j hj; rw [Addr.add_lit, <- Nat.add_assoc] at q; rw [q]; simp [hi']
   . simp only [List.mem_map, List.mem_range] at hy; obtain ⟨i, hi, rfl⟩ := hy; exact (hcc i hi).2
theorem open_int1 {W : World} {n : Nat} {t : TypeId} {k : IntKind} {cs : List Value} {x : DataW H × List MemPlace} (ht : Tryz.prog.underlying t = some (.int k)) (h : Tr enc W n t cs x) : ∃ z, cs = [.int k z] /\ (Lit.int k z).wf = true := by
 obtain ⟨z, e, _, hw⟩ := DataW.trod_int ht h; exact ⟨z, e, hw⟩
theorem open_nums {W : World} {fuel : Nat} {c : Value} {x : DataW H × List MemPlace} (h : Tr enc W fuel 50 [c] x) : ∃ (a : Option Addr) (cap : Nat) (l : List Int), c = .slice a l.length cap /\ Ints W a l.length cap l := by
 obtain ⟨a, cap, l, rfl, h1, h2, h3⟩ := open_list (0 : Int) (e := 3) (K := 1) (by omega) (fun z _ => .int .i64 z) (fun z => i64B z) Tryz.underlying50 (by kernel_rfl) (fun n cs x h => by
  obtain ⟨z, rfl, hw⟩ := open_int1 Tryz.underlying3 h; exact ⟨z, fun j hj => by rw [show j = 0 by omega]; rfl, i64_of hw⟩) h
 exact ⟨a, cap, l, rfl, h1, rfl, h2, h3⟩
theorem open_plan1 {W : World} {n : Nat} {cs : List Value} {x : DataW H × List MemPlace} (h : Tr enc W n 79 cs x) : ∃ y : Pl × Option Addr × Nat, (∀ j, j < 3 -> cs[j]? = some (plV y.1 y.2.1 y.2.2 j)) /\ Ints W y.2.1 y.1.splits.length y.2.2 y.1.splits /\ i64B y.1.cycle /\ i64B y.1.offset := by
 obtain ⟨n, hl, hf⟩ := flds Tryz.underlying79 h; have hC : Tryz.prog.cellsOf 79 = 3 := by kernel_rfl
 have kI : Tryz.prog.cellsOf 3 = 1 := by kernel_rfl
 have kL : Tryz.prog.cellsOf 50 = 1 := by kernel_rfl
 rw [hC] at hl
 match cs, hl with
 | [c0, c1, c2], _ =>
  obtain ⟨y0, h0⟩ := hf 0 _ rfl; obtain ⟨y1, h1⟩ := hf 1 _ rfl; obtain ⟨y2, h2⟩ := hf 2 _ rfl; simp [kI] at h0 h1; simp [kL] at h2; obtain ⟨z0, e0, w0⟩ := open_int1 Tryz.underlying3 h0; obtain ⟨z1, e1, w1⟩ := open_int1 Tryz.underlying3 h1; obtain ⟨a, cap, l, rfl, hI⟩ := open_nums h2; simp at e0 e1; subst e0 e1; refine ⟨(⟨z0, z1, l⟩, a, cap), fun j hj => ?_, hI, i64_of w0, i64_of w1⟩
  match j, hj with
  | 0, _ => rfl
  | 1, _ => rfl
  | 2, _ => rfl
theorem open_plansC {W : World} {fuel : Nat} {c : Value} {x : DataW H × List MemPlace} (h : Tr enc W fuel 47 [c] x) : ∃ (a : Option Addr) (cap : Nat) (l : List Pl), c = .slice a l.length cap /\ Plans W a l.length cap l := by
 obtain ⟨a, cap, l, rfl, h1, h2, h3⟩ := open_list ((q0, none, 0) : Pl × Option Addr × Nat) (e := 79) (K := 3) (by omega) (fun y j => plV y.1 y.2.1 y.2.2 j) (fun y => Ints W y.2.1 y.1.splits.length y.2.2 y.1.splits /\ i64B y.1.cycle /\ i64B y.1.offset) Tryz.underlying47 (by kernel_rfl) (fun n cs x h => open_plan1 h) h; refine ⟨a, cap, l.map Prod.fst, by simp, ⟨⟨fun i => (l.getD i (q0, none, 0)).2, ?_, ?_⟩, by simp, by simpa using h2, ?_⟩⟩
 . rw [List.length_map]; refine h1.congr (fun i hi j hj => ?_); simp [hi]
 . intro i hi; rw [List.length_map] at hi; have := (h3 (l[i]) (List.getElem_mem _)).1; simpa [hi] using this
 . intro p hp; simp only [List.mem_map] at hp; obtain ⟨y, hy, rfl⟩ := hp; exact (h3 y hy).2
theorem open_grid {W : World} {fuel : Nat} {c : Value} {x : DataW H × List MemPlace} (h : Tr enc W fuel 44 [c] x) : ∃ (a : Option Addr) (cap : Nat) (l : List (List Int)), c = .slice a l.length cap /\ Grid W a l.length cap l := by
 obtain ⟨a, cap, l, rfl, h1, h2, h3⟩ := open_list (([], none, 0) : List Int × Option Addr × Nat) (e := 50) (K := 1) (by omega) (fun y _ => .slice y.2.1 y.1.length y.2.2) (fun y => Ints W y.2.1 y.1.length y.2.2 y.1) Tryz.underlying44 (by kernel_rfl) (fun n cs x h => by
  obtain ⟨a, len, cap', e⟩ : ∃ a len cap', cs = [.slice a len cap'] := by
   rcases open_slice Tryz.underlying50 h with ⟨hcs, _⟩ | ⟨a', len', cap', m, n, D, Pl, hcs, _⟩
   . exact ⟨_, _, _, hcs⟩
   . exact ⟨_, _, _, hcs⟩
  subst e; obtain ⟨a2, c2, l2, e2, hI⟩ := open_nums h; rw [e2]; exact ⟨(l2, a2, c2), fun j hj => by rw [show j = 0 by omega]; rfl, hI⟩) h
 refine ⟨a, cap, l.map Prod.fst, by simp, ⟨⟨fun i => (l.getD i ([], none, 0)).2, ?_, ?_⟩, by simp, by simpa using h2⟩⟩
 . rw [List.length_map]; refine h1.congr (fun i hi j hj => ?_); simp [hi]
 . intro i hi; rw [List.length_map] at hi; have := h3 (l[i]) (List.getElem_mem _); simpa [hi] using this
theorem open_groups {W : World} {fuel : Nat} {c : Value} {x : DataW H × List MemPlace} (h : Tr enc W fuel 42 [c] x) : ∃ (a : Option Addr) (cap : Nat) (l : List Gr), c = .slice a l.length cap /\ Lie W a l.length 3 (fun i j => grV (l.getD i g0) j) /\ Cap a l.length cap /\ ∀ g ∈ l, g.kind < 256 /\ i64B g.min /\ i64B g.yellow :=
 open_list g0 (e := 108) (K := 3) (by omega) grV (fun g => g.kind < 256 /\ i64B g.min /\ i64B g.yellow) Tryz.underlying42 (by kernel_rfl) (fun n cs x h => by
  obtain ⟨n, hl, hf⟩ := flds Tryz.underlying108 h; have hC : Tryz.prog.cellsOf 108 = 3 := by kernel_rfl
  have kI : Tryz.prog.cellsOf 3 = 1 := by kernel_rfl
  have k8 : Tryz.prog.cellsOf 5 = 1 := by kernel_rfl
  rw [hC] at hl
  match cs, hl with
  | [c0, c1, c2], _ =>
   obtain ⟨y0, h0⟩ := hf 0 _ rfl; obtain ⟨y1, h1⟩ := hf 1 _ rfl; obtain ⟨y2, h2⟩ := hf 2 _ rfl; simp [k8] at h0; simp [kI] at h1 h2; obtain ⟨z0, e0, w0⟩ := open_int1 Tryz.underlying5 h0; obtain ⟨z1, e1, w1⟩ := open_int1 Tryz.underlying3 h1; obtain ⟨z2, e2, w2⟩ := open_int1 Tryz.underlying3 h2; obtain ⟨n0, rfl, b0⟩ := nat_u8 w0; simp at e0 e1 e2; subst e0 e1 e2; refine ⟨⟨n0, z1, z2⟩, fun j hj => ?_, b0, i64_of w1, i64_of w2⟩
   match j, hj with
   | 0, _ => rfl
   | 1, _ => rfl
   | 2, _ => rfl) h
theorem open_apart {W : World} {fuel : Nat} {c : Value} {x : DataW H × List MemPlace} (h : Tr enc W fuel 43 [c] x) : ∃ (a : Option Addr) (cap : Nat) (l : List Nat), c = .slice a l.length cap /\ Lie W a l.length 1 (fun i _ => .int .u32 ((l.getD i 0 : Nat) : Int)) /\ Cap a l.length cap /\ ∀ x ∈ l, x < 4294967296 :=
 open_list (0 : Nat) (e := 91) (K := 1) (by omega) (fun y _ => .int .u32 (y : Int)) (fun y => y < 4294967296) Tryz.underlying43 (by kernel_rfl) (fun n cs x h => by
  obtain ⟨z, rfl, hw⟩ := open_int1 Tryz.underlying91 h; obtain ⟨n0, rfl, b0⟩ := nat_u32 hw; exact ⟨n0, fun j hj => by rw [show j = 0 by omega]; rfl, b0⟩) h
theorem open_phases {W : World} {fuel : Nat} {c : Value} {x : DataW H × List MemPlace} (h : Tr enc W fuel 45 [c] x) : ∃ (a : Option Addr) (cap : Nat) (l : List Ph), c = .slice a l.length cap /\ Lie W a l.length 5 (fun i j => phV (l.getD i p0) j) /\ Cap a l.length cap /\ ∀ p ∈ l, p.groups < 4294967296 /\ i64B p.min /\ i64B p.max /\ i64B p.gap :=
 open_list p0 (e := 110) (K := 5) (by omega) phV (fun p => p.groups < 4294967296 /\ i64B p.min /\ i64B p.max /\ i64B p.gap) Tryz.underlying45 (by kernel_rfl) (fun n cs x h => by
  obtain ⟨n, hl, hf⟩ := flds Tryz.underlying110 h; have hC : Tryz.prog.cellsOf 110 = 5 := by kernel_rfl
  have kI : Tryz.prog.cellsOf 3 = 1 := by kernel_rfl
  have k3 : Tryz.prog.cellsOf 91 = 1 := by kernel_rfl
  have kb : Tryz.prog.cellsOf 4 = 1 := by kernel_rfl
  rw [hC] at hl
  match cs, hl with
  | [c0, c1, c2, c3, c4], _ =>
   obtain ⟨y0, h0⟩ := hf 0 _ rfl; obtain ⟨y1, h1⟩ := hf 1 _ rfl; obtain ⟨y2, h2⟩ := hf 2 _ rfl; obtain ⟨y3, h3⟩ := hf 3 _ rfl; obtain ⟨y4, h4⟩ := hf 4 _ rfl; simp [k3] at h0; simp [kI] at h1 h2 h3; simp [kb] at h4; obtain ⟨z0, e0, w0⟩ := open_int1 Tryz.underlying91 h0; obtain ⟨z1, e1, w1⟩ := open_int1 Tryz.underlying3 h1; obtain ⟨z2, e2, w2⟩ := open_int1 Tryz.underlying3 h2; obtain ⟨z3, e3, w3⟩ := open_int1 Tryz.underlying3 h3; obtain ⟨b4, e4, _⟩ := DataW.trod_bool Tryz.underlying4 h4; obtain ⟨n0, rfl, b0⟩ := nat_u32 w0; simp at e0 e1 e2 e3 e4; subst e0 e1 e2 e3 e4; refine ⟨⟨n0, z1, z2, z3, b4⟩, fun j hj => ?_, b0, i64_of w1, i64_of w2, i64_of w3⟩
   match j, hj with
   | 0, _ => rfl
   | 1, _ => rfl
   | 2, _ => rfl
   | 3, _ => rfl
   | 4, _ => rfl) h
theorem open_eyes {W : World} {fuel : Nat} {c : Value} {x : DataW H × List MemPlace} (h : Tr enc W fuel 46 [c] x) : ∃ (a : Option Addr) (cap : Nat) (l : List Ey), c = .slice a l.length cap /\ Lie W a l.length 4 (fun i j => eyV (l.getD i e0) j) /\ Cap a l.length cap /\ ∀ e ∈ l, i64B e.phase /\ i64B e.on /\ i64B e.off /\ i64B e.turns :=
 open_list e0 (e := 112) (K := 4) (by omega) eyV (fun e => i64B e.phase /\ i64B e.on /\ i64B e.off /\ i64B e.turns) Tryz.underlying46 (by kernel_rfl) (fun n cs x h => by
  obtain ⟨n, hl, hf⟩ := flds Tryz.underlying112 h; have hC : Tryz.prog.cellsOf 112 = 4 := by kernel_rfl
  have kI : Tryz.prog.cellsOf 3 = 1 := by kernel_rfl
  rw [hC] at hl
  match cs, hl with
  | [c0, c1, c2, c3], _ =>
   obtain ⟨y0, h0⟩ := hf 0 _ rfl; obtain ⟨y1, h1⟩ := hf 1 _ rfl; obtain ⟨y2, h2⟩ := hf 2 _ rfl; obtain ⟨y3, h3⟩ := hf 3 _ rfl; simp [kI] at h0 h1 h2 h3; obtain ⟨z0, q0, w0⟩ := open_int1 Tryz.underlying3 h0; obtain ⟨z1, q1, w1⟩ := open_int1 Tryz.underlying3 h1; obtain ⟨z2, q2, w2⟩ := open_int1 Tryz.underlying3 h2; obtain ⟨z3, q3, w3⟩ := open_int1 Tryz.underlying3 h3; simp at q0 q1 q2 q3; subst q0 q1 q2 q3; refine ⟨⟨z0, z1, z2, z3⟩, fun j hj => ?_, i64_of w0, i64_of w1, i64_of w2, i64_of w3⟩
   match j, hj with
   | 0, _ => rfl
   | 1, _ => rfl
   | 2, _ => rfl
   | 3, _ => rfl) h
theorem come_trod {W : World} {fuel : Nat} {c : Value} {x : DataW H × List MemPlace} (h : DataW.trod enc Tryz.prog W 0 (fun _ => true) true fuel 27 [c] = some x) : ∃ a len cap L, c = .slice a len cap /\ L.length = len /\ Come W a len cap L := by
 rcases open_ints Tryz.underlying27 Tryz.underlying5 (by kernel_rfl) h with ⟨hcs, _⟩ | ⟨x, l, c', zs, hcs, _, hl, hm, hz, _, hcell, hwz⟩
 . have e : c = .slice none 0 0 := by simpa using hcs
   exact ⟨none, 0, 0, [], e, rfl, By.nil _ _, fun _ => rfl, Nat.le_refl _, by omega⟩
 . have e : c = .slice (some x) l c' := by simpa using hcs
   have hC := come_of (w := W) (a := some x) (len := l) (cap := c') (zs := zs) (.inr ⟨x, rfl, hl, hm, by simpa using hz, hcell, hwz⟩); exact ⟨some x, l, c', _, e, hC.by_.size, hC⟩
end
end
section
open Go.RowKit Go.Lib Go.Deep Go.Maps Go.WideMaps
theorem Tryz.laidOut : laidOutB Tryz.prog = true := by kernel_rfl
theorem Tryz.rowMk : (130 : TypeId) < Tryz.prog.types.size := of_decide_eq_true (by kernel_rfl)
theorem Tryz.uMk : Tryz.prog.underlying 130 = some (.array 3 3) := by kernel_rfl
theorem Tryz.uMi : Tryz.prog.underlying 3 = some (.int .i64) := by kernel_rfl
theorem Tryz.uMks : Tryz.prog.underlying 82 = some (.map 130 3) := by kernel_rfl
theorem Tryz.wideMk : (match Tryz.prog.underlying 130 with | some (.array _ _) | some (.struct _) => true | _ => false) = true := by kernel_rfl
theorem Tryz.lawMk : Keyed Tryz.prog 130 := Keyed.of_law (deep_law_laid Tryz.laidOut (m := 2) (by omega) Tryz.rowMk (by kernel_rfl) Tryz.wideMk)
theorem Tryz.zeroMi (w : World) : (zeroValue 3).run Tryz.prog w = .ok (.int .i64 0) w := by kernel_rfl
theorem Tryz.keyMk : Tryz.prog.keyType 130 = true := by kernel_rfl
theorem Tryz.cellsMk : Tryz.prog.cellsOf 130 = 3 := by kernel_rfl
theorem Tryz.cellsMi : Tryz.prog.cellsOf 3 = 1 := by kernel_rfl
abbrev Mk := Int × Int × Int
def mkV (k : Mk) : Value := .agg #[.int .i64 k.1, .int .i64 k.2.1, .int .i64 k.2.2]
def mkL (k : Mk) : Lit := .string (keyBytes [.int .i64 k.1, .int .i64 k.2.1, .int .i64 k.2.2])
def mkR (k : Mk) : Prop := i64B k.1 /\ i64B k.2.1 /\ i64B k.2.2
theorem wf_of {x : Int} (h : i64B x) : (Lit.int .i64 x).wf = true := by
 unfold i64B at h; exact WalkArith.wf_i64 (by omega)
theorem mk_key {k : Mk} (h : mkR k) : keyOf Tryz.prog 130 (mkV k) = some (mkL k) := by
 obtain ⟨a, b, c⟩ := k; have h1 := wf_of h.1; have h2 := wf_of h.2.1; have h3 := wf_of h.2.2; unfold keyOf; rw [Tryz.uMk]; have hf : (mkV (a, b, c)).formed Tryz.prog 130 = true := by simp [mkV, Value.formed, Tryz.uMk, Tryz.cellsMk]
 simp only [Tryz.keyMk, hf, Bool.and_self, if_true]; have hpos : 0 < Tryz.prog.types.size := Nat.lt_of_le_of_lt (Nat.zero_le _) Tryz.rowMk; generalize Tryz.prog.types.size = N at hpos ⊢; obtain ⟨N, rfl⟩ : ∃ n, N = n + 1 := ⟨N - 1, by omega⟩
 have hk : Tryz.prog.keyLits (N + 1 + 1) 130 (mkV (a, b, c)).cells.toList = some [.int .i64 a, .int .i64 b, .int .i64 c] := by
  have h4 : ∀ x : Int, (Lit.int .i64 x).wf = true -> Tryz.prog.keyLits (N + 1) 3 [.int .i64 x] = some [.int .i64 x] := fun x hx => by
   unfold Program.keyLits; rw [Tryz.uMi]; simp [hx]
  unfold Program.keyLits; rw [Tryz.uMk]; simp only [Tryz.cellsMk, Tryz.cellsMi]; have e : (mkV (a, b, c)).cells.toList = [.int .i64 a, .int .i64 b, .int .i64 c] := rfl; rw [e]; simp [List.range, List.range.loop, List.mapM_cons, h4 a h1, h4 b h2, h4 c h3]
 rw [hk]; rfl
theorem mkV_inj {k m : Mk} (h : mkV k = mkV m) : k = m := by
 obtain ⟨a, b, c⟩ := k; obtain ⟨x, y, z⟩ := m; simp only [mkV, Value.agg.injEq, Array.mk.injEq, List.cons.injEq, Value.int.injEq, true_and, and_true] at h; obtain ⟨rfl, rfl, rfl⟩ := h; rfl
theorem mkL_inj {k m : Mk} (hk : mkR k) (hm : mkR m) (h : mkL k = mkL m) : k = m := mkV_inj (Tryz.lawMk.inj (mk_key hk) ((mk_key hm).trans (by rw [h])))
def mkD : List (Mk × Int) -> DataW Unit
 | [] => .map []
 | x :: M => (mkD M).put (mkL x.1) (.lit (.int .i64 x.2))
def mkF (M : List (Mk × Int)) (k : Mk) : Option Int := (M.find? (fun x => x.1 == k)).map (·.2)
theorem mkF_same (k : Mk) (v : Int) (M : List (Mk × Int)) : mkF ((k, v) :: M) k = some v := by simp [mkF]
theorem mkF_other {k m : Mk} (v : Int) (M : List (Mk × Int)) (h : m ≠ k) : mkF ((k, v) :: M) m = mkF M m := by
 have : ((k == m) : Bool) = false := beq_eq_false_iff_ne.2 (fun e => h e.symm); simp [mkF, List.find?_cons, this]
theorem mkD_map : ∀ M, IsMap (mkD M)
 | [] => isMap_empty
 | x :: M => (mkD_map M).put _ _
def mkAll (M : List (Mk × Int)) : Prop := ∀ x ∈ M, mkR x.1 /\ i64B x.2
theorem mkD_has : ∀ (M : List (Mk × Int)), mkAll M -> ∀ k, mkR k -> Maps.has (mkD M) (mkL k) = (mkF M k).isSome
 | [], _, k, _ => rfl
 | x :: M, hM, k, hk => by
  obtain ⟨m, v⟩ := x; have hm := (hM (m, v) (List.mem_cons_self ..)).1; have ih := mkD_has M (fun y hy => hM y (List.mem_cons_of_mem _ hy)) k hk; by_cases e : k = m
  . subst e; rw [mkF_same]; exact has_put_same (mkD_map M) (Tryz.lawMk.key (mk_key hk)) _
  . rw [mkF_other v M e, <- ih]; exact has_put_other (fun h => e (mkL_inj hk hm h)) _
theorem mkD_at : ∀ (M : List (Mk × Int)), mkAll M -> ∀ k, mkR k -> ∀ v, mkF M k = some v -> ∀ z, (mkD M).atKey (mkL k) z = .lit (.int .i64 v)
 | [], _, k, _, v, h, _ => by cases h
 | x :: M, hM, k, hk, v, h, z => by
  obtain ⟨m, u⟩ := x; have hm := (hM (m, u) (List.mem_cons_self ..)).1; by_cases e : k = m
  . subst e; rw [mkF_same] at h; injection h with h; subst h; exact atKey_put_same (mkD_map M) (Tryz.lawMk.key (mk_key hk)) _ _
  . rw [mkF_other u M e] at h; rw [<- mkD_at M (fun y hy => hM y (List.mem_cons_of_mem _ hy)) k hk v h z]; exact atKey_put_other (fun h => e (mkL_inj hk hm h)) _ _
structure Marks (w : World) (B : Nat) (M : List (Mk × Int)) : Prop where
 own : w.ownsMap Tryz.prog 130 (plainElem Tryz.prog 3) B M.length (mkD M)
 all : mkAll M
theorem kept_any {w w' : World} {r : Option Nat} (h : Kept w w' none) : Kept w w' r := ⟨h.os, h.tape, h.output, h.size, fun k hk _ => h.block k hk (by simp)⟩
theorem Marks.kept {w w' : World} {B : Nat} {M : List (Mk × Int)} {r : Option Nat} (h : Marks w B M) (q : Kept w w' r) (hr : some B ≠ r) : Marks w' B M := ⟨h.own.kept q hr, h.all⟩
theorem Marks.lt {w : World} {B : Nat} {M : List (Mk × Int)} (h : Marks w B M) : B < w.heap.size := h.own.lt
theorem Marks.made (w : World) : Marks (w.alloc (.map #[] 0)) w.heap.size [] := ⟨World.ownsMap_made _ _ _ _, fun x hx => nomatch hx⟩
theorem isFirst_old {w : World} {B : Nat} {M : List (Mk × Int)} (h : Marks w B M) {a b c : Int} (hk : mkR (a, b, c)) (place v : Int) (hf : mkF M (a, b, c) = some v) : Calls Tryz.prog 81 #[.map (some B), .agg #[.int .i64 a, .int .i64 b, .int .i64 c], .int .i64 place] w fun e w' => e = .returned (.bool false) /\ Kept w w' none := by
 have hh : Maps.has (mkD M) (mkL (a, b, c)) = true := by rw [mkD_has M h.all _ hk, hf]; rfl
 have hk1 : Kept w (w.alloc (.cells #[.int .i64 a, .int .i64 b, .int .i64 c] 130)) none := Kept.alloc _ _ _ _ _; have HM := Hid.mk' (h.kept hk1 (by simp)); have HK := Hid.mk' hk1; have HKY := Hid.mk' (mk_key hk); clear h hk1; go_enter Tryz.func81, Tryz.ntmps81; go_wp2_with (at_lookup; refine wpList_lookup_own_ok_int _ rfl _ _ 82 rfl 130 3 .i64 Tryz.lawMk Tryz.uMks Tryz.uMi (Tryz.zeroMi _) B _ _ rfl HM.out.own _ _ rfl HKY.out ?_; intro x hat hwc; rw [hh]); go_ret; exact ⟨rfl, HK.out⟩
theorem isFirst_new {w : World} {B : Nat} {M : List (Mk × Int)} (h : Marks w B M) {a b c : Int} (hk : mkR (a, b, c)) (place : Int) (hp : i64B place) (hn : M.length <= 1000) (hf : mkF M (a, b, c) = none) : Calls Tryz.prog 81 #[.map (some B), .agg #[.int .i64 a, .int .i64 b, .int .i64 c], .int .i64 place] w fun e w' => e = .returned (.bool true) /\ Marks w' B (((a, b, c), place) :: M) /\ Kept w w' (some B) := by
 have hh : Maps.has (mkD M) (mkL (a, b, c)) = false := by rw [mkD_has M h.all _ hk, hf]; rfl
 have hk1 : Kept w (w.alloc (.cells #[.int .i64 a, .int .i64 b, .int .i64 c] 130)) none := Kept.alloc _ _ _ _ _; have HM := Hid.mk' (h.kept hk1 (by simp)); have HK := Hid.mk' hk1; have HKY := Hid.mk' (mk_key hk)
 have HA : Hid (mkAll (((a, b, c), place) :: M)) := fun x hx => by
  rcases List.mem_cons.1 hx with rfl | hx
  . exact ⟨hk, hp⟩
  . exact h.all x hx
 have HV : Hid (plainElem (H := Unit) Tryz.prog 3 (.int .i64 place) = some (.lit (.int .i64 place), [])) := plainElem_int Tryz.uMi (wf_of hp); clear h hk1; go_enter Tryz.func81, Tryz.ntmps81
 go_wp2_with (first
  | (at_lookup; refine wpList_lookup_own_ok_int _ rfl _ _ 82 rfl 130 3 .i64 Tryz.lawMk Tryz.uMks Tryz.uMi (Tryz.zeroMi _) B _ _ rfl HM.out.own _ _ rfl HKY.out ?_; intro x hat hwc; rw [hh])
  | (at_mapUpdate; refine wpList_mapUpdate_in _ rfl _ _ _ 82 rfl 130 3 Tryz.lawMk Tryz.uMks _ B _ _ rfl HM.out.own (by unfold maxLen; omega) _ _ _ rfl rfl HKY.out _ [] HV.out ?_; intro w1 hown1 hturn1))
 go_ret; exact ⟨rfl, ⟨hown1, HA.out⟩, (kept_any HK.out).tr hturn1.grown⟩
end
section
open Go.RowKit Go.Lib Go.Deep
structure Sb where
 sites : List Int
 critical : Int
structure Wd where
 a : Int
 b : Int
 votes : Int
 offsets : List Int
structure Nt where
 sites : List St
 subs : List Sb
 weds : List Wd
 low : Int
 high : Int
 step : Int
def s0 : St := ⟨0, [], [], [], [], [], 0, 0, 0, 0, 0, []⟩
def u0 : Sb := ⟨[], 0⟩
def d0 : Wd := ⟨0, 0, 0, []⟩
abbrev Ms := List (Mk × Int)
def ncountsB (N : Nt) : Bool := inB N.sites.length 1 12 && inB N.subs.length 1 6 && decide (N.weds.length <= 8)
def putF (M : Ms) (k : Mk) (place : Int) : Option Ms := match mkF M k with
 | some _ => none
 | none => some ((k, place) :: M)
def sitesF (N : Nt) : Nat -> Option Ms
 | 0 => some []
 | k + 1 => match sitesF N k with
  | none => none
  | some M => if siteB (N.sites.getD k s0) = true then putF M (0, (N.sites.getD k s0).id, 0) k else none
def takeF (N : Nt) (place : Nat) (l : List Int) (M : Ms) : Nat -> Option Ms
 | 0 => some M
 | k + 1 => match takeF N place l M k with
  | none => none
  | some M' => if inB (l.getD k 0) 0 ((N.sites.length : Int) - 1) = true then putF M' (1, l.getD k 0, 0) place else none
def subsF (N : Nt) (M : Ms) : Nat -> Option Ms
 | 0 => some M
 | k + 1 => match subsF N M k with
  | none => none
  | some M' => match takeF N k (N.subs.getD k u0).sites M' (N.subs.getD k u0).sites.length with
   | none => none
   | some M'' => if mkF M'' (1, (N.subs.getD k u0).critical, 0) = some (k : Int) then some M'' else none
def placedB (N : Nt) (M : Ms) : Bool := allB N.sites.length (fun i => (mkF M (1, (i : Int), 0)).isSome)
def ncyclesB (N : Nt) : Bool := timeB N.low && inB N.high N.low 1048576 && timeB N.step && decide ((N.high - N.low) % N.step = 0) && decide ((N.high - N.low) / N.step <= 64) && allB N.sites.length (fun i => decide ((N.sites.getD i s0).low <= N.low) && decide (N.high <= (N.sites.getD i s0).high))
def offsetsB (N : Nt) (l : List Int) : Bool := inB l.length 1 8 && allB l.length (fun i => inB (l.getD i 0) 0 (N.low - 1))
def wedsF (N : Nt) (M : Ms) : Nat -> Option Ms
 | 0 => some M
 | k + 1 => match wedsF N M k with
  | none => none
  | some M' => if (inB (N.weds.getD k d0).a 0 ((N.subs.length : Int) - 1) && inB (N.weds.getD k d0).b ((N.weds.getD k d0).a + 1) ((N.subs.length : Int) - 1)) = true then (match putF M' (2, (N.weds.getD k d0).a, (N.weds.getD k d0).b) k with
   | none => none
   | some M'' => if (timeB (N.weds.getD k d0).votes && offsetsB N (N.weds.getD k d0).offsets) = true then some M'' else none) else none
def lookF (N : Nt) : Option Ms :=
 if ncountsB N = true then (match sitesF N N.sites.length with
  | none => none
  | some M => match subsF N M N.subs.length with
   | none => none
   | some M' => if (placedB N M' && ncyclesB N) = true then wedsF N M' N.weds.length else none) else none
theorem putF_new {M : Ms} {k : Mk} {p : Int} (h : mkF M k = none) : putF M k p = some ((k, p) :: M) := by unfold putF; rw [h]
theorem putF_old {M : Ms} {k : Mk} {p v : Int} (h : mkF M k = some v) : putF M k p = none := by unfold putF; rw [h]
theorem sitesF_none {N : Nt} {k : Nat} (h : sitesF N k = none) : ∀ n, k <= n -> sitesF N n = none
 | 0, hk => by have : k = 0 := by omega
               subst this; exact h
 | n + 1, hk => by
  by_cases e : k = n + 1
  . subst e; exact h
  . rw [sitesF, sitesF_none h n (by omega)]
theorem subsF_none {N : Nt} {M : Ms} {k : Nat} (h : subsF N M k = none) : ∀ n, k <= n -> subsF N M n = none
 | 0, hk => by have : k = 0 := by omega
               subst this; exact h
 | n + 1, hk => by
  by_cases e : k = n + 1
  . subst e; exact h
  . rw [subsF, subsF_none h n (by omega)]
theorem takeF_none {N : Nt} {p : Nat} {l : List Int} {M : Ms} {k : Nat} (h : takeF N p l M k = none) : ∀ n, k <= n -> takeF N p l M n = none
 | 0, hk => by have : k = 0 := by omega
               subst this; exact h
 | n + 1, hk => by
  by_cases e : k = n + 1
  . subst e; exact h
  . rw [takeF, takeF_none h n (by omega)]
theorem wedsF_none {N : Nt} {M : Ms} {k : Nat} (h : wedsF N M k = none) : ∀ n, k <= n -> wedsF N M n = none
 | 0, hk => by have : k = 0 := by omega
               subst this; exact h
 | n + 1, hk => by
  by_cases e : k = n + 1
  . subst e; exact h
  . rw [wedsF, wedsF_none h n (by omega)]
structure Na where
 s : Option Addr
 sc : Nat
 u : Option Addr
 uc : Nat
 d : Option Addr
 dc : Nat
 X : Nat -> Sa
 r : Nat -> Option Addr × Nat
 t : Nat -> Option Addr × Nat
abbrev netV (Y : Na) (N : Nt) : Value := .agg #[.slice Y.s N.sites.length Y.sc, .slice Y.u N.subs.length Y.uc, .slice Y.d N.weds.length Y.dc, .int .i64 N.low, .int .i64 N.high, .int .i64 N.step]
def stV (X : Sa) (S : St) (j : Nat) : Value := match j with
 | 0 => .int .i64 S.id
 | 1 => .slice X.g S.groups.length X.gc
 | 2 => .slice X.a S.apart.length X.ac
 | 3 => .slice X.b S.between.length X.bc
 | 4 => .slice X.p S.phases.length X.pc
 | 5 => .slice X.e S.eyes.length X.ec
 | 6 => .int .i64 S.watch
 | 7 => .int .i64 S.feed
 | 8 => .int .i64 S.heal
 | 9 => .int .i64 S.low
 | 10 => .int .i64 S.high
 | _ => .slice X.l S.plans.length X.lc
def sbV (U : Sb) (a : Option Addr) (c : Nat) (j : Nat) : Value := match j with
 | 0 => .slice a U.sites.length c
 | _ => .int .i64 U.critical
def wdV (D : Wd) (a : Option Addr) (c : Nat) (j : Nat) : Value := match j with
 | 0 => .int .i64 D.a
 | 1 => .int .i64 D.b
 | 2 => .int .i64 D.votes
 | _ => .slice a D.offsets.length c
structure NetAt (w : World) (Y : Na) (N : Nt) : Prop where
 s1 : Lie w Y.s N.sites.length 12 (fun i j => stV (Y.X i) (N.sites.getD i s0) j)
 s2 : ∀ i, i < N.sites.length -> Sat w (Y.X i) (N.sites.getD i s0)
 u1 : Lie w Y.u N.subs.length 2 (fun i j => sbV (N.subs.getD i u0) (Y.r i).1 (Y.r i).2 j)
 u2 : ∀ i, i < N.subs.length -> Ints w (Y.r i).1 (N.subs.getD i u0).sites.length (Y.r i).2 (N.subs.getD i u0).sites
 d1 : Lie w Y.d N.weds.length 4 (fun i j => wdV (N.weds.getD i d0) (Y.t i).1 (Y.t i).2 j)
 d2 : ∀ i, i < N.weds.length -> Ints w (Y.t i).1 (N.weds.getD i d0).offsets.length (Y.t i).2 (N.weds.getD i d0).offsets
 sk : Cap Y.s N.sites.length Y.sc
 uk : Cap Y.u N.subs.length Y.uc
 dk : Cap Y.d N.weds.length Y.dc
 ur : ∀ x ∈ N.subs, i64B x.critical
 dr : ∀ x ∈ N.weds, i64B x.a /\ i64B x.b /\ i64B x.votes
 nr : i64B N.low /\ i64B N.high /\ i64B N.step
theorem NetAt.kept {w w' : World} {Y : Na} {N : Nt} (h : NetAt w Y N) (q : Kept w w' none) : NetAt w' Y N :=
 ⟨h.s1.kept q, fun i hi => (h.s2 i hi).kept q, h.u1.kept q, fun i hi => (h.u2 i hi).kept q, h.d1.kept q, fun i hi => (h.d2 i hi).kept q, h.sk, h.uk, h.dk, h.ur, h.dr, h.nr⟩
@[reducible] def cn9 (Y : Na) (N : Nt) : Array Value := #[.slice Y.s N.sites.length Y.sc, .slice Y.u N.subs.length Y.uc, .slice Y.d N.weds.length Y.dc, .int .i64 N.low, .int .i64 N.high, .int .i64 N.step]
@[reducible] def cy9 (ys : Option Addr) (ysc : Nat) (yu : Option Addr) (yuc : Nat) (yd : Option Addr) (ydc : Nat) (N : Nt) : Array Value := #[.slice ys N.sites.length ysc, .slice yu N.subs.length yuc, .slice yd N.weds.length ydc, .int .i64 N.low, .int .i64 N.high, .int .i64 N.step]
end
section
open Go.ChangeShapes Go.WideShapes Go.ChangeAt Go.RowKit Go.Lib Go.Deep
section
variable {H : Type} {enc : TypeId × Value -> H}
theorem open_site1 {W : World} {n : Nat} {cs : List Value} {x : DataW H × List MemPlace} (h : Tr enc W n 49 cs x) : ∃ y : Sa × St, (∀ j, j < 12 -> cs[j]? = some (stV y.1 y.2 j)) /\ Sat W y.1 y.2 := by
 obtain ⟨n, hl, hf⟩ := flds Tryz.underlying49 h; have hC : Tryz.prog.cellsOf 49 = 12 := by kernel_rfl
 rw [hC] at hl; have kI : Tryz.prog.cellsOf 3 = 1 := by kernel_rfl
 have k1 : Tryz.prog.cellsOf 42 = 1 := by kernel_rfl
 have k2 : Tryz.prog.cellsOf 43 = 1 := by kernel_rfl
 have k3 : Tryz.prog.cellsOf 44 = 1 := by kernel_rfl
 have k4 : Tryz.prog.cellsOf 45 = 1 := by kernel_rfl
 have k5 : Tryz.prog.cellsOf 46 = 1 := by kernel_rfl
 have k6 : Tryz.prog.cellsOf 47 = 1 := by kernel_rfl
 match cs, hl with
 | [c0, c1, c2, c3, c4, c5, c6, c7, c8, c9, c10, c11], _ =>
  obtain ⟨y0, h0⟩ := hf 0 _ rfl; obtain ⟨y1, h1⟩ := hf 1 _ rfl; obtain ⟨y2, h2⟩ := hf 2 _ rfl; obtain ⟨y3, h3⟩ := hf 3 _ rfl; obtain ⟨y4, h4⟩ := hf 4 _ rfl; obtain ⟨y5, h5⟩ := hf 5 _ rfl; obtain ⟨y6, h6⟩ := hf 6 _ rfl; obtain ⟨y7, h7⟩ := hf 7 _ rfl; obtain ⟨y8, h8⟩ := hf 8 _ rfl; obtain ⟨y9, h9⟩ := hf 9 _ rfl; obtain ⟨y10, h10⟩ := hf 10 _ rfl; obtain ⟨y11, h11⟩ := hf 11 _ rfl; simp [kI] at h0 h6 h7 h8 h9 h10; simp [k1] at h1; simp [k2] at h2; simp [k3] at h3; simp [k4] at h4; simp [k5] at h5; simp [k6] at h11; obtain ⟨z0, q0, w0⟩ := open_int1 Tryz.underlying3 h0; obtain ⟨z6, q6, w6⟩ := open_int1 Tryz.underlying3 h6; obtain ⟨z7, q7, w7⟩ := open_int1 Tryz.underlying3 h7; obtain ⟨z8, q8, w8⟩ := open_int1 Tryz.underlying3 h8; obtain ⟨z9, q9, w9⟩ := open_int1 Tryz.underlying3 h9; obtain ⟨z10, q10, w10⟩ := open_int1 Tryz.underlying3 h10; simp at q0 q6 q7 q8 q9 q10; subst q0 q6 q7 q8 q9 q10; obtain ⟨a1, u1, l1, rfl, i1, j1, r1⟩ := open_groups h1; obtain ⟨a2, u2, l2, rfl, i2, j2, r2⟩ := open_apart h2; obtain ⟨a3, u3, l3, rfl, i3⟩ := open_grid h3; obtain ⟨a4, u4, l4, rfl, i4, j4, r4⟩ := open_phases h4; obtain ⟨a5, u5, l5, rfl, i5, j5, r5⟩ := open_eyes h5; obtain ⟨a6, u6, l6, rfl, i6⟩ := open_plansC h11; refine ⟨(⟨a1, u1, a2, u2, a3, u3, a4, u4, a5, u5, a6, u6⟩, ⟨z0, l1, l2, l3, l4, l5, z6, z7, z8, z9, z10, l6⟩), fun j hj => ?_, i1, i2, i3, i4, i5, i6, j1, j2, j4, j5, r1, r2, r4, r5, i64_of w0, i64_of w6, i64_of w7, i64_of w8, i64_of w9, i64_of w10⟩
  match j, hj with
  | 0, _ => rfl
  | 1, _ => rfl
  | 2, _ => rfl
  | 3, _ => rfl
  | 4, _ => rfl
  | 5, _ => rfl
  | 6, _ => rfl
  | 7, _ => rfl
  | 8, _ => rfl
  | 9, _ => rfl
  | 10, _ => rfl
  | 11, _ => rfl
def sa0 : Sa := ⟨none, 0, none, 0, none, 0, none, 0, none, 0, none, 0⟩
theorem open_sites {W : World} {fuel : Nat} {c : Value} {x : DataW H × List MemPlace} (h : Tr enc W fuel 22 [c] x) : ∃ (a : Option Addr) (cap : Nat) (X : Nat -> Sa) (l : List St), c = .slice a l.length cap /\ Lie W a l.length 12 (fun i j => stV (X i) (l.getD i s0) j) /\ (∀ i, i < l.length -> Sat W (X i) (l.getD i s0)) /\ Cap a l.length cap := by
 obtain ⟨a, cap, l, rfl, h1, h2, h3⟩ := open_list ((sa0, s0) : Sa × St) (e := 49) (K := 12) (by omega) (fun y j => stV y.1 y.2 j) (fun y => Sat W y.1 y.2) Tryz.underlying22 (by kernel_rfl) (fun n cs x h => open_site1 h) h; refine ⟨a, cap, fun i => (l.getD i (sa0, s0)).1, l.map Prod.snd, by simp, ?_, ?_, by simpa using h2⟩
 . rw [List.length_map]; refine h1.congr (fun i hi j hj => ?_); simp [hi]
 . intro i hi; rw [List.length_map] at hi; have := h3 (l[i]) (List.getElem_mem _); simpa [hi] using this
theorem open_subs {W : World} {fuel : Nat} {c : Value} {x : DataW H × List MemPlace} (h : Tr enc W fuel 23 [c] x) : ∃ (a : Option Addr) (cap : Nat) (r : Nat -> Option Addr × Nat) (l : List Sb), c = .slice a l.length cap /\ Lie W a l.length 2 (fun i j => sbV (l.getD i u0) (r i).1 (r i).2 j) /\ (∀ i, i < l.length -> Ints W (r i).1 (l.getD i u0).sites.length (r i).2 (l.getD i u0).sites) /\ Cap a l.length cap /\ ∀ x ∈ l, i64B x.critical := by
 obtain ⟨a, cap, l, rfl, h1, h2, h3⟩ := open_list ((u0, none, 0) : Sb × Option Addr × Nat) (e := 52) (K := 2) (by omega) (fun y j => sbV y.1 y.2.1 y.2.2 j) (fun y => Ints W y.2.1 y.1.sites.length y.2.2 y.1.sites /\ i64B y.1.critical) Tryz.underlying23 (by kernel_rfl) (fun n cs x h => by
  obtain ⟨n, hl, hf⟩ := flds Tryz.underlying52 h; have hC : Tryz.prog.cellsOf 52 = 2 := by kernel_rfl
  have kI : Tryz.prog.cellsOf 3 = 1 := by kernel_rfl
  have kL : Tryz.prog.cellsOf 50 = 1 := by kernel_rfl
  rw [hC] at hl
  match cs, hl with
  | [c0, c1], _ =>
   obtain ⟨y0, h0⟩ := hf 0 _ rfl; obtain ⟨y1, h1⟩ := hf 1 _ rfl; simp [kL] at h0; simp [kI] at h1; obtain ⟨a, cap, l, rfl, hI⟩ := open_nums h0; obtain ⟨z1, e1, w1⟩ := open_int1 Tryz.underlying3 h1; simp at e1; subst e1; refine ⟨(⟨l, z1⟩, a, cap), fun j hj => ?_, hI, i64_of w1⟩
   match j, hj with
   | 0, _ => rfl
   | 1, _ => rfl) h
 refine ⟨a, cap, fun i => (l.getD i (u0, none, 0)).2, l.map Prod.fst, by simp, ?_, ?_, by simpa using h2, ?_⟩
 . rw [List.length_map]; refine h1.congr (fun i hi j hj => ?_); simp [hi]
 . intro i hi; rw [List.length_map] at hi; have := (h3 (l[i]) (List.getElem_mem _)).1; simpa [hi] using this
 . intro p hp; simp only [List.mem_map] at hp; obtain ⟨y, hy, rfl⟩ := hp; exact (h3 y hy).2
theorem open_weds {W : World} {fuel : Nat} {c : Value} {x : DataW H × List MemPlace} (h : Tr enc W fuel 24 [c] x) : ∃ (a : Option Addr) (cap : Nat) (r : Nat -> Option Addr × Nat) (l : List Wd), c = .slice a l.length cap /\ Lie W a l.length 4 (fun i j => wdV (l.getD i d0) (r i).1 (r i).2 j) /\ (∀ i, i < l.length -> Ints W (r i).1 (l.getD i d0).offsets.length (r i).2 (l.getD i d0).offsets) /\ Cap a l.length cap /\ ∀ x ∈ l, i64B x.a /\ i64B x.b /\ i64B x.votes := by
 obtain ⟨a, cap, l, rfl, h1, h2, h3⟩ := open_list ((d0, none, 0) : Wd × Option Addr × Nat) (e := 54) (K := 4) (by omega) (fun y j => wdV y.1 y.2.1 y.2.2 j) (fun y => Ints W y.2.1 y.1.offsets.length y.2.2 y.1.offsets /\ i64B y.1.a /\ i64B y.1.b /\ i64B y.1.votes) Tryz.underlying24 (by kernel_rfl) (fun n cs x h => by
  obtain ⟨n, hl, hf⟩ := flds Tryz.underlying54 h; have hC : Tryz.prog.cellsOf 54 = 4 := by kernel_rfl
  have kI : Tryz.prog.cellsOf 3 = 1 := by kernel_rfl
  have kL : Tryz.prog.cellsOf 50 = 1 := by kernel_rfl
  rw [hC] at hl
  match cs, hl with
  | [c0, c1, c2, c3], _ =>
   obtain ⟨y0, h0⟩ := hf 0 _ rfl; obtain ⟨y1, h1⟩ := hf 1 _ rfl; obtain ⟨y2, h2⟩ := hf 2 _ rfl; obtain ⟨y3, h3⟩ := hf 3 _ rfl; simp [kI] at h0 h1 h2; simp [kL] at h3; obtain ⟨z0, e0, w0⟩ := open_int1 Tryz.underlying3 h0; obtain ⟨z1, e1, w1⟩ := open_int1 Tryz.underlying3 h1; obtain ⟨z2, e2, w2⟩ := open_int1 Tryz.underlying3 h2; obtain ⟨a, cap, l, rfl, hI⟩ := open_nums h3; simp at e0 e1 e2; subst e0 e1 e2; refine ⟨(⟨z0, z1, z2, l⟩, a, cap), fun j hj => ?_, hI, i64_of w0, i64_of w1, i64_of w2⟩
   match j, hj with
   | 0, _ => rfl
   | 1, _ => rfl
   | 2, _ => rfl
   | 3, _ => rfl) h
 refine ⟨a, cap, fun i => (l.getD i (d0, none, 0)).2, l.map Prod.fst, by simp, ?_, ?_, by simpa using h2, ?_⟩
 . rw [List.length_map]; refine h1.congr (fun i hi j hj => ?_); simp [hi]
 . intro i hi; rw [List.length_map] at hi; have := (h3 (l[i]) (List.getElem_mem _)).1; simpa [hi] using this
 . intro p hp; simp only [List.mem_map] at hp; obtain ⟨y, hy, rfl⟩ := hp; exact (h3 y hy).2
theorem open_net {W : World} {base : Nat} {v : Value} {d : DataW H} {p : List MemPlace} (hv : Value.okWide Tryz.prog W .any base 26 v) (h : DataW.Trod enc Tryz.prog W 0 (fun _ => true) true 26 v d p) : ∃ (Y : Na) (N : Nt), v = netV Y N /\ NetAt W Y N := by
 obtain ⟨cs, rfl, hsz⟩ := okWide_struct Tryz.underlying26 hv; have hC : Tryz.prog.cellsOf 26 = 6 := by kernel_rfl
 rw [hC] at hsz; obtain ⟨l⟩ := cs; have kI : Tryz.prog.cellsOf 3 = 1 := by kernel_rfl
 have k1 : Tryz.prog.cellsOf 22 = 1 := by kernel_rfl
 have k2 : Tryz.prog.cellsOf 23 = 1 := by kernel_rfl
 have k3 : Tryz.prog.cellsOf 24 = 1 := by kernel_rfl
 match l, hsz with
 | [c0, c1, c2, c3, c4, c5], _ =>
  obtain ⟨fuel, hf0⟩ := h; simp [Value.cells] at hf0; obtain ⟨n, hl, hf⟩ := flds Tryz.underlying26 hf0; obtain ⟨y0, h0⟩ := hf 0 _ rfl; obtain ⟨y1, h1⟩ := hf 1 _ rfl; obtain ⟨y2, h2⟩ := hf 2 _ rfl; obtain ⟨y3, h3⟩ := hf 3 _ rfl; obtain ⟨y4, h4⟩ := hf 4 _ rfl; obtain ⟨y5, h5⟩ := hf 5 _ rfl; simp [k1] at h0; simp [k2] at h1; simp [k3] at h2; simp [kI] at h3 h4 h5; obtain ⟨z3, q3, w3⟩ := open_int1 Tryz.underlying3 h3; obtain ⟨z4, q4, w4⟩ := open_int1 Tryz.underlying3 h4; obtain ⟨z5, q5, w5⟩ := open_int1 Tryz.underlying3 h5; simp at q3 q4 q5; subst q3 q4 q5; obtain ⟨a1, u1, X, l1, rfl, i1, s1, j1⟩ := open_sites h0; obtain ⟨a2, u2, r2, l2, rfl, i2, s2, j2, k2'⟩ := open_subs h1; obtain ⟨a3, u3, r3, l3, rfl, i3, s3, j3, k3'⟩ := open_weds h2; exact ⟨⟨a1, u1, a2, u2, a3, u3, X, r2, r3⟩, ⟨l1, l2, l3, z3, z4, z5⟩, rfl, i1, s1, i2, s2, i3, s3, j1, j2, j3, k2', k3', i64_of w3, i64_of w4, i64_of w5⟩
end
end
end Go.Proofs.YtakilpnbjihibaaGreatDoor
