/-
  Texts joined: some of those that the proofs of this seat stand on.
-/
import Derived.Test.YtkgimccffggfdaaDoorSafeJ
import Derived.Test.YtkgimccffggfdaaDoorOpenS
/-
  THE CONTRACT of Check: a trace's first fault (made by a program).
-/
namespace Go.Proofs.YtkgimccffggfdaaDoor
open Go.RowKit Go.Lib Go.Deep
set_option linter.unusedVariables false
set_option linter.unusedSimpArgs false

/-- A trace's lights lie where a slice leads. -/
structure Trc (w : World) (pa : Option Addr) (n : Nat) (T : List (List Nat)) : Prop where
  size : T.length = n
  max : n ≤ 9223372036854775807
  at_ : 0 < n → ∃ b off, pa = some ⟨b, off, none⟩ ∧ b < w.heap.size ∧ ∀ i, i < n → ∃ a c, w.cell? ⟨b, off + i, none⟩ = some (.slice a (tk T i).length c) ∧ By w a (tk T i).length (tk T i)
theorem Trc.kept {w w' : World} {pa : Option Addr} {n : Nat} {T : List (List Nat)} (h : Trc w pa n T) (k : Kept w w' none) : Trc w' pa n T := by
  refine ⟨h.size, h.max, fun hp => ?_⟩
  obtain ⟨b, off, rfl, hb, hc⟩ := h.at_ hp
  refine ⟨b, off, rfl, Nat.lt_of_lt_of_le hb k.size, fun i hi => ?_⟩
  obtain ⟨a, c, h1, h2⟩ := hc i hi
  exact ⟨a, c, cell_kept0 h1 k, h2.kept k⟩
theorem Trc.lt {w : World} {pa : Option Addr} {n : Nat} {T : List (List Nat)} (h : Trc w pa n T) (k : Nat) : ∀ x ∈ tk T k, x < 256 := by
  by_cases hk : k < n
  · obtain ⟨b, off, rfl, hb, hc⟩ := h.at_ (by omega)
    obtain ⟨a, c, h1, h2⟩ := hc k hk
    exact h2.lt
  · have : tk T k = [] := by unfold tk; simp [show T.length ≤ k by have := h.size; omega]
    rw [this]; simp
theorem atV_len {S : St} {T : List (List Nat)} : ∀ k, (∀ j, j < k → fltV S T j = 0) → (atV S T k).groups.length = S.groups.length
  | 0, _ => firstV_len S
  | k + 1, h => (behindV_len S (atV S T k) (tk T k)).trans (fault_len (h k (by omega)))
theorem startV_rng {S : St} {F : Sf} {L : List Nat} (hs : siteB S = true) (h : 0 ≤ F.start ∧ F.start ≤ 1048576) : 0 ≤ startV S F L ∧ startV S F L ≤ 1048576 := by
  have := worst_rng hs
  unfold startV
  split
  · exact this
  · split <;> omega
theorem atV_start {S : St} {T : List (List Nat)} (hs : siteB S = true) : ∀ k, 0 ≤ (atV S T k).start ∧ (atV S T k).start ≤ 1048576
  | 0 => worst_rng hs
  | k + 1 => startV_rng hs (atV_start hs k)
theorem more_rng (x : Int) : 0 ≤ more x ∧ more x ≤ 1048576 := by
  have := stp_ge x; have := stp_le x
  unfold more; split <;> omega
theorem sndV_rng (s : Sn) (b : Nat) (hb : b < 256) : (sndV s b).asp < 256 ∧ i64B (sndV s b).since ∧ i64B (sndV s b).ended := by
  refine ⟨hb, ?_, ?_⟩
  · have := more_rng s.since
    show i64B (sinceV _ _ _)
    unfold sinceV i64B; split <;> omega
  · have := more_rng s.ended
    show i64B (endedV _ _)
    unfold endedV i64B; split <;> omega
theorem atV_rng {S : St} {T : List (List Nat)} (h : ∀ k, ∀ x ∈ tk T k, x < 256) : ∀ k, ∀ s ∈ (atV S T k).groups, s.asp < 256 ∧ i64B s.since ∧ i64B s.ended
  | 0, s, hs => by
    have : s = seen1 := by
      unfold atV firstV at hs
      exact (List.mem_replicate.1 hs).2
    subst this
    unfold i64B; simp
  | k + 1, s, hs => by
    unfold atV behindV at hs
    simp only [List.mem_map, List.mem_range] at hs
    obtain ⟨i, hi, rfl⟩ := hs
    exact sndV_rng _ _ (h k _ (lg_mem hi))
theorem first_yes2 {X : Sa} {S : St} {w : World} (h : Sat w X S) (hT : Tabb w) (hs : siteB S = true) : Calls Tryd.prog 20 #[siteV X S] w fun e w' => ∃ b, e = .returned (.tuple #[.agg #[.slice (some ⟨b, 0, none⟩) S.groups.length S.groups.length, .int .i64 (worstM S), .bool false], .int .i64 0]) ∧ w.heap.size ≤ b ∧ OwnG w' b S.groups.length (fun _ => seen1) ∧ Kept w w' none := by
  refine (first_yes h hT hs).mono ?_
  rintro e w' ⟨b, rfl, h1, h2, h3⟩
  have hl := firstV_len S
  exact ⟨b, by rw [safeV, hl]; rfl, h1, h2, h3⟩
end Go.Proofs.YtkgimccffggfdaaDoor

/-
  WHAT CAME IN: a standing, a trace, as the walks want them.
-/
namespace Go.Proofs.YtkgimccffggfdaaDoor
open Go.ChangeShapes Go.WideShapes Go.ChangeAt Go.RowKit Go.Lib Go.Deep
set_option linter.unusedVariables false
set_option linter.unusedSimpArgs false

section
variable {H : Type} {enc : TypeId × Value → H}
set_option maxRecDepth 100000 in
theorem open_seens {W : World} {fuel : Nat} {c : Value} {x : DataW H × List MemPlace} (h : Tr enc W fuel 24 [c] x) : ∃ (a : Option Addr) (cap : Nat) (l : List Sn), c = .slice a l.length cap ∧ Lie W a l.length 3 (fun i j => snV (l.getD i n0) j) ∧ Cap a l.length cap ∧ ∀ g ∈ l, g.asp < 256 ∧ i64B g.since ∧ i64B g.ended :=
  open_list n0 (e := 23) (K := 3) (by omega) snV (fun g => g.asp < 256 ∧ i64B g.since ∧ i64B g.ended) Tryd.underlying24 (by kernel_rfl) (fun n cs x h => by
    obtain ⟨n, hl, hf⟩ := flds Tryd.underlying23 h
    have hC : Tryd.prog.cellsOf 23 = 3 := by kernel_rfl
    have kI : Tryd.prog.cellsOf 3 = 1 := by kernel_rfl
    have k8 : Tryd.prog.cellsOf 5 = 1 := by kernel_rfl
    rw [hC] at hl
    match cs, hl with
    | [c0, c1, c2], _ =>
      obtain ⟨y0, h0⟩ := hf 0 _ rfl
      obtain ⟨y1, h1⟩ := hf 1 _ rfl
      obtain ⟨y2, h2⟩ := hf 2 _ rfl
      simp [k8] at h0
      simp [kI] at h1 h2
      obtain ⟨z0, e0, w0⟩ := open_int1 Tryd.underlying5 h0
      obtain ⟨z1, e1, w1⟩ := open_int1 Tryd.underlying3 h1
      obtain ⟨z2, e2, w2⟩ := open_int1 Tryd.underlying3 h2
      obtain ⟨m0, rfl, b0⟩ := nat_u8 w0
      simp at e0 e1 e2
      subst e0 e1 e2
      refine ⟨⟨m0, z1, z2⟩, fun j hj => ?_, b0, i64_of w1, i64_of w2⟩
      match j, hj with
      | 0, _ => rfl
      | 1, _ => rfl
      | 2, _ => rfl) h
set_option maxRecDepth 100000 in
theorem open_safe {W : World} {base : Nat} {v : Value} {d : DataW H} {p : List MemPlace} (hv : Value.okWide Tryd.prog W .any base 26 v) (h : DataW.Trod enc Tryd.prog W 0 (fun _ => true) true 26 v d p) : ∃ (a : Option Addr) (c : Nat) (F : Sf), v = safeV a c F ∧ SafeAt W a c F ∧ i64B F.start := by
  obtain ⟨cs, rfl, hsz⟩ := okWide_struct Tryd.underlying26 hv
  have hC : Tryd.prog.cellsOf 26 = 3 := by kernel_rfl
  rw [hC] at hsz
  obtain ⟨l⟩ := cs
  have kI : Tryd.prog.cellsOf 3 = 1 := by kernel_rfl
  have kb : Tryd.prog.cellsOf 4 = 1 := by kernel_rfl
  have k1 : Tryd.prog.cellsOf 24 = 1 := by kernel_rfl
  match l, hsz with
  | [c0, c1, c2], _ =>
    obtain ⟨fuel, hf0⟩ := h
    simp [Value.cells] at hf0
    obtain ⟨n, hl, hf⟩ := flds Tryd.underlying26 hf0
    obtain ⟨y0, h0⟩ := hf 0 _ rfl
    obtain ⟨y1, h1⟩ := hf 1 _ rfl
    obtain ⟨y2, h2⟩ := hf 2 _ rfl
    simp [k1] at h0
    simp [kI] at h1
    simp [kb] at h2
    obtain ⟨z1, q1, w1⟩ := open_int1 Tryd.underlying3 h1
    obtain ⟨b2, q2, _⟩ := DataW.trod_bool Tryd.underlying4 h2
    simp at q1 q2
    subst q1 q2
    obtain ⟨a, c, l, rfl, hL, hcap, hr⟩ := open_seens h0
    exact ⟨a, c, ⟨l, z1, b2⟩, rfl, ⟨hL, hcap, hr⟩, i64_of w1⟩
end

end Go.Proofs.YtkgimccffggfdaaDoor

