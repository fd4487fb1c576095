/-
  Of the text TwinA: what this stage needs (culled by a program).
-/
import Derived.Test.YtnmfigcemknjbaaWorld
import Derived.Test.YtnmfigcemknjbaaSBitsJ
import Derived.Laws.AppendOwnNone
namespace Go.Proofs.Ytnmfigcemknjbaa
open Go.RowKit Go.Lib Go.Deep
set_option linter.unusedVariables false
set_option linter.unusedSimpArgs false

/-- A list's cells, one after the other. -/
def cellsL (n k : Nat) (f : Nat → Nat → Value) : List Value := (List.range (n * k)).map fun q => f (q / k) (q % k)
theorem cellsL_len (n k : Nat) (f : Nat → Nat → Value) : (cellsL n k f).length = n * k := by simp [cellsL]
theorem cellsL_at {n k q : Nat} {f : Nat → Nat → Value} (h : q < n * k) : (cellsL n k f)[q]? = some (f (q / k) (q % k)) := by
  unfold cellsL
  rw [List.getElem?_map, List.getElem?_range h]
  rfl
theorem cellsL_news {w : World} {b off n k : Nat} {f : Nat → Nat → Value} (hk : 0 < k) (hc : ∀ i, i < n → ∀ j, j < k → w.cell? ⟨b, off + i * k + j, none⟩ = some (f i j)) :
    ∀ j u, (cellsL n k f)[j]? = some u → w.cell? ((⟨b, off, none⟩ : Addr).add j) = some u := by
  intro j u hu
  have hj : j < n * k := by have := (List.getElem?_eq_some_iff.1 hu).1; rwa [cellsL_len] at this
  rw [cellsL_at hj] at hu
  have h1 : j / k < n := by rw [Nat.div_lt_iff_lt_mul hk]; exact hj
  have h2 : j % k < k := Nat.mod_lt _ hk
  have h3 := hc _ h1 _ h2
  have h4 : off + j / k * k + j % k = off + j := by
    have := Nat.div_add_mod j k
    rw [Nat.mul_comm] at this
    omega
  rw [h4] at h3
  rw [Addr.add_lit, h3]
  exact hu
theorem cellsL_one {n k : Nat} {f : Nat → Nat → Value} (h : ∀ i j, (f i j).oneCell' = true) : ∀ u ∈ cellsL n k f, u.oneCell' = true := by
  intro u hu
  unfold cellsL at hu
  simp only [List.mem_map] at hu
  obtain ⟨x, _, rfl⟩ := hu
  exact h _ _
/-- What an own row holds, element by element. -/
theorem lie_own {w : World} {base n k : Nat} {e : TypeId} {v : Value} {f : Nat → Nat → Value} (hk : 0 < k) (h : w.ownsRow base e k v n (cellsL n k f)) : ∃ a cap, v = .slice a n cap ∧ Lie w a n k f ∧ Cap a n cap ∧ (∀ b, a = some b → base ≤ b.block ∧ b.block < w.heap.size) := by
  rcases id h.2 with ⟨rfl, rfl⟩ | ⟨g, cap, cur, rfl, hb, hg, hle, hm, hcs, ht⟩
  · exact ⟨none, 0, rfl, ⟨fun hp => absurd hp (by omega)⟩, ⟨fun _ => ⟨rfl, rfl⟩, Nat.le_refl _, by omega⟩, fun b e => nomatch e⟩
  · unfold maxLen at hm
    refine ⟨some ⟨g, 0, none⟩, cap, rfl, ⟨fun hp => ⟨g, 0, rfl, (Array.getElem?_eq_some_iff.1 hg).1, fun i hi j hj => ?_⟩⟩, ⟨fun e => (nomatch e), hle, by omega⟩, fun b e => by cases e; exact ⟨hb, (Array.getElem?_eq_some_iff.1 hg).1⟩⟩
    have hq : i * k + j < n * k := by
      have h1 : (i + 1) * k ≤ n * k := Nat.mul_le_mul_right k (by omega)
      rw [Nat.add_mul] at h1
      omega
    have h2 : (cur.toList.take (n * k))[i * k + j]? = some (f i j) := by
      rw [ht, cellsL_at hq]
      have h3 : (i * k + j) / k = i := by rw [Nat.add_comm, Nat.add_mul_div_right _ _ hk, Nat.div_eq_of_lt hj, Nat.zero_add]
      have h4 : (i * k + j) % k = j := by rw [Nat.add_comm, Nat.add_mul_mod_self_right, Nat.mod_eq_of_lt hj]
      rw [h3, h4]
    rw [List.getElem?_take_of_lt hq, Array.getElem?_toList] at h2
    rw [Nat.zero_add]
    simp only [World.cell?, hg]
    exact h2
/-- append(nil, list...). -/
theorem twin_run {w : World} {t ty e : TypeId} {i : TypeInfo} {z : Value} {k bytes : Nat} (ht : Try.prog.underlying t = some (.slice e)) (hi : Try.prog.info? e = some i) (hz : i.zero = some z) (hsize : i.size = k) (hby : i.bytes = bytes) (hzs : z.cells.size = k) (hk : 0 < k) (hbb : bytes ≤ 1000)
    {a : Option Addr} {n c : Nat} {f : Nat → Nat → Value} (hL : Lie w a n k f) (hc : Cap a n c) (hn : n ≤ 1000) (h1 : ∀ i j, (f i j).oneCell' = true) :
    ∃ a' cap w', (Builtin.append_ #[t, t] ty #[.slice none 0 0, .slice a n c]).run Try.prog w = .ok (.slice a' n cap) w' ∧ Lie w' a' n k f ∧ Cap a' n cap ∧ (∀ b, a' = some b → w.heap.size ≤ b.block ∧ b.block < w'.heap.size) ∧ Kept w w' none := by
  cases a with
  | none =>
    obtain ⟨rfl, rfl⟩ := hc.nil rfl
    have hrun := run_append_owned_none (P := Try.prog) (w := w) w.heap.size t ty e i k ht hi (.slice none 0 0) 0 [] (World.ownsRow_nil _ _ _ _)
    exact ⟨none, 0, w, hrun, ⟨fun hp => absurd hp (by omega)⟩, ⟨fun _ => ⟨rfl, rfl⟩, Nat.le_refl _, by omega⟩, fun b e => (nomatch e), Kept.refl _ _⟩
  | some ad =>
    have hnews : ∀ j u, (cellsL n k f)[j]? = some u → w.cell? (ad.add j) = some u := by
      by_cases hp : 0 < n
      · obtain ⟨b, off, e, _, hcell⟩ := hL.at_ hp
        injection e with e
        subst e
        exact cellsL_news hk hcell
      · intro j u hu
        have hn0 : n = 0 := by omega
        subst hn0
        simp [cellsL] at hu
    have hbytes : (0 + n) * bytes ≤ 140737488355328 := by
      have h2 : n * bytes ≤ 1000 * 1000 := Nat.mul_le_mul hn hbb
      rw [Nat.zero_add]
      omega
    obtain ⟨v', w', hr, h2, h3, _⟩ := run_append_own (P := Try.prog) w w.heap.size t ty e i z k bytes ht hi hz hsize hby hzs hk (.slice none 0 0) 0 [] (World.ownsRow_nil _ _ _ _) ad n c (cellsL n k f) (cellsL_len _ _ _) hnews (cellsL_one h1) (by unfold maxLen; omega) hbytes (Nat.le_refl _)
    rw [Nat.zero_add, List.nil_append] at h2
    obtain ⟨a', cap, rfl, g1, g2, g3⟩ := lie_own hk h2
    exact ⟨a', cap, w', hr, g1, g2, g3, h3⟩

end Go.Proofs.Ytnmfigcemknjbaa
