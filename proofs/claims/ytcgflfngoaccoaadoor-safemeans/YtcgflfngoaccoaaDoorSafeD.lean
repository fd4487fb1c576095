/-
  THE CONTRACTS of moveOn and of faultOf, whatever the lights.
-/
import Derived.Test.YtcgflfngoaccoaaDoorSafeC
namespace Go.Proofs.YtcgflfngoaccoaaDoor
open Go.RowKit Go.Lib Go.Deep
set_option linter.unusedVariables false
set_option linter.unusedSimpArgs false

/-! ### faultOf -/
set_option maxRecDepth 100000 in
set_option maxHeartbeats 1000000 in
theorem fault_count {w : World} {B : Nat} {X : Sa} {S : St} {a : Option Addr} {c : Nat} {F : Sf} {al : Option Addr} {n cl : Nat} (h : Sbox w B X S) (hn : n ≠ S.groups.length) : Calls Tryd.prog 10 #[.pointer (some ⟨B, 0, none⟩), safeV a c F, .slice al n cl] w fun e w' => e = .returned (.int .u8 1) ∧ Kept w w' none := by
  have c1 := h.c1
  have hBlt := h.lt
  have hnb : ((n : Int) != (S.groups.length : Int)) = true := by simp; omega
  clear h hn
  go_enter Tryd.func10, Tryd.ntmps10
  go_wp2
  go_ret
  exact ⟨rfl, Kept.alloc _ _ _ _ _⟩
theorem fault_any {w : World} {B : Nat} {X : Sa} {S : St} {a : Option Addr} {c : Nat} {F : Sf} {al : Option Addr} {n cl : Nat} {L : List Nat} (h : Sbox w B X S) (hSh : Shape S) (hF : SafeAt w a c F) (hf : F.groups.length = S.groups.length) (hB : By w al n L) : Calls Tryd.prog 10 #[.pointer (some ⟨B, 0, none⟩), safeV a c F, .slice al n cl] w fun e w' => e = .returned (.int .u8 (faultV S F L)) ∧ Kept w w' none := by
  unfold faultV
  by_cases hn : n = S.groups.length
  · subst hn
    rw [if_neg (by simp [hB.size])]
    obtain ⟨G, st, fl⟩ := F
    dsimp only at hf ⊢
    cases h4 : allIs L 4 with
    | true => rw [if_pos rfl]; exact fault_flash h hSh hF hf hB h4
    | false =>
      rw [if_neg (by simp)]
      cases hH : hasIt L 4 with
      | true => rw [if_pos rfl]; exact fault_some h hSh hF hf hB h4 hH
      | false =>
        rw [if_neg (by simp)]
        have one0 : oneV S ⟨G, st, true⟩ L = 0 := by unfold oneV; simp
        cases h1 : allIs L 1 with
        | false =>
          cases fl with
          | true => rw [if_pos (by simp)]; exact fault_start1 h hSh hF hf hB h4 hH h1
          | false =>
            by_cases hs : 0 < st
            · rw [if_pos (by simp [hs])]; exact fault_start2 h hSh hF hf hB h4 hH hs h1
            · rw [if_neg (by simp [hs])]
              by_cases hz : oneV S ⟨G, st, false⟩ L = 0
              · rw [if_neg (by simp [hz])]
                cases hm : mtB S L with
                | true => rw [if_pos rfl]; exact fault_cmeet h hSh hF hf hB h4 hH (by omega) hz hm
                | false =>
                  rw [if_neg (by simp)]
                  cases ho : soonB S ⟨G, st, false⟩ L with
                  | true => rw [if_pos rfl]; exact fault_csoon h hSh hF hf hB h4 hH (by omega) hz hm ho
                  | false => rw [if_neg (by simp)]; exact fault_cnone h hSh hF hf hB h4 hH (by omega) hz hm ho
              · rw [if_pos hz]; exact fault_cone h hSh hF hf hB h4 hH (by omega) (by simpa using hz)
        | true =>
          rw [if_neg (by simp)]
          cases fl with
          | true =>
            rw [if_neg (by simp [one0])]
            cases hm : mtB S L with
            | true => rw [if_pos rfl]; exact fault_ameet h hSh hF hf hB h4 hH h1 one0 hm
            | false =>
              rw [if_neg (by simp)]
              cases ho : soonB S ⟨G, st, true⟩ L with
              | true => rw [if_pos rfl]; exact fault_asoon h hSh hF hf hB h4 hH h1 one0 hm ho
              | false => rw [if_neg (by simp)]; exact fault_anone h hSh hF hf hB h4 hH h1 one0 hm ho
          | false =>
            by_cases hs : 0 < st
            · by_cases hz : oneV S ⟨G, st, false⟩ L = 0
              · rw [if_neg (by simp [hz])]
                cases hm : mtB S L with
                | true => rw [if_pos rfl]; exact fault_bmeet h hSh hF hf hB h4 hH hs h1 hz hm
                | false =>
                  rw [if_neg (by simp)]
                  cases ho : soonB S ⟨G, st, false⟩ L with
                  | true => rw [if_pos rfl]; exact fault_bsoon h hSh hF hf hB h4 hH hs h1 hz hm ho
                  | false => rw [if_neg (by simp)]; exact fault_bnone h hSh hF hf hB h4 hH hs h1 hz hm ho
              · rw [if_pos hz]; exact fault_bone h hSh hF hf hB h4 hH hs h1 (by simpa using hz)
            · by_cases hz : oneV S ⟨G, st, false⟩ L = 0
              · rw [if_neg (by simp [hz])]
                cases hm : mtB S L with
                | true => rw [if_pos rfl]; exact fault_cmeet h hSh hF hf hB h4 hH (by omega) hz hm
                | false =>
                  rw [if_neg (by simp)]
                  cases ho : soonB S ⟨G, st, false⟩ L with
                  | true => rw [if_pos rfl]; exact fault_csoon h hSh hF hf hB h4 hH (by omega) hz hm ho
                  | false => rw [if_neg (by simp)]; exact fault_cnone h hSh hF hf hB h4 hH (by omega) hz hm ho
              · rw [if_pos hz]; exact fault_cone h hSh hF hf hB h4 hH (by omega) (by simpa using hz)
  · rw [if_pos (by rw [hB.size]; exact hn)]
    exact fault_count h hn

/-! ### moveOn -/
theorem Box.other {w : World} {b : Nat} {v0 v1 v2 : Value} (h : Box w b v0 v1 v2) {p : Addr} (hp : p.block ≠ b) (v : Value) : Box (w.setCell p v) b v0 v1 v2 := by
  have e : (w.setCell p v).heap[b]? = w.heap[b]? := blk_setCell_other _ _ _ _ (fun e => hp e.symm)
  exact ⟨(World.cell?_of_block (w := w) (a := ⟨b, 0, none⟩) e).trans h.c0, (World.cell?_of_block (w := w) (a := ⟨b, 1, none⟩) e).trans h.c1, (World.cell?_of_block (w := w) (a := ⟨b, 2, none⟩) e).trans h.c2, (World.frozen?_of_block (w := w) (a := ⟨b, 0, none⟩) e).trans h.f0, (World.frozen?_of_block (w := w) (a := ⟨b, 1, none⟩) e).trans h.f1, (World.frozen?_of_block (w := w) (a := ⟨b, 2, none⟩) e).trans h.f2, by simpa [World.setCell] using h.lt⟩
theorem Box.set1 {w : World} {b : Nat} {v0 v1 v2 : Value} (h : Box w b v0 v1 v2) (v : Value) : Box (w.setCell ⟨b, 1, none⟩ v) b v0 v v2 :=
  ⟨(World.cell?_setCell_other _ _ _ _ (by simp)).trans h.c0, World.cell?_setCell_same _ _ _ h.c1, (World.cell?_setCell_other _ _ _ _ (by simp)).trans h.c2, (World.frozen?_setCell ..).trans h.f0, (World.frozen?_setCell ..).trans h.f1, (World.frozen?_setCell ..).trans h.f2, by simpa [World.setCell] using h.lt⟩
theorem Box.set2 {w : World} {b : Nat} {v0 v1 v2 : Value} (h : Box w b v0 v1 v2) (v : Value) : Box (w.setCell ⟨b, 2, none⟩ v) b v0 v1 v :=
  ⟨(World.cell?_setCell_other _ _ _ _ (by simp)).trans h.c0, (World.cell?_setCell_other _ _ _ _ (by simp)).trans h.c1, World.cell?_setCell_same _ _ _ h.c2, (World.frozen?_setCell ..).trans h.f0, (World.frozen?_setCell ..).trans h.f1, (World.frozen?_setCell ..).trans h.f2, by simpa [World.setCell] using h.lt⟩
theorem Kept.setRow {a b : World} {g : Nat} (h : Kept a b (some g)) (i : Nat) (v : Value) : Kept a (b.setCell ⟨g, i, none⟩ v) (some g) :=
  ⟨h.os, h.tape, h.output, by simpa [World.setCell] using h.size, fun k hk hr => (Below.heap_setCell _ _ _ _ (fun e => hr (by rw [e]))).trans (h.block k hk hr)⟩
theorem cell_keptS {w w' : World} {r : Option Nat} {B j : Nat} {v : Value} (h : w.cell? ⟨B, j, none⟩ = some v) (q : Kept w w' r) (hr : some B ≠ r) : w'.cell? ⟨B, j, none⟩ = some v :=
  (World.cell?_of_block (w := w) (a := ⟨B, j, none⟩) (q.block B (block_lt h) hr)).trans h
theorem Kept.weakS {w w' : World} (h : Kept w w' none) (r : Option Nat) : Kept w w' r := ⟨h.os, h.tape, h.output, h.size, fun i hi _ => h.block i hi (by simp)⟩
/-- A drawn region's one way, with what holds behind it. -/
def Rs (A : Act) (P : World → Prop) (e : Exit) (a : Act) (w : World) : Prop := match e with
  | .normal => a = A ∧ P w
  | _ => False
theorem Rs.out {A : Act} {P : World → Prop} {w : World} {e : Exit} {a : Act} (h : Rs A P e a w) : e = .normal ∧ a = A ∧ P w := by
  cases e with
  | normal => exact ⟨rfl, h.1, h.2⟩
  | _ => exact h.elim
def mixG (k : Nat) (f g : Nat → Sn) (i : Nat) : Sn := if i < k then f i else g i

end Go.Proofs.YtcgflfngoaccoaaDoor
