/-
  WHAT IS KEPT, in numbers: its blocks, what blocks tell, and that they tell just what was put into them.
-/
import Derived.Test.YtlabjamkaebnjaaSPlanLJ
import Derived.Test.YtlabjamkaebnjaaBlkM
import Derived.Test.YtlabjamkaebnjaaStorT
namespace Go.Proofs.Ytlabjamkaebnjaa
open Go.RowKit Go.Lib Go.Deep
set_option linter.unusedVariables false
set_option linter.unusedSimpArgs false

/-- What is kept. -/
structure Kp where
  gen : Nat
  mode : Nat
  plans : List Pl
def k00 : Kp := ⟨0, 0, []⟩
def insK (m : Nat) (l : List Pl) : List Nat := sml m ++ wholeL l
def toldK (m : Nat) (l : List Pl) : List Nat := sml (insK m l).length ++ insK m l
def pieE (m : Nat) (l : List Pl) (many : Nat) : Int := if wholeE l = 0 then (if (toldK m l).length ≤ 48 * many then 0 else 190) else wholeE l
def filK (m : Nat) (l : List Pl) (many : Nat) : List Nat := toldK m l ++ List.replicate (48 * many - (toldK m l).length) 0
/-- Piece i of 48 bytes. -/
def pcK (F : List Nat) (i : Nat) : List Nat := (F.drop (48 * i)).take 48
def bkK (g : Nat) (p : List Nat) : List Nat := leb 8 g ++ (p ++ leb 8 g)
def blsK (g m : Nat) (l : List Pl) (many : Nat) : List (List Nat) := (List.range many).map fun i => bkK g (pcK (filK m l many) i)
def gtop : Nat := 4611686018427387904
def stoE (g : Int) (m : Nat) (l : List Pl) (many : Int) : Int := if 1 ≤ many ∧ many ≤ 32 then (if 1 ≤ g ∧ g < (gtop : Int) ∧ m ≤ 3 then pieE m l many.toNat else 190) else 2
def stoL (g : Int) (m : Nat) (l : List Pl) (many : Int) : List (List Nat) := if stoE g m l many = 0 then blsK g.toNat m l many.toNat else []

theorem pie_fit {m : Nat} {l : List Pl} {many : Nat} (h : pieE m l many = 0) : wholeE l = 0 ∧ (toldK m l).length ≤ 48 * many := by
  unfold pieE at h
  split at h
  · next e => exact ⟨e, by split at h; assumption; cases h⟩
  · next e => exact absurd h e
theorem fil_len {m : Nat} {l : List Pl} {many : Nat} (h : (toldK m l).length ≤ 48 * many) : (filK m l many).length = 48 * many := by
  unfold filK
  rw [List.length_append, List.length_replicate]
  omega
theorem pc_len {F : List Nat} {i many : Nat} (h : F.length = 48 * many) (hi : i < many) : (pcK F i).length = 48 := by
  unfold pcK
  rw [List.length_take, List.length_drop]
  omega
theorem bk_len {g : Nat} {p : List Nat} (h : p.length = 48) : (bkK g p).length = 64 := by
  unfold bkK
  simp only [List.length_append, leb_length, h]
theorem bls_len (g m : Nat) (l : List Pl) (many : Nat) : (blsK g m l many).length = many := by unfold blsK; simp
theorem bls_get {g m : Nat} {l : List Pl} {many i : Nat} (hi : i < many) : (blsK g m l many).getD i [] = bkK g (pcK (filK m l many) i) := by
  unfold blsK
  simp [hi]
theorem bk_mid {g : Nat} {p : List Nat} (h : p.length = 48) : ((bkK g p).drop 8).take 48 = p := by
  unfold bkK
  rw [List.drop_left' (leb_length 8 g), List.take_left' h]
theorem bk_head {g : Nat} {p : List Nat} : (bkK g p).take 8 = leb 8 g := by
  unfold bkK
  rw [List.take_left' (leb_length 8 g)]
theorem bk_tail {g : Nat} {p : List Nat} (h : p.length = 48) : (bkK g p).drop 56 = leb 8 g := by
  unfold bkK
  rw [← List.append_assoc, List.drop_left' (by rw [List.length_append, leb_length, h])]
theorem pcs_all {F : List Nat} : ∀ many, 48 * many ≤ F.length → (List.range many).flatMap (pcK F) = F.take (48 * many)
  | 0, _ => by simp
  | n + 1, h => by
    rw [List.range_succ, List.flatMap_append, pcs_all n (by omega)]
    show F.take (48 * n) ++ (pcK F n ++ []) = _
    rw [List.append_nil]
    unfold pcK
    rw [show 48 * (n + 1) = 48 * n + 48 by omega, List.take_add]
theorem whl_lt (l : List Pl) : ∀ x ∈ wholeL l, x < 256 := by
  unfold wholeL
  split
  · exact smlI_lt _
  · intro x hx; cases hx
theorem ins_lt (m : Nat) (l : List Pl) : ∀ x ∈ insK m l, x < 256 := by
  intro x hx
  unfold insK at hx
  rcases List.mem_append.1 hx with h | h
  · exact sml_lt _ _ h
  · exact whl_lt _ _ h
theorem tdK_lt (m : Nat) (l : List Pl) : ∀ x ∈ toldK m l, x < 256 := by
  intro x hx
  unfold toldK at hx
  rcases List.mem_append.1 hx with h | h
  · exact sml_lt _ _ h
  · exact ins_lt _ _ _ h
theorem fil_lt (m : Nat) (l : List Pl) (many : Nat) : ∀ x ∈ filK m l many, x < 256 := by
  intro x hx
  unfold filK at hx
  rcases List.mem_append.1 hx with h | h
  · exact tdK_lt _ _ _ h
  · have := (List.mem_replicate.1 h).2
    omega
theorem pc_lt {F : List Nat} (h : ∀ x ∈ F, x < 256) (i : Nat) : ∀ x ∈ pcK F i, x < 256 := fun x hx => h x (List.mem_of_mem_drop (List.mem_of_mem_take hx))
theorem bk_lt {g : Nat} {p : List Nat} (h : ∀ x ∈ p, x < 256) : ∀ x ∈ bkK g p, x < 256 := by
  intro x hx
  unfold bkK at hx
  simp only [List.mem_append] at hx
  rcases hx with q | q | q
  · exact leb_lt _ _ _ q
  · exact h x q
  · exact leb_lt _ _ _ q
/-! ### What blocks tell -/
def tldB (B : List (List Nat)) : List Nat := B.flatMap fun b => (b.drop 8).take 48
def fstN (B : List (List Nat)) : Nat := v256 ((B.getD 0 []).take 8)
/-- Bytes that are told ahead by how many they are. -/
def lenOk (T : List Nat) : Bool := okR T && decide (rdN T ≤ T.length - rdK T)
def insT (T : List Nat) : List Nat := (T.drop (rdK T)).take (rdN T)
def modOk (I : List Nat) : Bool := okR I && decide (rdN I ≤ 3)
def tolM (B : List (List Nat)) : Kp :=
  if lenOk (tldB B) = true then
    (if modOk (insT (tldB B)) = true then
      (if partsB ((insT (tldB B)).drop (rdK (insT (tldB B)))) = true then ⟨min (fstN B) gtop, rdN (insT (tldB B)), (plansM ((insT (tldB B)).drop (rdK (insT (tldB B))), false)).1⟩ else k00)
    else k00)
  else k00
/-- B are the blocks of k, which may be kept. -/
structure IsK (B : List (List Nat)) (k : Kp) : Prop where
  g1 : 1 ≤ k.gen
  g2 : k.gen < gtop
  md : k.mode ≤ 3
  pie : pieE k.mode k.plans B.length = 0
  eq : blsK k.gen k.mode k.plans B.length = B
def isB (B : List (List Nat)) (k : Kp) : Bool := decide (1 ≤ k.gen) && (decide (k.gen < gtop) && (decide (k.mode ≤ 3) && (decide (pieE k.mode k.plans B.length = 0) && decide (blsK k.gen k.mode k.plans B.length = B))))
theorem isB_iff {B : List (List Nat)} {k : Kp} : isB B k = true ↔ IsK B k := by
  unfold isB
  simp only [Bool.and_eq_true, decide_eq_true_eq]
  exact ⟨fun ⟨a, b, c, d, e⟩ => ⟨a, b, c, d, e⟩, fun ⟨a, b, c, d, e⟩ => ⟨a, b, c, d, e⟩⟩
theorem fm_congr {α β : Type} {f g : α → List β} : ∀ {l : List α}, (∀ x ∈ l, f x = g x) → l.flatMap f = l.flatMap g
  | [], _ => rfl
  | a :: l, h => by rw [List.flatMap_cons, List.flatMap_cons, h a (by simp), fm_congr (fun x hx => h x (by simp [hx]))]
theorem IsK.told {B : List (List Nat)} {k : Kp} (h : IsK B k) : tldB B = filK k.mode k.plans B.length := by
  obtain ⟨h1, h2⟩ := pie_fit h.pie
  have hl := fil_len h2
  have e := h.eq
  unfold tldB
  conv => lhs; rw [← e]
  unfold blsK
  rw [List.flatMap_map]
  have : ∀ i ∈ List.range B.length, ((bkK k.gen (pcK (filK k.mode k.plans B.length) i)).drop 8).take 48 = pcK (filK k.mode k.plans B.length) i := fun i hi => bk_mid (pc_len hl (List.mem_range.1 hi))
  rw [fm_congr this, pcs_all _ (by omega), List.take_of_length_le (by omega)]
theorem IsK.first {B : List (List Nat)} {k : Kp} (h : IsK B k) (hB : 1 ≤ B.length) : fstN B = k.gen := by
  have e := bls_get (g := k.gen) (m := k.mode) (l := k.plans) (many := B.length) (i := 0) (by omega)
  rw [h.eq] at e
  unfold fstN
  have g2 := h.g2
  unfold gtop at g2
  rw [e, bk_head, v256_leb, Nat.mod_eq_of_lt (by omega)]
/-- What is read of blocks is what they are of. -/
theorem IsK.tol {B : List (List Nat)} {k : Kp} (h : IsK B k) (hB : 1 ≤ B.length) (hB2 : B.length ≤ 32) : tolM B = k := by
  have hT := h.told
  have hF := h.first hB
  obtain ⟨h1, h2⟩ := pie_fit h.pie
  have hil : (insK k.mode k.plans).length ≤ (toldK k.mode k.plans).length := by unfold toldK; rw [List.length_append]; omega
  have hsl : (toldK k.mode k.plans).length = (sml (insK k.mode k.plans).length).length + (insK k.mode k.plans).length := by unfold toldK; rw [List.length_append]
  obtain ⟨e1, e2, e3⟩ := read_sml (insK k.mode k.plans).length (insK k.mode k.plans ++ List.replicate (48 * B.length - (toldK k.mode k.plans).length) 0) (by omega)
  have eF : filK k.mode k.plans B.length = sml (insK k.mode k.plans).length ++ (insK k.mode k.plans ++ List.replicate (48 * B.length - (toldK k.mode k.plans).length) 0) := by
    unfold filK
    conv => lhs; unfold toldK
    rw [List.append_assoc]
    rfl
  rw [← eF] at e1 e2 e3
  have hI : insT (tldB B) = insK k.mode k.plans := by
    unfold insT
    rw [hT, e2, e3, eF, List.drop_left' rfl, List.take_left' rfl]
  have hL : lenOk (tldB B) = true := by
    unfold lenOk
    rw [hT, e2, e3, fil_len h2]
    have : okR (filK k.mode k.plans B.length) = true := by
      unfold rdE at e1
      split at e1
      · assumption
      · cases e1
    rw [this, decide_eq_true (by omega)]
    rfl
  have hm := h.md
  obtain ⟨m1, m2, m3⟩ := read_sml k.mode (wholeL k.plans) (by omega)
  have eI : insK k.mode k.plans = sml k.mode ++ wholeL k.plans := rfl
  rw [← eI] at m1 m2 m3
  have hM : modOk (insK k.mode k.plans) = true := by
    unfold modOk
    have : okR (insK k.mode k.plans) = true := by
      unfold rdE at m1
      split at m1
      · assumption
      · cases m1
    rw [this, m2, decide_eq_true hm]
    rfl
  obtain ⟨p1, p2⟩ := parts_whole h1
  have hD : (insK k.mode k.plans).drop (rdK (insK k.mode k.plans)) = wholeL k.plans := by rw [m3, eI, List.drop_left' rfl]
  have g2 := h.g2
  unfold tolM
  rw [hI, hL, hM, hD, p1, p2, m2, hF, if_pos rfl, if_pos rfl, if_pos rfl, Nat.min_eq_left (by omega)]
def kepB (B : List (List Nat)) : Bool := isB B (tolM B)
def kepK (B : List (List Nat)) : Kp := if kepB B = true then tolM B else k00
theorem kep_of {B : List (List Nat)} {k : Kp} (h : IsK B k) (hB : 1 ≤ B.length) (hB2 : B.length ≤ 32) : kepB B = true ∧ kepK B = k := by
  have e := h.tol hB hB2
  have : kepB B = true := by unfold kepB; rw [e]; exact isB_iff.2 h
  exact ⟨this, by unfold kepK; rw [if_pos this, e]⟩
theorem kep_is {B : List (List Nat)} (h : kepB B = true) : IsK B (kepK B) := by
  unfold kepK
  rw [if_pos h]
  exact isB_iff.1 h
theorem kep_no {B : List (List Nat)} (h : kepB B = false) : kepK B = k00 := by unfold kepK; rw [h]; rfl
theorem kep_gen {B : List (List Nat)} : kepB B = decide (0 < (kepK B).gen) := by
  cases h : kepB B with
  | false => rw [kep_no h]; rfl
  | true => exact (decide_eq_true (kep_is h).g1).symm
theorem kep_lt (B : List (List Nat)) : (kepK B).gen < gtop := by
  cases h : kepB B with
  | false => rw [kep_no h]; decide
  | true => exact (kep_is h).g2
/-! ### Slots -/
def manK (n : Nat) : Nat := n / 64 / 2
def sltB (d : List Nat) (i : Nat) : List (List Nat) := (List.range (manK d.length)).map fun n => blD d (i * manK d.length + n)
theorem sl_len (d : List Nat) (i : Nat) : (sltB d i).length = manK d.length := by unfold sltB; simp
theorem sl_get {d : List Nat} {i n : Nat} (hn : n < manK d.length) : (sltB d i).getD n [] = blD d (i * manK d.length + n) := by unfold sltB; simp [hn]
def askE (n : Nat) : Int := if chkE n = 0 then (if n / 64 = 1 then 190 else 0) else 180
theorem ask_ok {n : Nat} (h : askE n = 0) : n % 64 = 0 ∧ 128 ≤ n ∧ n ≤ 4096 ∧ 1 ≤ manK n ∧ manK n ≤ 32 ∧ 128 * manK n ≤ n ∧ chkE n = 0 := by
  unfold askE at h
  rcases chk_cases n with ⟨h1, h2, h3, h4⟩ | h1
  · rw [if_pos h1] at h
    split at h
    · cases h
    · unfold manK
      refine ⟨h2, by omega, h4, by omega, by omega, by omega, h1⟩
  · rw [if_neg (by rw [h1]; decide)] at h
    cases h
/-- Slot 0 counts. -/
def cnt0 (d : List Nat) : Bool := decide (0 < (kepK (sltB d 0)).gen) && decide ((kepK (sltB d 1)).gen ≤ (kepK (sltB d 0)).gen)
def ctK (d : List Nat) : Kp := if cnt0 d = true then kepK (sltB d 0) else kepK (sltB d 1)
def wrI (d : List Nat) : Nat := if cnt0 d = true then 1 else 0
def rdE19 (d : List Nat) : Int := if askE d.length = 0 then (if 0 < (ctK d).gen then 0 else 190) else askE d.length
def rdK19 (d : List Nat) : Kp := if rdE19 d = 0 then ctK d else k00
def slE19 (d : List Nat) (i : Int) : Int := if askE d.length = 0 then (if i = 0 ∨ i = 1 then (if kepB (sltB d i.toNat) = true then 0 else 8) else 2) else askE d.length
def slK19 (d : List Nat) (i : Int) : Kp := if slE19 d i = 0 then kepK (sltB d i.toNat) else k00
def foE (n : Int) : Int := if newE n = 0 then (if n = 1 then 190 else 0) else newE n
def foL (n : Int) : List Nat := if foE n = 0 then newL n else []
/-! ### The new Gen -/
def begN (b : List Nat) : Nat := v256 (b.take 8)
def endN (b : List Nat) : Nat := v256 (b.drop 56)
/-- The greatest of g and a number, if it is below 2^62. -/
def upN (g x : Nat) : Nat := if x < gtop then max g x else g
def abvN (g : Nat) : List (List Nat) → Nat
  | [] => g
  | b :: B => abvN (upN (upN g (begN b)) (endN b)) B
def newN (g : Nat) (B : List (List Nat)) : Nat := genF (B.map endN) 33 (abvN g B + 1)
theorem up_ge (g x : Nat) : g ≤ upN g x := by unfold upN; split <;> omega
theorem upN_lt {g x : Nat} (h : g < gtop) : upN g x < gtop := by unfold upN; split <;> omega
theorem up_of {g x : Nat} (h : x < gtop) : x ≤ upN g x := by unfold upN; rw [if_pos h]; omega
theorem abv_ge : ∀ (B : List (List Nat)) (g : Nat), g ≤ abvN g B
  | [], g => Nat.le_refl _
  | b :: B, g => Nat.le_trans (Nat.le_trans (up_ge g (begN b)) (up_ge _ (endN b))) (abv_ge B _)
theorem abv_lt : ∀ (B : List (List Nat)) (g : Nat), g < gtop → abvN g B < gtop
  | [], g, h => h
  | b :: B, g, h => abv_lt B _ (upN_lt (upN_lt h))
theorem abv_of : ∀ (B : List (List Nat)) (g : Nat), ∀ b ∈ B, (begN b < gtop → begN b ≤ abvN g B) ∧ (endN b < gtop → endN b ≤ abvN g B)
  | [], g, b, h => (nomatch h)
  | c :: B, g, b, h => by
    rcases List.mem_cons.1 h with rfl | h
    · exact ⟨fun q => Nat.le_trans (Nat.le_trans (up_of q) (up_ge _ _)) (abv_ge B _), fun q => Nat.le_trans (up_of q) (abv_ge B _)⟩
    · exact abv_of B _ b h
theorem abv_snoc : ∀ (B : List (List Nat)) (g : Nat) (b : List Nat), abvN g (B ++ [b]) = upN (upN (abvN g B) (begN b)) (endN b)
  | [], g, b => rfl
  | c :: B, g, b => abv_snoc B _ b
theorem new_is {g : Nat} {B : List (List Nat)} (hB : B.length ≤ 32) : ∃ j, j < 33 ∧ newN g B = abvN g B + 1 + j ∧ freeB (B.map endN) (abvN g B + 1 + j) = true ∧ ∀ i, i < j → freeB (B.map endN) (abvN g B + 1 + i) = false := by
  obtain ⟨j, hj, hf⟩ := free_ex (B.map endN) (abvN g B + 1) 33 (by rw [List.length_map]; omega) (by omega)
  -- the least one
  have hmin : ∃ j, j < 33 ∧ freeB (B.map endN) (abvN g B + 1 + j) = true ∧ ∀ i, i < j → freeB (B.map endN) (abvN g B + 1 + i) = false := by
    clear hB
    induction j using Nat.strongRecOn with
    | _ j ih =>
      by_cases q : ∃ i, i < j ∧ freeB (B.map endN) (abvN g B + 1 + i) = true
      · obtain ⟨i, hi, hq⟩ := q
        exact ih i hi (by omega) hq
      · refine ⟨j, hj, hf, fun i hi => ?_⟩
        cases e : freeB (B.map endN) (abvN g B + 1 + i) with
        | false => rfl
        | true => exact absurd ⟨i, hi, e⟩ q
  obtain ⟨j, h1, h2, h3⟩ := hmin
  exact ⟨j, h1, gen_is 33 _ h1 h3 h2, h2, h3⟩
def ptB (d : List Nat) : List (List Nat) := sltB d (wrI d)
def ptN (d : List Nat) : Nat := newN (ctK d).gen (ptB d)
def ptE (d : List Nat) (m : Nat) (l : List Pl) : Int := if askE d.length = 0 then (if m ≤ 3 then (if pieE m l (manK d.length) = 0 then (if ptN d < gtop then 0 else 190) else pieE m l (manK d.length)) else 2) else askE d.length
def ptW (d : List Nat) (m : Nat) (l : List Pl) : List Pw := (List.range (manK d.length)).map fun i => ⟨((wrI d * manK d.length + i : Nat) : Int), bkK (ptN d) (pcK (filK m l (manK d.length)) i)⟩
def ptL (d : List Nat) (m : Nat) (l : List Pl) : List Pw := if ptE d m l = 0 then ptW d m l else []

end Go.Proofs.Ytlabjamkaebnjaa
