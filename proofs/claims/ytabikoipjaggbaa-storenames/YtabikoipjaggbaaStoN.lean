/-
  WHAT IS READ BEHIND WRITES, whole or broken off: what was kept, or what is put. (In numbers.)
-/
import Derived.Test.YtabikoipjaggbaaStorM
namespace Go.Proofs.Ytabikoipjaggbaa
open Go.RowKit Go.Lib Go.Deep
set_option linter.unusedVariables false
set_option linter.unusedSimpArgs false

/-! ### Blocks, one behind the other -/
theorem fl_len : ∀ {B : List (List Nat)}, (∀ p ∈ B, p.length = 64) → B.flatten.length = 64 * B.length
  | [], _ => rfl
  | b :: B, h => by
    rw [List.flatten_cons, List.length_append, fl_len (fun p hp => h p (List.mem_cons_of_mem _ hp)), h b (List.mem_cons_self ..)]
    simp only [List.length_cons]
    omega
theorem fl_byt : ∀ {B : List (List Nat)} {i j : Nat}, (∀ p ∈ B, p.length = 64) → i < B.length → j < 64 → byt B.flatten (64 * i + j) = (B.getD i []).getD j 0
  | [], i, j, _, hi, _ => absurd hi (by simp)
  | b :: B, 0, j, h, _, hj => by
    have hb := h b (List.mem_cons_self ..)
    unfold byt
    rw [List.flatten_cons]
    simp [List.getD_eq_getElem?_getD, List.getElem?_append_left (show j < b.length by omega)]
  | b :: B, i + 1, j, h, hi, hj => by
    have hb := h b (List.mem_cons_self ..)
    have ih := fl_byt (B := B) (i := i) (j := j) (fun p hp => h p (List.mem_cons_of_mem _ hp)) (by simpa using hi) hj
    unfold byt at ih ⊢
    rw [List.flatten_cons]
    have e : (b :: B).getD (i + 1) [] = B.getD i [] := by simp
    rw [e, ← ih]
    simp only [List.getD_eq_getElem?_getD]
    rw [List.getElem?_append_right (by omega), hb]
    congr 2
    omega
theorem fl_inj {A B : List (List Nat)} (ha : ∀ p ∈ A, p.length = 64) (hb : ∀ p ∈ B, p.length = 64) (hl : A.length = B.length) (h : A.flatten = B.flatten) : A = B := by
  refine List.ext_getElem hl (fun i h1 h2 => ?_)
  have e1 : A.getD i [] = A[i] := by simp [h1]
  have e2 : B.getD i [] = B[i] := by simp [h2]
  refine ext_getD ((ha _ (List.getElem_mem h1)).trans (hb _ (List.getElem_mem h2)).symm) (fun j hj => ?_)
  rw [ha _ (List.getElem_mem h1)] at hj
  rw [← e1, ← e2, ← fl_byt ha h1 hj, ← fl_byt hb h2 hj, h]
theorem bls_64 {g m : Nat} {l : List Pl} {many : Nat} (h : pieE m l many = 0) : ∀ p ∈ blsK g m l many, p.length = 64 := by
  intro p hp
  unfold blsK at hp
  obtain ⟨i, hi, rfl⟩ := List.mem_map.1 hp
  exact bk_len (pc_len (fil_len (pie_fit h).2) (List.mem_range.1 hi))
theorem bk_byt {g : Nat} {p : List Nat} (hp : p.length = 48) {b : Nat} (hb : b < 8) : (bkK g p).getD b 0 = (leb 8 g).getD b 0 ∧ (bkK g p).getD (56 + b) 0 = (leb 8 g).getD b 0 := by
  have h8 : (leb 8 g).length = 8 := leb_length 8 g
  unfold bkK
  constructor
  · simp [List.getD_eq_getElem?_getD, List.getElem?_append_left (show b < (leb 8 g).length by omega)]
  · simp only [List.getD_eq_getElem?_getD]
    rw [List.getElem?_append_right (by omega), h8, List.getElem?_append_right (by omega), hp]
    congr 2
    omega
theorem bls_ends {g m : Nat} {l : List Pl} {many : Nat} (h : pieE m l many = 0) : Ends (blsK g m l many).flatten many (fun b => (leb 8 g).getD b 0) := by
  intro i hi b hb
  have h64 := bls_64 (g := g) h
  have hil : i < (blsK g m l many).length := by rw [bls_len]; exact hi
  obtain ⟨q1, q2⟩ := bk_byt (g := g) (pc_len (fil_len (pie_fit h).2) hi) hb
  rw [Nat.add_assoc, fl_byt h64 hil (by omega), fl_byt h64 hil (by omega), bls_get hi]
  exact ⟨q1, q2⟩

/-! ### Put's writes -/
theorem wr_01 (L : List Nat) : wrI L = 0 ∨ wrI L = 1 := by unfold wrI; split <;> simp
/-- What is known of a put that is not refused. -/
structure PtOk (L : List Nat) (m : Nat) (l : List Pl) : Prop where
  ask : askE L.length = 0
  md : m ≤ 3
  pie : pieE m l (manK L.length) = 0
  gt : ptN L < gtop
theorem pt_ok {L : List Nat} {m : Nat} {l : List Pl} (h : ptE L m l = 0) : PtOk L m l := by
  unfold ptE at h
  split at h
  · next h1 =>
    split at h
    · next h2 =>
      split at h
      · next h3 =>
        split at h
        · next h4 => exact ⟨h1, h2, h3, h4⟩
        · cases h
      · next h3 => exact absurd h h3
    · cases h
  · next h1 => exact absurd h h1
variable {L : List Nat} {m : Nat} {l : List Pl}
theorem PtOk.list (h : PtOk L m l) : ptL L m l = ptW L m l := by
  have : ptE L m l = 0 := by unfold ptE; rw [if_pos h.ask, if_pos h.md, if_pos h.pie, if_pos h.gt]
  unfold ptL
  rw [if_pos this]
theorem pw_n (h : PtOk L m l) {p : Pw} (hp : p ∈ ptW L m l) : ∃ i, i < manK L.length ∧ p.n = ((wrI L * manK L.length + i : Nat) : Int) ∧ p.data = bkK (ptN L) (pcK (filK m l (manK L.length)) i) := by
  unfold ptW at hp
  obtain ⟨i, hi, rfl⟩ := List.mem_map.1 hp
  exact ⟨i, List.mem_range.1 hi, rfl, rfl⟩
theorem pw_ok (h : PtOk L m l) : ∀ p ∈ ptW L m l, okP L.length p := by
  intro p hp
  obtain ⟨i, hi, e1, e2⟩ := pw_n h hp
  obtain ⟨q1, q2, q3, q4, q5, q6, _⟩ := ask_ok h.ask
  refine ⟨by omega, ?_, by rw [e2]; exact bk_len (pc_len (fil_len (pie_fit h.pie).2) hi)⟩
  rw [e1]
  rcases wr_01 L with e | e <;> rw [e] <;> omega
theorem pw_len' : (ptW L m l).length = manK L.length := by unfold ptW; simp
theorem pw_get {i : Nat} (hi : i < (ptW L m l).length) : (ptW L m l)[i] = ⟨((wrI L * manK L.length + i : Nat) : Int), bkK (ptN L) (pcK (filK m l (manK L.length)) i)⟩ := by
  unfold ptW
  simp
theorem pw_pair : (ptW L m l).Pairwise fun p q => p.n ≠ q.n := by
  refine List.pairwise_iff_getElem.2 (fun i j hi hj hij => ?_)
  rw [pw_get hi, pw_get hj]
  dsimp only
  omega
theorem x_len (h : PtOk L m l) {k t : Nat} (ht : t ≤ 64) : (doD (ptW L m l) k t L).length = L.length := doD_len _ _ _ _ (pw_ok h) ht
/-- The other slot is as it was. -/
theorem x_other (h : PtOk L m l) {k t : Nat} (ht : t ≤ 64) {i : Nat} (hi : i ≤ 1) (hne : i ≠ wrI L) : sltB (doD (ptW L m l) k t L) i = sltB L i := by
  obtain ⟨q1, q2, q3, q4, q5, q6, _⟩ := ask_ok h.ask
  have hxl := x_len h (k := k) ht
  unfold sltB
  rw [hxl]
  refine List.map_congr_left (fun n hn => ?_)
  have hn := List.mem_range.1 hn
  have hb : 64 * (i * manK L.length + n) + 64 ≤ L.length := by
    have : i = 0 ∨ i = 1 := by omega
    rcases this with e | e <;> rw [e] <;> omega
  refine ext_getD (by rw [blD_len (by omega), blD_len hb]) (fun j hj => ?_)
  rw [blD_len (by omega)] at hj
  rw [blD_get hj, blD_get hj, doD_stays _ _ _ _ _ (pw_ok h) ht (fun p hp => ?_)]
  obtain ⟨i2, hi2, e1, _⟩ := pw_n h hp
  rw [e1, Int.toNat_natCast]
  have h01 : i = 0 ∨ i = 1 := by omega
  rcases h01 with e | e <;> rcases wr_01 L with e3 | e3 <;> rw [e3] at hne ⊢ <;> rw [e] at hne ⊢ <;> omega
theorem slt_l64 (h : askE L.length = 0) {i : Nat} (hi : i ≤ 1) : ∀ p ∈ sltB L i, p.length = 64 := by
  obtain ⟨q1, q2, q3, q4, q5, q6, _⟩ := ask_ok h
  intro p hp
  unfold sltB at hp
  obtain ⟨n, hn, rfl⟩ := List.mem_map.1 hp
  have hn := List.mem_range.1 hn
  refine blD_len ?_
  have : i = 0 ∨ i = 1 := by omega
  rcases this with rfl | rfl <;> omega
/-- How many bytes of the slot are new. -/
def nnW (k t many : Nat) : Nat := if k < many then 64 * k + t else 64 * many
theorem x_written (h : PtOk L m l) {k t : Nat} (ht : t ≤ 64) : (sltB (doD (ptW L m l) k t L) (wrI L)).flatten = tornL (blsK (ptN L) m l (manK L.length)).flatten (ptB L).flatten (nnW k t (manK L.length)) := by
  obtain ⟨q1, q2, q3, q4, q5, q6, _⟩ := ask_ok h.ask
  have hxl := x_len h (k := k) ht
  have hw1 : wrI L ≤ 1 := by rcases wr_01 L with e | e <;> omega
  have hxa : askE (doD (ptW L m l) k t L).length = 0 := by rw [hxl]; exact h.ask
  have hA := slt_l64 hxa hw1
  have hB := slt_l64 h.ask hw1
  have hN := bls_64 (g := ptN L) h.pie
  have la : (sltB (doD (ptW L m l) k t L) (wrI L)).length = manK L.length := by rw [sl_len, hxl]
  have lb : (ptB L).length = manK L.length := sl_len L (wrI L)
  have ln : (blsK (ptN L) m l (manK L.length)).length = manK L.length := bls_len _ _ _ _
  have fa := fl_len hA
  have fb : (ptB L).flatten.length = 64 * (ptB L).length := fl_len hB
  have fn := fl_len hN
  rw [la] at fa
  rw [lb] at fb
  rw [ln] at fn
  have hnn : nnW k t (manK L.length) ≤ 64 * manK L.length := by unfold nnW; split <;> omega
  refine byt_ext (fa.trans (torn_len fn fb hnn).symm) (fun x hx => ?_)
  rw [fa] at hx
  obtain ⟨i, j, hi, hj, rfl⟩ : ∃ i j, i < manK L.length ∧ j < 64 ∧ x = 64 * i + j := ⟨x / 64, x % 64, by omega, by omega, by omega⟩
  rw [torn_byt fn fb hnn, fl_byt hA (by rw [la]; exact hi) hj, fl_byt hN (by rw [ln]; exact hi) hj]
  have eB : byt (ptB L).flatten (64 * i + j) = ((ptB L).getD i []).getD j 0 := fl_byt hB (by show i < (ptB L).length; rw [lb]; exact hi) hj
  rw [eB, sl_get (by rw [hxl]; exact hi), hxl]
  have eb : (ptB L).getD i [] = blD L (wrI L * manK L.length + i) := sl_get hi
  rw [eb, blD_get hj, blD_get hj, bls_get hi]
  have hil : i < (ptW L m l).length := by rw [pw_len']; exact hi
  have ht := doD_torn (ptW L m l) k t L (pw_ok h) ht pw_pair i hil j hj
  rw [pw_get hil] at ht
  dsimp only at ht
  rw [Int.toNat_natCast] at ht
  rw [ht]
  have hc : (j < dnW k t i) = (64 * i + j < nnW k t (manK L.length)) := by
    apply propext
    unfold dnW nnW
    by_cases c1 : i < k
    · rw [if_pos c1]
      split <;> omega
    · rw [if_neg c1]
      by_cases c2 : i = k
      · rw [if_pos c2, if_pos (by omega)]
        omega
      · rw [if_neg c2]
        split <;> omega
  simp only [hc]

/-! ### What is read -/
theorem leb_v {g : Nat} (hg : g < gtop) : v256 (leb 8 g) = g := by
  rw [v256_leb, Nat.mod_eq_of_lt]
  unfold gtop at hg
  have : (256 : Nat) ^ 8 = 18446744073709551616 := by decide
  omega
theorem v256_head : ∀ {A : List Nat}, 0 < A.length → (∀ x ∈ A, x < 256) → v256 A % 256 = A.getD 0 0
  | [], h, _ => absurd h (by simp)
  | a :: A, _, h => by
    have := h a (List.mem_cons_self ..)
    show (a + 256 * v256 A) % 256 = _
    simp
    omega
theorem new_above (h : PtOk L m l) : (ctK L).gen < ptN L ∧ ∀ b ∈ ptB L, (begN b < gtop → begN b < ptN L) ∧ endN b % 256 ≠ ptN L % 256 := by
  obtain ⟨q1, q2, q3, q4, q5, q6, _⟩ := ask_ok h.ask
  have lb : (ptB L).length = manK L.length := sl_len L (wrI L)
  obtain ⟨j, hj, e, hf, _⟩ := new_is (g := (ctK L).gen) (B := ptB L) (by omega)
  have e' : ptN L = abvN (ctK L).gen (ptB L) + 1 + j := e
  have h1 := abv_ge (ptB L) (ctK L).gen
  refine ⟨by omega, fun b hb => ⟨fun hg => ?_, fun hq => ?_⟩⟩
  · have := (abv_of (ptB L) (ctK L).gen b hb).1 hg
    omega
  · rw [← e'] at hf
    unfold freeB at hf
    have h2 := List.all_eq_true.1 hf (endN b) (List.mem_map.2 ⟨b, hb, rfl⟩)
    rw [hq] at h2
    simp at h2
theorem new_keeps (h : PtOk L m l) : kepB (blsK (ptN L) m l (manK L.length)) = true ∧ kepK (blsK (ptN L) m l (manK L.length)) = ⟨ptN L, m, l⟩ := by
  obtain ⟨q1, q2, q3, q4, q5, q6, _⟩ := ask_ok h.ask
  have hn := (new_above h).1
  have hl := bls_len (ptN L) m l (manK L.length)
  refine kep_of (k := ⟨ptN L, m, l⟩) ⟨by show 1 ≤ ptN L; omega, h.gt, h.md, by rw [hl]; exact h.pie, by rw [hl]⟩ (by rw [hl]; exact q4) (by rw [hl]; exact q5)
theorem other_is (L : List Nat) : kepK (sltB L (1 - wrI L)) = ctK L := by
  unfold ctK wrI
  split <;> rfl
/-- Where the written slot has the new blocks, they are read. -/
theorem ct_new (h : PtOk L m l) {X : List Nat} (ho : sltB X (1 - wrI L) = sltB L (1 - wrI L)) (hw : sltB X (wrI L) = blsK (ptN L) m l (manK L.length)) : ctK X = ⟨ptN L, m, l⟩ := by
  have hn := (new_above h).1
  have hk := (new_keeps h).2
  have hot := other_is L
  rw [← ho] at hot
  rw [← hw] at hk
  rcases wr_01 L with e | e
  · rw [e] at hk hot
    have : cnt0 X = true := by
      unfold cnt0
      rw [hk]
      have e1 : kepK (sltB X 1) = ctK L := hot
      rw [e1, decide_eq_true (show 0 < (⟨ptN L, m, l⟩ : Kp).gen from by show 0 < ptN L; omega), decide_eq_true (show (ctK L).gen ≤ (⟨ptN L, m, l⟩ : Kp).gen from by show _ ≤ ptN L; omega)]
      rfl
    unfold ctK
    rw [if_pos this]
    exact hk
  · rw [e] at hk hot
    have : cnt0 X = false := by
      unfold cnt0
      rw [hk]
      have e1 : kepK (sltB X 0) = ctK L := hot
      rw [e1, decide_eq_false (show ¬ (⟨ptN L, m, l⟩ : Kp).gen ≤ (ctK L).gen from by show ¬ ptN L ≤ _; omega), Bool.and_false]
    unfold ctK
    rw [if_neg (by rw [this]; decide)]
    exact hk
/-- Where it does not hold, what was read is read still. -/
theorem ct_old (L : List Nat) {X : List Nat} (ho : sltB X (1 - wrI L) = sltB L (1 - wrI L)) (hw : kepB (sltB X (wrI L)) = false) : ctK X = ctK L := by
  have hk := kep_no hw
  have hot := other_is L
  rw [← ho] at hot
  rcases wr_01 L with e | e
  · rw [e] at hk hot
    have : cnt0 X = false := by
      unfold cnt0
      rw [hk]
      rfl
    unfold ctK at hot ⊢
    rw [if_neg (by rw [this]; decide)]
    exact hot
  · rw [e] at hk hot
    have e1 : kepK (sltB X 0) = ctK L := hot
    by_cases hg : 0 < (kepK (sltB X 0)).gen
    · have : cnt0 X = true := by
        unfold cnt0
        rw [hk, decide_eq_true hg]
        exact decide_eq_true (show k00.gen ≤ (kepK (sltB X 0)).gen from Nat.zero_le _)
      rw [← e1]
      conv => lhs; unfold ctK
      rw [if_pos this]
    · have hkf : kepB (sltB X 0) = false := by rw [kep_gen]; exact decide_eq_false hg
      have h0 : kepK (sltB X 0) = k00 := kep_no hkf
      rw [← e1, h0]
      unfold ctK
      split
      · exact h0
      · exact hk
theorem x_zero (h : PtOk L m l) : doD (ptW L m l) 0 0 L = L := by
  obtain ⟨q1, q2, q3, q4, q5, q6, _⟩ := ask_ok h.ask
  cases hW : ptW L m l with
  | nil => rfl
  | cons p W => exact wrD_none _ _ _
theorem slt_lt (hL : ∀ x ∈ L, x < 256) (i : Nat) : ∀ p ∈ sltB L i, ∀ x ∈ p, x < 256 := by
  intro p hp x hx
  unfold sltB at hp
  obtain ⟨n, _, rfl⟩ := List.mem_map.1 hp
  exact hL x (List.mem_of_mem_drop (List.mem_of_mem_take hx))
/-- Writes, whole or broken off: what was read is read still, or just what is put, and all is written but bytes that were there. -/
theorem torn_read (hL : ∀ x ∈ L, x < 256) (h : PtOk L m l) {k t : Nat} (hk : k ≤ manK L.length) (ht : t ≤ 64) : ctK (doD (ptW L m l) k t L) = ctK L ∨ (ctK (doD (ptW L m l) k t L) = ⟨ptN L, m, l⟩ ∧ 64 * (manK L.length - 1) < nnW k t (manK L.length)) := by
  obtain ⟨q1, q2, q3, q4, q5, q6, _⟩ := ask_ok h.ask
  have hw1 : wrI L ≤ 1 := by rcases wr_01 L with e | e <;> omega
  have ho := x_other h (k := k) ht (i := 1 - wrI L) (by omega) (by rcases wr_01 L with e | e <;> omega)
  cases hkb : kepB (sltB (doD (ptW L m l) k t L) (wrI L)) with
  | false => exact .inl (ct_old L ho hkb)
  | true =>
    have hxl := x_len h (k := k) ht
    have hxa : askE (doD (ptW L m l) k t L).length = 0 := by rw [hxl]; exact h.ask
    have hA := slt_l64 hxa hw1
    have hB := slt_l64 h.ask hw1
    have hN := bls_64 (g := ptN L) h.pie
    have la : (sltB (doD (ptW L m l) k t L) (wrI L)).length = manK L.length := by rw [sl_len, hxl]
    have lb : (ptB L).length = manK L.length := sl_len L (wrI L)
    have ln : (blsK (ptN L) m l (manK L.length)).length = manK L.length := bls_len _ _ _ _
    have fb : (ptB L).flatten.length = 64 * (ptB L).length := fl_len hB
    have fn := fl_len hN
    rw [lb] at fb
    rw [ln] at fn
    have hnn : nnW k t (manK L.length) ≤ 64 * manK L.length := by unfold nnW; split <;> omega
    have hx := x_written h (k := k) ht
    have hI := kep_is hkb
    have hTe := bls_ends (g := (kepK (sltB (doD (ptW L m l) k t L) (wrI L))).gen) hI.pie
    rw [hI.eq, la, hx] at hTe
    obtain ⟨hg, hab⟩ := new_above h
    have hge : ∀ i, i < manK L.length → ∃ b, b ∈ ptB L ∧ (ptB L).getD i [] = b ∧ b.length = 64 ∧ ∀ x ∈ b, x < 256 := fun i hi => by
      have hil : i < (ptB L).length := by omega
      have e : (ptB L).getD i [] = (ptB L)[i] := by simp [hil]
      exact ⟨_, List.getElem_mem hil, e, hB _ (List.getElem_mem hil), slt_lt hL _ _ (List.getElem_mem hil)⟩
    have c1 : ∀ i, i < manK L.length → ∃ b, b < 8 ∧ byt (ptB L).flatten (64 * i + b) ≠ (leb 8 (ptN L)).getD b 0 := fun i hi => by
      by_cases hex : ∃ b, b < 8 ∧ byt (ptB L).flatten (64 * i + b) ≠ (leb 8 (ptN L)).getD b 0
      · exact hex
      · exfalso
        obtain ⟨b, hb, e, hl, hlt⟩ := hge i hi
        have heq : b.take 8 = leb 8 (ptN L) := by
          refine ext_getD (by rw [List.length_take, leb_length]; omega) (fun j hj => ?_)
          have hj8 : j < 8 := by rw [List.length_take] at hj; omega
          by_cases hne : byt (ptB L).flatten (64 * i + j) = (leb 8 (ptN L)).getD j 0
          · have e2 : byt (ptB L).flatten (64 * i + j) = ((ptB L).getD i []).getD j 0 := fl_byt hB (by show i < (ptB L).length; rw [lb]; exact hi) (by omega)
            rw [← hne, e2, e]
            simp [List.getD_eq_getElem?_getD, List.getElem?_take, hj8]
          · exact absurd ⟨j, hj8, hne⟩ hex
        have hbe : begN b = ptN L := by unfold begN; rw [heq, leb_v h.gt]
        have := (hab b hb).1 (by rw [hbe]; exact h.gt)
        omega
    have c2 : ∀ i, i < manK L.length → byt (ptB L).flatten (64 * i + 56) ≠ (leb 8 (ptN L)).getD 0 0 := fun i hi hq => by
      obtain ⟨b, hb, e, hl, hlt⟩ := hge i hi
      have e2 : byt (ptB L).flatten (64 * i + 56) = ((ptB L).getD i []).getD 56 0 := fl_byt hB (by show i < (ptB L).length; rw [lb]; exact hi) (by omega)
      rw [e2, e] at hq
      have hh := v256_head (A := b.drop 56) (by rw [List.length_drop]; omega) (fun x hx => hlt x (List.mem_of_mem_drop hx))
      have hd : (b.drop 56).getD 0 0 = b.getD 56 0 := by simp [List.getD_eq_getElem?_getD]
      have hv := v256_head (A := leb 8 (ptN L)) (by rw [leb_length]; omega) (leb_lt _ _)
      rw [leb_v h.gt] at hv
      refine (hab b hb).2 ?_
      show v256 (b.drop 56) % 256 = _
      rw [hh, hd, hq, hv]
    rcases torn_holds q4 fn fb hnn (bls_ends h.pie) hTe c1 c2 with h0 | ⟨h1, h2⟩
    · left
      have hk0 : k = 0 ∧ t = 0 := by
        unfold nnW at h0
        split at h0 <;> omega
      rw [hk0.1, hk0.2, x_zero h]
    · right
      refine ⟨ct_new h ho (fl_inj hA hN (la.trans ln.symm) (hx.trans h1)), h2⟩
/-- Behind all writes just what was put is read. -/
theorem done_read (h : PtOk L m l) (t : Nat) (ht : t ≤ 64) : ctK (doD (ptW L m l) (manK L.length) t L) = ⟨ptN L, m, l⟩ := by
  obtain ⟨q1, q2, q3, q4, q5, q6, _⟩ := ask_ok h.ask
  have hw1 : wrI L ≤ 1 := by rcases wr_01 L with e | e <;> omega
  have ho := x_other h (k := manK L.length) ht (i := 1 - wrI L) (by omega) (by rcases wr_01 L with e | e <;> omega)
  have hxl := x_len h (k := manK L.length) ht
  have hxa : askE (doD (ptW L m l) (manK L.length) t L).length = 0 := by rw [hxl]; exact h.ask
  have hA := slt_l64 hxa hw1
  have hN := bls_64 (g := ptN L) h.pie
  have la : (sltB (doD (ptW L m l) (manK L.length) t L) (wrI L)).length = manK L.length := by rw [sl_len, hxl]
  have ln : (blsK (ptN L) m l (manK L.length)).length = manK L.length := bls_len _ _ _ _
  have fn := fl_len hN
  rw [ln] at fn
  have lb : (ptB L).length = manK L.length := sl_len L (wrI L)
  have fb : (ptB L).flatten.length = 64 * (ptB L).length := fl_len (slt_l64 h.ask hw1)
  rw [lb] at fb
  refine ct_new h ho (fl_inj hA hN (la.trans ln.symm) ?_)
  rw [x_written h ht]
  unfold nnW tornL
  rw [if_neg (Nat.lt_irrefl _), List.take_of_length_le (by omega), List.drop_eq_nil_of_le (by omega), List.append_nil]

end Go.Proofs.Ytabikoipjaggbaa
