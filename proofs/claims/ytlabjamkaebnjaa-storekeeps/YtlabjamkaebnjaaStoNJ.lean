/-
  Texts joined: some of those that the proofs of this seat stand on.
-/
import Derived.Test.YtlabjamkaebnjaaStorM
import Derived.Test.YtlabjamkaebnjaaMathsJ
import Derived.Test.YtlabjamkaebnjaaSSiGJ
import Derived.Test.YtlabjamkaebnjaaSFitsJ
import Derived.Test.YtlabjamkaebnjaaStoH
import Derived.Test.YtlabjamkaebnjaaSRefWJ
/-
  WHAT IS READ BEHIND WRITES, whole or broken off: what was kept, or what is put. (In numbers.)
-/
namespace Go.Proofs.Ytlabjamkaebnjaa
open Go.RowKit Go.Lib Go.Deep
set_option linter.unusedVariables false
set_option linter.unusedSimpArgs false

/-! ### Blocks, one behind the other -/
theorem fl_len : ∀ {B : List (List Nat)}, (∀ p ∈ B, p.length = 64) → B.flatten.length = 64 * B.length
  | [], _ => rfl
  | b :: B, h => by
    rw [List.flatten_cons, List.length_append, fl_len (fun p hp => h p (List.mem_cons_of_mem _ hp)), h b (List.mem_cons_self ..)]
    simp only [List.length_cons]
    omega
theorem fl_byt : ∀ {B : List (List Nat)} {i j : Nat}, (∀ p ∈ B, p.length = 64) → i < B.length → j < 64 → byt B.flatten (64 * i + j) = (B.getD i []).getD j 0
  | [], i, j, _, hi, _ => absurd hi (by simp)
  | b :: B, 0, j, h, _, hj => by
    have hb := h b (List.mem_cons_self ..)
    unfold byt
    rw [List.flatten_cons]
    simp [List.getD_eq_getElem?_getD, List.getElem?_append_left (show j < b.length by omega)]
  | b :: B, i + 1, j, h, hi, hj => by
    have hb := h b (List.mem_cons_self ..)
    have ih := fl_byt (B := B) (i := i) (j := j) (fun p hp => h p (List.mem_cons_of_mem _ hp)) (by simpa using hi) hj
    unfold byt at ih ⊢
    rw [List.flatten_cons]
    have e : (b :: B).getD (i + 1) [] = B.getD i [] := by simp
    rw [e, ← ih]
    simp only [List.getD_eq_getElem?_getD]
    rw [List.getElem?_append_right (by omega), hb]
    congr 2
    omega
theorem fl_inj {A B : List (List Nat)} (ha : ∀ p ∈ A, p.length = 64) (hb : ∀ p ∈ B, p.length = 64) (hl : A.length = B.length) (h : A.flatten = B.flatten) : A = B := by
  refine List.ext_getElem hl (fun i h1 h2 => ?_)
  have e1 : A.getD i [] = A[i] := by simp [h1]
  have e2 : B.getD i [] = B[i] := by simp [h2]
  refine ext_getD ((ha _ (List.getElem_mem h1)).trans (hb _ (List.getElem_mem h2)).symm) (fun j hj => ?_)
  rw [ha _ (List.getElem_mem h1)] at hj
  rw [← e1, ← e2, ← fl_byt ha h1 hj, ← fl_byt hb h2 hj, h]
theorem bls_64 {g m : Nat} {l : List Pl} {many : Nat} (h : pieE m l many = 0) : ∀ p ∈ blsK g m l many, p.length = 64 := by
  intro p hp
  unfold blsK at hp
  obtain ⟨i, hi, rfl⟩ := List.mem_map.1 hp
  exact bk_len (pc_len (fil_len (pie_fit h).2) (List.mem_range.1 hi))
theorem bk_byt {g : Nat} {p : List Nat} (hp : p.length = 48) {b : Nat} (hb : b < 8) : (bkK g p).getD b 0 = (leb 8 g).getD b 0 ∧ (bkK g p).getD (56 + b) 0 = (leb 8 g).getD b 0 := by
  have h8 : (leb 8 g).length = 8 := leb_length 8 g
  unfold bkK
  constructor
  · simp [List.getD_eq_getElem?_getD, List.getElem?_append_left (show b < (leb 8 g).length by omega)]
  · simp only [List.getD_eq_getElem?_getD]
    rw [List.getElem?_append_right (by omega), h8, List.getElem?_append_right (by omega), hp]
    congr 2
    omega
theorem bls_ends {g m : Nat} {l : List Pl} {many : Nat} (h : pieE m l many = 0) : Ends (blsK g m l many).flatten many (fun b => (leb 8 g).getD b 0) := by
  intro i hi b hb
  have h64 := bls_64 (g := g) h
  have hil : i < (blsK g m l many).length := by rw [bls_len]; exact hi
  obtain ⟨q1, q2⟩ := bk_byt (g := g) (pc_len (fil_len (pie_fit h).2) hi) hb
  rw [Nat.add_assoc, fl_byt h64 hil (by omega), fl_byt h64 hil (by omega), bls_get hi]
  exact ⟨q1, q2⟩

/-! ### Put's writes -/
theorem wr_01 (L : List Nat) : wrI L = 0 ∨ wrI L = 1 := by unfold wrI; split <;> simp
/-- What is known of a put that is not refused. -/
structure PtOk (L : List Nat) (m : Nat) (l : List Pl) : Prop where
  ask : askE L.length = 0
  md : m ≤ 3
  pie : pieE m l (manK L.length) = 0
  gt : ptN L < gtop
theorem pt_ok {L : List Nat} {m : Nat} {l : List Pl} (h : ptE L m l = 0) : PtOk L m l := by
  unfold ptE at h
  split at h
  · next h1 =>
    split at h
    · next h2 =>
      split at h
      · next h3 =>
        split at h
        · next h4 => exact ⟨h1, h2, h3, h4⟩
        · cases h
      · next h3 => exact absurd h h3
    · cases h
  · next h1 => exact absurd h h1
variable {L : List Nat} {m : Nat} {l : List Pl}
theorem PtOk.list (h : PtOk L m l) : ptL L m l = ptW L m l := by
  have : ptE L m l = 0 := by unfold ptE; rw [if_pos h.ask, if_pos h.md, if_pos h.pie, if_pos h.gt]
  unfold ptL
  rw [if_pos this]
theorem pw_n (h : PtOk L m l) {p : Pw} (hp : p ∈ ptW L m l) : ∃ i, i < manK L.length ∧ p.n = ((wrI L * manK L.length + i : Nat) : Int) ∧ p.data = bkK (ptN L) (pcK (filK m l (manK L.length)) i) := by
  unfold ptW at hp
  obtain ⟨i, hi, rfl⟩ := List.mem_map.1 hp
  exact ⟨i, List.mem_range.1 hi, rfl, rfl⟩
theorem pw_ok (h : PtOk L m l) : ∀ p ∈ ptW L m l, okP L.length p := by
  intro p hp
  obtain ⟨i, hi, e1, e2⟩ := pw_n h hp
  obtain ⟨q1, q2, q3, q4, q5, q6, _⟩ := ask_ok h.ask
  refine ⟨by omega, ?_, by rw [e2]; exact bk_len (pc_len (fil_len (pie_fit h.pie).2) hi)⟩
  rw [e1]
  rcases wr_01 L with e | e <;> rw [e] <;> omega
theorem pw_len' : (ptW L m l).length = manK L.length := by unfold ptW; simp
theorem pw_get {i : Nat} (hi : i < (ptW L m l).length) : (ptW L m l)[i] = ⟨((wrI L * manK L.length + i : Nat) : Int), bkK (ptN L) (pcK (filK m l (manK L.length)) i)⟩ := by
  unfold ptW
  simp
theorem pw_pair : (ptW L m l).Pairwise fun p q => p.n ≠ q.n := by
  refine List.pairwise_iff_getElem.2 (fun i j hi hj hij => ?_)
  rw [pw_get hi, pw_get hj]
  dsimp only
  omega
theorem x_len (h : PtOk L m l) {k t : Nat} (ht : t ≤ 64) : (doD (ptW L m l) k t L).length = L.length := doD_len _ _ _ _ (pw_ok h) ht
/-- The other slot is as it was. -/
theorem x_other (h : PtOk L m l) {k t : Nat} (ht : t ≤ 64) {i : Nat} (hi : i ≤ 1) (hne : i ≠ wrI L) : sltB (doD (ptW L m l) k t L) i = sltB L i := by
  obtain ⟨q1, q2, q3, q4, q5, q6, _⟩ := ask_ok h.ask
  have hxl := x_len h (k := k) ht
  unfold sltB
  rw [hxl]
  refine List.map_congr_left (fun n hn => ?_)
  have hn := List.mem_range.1 hn
  have hb : 64 * (i * manK L.length + n) + 64 ≤ L.length := by
    have : i = 0 ∨ i = 1 := by omega
    rcases this with e | e <;> rw [e] <;> omega
  refine ext_getD (by rw [blD_len (by omega), blD_len hb]) (fun j hj => ?_)
  rw [blD_len (by omega)] at hj
  rw [blD_get hj, blD_get hj, doD_stays _ _ _ _ _ (pw_ok h) ht (fun p hp => ?_)]
  obtain ⟨i2, hi2, e1, _⟩ := pw_n h hp
  rw [e1, Int.toNat_natCast]
  have h01 : i = 0 ∨ i = 1 := by omega
  rcases h01 with e | e <;> rcases wr_01 L with e3 | e3 <;> rw [e3] at hne ⊢ <;> rw [e] at hne ⊢ <;> omega
theorem slt_l64 (h : askE L.length = 0) {i : Nat} (hi : i ≤ 1) : ∀ p ∈ sltB L i, p.length = 64 := by
  obtain ⟨q1, q2, q3, q4, q5, q6, _⟩ := ask_ok h
  intro p hp
  unfold sltB at hp
  obtain ⟨n, hn, rfl⟩ := List.mem_map.1 hp
  have hn := List.mem_range.1 hn
  refine blD_len ?_
  have : i = 0 ∨ i = 1 := by omega
  rcases this with rfl | rfl <;> omega
/-- How many bytes of the slot are new. -/
def nnW (k t many : Nat) : Nat := if k < many then 64 * k + t else 64 * many
theorem x_written (h : PtOk L m l) {k t : Nat} (ht : t ≤ 64) : (sltB (doD (ptW L m l) k t L) (wrI L)).flatten = tornL (blsK (ptN L) m l (manK L.length)).flatten (ptB L).flatten (nnW k t (manK L.length)) := by
  obtain ⟨q1, q2, q3, q4, q5, q6, _⟩ := ask_ok h.ask
  have hxl := x_len h (k := k) ht
  have hw1 : wrI L ≤ 1 := by rcases wr_01 L with e | e <;> omega
  have hxa : askE (doD (ptW L m l) k t L).length = 0 := by rw [hxl]; exact h.ask
  have hA := slt_l64 hxa hw1
  have hB := slt_l64 h.ask hw1
  have hN := bls_64 (g := ptN L) h.pie
  have la : (sltB (doD (ptW L m l) k t L) (wrI L)).length = manK L.length := by rw [sl_len, hxl]
  have lb : (ptB L).length = manK L.length := sl_len L (wrI L)
  have ln : (blsK (ptN L) m l (manK L.length)).length = manK L.length := bls_len _ _ _ _
  have fa := fl_len hA
  have fb : (ptB L).flatten.length = 64 * (ptB L).length := fl_len hB
  have fn := fl_len hN
  rw [la] at fa
  rw [lb] at fb
  rw [ln] at fn
  have hnn : nnW k t (manK L.length) ≤ 64 * manK L.length := by unfold nnW; split <;> omega
  refine byt_ext (fa.trans (torn_len fn fb hnn).symm) (fun x hx => ?_)
  rw [fa] at hx
  obtain ⟨i, j, hi, hj, rfl⟩ : ∃ i j, i < manK L.length ∧ j < 64 ∧ x = 64 * i + j := ⟨x / 64, x % 64, by omega, by omega, by omega⟩
  rw [torn_byt fn fb hnn, fl_byt hA (by rw [la]; exact hi) hj, fl_byt hN (by rw [ln]; exact hi) hj]
  have eB : byt (ptB L).flatten (64 * i + j) = ((ptB L).getD i []).getD j 0 := fl_byt hB (by show i < (ptB L).length; rw [lb]; exact hi) hj
  rw [eB, sl_get (by rw [hxl]; exact hi), hxl]
  have eb : (ptB L).getD i [] = blD L (wrI L * manK L.length + i) := sl_get hi
  rw [eb, blD_get hj, blD_get hj, bls_get hi]
  have hil : i < (ptW L m l).length := by rw [pw_len']; exact hi
  have ht := doD_torn (ptW L m l) k t L (pw_ok h) ht pw_pair i hil j hj
  rw [pw_get hil] at ht
  dsimp only at ht
  rw [Int.toNat_natCast] at ht
  rw [ht]
  have hc : (j < dnW k t i) = (64 * i + j < nnW k t (manK L.length)) := by
    apply propext
    unfold dnW nnW
    by_cases c1 : i < k
    · rw [if_pos c1]
      split <;> omega
    · rw [if_neg c1]
      by_cases c2 : i = k
      · rw [if_pos c2, if_pos (by omega)]
        omega
      · rw [if_neg c2]
        split <;> omega
  simp only [hc]

/-! ### What is read -/
theorem leb_v {g : Nat} (hg : g < gtop) : v256 (leb 8 g) = g := by
  rw [v256_leb, Nat.mod_eq_of_lt]
  unfold gtop at hg
  have : (256 : Nat) ^ 8 = 18446744073709551616 := by decide
  omega
theorem v256_head : ∀ {A : List Nat}, 0 < A.length → (∀ x ∈ A, x < 256) → v256 A % 256 = A.getD 0 0
  | [], h, _ => absurd h (by simp)
  | a :: A, _, h => by
    have := h a (List.mem_cons_self ..)
    show (a + 256 * v256 A) % 256 = _
    simp
    omega
theorem new_above (h : PtOk L m l) : (ctK L).gen < ptN L ∧ ∀ b ∈ ptB L, (begN b < gtop → begN b < ptN L) ∧ endN b % 256 ≠ ptN L % 256 := by
  obtain ⟨q1, q2, q3, q4, q5, q6, _⟩ := ask_ok h.ask
  have lb : (ptB L).length = manK L.length := sl_len L (wrI L)
  obtain ⟨j, hj, e, hf, _⟩ := new_is (g := (ctK L).gen) (B := ptB L) (by omega)
  have e' : ptN L = abvN (ctK L).gen (ptB L) + 1 + j := e
  have h1 := abv_ge (ptB L) (ctK L).gen
  refine ⟨by omega, fun b hb => ⟨fun hg => ?_, fun hq => ?_⟩⟩
  · have := (abv_of (ptB L) (ctK L).gen b hb).1 hg
    omega
  · rw [← e'] at hf
    unfold freeB at hf
    have h2 := List.all_eq_true.1 hf (endN b) (List.mem_map.2 ⟨b, hb, rfl⟩)
    rw [hq] at h2
    simp at h2
theorem new_keeps (h : PtOk L m l) : kepB (blsK (ptN L) m l (manK L.length)) = true ∧ kepK (blsK (ptN L) m l (manK L.length)) = ⟨ptN L, m, l⟩ := by
  obtain ⟨q1, q2, q3, q4, q5, q6, _⟩ := ask_ok h.ask
  have hn := (new_above h).1
  have hl := bls_len (ptN L) m l (manK L.length)
  refine kep_of (k := ⟨ptN L, m, l⟩) ⟨by show 1 ≤ ptN L; omega, h.gt, h.md, by rw [hl]; exact h.pie, by rw [hl]⟩ (by rw [hl]; exact q4) (by rw [hl]; exact q5)
theorem other_is (L : List Nat) : kepK (sltB L (1 - wrI L)) = ctK L := by
  unfold ctK wrI
  split <;> rfl
/-- Where the written slot has the new blocks, they are read. -/
theorem ct_new (h : PtOk L m l) {X : List Nat} (ho : sltB X (1 - wrI L) = sltB L (1 - wrI L)) (hw : sltB X (wrI L) = blsK (ptN L) m l (manK L.length)) : ctK X = ⟨ptN L, m, l⟩ := by
  have hn := (new_above h).1
  have hk := (new_keeps h).2
  have hot := other_is L
  rw [← ho] at hot
  rw [← hw] at hk
  rcases wr_01 L with e | e
  · rw [e] at hk hot
    have : cnt0 X = true := by
      unfold cnt0
      rw [hk]
      have e1 : kepK (sltB X 1) = ctK L := hot
      rw [e1, decide_eq_true (show 0 < (⟨ptN L, m, l⟩ : Kp).gen from by show 0 < ptN L; omega), decide_eq_true (show (ctK L).gen ≤ (⟨ptN L, m, l⟩ : Kp).gen from by show _ ≤ ptN L; omega)]
      rfl
    unfold ctK
    rw [if_pos this]
    exact hk
  · rw [e] at hk hot
    have : cnt0 X = false := by
      unfold cnt0
      rw [hk]
      have e1 : kepK (sltB X 0) = ctK L := hot
      rw [e1, decide_eq_false (show ¬ (⟨ptN L, m, l⟩ : Kp).gen ≤ (ctK L).gen from by show ¬ ptN L ≤ _; omega), Bool.and_false]
    unfold ctK
    rw [if_neg (by rw [this]; decide)]
    exact hk
/-- Where it does not hold, what was read is read still. -/
theorem ct_old (L : List Nat) {X : List Nat} (ho : sltB X (1 - wrI L) = sltB L (1 - wrI L)) (hw : kepB (sltB X (wrI L)) = false) : ctK X = ctK L := by
  have hk := kep_no hw
  have hot := other_is L
  rw [← ho] at hot
  rcases wr_01 L with e | e
  · rw [e] at hk hot
    have : cnt0 X = false := by
      unfold cnt0
      rw [hk]
      rfl
    unfold ctK at hot ⊢
    rw [if_neg (by rw [this]; decide)]
    exact hot
  · rw [e] at hk hot
    have e1 : kepK (sltB X 0) = ctK L := hot
    by_cases hg : 0 < (kepK (sltB X 0)).gen
    · have : cnt0 X = true := by
        unfold cnt0
        rw [hk, decide_eq_true hg]
        exact decide_eq_true (show k00.gen ≤ (kepK (sltB X 0)).gen from Nat.zero_le _)
      rw [← e1]
      conv => lhs; unfold ctK
      rw [if_pos this]
    · have hkf : kepB (sltB X 0) = false := by rw [kep_gen]; exact decide_eq_false hg
      have h0 : kepK (sltB X 0) = k00 := kep_no hkf
      rw [← e1, h0]
      unfold ctK
      split
      · exact h0
      · exact hk
theorem x_zero (h : PtOk L m l) : doD (ptW L m l) 0 0 L = L := by
  obtain ⟨q1, q2, q3, q4, q5, q6, _⟩ := ask_ok h.ask
  cases hW : ptW L m l with
  | nil => rfl
  | cons p W => exact wrD_none _ _ _
theorem slt_lt (hL : ∀ x ∈ L, x < 256) (i : Nat) : ∀ p ∈ sltB L i, ∀ x ∈ p, x < 256 := by
  intro p hp x hx
  unfold sltB at hp
  obtain ⟨n, _, rfl⟩ := List.mem_map.1 hp
  exact hL x (List.mem_of_mem_drop (List.mem_of_mem_take hx))
/-- Writes, whole or broken off: what was read is read still, or just what is put, and all is written but bytes that were there. -/
theorem torn_read (hL : ∀ x ∈ L, x < 256) (h : PtOk L m l) {k t : Nat} (hk : k ≤ manK L.length) (ht : t ≤ 64) : ctK (doD (ptW L m l) k t L) = ctK L ∨ (ctK (doD (ptW L m l) k t L) = ⟨ptN L, m, l⟩ ∧ 64 * (manK L.length - 1) < nnW k t (manK L.length)) := by
  obtain ⟨q1, q2, q3, q4, q5, q6, _⟩ := ask_ok h.ask
  have hw1 : wrI L ≤ 1 := by rcases wr_01 L with e | e <;> omega
  have ho := x_other h (k := k) ht (i := 1 - wrI L) (by omega) (by rcases wr_01 L with e | e <;> omega)
  cases hkb : kepB (sltB (doD (ptW L m l) k t L) (wrI L)) with
  | false => exact .inl (ct_old L ho hkb)
  | true =>
    have hxl := x_len h (k := k) ht
    have hxa : askE (doD (ptW L m l) k t L).length = 0 := by rw [hxl]; exact h.ask
    have hA := slt_l64 hxa hw1
    have hB := slt_l64 h.ask hw1
    have hN := bls_64 (g := ptN L) h.pie
    have la : (sltB (doD (ptW L m l) k t L) (wrI L)).length = manK L.length := by rw [sl_len, hxl]
    have lb : (ptB L).length = manK L.length := sl_len L (wrI L)
    have ln : (blsK (ptN L) m l (manK L.length)).length = manK L.length := bls_len _ _ _ _
    have fb : (ptB L).flatten.length = 64 * (ptB L).length := fl_len hB
    have fn := fl_len hN
    rw [lb] at fb
    rw [ln] at fn
    have hnn : nnW k t (manK L.length) ≤ 64 * manK L.length := by unfold nnW; split <;> omega
    have hx := x_written h (k := k) ht
    have hI := kep_is hkb
    have hTe := bls_ends (g := (kepK (sltB (doD (ptW L m l) k t L) (wrI L))).gen) hI.pie
    rw [hI.eq, la, hx] at hTe
    obtain ⟨hg, hab⟩ := new_above h
    have hge : ∀ i, i < manK L.length → ∃ b, b ∈ ptB L ∧ (ptB L).getD i [] = b ∧ b.length = 64 ∧ ∀ x ∈ b, x < 256 := fun i hi => by
      have hil : i < (ptB L).length := by omega
      have e : (ptB L).getD i [] = (ptB L)[i] := by simp [hil]
      exact ⟨_, List.getElem_mem hil, e, hB _ (List.getElem_mem hil), slt_lt hL _ _ (List.getElem_mem hil)⟩
    have c1 : ∀ i, i < manK L.length → ∃ b, b < 8 ∧ byt (ptB L).flatten (64 * i + b) ≠ (leb 8 (ptN L)).getD b 0 := fun i hi => by
      by_cases hex : ∃ b, b < 8 ∧ byt (ptB L).flatten (64 * i + b) ≠ (leb 8 (ptN L)).getD b 0
      · exact hex
      · exfalso
        obtain ⟨b, hb, e, hl, hlt⟩ := hge i hi
        have heq : b.take 8 = leb 8 (ptN L) := by
          refine ext_getD (by rw [List.length_take, leb_length]; omega) (fun j hj => ?_)
          have hj8 : j < 8 := by rw [List.length_take] at hj; omega
          by_cases hne : byt (ptB L).flatten (64 * i + j) = (leb 8 (ptN L)).getD j 0
          · have e2 : byt (ptB L).flatten (64 * i + j) = ((ptB L).getD i []).getD j 0 := fl_byt hB (by show i < (ptB L).length; rw [lb]; exact hi) (by omega)
            rw [← hne, e2, e]
            simp [List.getD_eq_getElem?_getD, List.getElem?_take, hj8]
          · exact absurd ⟨j, hj8, hne⟩ hex
        have hbe : begN b = ptN L := by unfold begN; rw [heq, leb_v h.gt]
        have := (hab b hb).1 (by rw [hbe]; exact h.gt)
        omega
    have c2 : ∀ i, i < manK L.length → byt (ptB L).flatten (64 * i + 56) ≠ (leb 8 (ptN L)).getD 0 0 := fun i hi hq => by
      obtain ⟨b, hb, e, hl, hlt⟩ := hge i hi
      have e2 : byt (ptB L).flatten (64 * i + 56) = ((ptB L).getD i []).getD 56 0 := fl_byt hB (by show i < (ptB L).length; rw [lb]; exact hi) (by omega)
      rw [e2, e] at hq
      have hh := v256_head (A := b.drop 56) (by rw [List.length_drop]; omega) (fun x hx => hlt x (List.mem_of_mem_drop hx))
      have hd : (b.drop 56).getD 0 0 = b.getD 56 0 := by simp [List.getD_eq_getElem?_getD]
      have hv := v256_head (A := leb 8 (ptN L)) (by rw [leb_length]; omega) (leb_lt _ _)
      rw [leb_v h.gt] at hv
      refine (hab b hb).2 ?_
      show v256 (b.drop 56) % 256 = _
      rw [hh, hd, hq, hv]
    rcases torn_holds q4 fn fb hnn (bls_ends h.pie) hTe c1 c2 with h0 | ⟨h1, h2⟩
    · left
      have hk0 : k = 0 ∧ t = 0 := by
        unfold nnW at h0
        split at h0 <;> omega
      rw [hk0.1, hk0.2, x_zero h]
    · right
      refine ⟨ct_new h ho (fl_inj hA hN (la.trans ln.symm) (hx.trans h1)), h2⟩
/-- Behind all writes just what was put is read. -/
theorem done_read (h : PtOk L m l) (t : Nat) (ht : t ≤ 64) : ctK (doD (ptW L m l) (manK L.length) t L) = ⟨ptN L, m, l⟩ := by
  obtain ⟨q1, q2, q3, q4, q5, q6, _⟩ := ask_ok h.ask
  have hw1 : wrI L ≤ 1 := by rcases wr_01 L with e | e <;> omega
  have ho := x_other h (k := manK L.length) ht (i := 1 - wrI L) (by omega) (by rcases wr_01 L with e | e <;> omega)
  have hxl := x_len h (k := manK L.length) ht
  have hxa : askE (doD (ptW L m l) (manK L.length) t L).length = 0 := by rw [hxl]; exact h.ask
  have hA := slt_l64 hxa hw1
  have hN := bls_64 (g := ptN L) h.pie
  have la : (sltB (doD (ptW L m l) (manK L.length) t L) (wrI L)).length = manK L.length := by rw [sl_len, hxl]
  have ln : (blsK (ptN L) m l (manK L.length)).length = manK L.length := bls_len _ _ _ _
  have fn := fl_len hN
  rw [ln] at fn
  have lb : (ptB L).length = manK L.length := sl_len L (wrI L)
  have fb : (ptB L).flatten.length = 64 * (ptB L).length := fl_len (slt_l64 h.ask hw1)
  rw [lb] at fb
  refine ct_new h ho (fl_inj hA hN (la.trans ln.symm) ?_)
  rw [x_written h ht]
  unfold nnW tornL
  rw [if_neg (Nat.lt_irrefl _), List.take_of_length_le (by omega), List.drop_eq_nil_of_le (by omega), List.append_nil]

end Go.Proofs.Ytlabjamkaebnjaa

/-
  Of the text SameA: what this stage needs (culled by a program).
-/
namespace Go.Proofs.Ytlabjamkaebnjaa
open Go.RowKit Go.Lib Go.Deep
set_option linter.unusedVariables false
set_option linter.unusedSimpArgs false

theorem rsame_ints {a a' : Option Addr} {n c c' : Nat} {l : List Int} {w : World} (h1 : Ints w a n c l) (h2 : Ints w a' n c' l) : Calls Try.prog 59 #[.slice a n c, .slice a' n c'] w fun e w' => e = .returned (.bool true) ∧ Kept w w' none := by
  have H1 := Hid.mk' h1
  have H2 := Hid.mk' h2
  have hn : n ≤ 9223372036854775807 := by have := h1.cap.room; have := h1.cap.max; omega
  clear h1 h2
  go_enter Try.func59, Try.ntmps59
  go_wp2
  go_loopw [5] (fun i wr => ∃ k : Nat, k ≤ n ∧ i = .int .i64 k ∧ ∃ m, wr = w.drewN m) (fun i _ => n - (intOf i).toNat)
  case atStart => exact ⟨0, Nat.zero_le _, rfl, 0, rfl⟩
  case round =>
    obtain ⟨k, hk, rfl, m, rfl⟩ := hrel
    by_cases hlt : k < n
    · obtain ⟨b, o, rfl, _, hc⟩ := H1.out.at_ (by omega)
      obtain ⟨b', o', rfl, _, hc'⟩ := H2.out.at_ (by omega)
      have hx := hc k hlt
      have hx' := hc' k hlt
      obtain ⟨x, hxe⟩ : ∃ x, x = l.getD k 0 := ⟨_, rfl⟩
      rw [← hxe] at hx hx'
      have hne : (x != x) = false := by simp
      clear hc hc' hxe
      go_wp2
      go_quiet (fail)
      go_wp2
      go_roundw
      case rel => exact ⟨k + 1, by omega, by go_num, _, rfl⟩
      case measure => simp [intOf]; omega
    · go_wp2
      go_ret
      exact ⟨rfl, Kept.drewN _ _ _⟩
set_option maxRecDepth 100000 in
theorem rsamePlan_yes {a a' : Option Addr} {c c' : Nat} {p : Pl} {w : World} (h1 : Ints w a p.splits.length c p.splits) (h2 : Ints w a' p.splits.length c' p.splits) : Calls Try.prog 36 #[planV p a c, planV p a' c'] w fun e w' => e = .returned (.bool true) ∧ Kept w w' none := by
  have k1 : Kept w ((w.alloc (.cells #[.int .i64 p.cycle, .int .i64 p.offset, .slice a p.splits.length c] 63)).alloc (.cells #[.int .i64 p.cycle, .int .i64 p.offset, .slice a' p.splits.length c'] 63)) none := (Kept.alloc _ _ _ _ _).tr (Kept.alloc _ _ _ _ _)
  have H1 := Hid.mk' (h1.kept k1)
  have H2 := Hid.mk' (h2.kept k1)
  have HK := Hid.mk' k1
  clear h1 h2 k1
  go_enter Try.func36, Try.ntmps36
  go_wp2_with (go_at_call 59; refine (rsame_ints H1.out H2.out).mono ?_; rintro e w2 ⟨rfl, hk2⟩)
  go_ret
  exact ⟨rfl, HK.out.tr hk2⟩
set_option maxRecDepth 100000 in
set_option maxHeartbeats 2000000 in
theorem rsamePlans_yes {a a' : Option Addr} {n c c' : Nat} {l : List Pl} {w : World} (h1 : Plans w a n c l) (h2 : Plans w a' n c' l) : Calls Try.prog 17 #[.slice a n c, .slice a' n c'] w fun e w' => e = .returned (.bool true) ∧ Kept w w' none := by
  have H1 := Hid.mk' h1
  have H2 := Hid.mk' h2
  have hn : n ≤ 9223372036854775807 := by have := h1.cap.room; have := h1.cap.max; omega
  clear h1 h2
  go_enter Try.func17, Try.ntmps17
  go_wp2
  go_loopw [5] (fun i wr => ∃ k : Nat, k ≤ n ∧ i = .int .i64 k ∧ Kept w wr none) (fun i _ => n - (intOf i).toNat)
  case atStart => exact ⟨0, Nat.zero_le _, rfl, Kept.refl _ _⟩
  case round =>
    obtain ⟨k, hk, rfl, hkw⟩ := hrel
    by_cases hlt : k < n
    · obtain ⟨b, o, r, rc, rfl, p0, p1, p2, hI⟩ := H1.out.at_ hlt
      obtain ⟨b', o', r', rc', rfl, p0', p1', p2', hI'⟩ := H2.out.at_ hlt
      generalize l.getD k q0 = p at *
      have g0 : ∀ w', Kept w w' none → w'.cell? ⟨b, o + k * 3, none⟩ = some (.int .i64 p.cycle) := fun w' q => cell_kept0 p0 q
      have g1 : ∀ w', Kept w w' none → w'.cell? ⟨b, o + k * 3 + 1, none⟩ = some (.int .i64 p.offset) := fun w' q => cell_kept0 p1 q
      have g2 : ∀ w', Kept w w' none → w'.cell? ⟨b, o + k * 3 + 2, none⟩ = some (.slice r p.splits.length rc) := fun w' q => cell_kept0 p2 q
      have g3 : ∀ w', Kept w w' none → w'.cell? ⟨b', o' + k * 3, none⟩ = some (.int .i64 p.cycle) := fun w' q => cell_kept0 p0' q
      have g4 : ∀ w', Kept w w' none → w'.cell? ⟨b', o' + k * 3 + 1, none⟩ = some (.int .i64 p.offset) := fun w' q => cell_kept0 p1' q
      have g5 : ∀ w', Kept w w' none → w'.cell? ⟨b', o' + k * 3 + 2, none⟩ = some (.slice r' p.splits.length rc') := fun w' q => cell_kept0 p2' q
      have HI := Hid.mk' hI
      have HI' := Hid.mk' hI'
      clear hI hI' p0 p1 p2 p0' p1' p2'
      go_wp2
      refine Code.wp_mono (Q := Rg ?A1 w) ?cont1 ?reg1
      case reg1 =>
        repeat (rename_i hh; clear hh)
        refine wp_region_held_drew (S := fun w' => Kept w w' none) (by kernel_rfl) (Kept.tr hkw (Kept.drew _ _)) (fun hHeld => ?_)
        refine held_take (i := 0) (v := ?v2) rfl rfl (by kernel_rfl) (by kernel_rfl) (by kernel_rfl) (fun _ _ _ h => h) (Or.inl ⟨by rfl, ?hy2⟩) hHeld ?rest2
        case hy2 => first | (intro w hSw; (try dsimp only at hSw); go_simp; done) | (intro w hSw; (try dsimp only at hSw); go_simp; with_reducible rfl)
        try simp only [List.setIfInBounds_toArray, List.set_cons_zero, List.set_cons_succ]
        refine held_take (i := 1) (v := ?v3) rfl rfl (by kernel_rfl) (by kernel_rfl) (by kernel_rfl) (fun _ _ _ h => h) (Or.inl ⟨by rfl, ?hy3⟩) hHeld ?rest3
        case hy3 => first | (intro w hSw; (try dsimp only at hSw); go_simp; done) | (intro w hSw; (try dsimp only at hSw); go_simp; with_reducible rfl)
        try simp only [List.setIfInBounds_toArray, List.set_cons_zero, List.set_cons_succ]
        refine held_take (i := 2) (v := ?v4) rfl rfl (by kernel_rfl) (by kernel_rfl) (by kernel_rfl) (fun _ _ _ h => h) (Or.inl ⟨by rfl, ?hy4⟩) hHeld ?rest4
        case hy4 => first | (intro w hSw; (try dsimp only at hSw); go_simp; done) | (intro w hSw; (try dsimp only at hSw); go_simp; with_reducible rfl)
        try simp only [List.setIfInBounds_toArray, List.set_cons_zero, List.set_cons_succ]
        refine held_take (i := 3) (v := ?v5) rfl rfl (by kernel_rfl) (by kernel_rfl) (by kernel_rfl) (fun _ _ _ h => h) (Or.inl ⟨by rfl, ?hy5⟩) hHeld ?rest5
        case hy5 => first | (intro w hSw; (try dsimp only at hSw); go_simp; done) | (intro w hSw; (try dsimp only at hSw); go_simp; with_reducible rfl)
        try simp only [List.setIfInBounds_toArray, List.set_cons_zero, List.set_cons_succ]
        refine held_take (i := 4) (v := ?v6) rfl rfl (by kernel_rfl) (by kernel_rfl) (by kernel_rfl) (fun _ _ _ h => h) (Or.inl ⟨by rfl, ?hy6⟩) hHeld ?rest6
        case hy6 => first | (intro w hSw; (try dsimp only at hSw); go_simp; done) | (intro w hSw; (try dsimp only at hSw); go_simp; with_reducible rfl)
        try simp only [List.setIfInBounds_toArray, List.set_cons_zero, List.set_cons_succ]
        refine held_take (i := 5) (v := ?v7) rfl rfl (by kernel_rfl) (by kernel_rfl) (by kernel_rfl) (fun _ _ _ h => h) (Or.inl ⟨by rfl, ?hy7⟩) hHeld ?rest7
        case hy7 => first | (intro w hSw; (try dsimp only at hSw); go_simp; done) | (intro w hSw; (try dsimp only at hSw); go_simp; with_reducible rfl)
        try simp only [List.setIfInBounds_toArray, List.set_cons_zero, List.set_cons_succ]
        refine held_take (i := 6) (v := ?v8) rfl rfl (by kernel_rfl) (by kernel_rfl) (by kernel_rfl) (fun _ _ _ h => h) (Or.inl ⟨by rfl, ?hy8⟩) hHeld ?rest8
        case hy8 => first | (intro w hSw; (try dsimp only at hSw); go_simp; done) | (intro w hSw; (try dsimp only at hSw); go_simp; with_reducible rfl)
        try simp only [List.setIfInBounds_toArray, List.set_cons_zero, List.set_cons_succ]
        refine held_take (i := 7) (v := ?v9) rfl rfl (by kernel_rfl) (by kernel_rfl) (by kernel_rfl) (fun _ _ _ h => h) (Or.inl ⟨by rfl, ?hy9⟩) hHeld ?rest9
        case hy9 => first | (intro w hSw; (try dsimp only at hSw); go_simp; done) | (intro w hSw; (try dsimp only at hSw); go_simp; with_reducible rfl)
        try simp only [List.setIfInBounds_toArray, List.set_cons_zero, List.set_cons_succ]
        refine wpAnyH_ready (rs := [8]) (by kernel_rfl) (by simp) ?_
        refine AllReadyH.cons rfl (fun K hK => ?_) AllReadyH.nil
        go_simp
        go_wp2_with (go_at_call 36; refine (rsamePlan_yes (HI.out.kept hHeld) (HI'.out.kept hHeld)).mono ?_; rintro e wS ⟨rfl, hkS⟩; have hKS : Kept w wS none := Kept.tr hHeld hkS)
        replace hK := hK.out
        refine hK _ _ hKS (fun hHeld => ?_)
        clear hK K
        refine held_take (i := 9) (v := ?v10) rfl rfl (by kernel_rfl) (by kernel_rfl) (by kernel_rfl) (fun _ _ _ h => h) (Or.inl ⟨by rfl, ?hy10⟩) hHeld ?rest10
        case hy10 => first | (intro w hSw; (try dsimp only at hSw); go_simp; done) | (intro w hSw; (try dsimp only at hSw); go_simp; with_reducible rfl)
        try simp only [List.setIfInBounds_toArray, List.set_cons_zero, List.set_cons_succ]
        refine wpAnyH_done (by kernel_rfl) ?_ _
        refine And.intro ?_ hHeld
        with_reducible rfl
      case cont1 =>
      intro e a' w' hq
      obtain ⟨rfl, rfl, hkq⟩ := hq.out
      go_wp2
      go_roundw
      case rel => exact ⟨k + 1, by omega, by go_num, hkq⟩
      case measure => simp [intOf]; omega
    · go_wp2
      go_ret
      exact ⟨rfl, hkw⟩

end Go.Proofs.Ytlabjamkaebnjaa

/-
  WHAT THE LAWS CALL BESIDE THE PROGRAM: one, large, much, done.
-/
namespace Go.Proofs.Ytlabjamkaebnjaa
open Go.RowKit Go.Lib Go.Deep
set_option linter.unusedVariables false
set_option linter.unusedSimpArgs false

theorem capL0 : Cap none 0 0 := ⟨fun _ => ⟨rfl, rfl⟩, Nat.le_refl _, Nat.zero_le _⟩
def SLpt (l : List Pl) : St := ⟨0, [], [], [], [], [], 0, 0, 0, 0, 0, l⟩
def XLpt (a : Option Addr) (c : Nat) : Sa := ⟨none, 0, none, 0, none, 0, none, 0, none, 0, a, c⟩
theorem sat_lpt {w : World} {a : Option Addr} {c : Nat} {l : List Pl} (h : Plans w a l.length c l) : Sat w (XLpt a c) (SLpt l) := by
  have hi : i64B 0 := by unfold i64B; omega
  exact ⟨⟨fun h => absurd h (Nat.lt_irrefl 0)⟩, ⟨fun h => absurd h (Nat.lt_irrefl 0)⟩, ⟨⟨fun _ => (none, 0), ⟨fun h => absurd h (Nat.lt_irrefl 0)⟩, fun i h => absurd h (Nat.not_lt_zero i)⟩, rfl, capL0⟩, ⟨fun h => absurd h (Nat.lt_irrefl 0)⟩, ⟨fun h => absurd h (Nat.lt_irrefl 0)⟩, h, capL0, capL0, capL0, capL0, fun g h => (nomatch h), fun g h => (nomatch h), fun g h => (nomatch h), fun g h => (nomatch h), hi, hi, hi, hi, hi, hi⟩
/-- Some answer, yes or no. -/
def BoP (w : World) (e : Ending) (w' : World) : Prop := ∃ b, e = .returned (.bool b) ∧ Kept w w' none
theorem large_any {a : Option Addr} {n c : Nat} {l : List Pl} {w : World} (hP : Plans w a n c l) : Calls Try.prog 4 #[.slice a n c] w (BoP w) := by
  have hs := hP.size
  subst hs
  have HG := Hid.mk' (rgreat_any (sat_lpt hP))
  unfold siteV XLpt SLpt at HG
  dsimp only [List.length_nil] at HG
  clear hP
  go_enter Try.func4, Try.ntmps4
  go_wp2_with (go_at_call 18; refine HG.out.mono ?_; rintro e w2 ⟨g, rfl, _, hk2⟩)
  go_ret
  exact ⟨g, rfl, hk2⟩
/-! ### done -/
def dnB (L : List Nat) (m : Nat) (l : List Pl) (wh tn : Int) : Bool := decide (ptE L m l = 0) && decide (doE L.length (ptL L m l) (min wh ((ptL L m l).length : Int)) tn = 0)
def dnL (L : List Nat) (m : Nat) (l : List Pl) (wh tn : Int) : List Nat := if ptE L m l = 0 then doL L (ptL L m l) (min wh ((ptL L m l).length : Int)) tn else L
def DonP (w : World) (L : List Nat) (m : Nat) (l : List Pl) (wh tn : Int) (e : Ending) (w' : World) : Prop := ∃ a n c, e = .returned (.tuple #[dvV a n c, .bool (dnB L m l wh tn)]) ∧ Come w' a n c (dnL L m l wh tn) ∧ Kept w w' none
end Go.Proofs.Ytlabjamkaebnjaa

/-
  THE CONTRACT of the law's same (made by a program).
-/
namespace Go.Proofs.Ytlabjamkaebnjaa
open Go.RowKit Go.Lib Go.Deep
set_option linter.unusedVariables false
set_option linter.unusedSimpArgs false

/-- Two devices tell the same when they are read. -/
def SamR (A B : List Nat) : Prop := rdE19 A = rdE19 B ∧ rdK19 A = rdK19 B
end Go.Proofs.Ytlabjamkaebnjaa

/-
  WHAT done TELLS, in numbers; the example that the laws begin with.
-/
namespace Go.Proofs.Ytlabjamkaebnjaa
open Go.RowKit Go.Lib Go.Deep
set_option linter.unusedVariables false
set_option linter.unusedSimpArgs false

theorem wr_all {m : Nat} (hm : m % 64 = 0) : ∀ {l : List Pw}, (∀ p ∈ l, okP m p) → wrE m l = 0
  | [], _ => rfl
  | p :: l, h => by
    obtain ⟨h1, h2, h3⟩ := h p (List.mem_cons_self ..)
    have hv : hasV m p.n = true := (has_iff hm).2 ⟨h1, h2⟩
    unfold wrE
    rw [if_pos hv, if_pos h3]
    exact wr_all hm (fun q hq => h q (List.mem_cons_of_mem _ hq))
theorem doE_ok {L : List Nat} {m : Nat} {l : List Pl} (h : PtOk L m l) {k t : Nat} (hk : k ≤ manK L.length) (ht : t ≤ 64) : doE L.length (ptW L m l) (k : Int) (t : Int) = 0 ∧ doL L (ptW L m l) (k : Int) (t : Int) = doD (ptW L m l) k t L := by
  obtain ⟨q1, q2, q3, q4, q5, q6, q7⟩ := ask_ok h.ask
  have hw := wr_all q1 (pw_ok h)
  have hc : cwE L.length (ptW L m l) = 0 := by unfold cwE; rw [if_pos q7, hw]
  have hE : doE L.length (ptW L m l) (k : Int) (t : Int) = 0 := by
    unfold doE
    rw [if_pos hc, if_pos]
    rw [pw_len']
    exact ⟨by omega, by omega, by omega, by omega⟩
  refine ⟨hE, ?_⟩
  unfold doL
  rw [if_pos hE, Int.toNat_natCast, Int.toNat_natCast]
theorem dn_ok {L : List Nat} {m : Nat} {l : List Pl} (h : PtOk L m l) {k t : Nat} (ht : t ≤ 64) : dnB L m l (k : Int) (t : Int) = true ∧ dnL L m l (k : Int) (t : Int) = doD (ptW L m l) (min k (manK L.length)) t L := by
  have hE : ptE L m l = 0 := by unfold ptE; rw [if_pos h.ask, if_pos h.md, if_pos h.pie, if_pos h.gt]
  have hlen : (ptL L m l).length = manK L.length := by rw [h.list, pw_len']
  have e : min (k : Int) ((ptL L m l).length : Int) = ((min k (manK L.length) : Nat) : Int) := by rw [hlen]; omega
  obtain ⟨q1, q2⟩ := doE_ok h (k := min k (manK L.length)) (t := t) (Nat.min_le_right _ _) ht
  unfold dnB dnL
  rw [e, h.list, decide_eq_true hE, if_pos hE, q1, q2]
  exact ⟨rfl, rfl⟩
theorem dn_no {L : List Nat} {m : Nat} {l : List Pl} {wh tn : Int} (h : ptE L m l ≠ 0) : dnB L m l wh tn = false ∧ dnL L m l wh tn = L := by
  unfold dnB dnL
  rw [decide_eq_false h, if_neg h]
  exact ⟨rfl, rfl⟩
/-- What is read of the same Ct is the same. -/
theorem sam_ct {A B : List Nat} (hl : A.length = B.length) (h : ctK A = ctK B) : SamR A B := by
  have e : rdE19 A = rdE19 B := by unfold rdE19; rw [hl, h]
  refine ⟨e, ?_⟩
  unfold rdK19
  rw [e, h]
theorem rd_new {X : List Nat} {N m : Nat} {l : List Pl} (ha : askE X.length = 0) (h : ctK X = ⟨N, m, l⟩) (hN : 1 ≤ N) : rdE19 X = 0 ∧ rdK19 X = ⟨N, m, l⟩ := by
  have e : rdE19 X = 0 := by
    unfold rdE19
    rw [if_pos ha, h, if_pos (show 0 < N by omega)]
  exact ⟨e, by unfold rdK19; rw [if_pos e, h]⟩
/-- Where just what is put is read, what was read is another thing. -/
theorem sam_not {A B : List Nat} {N m : Nat} {l : List Pl} (ha : askE A.length = 0) (h : ctK A = ⟨N, m, l⟩) (hN : (ctK B).gen < N) : rdE19 A ≠ rdE19 B ∨ (rdK19 A).gen ≠ (rdK19 B).gen := by
  obtain ⟨e1, e2⟩ := rd_new ha h (by omega)
  by_cases hB : rdE19 B = 0
  · right
    rw [e2]
    unfold rdK19
    rw [if_pos hB]
    show N ≠ _
    omega
  · left
    rw [e1]
    exact fun q => hB q.symm
/-! ### The example -/
def p51 : Pl := ⟨5, 0, [5]⟩
def z256 : List Nat := List.replicate 256 0
theorem al_ask : askE z256.length = 0 := by decide +kernel
theorem al_pie : pieE 2 [p51] (manK z256.length) = 0 := by decide +kernel
theorem al_gen : ptN z256 = 1 := by decide +kernel
theorem al_ok : PtOk z256 2 [p51] := ⟨al_ask, by omega, al_pie, by rw [al_gen]; decide⟩
def a256 : List Nat := doD (ptW z256 2 [p51]) 2 0 z256
theorem al_dn : dnB z256 2 [p51] 99 0 = true ∧ dnL z256 2 [p51] 99 0 = a256 := by
  have h := dn_ok al_ok (k := 99) (t := 0) (by omega)
  have e : min 99 (manK z256.length) = 2 := by decide +kernel
  rw [e] at h
  exact h
theorem al_rd : rdE19 a256 = 0 ∧ rdK19 a256 = ⟨1, 2, [p51]⟩ := by
  have e : manK z256.length = 2 := by decide +kernel
  have h := done_read al_ok 0 (by omega)
  rw [e, al_gen] at h
  have hl : a256.length = z256.length := x_len al_ok (by omega)
  exact rd_new (by rw [hl]; exact al_ask) h (by omega)
theorem al_fo : foE 4 = 0 ∧ foL 4 = z256 := by
  have e : foE 4 = 0 := by decide +kernel
  refine ⟨e, ?_⟩
  unfold foL
  rw [if_pos e]
  rfl

end Go.Proofs.Ytlabjamkaebnjaa

/-
  THE CONTRACTS of the laws' one and alive (made by a program).
-/
namespace Go.Proofs.Ytlabjamkaebnjaa
open Go.RowKit Go.Lib Go.Deep
set_option linter.unusedVariables false
set_option linter.unusedSimpArgs false

/-- A block of one slice is no block of bytes. -/
theorem come_setB {w : World} {a : Option Addr} {n c : Nat} {L : List Nat} {b : Nat} {t : TypeId} {x : Option Addr} {y z : Nat} (h : Come w a n c L) (hr : w.rowIs b t 1 (fun _ => .slice x y z)) (i : Nat) (v : Value) : Come (w.setCell ⟨b, i, none⟩ v) a n c L := by
  by_cases hp : 0 < n
  · refine h.kptR (dkept_set w b i v) (fun q e f => ?_)
    obtain ⟨b', off, e', hb, hc⟩ := h.by_.at_ hp
    rw [e'] at e
    cases e
    dsimp only at f
    subst f
    have h1 := hc 0 hp
    rw [Nat.add_zero] at h1
    obtain ⟨cs, e1, e2, e3⟩ := hr
    by_cases h0 : off = 0
    · subst h0
      have h2 := World.rowIs.cell (w := w) (b := b') (t := t) (n := 1) (f := fun _ => .slice x y z) ⟨cs, e1, e2, e3⟩ (i := 0) (by omega)
      rw [h2] at h1
      cases h1
    · unfold World.cell? at h1
      rw [e1] at h1
      simp at h1
      have : cs[off]? = none := by rw [Array.getElem?_eq_none (by omega)]
      rw [this] at h1
      cases h1
  · exact ⟨⟨h.by_.size, h.by_.max, h.by_.lt, fun q => absurd q hp⟩, h.nil, h.room, h.max⟩
theorem row1 (w : World) (v : Value) (t : TypeId) : (w.alloc (.cells #[v] t)).rowIs w.heap.size t 1 (fun _ => v) := World.rowIs_alloc w #[v] t _ (fun i hi => by simp at hi; subst hi; rfl)
/-- Behind the region that does the put. -/
def ALQ (W : World) (b1 : Nat) (a1 : Option Addr) (n1 c1 : Nat) (e : Exit) (act : Act) (w' : World) : Prop := match e with
  | .normal => ∃ b3 a3 n3 c3 g, act = { tmps := #[.bool false, .pointer (some ⟨b1, 0, none⟩), .int .i64 0, .pointer (some ⟨b3, 0, none⟩), .bool true, undef, undef, .tuple #[dvV a1 n1 c1, .int .i64 0], .tuple #[dvV a1 n1 c1, .int .i64 0], dvV a1 n1 c1, .int .i64 0, .tuple #[dvV a3 n3 c3, .bool true], dvV a1 n1 c1, .slice (some ⟨g, 0, none⟩) 1 1, .tuple #[dvV a3 n3 c3, .bool true], dvV a3 n3 c3, .bool true, undef, undef, undef, undef, undef, undef, undef, undef, undef, undef, undef, undef, undef, undef, undef, undef, undef, undef, undef, undef, undef, undef, undef, undef, undef, undef, undef, undef, undef, undef], defers := [] } ∧ Hid (w'.cell? ⟨b3, 0, none⟩ = some (.slice a3 n3 c3)) ∧ Hid (Come w' a3 n3 c3 a256) ∧ Hid (Kept W w' none)
  | _ => False
theorem ALQ.out {W : World} {b1 : Nat} {a1 : Option Addr} {n1 c1 : Nat} {e : Exit} {act : Act} {w' : World} (h : ALQ W b1 a1 n1 c1 e act w') : e = .normal ∧ ALQ W b1 a1 n1 c1 .normal act w' := by
  cases e with
  | normal => exact ⟨rfl, h⟩
  | _ => exact h.elim
end Go.Proofs.Ytlabjamkaebnjaa

