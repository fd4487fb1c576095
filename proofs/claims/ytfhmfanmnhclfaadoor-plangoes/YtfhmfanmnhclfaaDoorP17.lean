import Derived.Test.YtfhmfanmnhclfaaDoorP16
namespace Go.Proofs.YtfhmfanmnhclfaaDoor
set_option linter.unusedVariables false
set_option linter.unusedSimpArgs false
open Go.RowKit Go.Lib Go.Deep

/-! ### Sums -/
def sumF (f : Nat → Int) : Nat → Int
  | 0 => 0
  | k + 1 => sumF f k + f k
theorem sumF_succ (f : Nat → Int) (k : Nat) : sumF f (k + 1) = sumF f k + f k := rfl
theorem sumF_congr {f g : Nat → Int} : ∀ {n : Nat}, (∀ i, i < n → f i = g i) → sumF f n = sumF g n
  | 0, _ => rfl
  | n + 1, h => by rw [sumF_succ, sumF_succ, sumF_congr (fun i hi => h i (by omega)), h n (by omega)]
theorem sumF_cons (f : Nat → Int) : ∀ n, sumF f (n + 1) = f 0 + sumF (fun i => f (i + 1)) n
  | 0 => by show 0 + f 0 = f 0 + 0; omega
  | n + 1 => by rw [sumF_succ, sumF_cons f n, sumF_succ]; omega
theorem sumF_add (f g : Nat → Int) : ∀ n, sumF (fun i => f i + g i) n = sumF f n + sumF g n
  | 0 => rfl
  | n + 1 => by rw [sumF_succ, sumF_succ, sumF_succ, sumF_add f g n]; omega
theorem sumF_ge {f : Nat → Int} : ∀ {n : Nat}, (∀ i, i < n → 0 ≤ f i) → 0 ≤ sumF f n
  | 0, _ => Int.le_refl _
  | n + 1, h => by rw [sumF_succ]; have := sumF_ge (f := f) (n := n) (fun i hi => h i (by omega)); have := h n (by omega); omega
theorem sumF_le {f g : Nat → Int} : ∀ {n : Nat}, (∀ i, i < n → f i ≤ g i) → sumF f n ≤ sumF g n
  | 0, _ => Int.le_refl _
  | n + 1, h => by rw [sumF_succ, sumF_succ]; have := sumF_le (f := f) (g := g) (n := n) (fun i hi => h i (by omega)); have := h n (by omega); omega
theorem sumF_one {f : Nat → Int} : ∀ {n i : Nat}, (∀ i, i < n → 0 ≤ f i) → i < n → f i ≤ sumF f n
  | 0, i, _, hi => by omega
  | n + 1, i, h, hi => by
    rw [sumF_succ]
    by_cases e : i = n
    · subst e; have := sumF_ge (f := f) (n := i) (fun k hk => h k (by omega)); omega
    · have := sumF_one (f := f) (n := n) (i := i) (fun k hk => h k (by omega)) (by omega); have := h n (by omega); omega
theorem sumF_zero {f : Nat → Int} {n : Nat} (h : ∀ i, i < n → 0 ≤ f i) (h0 : sumF f n = 0) : ∀ i, i < n → f i = 0 := fun i hi => by
  have := sumF_one h hi
  have := h i hi
  omega
/-! ### Splits -/
theorem partM_ge {S : St} (hs : siteB S = true) {i : Nat} (hi : i < S.phases.length) : 1 ≤ partM S i ∧ liesM S i ((i + 1) % S.phases.length) + (S.ph i).min = partM S i := by
  have := (ph_min hs hi).1
  have := liesM_ge S i ((i + 1) % S.phases.length)
  unfold partM
  omega
theorem splits_of {S : St} : ∀ (l : List Int) (i : Nat) (left : Int), (∀ k, k < l.length → 0 ≤ partM S (i + k) ∧ partM S (i + k) ≤ l.getD k 0) → sumF (fun k => l.getD k 0) l.length = left → splitsB S i l left = true
  | [], i, left, _, h => by
    have : left = 0 := h.symm
    subst this
    rfl
  | x :: l, i, left, h, hs => by
    rw [List.length_cons, sumF_cons] at hs
    have hx := h 0 (by simp)
    have hr : ∀ k, k < l.length → 0 ≤ partM S (i + 1 + k) ∧ partM S (i + 1 + k) ≤ l.getD k 0 := fun k hk => by
      have := h (k + 1) (by simp; omega)
      rw [show i + (k + 1) = i + 1 + k by omega] at this
      simpa using this
    have h0 : 0 ≤ sumF (fun k => l.getD k 0) l.length := sumF_ge (fun k hk => by have := hr k hk; omega)
    have hs2 : x + sumF (fun k => l.getD k 0) l.length = left := by simpa using hs
    have hx2 : partM S i ≤ x := by simpa using hx.2
    show (inB x (partM S i) left && splitsB S (i + 1) l (left - x)) = true
    rw [Bool.and_eq_true]
    exact ⟨inB_iff.2 ⟨hx2, by omega⟩, splits_of l (i + 1) (left - x) hr (by omega)⟩
theorem splits_to {S : St} : ∀ (l : List Int) (i : Nat) (left : Int), splitsB S i l left = true → (∀ k, k < l.length → partM S (i + k) ≤ l.getD k 0) ∧ sumF (fun k => l.getD k 0) l.length = left
  | [], i, left, h => by
    have : left = 0 := of_decide_eq_true h
    exact ⟨fun k hk => by simp at hk, by rw [this]; rfl⟩
  | x :: l, i, left, h => by
    have h : (inB x (partM S i) left && splitsB S (i + 1) l (left - x)) = true := h
    rw [Bool.and_eq_true] at h
    obtain ⟨h1, h2⟩ := h
    have h1 := inB_iff.1 h1
    obtain ⟨a, b⟩ := splits_to l (i + 1) (left - x) h2
    refine ⟨fun k hk => ?_, ?_⟩
    · cases k with
      | zero => simpa using h1.1
      | succ k =>
        have := a k (by simp at hk; omega)
        rw [show i + (k + 1) = i + 1 + k by omega]
        simpa using this
    · rw [List.length_cons, sumF_cons]
      have : x + sumF (fun k => l.getD k 0) l.length = left := by omega
      simpa using this
/-- What a plan that may be one of a site tells. -/
structure PlF (S : St) (P : Pl) : Prop where
  n : P.splits.length = S.phases.length
  lo : S.low ≤ P.cycle
  hi : P.cycle ≤ S.high
  o0 : 0 ≤ P.offset
  o1 : P.offset < P.cycle
  sp : ∀ i, i < S.phases.length → partM S i ≤ P.splits.getD i 0
  tot : sumF (fun k => P.splits.getD k 0) S.phases.length = P.cycle
theorem plan_facts {S : St} {P : Pl} (h : planB S P = true) : PlF S P := by
  unfold planB at h
  simp only [Bool.and_eq_true, inB_iff, decide_eq_true_eq] at h
  obtain ⟨⟨⟨h1, h2⟩, h3⟩, h4⟩ := h
  obtain ⟨a, b⟩ := splits_to P.splits 0 P.cycle h4
  exact ⟨h3, h1.1, h1.2, h2.1, by omega, fun i hi => by have := a i (by omega); rwa [Nat.zero_add] at this, by rw [← h3]; exact b⟩
theorem plan_of {S : St} {P : Pl} (hs : siteB S = true) (h : PlF S P) : planB S P = true := by
  unfold planB
  simp only [Bool.and_eq_true, inB_iff, decide_eq_true_eq]
  have hk2 : ∀ k, k < P.splits.length → k < S.phases.length := fun k hk => by have := h.n; omega
  exact ⟨⟨⟨⟨h.lo, h.hi⟩, h.o0, by have := h.o1; omega⟩, h.n⟩, splits_of P.splits 0 P.cycle (fun k hk => by
    rw [Nat.zero_add]
    have := partM_ge hs (hk2 k hk)
    exact ⟨by omega, h.sp k (hk2 k hk)⟩) (by rw [h.n]; exact h.tot)⟩

/-! ### Whose part a tick is in -/
def spN (P : Pl) (i : Nat) : Nat := (P.splits.getD i 0).toNat
def preN (sp : Nat → Nat) : Nat → Nat
  | 0 => 0
  | k + 1 => preN sp k + sp k
theorem preN_succ (sp : Nat → Nat) (k : Nat) : preN sp (k + 1) = preN sp k + sp k := rfl
theorem preN_mono {sp : Nat → Nat} : ∀ {i j : Nat}, i ≤ j → preN sp i ≤ preN sp j
  | i, 0, h => by rw [show i = 0 by omega]; exact Nat.le_refl _
  | i, j + 1, h => by
    by_cases e : i = j + 1
    · rw [e]; exact Nat.le_refl _
    · have := preN_mono (sp := sp) (i := i) (j := j) (by omega); rw [preN_succ]; omega
/-- The part of a place, and how far in it: as many phases as there are left to look at. -/
def phF (sp : Nat → Nat) : Nat → Nat → Nat → Nat × Nat
  | 0, k, q => (k, q)
  | f + 1, k, q => if q < sp k then (k, q) else phF sp f (k + 1) (q - sp k)
theorem phF_at {sp : Nat → Nat} {i x : Nat} (hx : x < sp i) : ∀ (f k q : Nat), k ≤ i → i < k + f → preN sp i + x = preN sp k + q → phF sp f k q = (i, x)
  | 0, k, q, h1, h2, _ => by omega
  | f + 1, k, q, h1, h2, h3 => by
    show (if q < sp k then (k, q) else phF sp f (k + 1) (q - sp k)) = (i, x)
    by_cases e : k = i
    · subst e
      rw [if_pos (by omega), show q = x by omega]
    · have := preN_mono (sp := sp) (i := k + 1) (j := i) (by omega)
      rw [preN_succ] at this
      rw [if_neg (by omega)]
      exact phF_at hx f (k + 1) (q - sp k) (by omega) (by omega) (by rw [preN_succ]; omega)
theorem place_ex {sp : Nat → Nat} : ∀ {n q : Nat}, q < preN sp n → ∃ i x, i < n ∧ x < sp i ∧ q = preN sp i + x
  | 0, q, h => by exact absurd h (Nat.not_lt_zero _)
  | n + 1, q, h => by
    by_cases e : q < preN sp n
    · obtain ⟨i, x, a, b, c⟩ := place_ex e
      exact ⟨i, x, by omega, b, c⟩
    · rw [preN_succ] at h
      exact ⟨n, q - preN sp n, by omega, by omega, by omega⟩
/-- Where a tick lies in its cycle. -/
def placeN (P : Pl) (t : Nat) : Nat := (t + (P.cycle.toNat - P.offset.toNat)) % P.cycle.toNat
def partV (P : Pl) (t : Nat) : Nat × Nat := phF (spN P) P.splits.length 0 (placeN P t)
theorem pre_sum {S : St} {P : Pl} (hs : siteB S = true) (h : PlF S P) : ∀ k, k ≤ S.phases.length → ((preN (spN P) k : Nat) : Int) = sumF (fun i => P.splits.getD i 0) k
  | 0, _ => rfl
  | k + 1, hk => by
    have ih := pre_sum hs h k (by omega)
    have h1 := h.sp k (by omega)
    have h2 := partM_ge hs (i := k) (by omega)
    rw [preN_succ, sumF_succ, ← ih]
    unfold spN
    omega
theorem pre_tot {S : St} {P : Pl} (hs : siteB S = true) (h : PlF S P) : preN (spN P) S.phases.length = P.cycle.toNat ∧ 1 ≤ P.cycle.toNat ∧ P.offset.toNat < P.cycle.toNat := by
  have h1 := pre_sum hs h S.phases.length (Nat.le_refl _)
  rw [h.tot] at h1
  have := h.o0
  have := h.o1
  omega
theorem place_lt {S : St} {P : Pl} (hs : siteB S = true) (h : PlF S P) (t : Nat) : placeN P t < P.cycle.toNat := Nat.mod_lt _ (by have := pre_tot hs h; omega)
theorem part_is {S : St} {P : Pl} (hs : siteB S = true) (h : PlF S P) {t i x : Nat} (hi : i < S.phases.length) (hx : x < spN P i) (hp : placeN P t = preN (spN P) i + x) : partV P t = (i, x) :=
  phF_at hx P.splits.length 0 (placeN P t) (by omega) (by rw [h.n]; omega) (by rw [hp]; show _ = 0 + _; omega)
theorem part_ex {S : St} {P : Pl} (hs : siteB S = true) (h : PlF S P) (t : Nat) : ∃ i x, i < S.phases.length ∧ x < spN P i ∧ placeN P t = preN (spN P) i + x ∧ partV P t = (i, x) := by
  obtain ⟨i, x, a, b, c⟩ := place_ex (sp := spN P) (n := S.phases.length) (q := placeN P t) (by rw [(pre_tot hs h).1]; exact place_lt hs h t)
  exact ⟨i, x, a, b, c, part_is hs h a b c⟩
theorem nx_mod {n i : Nat} (h : i < n) : nxP n i = (i + 1) % n := by
  unfold nxP
  split
  · rename_i e; rw [e, Nat.mod_self]
  · rw [Nat.mod_eq_of_lt (by omega)]
/-- What lies behind a phase. -/
def gpN (S : St) (i : Nat) : Nat := (liesM S i ((i + 1) % S.phases.length)).toNat
/-! ### As many ticks as the cycle has -/

theorem cyc_facts {S : St} (hs : siteB S = true) : sumF (partM S) S.phases.length ≤ S.low ∧ S.low ≤ S.high ∧ S.high ≤ 1048576 := by
  have h : cyclesB S = true := by
    unfold siteB at hs
    simp only [Bool.and_eq_true] at hs
    exact hs.1.2
  unfold cyclesB at h
  simp only [Bool.and_eq_true, inB_iff] at h
  have hr : ∀ k, roundN S k = sumF (partM S) k := fun k => by
    induction k with
    | zero => rfl
    | succ k ih => rw [roundN, ih]; rfl
  have : roundM S = sumF (partM S) S.phases.length := hr _
  omega
def cycC (S : St) (P : Pl) : Int := if P.cycle < S.low then S.low else if S.high < P.cycle then S.high else P.cycle
def offC (S : St) (P : Pl) : Int := P.offset % cycC S P
def wshC (S : St) (P : Pl) (i : Nat) : Int := if i < P.splits.length ∧ partM S i < P.splits.getD i 0 then (if S.high < P.splits.getD i 0 then S.high else P.splits.getD i 0) - partM S i else 0
def allC (S : St) (P : Pl) : Int := sumF (wshC S P) S.phases.length
def rstC (S : St) (P : Pl) : Int := cycC S P - sumF (partM S) S.phases.length
def shrC (S : St) (P : Pl) (i : Nat) : Int := rstC S P * wshC S P i / allC S P
def lefC (S : St) (P : Pl) : Int := rstC S P - sumF (shrC S P) S.phases.length
def fstC (S : St) (P : Pl) : Nat := (firstN (wshC S P) S.phases.length).getD 0
def extC (S : St) (P : Pl) (i : Nat) : Int := if allC S P = 0 then (if i = 0 then rstC S P else 0) else shrC S P i + (if i = fstC S P then lefC S P else 0)
def splC (S : St) (P : Pl) (i : Nat) : Int := partM S i + extC S P i
/-- The plan next to any one. -/
def nearP (S : St) (P : Pl) : Pl := ⟨cycC S P, offC S P, (List.range S.phases.length).map (splC S P)⟩
theorem cycC_rng {S : St} (hs : siteB S = true) (P : Pl) : S.low ≤ cycC S P ∧ cycC S P ≤ S.high := by
  have := cyc_facts hs
  unfold cycC
  split
  · omega
  · split <;> omega
theorem rst_ge {S : St} (hs : siteB S = true) (P : Pl) : 0 ≤ rstC S P ∧ rstC S P ≤ 1048576 := by
  have := cyc_facts hs
  have := cycC_rng hs P
  have := sumF_ge (f := partM S) (n := S.phases.length) (fun i hi => by have := partM_ge hs hi; omega)
  unfold rstC
  omega
theorem part_low {S : St} (hs : siteB S = true) {i : Nat} (hi : i < S.phases.length) : partM S i ≤ S.low := by
  have := cyc_facts hs
  have := sumF_one (f := partM S) (n := S.phases.length) (i := i) (fun i hi => by have := partM_ge hs hi; omega) hi
  omega
theorem wsh_rng {S : St} (hs : siteB S = true) (P : Pl) {i : Nat} (hi : i < S.phases.length) : 0 ≤ wshC S P i ∧ wshC S P i ≤ 1048576 := by
  have h1 := cyc_facts hs
  have h2 := part_low hs hi
  have h3 := partM_ge hs hi
  unfold wshC
  split
  · split <;> omega
  · omega
theorem all_ge {S : St} (hs : siteB S = true) (P : Pl) : 0 ≤ allC S P := sumF_ge (fun i hi => (wsh_rng hs P hi).1)
theorem sumF_mul (c : Int) (f : Nat → Int) : ∀ n, sumF (fun i => c * f i) n = c * sumF f n
  | 0 => by show (0 : Int) = c * 0; omega
  | n + 1 => by rw [sumF_succ, sumF_mul c f n, sumF_succ, Int.mul_add]
theorem sumF_single (v : Int) (k : Nat) : ∀ n, sumF (fun i => if i = k then v else 0) n = if k < n then v else 0
  | 0 => by rw [if_neg (by omega)]; rfl
  | n + 1 => by
    rw [sumF_succ, sumF_single v k n]
    by_cases h1 : k < n
    · rw [if_pos h1, if_neg (show ¬ n = k by omega), if_pos (show k < n + 1 by omega)]; omega
    · rw [if_neg h1]
      by_cases h2 : n = k
      · rw [if_pos h2, if_pos (show k < n + 1 by omega)]; omega
      · rw [if_neg h2, if_neg (show ¬ k < n + 1 by omega)]; omega
theorem fst_lt {S : St} (hs : siteB S = true) (P : Pl) (h : allC S P ≠ 0) : fstC S P < S.phases.length ∧ wshC S P (fstC S P) ≠ 0 ∧ ∀ j, j < fstC S P → wshC S P j = 0 := by
  unfold fstC
  rcases firstN_cases (wshC S P) S.phases.length with ⟨_, e⟩ | ⟨k, e, hk, hl, hne⟩
  · exfalso
    refine h ?_
    unfold allC
    rw [sumF_congr (g := fun _ => 0) e]
    have : ∀ n, sumF (fun _ => 0) n = 0 := fun n => by
      induction n with
      | zero => rfl
      | succ n ih => rw [sumF_succ, ih]; rfl
    exact this _
  · rw [e]
    exact ⟨hk, hne, hl⟩
theorem shr_ge {S : St} (hs : siteB S = true) (P : Pl) {i : Nat} (hi : i < S.phases.length) : 0 ≤ shrC S P i := Int.ediv_nonneg (Int.mul_nonneg (rst_ge hs P).1 (wsh_rng hs P hi).1) (all_ge hs P)
theorem lef_ge {S : St} (hs : siteB S = true) (P : Pl) (h : allC S P ≠ 0) : 0 ≤ lefC S P := by
  have ha : 0 < allC S P := by have := all_ge hs P; omega
  have h1 : sumF (fun i => allC S P * shrC S P i) S.phases.length ≤ sumF (fun i => rstC S P * wshC S P i) S.phases.length := sumF_le (fun i hi => Int.mul_ediv_self_le (by omega))
  rw [sumF_mul, sumF_mul] at h1
  have h2 : rstC S P * sumF (wshC S P) S.phases.length = allC S P * rstC S P := Int.mul_comm _ _
  rw [h2] at h1
  have := Int.le_of_mul_le_mul_left h1 ha
  unfold lefC
  omega
theorem spl_sum {S : St} (hs : siteB S = true) (P : Pl) : sumF (splC S P) S.phases.length = cycC S P := by
  have hn : 0 < S.phases.length := (span_may hs).base.sh.ok.np.1
  have e : sumF (splC S P) S.phases.length = sumF (partM S) S.phases.length + sumF (extC S P) S.phases.length := sumF_add _ _ _
  rw [e]
  by_cases h : allC S P = 0
  · have e2 : sumF (extC S P) S.phases.length = sumF (fun i => if i = 0 then rstC S P else 0) S.phases.length := sumF_congr (fun i _ => by unfold extC; rw [if_pos h])
    rw [e2, sumF_single, if_pos hn]
    unfold rstC
    omega
  · have e2 : sumF (extC S P) S.phases.length = sumF (fun i => shrC S P i + (if i = fstC S P then lefC S P else 0)) S.phases.length := sumF_congr (fun i _ => by unfold extC; rw [if_neg h])
    rw [e2, sumF_add, sumF_single, if_pos (fst_lt hs P h).1]
    unfold lefC rstC
    omega
theorem spl_ge {S : St} (hs : siteB S = true) (P : Pl) {i : Nat} (hi : i < S.phases.length) : partM S i ≤ splC S P i := by
  unfold splC extC
  have h1 := (rst_ge hs P).1
  by_cases h : allC S P = 0
  · rw [if_pos h]; split <;> omega
  · rw [if_neg h]
    have := shr_ge hs P hi
    have := lef_ge hs P h
    split <;> omega
theorem near_get {S : St} {P : Pl} {i : Nat} (hi : i < S.phases.length) : (nearP S P).splits.getD i 0 = splC S P i := by simp [nearP, hi]
/-- It may be one of the site. -/
theorem near_may {S : St} (hs : siteB S = true) (P : Pl) : PlF S (nearP S P) := by
  have hc := cycC_rng hs P
  have h1 := cyc_facts hs
  have hp : 0 < cycC S P := by
    have hn : 0 < S.phases.length := (span_may hs).base.sh.ok.np.1
    have := part_low hs hn
    have := partM_ge hs hn
    omega
  refine ⟨by simp [nearP], hc.1, hc.2, Int.emod_nonneg _ (by omega), Int.emod_lt_of_pos _ hp, fun i hi => ?_, ?_⟩
  · rw [near_get hi]; exact spl_ge hs P hi
  · rw [sumF_congr (g := splC S P) (fun i hi => near_get hi)]
    exact spl_sum hs P
end Go.Proofs.YtfhmfanmnhclfaaDoor
