/-
  Texts joined: some of those that the proofs of this seat stand on.
-/
import Derived.Test.YtkbhcpgdhbfhnaaDoorToldAJ
import Derived.Test.YtkbhcpgdhbfhnaaDoorRefG
/-
  THE WALK of GateLater (made by a program).
-/
namespace Go.Proofs.YtkbhcpgdhbfhnaaDoor
open Go.RowKit Go.Lib Go.Deep
set_option linter.unusedVariables false
set_option linter.unusedSimpArgs false

theorem By.drop9 {w : World} {b off n : Nat} {L : List Nat} (h : By w (some ⟨b, off, none⟩) n L) (k : Nat) (hk : k ≤ n) : By w (some ⟨b, off + k, none⟩) (n - k) (L.drop k) := by
  obtain ⟨h1, h2, h3, h4⟩ := h
  refine ⟨by simp; omega, by omega, fun x hx => h3 x (List.mem_of_mem_drop hx), fun hp => ?_⟩
  obtain ⟨b', off', e, hb, hc⟩ := h4 (by omega)
  injection e with e
  injection e with e1 e2
  subst e1 e2
  refine ⟨b, off + k, rfl, hb, fun i hi => ?_⟩
  rw [Nat.add_assoc, hc (k + i) (by omega)]
  simp
theorem Mine.row9 {w : World} {base : Nat} {a : Option Addr} {n cap : Nat} {L : List Nat} (h : Mine w base a n cap L) (hp : 0 < n) : ∃ (g : Nat) (f : Nat → Value), a = some ⟨g, 0, none⟩ ∧ base ≤ g ∧ n ≤ cap ∧ w.rowIs g 5 cap (fun j => if j < n then .int .u8 ((lg L j : Nat) : Int) else f j) := by
  have hl : L.length = n := by have := h.own.1; simpa using this
  have hd := h.own.2
  rcases id hd with ⟨e, h0⟩ | ⟨g, cap', cur, e, hb, hh, hle, hmx, hsz, htk⟩
  · omega
  · injection e with e1 e2 e3
    subst e1 e3
    refine ⟨g, fun j => (cur[j]?).getD (.bool false), rfl, hb, hle, cur, hh, by omega, fun i hi => ?_⟩
    show cur[i]? = some (if i < n then _ else _)
    by_cases hin : i < n
    · rw [if_pos hin]
      have : (cur.toList.take (n * 1))[i]? = (L.map byteV)[i]? := by rw [htk]
      rw [List.getElem?_take_of_lt (by omega)] at this
      simp [show i < L.length by omega] at this
      simp [this, lg, show i < L.length by omega]
    · rw [if_neg hin]
      have : i < cur.size := by omega
      simp [this]
theorem lg_take9 {L O : List Nat} {q i : Nat} (hi : i < q) (hl : i < L.length) : lg (L.take q ++ O.drop q) i = lg L i := by
  unfold lg
  rw [List.getD_eq_getElem?_getD, List.getD_eq_getElem?_getD, List.getElem?_append_left (by simp; omega), List.getElem?_take_of_lt hi]
/-- What is asked, with others behind a place, but of those that are not red. -/
def mixJ (F : Sf) (L M : List Nat) (j : Nat) : Nat := if (F.g j).asp = 1 then lg M j else lg L j
def mixK (F : Sf) (L M : List Nat) (k j : Nat) : Nat := if j < k then mixJ F L M j else lg M j
theorem mixK_succ (F : Sf) (L M : List Nat) (k : Nat) : mixK F L M (k + 1) = fun j => if j = k then mixJ F L M k else mixK F L M k j := by
  funext j
  unfold mixK
  by_cases h : j = k
  · subst h; simp
  · rw [if_neg h]
    by_cases h2 : j < k
    · rw [if_pos h2, if_pos (by omega)]
    · rw [if_neg h2, if_neg (by omega)]
def mixL (F : Sf) (L M : List Nat) (n : Nat) : List Nat := (List.range n).map (mixJ F L M)
theorem mixL_len (F : Sf) (L M : List Nat) (n : Nat) : (mixL F L M n).length = n := by simp [mixL]
theorem mixL_lg {F : Sf} {L M : List Nat} {n i : Nat} (h : i < n) : lg (mixL F L M n) i = mixJ F L M i := by simp [mixL, lg, h]
theorem mixL_lt {F : Sf} {L M : List Nat} {n : Nat} (h1 : ∀ x ∈ L, x < 256) (h2 : ∀ x ∈ M, x < 256) (h3 : L.length = n) (h4 : M.length = n) : ∀ x ∈ mixL F L M n, x < 256 := by
  intro x hx
  simp only [mixL, List.mem_map, List.mem_range] at hx
  obtain ⟨i, hi, rfl⟩ := hx
  unfold mixJ
  split
  · exact h2 _ (lg_mem (by omega))
  · exact h1 _ (lg_mem (by omega))
set_option maxRecDepth 100000 in
set_option maxHeartbeats 4000000 in
theorem glat_early {X : Sa} {S : St} {w : World} {a : Option Addr} {c : Nat} {F : Sf} {al ao : Option Addr} {n cl m co : Nat} {L O : List Nat} {at_ : Int} (h : Sat w X S) (hT : Tabb w) (hF : SafeAt w a c F) (hB : By w al n L) (hO : By w ao m O) (hC : Cap al n cl) (hD : Cap ao m co) (hno : ¬ (F.groups.length ≤ 100 ∧ n ≤ 100 ∧ m = n ∧ 0 ≤ at_ ∧ at_ ≤ n ∧ F.groups.length = n)) : Calls Tryd.prog 8 #[siteV X S, safeV a c F, .slice al n cl, .slice ao m co, .int .i64 at_] w fun e w' => e = .returned (.bool true) ∧ Below w.heap.size w w' := by
  have k1 : Kept w (w.alloc (.cells #[.int .i64 S.id, .slice X.g S.groups.length X.gc, .slice X.a S.apart.length X.ac, .slice X.b S.between.length X.bc, .slice X.p S.phases.length X.pc, .slice X.e S.eyes.length X.ec, .int .i64 S.watch, .int .i64 S.feed, .int .i64 S.heal, .int .i64 S.low, .int .i64 S.high, .slice X.l S.plans.length X.lc] 34)) none := Kept.alloc _ _ _ _ _
  have k2 : Kept (w.alloc (.cells #[.int .i64 S.id, .slice X.g S.groups.length X.gc, .slice X.a S.apart.length X.ac, .slice X.b S.between.length X.bc, .slice X.p S.phases.length X.pc, .slice X.e S.eyes.length X.ec, .int .i64 S.watch, .int .i64 S.feed, .int .i64 S.heal, .int .i64 S.low, .int .i64 S.high, .slice X.l S.plans.length X.lc] 34)) ((w.alloc (.cells #[.int .i64 S.id, .slice X.g S.groups.length X.gc, .slice X.a S.apart.length X.ac, .slice X.b S.between.length X.bc, .slice X.p S.phases.length X.pc, .slice X.e S.eyes.length X.ec, .int .i64 S.watch, .int .i64 S.feed, .int .i64 S.heal, .int .i64 S.low, .int .i64 S.high, .slice X.l S.plans.length X.lc] 34)).alloc (.cells #[.slice a F.groups.length c, .int .i64 F.start, .bool F.flashed] 41)) none := Kept.alloc _ _ _ _ _
  have hsb := (sbox_alloc h 34).kept k2
  have bn := box_alloc (w.alloc (.cells #[.int .i64 S.id, .slice X.g S.groups.length X.gc, .slice X.a S.apart.length X.ac, .slice X.b S.between.length X.bc, .slice X.p S.phases.length X.pc, .slice X.e S.eyes.length X.ec, .int .i64 S.watch, .int .i64 S.feed, .int .i64 S.heal, .int .i64 S.low, .int .i64 S.high, .slice X.l S.plans.length X.lc] 34)) (.slice a F.groups.length c) (.int .i64 F.start) (.bool F.flashed) 41
  rw [World.size_alloc] at bn
  have hkA := k1.tr k2
  obtain ⟨WA, hWA⟩ : ∃ WA, ((w.alloc (.cells #[.int .i64 S.id, .slice X.g S.groups.length X.gc, .slice X.a S.apart.length X.ac, .slice X.b S.between.length X.bc, .slice X.p S.phases.length X.pc, .slice X.e S.eyes.length X.ec, .int .i64 S.watch, .int .i64 S.feed, .int .i64 S.heal, .int .i64 S.low, .int .i64 S.high, .slice X.l S.plans.length X.lc] 34)).alloc (.cells #[.slice a F.groups.length c, .int .i64 F.start, .bool F.flashed] 41)) = WA := ⟨_, rfl⟩
  rw [hWA] at hsb bn hkA
  have HSB := Hid.mk' hsb
  have HBN := Hid.mk' bn
  have HK := Hid.mk' hkA
  have HS := Hid.mk' (h.kept hkA)
  have HT := Hid.mk' (hT.kept hkA)
  have HF := Hid.mk' (hF.kept hkA)
  have HB := Hid.mk' (hB.kept hkA)
  have hBm := hB.max
  have n0_ : ∀ w', Kept WA w' none → w'.cell? ⟨w.heap.size + 1, 0, none⟩ = some (.slice a F.groups.length c) := fun w' q => (HBN.out.kept q).c0
  have n1_ : ∀ w', Kept WA w' none → w'.cell? ⟨w.heap.size + 1, 1, none⟩ = some (.int .i64 F.start) := fun w' q => (HBN.out.kept q).c1
  have n2_ : ∀ w', Kept WA w' none → w'.cell? ⟨w.heap.size + 1, 2, none⟩ = some (.bool F.flashed) := fun w' q => (HBN.out.kept q).c2
  have s0_ : ∀ w', Kept WA w' none → w'.cell? ⟨w.heap.size, 0, none⟩ = some (.int .i64 S.id) := fun w' q => (HSB.out.kept q).c0
  have s1_ : ∀ w', Kept WA w' none → w'.cell? ⟨w.heap.size, 1, none⟩ = some (.slice X.g S.groups.length X.gc) := fun w' q => (HSB.out.kept q).c1
  have s2_ : ∀ w', Kept WA w' none → w'.cell? ⟨w.heap.size, 2, none⟩ = some (.slice X.a S.apart.length X.ac) := fun w' q => (HSB.out.kept q).c2
  have s3_ : ∀ w', Kept WA w' none → w'.cell? ⟨w.heap.size, 3, none⟩ = some (.slice X.b S.between.length X.bc) := fun w' q => (HSB.out.kept q).c3
  have s4_ : ∀ w', Kept WA w' none → w'.cell? ⟨w.heap.size, 4, none⟩ = some (.slice X.p S.phases.length X.pc) := fun w' q => (HSB.out.kept q).c4
  have s5_ : ∀ w', Kept WA w' none → w'.cell? ⟨w.heap.size, 5, none⟩ = some (.slice X.e S.eyes.length X.ec) := fun w' q => (HSB.out.kept q).c5
  have s6_ : ∀ w', Kept WA w' none → w'.cell? ⟨w.heap.size, 6, none⟩ = some (.int .i64 S.watch) := fun w' q => (HSB.out.kept q).c6
  have s7_ : ∀ w', Kept WA w' none → w'.cell? ⟨w.heap.size, 7, none⟩ = some (.int .i64 S.feed) := fun w' q => (HSB.out.kept q).c7
  have s8_ : ∀ w', Kept WA w' none → w'.cell? ⟨w.heap.size, 8, none⟩ = some (.int .i64 S.heal) := fun w' q => (HSB.out.kept q).c8
  have s9_ : ∀ w', Kept WA w' none → w'.cell? ⟨w.heap.size, 9, none⟩ = some (.int .i64 S.low) := fun w' q => (HSB.out.kept q).c9
  have s10_ : ∀ w', Kept WA w' none → w'.cell? ⟨w.heap.size, 10, none⟩ = some (.int .i64 S.high) := fun w' q => (HSB.out.kept q).c10
  have s11_ : ∀ w', Kept WA w' none → w'.cell? ⟨w.heap.size, 11, none⟩ = some (.slice X.l S.plans.length X.lc) := fun w' q => (HSB.out.kept q).c11
  have hK0 := Kept.refl WA none
  have HO := Hid.mk' (hO.kept hkA)
  have hOm := hO.max
  have hcl := hC.room
  have hcm := hC.max
  have hdl := hD.room
  have hdm := hD.max
  clear h hT hF hB hO hC hD k1 k2 hsb bn hkA
  go_enter Tryd.func8, Tryd.ntmps8
  go_wp2_with (first | rw [hWA] | (go_at_call 15; refine (galive_any HT.out).mono ?_; rintro e wa ⟨rfl, hka⟩; have hKa : Kept WA wa none := hka))
  go_at_call 16
  refine (rgreat_any (HS.out.kept hKa)).mono ?_
  rintro e wg ⟨gr, rfl, hgr, hkg⟩
  have hKg : Kept WA wg none := hKa.tr hkg
  clear hgr
  cases gr with
  | true =>
    go_wp2
    go_ret
    exact ⟨rfl, (HK.out.tr hKg).below⟩
  | false =>
  by_cases t1 : (100 : Int) < (F.groups.length : Int)
  · go_wp2
    go_ret
    exact ⟨rfl, (HK.out.tr hKg).below⟩
  have t1b : decide ((100 : Int) < (F.groups.length : Int)) = false := by simp; omega
  by_cases t2 : (100 : Int) < (n : Int)
  · go_wp2
    go_ret
    exact ⟨rfl, (HK.out.tr hKg).below⟩
  have t2b : decide ((100 : Int) < (n : Int)) = false := by simp; omega
  by_cases t3 : m = n
  case neg =>
    have t3b : ((m : Int) != (n : Int)) = true := by simp; omega
    go_wp2
    go_ret
    exact ⟨rfl, (HK.out.tr hKg).below⟩
  have t3b : ((m : Int) != (n : Int)) = false := by simp; omega
  by_cases t4 : at_ < 0
  · go_wp2
    go_ret
    exact ⟨rfl, (HK.out.tr hKg).below⟩
  have t4b : decide (at_ < 0) = false := by simp; omega
  by_cases t5 : (n : Int) < at_
  · go_wp2
    go_ret
    exact ⟨rfl, (HK.out.tr hKg).below⟩
  have t5b : decide ((n : Int) < at_) = false := by simp; omega
  have t6b : ((F.groups.length : Int) != (n : Int)) = true := by simp; omega
  clear t1 t2 t3 t4 t5
  go_wp2
  go_ret
  exact ⟨rfl, (HK.out.tr hKg).below⟩
set_option maxRecDepth 100000 in
set_option maxHeartbeats 4000000 in
theorem glat_zb {X : Sa} {S : St} {w : World} {a : Option Addr} {c : Nat} {F : Sf} {ba oa bo oo : Nat} {n cl co q : Nat} {L O : List Nat} (h : Sat w X S) (hT : Tabb w) (hF : SafeAt w a c F) (hB : By w (some ⟨ba, oa, none⟩) n L) (hO : By w (some ⟨bo, oo, none⟩) n O) (hC : Cap (some ⟨ba, oa, none⟩) n cl) (hD : Cap (some ⟨bo, oo, none⟩) n co) (hn : F.groups.length = n) (hn1 : n ≤ 100) (hq : q ≤ n) (h0 : 0 < n) (hcap : co ≠ q) (hz : goesE S F ≠ 0) : Calls Tryd.prog 8 #[siteV X S, safeV a c F, .slice (some ⟨ba, oa, none⟩) n cl, .slice (some ⟨bo, oo, none⟩) n co, .int .i64 (q : Int)] w fun e w' => e = .returned (.bool true) ∧ Below w.heap.size w w' := by
  obtain ⟨bf, off, rfl, hbf, hcf⟩ := hF.lie.at_ (by omega)
  have HCF : Hid (∀ i, i < n → ∀ j, j < 3 → w.cell? ⟨bf, off + i * 3 + j, none⟩ = some (snV (F.g i) j)) := fun i hi j hj => hcf i (by omega) j hj
  have HBC := Hid.mk' hB
  have HLN := Hid.mk' hB.size
  have HON := Hid.mk' hO.size
  have HLR := Hid.mk' hB.lt
  have HOR := Hid.mk' hO.lt
  have hbaw : ba < w.heap.size := by
    obtain ⟨b', o', e', hb', _⟩ := hB.at_ (by omega)
    injection e' with e'
    injection e' with e1 e2
    omega
  have hFr := hF.cap.room
  have hFm := hF.cap.max
  rw [hn] at hFr
  have HAD : Hid (∀ w' al' n' cl', Kept w w' none → Calls Tryd.prog 12 #[siteV X S, .agg #[.slice (some ⟨bf, off, none⟩) n c, .int .i64 F.start, .bool F.flashed], .slice al' n' cl'] w' fun e w2 => e = .returned (.tuple #[.slice none 0 0, .int .i64 (goesE S F)]) ∧ Kept w' w2 none) := fun w' al' n' cl' q => by
    have hx := gadmit_no (al := al') (n := n') (cl := cl') (h.kept q) (hT.kept q) (hF.kept q) hz
    rw [safeV, hn] at hx
    exact hx
  have hzb : (goesE S F != 0) = true := by simpa using hz
  generalize goesE S F = z at *
  rw [show safeV (some ⟨bf, off, none⟩) c F = .agg #[.slice (some ⟨bf, off, none⟩) n c, .int .i64 F.start, .bool F.flashed] by rw [safeV, hn]]
  have HN := Hid.mk' hn
  clear hn
  have k1 : Kept w (w.alloc (.cells #[.int .i64 S.id, .slice X.g S.groups.length X.gc, .slice X.a S.apart.length X.ac, .slice X.b S.between.length X.bc, .slice X.p S.phases.length X.pc, .slice X.e S.eyes.length X.ec, .int .i64 S.watch, .int .i64 S.feed, .int .i64 S.heal, .int .i64 S.low, .int .i64 S.high, .slice X.l S.plans.length X.lc] 34)) none := Kept.alloc _ _ _ _ _
  have k2 : Kept (w.alloc (.cells #[.int .i64 S.id, .slice X.g S.groups.length X.gc, .slice X.a S.apart.length X.ac, .slice X.b S.between.length X.bc, .slice X.p S.phases.length X.pc, .slice X.e S.eyes.length X.ec, .int .i64 S.watch, .int .i64 S.feed, .int .i64 S.heal, .int .i64 S.low, .int .i64 S.high, .slice X.l S.plans.length X.lc] 34)) ((w.alloc (.cells #[.int .i64 S.id, .slice X.g S.groups.length X.gc, .slice X.a S.apart.length X.ac, .slice X.b S.between.length X.bc, .slice X.p S.phases.length X.pc, .slice X.e S.eyes.length X.ec, .int .i64 S.watch, .int .i64 S.feed, .int .i64 S.heal, .int .i64 S.low, .int .i64 S.high, .slice X.l S.plans.length X.lc] 34)).alloc (.cells #[.slice (some ⟨bf, off, none⟩) n c, .int .i64 F.start, .bool F.flashed] 41)) none := Kept.alloc _ _ _ _ _
  have hsb := (sbox_alloc h 34).kept k2
  have bn := box_alloc (w.alloc (.cells #[.int .i64 S.id, .slice X.g S.groups.length X.gc, .slice X.a S.apart.length X.ac, .slice X.b S.between.length X.bc, .slice X.p S.phases.length X.pc, .slice X.e S.eyes.length X.ec, .int .i64 S.watch, .int .i64 S.feed, .int .i64 S.heal, .int .i64 S.low, .int .i64 S.high, .slice X.l S.plans.length X.lc] 34)) (.slice (some ⟨bf, off, none⟩) n c) (.int .i64 F.start) (.bool F.flashed) 41
  rw [World.size_alloc] at bn
  have hkA := k1.tr k2
  obtain ⟨WA, hWA⟩ : ∃ WA, ((w.alloc (.cells #[.int .i64 S.id, .slice X.g S.groups.length X.gc, .slice X.a S.apart.length X.ac, .slice X.b S.between.length X.bc, .slice X.p S.phases.length X.pc, .slice X.e S.eyes.length X.ec, .int .i64 S.watch, .int .i64 S.feed, .int .i64 S.heal, .int .i64 S.low, .int .i64 S.high, .slice X.l S.plans.length X.lc] 34)).alloc (.cells #[.slice (some ⟨bf, off, none⟩) n c, .int .i64 F.start, .bool F.flashed] 41)) = WA := ⟨_, rfl⟩
  rw [hWA] at hsb bn hkA
  have HSB := Hid.mk' hsb
  have HBN := Hid.mk' bn
  have HK := Hid.mk' hkA
  have HS := Hid.mk' (h.kept hkA)
  have HT := Hid.mk' (hT.kept hkA)
  have HF := Hid.mk' (hF.kept hkA)
  have HB := Hid.mk' (hB.kept hkA)
  have hBm := hB.max
  have n0_ : ∀ w', Kept WA w' none → w'.cell? ⟨w.heap.size + 1, 0, none⟩ = some (.slice (some ⟨bf, off, none⟩) n c) := fun w' q => (HBN.out.kept q).c0
  have n1_ : ∀ w', Kept WA w' none → w'.cell? ⟨w.heap.size + 1, 1, none⟩ = some (.int .i64 F.start) := fun w' q => (HBN.out.kept q).c1
  have n2_ : ∀ w', Kept WA w' none → w'.cell? ⟨w.heap.size + 1, 2, none⟩ = some (.bool F.flashed) := fun w' q => (HBN.out.kept q).c2
  have s0_ : ∀ w', Kept WA w' none → w'.cell? ⟨w.heap.size, 0, none⟩ = some (.int .i64 S.id) := fun w' q => (HSB.out.kept q).c0
  have s1_ : ∀ w', Kept WA w' none → w'.cell? ⟨w.heap.size, 1, none⟩ = some (.slice X.g S.groups.length X.gc) := fun w' q => (HSB.out.kept q).c1
  have s2_ : ∀ w', Kept WA w' none → w'.cell? ⟨w.heap.size, 2, none⟩ = some (.slice X.a S.apart.length X.ac) := fun w' q => (HSB.out.kept q).c2
  have s3_ : ∀ w', Kept WA w' none → w'.cell? ⟨w.heap.size, 3, none⟩ = some (.slice X.b S.between.length X.bc) := fun w' q => (HSB.out.kept q).c3
  have s4_ : ∀ w', Kept WA w' none → w'.cell? ⟨w.heap.size, 4, none⟩ = some (.slice X.p S.phases.length X.pc) := fun w' q => (HSB.out.kept q).c4
  have s5_ : ∀ w', Kept WA w' none → w'.cell? ⟨w.heap.size, 5, none⟩ = some (.slice X.e S.eyes.length X.ec) := fun w' q => (HSB.out.kept q).c5
  have s6_ : ∀ w', Kept WA w' none → w'.cell? ⟨w.heap.size, 6, none⟩ = some (.int .i64 S.watch) := fun w' q => (HSB.out.kept q).c6
  have s7_ : ∀ w', Kept WA w' none → w'.cell? ⟨w.heap.size, 7, none⟩ = some (.int .i64 S.feed) := fun w' q => (HSB.out.kept q).c7
  have s8_ : ∀ w', Kept WA w' none → w'.cell? ⟨w.heap.size, 8, none⟩ = some (.int .i64 S.heal) := fun w' q => (HSB.out.kept q).c8
  have s9_ : ∀ w', Kept WA w' none → w'.cell? ⟨w.heap.size, 9, none⟩ = some (.int .i64 S.low) := fun w' q => (HSB.out.kept q).c9
  have s10_ : ∀ w', Kept WA w' none → w'.cell? ⟨w.heap.size, 10, none⟩ = some (.int .i64 S.high) := fun w' q => (HSB.out.kept q).c10
  have s11_ : ∀ w', Kept WA w' none → w'.cell? ⟨w.heap.size, 11, none⟩ = some (.slice X.l S.plans.length X.lc) := fun w' q => (HSB.out.kept q).c11
  have hK0 := Kept.refl WA none
  have HO := Hid.mk' (hO.kept hkA)
  have hOm := hO.max
  have hcl := hC.room
  have hcm := hC.max
  have hdl := hD.room
  have hdm := hD.max
  clear h hT hF hB hO hC hD k1 k2 hsb bn hkA
  go_enter Tryd.func8, Tryd.ntmps8
  go_wp2_with (first | rw [hWA] | (go_at_call 15; refine (galive_any HT.out).mono ?_; rintro e wa ⟨rfl, hka⟩; have hKa : Kept WA wa none := hka))
  go_at_call 16
  refine (rgreat_any (HS.out.kept hKa)).mono ?_
  rintro e wg ⟨gr, rfl, hgr, hkg⟩
  have hKg : Kept WA wg none := hKa.tr hkg
  clear hgr
  cases gr with
  | true =>
    go_wp2
    go_ret
    exact ⟨rfl, (HK.out.tr hKg).below⟩
  | false =>
  have t1b : decide ((100 : Int) < (n : Int)) = false := by simp; omega
  have t4b : decide ((q : Int) < 0) = false := by simp
  have t5b : decide ((n : Int) < (q : Int)) = false := by simp; omega
  have hqcl : (q : Int) ≤ (cl : Int) := by omega
  have hqco : (q : Int) ≤ (co : Int) := by omega
  clear hcf
  go_wp2_with (first
    | (have hgo := HM1; clear hgo; at_builtin; refine wpList_join (by rfl) _ _ (by rfl) wg.heap.size _ q (L.take q) (by rfl) HM1.out.own _ (n - q) (co - q) (O.drop q) (by rfl) ((HO.out.kept (hKg.tr hk1)).drop9 q hq) (fun e => (nomatch e)) (by omega) hk1.size ?_; intro a2 c2 w2 hm2 hg2; rw [show q + (n - q) = n by omega] at hm2 ⊢; have hk2 : Kept wg w2 none := Kept.newRow hk1 hg2 (fun i h => (own_lt8 HM1.out.own i h).1); have HM2 := Hid.mk' hm2; clear hm2)
    | (at_builtin; refine wpList_join (by rfl) _ _ (by rfl) wg.heap.size (.slice none 0 0) 0 [] (by rfl) (World.ownsRow_nil _ _ _ _) _ q cl (L.take q) (by rfl) ((HB.out.kept hKg).take q hq) (fun e => (nomatch e)) (by omega) (Nat.le_refl _) ?_; intro a1 c1 w1 hm1 hg1; rw [show 0 + q = q from Nat.zero_add q, List.nil_append] at hm1; rw [show 0 + q = q from Nat.zero_add q]; have hk1 : Kept wg w1 none := hg1; have HM1 := Hid.mk' hm1; have hr1 := hm1.room; have hx1 := hm1.max; clear hm1))
  obtain ⟨g, f, e2, hgb, hgc, hrow⟩ := HM2.out.row9 h0
  subst e2
  have HMA : Hid (∀ i, i < q → lg (L.take q ++ O.drop q) i = lg L i) := fun i hi => lg_take9 hi (by have := HLN.out; omega)
  have HMR : Hid (∀ x ∈ (L.take q ++ O.drop q), x < 256) := fun x hx => by rcases List.mem_append.1 hx with hx | hx; exact HLR.out x (List.mem_of_mem_take hx); exact HOR.out x (List.mem_of_mem_drop hx)
  have HML : Hid ((L.take q ++ O.drop q).length = n) := by show _ = _; have := HLN.out; have := HON.out; simp; omega
  generalize (L.take q ++ O.drop q) = M at *
  have HRW := Hid.mk' hrow
  have HK2 := Hid.mk' hk2
  have hgz := hKg.size
  have hwz := HK.out.size
  have hba : ba ≠ g := by omega
  have hbf2 : bf ≠ g := by omega
  have hcx := HM2.out.max
  clear hrow hg1 hg2 HM1
  go_loopw [13] (fun i wr => ∃ k : Nat, k ≤ n ∧ i = .int .i64 k ∧ Kept wg wr none ∧ wr.rowIs g 5 c2 (fun j => if j < n then .int .u8 ((mixK F L M k j : Nat) : Int) else f j) ∧ ∀ j, j < k → lg L j ≠ 4 ∧ mixJ F L M j ≠ 4) (fun i _ => n - (intOf i).toNat)
  case atStart => exact ⟨0, by omega, rfl, HK2.out, HRW.out.congr (fun j hj => by unfold mixK; rw [if_neg (Nat.not_lt_zero j)]), fun j hj => by omega⟩
  case round =>
    obtain ⟨k, hk, rfl, hkw, hro, hno⟩ := hrel
    have HKW := Hid.mk' hkw
    have HRO := Hid.mk' hro
    have HNO := Hid.mk' hno
    by_cases hlt : k < n
    · have x0 := n0_ wr (hKg.tr hkw)
      have x1 := cell_kept0 (HCF.out k hlt 0 (by omega)) (HK.out.tr (hKg.tr hkw))
      simp only [snV, Nat.add_zero] at x1
      obtain ⟨ba', oa', eb, _, hca⟩ := HBC.out.at_ h0
      injection eb with eb
      injection eb with eb1 eb2
      subst eb1 eb2
      have l0 := cell_kept0 (hca k hlt) (HK.out.tr (hKg.tr hkw))
      rw [show L.getD k 0 = lg L k from rfl] at l0
      have y0 : wr.cell? ⟨g, k, none⟩ = some (.int .u8 ((lg M k : Nat) : Int)) := (hro.cell (i := k) (by omega)).trans (by rw [if_pos hlt]; unfold mixK; rw [if_neg (Nat.lt_irrefl k)])
      have z0 := hro.frozen k
      have hgl := hro.lt
      have HST : Hid (mixK F L M (k + 1) = fun j => if j = k then mixJ F L M k else mixK F L M k j) := mixK_succ F L M k
      have HJ1 : Hid ((F.g k).asp = 1 → mixJ F L M k = lg M k) := fun e => by unfold mixJ; rw [if_pos e]
      have HJ2 : Hid ((F.g k).asp ≠ 1 → mixJ F L M k = lg L k) := fun e => by unfold mixJ; rw [if_neg e]
      have HKK : Hid (mixK F L M k k = lg M k) := by show _ = _; unfold mixK; rw [if_neg (Nat.lt_irrefl k)]
      have HEX : Hid (lg L k ≠ 4 ∧ mixJ F L M k ≠ 4 → ∀ j, j < k + 1 → lg L j ≠ 4 ∧ mixJ F L M j ≠ 4) := fun e => ext_no hno e
      clear hkw hro hno hca
      generalize F.g k = N at *
      generalize lg L k = y at *
      generalize hJ : mixJ F L M k = u at *
      clear hJ
      by_cases h1 : N.asp = 1
      · have hu := HJ1.out h1
        rw [h1] at x1
        by_cases h4 : y = 4
        · subst h4
          clear h1 hu
          go_wp2
          go_ret
          exact ⟨rfl, (HK.out.tr (hKg.tr HKW.out)).below⟩
        · have h4b : ((y : Int) == 4) = false := by simp; omega
          generalize lg M k = v at *
          by_cases h5 : v = 4
          · subst h5
            clear h1 hu h4
            go_wp2
            go_ret
            exact ⟨rfl, (HK.out.tr (hKg.tr HKW.out)).below⟩
          · have h5b : ((v : Int) == 4) = false := by simp; omega
            have HN2 := Hid.mk' (HEX.out ⟨h4, by omega⟩)
            have HU := Hid.mk' hu
            clear h1 hu h4 h5
            go_wp2
            go_roundw
            case rel =>
              refine ⟨k + 1, by omega, by go_num, HKW.out, HRO.out.congr (fun j hj => ?_), HN2.out⟩
              rw [HST.out]
              show _ = if j < n then Value.int .u8 (((if j = k then u else mixK F L M k j) : Nat) : Int) else f j
              by_cases e : j = k
              · subst e; rw [if_pos rfl, HU.out, HKK.out]
              · rw [if_neg e]
            case measure => simp [intOf]; omega
      · have hu := HJ2.out h1
        have h1b : ((N.asp : Int) != 1) = true := by simp; omega
        by_cases h4 : y = 4
        · subst h4
          clear h1 hu
          go_wp2
          go_ret
          exact ⟨rfl, ((HK.out.tr (hKg.tr HKW.out)).setNew (p := ⟨g, k, none⟩) (by show w.heap.size ≤ g; omega) _).below⟩
        · have h4b : ((y : Int) == 4) = false := by simp; omega
          have HN2 := Hid.mk' (HEX.out ⟨h4, by omega⟩)
          have HU := Hid.mk' hu
          clear h1 hu h4
          go_wp2
          go_roundw
          case rel =>
            refine ⟨k + 1, by omega, by go_num, HKW.out.setNew (p := ⟨g, k, none⟩) hgb _, (HRO.out.set k _).congr (fun j hj => ?_), HN2.out⟩
            rw [HST.out]
            show (if j = k then Value.int .u8 (y : Int) else if j < n then Value.int .u8 ((mixK F L M k j : Nat) : Int) else f j) = if j < n then Value.int .u8 (((if j = k then u else mixK F L M k j) : Nat) : Int) else f j
            by_cases e : j = k
            · subst e; rw [if_pos rfl, if_pos hlt, if_pos rfl, HU.out]
            · rw [if_neg e, if_neg e]
          case measure => simp [intOf]; omega
    · have e : n = k := by omega
      have hkr : Kept WA wr none := hKg.tr hkw
      have hbym : By wr (some ⟨g, 0, none⟩) n (mixL F L M n) := By.row hro _ n hgc (mixL_len F L M n) (by omega) (mixL_lt HLR.out HMR.out (by rw [HLN.out]) (by rw [HML.out])) (fun i hi => by rw [if_pos hi, show (mixL F L M n).getD i 0 = lg (mixL F L M n) i from rfl, mixL_lg hi]; unfold mixK; rw [if_pos (by omega)])
      have hno4 : ∀ j, j < n → lg L j ≠ 4 ∧ mixJ F L M j ≠ 4 := fun j hj => hno j (by omega)
      have HBM := Hid.mk' hbym
      have HN4 := Hid.mk' hno4
      have HKR := Hid.mk' hkr
      clear hbym hno4 hno hro hkw HRO HNO HKW
      obtain ⟨wm, hwm⟩ : ∃ wm, wm = wr := ⟨_, rfl⟩
      subst hwm
      subst e
      go_wp2_with (first
        | (have hgo := hK3; clear hgo; go_at_call 12; refine (HAD.out _ _ _ _ (HK.out.tr hK3)).mono ?_; rintro e w4 ⟨rfl, hk4⟩)
        | (go_at_call 12; refine (HAD.out _ _ _ _ (HK.out.tr HKR.out)).mono ?_; rintro e w3 ⟨rfl, hk3⟩; have hK3 : Kept WA w3 none := HKR.out.tr hk3))
      go_ret
      exact ⟨rfl, (HK.out.tr (hK3.tr hk4)).below⟩
set_option maxRecDepth 100000 in
set_option maxHeartbeats 4000000 in
theorem glat_za {X : Sa} {S : St} {w : World} {a : Option Addr} {c : Nat} {F : Sf} {ba oa bo oo : Nat} {n cl co q : Nat} {L O : List Nat} (h : Sat w X S) (hT : Tabb w) (hF : SafeAt w a c F) (hB : By w (some ⟨ba, oa, none⟩) n L) (hO : By w (some ⟨bo, oo, none⟩) n O) (hC : Cap (some ⟨ba, oa, none⟩) n cl) (hD : Cap (some ⟨bo, oo, none⟩) n co) (hn : F.groups.length = n) (hn1 : n ≤ 100) (hq : q ≤ n) (h0 : 0 < n) (hcap : co = q) (hz : goesE S F ≠ 0) : Calls Tryd.prog 8 #[siteV X S, safeV a c F, .slice (some ⟨ba, oa, none⟩) n cl, .slice (some ⟨bo, oo, none⟩) n co, .int .i64 (q : Int)] w fun e w' => e = .returned (.bool true) ∧ Below w.heap.size w w' := by
  obtain ⟨bf, off, rfl, hbf, hcf⟩ := hF.lie.at_ (by omega)
  have HCF : Hid (∀ i, i < n → ∀ j, j < 3 → w.cell? ⟨bf, off + i * 3 + j, none⟩ = some (snV (F.g i) j)) := fun i hi j hj => hcf i (by omega) j hj
  have HBC := Hid.mk' hB
  have HLN := Hid.mk' hB.size
  have HON := Hid.mk' hO.size
  have HLR := Hid.mk' hB.lt
  have HOR := Hid.mk' hO.lt
  have hbaw : ba < w.heap.size := by
    obtain ⟨b', o', e', hb', _⟩ := hB.at_ (by omega)
    injection e' with e'
    injection e' with e1 e2
    omega
  have hFr := hF.cap.room
  have hFm := hF.cap.max
  rw [hn] at hFr
  have HAD : Hid (∀ w' al' n' cl', Kept w w' none → Calls Tryd.prog 12 #[siteV X S, .agg #[.slice (some ⟨bf, off, none⟩) n c, .int .i64 F.start, .bool F.flashed], .slice al' n' cl'] w' fun e w2 => e = .returned (.tuple #[.slice none 0 0, .int .i64 (goesE S F)]) ∧ Kept w' w2 none) := fun w' al' n' cl' q => by
    have hx := gadmit_no (al := al') (n := n') (cl := cl') (h.kept q) (hT.kept q) (hF.kept q) hz
    rw [safeV, hn] at hx
    exact hx
  have hzb : (goesE S F != 0) = true := by simpa using hz
  generalize goesE S F = z at *
  rw [show safeV (some ⟨bf, off, none⟩) c F = .agg #[.slice (some ⟨bf, off, none⟩) n c, .int .i64 F.start, .bool F.flashed] by rw [safeV, hn]]
  have HN := Hid.mk' hn
  clear hn
  have k1 : Kept w (w.alloc (.cells #[.int .i64 S.id, .slice X.g S.groups.length X.gc, .slice X.a S.apart.length X.ac, .slice X.b S.between.length X.bc, .slice X.p S.phases.length X.pc, .slice X.e S.eyes.length X.ec, .int .i64 S.watch, .int .i64 S.feed, .int .i64 S.heal, .int .i64 S.low, .int .i64 S.high, .slice X.l S.plans.length X.lc] 34)) none := Kept.alloc _ _ _ _ _
  have k2 : Kept (w.alloc (.cells #[.int .i64 S.id, .slice X.g S.groups.length X.gc, .slice X.a S.apart.length X.ac, .slice X.b S.between.length X.bc, .slice X.p S.phases.length X.pc, .slice X.e S.eyes.length X.ec, .int .i64 S.watch, .int .i64 S.feed, .int .i64 S.heal, .int .i64 S.low, .int .i64 S.high, .slice X.l S.plans.length X.lc] 34)) ((w.alloc (.cells #[.int .i64 S.id, .slice X.g S.groups.length X.gc, .slice X.a S.apart.length X.ac, .slice X.b S.between.length X.bc, .slice X.p S.phases.length X.pc, .slice X.e S.eyes.length X.ec, .int .i64 S.watch, .int .i64 S.feed, .int .i64 S.heal, .int .i64 S.low, .int .i64 S.high, .slice X.l S.plans.length X.lc] 34)).alloc (.cells #[.slice (some ⟨bf, off, none⟩) n c, .int .i64 F.start, .bool F.flashed] 41)) none := Kept.alloc _ _ _ _ _
  have hsb := (sbox_alloc h 34).kept k2
  have bn := box_alloc (w.alloc (.cells #[.int .i64 S.id, .slice X.g S.groups.length X.gc, .slice X.a S.apart.length X.ac, .slice X.b S.between.length X.bc, .slice X.p S.phases.length X.pc, .slice X.e S.eyes.length X.ec, .int .i64 S.watch, .int .i64 S.feed, .int .i64 S.heal, .int .i64 S.low, .int .i64 S.high, .slice X.l S.plans.length X.lc] 34)) (.slice (some ⟨bf, off, none⟩) n c) (.int .i64 F.start) (.bool F.flashed) 41
  rw [World.size_alloc] at bn
  have hkA := k1.tr k2
  obtain ⟨WA, hWA⟩ : ∃ WA, ((w.alloc (.cells #[.int .i64 S.id, .slice X.g S.groups.length X.gc, .slice X.a S.apart.length X.ac, .slice X.b S.between.length X.bc, .slice X.p S.phases.length X.pc, .slice X.e S.eyes.length X.ec, .int .i64 S.watch, .int .i64 S.feed, .int .i64 S.heal, .int .i64 S.low, .int .i64 S.high, .slice X.l S.plans.length X.lc] 34)).alloc (.cells #[.slice (some ⟨bf, off, none⟩) n c, .int .i64 F.start, .bool F.flashed] 41)) = WA := ⟨_, rfl⟩
  rw [hWA] at hsb bn hkA
  have HSB := Hid.mk' hsb
  have HBN := Hid.mk' bn
  have HK := Hid.mk' hkA
  have HS := Hid.mk' (h.kept hkA)
  have HT := Hid.mk' (hT.kept hkA)
  have HF := Hid.mk' (hF.kept hkA)
  have HB := Hid.mk' (hB.kept hkA)
  have hBm := hB.max
  have n0_ : ∀ w', Kept WA w' none → w'.cell? ⟨w.heap.size + 1, 0, none⟩ = some (.slice (some ⟨bf, off, none⟩) n c) := fun w' q => (HBN.out.kept q).c0
  have n1_ : ∀ w', Kept WA w' none → w'.cell? ⟨w.heap.size + 1, 1, none⟩ = some (.int .i64 F.start) := fun w' q => (HBN.out.kept q).c1
  have n2_ : ∀ w', Kept WA w' none → w'.cell? ⟨w.heap.size + 1, 2, none⟩ = some (.bool F.flashed) := fun w' q => (HBN.out.kept q).c2
  have s0_ : ∀ w', Kept WA w' none → w'.cell? ⟨w.heap.size, 0, none⟩ = some (.int .i64 S.id) := fun w' q => (HSB.out.kept q).c0
  have s1_ : ∀ w', Kept WA w' none → w'.cell? ⟨w.heap.size, 1, none⟩ = some (.slice X.g S.groups.length X.gc) := fun w' q => (HSB.out.kept q).c1
  have s2_ : ∀ w', Kept WA w' none → w'.cell? ⟨w.heap.size, 2, none⟩ = some (.slice X.a S.apart.length X.ac) := fun w' q => (HSB.out.kept q).c2
  have s3_ : ∀ w', Kept WA w' none → w'.cell? ⟨w.heap.size, 3, none⟩ = some (.slice X.b S.between.length X.bc) := fun w' q => (HSB.out.kept q).c3
  have s4_ : ∀ w', Kept WA w' none → w'.cell? ⟨w.heap.size, 4, none⟩ = some (.slice X.p S.phases.length X.pc) := fun w' q => (HSB.out.kept q).c4
  have s5_ : ∀ w', Kept WA w' none → w'.cell? ⟨w.heap.size, 5, none⟩ = some (.slice X.e S.eyes.length X.ec) := fun w' q => (HSB.out.kept q).c5
  have s6_ : ∀ w', Kept WA w' none → w'.cell? ⟨w.heap.size, 6, none⟩ = some (.int .i64 S.watch) := fun w' q => (HSB.out.kept q).c6
  have s7_ : ∀ w', Kept WA w' none → w'.cell? ⟨w.heap.size, 7, none⟩ = some (.int .i64 S.feed) := fun w' q => (HSB.out.kept q).c7
  have s8_ : ∀ w', Kept WA w' none → w'.cell? ⟨w.heap.size, 8, none⟩ = some (.int .i64 S.heal) := fun w' q => (HSB.out.kept q).c8
  have s9_ : ∀ w', Kept WA w' none → w'.cell? ⟨w.heap.size, 9, none⟩ = some (.int .i64 S.low) := fun w' q => (HSB.out.kept q).c9
  have s10_ : ∀ w', Kept WA w' none → w'.cell? ⟨w.heap.size, 10, none⟩ = some (.int .i64 S.high) := fun w' q => (HSB.out.kept q).c10
  have s11_ : ∀ w', Kept WA w' none → w'.cell? ⟨w.heap.size, 11, none⟩ = some (.slice X.l S.plans.length X.lc) := fun w' q => (HSB.out.kept q).c11
  have hK0 := Kept.refl WA none
  have HO := Hid.mk' (hO.kept hkA)
  have hOm := hO.max
  have hcl := hC.room
  have hcm := hC.max
  have hdl := hD.room
  have hdm := hD.max
  clear h hT hF hB hO hC hD k1 k2 hsb bn hkA
  go_enter Tryd.func8, Tryd.ntmps8
  go_wp2_with (first | rw [hWA] | (go_at_call 15; refine (galive_any HT.out).mono ?_; rintro e wa ⟨rfl, hka⟩; have hKa : Kept WA wa none := hka))
  go_at_call 16
  refine (rgreat_any (HS.out.kept hKa)).mono ?_
  rintro e wg ⟨gr, rfl, hgr, hkg⟩
  have hKg : Kept WA wg none := hKa.tr hkg
  clear hgr
  cases gr with
  | true =>
    go_wp2
    go_ret
    exact ⟨rfl, (HK.out.tr hKg).below⟩
  | false =>
  have t1b : decide ((100 : Int) < (n : Int)) = false := by simp; omega
  have t4b : decide ((q : Int) < 0) = false := by simp
  have t5b : decide ((n : Int) < (q : Int)) = false := by simp; omega
  have hqcl : (q : Int) ≤ (cl : Int) := by omega
  have hqco : (q : Int) ≤ (co : Int) := by omega
  clear hcf
  have hqn : n = q := by omega
  subst hqn
  have hcap' := hcap.symm
  subst hcap'
  go_wp2_with (first
    | (have hgo := HM1; clear hgo; at_builtin; refine wpList_join (by rfl) _ _ (by rfl) wg.heap.size _ n (L.take n) (by rfl) HM1.out.own (some ⟨bo, oo, none⟩) 0 0 [] (by rfl) (By.nil _ _) (fun e => (nomatch e)) (by omega) hk1.size ?_; intro a2 c2 w2 hm2 hg2; have hm2 : Mine w2 wg.heap.size a2 n c2 (L.take n) := (by have h5 := hm2; simp only [Nat.add_zero, List.append_nil] at h5; exact h5); (try rw [Nat.add_zero]); have hk2 : Kept wg w2 none := Kept.newRow hk1 hg2 (fun i h => (own_lt8 HM1.out.own i h).1); have HM2 := Hid.mk' hm2; clear hm2)
    | (at_builtin; refine wpList_join (by rfl) _ _ (by rfl) wg.heap.size (.slice none 0 0) 0 [] (by rfl) (World.ownsRow_nil _ _ _ _) _ n cl (L.take n) (by rfl) ((HB.out.kept hKg).take n (Nat.le_refl n)) (fun e => (nomatch e)) (by omega) (Nat.le_refl _) ?_; intro a1 c1 w1 hm1 hg1; rw [show 0 + n = n from Nat.zero_add n, List.nil_append] at hm1; rw [show 0 + n = n from Nat.zero_add n]; have hk1 : Kept wg w1 none := hg1; have HM1 := Hid.mk' hm1; have hr1 := hm1.room; have hx1 := hm1.max; clear hm1))
  obtain ⟨g, f, e2, hgb, hgc, hrow⟩ := HM2.out.row9 h0
  subst e2
  have HMA : Hid (∀ i, i < n → lg (L.take n) i = lg L i) := fun i hi => by simp [lg, hi]
  have HMR : Hid (∀ x ∈ (L.take n), x < 256) := fun x hx => HLR.out x (List.mem_of_mem_take hx)
  have HML : Hid ((L.take n).length = n) := by show _ = _; have := HLN.out; have := HON.out; simp; omega
  generalize (L.take n) = M at *
  have HRW := Hid.mk' hrow
  have HK2 := Hid.mk' hk2
  have hgz := hKg.size
  have hwz := HK.out.size
  have hba : ba ≠ g := by omega
  have hbf2 : bf ≠ g := by omega
  have hcx := HM2.out.max
  clear hrow hg1 hg2 HM1
  go_loopw [13] (fun i wr => ∃ k : Nat, k ≤ n ∧ i = .int .i64 k ∧ Kept wg wr none ∧ wr.rowIs g 5 c2 (fun j => if j < n then .int .u8 ((mixK F L M k j : Nat) : Int) else f j) ∧ ∀ j, j < k → lg L j ≠ 4 ∧ mixJ F L M j ≠ 4) (fun i _ => n - (intOf i).toNat)
  case atStart => exact ⟨0, by omega, rfl, HK2.out, HRW.out.congr (fun j hj => by unfold mixK; rw [if_neg (Nat.not_lt_zero j)]), fun j hj => by omega⟩
  case round =>
    obtain ⟨k, hk, rfl, hkw, hro, hno⟩ := hrel
    have HKW := Hid.mk' hkw
    have HRO := Hid.mk' hro
    have HNO := Hid.mk' hno
    by_cases hlt : k < n
    · have x0 := n0_ wr (hKg.tr hkw)
      have x1 := cell_kept0 (HCF.out k hlt 0 (by omega)) (HK.out.tr (hKg.tr hkw))
      simp only [snV, Nat.add_zero] at x1
      obtain ⟨ba', oa', eb, _, hca⟩ := HBC.out.at_ h0
      injection eb with eb
      injection eb with eb1 eb2
      subst eb1 eb2
      have l0 := cell_kept0 (hca k hlt) (HK.out.tr (hKg.tr hkw))
      rw [show L.getD k 0 = lg L k from rfl] at l0
      have y0 : wr.cell? ⟨g, k, none⟩ = some (.int .u8 ((lg M k : Nat) : Int)) := (hro.cell (i := k) (by omega)).trans (by rw [if_pos hlt]; unfold mixK; rw [if_neg (Nat.lt_irrefl k)])
      have z0 := hro.frozen k
      have hgl := hro.lt
      have HST : Hid (mixK F L M (k + 1) = fun j => if j = k then mixJ F L M k else mixK F L M k j) := mixK_succ F L M k
      have HJ1 : Hid ((F.g k).asp = 1 → mixJ F L M k = lg M k) := fun e => by unfold mixJ; rw [if_pos e]
      have HJ2 : Hid ((F.g k).asp ≠ 1 → mixJ F L M k = lg L k) := fun e => by unfold mixJ; rw [if_neg e]
      have HKK : Hid (mixK F L M k k = lg M k) := by show _ = _; unfold mixK; rw [if_neg (Nat.lt_irrefl k)]
      have HEX : Hid (lg L k ≠ 4 ∧ mixJ F L M k ≠ 4 → ∀ j, j < k + 1 → lg L j ≠ 4 ∧ mixJ F L M j ≠ 4) := fun e => ext_no hno e
      clear hkw hro hno hca
      generalize F.g k = N at *
      generalize lg L k = y at *
      generalize hJ : mixJ F L M k = u at *
      clear hJ
      by_cases h1 : N.asp = 1
      · have hu := HJ1.out h1
        rw [h1] at x1
        by_cases h4 : y = 4
        · subst h4
          clear h1 hu
          go_wp2
          go_ret
          exact ⟨rfl, (HK.out.tr (hKg.tr HKW.out)).below⟩
        · have h4b : ((y : Int) == 4) = false := by simp; omega
          generalize lg M k = v at *
          by_cases h5 : v = 4
          · subst h5
            clear h1 hu h4
            go_wp2
            go_ret
            exact ⟨rfl, (HK.out.tr (hKg.tr HKW.out)).below⟩
          · have h5b : ((v : Int) == 4) = false := by simp; omega
            have HN2 := Hid.mk' (HEX.out ⟨h4, by omega⟩)
            have HU := Hid.mk' hu
            clear h1 hu h4 h5
            go_wp2
            go_roundw
            case rel =>
              refine ⟨k + 1, by omega, by go_num, HKW.out, HRO.out.congr (fun j hj => ?_), HN2.out⟩
              rw [HST.out]
              show _ = if j < n then Value.int .u8 (((if j = k then u else mixK F L M k j) : Nat) : Int) else f j
              by_cases e : j = k
              · subst e; rw [if_pos rfl, HU.out, HKK.out]
              · rw [if_neg e]
            case measure => simp [intOf]; omega
      · have hu := HJ2.out h1
        have h1b : ((N.asp : Int) != 1) = true := by simp; omega
        by_cases h4 : y = 4
        · subst h4
          clear h1 hu
          go_wp2
          go_ret
          exact ⟨rfl, ((HK.out.tr (hKg.tr HKW.out)).setNew (p := ⟨g, k, none⟩) (by show w.heap.size ≤ g; omega) _).below⟩
        · have h4b : ((y : Int) == 4) = false := by simp; omega
          have HN2 := Hid.mk' (HEX.out ⟨h4, by omega⟩)
          have HU := Hid.mk' hu
          clear h1 hu h4
          go_wp2
          go_roundw
          case rel =>
            refine ⟨k + 1, by omega, by go_num, HKW.out.setNew (p := ⟨g, k, none⟩) hgb _, (HRO.out.set k _).congr (fun j hj => ?_), HN2.out⟩
            rw [HST.out]
            show (if j = k then Value.int .u8 (y : Int) else if j < n then Value.int .u8 ((mixK F L M k j : Nat) : Int) else f j) = if j < n then Value.int .u8 (((if j = k then u else mixK F L M k j) : Nat) : Int) else f j
            by_cases e : j = k
            · subst e; rw [if_pos rfl, if_pos hlt, if_pos rfl, HU.out]
            · rw [if_neg e, if_neg e]
          case measure => simp [intOf]; omega
    · have e : n = k := by omega
      have hkr : Kept WA wr none := hKg.tr hkw
      have hbym : By wr (some ⟨g, 0, none⟩) n (mixL F L M n) := By.row hro _ n hgc (mixL_len F L M n) (by omega) (mixL_lt HLR.out HMR.out (by rw [HLN.out]) (by rw [HML.out])) (fun i hi => by rw [if_pos hi, show (mixL F L M n).getD i 0 = lg (mixL F L M n) i from rfl, mixL_lg hi]; unfold mixK; rw [if_pos (by omega)])
      have hno4 : ∀ j, j < n → lg L j ≠ 4 ∧ mixJ F L M j ≠ 4 := fun j hj => hno j (by omega)
      have HBM := Hid.mk' hbym
      have HN4 := Hid.mk' hno4
      have HKR := Hid.mk' hkr
      clear hbym hno4 hno hro hkw HRO HNO HKW
      obtain ⟨wm, hwm⟩ : ∃ wm, wm = wr := ⟨_, rfl⟩
      subst hwm
      subst e
      go_wp2_with (first
        | (have hgo := hK3; clear hgo; go_at_call 12; refine (HAD.out _ _ _ _ (HK.out.tr hK3)).mono ?_; rintro e w4 ⟨rfl, hk4⟩)
        | (go_at_call 12; refine (HAD.out _ _ _ _ (HK.out.tr HKR.out)).mono ?_; rintro e w3 ⟨rfl, hk3⟩; have hK3 : Kept WA w3 none := HKR.out.tr hk3))
      go_ret
      exact ⟨rfl, (HK.out.tr (hK3.tr hk4)).below⟩
set_option maxRecDepth 100000 in
set_option maxHeartbeats 4000000 in
theorem glat_gb {X : Sa} {S : St} {w : World} {a : Option Addr} {c : Nat} {F : Sf} {ba oa bo oo : Nat} {n cl co q : Nat} {L O : List Nat} (h : Sat w X S) (hT : Tabb w) (hF : SafeAt w a c F) (hB : By w (some ⟨ba, oa, none⟩) n L) (hO : By w (some ⟨bo, oo, none⟩) n O) (hC : Cap (some ⟨ba, oa, none⟩) n cl) (hD : Cap (some ⟨bo, oo, none⟩) n co) (hn : F.groups.length = n) (hn1 : n ≤ 100) (hq : q ≤ n) (h0 : 0 < n) (hcap : co ≠ q) (hz : goesE S F = 0) : Calls Tryd.prog 8 #[siteV X S, safeV a c F, .slice (some ⟨ba, oa, none⟩) n cl, .slice (some ⟨bo, oo, none⟩) n co, .int .i64 (q : Int)] w fun e w' => e = .returned (.bool true) ∧ Below w.heap.size w w' := by
  obtain ⟨bf, off, rfl, hbf, hcf⟩ := hF.lie.at_ (by omega)
  have HCF : Hid (∀ i, i < n → ∀ j, j < 3 → w.cell? ⟨bf, off + i * 3 + j, none⟩ = some (snV (F.g i) j)) := fun i hi j hj => hcf i (by omega) j hj
  have HBC := Hid.mk' hB
  have HLN := Hid.mk' hB.size
  have HON := Hid.mk' hO.size
  have HLR := Hid.mk' hB.lt
  have HOR := Hid.mk' hO.lt
  have hbaw : ba < w.heap.size := by
    obtain ⟨b', o', e', hb', _⟩ := hB.at_ (by omega)
    injection e' with e'
    injection e' with e1 e2
    omega
  have hFr := hF.cap.room
  have hFm := hF.cap.max
  rw [hn] at hFr
  have hgs := (mayS_parts (goes_parts (goesE_ok hz).2).1).1
  have HAD : Hid (∀ w' al' cl' A', Kept w w' none → By w' al' n A' → Calls Tryd.prog 12 #[siteV X S, .agg #[.slice (some ⟨bf, off, none⟩) n c, .int .i64 F.start, .bool F.flashed], .slice al' n cl'] w' fun e w2 => ∃ b, e = .returned (.tuple #[.slice (some ⟨b, 0, none⟩) n n, .int .i64 0]) ∧ w2.rowIs b 5 n (fun i => .int .u8 ((letF S F A' i : Nat) : Int)) ∧ Kept w' w2 none) := fun w' al' cl' A' q hb => by
    have hx := gadmit_go (al := al') (n := n) (cl := cl') (h.kept q) (hT.kept q) (hF.kept q) hb hz (hn.symm.trans hgs)
    rw [safeV, hn, show S.groups.length = n from hgs.symm.trans hn] at hx
    refine hx.mono ?_
    rintro e w2 ⟨b, rfl, h1, h2, h3⟩
    exact ⟨b, rfl, h2, h3⟩
  clear hgs hz
  rw [show safeV (some ⟨bf, off, none⟩) c F = .agg #[.slice (some ⟨bf, off, none⟩) n c, .int .i64 F.start, .bool F.flashed] by rw [safeV, hn]]
  have HN := Hid.mk' hn
  clear hn
  have k1 : Kept w (w.alloc (.cells #[.int .i64 S.id, .slice X.g S.groups.length X.gc, .slice X.a S.apart.length X.ac, .slice X.b S.between.length X.bc, .slice X.p S.phases.length X.pc, .slice X.e S.eyes.length X.ec, .int .i64 S.watch, .int .i64 S.feed, .int .i64 S.heal, .int .i64 S.low, .int .i64 S.high, .slice X.l S.plans.length X.lc] 34)) none := Kept.alloc _ _ _ _ _
  have k2 : Kept (w.alloc (.cells #[.int .i64 S.id, .slice X.g S.groups.length X.gc, .slice X.a S.apart.length X.ac, .slice X.b S.between.length X.bc, .slice X.p S.phases.length X.pc, .slice X.e S.eyes.length X.ec, .int .i64 S.watch, .int .i64 S.feed, .int .i64 S.heal, .int .i64 S.low, .int .i64 S.high, .slice X.l S.plans.length X.lc] 34)) ((w.alloc (.cells #[.int .i64 S.id, .slice X.g S.groups.length X.gc, .slice X.a S.apart.length X.ac, .slice X.b S.between.length X.bc, .slice X.p S.phases.length X.pc, .slice X.e S.eyes.length X.ec, .int .i64 S.watch, .int .i64 S.feed, .int .i64 S.heal, .int .i64 S.low, .int .i64 S.high, .slice X.l S.plans.length X.lc] 34)).alloc (.cells #[.slice (some ⟨bf, off, none⟩) n c, .int .i64 F.start, .bool F.flashed] 41)) none := Kept.alloc _ _ _ _ _
  have hsb := (sbox_alloc h 34).kept k2
  have bn := box_alloc (w.alloc (.cells #[.int .i64 S.id, .slice X.g S.groups.length X.gc, .slice X.a S.apart.length X.ac, .slice X.b S.between.length X.bc, .slice X.p S.phases.length X.pc, .slice X.e S.eyes.length X.ec, .int .i64 S.watch, .int .i64 S.feed, .int .i64 S.heal, .int .i64 S.low, .int .i64 S.high, .slice X.l S.plans.length X.lc] 34)) (.slice (some ⟨bf, off, none⟩) n c) (.int .i64 F.start) (.bool F.flashed) 41
  rw [World.size_alloc] at bn
  have hkA := k1.tr k2
  obtain ⟨WA, hWA⟩ : ∃ WA, ((w.alloc (.cells #[.int .i64 S.id, .slice X.g S.groups.length X.gc, .slice X.a S.apart.length X.ac, .slice X.b S.between.length X.bc, .slice X.p S.phases.length X.pc, .slice X.e S.eyes.length X.ec, .int .i64 S.watch, .int .i64 S.feed, .int .i64 S.heal, .int .i64 S.low, .int .i64 S.high, .slice X.l S.plans.length X.lc] 34)).alloc (.cells #[.slice (some ⟨bf, off, none⟩) n c, .int .i64 F.start, .bool F.flashed] 41)) = WA := ⟨_, rfl⟩
  rw [hWA] at hsb bn hkA
  have HSB := Hid.mk' hsb
  have HBN := Hid.mk' bn
  have HK := Hid.mk' hkA
  have HS := Hid.mk' (h.kept hkA)
  have HT := Hid.mk' (hT.kept hkA)
  have HF := Hid.mk' (hF.kept hkA)
  have HB := Hid.mk' (hB.kept hkA)
  have hBm := hB.max
  have n0_ : ∀ w', Kept WA w' none → w'.cell? ⟨w.heap.size + 1, 0, none⟩ = some (.slice (some ⟨bf, off, none⟩) n c) := fun w' q => (HBN.out.kept q).c0
  have n1_ : ∀ w', Kept WA w' none → w'.cell? ⟨w.heap.size + 1, 1, none⟩ = some (.int .i64 F.start) := fun w' q => (HBN.out.kept q).c1
  have n2_ : ∀ w', Kept WA w' none → w'.cell? ⟨w.heap.size + 1, 2, none⟩ = some (.bool F.flashed) := fun w' q => (HBN.out.kept q).c2
  have s0_ : ∀ w', Kept WA w' none → w'.cell? ⟨w.heap.size, 0, none⟩ = some (.int .i64 S.id) := fun w' q => (HSB.out.kept q).c0
  have s1_ : ∀ w', Kept WA w' none → w'.cell? ⟨w.heap.size, 1, none⟩ = some (.slice X.g S.groups.length X.gc) := fun w' q => (HSB.out.kept q).c1
  have s2_ : ∀ w', Kept WA w' none → w'.cell? ⟨w.heap.size, 2, none⟩ = some (.slice X.a S.apart.length X.ac) := fun w' q => (HSB.out.kept q).c2
  have s3_ : ∀ w', Kept WA w' none → w'.cell? ⟨w.heap.size, 3, none⟩ = some (.slice X.b S.between.length X.bc) := fun w' q => (HSB.out.kept q).c3
  have s4_ : ∀ w', Kept WA w' none → w'.cell? ⟨w.heap.size, 4, none⟩ = some (.slice X.p S.phases.length X.pc) := fun w' q => (HSB.out.kept q).c4
  have s5_ : ∀ w', Kept WA w' none → w'.cell? ⟨w.heap.size, 5, none⟩ = some (.slice X.e S.eyes.length X.ec) := fun w' q => (HSB.out.kept q).c5
  have s6_ : ∀ w', Kept WA w' none → w'.cell? ⟨w.heap.size, 6, none⟩ = some (.int .i64 S.watch) := fun w' q => (HSB.out.kept q).c6
  have s7_ : ∀ w', Kept WA w' none → w'.cell? ⟨w.heap.size, 7, none⟩ = some (.int .i64 S.feed) := fun w' q => (HSB.out.kept q).c7
  have s8_ : ∀ w', Kept WA w' none → w'.cell? ⟨w.heap.size, 8, none⟩ = some (.int .i64 S.heal) := fun w' q => (HSB.out.kept q).c8
  have s9_ : ∀ w', Kept WA w' none → w'.cell? ⟨w.heap.size, 9, none⟩ = some (.int .i64 S.low) := fun w' q => (HSB.out.kept q).c9
  have s10_ : ∀ w', Kept WA w' none → w'.cell? ⟨w.heap.size, 10, none⟩ = some (.int .i64 S.high) := fun w' q => (HSB.out.kept q).c10
  have s11_ : ∀ w', Kept WA w' none → w'.cell? ⟨w.heap.size, 11, none⟩ = some (.slice X.l S.plans.length X.lc) := fun w' q => (HSB.out.kept q).c11
  have hK0 := Kept.refl WA none
  have HO := Hid.mk' (hO.kept hkA)
  have hOm := hO.max
  have hcl := hC.room
  have hcm := hC.max
  have hdl := hD.room
  have hdm := hD.max
  clear h hT hF hB hO hC hD k1 k2 hsb bn hkA
  go_enter Tryd.func8, Tryd.ntmps8
  go_wp2_with (first | rw [hWA] | (go_at_call 15; refine (galive_any HT.out).mono ?_; rintro e wa ⟨rfl, hka⟩; have hKa : Kept WA wa none := hka))
  go_at_call 16
  refine (rgreat_any (HS.out.kept hKa)).mono ?_
  rintro e wg ⟨gr, rfl, hgr, hkg⟩
  have hKg : Kept WA wg none := hKa.tr hkg
  clear hgr
  cases gr with
  | true =>
    go_wp2
    go_ret
    exact ⟨rfl, (HK.out.tr hKg).below⟩
  | false =>
  have t1b : decide ((100 : Int) < (n : Int)) = false := by simp; omega
  have t4b : decide ((q : Int) < 0) = false := by simp
  have t5b : decide ((n : Int) < (q : Int)) = false := by simp; omega
  have hqcl : (q : Int) ≤ (cl : Int) := by omega
  have hqco : (q : Int) ≤ (co : Int) := by omega
  clear hcf
  go_wp2_with (first
    | (have hgo := HM1; clear hgo; at_builtin; refine wpList_join (by rfl) _ _ (by rfl) wg.heap.size _ q (L.take q) (by rfl) HM1.out.own _ (n - q) (co - q) (O.drop q) (by rfl) ((HO.out.kept (hKg.tr hk1)).drop9 q hq) (fun e => (nomatch e)) (by omega) hk1.size ?_; intro a2 c2 w2 hm2 hg2; rw [show q + (n - q) = n by omega] at hm2 ⊢; have hk2 : Kept wg w2 none := Kept.newRow hk1 hg2 (fun i h => (own_lt8 HM1.out.own i h).1); have HM2 := Hid.mk' hm2; clear hm2)
    | (at_builtin; refine wpList_join (by rfl) _ _ (by rfl) wg.heap.size (.slice none 0 0) 0 [] (by rfl) (World.ownsRow_nil _ _ _ _) _ q cl (L.take q) (by rfl) ((HB.out.kept hKg).take q hq) (fun e => (nomatch e)) (by omega) (Nat.le_refl _) ?_; intro a1 c1 w1 hm1 hg1; rw [show 0 + q = q from Nat.zero_add q, List.nil_append] at hm1; rw [show 0 + q = q from Nat.zero_add q]; have hk1 : Kept wg w1 none := hg1; have HM1 := Hid.mk' hm1; have hr1 := hm1.room; have hx1 := hm1.max; clear hm1))
  obtain ⟨g, f, e2, hgb, hgc, hrow⟩ := HM2.out.row9 h0
  subst e2
  have HMA : Hid (∀ i, i < q → lg (L.take q ++ O.drop q) i = lg L i) := fun i hi => lg_take9 hi (by have := HLN.out; omega)
  have HMR : Hid (∀ x ∈ (L.take q ++ O.drop q), x < 256) := fun x hx => by rcases List.mem_append.1 hx with hx | hx; exact HLR.out x (List.mem_of_mem_take hx); exact HOR.out x (List.mem_of_mem_drop hx)
  have HML : Hid ((L.take q ++ O.drop q).length = n) := by show _ = _; have := HLN.out; have := HON.out; simp; omega
  generalize (L.take q ++ O.drop q) = M at *
  have HRW := Hid.mk' hrow
  have HK2 := Hid.mk' hk2
  have hgz := hKg.size
  have hwz := HK.out.size
  have hba : ba ≠ g := by omega
  have hbf2 : bf ≠ g := by omega
  have hcx := HM2.out.max
  clear hrow hg1 hg2 HM1
  go_loopw [13] (fun i wr => ∃ k : Nat, k ≤ n ∧ i = .int .i64 k ∧ Kept wg wr none ∧ wr.rowIs g 5 c2 (fun j => if j < n then .int .u8 ((mixK F L M k j : Nat) : Int) else f j) ∧ ∀ j, j < k → lg L j ≠ 4 ∧ mixJ F L M j ≠ 4) (fun i _ => n - (intOf i).toNat)
  case atStart => exact ⟨0, by omega, rfl, HK2.out, HRW.out.congr (fun j hj => by unfold mixK; rw [if_neg (Nat.not_lt_zero j)]), fun j hj => by omega⟩
  case round =>
    obtain ⟨k, hk, rfl, hkw, hro, hno⟩ := hrel
    have HKW := Hid.mk' hkw
    have HRO := Hid.mk' hro
    have HNO := Hid.mk' hno
    by_cases hlt : k < n
    · have x0 := n0_ wr (hKg.tr hkw)
      have x1 := cell_kept0 (HCF.out k hlt 0 (by omega)) (HK.out.tr (hKg.tr hkw))
      simp only [snV, Nat.add_zero] at x1
      obtain ⟨ba', oa', eb, _, hca⟩ := HBC.out.at_ h0
      injection eb with eb
      injection eb with eb1 eb2
      subst eb1 eb2
      have l0 := cell_kept0 (hca k hlt) (HK.out.tr (hKg.tr hkw))
      rw [show L.getD k 0 = lg L k from rfl] at l0
      have y0 : wr.cell? ⟨g, k, none⟩ = some (.int .u8 ((lg M k : Nat) : Int)) := (hro.cell (i := k) (by omega)).trans (by rw [if_pos hlt]; unfold mixK; rw [if_neg (Nat.lt_irrefl k)])
      have z0 := hro.frozen k
      have hgl := hro.lt
      have HST : Hid (mixK F L M (k + 1) = fun j => if j = k then mixJ F L M k else mixK F L M k j) := mixK_succ F L M k
      have HJ1 : Hid ((F.g k).asp = 1 → mixJ F L M k = lg M k) := fun e => by unfold mixJ; rw [if_pos e]
      have HJ2 : Hid ((F.g k).asp ≠ 1 → mixJ F L M k = lg L k) := fun e => by unfold mixJ; rw [if_neg e]
      have HKK : Hid (mixK F L M k k = lg M k) := by show _ = _; unfold mixK; rw [if_neg (Nat.lt_irrefl k)]
      have HEX : Hid (lg L k ≠ 4 ∧ mixJ F L M k ≠ 4 → ∀ j, j < k + 1 → lg L j ≠ 4 ∧ mixJ F L M j ≠ 4) := fun e => ext_no hno e
      clear hkw hro hno hca
      generalize F.g k = N at *
      generalize lg L k = y at *
      generalize hJ : mixJ F L M k = u at *
      clear hJ
      by_cases h1 : N.asp = 1
      · have hu := HJ1.out h1
        rw [h1] at x1
        by_cases h4 : y = 4
        · subst h4
          clear h1 hu
          go_wp2
          go_ret
          exact ⟨rfl, (HK.out.tr (hKg.tr HKW.out)).below⟩
        · have h4b : ((y : Int) == 4) = false := by simp; omega
          generalize lg M k = v at *
          by_cases h5 : v = 4
          · subst h5
            clear h1 hu h4
            go_wp2
            go_ret
            exact ⟨rfl, (HK.out.tr (hKg.tr HKW.out)).below⟩
          · have h5b : ((v : Int) == 4) = false := by simp; omega
            have HN2 := Hid.mk' (HEX.out ⟨h4, by omega⟩)
            have HU := Hid.mk' hu
            clear h1 hu h4 h5
            go_wp2
            go_roundw
            case rel =>
              refine ⟨k + 1, by omega, by go_num, HKW.out, HRO.out.congr (fun j hj => ?_), HN2.out⟩
              rw [HST.out]
              show _ = if j < n then Value.int .u8 (((if j = k then u else mixK F L M k j) : Nat) : Int) else f j
              by_cases e : j = k
              · subst e; rw [if_pos rfl, HU.out, HKK.out]
              · rw [if_neg e]
            case measure => simp [intOf]; omega
      · have hu := HJ2.out h1
        have h1b : ((N.asp : Int) != 1) = true := by simp; omega
        by_cases h4 : y = 4
        · subst h4
          clear h1 hu
          go_wp2
          go_ret
          exact ⟨rfl, ((HK.out.tr (hKg.tr HKW.out)).setNew (p := ⟨g, k, none⟩) (by show w.heap.size ≤ g; omega) _).below⟩
        · have h4b : ((y : Int) == 4) = false := by simp; omega
          have HN2 := Hid.mk' (HEX.out ⟨h4, by omega⟩)
          have HU := Hid.mk' hu
          clear h1 hu h4
          go_wp2
          go_roundw
          case rel =>
            refine ⟨k + 1, by omega, by go_num, HKW.out.setNew (p := ⟨g, k, none⟩) hgb _, (HRO.out.set k _).congr (fun j hj => ?_), HN2.out⟩
            rw [HST.out]
            show (if j = k then Value.int .u8 (y : Int) else if j < n then Value.int .u8 ((mixK F L M k j : Nat) : Int) else f j) = if j < n then Value.int .u8 (((if j = k then u else mixK F L M k j) : Nat) : Int) else f j
            by_cases e : j = k
            · subst e; rw [if_pos rfl, if_pos hlt, if_pos rfl, HU.out]
            · rw [if_neg e, if_neg e]
          case measure => simp [intOf]; omega
    · have e : n = k := by omega
      have hkr : Kept WA wr none := hKg.tr hkw
      have hbym : By wr (some ⟨g, 0, none⟩) n (mixL F L M n) := By.row hro _ n hgc (mixL_len F L M n) (by omega) (mixL_lt HLR.out HMR.out (by rw [HLN.out]) (by rw [HML.out])) (fun i hi => by rw [if_pos hi, show (mixL F L M n).getD i 0 = lg (mixL F L M n) i from rfl, mixL_lg hi]; unfold mixK; rw [if_pos (by omega)])
      have hno4 : ∀ j, j < n → lg L j ≠ 4 ∧ mixJ F L M j ≠ 4 := fun j hj => hno j (by omega)
      have HBM := Hid.mk' hbym
      have HN4 := Hid.mk' hno4
      have HKR := Hid.mk' hkr
      clear hbym hno4 hno hro hkw HRO HNO HKW
      obtain ⟨wm, hwm⟩ : ∃ wm, wm = wr := ⟨_, rfl⟩
      subst hwm
      subst e
      have HEQ : Hid (∀ i, i < q → letF S F L i = letF S F (mixL F L M n) i) := fun i hi => let_later (at_ := q) ((mixL_len F L M n).trans HLN.out.symm) (by have := HLN.out; omega) (fun i hi => (HN4.out i (by have := HLN.out; omega)).1) (fun i hi => by rw [mixL_lg (by have := HLN.out; omega)]; exact (HN4.out i (by have := HLN.out; omega)).2) (by have := HLN.out; omega) (fun i hi => by rw [mixL_lg (by omega)]; unfold mixJ; split; exact HMA.out i hi; rfl) (fun i hi hr => by rw [mixL_lg (by have := HLN.out; omega)]; unfold mixJ; rw [if_neg hr]) hi
      go_wp2_with (first
        | (have hgo := hK3; clear hgo; go_at_call 12; refine (HAD.out _ _ _ _ (HK.out.tr hK3) (HBM.out.kept hk3)).mono ?_; rintro e w4 ⟨b4, rfl, hr4, hk4⟩)
        | (go_at_call 12; refine (HAD.out _ _ _ _ (HK.out.tr HKR.out) (HB.out.kept HKR.out)).mono ?_; rintro e w3 ⟨b3, rfl, hr3, hk3⟩; have hK3 : Kept WA w3 none := HKR.out.tr hk3))
      have R3 := Hid.mk' (row_kept hr3 hk4 (by simp))
      have R4 := Hid.mk' hr4
      have HK4 := Hid.mk' (HK.out.tr (hK3.tr hk4))
      clear hr3 hr4 hk4 hk3 hK3
      go_loopw [18] (fun i wr => ∃ k : Nat, k ≤ q ∧ i = .int .i64 k ∧ Kept w4 wr none) (fun i _ => q - (intOf i).toNat)
      case atStart => exact ⟨0, by omega, rfl, Kept.refl _ _⟩
      case round =>
        obtain ⟨k, hk, rfl, hkw⟩ := hrel
        by_cases hlt : k < q
        · have y3 := (row_kept R3.out hkw (by simp)).cell (i := k) (by omega)
          have y4 := (row_kept R4.out hkw (by simp)).cell (i := k) (by omega)
          rw [← HEQ.out k hlt] at y4
          generalize letF S F L k = v at *
          have HKW := Hid.mk' hkw
          have hkn : k < n := by omega
          clear hkw
          go_wp2
          go_quiet (fail)
          go_wp2
          go_roundw
          case rel => exact ⟨k + 1, by omega, by go_num, HKW.out.tr (Kept.drewN _ _ _)⟩
          case measure => simp [intOf]; omega
        · have HKW := Hid.mk' hkw
          have e : k = q := by omega
          subst e
          clear hkw
          go_wp2
          go_ret
          exact ⟨rfl, (HK4.out.tr HKW.out).below⟩
set_option maxRecDepth 100000 in
set_option maxHeartbeats 4000000 in
theorem glat_ga {X : Sa} {S : St} {w : World} {a : Option Addr} {c : Nat} {F : Sf} {ba oa bo oo : Nat} {n cl co q : Nat} {L O : List Nat} (h : Sat w X S) (hT : Tabb w) (hF : SafeAt w a c F) (hB : By w (some ⟨ba, oa, none⟩) n L) (hO : By w (some ⟨bo, oo, none⟩) n O) (hC : Cap (some ⟨ba, oa, none⟩) n cl) (hD : Cap (some ⟨bo, oo, none⟩) n co) (hn : F.groups.length = n) (hn1 : n ≤ 100) (hq : q ≤ n) (h0 : 0 < n) (hcap : co = q) (hz : goesE S F = 0) : Calls Tryd.prog 8 #[siteV X S, safeV a c F, .slice (some ⟨ba, oa, none⟩) n cl, .slice (some ⟨bo, oo, none⟩) n co, .int .i64 (q : Int)] w fun e w' => e = .returned (.bool true) ∧ Below w.heap.size w w' := by
  obtain ⟨bf, off, rfl, hbf, hcf⟩ := hF.lie.at_ (by omega)
  have HCF : Hid (∀ i, i < n → ∀ j, j < 3 → w.cell? ⟨bf, off + i * 3 + j, none⟩ = some (snV (F.g i) j)) := fun i hi j hj => hcf i (by omega) j hj
  have HBC := Hid.mk' hB
  have HLN := Hid.mk' hB.size
  have HON := Hid.mk' hO.size
  have HLR := Hid.mk' hB.lt
  have HOR := Hid.mk' hO.lt
  have hbaw : ba < w.heap.size := by
    obtain ⟨b', o', e', hb', _⟩ := hB.at_ (by omega)
    injection e' with e'
    injection e' with e1 e2
    omega
  have hFr := hF.cap.room
  have hFm := hF.cap.max
  rw [hn] at hFr
  have hgs := (mayS_parts (goes_parts (goesE_ok hz).2).1).1
  have HAD : Hid (∀ w' al' cl' A', Kept w w' none → By w' al' n A' → Calls Tryd.prog 12 #[siteV X S, .agg #[.slice (some ⟨bf, off, none⟩) n c, .int .i64 F.start, .bool F.flashed], .slice al' n cl'] w' fun e w2 => ∃ b, e = .returned (.tuple #[.slice (some ⟨b, 0, none⟩) n n, .int .i64 0]) ∧ w2.rowIs b 5 n (fun i => .int .u8 ((letF S F A' i : Nat) : Int)) ∧ Kept w' w2 none) := fun w' al' cl' A' q hb => by
    have hx := gadmit_go (al := al') (n := n) (cl := cl') (h.kept q) (hT.kept q) (hF.kept q) hb hz (hn.symm.trans hgs)
    rw [safeV, hn, show S.groups.length = n from hgs.symm.trans hn] at hx
    refine hx.mono ?_
    rintro e w2 ⟨b, rfl, h1, h2, h3⟩
    exact ⟨b, rfl, h2, h3⟩
  clear hgs hz
  rw [show safeV (some ⟨bf, off, none⟩) c F = .agg #[.slice (some ⟨bf, off, none⟩) n c, .int .i64 F.start, .bool F.flashed] by rw [safeV, hn]]
  have HN := Hid.mk' hn
  clear hn
  have k1 : Kept w (w.alloc (.cells #[.int .i64 S.id, .slice X.g S.groups.length X.gc, .slice X.a S.apart.length X.ac, .slice X.b S.between.length X.bc, .slice X.p S.phases.length X.pc, .slice X.e S.eyes.length X.ec, .int .i64 S.watch, .int .i64 S.feed, .int .i64 S.heal, .int .i64 S.low, .int .i64 S.high, .slice X.l S.plans.length X.lc] 34)) none := Kept.alloc _ _ _ _ _
  have k2 : Kept (w.alloc (.cells #[.int .i64 S.id, .slice X.g S.groups.length X.gc, .slice X.a S.apart.length X.ac, .slice X.b S.between.length X.bc, .slice X.p S.phases.length X.pc, .slice X.e S.eyes.length X.ec, .int .i64 S.watch, .int .i64 S.feed, .int .i64 S.heal, .int .i64 S.low, .int .i64 S.high, .slice X.l S.plans.length X.lc] 34)) ((w.alloc (.cells #[.int .i64 S.id, .slice X.g S.groups.length X.gc, .slice X.a S.apart.length X.ac, .slice X.b S.between.length X.bc, .slice X.p S.phases.length X.pc, .slice X.e S.eyes.length X.ec, .int .i64 S.watch, .int .i64 S.feed, .int .i64 S.heal, .int .i64 S.low, .int .i64 S.high, .slice X.l S.plans.length X.lc] 34)).alloc (.cells #[.slice (some ⟨bf, off, none⟩) n c, .int .i64 F.start, .bool F.flashed] 41)) none := Kept.alloc _ _ _ _ _
  have hsb := (sbox_alloc h 34).kept k2
  have bn := box_alloc (w.alloc (.cells #[.int .i64 S.id, .slice X.g S.groups.length X.gc, .slice X.a S.apart.length X.ac, .slice X.b S.between.length X.bc, .slice X.p S.phases.length X.pc, .slice X.e S.eyes.length X.ec, .int .i64 S.watch, .int .i64 S.feed, .int .i64 S.heal, .int .i64 S.low, .int .i64 S.high, .slice X.l S.plans.length X.lc] 34)) (.slice (some ⟨bf, off, none⟩) n c) (.int .i64 F.start) (.bool F.flashed) 41
  rw [World.size_alloc] at bn
  have hkA := k1.tr k2
  obtain ⟨WA, hWA⟩ : ∃ WA, ((w.alloc (.cells #[.int .i64 S.id, .slice X.g S.groups.length X.gc, .slice X.a S.apart.length X.ac, .slice X.b S.between.length X.bc, .slice X.p S.phases.length X.pc, .slice X.e S.eyes.length X.ec, .int .i64 S.watch, .int .i64 S.feed, .int .i64 S.heal, .int .i64 S.low, .int .i64 S.high, .slice X.l S.plans.length X.lc] 34)).alloc (.cells #[.slice (some ⟨bf, off, none⟩) n c, .int .i64 F.start, .bool F.flashed] 41)) = WA := ⟨_, rfl⟩
  rw [hWA] at hsb bn hkA
  have HSB := Hid.mk' hsb
  have HBN := Hid.mk' bn
  have HK := Hid.mk' hkA
  have HS := Hid.mk' (h.kept hkA)
  have HT := Hid.mk' (hT.kept hkA)
  have HF := Hid.mk' (hF.kept hkA)
  have HB := Hid.mk' (hB.kept hkA)
  have hBm := hB.max
  have n0_ : ∀ w', Kept WA w' none → w'.cell? ⟨w.heap.size + 1, 0, none⟩ = some (.slice (some ⟨bf, off, none⟩) n c) := fun w' q => (HBN.out.kept q).c0
  have n1_ : ∀ w', Kept WA w' none → w'.cell? ⟨w.heap.size + 1, 1, none⟩ = some (.int .i64 F.start) := fun w' q => (HBN.out.kept q).c1
  have n2_ : ∀ w', Kept WA w' none → w'.cell? ⟨w.heap.size + 1, 2, none⟩ = some (.bool F.flashed) := fun w' q => (HBN.out.kept q).c2
  have s0_ : ∀ w', Kept WA w' none → w'.cell? ⟨w.heap.size, 0, none⟩ = some (.int .i64 S.id) := fun w' q => (HSB.out.kept q).c0
  have s1_ : ∀ w', Kept WA w' none → w'.cell? ⟨w.heap.size, 1, none⟩ = some (.slice X.g S.groups.length X.gc) := fun w' q => (HSB.out.kept q).c1
  have s2_ : ∀ w', Kept WA w' none → w'.cell? ⟨w.heap.size, 2, none⟩ = some (.slice X.a S.apart.length X.ac) := fun w' q => (HSB.out.kept q).c2
  have s3_ : ∀ w', Kept WA w' none → w'.cell? ⟨w.heap.size, 3, none⟩ = some (.slice X.b S.between.length X.bc) := fun w' q => (HSB.out.kept q).c3
  have s4_ : ∀ w', Kept WA w' none → w'.cell? ⟨w.heap.size, 4, none⟩ = some (.slice X.p S.phases.length X.pc) := fun w' q => (HSB.out.kept q).c4
  have s5_ : ∀ w', Kept WA w' none → w'.cell? ⟨w.heap.size, 5, none⟩ = some (.slice X.e S.eyes.length X.ec) := fun w' q => (HSB.out.kept q).c5
  have s6_ : ∀ w', Kept WA w' none → w'.cell? ⟨w.heap.size, 6, none⟩ = some (.int .i64 S.watch) := fun w' q => (HSB.out.kept q).c6
  have s7_ : ∀ w', Kept WA w' none → w'.cell? ⟨w.heap.size, 7, none⟩ = some (.int .i64 S.feed) := fun w' q => (HSB.out.kept q).c7
  have s8_ : ∀ w', Kept WA w' none → w'.cell? ⟨w.heap.size, 8, none⟩ = some (.int .i64 S.heal) := fun w' q => (HSB.out.kept q).c8
  have s9_ : ∀ w', Kept WA w' none → w'.cell? ⟨w.heap.size, 9, none⟩ = some (.int .i64 S.low) := fun w' q => (HSB.out.kept q).c9
  have s10_ : ∀ w', Kept WA w' none → w'.cell? ⟨w.heap.size, 10, none⟩ = some (.int .i64 S.high) := fun w' q => (HSB.out.kept q).c10
  have s11_ : ∀ w', Kept WA w' none → w'.cell? ⟨w.heap.size, 11, none⟩ = some (.slice X.l S.plans.length X.lc) := fun w' q => (HSB.out.kept q).c11
  have hK0 := Kept.refl WA none
  have HO := Hid.mk' (hO.kept hkA)
  have hOm := hO.max
  have hcl := hC.room
  have hcm := hC.max
  have hdl := hD.room
  have hdm := hD.max
  clear h hT hF hB hO hC hD k1 k2 hsb bn hkA
  go_enter Tryd.func8, Tryd.ntmps8
  go_wp2_with (first | rw [hWA] | (go_at_call 15; refine (galive_any HT.out).mono ?_; rintro e wa ⟨rfl, hka⟩; have hKa : Kept WA wa none := hka))
  go_at_call 16
  refine (rgreat_any (HS.out.kept hKa)).mono ?_
  rintro e wg ⟨gr, rfl, hgr, hkg⟩
  have hKg : Kept WA wg none := hKa.tr hkg
  clear hgr
  cases gr with
  | true =>
    go_wp2
    go_ret
    exact ⟨rfl, (HK.out.tr hKg).below⟩
  | false =>
  have t1b : decide ((100 : Int) < (n : Int)) = false := by simp; omega
  have t4b : decide ((q : Int) < 0) = false := by simp
  have t5b : decide ((n : Int) < (q : Int)) = false := by simp; omega
  have hqcl : (q : Int) ≤ (cl : Int) := by omega
  have hqco : (q : Int) ≤ (co : Int) := by omega
  clear hcf
  have hqn : n = q := by omega
  subst hqn
  have hcap' := hcap.symm
  subst hcap'
  go_wp2_with (first
    | (have hgo := HM1; clear hgo; at_builtin; refine wpList_join (by rfl) _ _ (by rfl) wg.heap.size _ n (L.take n) (by rfl) HM1.out.own (some ⟨bo, oo, none⟩) 0 0 [] (by rfl) (By.nil _ _) (fun e => (nomatch e)) (by omega) hk1.size ?_; intro a2 c2 w2 hm2 hg2; have hm2 : Mine w2 wg.heap.size a2 n c2 (L.take n) := (by have h5 := hm2; simp only [Nat.add_zero, List.append_nil] at h5; exact h5); (try rw [Nat.add_zero]); have hk2 : Kept wg w2 none := Kept.newRow hk1 hg2 (fun i h => (own_lt8 HM1.out.own i h).1); have HM2 := Hid.mk' hm2; clear hm2)
    | (at_builtin; refine wpList_join (by rfl) _ _ (by rfl) wg.heap.size (.slice none 0 0) 0 [] (by rfl) (World.ownsRow_nil _ _ _ _) _ n cl (L.take n) (by rfl) ((HB.out.kept hKg).take n (Nat.le_refl n)) (fun e => (nomatch e)) (by omega) (Nat.le_refl _) ?_; intro a1 c1 w1 hm1 hg1; rw [show 0 + n = n from Nat.zero_add n, List.nil_append] at hm1; rw [show 0 + n = n from Nat.zero_add n]; have hk1 : Kept wg w1 none := hg1; have HM1 := Hid.mk' hm1; have hr1 := hm1.room; have hx1 := hm1.max; clear hm1))
  obtain ⟨g, f, e2, hgb, hgc, hrow⟩ := HM2.out.row9 h0
  subst e2
  have HMA : Hid (∀ i, i < n → lg (L.take n) i = lg L i) := fun i hi => by simp [lg, hi]
  have HMR : Hid (∀ x ∈ (L.take n), x < 256) := fun x hx => HLR.out x (List.mem_of_mem_take hx)
  have HML : Hid ((L.take n).length = n) := by show _ = _; have := HLN.out; have := HON.out; simp; omega
  generalize (L.take n) = M at *
  have HRW := Hid.mk' hrow
  have HK2 := Hid.mk' hk2
  have hgz := hKg.size
  have hwz := HK.out.size
  have hba : ba ≠ g := by omega
  have hbf2 : bf ≠ g := by omega
  have hcx := HM2.out.max
  clear hrow hg1 hg2 HM1
  go_loopw [13] (fun i wr => ∃ k : Nat, k ≤ n ∧ i = .int .i64 k ∧ Kept wg wr none ∧ wr.rowIs g 5 c2 (fun j => if j < n then .int .u8 ((mixK F L M k j : Nat) : Int) else f j) ∧ ∀ j, j < k → lg L j ≠ 4 ∧ mixJ F L M j ≠ 4) (fun i _ => n - (intOf i).toNat)
  case atStart => exact ⟨0, by omega, rfl, HK2.out, HRW.out.congr (fun j hj => by unfold mixK; rw [if_neg (Nat.not_lt_zero j)]), fun j hj => by omega⟩
  case round =>
    obtain ⟨k, hk, rfl, hkw, hro, hno⟩ := hrel
    have HKW := Hid.mk' hkw
    have HRO := Hid.mk' hro
    have HNO := Hid.mk' hno
    by_cases hlt : k < n
    · have x0 := n0_ wr (hKg.tr hkw)
      have x1 := cell_kept0 (HCF.out k hlt 0 (by omega)) (HK.out.tr (hKg.tr hkw))
      simp only [snV, Nat.add_zero] at x1
      obtain ⟨ba', oa', eb, _, hca⟩ := HBC.out.at_ h0
      injection eb with eb
      injection eb with eb1 eb2
      subst eb1 eb2
      have l0 := cell_kept0 (hca k hlt) (HK.out.tr (hKg.tr hkw))
      rw [show L.getD k 0 = lg L k from rfl] at l0
      have y0 : wr.cell? ⟨g, k, none⟩ = some (.int .u8 ((lg M k : Nat) : Int)) := (hro.cell (i := k) (by omega)).trans (by rw [if_pos hlt]; unfold mixK; rw [if_neg (Nat.lt_irrefl k)])
      have z0 := hro.frozen k
      have hgl := hro.lt
      have HST : Hid (mixK F L M (k + 1) = fun j => if j = k then mixJ F L M k else mixK F L M k j) := mixK_succ F L M k
      have HJ1 : Hid ((F.g k).asp = 1 → mixJ F L M k = lg M k) := fun e => by unfold mixJ; rw [if_pos e]
      have HJ2 : Hid ((F.g k).asp ≠ 1 → mixJ F L M k = lg L k) := fun e => by unfold mixJ; rw [if_neg e]
      have HKK : Hid (mixK F L M k k = lg M k) := by show _ = _; unfold mixK; rw [if_neg (Nat.lt_irrefl k)]
      have HEX : Hid (lg L k ≠ 4 ∧ mixJ F L M k ≠ 4 → ∀ j, j < k + 1 → lg L j ≠ 4 ∧ mixJ F L M j ≠ 4) := fun e => ext_no hno e
      clear hkw hro hno hca
      generalize F.g k = N at *
      generalize lg L k = y at *
      generalize hJ : mixJ F L M k = u at *
      clear hJ
      by_cases h1 : N.asp = 1
      · have hu := HJ1.out h1
        rw [h1] at x1
        by_cases h4 : y = 4
        · subst h4
          clear h1 hu
          go_wp2
          go_ret
          exact ⟨rfl, (HK.out.tr (hKg.tr HKW.out)).below⟩
        · have h4b : ((y : Int) == 4) = false := by simp; omega
          generalize lg M k = v at *
          by_cases h5 : v = 4
          · subst h5
            clear h1 hu h4
            go_wp2
            go_ret
            exact ⟨rfl, (HK.out.tr (hKg.tr HKW.out)).below⟩
          · have h5b : ((v : Int) == 4) = false := by simp; omega
            have HN2 := Hid.mk' (HEX.out ⟨h4, by omega⟩)
            have HU := Hid.mk' hu
            clear h1 hu h4 h5
            go_wp2
            go_roundw
            case rel =>
              refine ⟨k + 1, by omega, by go_num, HKW.out, HRO.out.congr (fun j hj => ?_), HN2.out⟩
              rw [HST.out]
              show _ = if j < n then Value.int .u8 (((if j = k then u else mixK F L M k j) : Nat) : Int) else f j
              by_cases e : j = k
              · subst e; rw [if_pos rfl, HU.out, HKK.out]
              · rw [if_neg e]
            case measure => simp [intOf]; omega
      · have hu := HJ2.out h1
        have h1b : ((N.asp : Int) != 1) = true := by simp; omega
        by_cases h4 : y = 4
        · subst h4
          clear h1 hu
          go_wp2
          go_ret
          exact ⟨rfl, ((HK.out.tr (hKg.tr HKW.out)).setNew (p := ⟨g, k, none⟩) (by show w.heap.size ≤ g; omega) _).below⟩
        · have h4b : ((y : Int) == 4) = false := by simp; omega
          have HN2 := Hid.mk' (HEX.out ⟨h4, by omega⟩)
          have HU := Hid.mk' hu
          clear h1 hu h4
          go_wp2
          go_roundw
          case rel =>
            refine ⟨k + 1, by omega, by go_num, HKW.out.setNew (p := ⟨g, k, none⟩) hgb _, (HRO.out.set k _).congr (fun j hj => ?_), HN2.out⟩
            rw [HST.out]
            show (if j = k then Value.int .u8 (y : Int) else if j < n then Value.int .u8 ((mixK F L M k j : Nat) : Int) else f j) = if j < n then Value.int .u8 (((if j = k then u else mixK F L M k j) : Nat) : Int) else f j
            by_cases e : j = k
            · subst e; rw [if_pos rfl, if_pos hlt, if_pos rfl, HU.out]
            · rw [if_neg e, if_neg e]
          case measure => simp [intOf]; omega
    · have e : n = k := by omega
      have hkr : Kept WA wr none := hKg.tr hkw
      have hbym : By wr (some ⟨g, 0, none⟩) n (mixL F L M n) := By.row hro _ n hgc (mixL_len F L M n) (by omega) (mixL_lt HLR.out HMR.out (by rw [HLN.out]) (by rw [HML.out])) (fun i hi => by rw [if_pos hi, show (mixL F L M n).getD i 0 = lg (mixL F L M n) i from rfl, mixL_lg hi]; unfold mixK; rw [if_pos (by omega)])
      have hno4 : ∀ j, j < n → lg L j ≠ 4 ∧ mixJ F L M j ≠ 4 := fun j hj => hno j (by omega)
      have HBM := Hid.mk' hbym
      have HN4 := Hid.mk' hno4
      have HKR := Hid.mk' hkr
      clear hbym hno4 hno hro hkw HRO HNO HKW
      obtain ⟨wm, hwm⟩ : ∃ wm, wm = wr := ⟨_, rfl⟩
      subst hwm
      subst e
      have HEQ : Hid (∀ i, i < n → letF S F L i = letF S F (mixL F L M n) i) := fun i hi => let_later (at_ := n) ((mixL_len F L M n).trans HLN.out.symm) (by have := HLN.out; omega) (fun i hi => (HN4.out i (by have := HLN.out; omega)).1) (fun i hi => by rw [mixL_lg (by have := HLN.out; omega)]; exact (HN4.out i (by have := HLN.out; omega)).2) (by have := HLN.out; omega) (fun i hi => by rw [mixL_lg (by omega)]; unfold mixJ; split; exact HMA.out i hi; rfl) (fun i hi hr => by rw [mixL_lg (by have := HLN.out; omega)]; unfold mixJ; rw [if_neg hr]) hi
      go_wp2_with (first
        | (have hgo := hK3; clear hgo; go_at_call 12; refine (HAD.out _ _ _ _ (HK.out.tr hK3) (HBM.out.kept hk3)).mono ?_; rintro e w4 ⟨b4, rfl, hr4, hk4⟩)
        | (go_at_call 12; refine (HAD.out _ _ _ _ (HK.out.tr HKR.out) (HB.out.kept HKR.out)).mono ?_; rintro e w3 ⟨b3, rfl, hr3, hk3⟩; have hK3 : Kept WA w3 none := HKR.out.tr hk3))
      have R3 := Hid.mk' (row_kept hr3 hk4 (by simp))
      have R4 := Hid.mk' hr4
      have HK4 := Hid.mk' (HK.out.tr (hK3.tr hk4))
      clear hr3 hr4 hk4 hk3 hK3
      go_loopw [18] (fun i wr => ∃ k : Nat, k ≤ n ∧ i = .int .i64 k ∧ Kept w4 wr none) (fun i _ => n - (intOf i).toNat)
      case atStart => exact ⟨0, by omega, rfl, Kept.refl _ _⟩
      case round =>
        obtain ⟨k, hk, rfl, hkw⟩ := hrel
        by_cases hlt : k < n
        · have y3 := (row_kept R3.out hkw (by simp)).cell (i := k) (by omega)
          have y4 := (row_kept R4.out hkw (by simp)).cell (i := k) (by omega)
          rw [← HEQ.out k hlt] at y4
          generalize letF S F L k = v at *
          have HKW := Hid.mk' hkw
          have hkn : k < n := by omega
          clear hkw
          go_wp2
          go_quiet (fail)
          go_wp2
          go_roundw
          case rel => exact ⟨k + 1, by omega, by go_num, HKW.out.tr (Kept.drewN _ _ _)⟩
          case measure => simp [intOf]; omega
        · have HKW := Hid.mk' hkw
          have e : k = n := by omega
          subst e
          clear hkw
          go_wp2
          go_ret
          exact ⟨rfl, (HK4.out.tr HKW.out).below⟩

end Go.Proofs.YtkbhcpgdhbfhnaaDoor

/-
  THE WALK of GateLater where nothing is asked; and the whole of it (made by a program).
-/
namespace Go.Proofs.YtkbhcpgdhbfhnaaDoor
open Go.RowKit Go.Lib Go.Deep
set_option linter.unusedVariables false
set_option linter.unusedSimpArgs false

set_option maxRecDepth 100000 in
set_option maxHeartbeats 4000000 in
theorem glat_nn {X : Sa} {S : St} {w : World} {a : Option Addr} {c : Nat} {F : Sf} (h : Sat w X S) (hT : Tabb w) (hF : SafeAt w a c F) (hB : By w none 0 []) (hO : By w none 0 []) (hC : Cap none 0 0) (hD : Cap none 0 0) (hn : F.groups.length = 0) (hz : goesE S F ≠ 0) : Calls Tryd.prog 8 #[siteV X S, safeV a c F, .slice none 0 0, .slice none 0 0, .int .i64 0] w fun e w' => e = .returned (.bool true) ∧ Below w.heap.size w w' := by
  have HAD : Hid (∀ w' al' n' cl', Kept w w' none → Calls Tryd.prog 12 #[siteV X S, .agg #[.slice a 0 c, .int .i64 F.start, .bool F.flashed], .slice al' n' cl'] w' fun e w2 => e = .returned (.tuple #[.slice none 0 0, .int .i64 (goesE S F)]) ∧ Kept w' w2 none) := fun w' al' n' cl' q => by
    have hx := gadmit_no (al := al') (n := n') (cl := cl') (h.kept q) (hT.kept q) (hF.kept q) hz
    rw [safeV, hn] at hx
    exact hx
  have hzb : (goesE S F != 0) = true := by simpa using hz
  generalize goesE S F = z at *
  rw [show safeV a c F = .agg #[.slice a 0 c, .int .i64 F.start, .bool F.flashed] by rw [safeV, hn]]
  have HN := Hid.mk' hn
  clear hn
  have k1 : Kept w (w.alloc (.cells #[.int .i64 S.id, .slice X.g S.groups.length X.gc, .slice X.a S.apart.length X.ac, .slice X.b S.between.length X.bc, .slice X.p S.phases.length X.pc, .slice X.e S.eyes.length X.ec, .int .i64 S.watch, .int .i64 S.feed, .int .i64 S.heal, .int .i64 S.low, .int .i64 S.high, .slice X.l S.plans.length X.lc] 34)) none := Kept.alloc _ _ _ _ _
  have k2 : Kept (w.alloc (.cells #[.int .i64 S.id, .slice X.g S.groups.length X.gc, .slice X.a S.apart.length X.ac, .slice X.b S.between.length X.bc, .slice X.p S.phases.length X.pc, .slice X.e S.eyes.length X.ec, .int .i64 S.watch, .int .i64 S.feed, .int .i64 S.heal, .int .i64 S.low, .int .i64 S.high, .slice X.l S.plans.length X.lc] 34)) ((w.alloc (.cells #[.int .i64 S.id, .slice X.g S.groups.length X.gc, .slice X.a S.apart.length X.ac, .slice X.b S.between.length X.bc, .slice X.p S.phases.length X.pc, .slice X.e S.eyes.length X.ec, .int .i64 S.watch, .int .i64 S.feed, .int .i64 S.heal, .int .i64 S.low, .int .i64 S.high, .slice X.l S.plans.length X.lc] 34)).alloc (.cells #[.slice a 0 c, .int .i64 F.start, .bool F.flashed] 41)) none := Kept.alloc _ _ _ _ _
  have hsb := (sbox_alloc h 34).kept k2
  have bn := box_alloc (w.alloc (.cells #[.int .i64 S.id, .slice X.g S.groups.length X.gc, .slice X.a S.apart.length X.ac, .slice X.b S.between.length X.bc, .slice X.p S.phases.length X.pc, .slice X.e S.eyes.length X.ec, .int .i64 S.watch, .int .i64 S.feed, .int .i64 S.heal, .int .i64 S.low, .int .i64 S.high, .slice X.l S.plans.length X.lc] 34)) (.slice a 0 c) (.int .i64 F.start) (.bool F.flashed) 41
  rw [World.size_alloc] at bn
  have hkA := k1.tr k2
  obtain ⟨WA, hWA⟩ : ∃ WA, ((w.alloc (.cells #[.int .i64 S.id, .slice X.g S.groups.length X.gc, .slice X.a S.apart.length X.ac, .slice X.b S.between.length X.bc, .slice X.p S.phases.length X.pc, .slice X.e S.eyes.length X.ec, .int .i64 S.watch, .int .i64 S.feed, .int .i64 S.heal, .int .i64 S.low, .int .i64 S.high, .slice X.l S.plans.length X.lc] 34)).alloc (.cells #[.slice a 0 c, .int .i64 F.start, .bool F.flashed] 41)) = WA := ⟨_, rfl⟩
  rw [hWA] at hsb bn hkA
  have HSB := Hid.mk' hsb
  have HBN := Hid.mk' bn
  have HK := Hid.mk' hkA
  have HS := Hid.mk' (h.kept hkA)
  have HT := Hid.mk' (hT.kept hkA)
  have HF := Hid.mk' (hF.kept hkA)
  have HB := Hid.mk' (hB.kept hkA)
  have hBm := hB.max
  have n0_ : ∀ w', Kept WA w' none → w'.cell? ⟨w.heap.size + 1, 0, none⟩ = some (.slice a 0 c) := fun w' q => (HBN.out.kept q).c0
  have n1_ : ∀ w', Kept WA w' none → w'.cell? ⟨w.heap.size + 1, 1, none⟩ = some (.int .i64 F.start) := fun w' q => (HBN.out.kept q).c1
  have n2_ : ∀ w', Kept WA w' none → w'.cell? ⟨w.heap.size + 1, 2, none⟩ = some (.bool F.flashed) := fun w' q => (HBN.out.kept q).c2
  have s0_ : ∀ w', Kept WA w' none → w'.cell? ⟨w.heap.size, 0, none⟩ = some (.int .i64 S.id) := fun w' q => (HSB.out.kept q).c0
  have s1_ : ∀ w', Kept WA w' none → w'.cell? ⟨w.heap.size, 1, none⟩ = some (.slice X.g S.groups.length X.gc) := fun w' q => (HSB.out.kept q).c1
  have s2_ : ∀ w', Kept WA w' none → w'.cell? ⟨w.heap.size, 2, none⟩ = some (.slice X.a S.apart.length X.ac) := fun w' q => (HSB.out.kept q).c2
  have s3_ : ∀ w', Kept WA w' none → w'.cell? ⟨w.heap.size, 3, none⟩ = some (.slice X.b S.between.length X.bc) := fun w' q => (HSB.out.kept q).c3
  have s4_ : ∀ w', Kept WA w' none → w'.cell? ⟨w.heap.size, 4, none⟩ = some (.slice X.p S.phases.length X.pc) := fun w' q => (HSB.out.kept q).c4
  have s5_ : ∀ w', Kept WA w' none → w'.cell? ⟨w.heap.size, 5, none⟩ = some (.slice X.e S.eyes.length X.ec) := fun w' q => (HSB.out.kept q).c5
  have s6_ : ∀ w', Kept WA w' none → w'.cell? ⟨w.heap.size, 6, none⟩ = some (.int .i64 S.watch) := fun w' q => (HSB.out.kept q).c6
  have s7_ : ∀ w', Kept WA w' none → w'.cell? ⟨w.heap.size, 7, none⟩ = some (.int .i64 S.feed) := fun w' q => (HSB.out.kept q).c7
  have s8_ : ∀ w', Kept WA w' none → w'.cell? ⟨w.heap.size, 8, none⟩ = some (.int .i64 S.heal) := fun w' q => (HSB.out.kept q).c8
  have s9_ : ∀ w', Kept WA w' none → w'.cell? ⟨w.heap.size, 9, none⟩ = some (.int .i64 S.low) := fun w' q => (HSB.out.kept q).c9
  have s10_ : ∀ w', Kept WA w' none → w'.cell? ⟨w.heap.size, 10, none⟩ = some (.int .i64 S.high) := fun w' q => (HSB.out.kept q).c10
  have s11_ : ∀ w', Kept WA w' none → w'.cell? ⟨w.heap.size, 11, none⟩ = some (.slice X.l S.plans.length X.lc) := fun w' q => (HSB.out.kept q).c11
  have hK0 := Kept.refl WA none
  have HO := Hid.mk' (hO.kept hkA)
  have hOm := hO.max
  have hcl := hC.room
  have hcm := hC.max
  have hdl := hD.room
  have hdm := hD.max
  clear h hT hF hB hO hC hD k1 k2 hsb bn hkA
  go_enter Tryd.func8, Tryd.ntmps8
  go_wp2_with (first | rw [hWA] | (go_at_call 15; refine (galive_any HT.out).mono ?_; rintro e wa ⟨rfl, hka⟩; have hKa : Kept WA wa none := hka))
  go_at_call 16
  refine (rgreat_any (HS.out.kept hKa)).mono ?_
  rintro e wg ⟨gr, rfl, hgr, hkg⟩
  have hKg : Kept WA wg none := hKa.tr hkg
  clear hgr
  cases gr with
  | true =>
    go_wp2
    go_ret
    exact ⟨rfl, (HK.out.tr hKg).below⟩
  | false =>
  go_wp2_with (first
    | (have hgo := HM1; clear hgo; at_builtin; refine wpList_join (by rfl) _ _ (by rfl) wg.heap.size _ 0 [] (by rfl) HM1.out.own _ 0 _ [] (by rfl) (By.nil _ _) (by intro e; first | rfl | (cases e; done) | (simp at e; done)) (by omega) hk1.size ?_; intro a2 c2 w2 hm2 hg2; have hk2 : Kept wg w2 none := Kept.newRow hk1 hg2 (fun i h => (own_lt8 HM1.out.own i h).1); (try rw [Nat.add_zero]))
    | (at_builtin; refine wpList_join (by rfl) _ _ (by rfl) wg.heap.size (.slice none 0 0) 0 [] (by rfl) (World.ownsRow_nil _ _ _ _) _ 0 _ [] (by rfl) (By.nil _ _) (by intro e; first | rfl | (cases e; done) | (simp at e; done)) (by omega) (Nat.le_refl _) ?_; intro a1 c1 w1 hm1 hg1; have hk1 : Kept wg w1 none := hg1; have HM1 : Hid (Mine w1 wg.heap.size a1 0 c1 []) := hm1; have hr1 := hm1.room; have hx1 := hm1.max; (try rw [Nat.add_zero]); clear hm1))
  have hK2 : Kept WA w2 none := hKg.tr hk2
  go_loopw [13] (fun i wr => i = .int .i64 0 ∧ wr = w2) (fun i _ => 0)
  case atStart => exact ⟨rfl, rfl⟩
  case round =>
    obtain ⟨rfl, rfl⟩ := hrel
    go_wp2_with (first
        | (have hgo := hK3; clear hgo; go_at_call 12; refine (HAD.out _ _ _ _ (HK.out.tr hK3)).mono ?_; rintro e w4 ⟨rfl, hk4⟩)
        | (go_at_call 12; refine (HAD.out _ _ _ _ (HK.out.tr hK2)).mono ?_; rintro e w3 ⟨rfl, hk3⟩; have hK3 : Kept WA w3 none := hK2.tr hk3))
    go_ret
    exact ⟨rfl, (HK.out.tr (hK3.tr hk4)).below⟩
set_option maxRecDepth 100000 in
set_option maxHeartbeats 4000000 in
theorem glat_sn {X : Sa} {S : St} {w : World} {a : Option Addr} {c : Nat} {F : Sf} {ad : Addr} {cl : Nat} (h : Sat w X S) (hT : Tabb w) (hF : SafeAt w a c F) (hB : By w (some ad) 0 []) (hO : By w none 0 []) (hC : Cap (some ad) 0 cl) (hD : Cap none 0 0) (hn : F.groups.length = 0) (hz : goesE S F ≠ 0) : Calls Tryd.prog 8 #[siteV X S, safeV a c F, .slice (some ad) 0 cl, .slice none 0 0, .int .i64 0] w fun e w' => e = .returned (.bool true) ∧ Below w.heap.size w w' := by
  have HAD : Hid (∀ w' al' n' cl', Kept w w' none → Calls Tryd.prog 12 #[siteV X S, .agg #[.slice a 0 c, .int .i64 F.start, .bool F.flashed], .slice al' n' cl'] w' fun e w2 => e = .returned (.tuple #[.slice none 0 0, .int .i64 (goesE S F)]) ∧ Kept w' w2 none) := fun w' al' n' cl' q => by
    have hx := gadmit_no (al := al') (n := n') (cl := cl') (h.kept q) (hT.kept q) (hF.kept q) hz
    rw [safeV, hn] at hx
    exact hx
  have hzb : (goesE S F != 0) = true := by simpa using hz
  generalize goesE S F = z at *
  rw [show safeV a c F = .agg #[.slice a 0 c, .int .i64 F.start, .bool F.flashed] by rw [safeV, hn]]
  have HN := Hid.mk' hn
  clear hn
  have k1 : Kept w (w.alloc (.cells #[.int .i64 S.id, .slice X.g S.groups.length X.gc, .slice X.a S.apart.length X.ac, .slice X.b S.between.length X.bc, .slice X.p S.phases.length X.pc, .slice X.e S.eyes.length X.ec, .int .i64 S.watch, .int .i64 S.feed, .int .i64 S.heal, .int .i64 S.low, .int .i64 S.high, .slice X.l S.plans.length X.lc] 34)) none := Kept.alloc _ _ _ _ _
  have k2 : Kept (w.alloc (.cells #[.int .i64 S.id, .slice X.g S.groups.length X.gc, .slice X.a S.apart.length X.ac, .slice X.b S.between.length X.bc, .slice X.p S.phases.length X.pc, .slice X.e S.eyes.length X.ec, .int .i64 S.watch, .int .i64 S.feed, .int .i64 S.heal, .int .i64 S.low, .int .i64 S.high, .slice X.l S.plans.length X.lc] 34)) ((w.alloc (.cells #[.int .i64 S.id, .slice X.g S.groups.length X.gc, .slice X.a S.apart.length X.ac, .slice X.b S.between.length X.bc, .slice X.p S.phases.length X.pc, .slice X.e S.eyes.length X.ec, .int .i64 S.watch, .int .i64 S.feed, .int .i64 S.heal, .int .i64 S.low, .int .i64 S.high, .slice X.l S.plans.length X.lc] 34)).alloc (.cells #[.slice a 0 c, .int .i64 F.start, .bool F.flashed] 41)) none := Kept.alloc _ _ _ _ _
  have hsb := (sbox_alloc h 34).kept k2
  have bn := box_alloc (w.alloc (.cells #[.int .i64 S.id, .slice X.g S.groups.length X.gc, .slice X.a S.apart.length X.ac, .slice X.b S.between.length X.bc, .slice X.p S.phases.length X.pc, .slice X.e S.eyes.length X.ec, .int .i64 S.watch, .int .i64 S.feed, .int .i64 S.heal, .int .i64 S.low, .int .i64 S.high, .slice X.l S.plans.length X.lc] 34)) (.slice a 0 c) (.int .i64 F.start) (.bool F.flashed) 41
  rw [World.size_alloc] at bn
  have hkA := k1.tr k2
  obtain ⟨WA, hWA⟩ : ∃ WA, ((w.alloc (.cells #[.int .i64 S.id, .slice X.g S.groups.length X.gc, .slice X.a S.apart.length X.ac, .slice X.b S.between.length X.bc, .slice X.p S.phases.length X.pc, .slice X.e S.eyes.length X.ec, .int .i64 S.watch, .int .i64 S.feed, .int .i64 S.heal, .int .i64 S.low, .int .i64 S.high, .slice X.l S.plans.length X.lc] 34)).alloc (.cells #[.slice a 0 c, .int .i64 F.start, .bool F.flashed] 41)) = WA := ⟨_, rfl⟩
  rw [hWA] at hsb bn hkA
  have HSB := Hid.mk' hsb
  have HBN := Hid.mk' bn
  have HK := Hid.mk' hkA
  have HS := Hid.mk' (h.kept hkA)
  have HT := Hid.mk' (hT.kept hkA)
  have HF := Hid.mk' (hF.kept hkA)
  have HB := Hid.mk' (hB.kept hkA)
  have hBm := hB.max
  have n0_ : ∀ w', Kept WA w' none → w'.cell? ⟨w.heap.size + 1, 0, none⟩ = some (.slice a 0 c) := fun w' q => (HBN.out.kept q).c0
  have n1_ : ∀ w', Kept WA w' none → w'.cell? ⟨w.heap.size + 1, 1, none⟩ = some (.int .i64 F.start) := fun w' q => (HBN.out.kept q).c1
  have n2_ : ∀ w', Kept WA w' none → w'.cell? ⟨w.heap.size + 1, 2, none⟩ = some (.bool F.flashed) := fun w' q => (HBN.out.kept q).c2
  have s0_ : ∀ w', Kept WA w' none → w'.cell? ⟨w.heap.size, 0, none⟩ = some (.int .i64 S.id) := fun w' q => (HSB.out.kept q).c0
  have s1_ : ∀ w', Kept WA w' none → w'.cell? ⟨w.heap.size, 1, none⟩ = some (.slice X.g S.groups.length X.gc) := fun w' q => (HSB.out.kept q).c1
  have s2_ : ∀ w', Kept WA w' none → w'.cell? ⟨w.heap.size, 2, none⟩ = some (.slice X.a S.apart.length X.ac) := fun w' q => (HSB.out.kept q).c2
  have s3_ : ∀ w', Kept WA w' none → w'.cell? ⟨w.heap.size, 3, none⟩ = some (.slice X.b S.between.length X.bc) := fun w' q => (HSB.out.kept q).c3
  have s4_ : ∀ w', Kept WA w' none → w'.cell? ⟨w.heap.size, 4, none⟩ = some (.slice X.p S.phases.length X.pc) := fun w' q => (HSB.out.kept q).c4
  have s5_ : ∀ w', Kept WA w' none → w'.cell? ⟨w.heap.size, 5, none⟩ = some (.slice X.e S.eyes.length X.ec) := fun w' q => (HSB.out.kept q).c5
  have s6_ : ∀ w', Kept WA w' none → w'.cell? ⟨w.heap.size, 6, none⟩ = some (.int .i64 S.watch) := fun w' q => (HSB.out.kept q).c6
  have s7_ : ∀ w', Kept WA w' none → w'.cell? ⟨w.heap.size, 7, none⟩ = some (.int .i64 S.feed) := fun w' q => (HSB.out.kept q).c7
  have s8_ : ∀ w', Kept WA w' none → w'.cell? ⟨w.heap.size, 8, none⟩ = some (.int .i64 S.heal) := fun w' q => (HSB.out.kept q).c8
  have s9_ : ∀ w', Kept WA w' none → w'.cell? ⟨w.heap.size, 9, none⟩ = some (.int .i64 S.low) := fun w' q => (HSB.out.kept q).c9
  have s10_ : ∀ w', Kept WA w' none → w'.cell? ⟨w.heap.size, 10, none⟩ = some (.int .i64 S.high) := fun w' q => (HSB.out.kept q).c10
  have s11_ : ∀ w', Kept WA w' none → w'.cell? ⟨w.heap.size, 11, none⟩ = some (.slice X.l S.plans.length X.lc) := fun w' q => (HSB.out.kept q).c11
  have hK0 := Kept.refl WA none
  have HO := Hid.mk' (hO.kept hkA)
  have hOm := hO.max
  have hcl := hC.room
  have hcm := hC.max
  have hdl := hD.room
  have hdm := hD.max
  clear h hT hF hB hO hC hD k1 k2 hsb bn hkA
  go_enter Tryd.func8, Tryd.ntmps8
  go_wp2_with (first | rw [hWA] | (go_at_call 15; refine (galive_any HT.out).mono ?_; rintro e wa ⟨rfl, hka⟩; have hKa : Kept WA wa none := hka))
  go_at_call 16
  refine (rgreat_any (HS.out.kept hKa)).mono ?_
  rintro e wg ⟨gr, rfl, hgr, hkg⟩
  have hKg : Kept WA wg none := hKa.tr hkg
  clear hgr
  cases gr with
  | true =>
    go_wp2
    go_ret
    exact ⟨rfl, (HK.out.tr hKg).below⟩
  | false =>
  go_wp2_with (first
    | (have hgo := HM1; clear hgo; at_builtin; refine wpList_join (by rfl) _ _ (by rfl) wg.heap.size _ 0 [] (by rfl) HM1.out.own _ 0 _ [] (by rfl) (By.nil _ _) (by intro e; first | rfl | (cases e; done) | (simp at e; done)) (by omega) hk1.size ?_; intro a2 c2 w2 hm2 hg2; have hk2 : Kept wg w2 none := Kept.newRow hk1 hg2 (fun i h => (own_lt8 HM1.out.own i h).1); (try rw [Nat.add_zero]))
    | (at_builtin; refine wpList_join (by rfl) _ _ (by rfl) wg.heap.size (.slice none 0 0) 0 [] (by rfl) (World.ownsRow_nil _ _ _ _) _ 0 _ [] (by rfl) (By.nil _ _) (by intro e; first | rfl | (cases e; done) | (simp at e; done)) (by omega) (Nat.le_refl _) ?_; intro a1 c1 w1 hm1 hg1; have hk1 : Kept wg w1 none := hg1; have HM1 : Hid (Mine w1 wg.heap.size a1 0 c1 []) := hm1; have hr1 := hm1.room; have hx1 := hm1.max; (try rw [Nat.add_zero]); clear hm1))
  have hK2 : Kept WA w2 none := hKg.tr hk2
  go_loopw [13] (fun i wr => i = .int .i64 0 ∧ wr = w2) (fun i _ => 0)
  case atStart => exact ⟨rfl, rfl⟩
  case round =>
    obtain ⟨rfl, rfl⟩ := hrel
    go_wp2_with (first
        | (have hgo := hK3; clear hgo; go_at_call 12; refine (HAD.out _ _ _ _ (HK.out.tr hK3)).mono ?_; rintro e w4 ⟨rfl, hk4⟩)
        | (go_at_call 12; refine (HAD.out _ _ _ _ (HK.out.tr hK2)).mono ?_; rintro e w3 ⟨rfl, hk3⟩; have hK3 : Kept WA w3 none := hK2.tr hk3))
    go_ret
    exact ⟨rfl, (HK.out.tr (hK3.tr hk4)).below⟩
set_option maxRecDepth 100000 in
set_option maxHeartbeats 4000000 in
theorem glat_ns0 {X : Sa} {S : St} {w : World} {a : Option Addr} {c : Nat} {F : Sf} {bd : Addr} (h : Sat w X S) (hT : Tabb w) (hF : SafeAt w a c F) (hB : By w none 0 []) (hO : By w (some bd) 0 []) (hC : Cap none 0 0) (hD : Cap (some bd) 0 0) (hn : F.groups.length = 0) (hz : goesE S F ≠ 0) : Calls Tryd.prog 8 #[siteV X S, safeV a c F, .slice none 0 0, .slice (some bd) 0 0, .int .i64 0] w fun e w' => e = .returned (.bool true) ∧ Below w.heap.size w w' := by
  have HAD : Hid (∀ w' al' n' cl', Kept w w' none → Calls Tryd.prog 12 #[siteV X S, .agg #[.slice a 0 c, .int .i64 F.start, .bool F.flashed], .slice al' n' cl'] w' fun e w2 => e = .returned (.tuple #[.slice none 0 0, .int .i64 (goesE S F)]) ∧ Kept w' w2 none) := fun w' al' n' cl' q => by
    have hx := gadmit_no (al := al') (n := n') (cl := cl') (h.kept q) (hT.kept q) (hF.kept q) hz
    rw [safeV, hn] at hx
    exact hx
  have hzb : (goesE S F != 0) = true := by simpa using hz
  generalize goesE S F = z at *
  rw [show safeV a c F = .agg #[.slice a 0 c, .int .i64 F.start, .bool F.flashed] by rw [safeV, hn]]
  have HN := Hid.mk' hn
  clear hn
  have k1 : Kept w (w.alloc (.cells #[.int .i64 S.id, .slice X.g S.groups.length X.gc, .slice X.a S.apart.length X.ac, .slice X.b S.between.length X.bc, .slice X.p S.phases.length X.pc, .slice X.e S.eyes.length X.ec, .int .i64 S.watch, .int .i64 S.feed, .int .i64 S.heal, .int .i64 S.low, .int .i64 S.high, .slice X.l S.plans.length X.lc] 34)) none := Kept.alloc _ _ _ _ _
  have k2 : Kept (w.alloc (.cells #[.int .i64 S.id, .slice X.g S.groups.length X.gc, .slice X.a S.apart.length X.ac, .slice X.b S.between.length X.bc, .slice X.p S.phases.length X.pc, .slice X.e S.eyes.length X.ec, .int .i64 S.watch, .int .i64 S.feed, .int .i64 S.heal, .int .i64 S.low, .int .i64 S.high, .slice X.l S.plans.length X.lc] 34)) ((w.alloc (.cells #[.int .i64 S.id, .slice X.g S.groups.length X.gc, .slice X.a S.apart.length X.ac, .slice X.b S.between.length X.bc, .slice X.p S.phases.length X.pc, .slice X.e S.eyes.length X.ec, .int .i64 S.watch, .int .i64 S.feed, .int .i64 S.heal, .int .i64 S.low, .int .i64 S.high, .slice X.l S.plans.length X.lc] 34)).alloc (.cells #[.slice a 0 c, .int .i64 F.start, .bool F.flashed] 41)) none := Kept.alloc _ _ _ _ _
  have hsb := (sbox_alloc h 34).kept k2
  have bn := box_alloc (w.alloc (.cells #[.int .i64 S.id, .slice X.g S.groups.length X.gc, .slice X.a S.apart.length X.ac, .slice X.b S.between.length X.bc, .slice X.p S.phases.length X.pc, .slice X.e S.eyes.length X.ec, .int .i64 S.watch, .int .i64 S.feed, .int .i64 S.heal, .int .i64 S.low, .int .i64 S.high, .slice X.l S.plans.length X.lc] 34)) (.slice a 0 c) (.int .i64 F.start) (.bool F.flashed) 41
  rw [World.size_alloc] at bn
  have hkA := k1.tr k2
  obtain ⟨WA, hWA⟩ : ∃ WA, ((w.alloc (.cells #[.int .i64 S.id, .slice X.g S.groups.length X.gc, .slice X.a S.apart.length X.ac, .slice X.b S.between.length X.bc, .slice X.p S.phases.length X.pc, .slice X.e S.eyes.length X.ec, .int .i64 S.watch, .int .i64 S.feed, .int .i64 S.heal, .int .i64 S.low, .int .i64 S.high, .slice X.l S.plans.length X.lc] 34)).alloc (.cells #[.slice a 0 c, .int .i64 F.start, .bool F.flashed] 41)) = WA := ⟨_, rfl⟩
  rw [hWA] at hsb bn hkA
  have HSB := Hid.mk' hsb
  have HBN := Hid.mk' bn
  have HK := Hid.mk' hkA
  have HS := Hid.mk' (h.kept hkA)
  have HT := Hid.mk' (hT.kept hkA)
  have HF := Hid.mk' (hF.kept hkA)
  have HB := Hid.mk' (hB.kept hkA)
  have hBm := hB.max
  have n0_ : ∀ w', Kept WA w' none → w'.cell? ⟨w.heap.size + 1, 0, none⟩ = some (.slice a 0 c) := fun w' q => (HBN.out.kept q).c0
  have n1_ : ∀ w', Kept WA w' none → w'.cell? ⟨w.heap.size + 1, 1, none⟩ = some (.int .i64 F.start) := fun w' q => (HBN.out.kept q).c1
  have n2_ : ∀ w', Kept WA w' none → w'.cell? ⟨w.heap.size + 1, 2, none⟩ = some (.bool F.flashed) := fun w' q => (HBN.out.kept q).c2
  have s0_ : ∀ w', Kept WA w' none → w'.cell? ⟨w.heap.size, 0, none⟩ = some (.int .i64 S.id) := fun w' q => (HSB.out.kept q).c0
  have s1_ : ∀ w', Kept WA w' none → w'.cell? ⟨w.heap.size, 1, none⟩ = some (.slice X.g S.groups.length X.gc) := fun w' q => (HSB.out.kept q).c1
  have s2_ : ∀ w', Kept WA w' none → w'.cell? ⟨w.heap.size, 2, none⟩ = some (.slice X.a S.apart.length X.ac) := fun w' q => (HSB.out.kept q).c2
  have s3_ : ∀ w', Kept WA w' none → w'.cell? ⟨w.heap.size, 3, none⟩ = some (.slice X.b S.between.length X.bc) := fun w' q => (HSB.out.kept q).c3
  have s4_ : ∀ w', Kept WA w' none → w'.cell? ⟨w.heap.size, 4, none⟩ = some (.slice X.p S.phases.length X.pc) := fun w' q => (HSB.out.kept q).c4
  have s5_ : ∀ w', Kept WA w' none → w'.cell? ⟨w.heap.size, 5, none⟩ = some (.slice X.e S.eyes.length X.ec) := fun w' q => (HSB.out.kept q).c5
  have s6_ : ∀ w', Kept WA w' none → w'.cell? ⟨w.heap.size, 6, none⟩ = some (.int .i64 S.watch) := fun w' q => (HSB.out.kept q).c6
  have s7_ : ∀ w', Kept WA w' none → w'.cell? ⟨w.heap.size, 7, none⟩ = some (.int .i64 S.feed) := fun w' q => (HSB.out.kept q).c7
  have s8_ : ∀ w', Kept WA w' none → w'.cell? ⟨w.heap.size, 8, none⟩ = some (.int .i64 S.heal) := fun w' q => (HSB.out.kept q).c8
  have s9_ : ∀ w', Kept WA w' none → w'.cell? ⟨w.heap.size, 9, none⟩ = some (.int .i64 S.low) := fun w' q => (HSB.out.kept q).c9
  have s10_ : ∀ w', Kept WA w' none → w'.cell? ⟨w.heap.size, 10, none⟩ = some (.int .i64 S.high) := fun w' q => (HSB.out.kept q).c10
  have s11_ : ∀ w', Kept WA w' none → w'.cell? ⟨w.heap.size, 11, none⟩ = some (.slice X.l S.plans.length X.lc) := fun w' q => (HSB.out.kept q).c11
  have hK0 := Kept.refl WA none
  have HO := Hid.mk' (hO.kept hkA)
  have hOm := hO.max
  have hcl := hC.room
  have hcm := hC.max
  have hdl := hD.room
  have hdm := hD.max
  clear h hT hF hB hO hC hD k1 k2 hsb bn hkA
  go_enter Tryd.func8, Tryd.ntmps8
  go_wp2_with (first | rw [hWA] | (go_at_call 15; refine (galive_any HT.out).mono ?_; rintro e wa ⟨rfl, hka⟩; have hKa : Kept WA wa none := hka))
  go_at_call 16
  refine (rgreat_any (HS.out.kept hKa)).mono ?_
  rintro e wg ⟨gr, rfl, hgr, hkg⟩
  have hKg : Kept WA wg none := hKa.tr hkg
  clear hgr
  cases gr with
  | true =>
    go_wp2
    go_ret
    exact ⟨rfl, (HK.out.tr hKg).below⟩
  | false =>
  go_wp2_with (first
    | (have hgo := HM1; clear hgo; at_builtin; refine wpList_join (by rfl) _ _ (by rfl) wg.heap.size _ 0 [] (by rfl) HM1.out.own _ 0 _ [] (by rfl) (By.nil _ _) (by intro e; first | rfl | (cases e; done) | (simp at e; done)) (by omega) hk1.size ?_; intro a2 c2 w2 hm2 hg2; have hk2 : Kept wg w2 none := Kept.newRow hk1 hg2 (fun i h => (own_lt8 HM1.out.own i h).1); (try rw [Nat.add_zero]))
    | (at_builtin; refine wpList_join (by rfl) _ _ (by rfl) wg.heap.size (.slice none 0 0) 0 [] (by rfl) (World.ownsRow_nil _ _ _ _) _ 0 _ [] (by rfl) (By.nil _ _) (by intro e; first | rfl | (cases e; done) | (simp at e; done)) (by omega) (Nat.le_refl _) ?_; intro a1 c1 w1 hm1 hg1; have hk1 : Kept wg w1 none := hg1; have HM1 : Hid (Mine w1 wg.heap.size a1 0 c1 []) := hm1; have hr1 := hm1.room; have hx1 := hm1.max; (try rw [Nat.add_zero]); clear hm1))
  have hK2 : Kept WA w2 none := hKg.tr hk2
  go_loopw [13] (fun i wr => i = .int .i64 0 ∧ wr = w2) (fun i _ => 0)
  case atStart => exact ⟨rfl, rfl⟩
  case round =>
    obtain ⟨rfl, rfl⟩ := hrel
    go_wp2_with (first
        | (have hgo := hK3; clear hgo; go_at_call 12; refine (HAD.out _ _ _ _ (HK.out.tr hK3)).mono ?_; rintro e w4 ⟨rfl, hk4⟩)
        | (go_at_call 12; refine (HAD.out _ _ _ _ (HK.out.tr hK2)).mono ?_; rintro e w3 ⟨rfl, hk3⟩; have hK3 : Kept WA w3 none := hK2.tr hk3))
    go_ret
    exact ⟨rfl, (HK.out.tr (hK3.tr hk4)).below⟩
set_option maxRecDepth 100000 in
set_option maxHeartbeats 4000000 in
theorem glat_ns1 {X : Sa} {S : St} {w : World} {a : Option Addr} {c : Nat} {F : Sf} {bd : Addr} {co : Nat} (h : Sat w X S) (hT : Tabb w) (hF : SafeAt w a c F) (hB : By w none 0 []) (hO : By w (some bd) 0 []) (hC : Cap none 0 0) (hD : Cap (some bd) 0 co) (hn : F.groups.length = 0) (hz : goesE S F ≠ 0) (hco : co ≠ 0) : Calls Tryd.prog 8 #[siteV X S, safeV a c F, .slice none 0 0, .slice (some bd) 0 co, .int .i64 0] w fun e w' => e = .returned (.bool true) ∧ Below w.heap.size w w' := by
  have HAD : Hid (∀ w' al' n' cl', Kept w w' none → Calls Tryd.prog 12 #[siteV X S, .agg #[.slice a 0 c, .int .i64 F.start, .bool F.flashed], .slice al' n' cl'] w' fun e w2 => e = .returned (.tuple #[.slice none 0 0, .int .i64 (goesE S F)]) ∧ Kept w' w2 none) := fun w' al' n' cl' q => by
    have hx := gadmit_no (al := al') (n := n') (cl := cl') (h.kept q) (hT.kept q) (hF.kept q) hz
    rw [safeV, hn] at hx
    exact hx
  have hzb : (goesE S F != 0) = true := by simpa using hz
  generalize goesE S F = z at *
  rw [show safeV a c F = .agg #[.slice a 0 c, .int .i64 F.start, .bool F.flashed] by rw [safeV, hn]]
  have HN := Hid.mk' hn
  clear hn
  have k1 : Kept w (w.alloc (.cells #[.int .i64 S.id, .slice X.g S.groups.length X.gc, .slice X.a S.apart.length X.ac, .slice X.b S.between.length X.bc, .slice X.p S.phases.length X.pc, .slice X.e S.eyes.length X.ec, .int .i64 S.watch, .int .i64 S.feed, .int .i64 S.heal, .int .i64 S.low, .int .i64 S.high, .slice X.l S.plans.length X.lc] 34)) none := Kept.alloc _ _ _ _ _
  have k2 : Kept (w.alloc (.cells #[.int .i64 S.id, .slice X.g S.groups.length X.gc, .slice X.a S.apart.length X.ac, .slice X.b S.between.length X.bc, .slice X.p S.phases.length X.pc, .slice X.e S.eyes.length X.ec, .int .i64 S.watch, .int .i64 S.feed, .int .i64 S.heal, .int .i64 S.low, .int .i64 S.high, .slice X.l S.plans.length X.lc] 34)) ((w.alloc (.cells #[.int .i64 S.id, .slice X.g S.groups.length X.gc, .slice X.a S.apart.length X.ac, .slice X.b S.between.length X.bc, .slice X.p S.phases.length X.pc, .slice X.e S.eyes.length X.ec, .int .i64 S.watch, .int .i64 S.feed, .int .i64 S.heal, .int .i64 S.low, .int .i64 S.high, .slice X.l S.plans.length X.lc] 34)).alloc (.cells #[.slice a 0 c, .int .i64 F.start, .bool F.flashed] 41)) none := Kept.alloc _ _ _ _ _
  have hsb := (sbox_alloc h 34).kept k2
  have bn := box_alloc (w.alloc (.cells #[.int .i64 S.id, .slice X.g S.groups.length X.gc, .slice X.a S.apart.length X.ac, .slice X.b S.between.length X.bc, .slice X.p S.phases.length X.pc, .slice X.e S.eyes.length X.ec, .int .i64 S.watch, .int .i64 S.feed, .int .i64 S.heal, .int .i64 S.low, .int .i64 S.high, .slice X.l S.plans.length X.lc] 34)) (.slice a 0 c) (.int .i64 F.start) (.bool F.flashed) 41
  rw [World.size_alloc] at bn
  have hkA := k1.tr k2
  obtain ⟨WA, hWA⟩ : ∃ WA, ((w.alloc (.cells #[.int .i64 S.id, .slice X.g S.groups.length X.gc, .slice X.a S.apart.length X.ac, .slice X.b S.between.length X.bc, .slice X.p S.phases.length X.pc, .slice X.e S.eyes.length X.ec, .int .i64 S.watch, .int .i64 S.feed, .int .i64 S.heal, .int .i64 S.low, .int .i64 S.high, .slice X.l S.plans.length X.lc] 34)).alloc (.cells #[.slice a 0 c, .int .i64 F.start, .bool F.flashed] 41)) = WA := ⟨_, rfl⟩
  rw [hWA] at hsb bn hkA
  have HSB := Hid.mk' hsb
  have HBN := Hid.mk' bn
  have HK := Hid.mk' hkA
  have HS := Hid.mk' (h.kept hkA)
  have HT := Hid.mk' (hT.kept hkA)
  have HF := Hid.mk' (hF.kept hkA)
  have HB := Hid.mk' (hB.kept hkA)
  have hBm := hB.max
  have n0_ : ∀ w', Kept WA w' none → w'.cell? ⟨w.heap.size + 1, 0, none⟩ = some (.slice a 0 c) := fun w' q => (HBN.out.kept q).c0
  have n1_ : ∀ w', Kept WA w' none → w'.cell? ⟨w.heap.size + 1, 1, none⟩ = some (.int .i64 F.start) := fun w' q => (HBN.out.kept q).c1
  have n2_ : ∀ w', Kept WA w' none → w'.cell? ⟨w.heap.size + 1, 2, none⟩ = some (.bool F.flashed) := fun w' q => (HBN.out.kept q).c2
  have s0_ : ∀ w', Kept WA w' none → w'.cell? ⟨w.heap.size, 0, none⟩ = some (.int .i64 S.id) := fun w' q => (HSB.out.kept q).c0
  have s1_ : ∀ w', Kept WA w' none → w'.cell? ⟨w.heap.size, 1, none⟩ = some (.slice X.g S.groups.length X.gc) := fun w' q => (HSB.out.kept q).c1
  have s2_ : ∀ w', Kept WA w' none → w'.cell? ⟨w.heap.size, 2, none⟩ = some (.slice X.a S.apart.length X.ac) := fun w' q => (HSB.out.kept q).c2
  have s3_ : ∀ w', Kept WA w' none → w'.cell? ⟨w.heap.size, 3, none⟩ = some (.slice X.b S.between.length X.bc) := fun w' q => (HSB.out.kept q).c3
  have s4_ : ∀ w', Kept WA w' none → w'.cell? ⟨w.heap.size, 4, none⟩ = some (.slice X.p S.phases.length X.pc) := fun w' q => (HSB.out.kept q).c4
  have s5_ : ∀ w', Kept WA w' none → w'.cell? ⟨w.heap.size, 5, none⟩ = some (.slice X.e S.eyes.length X.ec) := fun w' q => (HSB.out.kept q).c5
  have s6_ : ∀ w', Kept WA w' none → w'.cell? ⟨w.heap.size, 6, none⟩ = some (.int .i64 S.watch) := fun w' q => (HSB.out.kept q).c6
  have s7_ : ∀ w', Kept WA w' none → w'.cell? ⟨w.heap.size, 7, none⟩ = some (.int .i64 S.feed) := fun w' q => (HSB.out.kept q).c7
  have s8_ : ∀ w', Kept WA w' none → w'.cell? ⟨w.heap.size, 8, none⟩ = some (.int .i64 S.heal) := fun w' q => (HSB.out.kept q).c8
  have s9_ : ∀ w', Kept WA w' none → w'.cell? ⟨w.heap.size, 9, none⟩ = some (.int .i64 S.low) := fun w' q => (HSB.out.kept q).c9
  have s10_ : ∀ w', Kept WA w' none → w'.cell? ⟨w.heap.size, 10, none⟩ = some (.int .i64 S.high) := fun w' q => (HSB.out.kept q).c10
  have s11_ : ∀ w', Kept WA w' none → w'.cell? ⟨w.heap.size, 11, none⟩ = some (.slice X.l S.plans.length X.lc) := fun w' q => (HSB.out.kept q).c11
  have hK0 := Kept.refl WA none
  have HO := Hid.mk' (hO.kept hkA)
  have hOm := hO.max
  have hcl := hC.room
  have hcm := hC.max
  have hdl := hD.room
  have hdm := hD.max
  clear h hT hF hB hO hC hD k1 k2 hsb bn hkA
  go_enter Tryd.func8, Tryd.ntmps8
  go_wp2_with (first | rw [hWA] | (go_at_call 15; refine (galive_any HT.out).mono ?_; rintro e wa ⟨rfl, hka⟩; have hKa : Kept WA wa none := hka))
  go_at_call 16
  refine (rgreat_any (HS.out.kept hKa)).mono ?_
  rintro e wg ⟨gr, rfl, hgr, hkg⟩
  have hKg : Kept WA wg none := hKa.tr hkg
  clear hgr
  cases gr with
  | true =>
    go_wp2
    go_ret
    exact ⟨rfl, (HK.out.tr hKg).below⟩
  | false =>
  go_wp2_with (first
    | (have hgo := HM1; clear hgo; at_builtin; refine wpList_join (by rfl) _ _ (by rfl) wg.heap.size _ 0 [] (by rfl) HM1.out.own _ 0 _ [] (by rfl) (By.nil _ _) (by intro e; first | rfl | (cases e; done) | (simp at e; done)) (by omega) hk1.size ?_; intro a2 c2 w2 hm2 hg2; have hk2 : Kept wg w2 none := Kept.newRow hk1 hg2 (fun i h => (own_lt8 HM1.out.own i h).1); (try rw [Nat.add_zero]))
    | (at_builtin; refine wpList_join (by rfl) _ _ (by rfl) wg.heap.size (.slice none 0 0) 0 [] (by rfl) (World.ownsRow_nil _ _ _ _) _ 0 _ [] (by rfl) (By.nil _ _) (by intro e; first | rfl | (cases e; done) | (simp at e; done)) (by omega) (Nat.le_refl _) ?_; intro a1 c1 w1 hm1 hg1; have hk1 : Kept wg w1 none := hg1; have HM1 : Hid (Mine w1 wg.heap.size a1 0 c1 []) := hm1; have hr1 := hm1.room; have hx1 := hm1.max; (try rw [Nat.add_zero]); clear hm1))
  have hK2 : Kept WA w2 none := hKg.tr hk2
  go_loopw [13] (fun i wr => i = .int .i64 0 ∧ wr = w2) (fun i _ => 0)
  case atStart => exact ⟨rfl, rfl⟩
  case round =>
    obtain ⟨rfl, rfl⟩ := hrel
    go_wp2_with (first
        | (have hgo := hK3; clear hgo; go_at_call 12; refine (HAD.out _ _ _ _ (HK.out.tr hK3)).mono ?_; rintro e w4 ⟨rfl, hk4⟩)
        | (go_at_call 12; refine (HAD.out _ _ _ _ (HK.out.tr hK2)).mono ?_; rintro e w3 ⟨rfl, hk3⟩; have hK3 : Kept WA w3 none := hK2.tr hk3))
    go_ret
    exact ⟨rfl, (HK.out.tr (hK3.tr hk4)).below⟩
set_option maxRecDepth 100000 in
set_option maxHeartbeats 4000000 in
theorem glat_ss0 {X : Sa} {S : St} {w : World} {a : Option Addr} {c : Nat} {F : Sf} {ad : Addr} {bd : Addr} {cl : Nat} (h : Sat w X S) (hT : Tabb w) (hF : SafeAt w a c F) (hB : By w (some ad) 0 []) (hO : By w (some bd) 0 []) (hC : Cap (some ad) 0 cl) (hD : Cap (some bd) 0 0) (hn : F.groups.length = 0) (hz : goesE S F ≠ 0) : Calls Tryd.prog 8 #[siteV X S, safeV a c F, .slice (some ad) 0 cl, .slice (some bd) 0 0, .int .i64 0] w fun e w' => e = .returned (.bool true) ∧ Below w.heap.size w w' := by
  have HAD : Hid (∀ w' al' n' cl', Kept w w' none → Calls Tryd.prog 12 #[siteV X S, .agg #[.slice a 0 c, .int .i64 F.start, .bool F.flashed], .slice al' n' cl'] w' fun e w2 => e = .returned (.tuple #[.slice none 0 0, .int .i64 (goesE S F)]) ∧ Kept w' w2 none) := fun w' al' n' cl' q => by
    have hx := gadmit_no (al := al') (n := n') (cl := cl') (h.kept q) (hT.kept q) (hF.kept q) hz
    rw [safeV, hn] at hx
    exact hx
  have hzb : (goesE S F != 0) = true := by simpa using hz
  generalize goesE S F = z at *
  rw [show safeV a c F = .agg #[.slice a 0 c, .int .i64 F.start, .bool F.flashed] by rw [safeV, hn]]
  have HN := Hid.mk' hn
  clear hn
  have k1 : Kept w (w.alloc (.cells #[.int .i64 S.id, .slice X.g S.groups.length X.gc, .slice X.a S.apart.length X.ac, .slice X.b S.between.length X.bc, .slice X.p S.phases.length X.pc, .slice X.e S.eyes.length X.ec, .int .i64 S.watch, .int .i64 S.feed, .int .i64 S.heal, .int .i64 S.low, .int .i64 S.high, .slice X.l S.plans.length X.lc] 34)) none := Kept.alloc _ _ _ _ _
  have k2 : Kept (w.alloc (.cells #[.int .i64 S.id, .slice X.g S.groups.length X.gc, .slice X.a S.apart.length X.ac, .slice X.b S.between.length X.bc, .slice X.p S.phases.length X.pc, .slice X.e S.eyes.length X.ec, .int .i64 S.watch, .int .i64 S.feed, .int .i64 S.heal, .int .i64 S.low, .int .i64 S.high, .slice X.l S.plans.length X.lc] 34)) ((w.alloc (.cells #[.int .i64 S.id, .slice X.g S.groups.length X.gc, .slice X.a S.apart.length X.ac, .slice X.b S.between.length X.bc, .slice X.p S.phases.length X.pc, .slice X.e S.eyes.length X.ec, .int .i64 S.watch, .int .i64 S.feed, .int .i64 S.heal, .int .i64 S.low, .int .i64 S.high, .slice X.l S.plans.length X.lc] 34)).alloc (.cells #[.slice a 0 c, .int .i64 F.start, .bool F.flashed] 41)) none := Kept.alloc _ _ _ _ _
  have hsb := (sbox_alloc h 34).kept k2
  have bn := box_alloc (w.alloc (.cells #[.int .i64 S.id, .slice X.g S.groups.length X.gc, .slice X.a S.apart.length X.ac, .slice X.b S.between.length X.bc, .slice X.p S.phases.length X.pc, .slice X.e S.eyes.length X.ec, .int .i64 S.watch, .int .i64 S.feed, .int .i64 S.heal, .int .i64 S.low, .int .i64 S.high, .slice X.l S.plans.length X.lc] 34)) (.slice a 0 c) (.int .i64 F.start) (.bool F.flashed) 41
  rw [World.size_alloc] at bn
  have hkA := k1.tr k2
  obtain ⟨WA, hWA⟩ : ∃ WA, ((w.alloc (.cells #[.int .i64 S.id, .slice X.g S.groups.length X.gc, .slice X.a S.apart.length X.ac, .slice X.b S.between.length X.bc, .slice X.p S.phases.length X.pc, .slice X.e S.eyes.length X.ec, .int .i64 S.watch, .int .i64 S.feed, .int .i64 S.heal, .int .i64 S.low, .int .i64 S.high, .slice X.l S.plans.length X.lc] 34)).alloc (.cells #[.slice a 0 c, .int .i64 F.start, .bool F.flashed] 41)) = WA := ⟨_, rfl⟩
  rw [hWA] at hsb bn hkA
  have HSB := Hid.mk' hsb
  have HBN := Hid.mk' bn
  have HK := Hid.mk' hkA
  have HS := Hid.mk' (h.kept hkA)
  have HT := Hid.mk' (hT.kept hkA)
  have HF := Hid.mk' (hF.kept hkA)
  have HB := Hid.mk' (hB.kept hkA)
  have hBm := hB.max
  have n0_ : ∀ w', Kept WA w' none → w'.cell? ⟨w.heap.size + 1, 0, none⟩ = some (.slice a 0 c) := fun w' q => (HBN.out.kept q).c0
  have n1_ : ∀ w', Kept WA w' none → w'.cell? ⟨w.heap.size + 1, 1, none⟩ = some (.int .i64 F.start) := fun w' q => (HBN.out.kept q).c1
  have n2_ : ∀ w', Kept WA w' none → w'.cell? ⟨w.heap.size + 1, 2, none⟩ = some (.bool F.flashed) := fun w' q => (HBN.out.kept q).c2
  have s0_ : ∀ w', Kept WA w' none → w'.cell? ⟨w.heap.size, 0, none⟩ = some (.int .i64 S.id) := fun w' q => (HSB.out.kept q).c0
  have s1_ : ∀ w', Kept WA w' none → w'.cell? ⟨w.heap.size, 1, none⟩ = some (.slice X.g S.groups.length X.gc) := fun w' q => (HSB.out.kept q).c1
  have s2_ : ∀ w', Kept WA w' none → w'.cell? ⟨w.heap.size, 2, none⟩ = some (.slice X.a S.apart.length X.ac) := fun w' q => (HSB.out.kept q).c2
  have s3_ : ∀ w', Kept WA w' none → w'.cell? ⟨w.heap.size, 3, none⟩ = some (.slice X.b S.between.length X.bc) := fun w' q => (HSB.out.kept q).c3
  have s4_ : ∀ w', Kept WA w' none → w'.cell? ⟨w.heap.size, 4, none⟩ = some (.slice X.p S.phases.length X.pc) := fun w' q => (HSB.out.kept q).c4
  have s5_ : ∀ w', Kept WA w' none → w'.cell? ⟨w.heap.size, 5, none⟩ = some (.slice X.e S.eyes.length X.ec) := fun w' q => (HSB.out.kept q).c5
  have s6_ : ∀ w', Kept WA w' none → w'.cell? ⟨w.heap.size, 6, none⟩ = some (.int .i64 S.watch) := fun w' q => (HSB.out.kept q).c6
  have s7_ : ∀ w', Kept WA w' none → w'.cell? ⟨w.heap.size, 7, none⟩ = some (.int .i64 S.feed) := fun w' q => (HSB.out.kept q).c7
  have s8_ : ∀ w', Kept WA w' none → w'.cell? ⟨w.heap.size, 8, none⟩ = some (.int .i64 S.heal) := fun w' q => (HSB.out.kept q).c8
  have s9_ : ∀ w', Kept WA w' none → w'.cell? ⟨w.heap.size, 9, none⟩ = some (.int .i64 S.low) := fun w' q => (HSB.out.kept q).c9
  have s10_ : ∀ w', Kept WA w' none → w'.cell? ⟨w.heap.size, 10, none⟩ = some (.int .i64 S.high) := fun w' q => (HSB.out.kept q).c10
  have s11_ : ∀ w', Kept WA w' none → w'.cell? ⟨w.heap.size, 11, none⟩ = some (.slice X.l S.plans.length X.lc) := fun w' q => (HSB.out.kept q).c11
  have hK0 := Kept.refl WA none
  have HO := Hid.mk' (hO.kept hkA)
  have hOm := hO.max
  have hcl := hC.room
  have hcm := hC.max
  have hdl := hD.room
  have hdm := hD.max
  clear h hT hF hB hO hC hD k1 k2 hsb bn hkA
  go_enter Tryd.func8, Tryd.ntmps8
  go_wp2_with (first | rw [hWA] | (go_at_call 15; refine (galive_any HT.out).mono ?_; rintro e wa ⟨rfl, hka⟩; have hKa : Kept WA wa none := hka))
  go_at_call 16
  refine (rgreat_any (HS.out.kept hKa)).mono ?_
  rintro e wg ⟨gr, rfl, hgr, hkg⟩
  have hKg : Kept WA wg none := hKa.tr hkg
  clear hgr
  cases gr with
  | true =>
    go_wp2
    go_ret
    exact ⟨rfl, (HK.out.tr hKg).below⟩
  | false =>
  go_wp2_with (first
    | (have hgo := HM1; clear hgo; at_builtin; refine wpList_join (by rfl) _ _ (by rfl) wg.heap.size _ 0 [] (by rfl) HM1.out.own _ 0 _ [] (by rfl) (By.nil _ _) (by intro e; first | rfl | (cases e; done) | (simp at e; done)) (by omega) hk1.size ?_; intro a2 c2 w2 hm2 hg2; have hk2 : Kept wg w2 none := Kept.newRow hk1 hg2 (fun i h => (own_lt8 HM1.out.own i h).1); (try rw [Nat.add_zero]))
    | (at_builtin; refine wpList_join (by rfl) _ _ (by rfl) wg.heap.size (.slice none 0 0) 0 [] (by rfl) (World.ownsRow_nil _ _ _ _) _ 0 _ [] (by rfl) (By.nil _ _) (by intro e; first | rfl | (cases e; done) | (simp at e; done)) (by omega) (Nat.le_refl _) ?_; intro a1 c1 w1 hm1 hg1; have hk1 : Kept wg w1 none := hg1; have HM1 : Hid (Mine w1 wg.heap.size a1 0 c1 []) := hm1; have hr1 := hm1.room; have hx1 := hm1.max; (try rw [Nat.add_zero]); clear hm1))
  have hK2 : Kept WA w2 none := hKg.tr hk2
  go_loopw [13] (fun i wr => i = .int .i64 0 ∧ wr = w2) (fun i _ => 0)
  case atStart => exact ⟨rfl, rfl⟩
  case round =>
    obtain ⟨rfl, rfl⟩ := hrel
    go_wp2_with (first
        | (have hgo := hK3; clear hgo; go_at_call 12; refine (HAD.out _ _ _ _ (HK.out.tr hK3)).mono ?_; rintro e w4 ⟨rfl, hk4⟩)
        | (go_at_call 12; refine (HAD.out _ _ _ _ (HK.out.tr hK2)).mono ?_; rintro e w3 ⟨rfl, hk3⟩; have hK3 : Kept WA w3 none := hK2.tr hk3))
    go_ret
    exact ⟨rfl, (HK.out.tr (hK3.tr hk4)).below⟩
set_option maxRecDepth 100000 in
set_option maxHeartbeats 4000000 in
theorem glat_ss1 {X : Sa} {S : St} {w : World} {a : Option Addr} {c : Nat} {F : Sf} {ad : Addr} {bd : Addr} {cl : Nat} {co : Nat} (h : Sat w X S) (hT : Tabb w) (hF : SafeAt w a c F) (hB : By w (some ad) 0 []) (hO : By w (some bd) 0 []) (hC : Cap (some ad) 0 cl) (hD : Cap (some bd) 0 co) (hn : F.groups.length = 0) (hz : goesE S F ≠ 0) (hco : co ≠ 0) : Calls Tryd.prog 8 #[siteV X S, safeV a c F, .slice (some ad) 0 cl, .slice (some bd) 0 co, .int .i64 0] w fun e w' => e = .returned (.bool true) ∧ Below w.heap.size w w' := by
  have HAD : Hid (∀ w' al' n' cl', Kept w w' none → Calls Tryd.prog 12 #[siteV X S, .agg #[.slice a 0 c, .int .i64 F.start, .bool F.flashed], .slice al' n' cl'] w' fun e w2 => e = .returned (.tuple #[.slice none 0 0, .int .i64 (goesE S F)]) ∧ Kept w' w2 none) := fun w' al' n' cl' q => by
    have hx := gadmit_no (al := al') (n := n') (cl := cl') (h.kept q) (hT.kept q) (hF.kept q) hz
    rw [safeV, hn] at hx
    exact hx
  have hzb : (goesE S F != 0) = true := by simpa using hz
  generalize goesE S F = z at *
  rw [show safeV a c F = .agg #[.slice a 0 c, .int .i64 F.start, .bool F.flashed] by rw [safeV, hn]]
  have HN := Hid.mk' hn
  clear hn
  have k1 : Kept w (w.alloc (.cells #[.int .i64 S.id, .slice X.g S.groups.length X.gc, .slice X.a S.apart.length X.ac, .slice X.b S.between.length X.bc, .slice X.p S.phases.length X.pc, .slice X.e S.eyes.length X.ec, .int .i64 S.watch, .int .i64 S.feed, .int .i64 S.heal, .int .i64 S.low, .int .i64 S.high, .slice X.l S.plans.length X.lc] 34)) none := Kept.alloc _ _ _ _ _
  have k2 : Kept (w.alloc (.cells #[.int .i64 S.id, .slice X.g S.groups.length X.gc, .slice X.a S.apart.length X.ac, .slice X.b S.between.length X.bc, .slice X.p S.phases.length X.pc, .slice X.e S.eyes.length X.ec, .int .i64 S.watch, .int .i64 S.feed, .int .i64 S.heal, .int .i64 S.low, .int .i64 S.high, .slice X.l S.plans.length X.lc] 34)) ((w.alloc (.cells #[.int .i64 S.id, .slice X.g S.groups.length X.gc, .slice X.a S.apart.length X.ac, .slice X.b S.between.length X.bc, .slice X.p S.phases.length X.pc, .slice X.e S.eyes.length X.ec, .int .i64 S.watch, .int .i64 S.feed, .int .i64 S.heal, .int .i64 S.low, .int .i64 S.high, .slice X.l S.plans.length X.lc] 34)).alloc (.cells #[.slice a 0 c, .int .i64 F.start, .bool F.flashed] 41)) none := Kept.alloc _ _ _ _ _
  have hsb := (sbox_alloc h 34).kept k2
  have bn := box_alloc (w.alloc (.cells #[.int .i64 S.id, .slice X.g S.groups.length X.gc, .slice X.a S.apart.length X.ac, .slice X.b S.between.length X.bc, .slice X.p S.phases.length X.pc, .slice X.e S.eyes.length X.ec, .int .i64 S.watch, .int .i64 S.feed, .int .i64 S.heal, .int .i64 S.low, .int .i64 S.high, .slice X.l S.plans.length X.lc] 34)) (.slice a 0 c) (.int .i64 F.start) (.bool F.flashed) 41
  rw [World.size_alloc] at bn
  have hkA := k1.tr k2
  obtain ⟨WA, hWA⟩ : ∃ WA, ((w.alloc (.cells #[.int .i64 S.id, .slice X.g S.groups.length X.gc, .slice X.a S.apart.length X.ac, .slice X.b S.between.length X.bc, .slice X.p S.phases.length X.pc, .slice X.e S.eyes.length X.ec, .int .i64 S.watch, .int .i64 S.feed, .int .i64 S.heal, .int .i64 S.low, .int .i64 S.high, .slice X.l S.plans.length X.lc] 34)).alloc (.cells #[.slice a 0 c, .int .i64 F.start, .bool F.flashed] 41)) = WA := ⟨_, rfl⟩
  rw [hWA] at hsb bn hkA
  have HSB := Hid.mk' hsb
  have HBN := Hid.mk' bn
  have HK := Hid.mk' hkA
  have HS := Hid.mk' (h.kept hkA)
  have HT := Hid.mk' (hT.kept hkA)
  have HF := Hid.mk' (hF.kept hkA)
  have HB := Hid.mk' (hB.kept hkA)
  have hBm := hB.max
  have n0_ : ∀ w', Kept WA w' none → w'.cell? ⟨w.heap.size + 1, 0, none⟩ = some (.slice a 0 c) := fun w' q => (HBN.out.kept q).c0
  have n1_ : ∀ w', Kept WA w' none → w'.cell? ⟨w.heap.size + 1, 1, none⟩ = some (.int .i64 F.start) := fun w' q => (HBN.out.kept q).c1
  have n2_ : ∀ w', Kept WA w' none → w'.cell? ⟨w.heap.size + 1, 2, none⟩ = some (.bool F.flashed) := fun w' q => (HBN.out.kept q).c2
  have s0_ : ∀ w', Kept WA w' none → w'.cell? ⟨w.heap.size, 0, none⟩ = some (.int .i64 S.id) := fun w' q => (HSB.out.kept q).c0
  have s1_ : ∀ w', Kept WA w' none → w'.cell? ⟨w.heap.size, 1, none⟩ = some (.slice X.g S.groups.length X.gc) := fun w' q => (HSB.out.kept q).c1
  have s2_ : ∀ w', Kept WA w' none → w'.cell? ⟨w.heap.size, 2, none⟩ = some (.slice X.a S.apart.length X.ac) := fun w' q => (HSB.out.kept q).c2
  have s3_ : ∀ w', Kept WA w' none → w'.cell? ⟨w.heap.size, 3, none⟩ = some (.slice X.b S.between.length X.bc) := fun w' q => (HSB.out.kept q).c3
  have s4_ : ∀ w', Kept WA w' none → w'.cell? ⟨w.heap.size, 4, none⟩ = some (.slice X.p S.phases.length X.pc) := fun w' q => (HSB.out.kept q).c4
  have s5_ : ∀ w', Kept WA w' none → w'.cell? ⟨w.heap.size, 5, none⟩ = some (.slice X.e S.eyes.length X.ec) := fun w' q => (HSB.out.kept q).c5
  have s6_ : ∀ w', Kept WA w' none → w'.cell? ⟨w.heap.size, 6, none⟩ = some (.int .i64 S.watch) := fun w' q => (HSB.out.kept q).c6
  have s7_ : ∀ w', Kept WA w' none → w'.cell? ⟨w.heap.size, 7, none⟩ = some (.int .i64 S.feed) := fun w' q => (HSB.out.kept q).c7
  have s8_ : ∀ w', Kept WA w' none → w'.cell? ⟨w.heap.size, 8, none⟩ = some (.int .i64 S.heal) := fun w' q => (HSB.out.kept q).c8
  have s9_ : ∀ w', Kept WA w' none → w'.cell? ⟨w.heap.size, 9, none⟩ = some (.int .i64 S.low) := fun w' q => (HSB.out.kept q).c9
  have s10_ : ∀ w', Kept WA w' none → w'.cell? ⟨w.heap.size, 10, none⟩ = some (.int .i64 S.high) := fun w' q => (HSB.out.kept q).c10
  have s11_ : ∀ w', Kept WA w' none → w'.cell? ⟨w.heap.size, 11, none⟩ = some (.slice X.l S.plans.length X.lc) := fun w' q => (HSB.out.kept q).c11
  have hK0 := Kept.refl WA none
  have HO := Hid.mk' (hO.kept hkA)
  have hOm := hO.max
  have hcl := hC.room
  have hcm := hC.max
  have hdl := hD.room
  have hdm := hD.max
  clear h hT hF hB hO hC hD k1 k2 hsb bn hkA
  go_enter Tryd.func8, Tryd.ntmps8
  go_wp2_with (first | rw [hWA] | (go_at_call 15; refine (galive_any HT.out).mono ?_; rintro e wa ⟨rfl, hka⟩; have hKa : Kept WA wa none := hka))
  go_at_call 16
  refine (rgreat_any (HS.out.kept hKa)).mono ?_
  rintro e wg ⟨gr, rfl, hgr, hkg⟩
  have hKg : Kept WA wg none := hKa.tr hkg
  clear hgr
  cases gr with
  | true =>
    go_wp2
    go_ret
    exact ⟨rfl, (HK.out.tr hKg).below⟩
  | false =>
  go_wp2_with (first
    | (have hgo := HM1; clear hgo; at_builtin; refine wpList_join (by rfl) _ _ (by rfl) wg.heap.size _ 0 [] (by rfl) HM1.out.own _ 0 _ [] (by rfl) (By.nil _ _) (by intro e; first | rfl | (cases e; done) | (simp at e; done)) (by omega) hk1.size ?_; intro a2 c2 w2 hm2 hg2; have hk2 : Kept wg w2 none := Kept.newRow hk1 hg2 (fun i h => (own_lt8 HM1.out.own i h).1); (try rw [Nat.add_zero]))
    | (at_builtin; refine wpList_join (by rfl) _ _ (by rfl) wg.heap.size (.slice none 0 0) 0 [] (by rfl) (World.ownsRow_nil _ _ _ _) _ 0 _ [] (by rfl) (By.nil _ _) (by intro e; first | rfl | (cases e; done) | (simp at e; done)) (by omega) (Nat.le_refl _) ?_; intro a1 c1 w1 hm1 hg1; have hk1 : Kept wg w1 none := hg1; have HM1 : Hid (Mine w1 wg.heap.size a1 0 c1 []) := hm1; have hr1 := hm1.room; have hx1 := hm1.max; (try rw [Nat.add_zero]); clear hm1))
  have hK2 : Kept WA w2 none := hKg.tr hk2
  go_loopw [13] (fun i wr => i = .int .i64 0 ∧ wr = w2) (fun i _ => 0)
  case atStart => exact ⟨rfl, rfl⟩
  case round =>
    obtain ⟨rfl, rfl⟩ := hrel
    go_wp2_with (first
        | (have hgo := hK3; clear hgo; go_at_call 12; refine (HAD.out _ _ _ _ (HK.out.tr hK3)).mono ?_; rintro e w4 ⟨rfl, hk4⟩)
        | (go_at_call 12; refine (HAD.out _ _ _ _ (HK.out.tr hK2)).mono ?_; rintro e w3 ⟨rfl, hk3⟩; have hK3 : Kept WA w3 none := hK2.tr hk3))
    go_ret
    exact ⟨rfl, (HK.out.tr (hK3.tr hk4)).below⟩
theorem goes_none {S : St} {F : Sf} (h : F.groups.length = 0) : goesE S F ≠ 0 := fun e => by
  obtain ⟨hs, hg⟩ := goesE_ok e
  have := (mayS_parts (goes_parts hg).1).1
  have := (span_may hs).base.sh.ok.ng
  omega
theorem glater_any {X : Sa} {S : St} {w : World} {a : Option Addr} {c : Nat} {F : Sf} {al ao : Option Addr} {n cl m co : Nat} {L O : List Nat} {at_ : Int} (h : Sat w X S) (hT : Tabb w) (hF : SafeAt w a c F) (hB : By w al n L) (hO : By w ao m O) (hC : Cap al n cl) (hD : Cap ao m co) : Calls Tryd.prog 8 #[siteV X S, safeV a c F, .slice al n cl, .slice ao m co, .int .i64 at_] w fun e w' => e = .returned (.bool true) ∧ Below w.heap.size w w' := by
  by_cases hall : F.groups.length ≤ 100 ∧ n ≤ 100 ∧ m = n ∧ 0 ≤ at_ ∧ at_ ≤ n ∧ F.groups.length = n
  case neg => exact glat_early h hT hF hB hO hC hD hall
  obtain ⟨h1, h2, rfl, h4, h5, h6⟩ := hall
  obtain ⟨q, rfl⟩ : ∃ q : Nat, at_ = (q : Int) := ⟨at_.toNat, by omega⟩
  have hq : q ≤ m := by omega
  by_cases h0 : 0 < m
  · obtain ⟨ba, oa, rfl, _, _⟩ := hB.at_ h0
    obtain ⟨bo, oo, rfl, _, _⟩ := hO.at_ h0
    by_cases hc : co = q
    · by_cases hz : goesE S F = 0
      · exact glat_ga h hT hF hB hO hC hD h6 h2 hq h0 hc hz
      · exact glat_za h hT hF hB hO hC hD h6 h2 hq h0 hc hz
    · by_cases hz : goesE S F = 0
      · exact glat_gb h hT hF hB hO hC hD h6 h2 hq h0 hc hz
      · exact glat_zb h hT hF hB hO hC hD h6 h2 hq h0 hc hz
  · obtain rfl : m = 0 := by omega
    obtain rfl : q = 0 := by omega
    obtain rfl : L = [] := List.length_eq_zero_iff.1 hB.size
    obtain rfl : O = [] := List.length_eq_zero_iff.1 hO.size
    have hz := goes_none (S := S) h6
    cases al with
    | none =>
      obtain ⟨_, rfl⟩ := hC.nil rfl
      cases ao with
      | none =>
        obtain ⟨_, rfl⟩ := hD.nil rfl
        exact glat_nn h hT hF hB hO hC hD h6 hz
      | some bd =>
        by_cases hco : co = 0
        · subst hco; exact glat_ns0 h hT hF hB hO hC hD h6 hz
        · exact glat_ns1 h hT hF hB hO hC hD h6 hz hco
    | some ad =>
      cases ao with
      | none =>
        obtain ⟨_, rfl⟩ := hD.nil rfl
        exact glat_sn h hT hF hB hO hC hD h6 hz
      | some bd =>
        by_cases hco : co = 0
        · subst hco; exact glat_ss0 h hT hF hB hO hC hD h6 hz
        · exact glat_ss1 h hT hF hB hO hC hD h6 hz hco

end Go.Proofs.YtkbhcpgdhbfhnaaDoor

