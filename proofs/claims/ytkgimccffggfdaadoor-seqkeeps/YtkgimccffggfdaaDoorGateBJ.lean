/-
  Texts joined: some of those that the proofs of this seat stand on.
-/
import Derived.Test.YtkgimccffggfdaaDoorGateAJ
import Derived.Laws.EntriesVeiled
/-
  THE CONTRACT of letThrough (made by a program).
-/
namespace Go.Proofs.YtkgimccffggfdaaDoor
open Go.RowKit Go.Lib Go.Deep
set_option linter.unusedVariables false
set_option linter.unusedSimpArgs false

/-- What the passes go by: the boxes of the call, and the lights' own row. -/
structure Gl (w wr : World) (B n bs bl bn bb bf off c g : Nat) (F : Sf) (f : Nat → Nat) : Prop where
  k : Kept w wr none
  ps : wr.cell? ⟨bs, 0, none⟩ = some (.pointer (some ⟨B, 0, none⟩))
  pl : wr.cell? ⟨bl, 0, none⟩ = some (.slice (some ⟨g, 0, none⟩) n n)
  bx : Box wr bn (.slice (some ⟨bf, off, none⟩) n c) (.int .i64 F.start) (.bool F.flashed)
  pb : wr.cell? ⟨bb, 0, none⟩ = some (.func (.func 53) #[] #[.pointer (some ⟨bs, 0, none⟩), .pointer (some ⟨bl, 0, none⟩), .pointer (some ⟨bn, 0, none⟩)])
  row : wr.rowIs g 5 n (fun i => .int .u8 ((f i : Nat) : Int))
/-- The row's block is one of its own. -/
structure Gn (w : World) (bs bl bn bb g : Nat) : Prop where
  new : w.heap.size ≤ g
  s : bs ≠ g
  l : bl ≠ g
  n : bn ≠ g
  b : bb ≠ g
theorem Gl.kept {w wr w' : World} {B n bs bl bn bb bf off c g : Nat} {F : Sf} {f : Nat → Nat} (h : Gl w wr B n bs bl bn bb bf off c g F f) (k : Kept wr w' none) : Gl w w' B n bs bl bn bb bf off c g F f :=
  ⟨h.k.tr k, cell_kept0 h.ps k, cell_kept0 h.pl k, h.bx.kept k, cell_kept0 h.pb k, row_kept h.row k (by simp)⟩
theorem Gl.congr {w wr : World} {B n bs bl bn bb bf off c g : Nat} {F : Sf} {f f' : Nat → Nat} (h : Gl w wr B n bs bl bn bb bf off c g F f) (e : ∀ i, i < n → f i = f' i) : Gl w wr B n bs bl bn bb bf off c g F f' :=
  ⟨h.k, h.ps, h.pl, h.bx, h.pb, h.row.congr (fun i hi => by rw [e i hi])⟩
theorem Gl.set {w wr : World} {B n bs bl bn bb bf off c g : Nat} {F : Sf} {f : Nat → Nat} (h : Gl w wr B n bs bl bn bb bf off c g F f) (q : Gn w bs bl bn bb g) (k x : Nat) : Gl w (wr.setCell ⟨g, k, none⟩ (.int .u8 (x : Int))) B n bs bl bn bb bf off c g F (fun i => if i = k then x else f i) := by
  have oth : ∀ b, b ≠ g → ∀ v, wr.cell? ⟨b, 0, none⟩ = some v → (wr.setCell ⟨g, k, none⟩ (.int .u8 (x : Int))).cell? ⟨b, 0, none⟩ = some v := fun b hb v e => (World.cell?_setCell_other _ _ _ _ (by simp [hb])).trans e
  refine ⟨h.k.setNew q.new _, oth _ q.s _ h.ps, oth _ q.l _ h.pl, h.bx.other (fun e => q.n e.symm) _, oth _ q.b _ h.pb, (h.row.set k _).congr (fun i hi => ?_)⟩
  show (if i = k then _ else _) = _
  split <;> simp_all
theorem Gl.gt {w wr : World} {B : Nat} {X : Sa} {S : St} {bs bl bn bb bf off c g : Nat} {F : Sf} {f : Nat → Nat} (h : Gl w wr B S.groups.length bs bl bn bb bf off c g F f) (hs : Sbox w B X S) (hc : ∀ i, i < S.groups.length → ∀ j, j < 3 → w.cell? ⟨bf, off + i * 3 + j, none⟩ = some (snV (F.g i) j)) (h1 : S.groups.length ≤ c) (h2 : c ≤ 9223372036854775807) : Gt wr B X S bs bl bn bf off c g F f :=
  ⟨h.ps, h.pl, h.bx, hs.kept h.k, fun i hi j hj => cell_kept0 (hc i hi j hj) h.k, h.row, h1, h2⟩
theorem alloc_at9 (F : World) (cs : Array Value) (t : TypeId) {n j : Nat} {v : Value} (hz : F.heap.size = n) (hv : cs[j]? = some v) : (F.alloc (.cells cs t)).cell? ⟨n, j, none⟩ = some v := by
  subst hz
  simp only [World.cell?_alloc_mark]
  exact hv
def mixF (k : Nat) (f : Nat → Nat) (i : Nat) : Nat := if i < k then f i else 1
theorem mixF_set {k : Nat} {f : Nat → Nat} : (fun i => if i = k then f k else mixF k f i) = mixF (k + 1) f := by
  funext i
  unfold mixF
  by_cases h : i = k
  · subst h; simp
  · rw [if_neg h]
    by_cases h2 : i < k
    · rw [if_pos h2, if_pos (by omega)]
    · rw [if_neg h2, if_neg (by omega)]
set_option maxRecDepth 100000 in
set_option maxHeartbeats 2000000 in
theorem glet_flash {w : World} {B : Nat} {X : Sa} {S : St} {a : Option Addr} {c : Nat} {F : Sf} {al : Option Addr} {n cl : Nat} {L : List Nat} (h : Sbox w B X S) (hSh : Shape S) (hF : SafeAt w a c F) (hf : F.groups.length = S.groups.length) (hB : By w al n L) (hn : n = S.groups.length) (h4 : allIs L 4 = true) : Calls Tryd.prog 32 #[.pointer (some ⟨B, 0, none⟩), safeV a c F, .slice al n cl] w fun e w' => ∃ b, e = .returned (.slice (some ⟨b, 0, none⟩) S.groups.length S.groups.length) ∧ w.heap.size ≤ b ∧ w'.rowIs b 5 S.groups.length (fun i => .int .u8 ((letF S F L i : Nat) : Int)) ∧ Kept w w' none := by
  subst hn
  have hng := hSh.ok.ng
  obtain ⟨bf, off, rfl, hbf, hcf⟩ := hF.lie.at_ (by omega)
  have hFr : S.groups.length ≤ c := by have := hF.cap.room; omega
  have hFm := hF.cap.max
  have hBm := hB.max
  have k1 : Kept w (w.alloc (.cells #[.pointer (some ⟨B, 0, none⟩)] 71)) none := Kept.alloc _ _ _ _ _
  have k2 : Kept (w.alloc (.cells #[.pointer (some ⟨B, 0, none⟩)] 71)) ((w.alloc (.cells #[.pointer (some ⟨B, 0, none⟩)] 71)).alloc (.cells #[.slice (some ⟨bf, off, none⟩) S.groups.length c, .int .i64 F.start, .bool F.flashed] 26)) none := Kept.alloc _ _ _ _ _
  have bn := box_alloc (w.alloc (.cells #[.pointer (some ⟨B, 0, none⟩)] 71)) (.slice (some ⟨bf, off, none⟩) S.groups.length c) (.int .i64 F.start) (.bool F.flashed) 26
  have ps : ((w.alloc (.cells #[.pointer (some ⟨B, 0, none⟩)] 71)).alloc (.cells #[.slice (some ⟨bf, off, none⟩) S.groups.length c, .int .i64 F.start, .bool F.flashed] 26)).cell? ⟨w.heap.size, 0, none⟩ = some (.pointer (some ⟨B, 0, none⟩)) := cell_kept0 (by simp [World.cell?_alloc_mark]) k2
  rw [World.size_alloc] at bn
  have hsz : ((w.alloc (.cells #[.pointer (some ⟨B, 0, none⟩)] 71)).alloc (.cells #[.slice (some ⟨bf, off, none⟩) S.groups.length c, .int .i64 F.start, .bool F.flashed] 26)).heap.size = w.heap.size + 1 + 1 := by simp
  have hkA := k1.tr k2
  obtain ⟨WA, hWA⟩ : ∃ WA, ((w.alloc (.cells #[.pointer (some ⟨B, 0, none⟩)] 71)).alloc (.cells #[.slice (some ⟨bf, off, none⟩) S.groups.length c, .int .i64 F.start, .bool F.flashed] 26)) = WA := ⟨_, rfl⟩
  rw [hWA] at bn ps hsz hkA
  have HBN := Hid.mk' bn
  have HPS := Hid.mk' ps
  have HSZ := Hid.mk' hsz
  have HK := Hid.mk' hkA
  have HB := Hid.mk' (hB.kept hkA)
  have HB0 := Hid.mk' hB
  have HSB := Hid.mk' h
  have HSH := Hid.mk' hSh
  have HCF : Hid (∀ i, i < S.groups.length → ∀ j, j < 3 → w.cell? ⟨bf, off + i * 3 + j, none⟩ = some (snV (F.g i) j)) := fun i hi j hj => hcf i (by omega) j hj
  have HLN := Hid.mk' hB.size
  have n1_ : ∀ w', Kept WA w' none → w'.cell? ⟨w.heap.size + 1, 1, none⟩ = some (.int .i64 F.start) := fun w' q => (HBN.out.kept q).c1
  have n2_ : ∀ w', Kept WA w' none → w'.cell? ⟨w.heap.size + 1, 2, none⟩ = some (.bool F.flashed) := fun w' q => (HBN.out.kept q).c2
  have hn16 : S.groups.length ≤ 100 := by omega
  rw [show safeV (some ⟨bf, off, none⟩) c F = .agg #[.slice (some ⟨bf, off, none⟩) S.groups.length c, .int .i64 F.start, .bool F.flashed] by rw [safeV, hf]]
  clear h hSh hF hf hB k1 k2 bn ps hsz hkA hcf
  have HV : Hid (∀ i, letF S F L i = 4) := fun i => by unfold letF; rw [if_pos h4]
  have hall := gall_any (c := cl) HB.out 4
  rw [h4] at hall
  have HALL := Hid.mk' hall
  clear hall h4
  go_enter Tryd.func32, Tryd.ntmps32
  go_wp2_with (first | rw [hWA] | (go_at_call 31; refine (gallOf_any 4 S.groups.length hn16).mono ?_; rintro e wO ⟨rfl, hro, hkO⟩; have hKO : Kept WA wO none := Kept.tr hKA hkO) | (go_at_call 52; refine HALL.out.mono ?_; rintro e wA ⟨rfl, hkA⟩; have hKA : Kept WA wA none := hkA))
  go_ret
  exact ⟨wA.heap.size, ⟨rfl, Nat.le_trans HK.out.size hKA.size, hro.congr (fun i hi => by rw [HV.out i]; try rfl), HK.out.tr hKO⟩⟩
set_option maxRecDepth 100000 in
set_option maxHeartbeats 2000000 in
theorem glet_stay {w : World} {B : Nat} {X : Sa} {S : St} {a : Option Addr} {c : Nat} {F : Sf} {al : Option Addr} {n cl : Nat} {L : List Nat} (h : Sbox w B X S) (hSh : Shape S) (hF : SafeAt w a c F) (hf : F.groups.length = S.groups.length) (hB : By w al n L) (hn : n = S.groups.length) (h4 : allIs L 4 = false) (hs : F.flashed = true ∨ 0 < F.start) : Calls Tryd.prog 32 #[.pointer (some ⟨B, 0, none⟩), safeV a c F, .slice al n cl] w fun e w' => ∃ b, e = .returned (.slice (some ⟨b, 0, none⟩) S.groups.length S.groups.length) ∧ w.heap.size ≤ b ∧ w'.rowIs b 5 S.groups.length (fun i => .int .u8 ((letF S F L i : Nat) : Int)) ∧ Kept w w' none := by
  subst hn
  have hng := hSh.ok.ng
  obtain ⟨bf, off, rfl, hbf, hcf⟩ := hF.lie.at_ (by omega)
  have hFr : S.groups.length ≤ c := by have := hF.cap.room; omega
  have hFm := hF.cap.max
  have hBm := hB.max
  have k1 : Kept w (w.alloc (.cells #[.pointer (some ⟨B, 0, none⟩)] 71)) none := Kept.alloc _ _ _ _ _
  have k2 : Kept (w.alloc (.cells #[.pointer (some ⟨B, 0, none⟩)] 71)) ((w.alloc (.cells #[.pointer (some ⟨B, 0, none⟩)] 71)).alloc (.cells #[.slice (some ⟨bf, off, none⟩) S.groups.length c, .int .i64 F.start, .bool F.flashed] 26)) none := Kept.alloc _ _ _ _ _
  have bn := box_alloc (w.alloc (.cells #[.pointer (some ⟨B, 0, none⟩)] 71)) (.slice (some ⟨bf, off, none⟩) S.groups.length c) (.int .i64 F.start) (.bool F.flashed) 26
  have ps : ((w.alloc (.cells #[.pointer (some ⟨B, 0, none⟩)] 71)).alloc (.cells #[.slice (some ⟨bf, off, none⟩) S.groups.length c, .int .i64 F.start, .bool F.flashed] 26)).cell? ⟨w.heap.size, 0, none⟩ = some (.pointer (some ⟨B, 0, none⟩)) := cell_kept0 (by simp [World.cell?_alloc_mark]) k2
  rw [World.size_alloc] at bn
  have hsz : ((w.alloc (.cells #[.pointer (some ⟨B, 0, none⟩)] 71)).alloc (.cells #[.slice (some ⟨bf, off, none⟩) S.groups.length c, .int .i64 F.start, .bool F.flashed] 26)).heap.size = w.heap.size + 1 + 1 := by simp
  have hkA := k1.tr k2
  obtain ⟨WA, hWA⟩ : ∃ WA, ((w.alloc (.cells #[.pointer (some ⟨B, 0, none⟩)] 71)).alloc (.cells #[.slice (some ⟨bf, off, none⟩) S.groups.length c, .int .i64 F.start, .bool F.flashed] 26)) = WA := ⟨_, rfl⟩
  rw [hWA] at bn ps hsz hkA
  have HBN := Hid.mk' bn
  have HPS := Hid.mk' ps
  have HSZ := Hid.mk' hsz
  have HK := Hid.mk' hkA
  have HB := Hid.mk' (hB.kept hkA)
  have HB0 := Hid.mk' hB
  have HSB := Hid.mk' h
  have HSH := Hid.mk' hSh
  have HCF : Hid (∀ i, i < S.groups.length → ∀ j, j < 3 → w.cell? ⟨bf, off + i * 3 + j, none⟩ = some (snV (F.g i) j)) := fun i hi j hj => hcf i (by omega) j hj
  have HLN := Hid.mk' hB.size
  have n1_ : ∀ w', Kept WA w' none → w'.cell? ⟨w.heap.size + 1, 1, none⟩ = some (.int .i64 F.start) := fun w' q => (HBN.out.kept q).c1
  have n2_ : ∀ w', Kept WA w' none → w'.cell? ⟨w.heap.size + 1, 2, none⟩ = some (.bool F.flashed) := fun w' q => (HBN.out.kept q).c2
  have hn16 : S.groups.length ≤ 100 := by omega
  rw [show safeV (some ⟨bf, off, none⟩) c F = .agg #[.slice (some ⟨bf, off, none⟩) S.groups.length c, .int .i64 F.start, .bool F.flashed] by rw [safeV, hf]]
  clear h hSh hF hf hB k1 k2 bn ps hsz hkA hcf
  have HV : Hid (∀ i, letF S F L i = 1) := fun i => by unfold letF; rw [if_neg (by rw [h4]; decide), if_pos hs]
  have hall := gall_any (c := cl) HB.out 4
  rw [h4] at hall
  have HALL := Hid.mk' hall
  clear hall h4
  obtain ⟨G, st, fl⟩ := F
  dsimp only at hs n1_ n2_
  cases fl with
  | true =>
    go_enter Tryd.func32, Tryd.ntmps32
    go_wp2_with (first | rw [hWA] | (go_at_call 31; refine (gallOf_any 1 S.groups.length hn16).mono ?_; rintro e wO ⟨rfl, hro, hkO⟩; have hKO : Kept WA wO none := Kept.tr hKA hkO; have kL : Kept wO (wO.alloc (.cells #[.slice (some ⟨wA.heap.size, 0, none⟩) S.groups.length S.groups.length] 41)) none := Kept.alloc _ _ _ _ _; have m0 := (HBN.out.kept (hKO.tr kL)).c0; have m1 := n1_ _ (hKO.tr kL); have m2 := n2_ _ (hKO.tr kL)) | (go_at_call 52; refine HALL.out.mono ?_; rintro e wA ⟨rfl, hkA⟩; have hKA : Kept WA wA none := hkA))
    go_ret
    exact ⟨wA.heap.size, ⟨rfl, Nat.le_trans HK.out.size hKA.size, row_kept (hro.congr (fun i hi => by rw [HV.out i]; try rfl)) kL (by simp), HK.out.tr (hKO.tr kL)⟩⟩
  | false =>
    have hs : 0 < st := by simpa using hs
    go_enter Tryd.func32, Tryd.ntmps32
    go_wp2_with (first | rw [hWA] | (go_at_call 31; refine (gallOf_any 1 S.groups.length hn16).mono ?_; rintro e wO ⟨rfl, hro, hkO⟩; have hKO : Kept WA wO none := Kept.tr hKA hkO; have kL : Kept wO (wO.alloc (.cells #[.slice (some ⟨wA.heap.size, 0, none⟩) S.groups.length S.groups.length] 41)) none := Kept.alloc _ _ _ _ _; have m0 := (HBN.out.kept (hKO.tr kL)).c0; have m1 := n1_ _ (hKO.tr kL); have m2 := n2_ _ (hKO.tr kL)) | (go_at_call 52; refine HALL.out.mono ?_; rintro e wA ⟨rfl, hkA⟩; have hKA : Kept WA wA none := hkA))
    go_ret
    exact ⟨wA.heap.size, ⟨rfl, Nat.le_trans HK.out.size hKA.size, row_kept (hro.congr (fun i hi => by rw [HV.out i]; try rfl)) kL (by simp), HK.out.tr (hKO.tr kL)⟩⟩
set_option maxRecDepth 100000 in
set_option maxHeartbeats 4000000 in
theorem glet_go {w : World} {B : Nat} {X : Sa} {S : St} {a : Option Addr} {c : Nat} {F : Sf} {al : Option Addr} {n cl : Nat} {L : List Nat} (h : Sbox w B X S) (hSh : Shape S) (hF : SafeAt w a c F) (hf : F.groups.length = S.groups.length) (hB : By w al n L) (hn : n = S.groups.length) (h4 : allIs L 4 = false) (hs0 : F.flashed = false) (hs1 : ¬ 0 < F.start) : Calls Tryd.prog 32 #[.pointer (some ⟨B, 0, none⟩), safeV a c F, .slice al n cl] w fun e w' => ∃ b, e = .returned (.slice (some ⟨b, 0, none⟩) S.groups.length S.groups.length) ∧ w.heap.size ≤ b ∧ w'.rowIs b 5 S.groups.length (fun i => .int .u8 ((letF S F L i : Nat) : Int)) ∧ Kept w w' none := by
  subst hn
  have hng := hSh.ok.ng
  obtain ⟨bf, off, rfl, hbf, hcf⟩ := hF.lie.at_ (by omega)
  have hFr : S.groups.length ≤ c := by have := hF.cap.room; omega
  have hFm := hF.cap.max
  have hBm := hB.max
  have k1 : Kept w (w.alloc (.cells #[.pointer (some ⟨B, 0, none⟩)] 71)) none := Kept.alloc _ _ _ _ _
  have k2 : Kept (w.alloc (.cells #[.pointer (some ⟨B, 0, none⟩)] 71)) ((w.alloc (.cells #[.pointer (some ⟨B, 0, none⟩)] 71)).alloc (.cells #[.slice (some ⟨bf, off, none⟩) S.groups.length c, .int .i64 F.start, .bool F.flashed] 26)) none := Kept.alloc _ _ _ _ _
  have bn := box_alloc (w.alloc (.cells #[.pointer (some ⟨B, 0, none⟩)] 71)) (.slice (some ⟨bf, off, none⟩) S.groups.length c) (.int .i64 F.start) (.bool F.flashed) 26
  have ps : ((w.alloc (.cells #[.pointer (some ⟨B, 0, none⟩)] 71)).alloc (.cells #[.slice (some ⟨bf, off, none⟩) S.groups.length c, .int .i64 F.start, .bool F.flashed] 26)).cell? ⟨w.heap.size, 0, none⟩ = some (.pointer (some ⟨B, 0, none⟩)) := cell_kept0 (by simp [World.cell?_alloc_mark]) k2
  rw [World.size_alloc] at bn
  have hsz : ((w.alloc (.cells #[.pointer (some ⟨B, 0, none⟩)] 71)).alloc (.cells #[.slice (some ⟨bf, off, none⟩) S.groups.length c, .int .i64 F.start, .bool F.flashed] 26)).heap.size = w.heap.size + 1 + 1 := by simp
  have hkA := k1.tr k2
  obtain ⟨WA, hWA⟩ : ∃ WA, ((w.alloc (.cells #[.pointer (some ⟨B, 0, none⟩)] 71)).alloc (.cells #[.slice (some ⟨bf, off, none⟩) S.groups.length c, .int .i64 F.start, .bool F.flashed] 26)) = WA := ⟨_, rfl⟩
  rw [hWA] at bn ps hsz hkA
  have HBN := Hid.mk' bn
  have HPS := Hid.mk' ps
  have HSZ := Hid.mk' hsz
  have HK := Hid.mk' hkA
  have HB := Hid.mk' (hB.kept hkA)
  have HB0 := Hid.mk' hB
  have HSB := Hid.mk' h
  have HSH := Hid.mk' hSh
  have HCF : Hid (∀ i, i < S.groups.length → ∀ j, j < 3 → w.cell? ⟨bf, off + i * 3 + j, none⟩ = some (snV (F.g i) j)) := fun i hi j hj => hcf i (by omega) j hj
  have HLN := Hid.mk' hB.size
  have n1_ : ∀ w', Kept WA w' none → w'.cell? ⟨w.heap.size + 1, 1, none⟩ = some (.int .i64 F.start) := fun w' q => (HBN.out.kept q).c1
  have n2_ : ∀ w', Kept WA w' none → w'.cell? ⟨w.heap.size + 1, 2, none⟩ = some (.bool F.flashed) := fun w' q => (HBN.out.kept q).c2
  have hn16 : S.groups.length ≤ 100 := by omega
  rw [show safeV (some ⟨bf, off, none⟩) c F = .agg #[.slice (some ⟨bf, off, none⟩) S.groups.length c, .int .i64 F.start, .bool F.flashed] by rw [safeV, hf]]
  clear h hSh hF hf hB k1 k2 bn ps hsz hkA hcf
  have HV : Hid (∀ i, letF S F L i = p2F S F L S.groups.length S.groups.length i) := fun i => by unfold letF; rw [if_neg (by rw [h4]; decide), if_neg (by rw [hs0]; simp only [Bool.false_eq_true, false_or]; exact hs1), HLN.out]
  have hall := gall_any (c := cl) HB.out 4
  rw [h4] at hall
  have HALL := Hid.mk' hall
  clear hall h4
  have hsb : decide (0 < F.start) = false := by simp; omega
  rw [hs0] at hWA HBN n2_ ⊢
  have HS0 := Hid.mk' hs0
  have HBL := Hid.mk' HSB.out.lt
  have hnz : 0 < S.groups.length := by omega
  clear hs0
  go_enter Tryd.func32, Tryd.ntmps32
  go_wp2_with (first | rw [hWA] | (go_at_call 31; refine (gallOf_any 1 S.groups.length hn16).mono ?_; rintro e wO ⟨rfl, hro, hkO⟩; have hKO : Kept WA wO none := Kept.tr hKA hkO; have kL : Kept wO (wO.alloc (.cells #[.slice (some ⟨wA.heap.size, 0, none⟩) S.groups.length S.groups.length] 41)) none := Kept.alloc _ _ _ _ _; have m1 := n1_ _ (hKO.tr kL); have m2 := n2_ _ (hKO.tr kL); have kM : Kept (wO.alloc (.cells #[.slice (some ⟨wA.heap.size, 0, none⟩) S.groups.length S.groups.length] 41)) ((wO.alloc (.cells #[.slice (some ⟨wA.heap.size, 0, none⟩) S.groups.length S.groups.length] 41)).alloc (.cells #[.func (.func 53) #[] #[.pointer (some ⟨w.heap.size, 0, none⟩), .pointer (some ⟨wO.heap.size, 0, none⟩), .pointer (some ⟨w.heap.size + 1, 0, none⟩)]] 107)) none := Kept.alloc _ _ _ _ _; have m0 := (HBN.out.kept ((hKO.tr kL).tr kM)).c0) | (go_at_call 52; refine HALL.out.mono ?_; rintro e wA ⟨rfl, hkA⟩; have hKA : Kept WA wA none := hkA))
  have hgz := hro.lt
  have hwz := hKA.size
  have hoz := hkO.size
  rw [HSZ.out] at hwz
  obtain ⟨W5, hW5⟩ : ∃ W5, ((wO.alloc (.cells #[.slice (some ⟨wA.heap.size, 0, none⟩) S.groups.length S.groups.length] 41)).alloc (.cells #[.func (.func 53) #[] #[.pointer (some ⟨w.heap.size, 0, none⟩), .pointer (some ⟨wO.heap.size, 0, none⟩), .pointer (some ⟨w.heap.size + 1, 0, none⟩)]] 107)) = W5 := ⟨_, rfl⟩
  have hsz5 : ((wO.alloc (.cells #[.slice (some ⟨wA.heap.size, 0, none⟩) S.groups.length S.groups.length] 41)).alloc (.cells #[.func (.func 53) #[] #[.pointer (some ⟨w.heap.size, 0, none⟩), .pointer (some ⟨wO.heap.size, 0, none⟩), .pointer (some ⟨w.heap.size + 1, 0, none⟩)]] 107)).heap.size = wO.heap.size + 1 + 1 := by simp
  have cL : (wO.alloc (.cells #[.slice (some ⟨wA.heap.size, 0, none⟩) S.groups.length S.groups.length] 41)).cell? ⟨wO.heap.size, 0, none⟩ = some (.slice (some ⟨wA.heap.size, 0, none⟩) S.groups.length S.groups.length) := by simp [World.cell?_alloc_mark]
  have cB : ((wO.alloc (.cells #[.slice (some ⟨wA.heap.size, 0, none⟩) S.groups.length S.groups.length] 41)).alloc (.cells #[.func (.func 53) #[] #[.pointer (some ⟨w.heap.size, 0, none⟩), .pointer (some ⟨wO.heap.size, 0, none⟩), .pointer (some ⟨w.heap.size + 1, 0, none⟩)]] 107)).cell? ⟨wO.heap.size + 1, 0, none⟩ = some (.func (.func 53) #[] #[.pointer (some ⟨w.heap.size, 0, none⟩), .pointer (some ⟨wO.heap.size, 0, none⟩), .pointer (some ⟨w.heap.size + 1, 0, none⟩)]) := alloc_at9 _ _ _ (by simp) rfl
  have cL2 := cell_kept0 cL kM
  rw [hW5] at cB cL2 kM hsz5 ⊢
  have k5 : Kept WA W5 none := (hKO.tr kL).tr kM
  have hGL : Gl w W5 B S.groups.length w.heap.size wO.heap.size (w.heap.size + 1) (wO.heap.size + 1) bf off c wA.heap.size F (mixF 0 (w1F S F L)) :=
    ⟨HK.out.tr k5, cell_kept0 HPS.out k5, cL2, by rw [HS0.out]; exact HBN.out.kept k5, cB, (row_kept hro (kL.tr kM) (by simp)).congr (fun i hi => by unfold mixF; rw [if_neg (by omega)]; try rfl)⟩
  have HNE : Hid (Gn w w.heap.size wO.heap.size (w.heap.size + 1) (wO.heap.size + 1) wA.heap.size) := ⟨by omega, by omega, by omega, by omega, by omega⟩
  have HGL := Hid.mk' hGL
  have hb1 : w.heap.size < W5.heap.size := by omega
  clear hW5 cB cL cL2 kM kL hsz5 k5 hGL m0 m1 m2 n1_ n2_ hro hkO hkA hKA hKO
  generalize wO.heap.size = bl at *
  generalize wA.heap.size = g at *
  go_loopw [10, 11, 35] (fun _ _ i wr => ∃ k : Nat, k ≤ S.groups.length ∧ i = .int .i64 k ∧ Gl w wr B S.groups.length w.heap.size bl (w.heap.size + 1) (bl + 1) bf off c g F (mixF k (w1F S F L))) (fun _ _ i _ => S.groups.length - (intOf i).toNat)
  case atStart => exact ⟨0, by omega, rfl, HGL.out⟩
  case round =>
    obtain ⟨k, hk, rfl, hgl⟩ := hrel
    have HG := Hid.mk' hgl
    by_cases hlt : k < S.groups.length
    · have q0 := cell_kept0 (HCF.out k hlt 0 (by omega)) hgl.k
      have q1 := cell_kept0 (HCF.out k hlt 1 (by omega)) hgl.k
      have q2 := cell_kept0 (HCF.out k hlt 2 (by omega)) hgl.k
      simp only [snV, Nat.add_zero] at q0 q1 q2
      have hbq := block_lt q0
      have HASP : Hid ((F.g k).asp = 1 → w1F S F L k = 1) := fun e => by unfold w1F; rw [if_pos e]
      have HWI0 : Hid ((F.g k).asp ≠ 1 → ((w1F S F L k : Nat) : Int) = wantV (S.gr k).min (S.gr k).yellow (F.g k).asp (F.g k).since (lg L k)) := fun e => by unfold w1F; rw [if_neg e]; exact wantN_int S F L k
      have HMX : Hid (mixF (k + 1) (w1F S F L) = fun i => if i = k then w1F S F L k else mixF k (w1F S F L) i) := mixF_set.symm
      have HMK : Hid (mixF k (w1F S F L) k = 1) := by show _ = _; unfold mixF; rw [if_neg (by omega)]
      generalize F.g k = N at *
      by_cases h1 : N.asp = 1
      · have HW := Hid.mk' (HASP.out h1)
        rw [h1] at q0
        clear hgl h1
        go_wp2
        go_roundw
        case rel =>
          refine ⟨k + 1, by omega, by go_num, (HG.out.kept (Kept.alloc _ _ _ _ _)).congr (fun i hi => ?_)⟩
          rw [HMX.out]
          show mixF k (w1F S F L) i = if i = k then w1F S F L k else mixF k (w1F S F L) i
          by_cases e : i = k
          · subst e; rw [if_pos rfl, HW.out, HMK.out]
          · rw [if_neg e]
        case measure => simp [intOf]; omega
      · have h1b : ((N.asp : Int) != 1) = true := by simp; omega
        have HWI := Hid.mk' (HWI0.out h1)
        obtain ⟨bg, og, eg, g0, g1, g2⟩ := (HSB.out.kept hgl.k).sat.grAt hlt
        obtain ⟨ba, oa, rfl, hba, hca⟩ := HB0.out.at_ (by omega)
        have l0 := cell_kept0 (hca k hlt) hgl.k
        rw [show L.getD k 0 = lg L k from rfl] at l0
        have hgc := HSB.out.sat.gk.room
        have hgm := HSB.out.sat.gk.max
        have c1 := (HSB.out.kept hgl.k).c1
        rw [eg] at c1
        generalize S.gr k = G at *
        generalize lg L k = y at *
        generalize w1F S F L k = v at *
        clear h1 HASP HWI0 hca
        go_wp2
        obtain ⟨W1, hW1⟩ : ∃ W1, wr.alloc (.cells #[.int .u8 (N.asp : Int), .int .i64 N.since, .int .i64 N.ended] 23) = W1 := ⟨_, rfl⟩
        have bs1 := box_alloc wr (.int .u8 (N.asp : Int)) (.int .i64 N.since) (.int .i64 N.ended) 23
        have k01 : Kept wr W1 none := by rw [← hW1]; exact Kept.alloc _ _ _ _ _
        rw [hW1] at bs1 ⊢
        have hg1 := hgl.kept k01
        have HG1 := Hid.mk' hg1
        have hne := HNE.out
        have hgr := hgl.row.lt
        have hgw := hgl.k.size
        have e0 : ∀ w', Kept W1 w' (some g) → w'.cell? ⟨wr.heap.size, 0, none⟩ = some (.int .u8 (N.asp : Int)) := fun w' q => cell_keptS bs1.c0 q (by intro e; have := Option.some.inj e; omega)
        have e1 : ∀ w', Kept W1 w' (some g) → w'.cell? ⟨wr.heap.size, 1, none⟩ = some (.int .i64 N.since) := fun w' q => cell_keptS bs1.c1 q (by intro e; have := Option.some.inj e; omega)
        have e2 : ∀ w', Kept W1 w' (some g) → w'.cell? ⟨wr.heap.size, 2, none⟩ = some (.int .i64 N.ended) := fun w' q => cell_keptS bs1.c2 q (by intro e; have := Option.some.inj e; omega)
        have x0 : ∀ w', Kept W1 w' (some g) → w'.cell? ⟨bl, 0, none⟩ = some (.slice (some ⟨g, 0, none⟩) S.groups.length S.groups.length) := fun w' q => cell_keptS hg1.pl q (by intro e; exact hne.l (Option.some.inj e))
        have x1 : ∀ w', Kept W1 w' (some g) → w'.cell? ⟨w.heap.size, 0, none⟩ = some (.pointer (some ⟨B, 0, none⟩)) := fun w' q => cell_keptS hg1.ps q (by intro e; exact hne.s (Option.some.inj e))
        have x2 : ∀ w', Kept W1 w' (some g) → w'.cell? ⟨B, 1, none⟩ = some (.slice (some ⟨bg, og, none⟩) S.groups.length X.gc) := fun w' q => cell_keptS (cell_kept0 c1 k01) q (by intro e; have := Option.some.inj e; have := HBL.out; have := hne.new; omega)
        have hbg : bg < w.heap.size := by
          obtain ⟨b', o', e', hb', _⟩ := HSB.out.sat.g.at_ hnz
          rw [eg] at e'
          injection e' with e'
          injection e' with e1' e2'
          omega
        have x3 : ∀ w', Kept W1 w' (some g) → w'.cell? ⟨bg, og + k * 3, none⟩ = some (.int .u8 (G.kind : Int)) := fun w' q => cell_keptS (cell_kept0 g0 k01) q (by intro e; have := Option.some.inj e; have := hne.new; omega)
        have x4 : ∀ w', Kept W1 w' (some g) → w'.cell? ⟨bg, og + k * 3 + 1, none⟩ = some (.int .i64 G.min) := fun w' q => cell_keptS (cell_kept0 g1 k01) q (by intro e; have := Option.some.inj e; have := hne.new; omega)
        have x5 : ∀ w', Kept W1 w' (some g) → w'.cell? ⟨bg, og + k * 3 + 2, none⟩ = some (.int .i64 G.yellow) := fun w' q => cell_keptS (cell_kept0 g2 k01) q (by intro e; have := Option.some.inj e; have := hne.new; omega)
        have x6 : ∀ w', Kept W1 w' (some g) → w'.cell? ⟨ba, oa + k, none⟩ = some (.int .u8 (y : Int)) := fun w' q => cell_keptS (cell_kept0 l0 k01) q (by intro e; have := Option.some.inj e; have := hne.new; omega)
        clear hW1 bs1 k01 hgl hg1 q0 q1 q2 g0 g1 g2 l0 c1 eg hne hgr hgw hbg
        refine Code.wp_mono (Q := Rs ?A (fun w' => Gl w w' B S.groups.length w.heap.size bl (w.heap.size + 1) (bl + 1) bf off c g F (fun i => if i = k then v else mixF k (w1F S F L) i))) ?cont ?reg
        case reg =>
          repeat (rename_i hh; clear hh)
          refine wp_region_held_drew (S := fun w' => Kept W1 w' (some g)) (by kernel_rfl) (Kept.drew _ _) (fun hHeld => ?_)
          refine held_take (i := 0) (v := ?v1) rfl rfl (by kernel_rfl) (by kernel_rfl) (by kernel_rfl) (fun _ _ _ h => h) (Or.inl ⟨by rfl, ?hy1⟩) hHeld ?rest1
          case hy1 => first | (intro w hSw; (try dsimp only at hSw); go_simp; done) | (intro w hSw; (try dsimp only at hSw); go_simp; with_reducible rfl)
          try simp only [List.setIfInBounds_toArray, List.set_cons_zero, List.set_cons_succ]
          refine held_take (i := 1) (v := ?v2) rfl rfl (by kernel_rfl) (by kernel_rfl) (by kernel_rfl) (fun _ _ _ h => h) (Or.inl ⟨by rfl, ?hy2⟩) hHeld ?rest2
          case hy2 => first | (intro w hSw; (try dsimp only at hSw); go_simp; done) | (intro w hSw; (try dsimp only at hSw); go_simp; with_reducible rfl)
          try simp only [List.setIfInBounds_toArray, List.set_cons_zero, List.set_cons_succ]
          refine held_take (i := 2) (v := ?v3) rfl rfl (by kernel_rfl) (by kernel_rfl) (by kernel_rfl) (fun _ _ _ h => h) (Or.inl ⟨by rfl, ?hy3⟩) hHeld ?rest3
          case hy3 => first | (intro w hSw; (try dsimp only at hSw); go_simp; done) | (intro w hSw; (try dsimp only at hSw); go_simp; with_reducible rfl)
          try simp only [List.setIfInBounds_toArray, List.set_cons_zero, List.set_cons_succ]
          refine held_take (i := 3) (v := ?v4) rfl rfl (by kernel_rfl) (by kernel_rfl) (by kernel_rfl) (fun _ _ _ h => h) (Or.inl ⟨by rfl, ?hy4⟩) hHeld ?rest4
          case hy4 => first | (intro w hSw; (try dsimp only at hSw); go_simp; done) | (intro w hSw; (try dsimp only at hSw); go_simp; with_reducible rfl)
          try simp only [List.setIfInBounds_toArray, List.set_cons_zero, List.set_cons_succ]
          refine held_take (i := 4) (v := ?v5) rfl rfl (by kernel_rfl) (by kernel_rfl) (by kernel_rfl) (fun _ _ _ h => h) (Or.inl ⟨by rfl, ?hy5⟩) hHeld ?rest5
          case hy5 => first | (intro w hSw; (try dsimp only at hSw); go_simp; done) | (intro w hSw; (try dsimp only at hSw); go_simp; with_reducible rfl)
          try simp only [List.setIfInBounds_toArray, List.set_cons_zero, List.set_cons_succ]
          refine held_take (i := 5) (v := ?v6) rfl rfl (by kernel_rfl) (by kernel_rfl) (by kernel_rfl) (fun _ _ _ h => h) (Or.inl ⟨by rfl, ?hy6⟩) hHeld ?rest6
          case hy6 => first | (intro w hSw; (try dsimp only at hSw); go_simp; done) | (intro w hSw; (try dsimp only at hSw); go_simp; with_reducible rfl)
          try simp only [List.setIfInBounds_toArray, List.set_cons_zero, List.set_cons_succ]
          refine held_take (i := 6) (v := ?v7) rfl rfl (by kernel_rfl) (by kernel_rfl) (by kernel_rfl) (fun _ _ _ h => h) (Or.inl ⟨by rfl, ?hy7⟩) hHeld ?rest7
          case hy7 => first | (intro w hSw; (try dsimp only at hSw); go_simp; done) | (intro w hSw; (try dsimp only at hSw); go_simp; with_reducible rfl)
          try simp only [List.setIfInBounds_toArray, List.set_cons_zero, List.set_cons_succ]
          refine held_take (i := 7) (v := ?v8) rfl rfl (by kernel_rfl) (by kernel_rfl) (by kernel_rfl) (fun _ _ _ h => h) (Or.inl ⟨by rfl, ?hy8⟩) hHeld ?rest8
          case hy8 => first | (intro w hSw; (try dsimp only at hSw); go_simp; done) | (intro w hSw; (try dsimp only at hSw); go_simp; with_reducible rfl)
          try simp only [List.setIfInBounds_toArray, List.set_cons_zero, List.set_cons_succ]
          refine held_take (i := 8) (v := ?v9) rfl rfl (by kernel_rfl) (by kernel_rfl) (by kernel_rfl) (fun _ _ _ h => h) (Or.inl ⟨by rfl, ?hy9⟩) hHeld ?rest9
          case hy9 => first | (intro w hSw; (try dsimp only at hSw); go_simp; done) | (intro w hSw; (try dsimp only at hSw); go_simp; with_reducible rfl)
          try simp only [List.setIfInBounds_toArray, List.set_cons_zero, List.set_cons_succ]
          refine held_take (i := 9) (v := ?v10) rfl rfl (by kernel_rfl) (by kernel_rfl) (by kernel_rfl) (fun _ _ _ h => h) (Or.inl ⟨by rfl, ?hy10⟩) hHeld ?rest10
          case hy10 => first | (intro w hSw; (try dsimp only at hSw); go_simp; done) | (intro w hSw; (try dsimp only at hSw); go_simp; with_reducible rfl)
          try simp only [List.setIfInBounds_toArray, List.set_cons_zero, List.set_cons_succ]
          refine held_take (i := 10) (v := ?v11) rfl rfl (by kernel_rfl) (by kernel_rfl) (by kernel_rfl) (fun _ _ _ h => h) (Or.inl ⟨by rfl, ?hy11⟩) hHeld ?rest11
          case hy11 => first | (intro w hSw; (try dsimp only at hSw); go_simp; done) | (intro w hSw; (try dsimp only at hSw); go_simp; with_reducible rfl)
          try simp only [List.setIfInBounds_toArray, List.set_cons_zero, List.set_cons_succ]
          refine held_take (i := 11) (v := ?v12) rfl rfl (by kernel_rfl) (by kernel_rfl) (by kernel_rfl) (fun _ _ _ h => h) (Or.inl ⟨by rfl, ?hy12⟩) hHeld ?rest12
          case hy12 => first | (intro w hSw; (try dsimp only at hSw); go_simp; done) | (intro w hSw; (try dsimp only at hSw); go_simp; with_reducible rfl)
          try simp only [List.setIfInBounds_toArray, List.set_cons_zero, List.set_cons_succ]
          refine held_take (i := 12) (v := ?v13) rfl rfl (by kernel_rfl) (by kernel_rfl) (by kernel_rfl) (fun _ _ _ h => h) (Or.inl ⟨by rfl, ?hy13⟩) hHeld ?rest13
          case hy13 => first | (intro w hSw; (try dsimp only at hSw); go_simp; done) | (intro w hSw; (try dsimp only at hSw); go_simp; with_reducible rfl)
          try simp only [List.setIfInBounds_toArray, List.set_cons_zero, List.set_cons_succ]
          refine held_take (i := 13) (v := ?v14) rfl rfl (by kernel_rfl) (by kernel_rfl) (by kernel_rfl) (fun _ _ _ h => h) (Or.inl ⟨by rfl, ?hy14⟩) hHeld ?rest14
          case hy14 => first | (intro w hSw; (try dsimp only at hSw); go_simp; done) | (intro w hSw; (try dsimp only at hSw); go_simp; with_reducible rfl)
          try simp only [List.setIfInBounds_toArray, List.set_cons_zero, List.set_cons_succ]
          refine wpAnyH_ready (rs := [14]) (by kernel_rfl) (by simp) ?_
          refine AllReadyH.cons rfl (fun K hK => ?_) AllReadyH.nil
          go_simp
          go_wp2_with (go_at_call 56; refine (want_any _ _ _ _ _ _ _ _).mono ?_; rintro e wS ⟨rfl, hkS⟩)
          have hk1 : Kept W1 wS none := Kept.tr (Kept.drew _ _) hkS
          refine hK.out _ _ (hk1.weakS _) (fun hHeld => ?_)
          clear hK K hkS
          refine held_take (i := 15) (v := ?v15) rfl rfl (by kernel_rfl) (by kernel_rfl) (by kernel_rfl) (fun _ _ _ h => h) (Or.inl ⟨by rfl, ?hy15⟩) hHeld ?rest15
          case hy15 => first | (intro w hSw; (try dsimp only at hSw); go_simp; done) | (intro w hSw; (try dsimp only at hSw); go_simp; with_reducible rfl)
          try simp only [List.setIfInBounds_toArray, List.set_cons_zero, List.set_cons_succ]
          have HGS := Hid.mk' (row_kept HG1.out.row hk1 (by simp))
          have hz0 := HGS.out.frozen k
          have y0 := HGS.out.cell (i := k) hlt
          refine wpAnyH_ready (rs := [16]) (by kernel_rfl) (by simp) ?_
          refine AllReadyH.cons rfl (fun K hK => ?_) AllReadyH.nil
          go_simp
          refine hK.out _ _ (hHeld.setRow _ _) (fun hHeld => ?_)
          clear hK K
          refine wpAnyH_done (by kernel_rfl) ?_ _
          refine And.intro (by with_reducible rfl) ?_
          rw [← HWI.out]
          exact (HG1.out.kept hk1).set HNE.out k _
        case cont =>
        intro e a' w' hq
        obtain ⟨rfl, rfl, hgq⟩ := hq.out
        go_wp2
        go_roundw
        case rel => exact ⟨k + 1, by omega, by go_num, by rw [HMX.out]; exact hgq⟩
        case measure => simp [intOf]; omega
    · have e : k = S.groups.length := by omega
      subst e
      have m0 := hgl.bx.c0
      have HG2 : Hid (Gl w wr B S.groups.length w.heap.size bl (w.heap.size + 1) (bl + 1) bf off c g F (p2F S F L S.groups.length 0)) := hgl.congr (fun i hi => by unfold mixF; rw [if_pos hi]; rfl)
      clear hgl HG HGL
      go_wp2
      clear m0
      go_loopw [12, 13, 63] (fun _ _ i wr => ∃ k : Nat, k ≤ S.groups.length ∧ i = .int .i64 k ∧ Gl w wr B S.groups.length w.heap.size bl (w.heap.size + 1) (bl + 1) bf off c g F (p2F S F L S.groups.length k)) (fun _ _ i _ => S.groups.length - (intOf i).toNat)
      case atStart => exact ⟨0, by omega, rfl, HG2.out⟩
      case round =>
        obtain ⟨k, hk, rfl, hgl⟩ := hrel
        have HG := Hid.mk' hgl
        by_cases hlt : k < S.groups.length
        · have q0 := cell_kept0 (HCF.out k hlt 0 (by omega)) hgl.k
          have q1 := cell_kept0 (HCF.out k hlt 1 (by omega)) hgl.k
          have q2 := cell_kept0 (HCF.out k hlt 2 (by omega)) hgl.k
          simp only [snV, Nat.add_zero] at q0 q1 q2
          have hbq := block_lt q0
          obtain ⟨ba, oa, rfl, hba, hca⟩ := HB0.out.at_ (by omega)
          have l0 := cell_kept0 (hca k hlt) hgl.k
          rw [show L.getD k 0 = lg L k from rfl] at l0
          have hbl := block_lt l0
          have HTF : Hid (turnB S F L S.groups.length (p2F S F L S.groups.length k) k = false → ∀ i, p2F S F L S.groups.length k i = p2F S F L S.groups.length (k + 1) i) := fun h i => by rw [p2F, h]; simp
          have HTT : Hid (turnB S F L S.groups.length (p2F S F L S.groups.length k) k = true → p2F S F L S.groups.length (k + 1) = fun i => if i = k then 2 else p2F S F L S.groups.length k i) := fun h => by funext i; rw [p2F, h]; simp
          have HTB : Hid (turnB S F L S.groups.length (p2F S F L S.groups.length k) k = (((F.g k).asp == 1) && ((lg L k == 2) && openB S F S.groups.length (p2F S F L S.groups.length k) k))) := rfl
          have hopn := gopen_any ((hgl.kept (Kept.alloc wr #[.int .u8 ((F.g k).asp : Int), .int .i64 (F.g k).since, .int .i64 (F.g k).ended] 23 (0, 0) none)).gt HSB.out HCF.out hFr hFm) HSH.out (hgl.kept (Kept.alloc wr #[.int .u8 ((F.g k).asp : Int), .int .i64 (F.g k).since, .int .i64 (F.g k).ended] 23 (0, 0) none)).pb hlt
          have HOP := Hid.mk' hopn
          clear hopn hca
          generalize openB S F S.groups.length (p2F S F L S.groups.length k) k = t at *
          generalize turnB S F L S.groups.length (p2F S F L S.groups.length k) k = tb at *
          generalize F.g k = N at *
          generalize lg L k = y at *
          by_cases h1 : N.asp = 1
          · rw [h1] at q0 HOP HTB
            by_cases h2 : y = 2
            · subst h2
              cases t with
              | true =>
                have HTN := Hid.mk' (HTT.out (by rw [HTB.out]; rfl))
                clear hgl h1 HTF HTT HTB
                go_wp2_with (go_at_call 55; refine HOP.out.mono ?_; rintro e w2 ⟨rfl, hk2⟩; have hg2 := (HG.out.kept (Kept.alloc _ _ _ _ _)).kept hk2; have p0 := hg2.pl; have y0 := hg2.row.cell hlt; have z0 := hg2.row.frozen k)
                go_roundw
                case rel => exact ⟨k + 1, by omega, by go_num, by rw [HTN.out]; exact hg2.set HNE.out k 2⟩
                case measure => simp [intOf]; omega
              | false =>
                have HTN := Hid.mk' (HTF.out (by rw [HTB.out]; rfl))
                clear hgl h1 HTF HTT HTB
                go_wp2_with (go_at_call 55; refine HOP.out.mono ?_; rintro e w2 ⟨rfl, hk2⟩; have hg2 := (HG.out.kept (Kept.alloc _ _ _ _ _)).kept hk2)
                go_roundw
                case rel => exact ⟨k + 1, by omega, by go_num, hg2.congr (fun i hi => HTN.out i)⟩
                case measure => simp [intOf]; omega
            · have h2b : ((y : Int) == 2) = false := by simp; omega
              have HTN := Hid.mk' (HTF.out (by rw [HTB.out, show (y == 2) = false by simpa using h2]; rfl))
              clear hgl h1 h2 HTF HTT HTB HOP
              go_wp2
              go_roundw
              case rel => exact ⟨k + 1, by omega, by go_num, (HG.out.kept (Kept.alloc _ _ _ _ _)).congr (fun i hi => HTN.out i)⟩
              case measure => simp [intOf]; omega
          · have h1b : ((N.asp : Int) == 1) = false := by simp; omega
            have HTN := Hid.mk' (HTF.out (by rw [HTB.out, show (N.asp == 1) = false by simpa using h1]; rfl))
            clear hgl h1 HTF HTT HTB HOP
            go_wp2
            go_roundw
            case rel => exact ⟨k + 1, by omega, by go_num, (HG.out.kept (Kept.alloc _ _ _ _ _)).congr (fun i hi => HTN.out i)⟩
            case measure => simp [intOf]; omega
        · have e : k = S.groups.length := by omega
          subst e
          have p0 := hgl.pl
          clear hgl
          go_wp2
          go_ret
          exact ⟨g, ⟨rfl, HNE.out.new, HG.out.row.congr (fun i hi => by rw [HV.out i]), HG.out.k⟩⟩
theorem glet_any {w : World} {B : Nat} {X : Sa} {S : St} {a : Option Addr} {c : Nat} {F : Sf} {al : Option Addr} {n cl : Nat} {L : List Nat} (h : Sbox w B X S) (hSh : Shape S) (hF : SafeAt w a c F) (hf : F.groups.length = S.groups.length) (hB : By w al n L) (hn : n = S.groups.length) : Calls Tryd.prog 32 #[.pointer (some ⟨B, 0, none⟩), safeV a c F, .slice al n cl] w fun e w' => ∃ b, e = .returned (.slice (some ⟨b, 0, none⟩) S.groups.length S.groups.length) ∧ w.heap.size ≤ b ∧ w'.rowIs b 5 S.groups.length (fun i => .int .u8 ((letF S F L i : Nat) : Int)) ∧ Kept w w' none := by
  cases h4 : allIs L 4 with
  | true => exact glet_flash h hSh hF hf hB hn h4
  | false =>
    by_cases hs : F.flashed = true ∨ 0 < F.start
    · exact glet_stay h hSh hF hf hB hn h4 hs
    · refine glet_go h hSh hF hf hB hn h4 ?_ (fun e => hs (.inr e))
      cases e : F.flashed with
      | false => rfl
      | true => exact absurd (.inl e) hs

end Go.Proofs.YtkgimccffggfdaaDoor

/-
  THE CONTRACTS of goesOn, Admit and Open (made by a program).
-/
namespace Go.Proofs.YtkgimccffggfdaaDoor
open Go.RowKit Go.Lib Go.Deep
set_option linter.unusedVariables false
set_option linter.unusedSimpArgs false

def goesE (S : St) (F : Sf) : Int := if siteB S = false then 50 else if goesV S F = true then 0 else 8
set_option maxRecDepth 100000 in
set_option maxHeartbeats 2000000 in
theorem ggoes_no {X : Sa} {S : St} {w : World} {a : Option Addr} {c : Nat} {F : Sf} (h : Sat w X S) (hT : Tabb w) (hF : SafeAt w a c F) (hs : siteB S = false) : Calls Tryd.prog 30 #[siteV X S, safeV a c F] w fun e w' => e = .returned (.int .i64 50) ∧ Kept w w' none := by
  have k1 : Kept w (w.alloc (.cells #[.int .i64 S.id, .slice X.g S.groups.length X.gc, .slice X.a S.apart.length X.ac, .slice X.b S.between.length X.bc, .slice X.p S.phases.length X.pc, .slice X.e S.eyes.length X.ec, .int .i64 S.watch, .int .i64 S.feed, .int .i64 S.heal, .int .i64 S.low, .int .i64 S.high, .slice X.l S.plans.length X.lc] 37)) none := Kept.alloc _ _ _ _ _
  have k2 : Kept (w.alloc (.cells #[.int .i64 S.id, .slice X.g S.groups.length X.gc, .slice X.a S.apart.length X.ac, .slice X.b S.between.length X.bc, .slice X.p S.phases.length X.pc, .slice X.e S.eyes.length X.ec, .int .i64 S.watch, .int .i64 S.feed, .int .i64 S.heal, .int .i64 S.low, .int .i64 S.high, .slice X.l S.plans.length X.lc] 37)) ((w.alloc (.cells #[.int .i64 S.id, .slice X.g S.groups.length X.gc, .slice X.a S.apart.length X.ac, .slice X.b S.between.length X.bc, .slice X.p S.phases.length X.pc, .slice X.e S.eyes.length X.ec, .int .i64 S.watch, .int .i64 S.feed, .int .i64 S.heal, .int .i64 S.low, .int .i64 S.high, .slice X.l S.plans.length X.lc] 37)).alloc (.cells #[.slice a F.groups.length c, .int .i64 F.start, .bool F.flashed] 26)) none := Kept.alloc _ _ _ _ _
  have hsb := (sbox_alloc h 37).kept k2
  have bn := box_alloc (w.alloc (.cells #[.int .i64 S.id, .slice X.g S.groups.length X.gc, .slice X.a S.apart.length X.ac, .slice X.b S.between.length X.bc, .slice X.p S.phases.length X.pc, .slice X.e S.eyes.length X.ec, .int .i64 S.watch, .int .i64 S.feed, .int .i64 S.heal, .int .i64 S.low, .int .i64 S.high, .slice X.l S.plans.length X.lc] 37)) (.slice a F.groups.length c) (.int .i64 F.start) (.bool F.flashed) 26
  have hsz : ((w.alloc (.cells #[.int .i64 S.id, .slice X.g S.groups.length X.gc, .slice X.a S.apart.length X.ac, .slice X.b S.between.length X.bc, .slice X.p S.phases.length X.pc, .slice X.e S.eyes.length X.ec, .int .i64 S.watch, .int .i64 S.feed, .int .i64 S.heal, .int .i64 S.low, .int .i64 S.high, .slice X.l S.plans.length X.lc] 37)).alloc (.cells #[.slice a F.groups.length c, .int .i64 F.start, .bool F.flashed] 26)).heap.size = w.heap.size + 1 + 1 := by simp
  rw [World.size_alloc] at bn
  have hkA := k1.tr k2
  obtain ⟨WA, hWA⟩ : ∃ WA, ((w.alloc (.cells #[.int .i64 S.id, .slice X.g S.groups.length X.gc, .slice X.a S.apart.length X.ac, .slice X.b S.between.length X.bc, .slice X.p S.phases.length X.pc, .slice X.e S.eyes.length X.ec, .int .i64 S.watch, .int .i64 S.feed, .int .i64 S.heal, .int .i64 S.low, .int .i64 S.high, .slice X.l S.plans.length X.lc] 37)).alloc (.cells #[.slice a F.groups.length c, .int .i64 F.start, .bool F.flashed] 26)) = WA := ⟨_, rfl⟩
  rw [hWA] at hsb bn hsz hkA
  have HSB := Hid.mk' hsb
  have HBN := Hid.mk' bn
  have HSZ := Hid.mk' hsz
  have HK := Hid.mk' hkA
  have HS := Hid.mk' (h.kept hkA)
  have HT := Hid.mk' (hT.kept hkA)
  have HF := Hid.mk' (hF.kept hkA)
  have n0_ : ∀ w', Kept WA w' none → w'.cell? ⟨w.heap.size + 1, 0, none⟩ = some (.slice a F.groups.length c) := fun w' q => (HBN.out.kept q).c0
  have n1_ : ∀ w', Kept WA w' none → w'.cell? ⟨w.heap.size + 1, 1, none⟩ = some (.int .i64 F.start) := fun w' q => (HBN.out.kept q).c1
  have n2_ : ∀ w', Kept WA w' none → w'.cell? ⟨w.heap.size + 1, 2, none⟩ = some (.bool F.flashed) := fun w' q => (HBN.out.kept q).c2
  have s0_ : ∀ w', Kept WA w' none → w'.cell? ⟨w.heap.size, 0, none⟩ = some (.int .i64 S.id) := fun w' q => (HSB.out.kept q).c0
  have s1_ : ∀ w', Kept WA w' none → w'.cell? ⟨w.heap.size, 1, none⟩ = some (.slice X.g S.groups.length X.gc) := fun w' q => (HSB.out.kept q).c1
  have s2_ : ∀ w', Kept WA w' none → w'.cell? ⟨w.heap.size, 2, none⟩ = some (.slice X.a S.apart.length X.ac) := fun w' q => (HSB.out.kept q).c2
  have s3_ : ∀ w', Kept WA w' none → w'.cell? ⟨w.heap.size, 3, none⟩ = some (.slice X.b S.between.length X.bc) := fun w' q => (HSB.out.kept q).c3
  have s4_ : ∀ w', Kept WA w' none → w'.cell? ⟨w.heap.size, 4, none⟩ = some (.slice X.p S.phases.length X.pc) := fun w' q => (HSB.out.kept q).c4
  have s5_ : ∀ w', Kept WA w' none → w'.cell? ⟨w.heap.size, 5, none⟩ = some (.slice X.e S.eyes.length X.ec) := fun w' q => (HSB.out.kept q).c5
  have s6_ : ∀ w', Kept WA w' none → w'.cell? ⟨w.heap.size, 6, none⟩ = some (.int .i64 S.watch) := fun w' q => (HSB.out.kept q).c6
  have s7_ : ∀ w', Kept WA w' none → w'.cell? ⟨w.heap.size, 7, none⟩ = some (.int .i64 S.feed) := fun w' q => (HSB.out.kept q).c7
  have s8_ : ∀ w', Kept WA w' none → w'.cell? ⟨w.heap.size, 8, none⟩ = some (.int .i64 S.heal) := fun w' q => (HSB.out.kept q).c8
  have s9_ : ∀ w', Kept WA w' none → w'.cell? ⟨w.heap.size, 9, none⟩ = some (.int .i64 S.low) := fun w' q => (HSB.out.kept q).c9
  have s10_ : ∀ w', Kept WA w' none → w'.cell? ⟨w.heap.size, 10, none⟩ = some (.int .i64 S.high) := fun w' q => (HSB.out.kept q).c10
  have s11_ : ∀ w', Kept WA w' none → w'.cell? ⟨w.heap.size, 11, none⟩ = some (.slice X.l S.plans.length X.lc) := fun w' q => (HSB.out.kept q).c11
  have hK0 := Kept.refl WA none
  clear h hT hF k1 k2 hsb bn hsz hkA
  go_enter Tryd.func30, Tryd.ntmps30
  go_wp2_with (first | rw [hWA] | (go_at_call 36; refine (next_no HS.out HT.out HF.out (By.nil _ _) hs).mono ?_; rintro e wN ⟨rfl, hkN⟩))
  go_ret
  exact ⟨rfl, HK.out.tr (hkN.tr (Kept.alloc _ _ _ _ _))⟩
set_option maxRecDepth 100000 in
set_option maxHeartbeats 2000000 in
theorem ggoes_bad {X : Sa} {S : St} {w : World} {a : Option Addr} {c : Nat} {F : Sf} (h : Sat w X S) (hT : Tabb w) (hF : SafeAt w a c F) (hs : siteB S = true) (hm : mayS S F = false) : Calls Tryd.prog 30 #[siteV X S, safeV a c F] w fun e w' => e = .returned (.int .i64 8) ∧ Kept w w' none := by
  have k1 : Kept w (w.alloc (.cells #[.int .i64 S.id, .slice X.g S.groups.length X.gc, .slice X.a S.apart.length X.ac, .slice X.b S.between.length X.bc, .slice X.p S.phases.length X.pc, .slice X.e S.eyes.length X.ec, .int .i64 S.watch, .int .i64 S.feed, .int .i64 S.heal, .int .i64 S.low, .int .i64 S.high, .slice X.l S.plans.length X.lc] 37)) none := Kept.alloc _ _ _ _ _
  have k2 : Kept (w.alloc (.cells #[.int .i64 S.id, .slice X.g S.groups.length X.gc, .slice X.a S.apart.length X.ac, .slice X.b S.between.length X.bc, .slice X.p S.phases.length X.pc, .slice X.e S.eyes.length X.ec, .int .i64 S.watch, .int .i64 S.feed, .int .i64 S.heal, .int .i64 S.low, .int .i64 S.high, .slice X.l S.plans.length X.lc] 37)) ((w.alloc (.cells #[.int .i64 S.id, .slice X.g S.groups.length X.gc, .slice X.a S.apart.length X.ac, .slice X.b S.between.length X.bc, .slice X.p S.phases.length X.pc, .slice X.e S.eyes.length X.ec, .int .i64 S.watch, .int .i64 S.feed, .int .i64 S.heal, .int .i64 S.low, .int .i64 S.high, .slice X.l S.plans.length X.lc] 37)).alloc (.cells #[.slice a F.groups.length c, .int .i64 F.start, .bool F.flashed] 26)) none := Kept.alloc _ _ _ _ _
  have hsb := (sbox_alloc h 37).kept k2
  have bn := box_alloc (w.alloc (.cells #[.int .i64 S.id, .slice X.g S.groups.length X.gc, .slice X.a S.apart.length X.ac, .slice X.b S.between.length X.bc, .slice X.p S.phases.length X.pc, .slice X.e S.eyes.length X.ec, .int .i64 S.watch, .int .i64 S.feed, .int .i64 S.heal, .int .i64 S.low, .int .i64 S.high, .slice X.l S.plans.length X.lc] 37)) (.slice a F.groups.length c) (.int .i64 F.start) (.bool F.flashed) 26
  have hsz : ((w.alloc (.cells #[.int .i64 S.id, .slice X.g S.groups.length X.gc, .slice X.a S.apart.length X.ac, .slice X.b S.between.length X.bc, .slice X.p S.phases.length X.pc, .slice X.e S.eyes.length X.ec, .int .i64 S.watch, .int .i64 S.feed, .int .i64 S.heal, .int .i64 S.low, .int .i64 S.high, .slice X.l S.plans.length X.lc] 37)).alloc (.cells #[.slice a F.groups.length c, .int .i64 F.start, .bool F.flashed] 26)).heap.size = w.heap.size + 1 + 1 := by simp
  rw [World.size_alloc] at bn
  have hkA := k1.tr k2
  obtain ⟨WA, hWA⟩ : ∃ WA, ((w.alloc (.cells #[.int .i64 S.id, .slice X.g S.groups.length X.gc, .slice X.a S.apart.length X.ac, .slice X.b S.between.length X.bc, .slice X.p S.phases.length X.pc, .slice X.e S.eyes.length X.ec, .int .i64 S.watch, .int .i64 S.feed, .int .i64 S.heal, .int .i64 S.low, .int .i64 S.high, .slice X.l S.plans.length X.lc] 37)).alloc (.cells #[.slice a F.groups.length c, .int .i64 F.start, .bool F.flashed] 26)) = WA := ⟨_, rfl⟩
  rw [hWA] at hsb bn hsz hkA
  have HSB := Hid.mk' hsb
  have HBN := Hid.mk' bn
  have HSZ := Hid.mk' hsz
  have HK := Hid.mk' hkA
  have HS := Hid.mk' (h.kept hkA)
  have HT := Hid.mk' (hT.kept hkA)
  have HF := Hid.mk' (hF.kept hkA)
  have n0_ : ∀ w', Kept WA w' none → w'.cell? ⟨w.heap.size + 1, 0, none⟩ = some (.slice a F.groups.length c) := fun w' q => (HBN.out.kept q).c0
  have n1_ : ∀ w', Kept WA w' none → w'.cell? ⟨w.heap.size + 1, 1, none⟩ = some (.int .i64 F.start) := fun w' q => (HBN.out.kept q).c1
  have n2_ : ∀ w', Kept WA w' none → w'.cell? ⟨w.heap.size + 1, 2, none⟩ = some (.bool F.flashed) := fun w' q => (HBN.out.kept q).c2
  have s0_ : ∀ w', Kept WA w' none → w'.cell? ⟨w.heap.size, 0, none⟩ = some (.int .i64 S.id) := fun w' q => (HSB.out.kept q).c0
  have s1_ : ∀ w', Kept WA w' none → w'.cell? ⟨w.heap.size, 1, none⟩ = some (.slice X.g S.groups.length X.gc) := fun w' q => (HSB.out.kept q).c1
  have s2_ : ∀ w', Kept WA w' none → w'.cell? ⟨w.heap.size, 2, none⟩ = some (.slice X.a S.apart.length X.ac) := fun w' q => (HSB.out.kept q).c2
  have s3_ : ∀ w', Kept WA w' none → w'.cell? ⟨w.heap.size, 3, none⟩ = some (.slice X.b S.between.length X.bc) := fun w' q => (HSB.out.kept q).c3
  have s4_ : ∀ w', Kept WA w' none → w'.cell? ⟨w.heap.size, 4, none⟩ = some (.slice X.p S.phases.length X.pc) := fun w' q => (HSB.out.kept q).c4
  have s5_ : ∀ w', Kept WA w' none → w'.cell? ⟨w.heap.size, 5, none⟩ = some (.slice X.e S.eyes.length X.ec) := fun w' q => (HSB.out.kept q).c5
  have s6_ : ∀ w', Kept WA w' none → w'.cell? ⟨w.heap.size, 6, none⟩ = some (.int .i64 S.watch) := fun w' q => (HSB.out.kept q).c6
  have s7_ : ∀ w', Kept WA w' none → w'.cell? ⟨w.heap.size, 7, none⟩ = some (.int .i64 S.feed) := fun w' q => (HSB.out.kept q).c7
  have s8_ : ∀ w', Kept WA w' none → w'.cell? ⟨w.heap.size, 8, none⟩ = some (.int .i64 S.heal) := fun w' q => (HSB.out.kept q).c8
  have s9_ : ∀ w', Kept WA w' none → w'.cell? ⟨w.heap.size, 9, none⟩ = some (.int .i64 S.low) := fun w' q => (HSB.out.kept q).c9
  have s10_ : ∀ w', Kept WA w' none → w'.cell? ⟨w.heap.size, 10, none⟩ = some (.int .i64 S.high) := fun w' q => (HSB.out.kept q).c10
  have s11_ : ∀ w', Kept WA w' none → w'.cell? ⟨w.heap.size, 11, none⟩ = some (.slice X.l S.plans.length X.lc) := fun w' q => (HSB.out.kept q).c11
  have hK0 := Kept.refl WA none
  clear h hT hF k1 k2 hsb bn hsz hkA
  go_enter Tryd.func30, Tryd.ntmps30
  go_wp2_with (first | rw [hWA] | (go_at_call 36; refine (next_bad HS.out HT.out HF.out (By.nil _ _) hs hm).mono ?_; rintro e wN ⟨rfl, hkN⟩))
  go_ret
  exact ⟨rfl, HK.out.tr (hkN.tr (Kept.alloc _ _ _ _ _))⟩
set_option maxRecDepth 100000 in
set_option maxHeartbeats 2000000 in
theorem ggoes_may {X : Sa} {S : St} {w : World} {a : Option Addr} {c : Nat} {F : Sf} (h : Sat w X S) (hT : Tabb w) (hF : SafeAt w a c F) (hs : siteB S = true) (hm : mayS S F = true) : Calls Tryd.prog 30 #[siteV X S, safeV a c F] w fun e w' => e = .returned (.int .i64 (goesE S F)) ∧ Kept w w' none := by
  have hng := (span_may hs).base.sh.ok.ng
  have hfn := (mayS_parts hm).1
  have hz : faultV S F [] ≠ 0 := fun e => by have := fault_len e; simp at this; omega
  have hr := hF.cap.room
  have hx := hF.cap.max
  have HY : Hid ((∀ i, i < F.groups.length → aspG F (F.g i).asp = true) → goesE S F = 0) := fun e => by unfold goesE goesV; rw [hs, hm, allB_iff.2 e]; rfl
  have HN : Hid (∀ i, i < F.groups.length → aspG F (F.g i).asp = false → goesE S F = 8) := fun i hi e => by unfold goesE goesV; rw [hs, allB_no hi e, Bool.and_false]; rfl
  have HFN := Hid.mk' hfn
  have hpos : 0 < F.groups.length := by omega
  clear hfn
  obtain ⟨bf, off, rfl, hbf, hcf⟩ := hF.lie.at_ hpos
  have k1 : Kept w (w.alloc (.cells #[.int .i64 S.id, .slice X.g S.groups.length X.gc, .slice X.a S.apart.length X.ac, .slice X.b S.between.length X.bc, .slice X.p S.phases.length X.pc, .slice X.e S.eyes.length X.ec, .int .i64 S.watch, .int .i64 S.feed, .int .i64 S.heal, .int .i64 S.low, .int .i64 S.high, .slice X.l S.plans.length X.lc] 37)) none := Kept.alloc _ _ _ _ _
  have k2 : Kept (w.alloc (.cells #[.int .i64 S.id, .slice X.g S.groups.length X.gc, .slice X.a S.apart.length X.ac, .slice X.b S.between.length X.bc, .slice X.p S.phases.length X.pc, .slice X.e S.eyes.length X.ec, .int .i64 S.watch, .int .i64 S.feed, .int .i64 S.heal, .int .i64 S.low, .int .i64 S.high, .slice X.l S.plans.length X.lc] 37)) ((w.alloc (.cells #[.int .i64 S.id, .slice X.g S.groups.length X.gc, .slice X.a S.apart.length X.ac, .slice X.b S.between.length X.bc, .slice X.p S.phases.length X.pc, .slice X.e S.eyes.length X.ec, .int .i64 S.watch, .int .i64 S.feed, .int .i64 S.heal, .int .i64 S.low, .int .i64 S.high, .slice X.l S.plans.length X.lc] 37)).alloc (.cells #[.slice (some ⟨bf, off, none⟩) F.groups.length c, .int .i64 F.start, .bool F.flashed] 26)) none := Kept.alloc _ _ _ _ _
  have hsb := (sbox_alloc h 37).kept k2
  have bn := box_alloc (w.alloc (.cells #[.int .i64 S.id, .slice X.g S.groups.length X.gc, .slice X.a S.apart.length X.ac, .slice X.b S.between.length X.bc, .slice X.p S.phases.length X.pc, .slice X.e S.eyes.length X.ec, .int .i64 S.watch, .int .i64 S.feed, .int .i64 S.heal, .int .i64 S.low, .int .i64 S.high, .slice X.l S.plans.length X.lc] 37)) (.slice (some ⟨bf, off, none⟩) F.groups.length c) (.int .i64 F.start) (.bool F.flashed) 26
  have hsz : ((w.alloc (.cells #[.int .i64 S.id, .slice X.g S.groups.length X.gc, .slice X.a S.apart.length X.ac, .slice X.b S.between.length X.bc, .slice X.p S.phases.length X.pc, .slice X.e S.eyes.length X.ec, .int .i64 S.watch, .int .i64 S.feed, .int .i64 S.heal, .int .i64 S.low, .int .i64 S.high, .slice X.l S.plans.length X.lc] 37)).alloc (.cells #[.slice (some ⟨bf, off, none⟩) F.groups.length c, .int .i64 F.start, .bool F.flashed] 26)).heap.size = w.heap.size + 1 + 1 := by simp
  rw [World.size_alloc] at bn
  have hkA := k1.tr k2
  obtain ⟨WA, hWA⟩ : ∃ WA, ((w.alloc (.cells #[.int .i64 S.id, .slice X.g S.groups.length X.gc, .slice X.a S.apart.length X.ac, .slice X.b S.between.length X.bc, .slice X.p S.phases.length X.pc, .slice X.e S.eyes.length X.ec, .int .i64 S.watch, .int .i64 S.feed, .int .i64 S.heal, .int .i64 S.low, .int .i64 S.high, .slice X.l S.plans.length X.lc] 37)).alloc (.cells #[.slice (some ⟨bf, off, none⟩) F.groups.length c, .int .i64 F.start, .bool F.flashed] 26)) = WA := ⟨_, rfl⟩
  rw [hWA] at hsb bn hsz hkA
  have HSB := Hid.mk' hsb
  have HBN := Hid.mk' bn
  have HSZ := Hid.mk' hsz
  have HK := Hid.mk' hkA
  have HS := Hid.mk' (h.kept hkA)
  have HT := Hid.mk' (hT.kept hkA)
  have HF := Hid.mk' (hF.kept hkA)
  have HCF : Hid (∀ i, i < F.groups.length → ∀ j, j < 3 → w.cell? ⟨bf, off + i * 3 + j, none⟩ = some (snV (F.g i) j)) := hcf
  have n0_ : ∀ w', Kept WA w' none → w'.cell? ⟨w.heap.size + 1, 0, none⟩ = some (.slice (some ⟨bf, off, none⟩) F.groups.length c) := fun w' q => (HBN.out.kept q).c0
  have n1_ : ∀ w', Kept WA w' none → w'.cell? ⟨w.heap.size + 1, 1, none⟩ = some (.int .i64 F.start) := fun w' q => (HBN.out.kept q).c1
  have n2_ : ∀ w', Kept WA w' none → w'.cell? ⟨w.heap.size + 1, 2, none⟩ = some (.bool F.flashed) := fun w' q => (HBN.out.kept q).c2
  have s0_ : ∀ w', Kept WA w' none → w'.cell? ⟨w.heap.size, 0, none⟩ = some (.int .i64 S.id) := fun w' q => (HSB.out.kept q).c0
  have s1_ : ∀ w', Kept WA w' none → w'.cell? ⟨w.heap.size, 1, none⟩ = some (.slice X.g S.groups.length X.gc) := fun w' q => (HSB.out.kept q).c1
  have s2_ : ∀ w', Kept WA w' none → w'.cell? ⟨w.heap.size, 2, none⟩ = some (.slice X.a S.apart.length X.ac) := fun w' q => (HSB.out.kept q).c2
  have s3_ : ∀ w', Kept WA w' none → w'.cell? ⟨w.heap.size, 3, none⟩ = some (.slice X.b S.between.length X.bc) := fun w' q => (HSB.out.kept q).c3
  have s4_ : ∀ w', Kept WA w' none → w'.cell? ⟨w.heap.size, 4, none⟩ = some (.slice X.p S.phases.length X.pc) := fun w' q => (HSB.out.kept q).c4
  have s5_ : ∀ w', Kept WA w' none → w'.cell? ⟨w.heap.size, 5, none⟩ = some (.slice X.e S.eyes.length X.ec) := fun w' q => (HSB.out.kept q).c5
  have s6_ : ∀ w', Kept WA w' none → w'.cell? ⟨w.heap.size, 6, none⟩ = some (.int .i64 S.watch) := fun w' q => (HSB.out.kept q).c6
  have s7_ : ∀ w', Kept WA w' none → w'.cell? ⟨w.heap.size, 7, none⟩ = some (.int .i64 S.feed) := fun w' q => (HSB.out.kept q).c7
  have s8_ : ∀ w', Kept WA w' none → w'.cell? ⟨w.heap.size, 8, none⟩ = some (.int .i64 S.heal) := fun w' q => (HSB.out.kept q).c8
  have s9_ : ∀ w', Kept WA w' none → w'.cell? ⟨w.heap.size, 9, none⟩ = some (.int .i64 S.low) := fun w' q => (HSB.out.kept q).c9
  have s10_ : ∀ w', Kept WA w' none → w'.cell? ⟨w.heap.size, 10, none⟩ = some (.int .i64 S.high) := fun w' q => (HSB.out.kept q).c10
  have s11_ : ∀ w', Kept WA w' none → w'.cell? ⟨w.heap.size, 11, none⟩ = some (.slice X.l S.plans.length X.lc) := fun w' q => (HSB.out.kept q).c11
  have hK0 := Kept.refl WA none
  clear h hT hF k1 k2 hsb bn hsz hkA
  clear hcf
  go_enter Tryd.func30, Tryd.ntmps30
  go_wp2_with (first | rw [hWA] | (go_at_call 36; refine (next_fault HS.out HT.out HF.out (By.nil _ _) hs hm hz).mono ?_; rintro e wN ⟨b, rfl, hbm, hog, hkN⟩; have hKN : Kept WA wN none := hkN; have kL : Kept wN (wN.alloc (.cells #[.slice (some ⟨b, 0, none⟩) F.groups.length F.groups.length, .int .i64 F.start, .bool F.flashed] 26)) none := Kept.alloc _ _ _ _ _; have m0 := n0_ _ (hKN.tr kL)))
  obtain ⟨W5, hW5⟩ : ∃ W5, wN.alloc (.cells #[.slice (some ⟨b, 0, none⟩) F.groups.length F.groups.length, .int .i64 F.start, .bool F.flashed] 26) = W5 := ⟨_, rfl⟩
  rw [hW5] at kL ⊢
  have hK5 : Kept WA W5 none := hKN.tr kL
  have HK5 := Hid.mk' hK5
  clear hW5 kL hog hbm hkN hKN m0
  go_loopw [9, 23] (fun _ i wr => ∃ k : Nat, k ≤ F.groups.length ∧ i = .int .i64 k ∧ Kept WA wr none ∧ ∀ j, j < k → aspG F (F.g j).asp = true) (fun _ i _ => F.groups.length - (intOf i).toNat)
  case atStart => exact ⟨0, by omega, rfl, HK5.out, fun j hj => by omega⟩
  case round =>
    obtain ⟨k, hk, rfl, hkw, hno⟩ := hrel
    have HKW := Hid.mk' hkw
    have HNO := Hid.mk' hno
    by_cases hlt : k < F.groups.length
    · have q0 := cell_kept0 (HCF.out k hlt 0 (by omega)) (HK.out.tr hkw)
      have q1 := cell_kept0 (HCF.out k hlt 1 (by omega)) (HK.out.tr hkw)
      have q2 := cell_kept0 (HCF.out k hlt 2 (by omega)) (HK.out.tr hkw)
      simp only [snV, Nat.add_zero] at q0 q1 q2
      have hbl := block_lt q0
      have HYK : Hid (aspG F (F.g k).asp = true → ∀ j, j < k + 1 → aspG F (F.g j).asp = true) := fun e => ext_no hno e
      have HNK := Hid.mk' (HN.out k hlt)
      have HAS := Hid.mk' (fun w' => gasp_any (w := w') (a := some ⟨bf, off, none⟩) (c := c) (F := F) (F.g k).asp)
      generalize aspG F (F.g k).asp = z at *
      generalize F.g k = N at *
      have kS : Kept wr (wr.alloc (.cells #[.int .u8 (N.asp : Int), .int .i64 N.since, .int .i64 N.ended] 23)) none := Kept.alloc _ _ _ _ _
      have g0 := n0_ _ (hkw.tr kS)
      have g1 := n1_ _ (hkw.tr kS)
      have g2 := n2_ _ (hkw.tr kS)
      have KS := Hid.mk' (hkw.tr kS)
      clear hkw hno kS n0_ n1_ n2_
      cases z with
      | true =>
        have HN2 := Hid.mk' (HYK.out rfl)
        go_wp2_with (go_at_call 51; refine (HAS.out _).mono ?_; rintro e wS ⟨rfl, hkS⟩)
        go_roundw
        case rel => exact ⟨k + 1, by omega, by go_num, KS.out.tr hkS, HN2.out⟩
        case measure => simp [intOf]; omega
      | false =>
        have HF2 := Hid.mk' (HNK.out rfl)
        go_wp2_with (go_at_call 51; refine (HAS.out _).mono ?_; rintro e wS ⟨rfl, hkS⟩)
        go_ret
        exact ⟨by rw [HF2.out]; rfl, HK.out.tr (KS.out.tr hkS)⟩
    · have e : k = F.groups.length := by omega
      have HG := Hid.mk' (HY.out (fun i hi => hno i (by omega)))
      clear hkw hno n0_ n1_ n2_
      go_wp2
      go_ret
      exact ⟨by rw [HG.out]; rfl, HK.out.tr HKW.out⟩
theorem ggoes_any {X : Sa} {S : St} {w : World} {a : Option Addr} {c : Nat} {F : Sf} (h : Sat w X S) (hT : Tabb w) (hF : SafeAt w a c F) : Calls Tryd.prog 30 #[siteV X S, safeV a c F] w fun e w' => e = .returned (.int .i64 (goesE S F)) ∧ Kept w w' none := by
  cases hs : siteB S with
  | false => rw [show goesE S F = 50 by unfold goesE; rw [hs]; rfl]; exact ggoes_no h hT hF hs
  | true =>
    cases hm : mayS S F with
    | false =>
      rw [show goesE S F = 8 by unfold goesE goesV; rw [hs, hm]; rfl]
      exact ggoes_bad h hT hF hs hm
    | true => exact ggoes_may h hT hF hs hm
theorem goesE_ok {S : St} {F : Sf} (h : goesE S F = 0) : siteB S = true ∧ goesV S F = true := by
  unfold goesE at h
  cases hs : siteB S with
  | false => rw [hs, if_pos rfl] at h; cases h
  | true =>
    rw [hs, if_neg (by decide)] at h
    cases hg : goesV S F with
    | false => rw [hg, if_neg (by decide)] at h; cases h
    | true => exact ⟨rfl, rfl⟩

/-! ### Admit -/
set_option maxRecDepth 100000 in
set_option maxHeartbeats 2000000 in
theorem gadmit_no {X : Sa} {S : St} {w : World} {a : Option Addr} {c : Nat} {F : Sf} (h : Sat w X S) (hT : Tabb w) (hF : SafeAt w a c F) {al : Option Addr} {n cl : Nat} (hz : goesE S F ≠ 0) : Calls Tryd.prog 35 #[siteV X S, safeV a c F, .slice al n cl] w fun e w' => e = .returned (.tuple #[.slice none 0 0, .int .i64 (goesE S F)]) ∧ Kept w w' none := by
  have hzb : (goesE S F != 0) = true := by simpa using hz
  have k1 : Kept w (w.alloc (.cells #[.int .i64 S.id, .slice X.g S.groups.length X.gc, .slice X.a S.apart.length X.ac, .slice X.b S.between.length X.bc, .slice X.p S.phases.length X.pc, .slice X.e S.eyes.length X.ec, .int .i64 S.watch, .int .i64 S.feed, .int .i64 S.heal, .int .i64 S.low, .int .i64 S.high, .slice X.l S.plans.length X.lc] 37)) none := Kept.alloc _ _ _ _ _
  have k2 : Kept (w.alloc (.cells #[.int .i64 S.id, .slice X.g S.groups.length X.gc, .slice X.a S.apart.length X.ac, .slice X.b S.between.length X.bc, .slice X.p S.phases.length X.pc, .slice X.e S.eyes.length X.ec, .int .i64 S.watch, .int .i64 S.feed, .int .i64 S.heal, .int .i64 S.low, .int .i64 S.high, .slice X.l S.plans.length X.lc] 37)) ((w.alloc (.cells #[.int .i64 S.id, .slice X.g S.groups.length X.gc, .slice X.a S.apart.length X.ac, .slice X.b S.between.length X.bc, .slice X.p S.phases.length X.pc, .slice X.e S.eyes.length X.ec, .int .i64 S.watch, .int .i64 S.feed, .int .i64 S.heal, .int .i64 S.low, .int .i64 S.high, .slice X.l S.plans.length X.lc] 37)).alloc (.cells #[.slice a F.groups.length c, .int .i64 F.start, .bool F.flashed] 26)) none := Kept.alloc _ _ _ _ _
  have hsb := (sbox_alloc h 37).kept k2
  have bn := box_alloc (w.alloc (.cells #[.int .i64 S.id, .slice X.g S.groups.length X.gc, .slice X.a S.apart.length X.ac, .slice X.b S.between.length X.bc, .slice X.p S.phases.length X.pc, .slice X.e S.eyes.length X.ec, .int .i64 S.watch, .int .i64 S.feed, .int .i64 S.heal, .int .i64 S.low, .int .i64 S.high, .slice X.l S.plans.length X.lc] 37)) (.slice a F.groups.length c) (.int .i64 F.start) (.bool F.flashed) 26
  have hsz : ((w.alloc (.cells #[.int .i64 S.id, .slice X.g S.groups.length X.gc, .slice X.a S.apart.length X.ac, .slice X.b S.between.length X.bc, .slice X.p S.phases.length X.pc, .slice X.e S.eyes.length X.ec, .int .i64 S.watch, .int .i64 S.feed, .int .i64 S.heal, .int .i64 S.low, .int .i64 S.high, .slice X.l S.plans.length X.lc] 37)).alloc (.cells #[.slice a F.groups.length c, .int .i64 F.start, .bool F.flashed] 26)).heap.size = w.heap.size + 1 + 1 := by simp
  rw [World.size_alloc] at bn
  have hkA := k1.tr k2
  obtain ⟨WA, hWA⟩ : ∃ WA, ((w.alloc (.cells #[.int .i64 S.id, .slice X.g S.groups.length X.gc, .slice X.a S.apart.length X.ac, .slice X.b S.between.length X.bc, .slice X.p S.phases.length X.pc, .slice X.e S.eyes.length X.ec, .int .i64 S.watch, .int .i64 S.feed, .int .i64 S.heal, .int .i64 S.low, .int .i64 S.high, .slice X.l S.plans.length X.lc] 37)).alloc (.cells #[.slice a F.groups.length c, .int .i64 F.start, .bool F.flashed] 26)) = WA := ⟨_, rfl⟩
  rw [hWA] at hsb bn hsz hkA
  have HSB := Hid.mk' hsb
  have HBN := Hid.mk' bn
  have HSZ := Hid.mk' hsz
  have HK := Hid.mk' hkA
  have HS := Hid.mk' (h.kept hkA)
  have HT := Hid.mk' (hT.kept hkA)
  have HF := Hid.mk' (hF.kept hkA)
  have n0_ : ∀ w', Kept WA w' none → w'.cell? ⟨w.heap.size + 1, 0, none⟩ = some (.slice a F.groups.length c) := fun w' q => (HBN.out.kept q).c0
  have n1_ : ∀ w', Kept WA w' none → w'.cell? ⟨w.heap.size + 1, 1, none⟩ = some (.int .i64 F.start) := fun w' q => (HBN.out.kept q).c1
  have n2_ : ∀ w', Kept WA w' none → w'.cell? ⟨w.heap.size + 1, 2, none⟩ = some (.bool F.flashed) := fun w' q => (HBN.out.kept q).c2
  have s0_ : ∀ w', Kept WA w' none → w'.cell? ⟨w.heap.size, 0, none⟩ = some (.int .i64 S.id) := fun w' q => (HSB.out.kept q).c0
  have s1_ : ∀ w', Kept WA w' none → w'.cell? ⟨w.heap.size, 1, none⟩ = some (.slice X.g S.groups.length X.gc) := fun w' q => (HSB.out.kept q).c1
  have s2_ : ∀ w', Kept WA w' none → w'.cell? ⟨w.heap.size, 2, none⟩ = some (.slice X.a S.apart.length X.ac) := fun w' q => (HSB.out.kept q).c2
  have s3_ : ∀ w', Kept WA w' none → w'.cell? ⟨w.heap.size, 3, none⟩ = some (.slice X.b S.between.length X.bc) := fun w' q => (HSB.out.kept q).c3
  have s4_ : ∀ w', Kept WA w' none → w'.cell? ⟨w.heap.size, 4, none⟩ = some (.slice X.p S.phases.length X.pc) := fun w' q => (HSB.out.kept q).c4
  have s5_ : ∀ w', Kept WA w' none → w'.cell? ⟨w.heap.size, 5, none⟩ = some (.slice X.e S.eyes.length X.ec) := fun w' q => (HSB.out.kept q).c5
  have s6_ : ∀ w', Kept WA w' none → w'.cell? ⟨w.heap.size, 6, none⟩ = some (.int .i64 S.watch) := fun w' q => (HSB.out.kept q).c6
  have s7_ : ∀ w', Kept WA w' none → w'.cell? ⟨w.heap.size, 7, none⟩ = some (.int .i64 S.feed) := fun w' q => (HSB.out.kept q).c7
  have s8_ : ∀ w', Kept WA w' none → w'.cell? ⟨w.heap.size, 8, none⟩ = some (.int .i64 S.heal) := fun w' q => (HSB.out.kept q).c8
  have s9_ : ∀ w', Kept WA w' none → w'.cell? ⟨w.heap.size, 9, none⟩ = some (.int .i64 S.low) := fun w' q => (HSB.out.kept q).c9
  have s10_ : ∀ w', Kept WA w' none → w'.cell? ⟨w.heap.size, 10, none⟩ = some (.int .i64 S.high) := fun w' q => (HSB.out.kept q).c10
  have s11_ : ∀ w', Kept WA w' none → w'.cell? ⟨w.heap.size, 11, none⟩ = some (.slice X.l S.plans.length X.lc) := fun w' q => (HSB.out.kept q).c11
  have hK0 := Kept.refl WA none
  clear h hT hF k1 k2 hsb bn hsz hkA
  go_enter Tryd.func35, Tryd.ntmps35
  go_wp2_with (first | rw [hWA] | (go_at_call 30; refine (ggoes_any HS.out HT.out HF.out).mono ?_; rintro e wN ⟨rfl, hkN⟩; have hKN : Kept WA wN none := hkN))
  go_ret2
  exact ⟨rfl, HK.out.tr hKN⟩
set_option maxRecDepth 100000 in
set_option maxHeartbeats 2000000 in
theorem gadmit_ask {X : Sa} {S : St} {w : World} {a : Option Addr} {c : Nat} {F : Sf} (h : Sat w X S) (hT : Tabb w) (hF : SafeAt w a c F) {al : Option Addr} {n cl : Nat} (hz : goesE S F = 0) (hn : n ≠ S.groups.length) : Calls Tryd.prog 35 #[siteV X S, safeV a c F, .slice al n cl] w fun e w' => e = .returned (.tuple #[.slice none 0 0, .int .i64 90]) ∧ Kept w w' none := by
  have hnb : ((n : Int) != (S.groups.length : Int)) = true := by simp; omega
  have k1 : Kept w (w.alloc (.cells #[.int .i64 S.id, .slice X.g S.groups.length X.gc, .slice X.a S.apart.length X.ac, .slice X.b S.between.length X.bc, .slice X.p S.phases.length X.pc, .slice X.e S.eyes.length X.ec, .int .i64 S.watch, .int .i64 S.feed, .int .i64 S.heal, .int .i64 S.low, .int .i64 S.high, .slice X.l S.plans.length X.lc] 37)) none := Kept.alloc _ _ _ _ _
  have k2 : Kept (w.alloc (.cells #[.int .i64 S.id, .slice X.g S.groups.length X.gc, .slice X.a S.apart.length X.ac, .slice X.b S.between.length X.bc, .slice X.p S.phases.length X.pc, .slice X.e S.eyes.length X.ec, .int .i64 S.watch, .int .i64 S.feed, .int .i64 S.heal, .int .i64 S.low, .int .i64 S.high, .slice X.l S.plans.length X.lc] 37)) ((w.alloc (.cells #[.int .i64 S.id, .slice X.g S.groups.length X.gc, .slice X.a S.apart.length X.ac, .slice X.b S.between.length X.bc, .slice X.p S.phases.length X.pc, .slice X.e S.eyes.length X.ec, .int .i64 S.watch, .int .i64 S.feed, .int .i64 S.heal, .int .i64 S.low, .int .i64 S.high, .slice X.l S.plans.length X.lc] 37)).alloc (.cells #[.slice a F.groups.length c, .int .i64 F.start, .bool F.flashed] 26)) none := Kept.alloc _ _ _ _ _
  have hsb := (sbox_alloc h 37).kept k2
  have bn := box_alloc (w.alloc (.cells #[.int .i64 S.id, .slice X.g S.groups.length X.gc, .slice X.a S.apart.length X.ac, .slice X.b S.between.length X.bc, .slice X.p S.phases.length X.pc, .slice X.e S.eyes.length X.ec, .int .i64 S.watch, .int .i64 S.feed, .int .i64 S.heal, .int .i64 S.low, .int .i64 S.high, .slice X.l S.plans.length X.lc] 37)) (.slice a F.groups.length c) (.int .i64 F.start) (.bool F.flashed) 26
  have hsz : ((w.alloc (.cells #[.int .i64 S.id, .slice X.g S.groups.length X.gc, .slice X.a S.apart.length X.ac, .slice X.b S.between.length X.bc, .slice X.p S.phases.length X.pc, .slice X.e S.eyes.length X.ec, .int .i64 S.watch, .int .i64 S.feed, .int .i64 S.heal, .int .i64 S.low, .int .i64 S.high, .slice X.l S.plans.length X.lc] 37)).alloc (.cells #[.slice a F.groups.length c, .int .i64 F.start, .bool F.flashed] 26)).heap.size = w.heap.size + 1 + 1 := by simp
  rw [World.size_alloc] at bn
  have hkA := k1.tr k2
  obtain ⟨WA, hWA⟩ : ∃ WA, ((w.alloc (.cells #[.int .i64 S.id, .slice X.g S.groups.length X.gc, .slice X.a S.apart.length X.ac, .slice X.b S.between.length X.bc, .slice X.p S.phases.length X.pc, .slice X.e S.eyes.length X.ec, .int .i64 S.watch, .int .i64 S.feed, .int .i64 S.heal, .int .i64 S.low, .int .i64 S.high, .slice X.l S.plans.length X.lc] 37)).alloc (.cells #[.slice a F.groups.length c, .int .i64 F.start, .bool F.flashed] 26)) = WA := ⟨_, rfl⟩
  rw [hWA] at hsb bn hsz hkA
  have HSB := Hid.mk' hsb
  have HBN := Hid.mk' bn
  have HSZ := Hid.mk' hsz
  have HK := Hid.mk' hkA
  have HS := Hid.mk' (h.kept hkA)
  have HT := Hid.mk' (hT.kept hkA)
  have HF := Hid.mk' (hF.kept hkA)
  have n0_ : ∀ w', Kept WA w' none → w'.cell? ⟨w.heap.size + 1, 0, none⟩ = some (.slice a F.groups.length c) := fun w' q => (HBN.out.kept q).c0
  have n1_ : ∀ w', Kept WA w' none → w'.cell? ⟨w.heap.size + 1, 1, none⟩ = some (.int .i64 F.start) := fun w' q => (HBN.out.kept q).c1
  have n2_ : ∀ w', Kept WA w' none → w'.cell? ⟨w.heap.size + 1, 2, none⟩ = some (.bool F.flashed) := fun w' q => (HBN.out.kept q).c2
  have s0_ : ∀ w', Kept WA w' none → w'.cell? ⟨w.heap.size, 0, none⟩ = some (.int .i64 S.id) := fun w' q => (HSB.out.kept q).c0
  have s1_ : ∀ w', Kept WA w' none → w'.cell? ⟨w.heap.size, 1, none⟩ = some (.slice X.g S.groups.length X.gc) := fun w' q => (HSB.out.kept q).c1
  have s2_ : ∀ w', Kept WA w' none → w'.cell? ⟨w.heap.size, 2, none⟩ = some (.slice X.a S.apart.length X.ac) := fun w' q => (HSB.out.kept q).c2
  have s3_ : ∀ w', Kept WA w' none → w'.cell? ⟨w.heap.size, 3, none⟩ = some (.slice X.b S.between.length X.bc) := fun w' q => (HSB.out.kept q).c3
  have s4_ : ∀ w', Kept WA w' none → w'.cell? ⟨w.heap.size, 4, none⟩ = some (.slice X.p S.phases.length X.pc) := fun w' q => (HSB.out.kept q).c4
  have s5_ : ∀ w', Kept WA w' none → w'.cell? ⟨w.heap.size, 5, none⟩ = some (.slice X.e S.eyes.length X.ec) := fun w' q => (HSB.out.kept q).c5
  have s6_ : ∀ w', Kept WA w' none → w'.cell? ⟨w.heap.size, 6, none⟩ = some (.int .i64 S.watch) := fun w' q => (HSB.out.kept q).c6
  have s7_ : ∀ w', Kept WA w' none → w'.cell? ⟨w.heap.size, 7, none⟩ = some (.int .i64 S.feed) := fun w' q => (HSB.out.kept q).c7
  have s8_ : ∀ w', Kept WA w' none → w'.cell? ⟨w.heap.size, 8, none⟩ = some (.int .i64 S.heal) := fun w' q => (HSB.out.kept q).c8
  have s9_ : ∀ w', Kept WA w' none → w'.cell? ⟨w.heap.size, 9, none⟩ = some (.int .i64 S.low) := fun w' q => (HSB.out.kept q).c9
  have s10_ : ∀ w', Kept WA w' none → w'.cell? ⟨w.heap.size, 10, none⟩ = some (.int .i64 S.high) := fun w' q => (HSB.out.kept q).c10
  have s11_ : ∀ w', Kept WA w' none → w'.cell? ⟨w.heap.size, 11, none⟩ = some (.slice X.l S.plans.length X.lc) := fun w' q => (HSB.out.kept q).c11
  have hK0 := Kept.refl WA none
  clear h hT hF k1 k2 hsb bn hsz hkA
  go_enter Tryd.func35, Tryd.ntmps35
  go_wp2_with (first | rw [hWA] | (go_at_call 30; have hg := ggoes_any HS.out HT.out HF.out; rw [hz] at hg; refine hg.mono ?_; rintro e wN ⟨rfl, hkN⟩; have hKN : Kept WA wN none := hkN))
  go_ret2
  exact ⟨rfl, HK.out.tr hKN⟩
set_option maxRecDepth 100000 in
set_option maxHeartbeats 2000000 in
theorem gadmit_go {X : Sa} {S : St} {w : World} {a : Option Addr} {c : Nat} {F : Sf} (h : Sat w X S) (hT : Tabb w) (hF : SafeAt w a c F) {al : Option Addr} {n cl : Nat} {L : List Nat} (hB : By w al n L) (hz : goesE S F = 0) (hn : n = S.groups.length) : Calls Tryd.prog 35 #[siteV X S, safeV a c F, .slice al n cl] w fun e w' => ∃ b, e = .returned (.tuple #[.slice (some ⟨b, 0, none⟩) S.groups.length S.groups.length, .int .i64 0]) ∧ w.heap.size ≤ b ∧ w'.rowIs b 5 S.groups.length (fun i => .int .u8 ((letF S F L i : Nat) : Int)) ∧ Kept w w' none := by
  obtain ⟨hs, hg⟩ := goesE_ok hz
  have HSH := Hid.mk' (span_may hs).base.sh
  have HFN := Hid.mk' (mayS_parts (goes_parts hg).1).1
  have HLET := Hid.mk' (fun w' al' n' cl' (q1 : Sbox w' w.heap.size X S) (q2 : SafeAt w' a c F) (q3 : By w' al' n' L) (q4 : n' = S.groups.length) => glet_any (cl := cl') q1 HSH.out q2 HFN.out q3 q4)
  subst hn
  have hBm := hB.max
  have k1 : Kept w (w.alloc (.cells #[.int .i64 S.id, .slice X.g S.groups.length X.gc, .slice X.a S.apart.length X.ac, .slice X.b S.between.length X.bc, .slice X.p S.phases.length X.pc, .slice X.e S.eyes.length X.ec, .int .i64 S.watch, .int .i64 S.feed, .int .i64 S.heal, .int .i64 S.low, .int .i64 S.high, .slice X.l S.plans.length X.lc] 37)) none := Kept.alloc _ _ _ _ _
  have k2 : Kept (w.alloc (.cells #[.int .i64 S.id, .slice X.g S.groups.length X.gc, .slice X.a S.apart.length X.ac, .slice X.b S.between.length X.bc, .slice X.p S.phases.length X.pc, .slice X.e S.eyes.length X.ec, .int .i64 S.watch, .int .i64 S.feed, .int .i64 S.heal, .int .i64 S.low, .int .i64 S.high, .slice X.l S.plans.length X.lc] 37)) ((w.alloc (.cells #[.int .i64 S.id, .slice X.g S.groups.length X.gc, .slice X.a S.apart.length X.ac, .slice X.b S.between.length X.bc, .slice X.p S.phases.length X.pc, .slice X.e S.eyes.length X.ec, .int .i64 S.watch, .int .i64 S.feed, .int .i64 S.heal, .int .i64 S.low, .int .i64 S.high, .slice X.l S.plans.length X.lc] 37)).alloc (.cells #[.slice a F.groups.length c, .int .i64 F.start, .bool F.flashed] 26)) none := Kept.alloc _ _ _ _ _
  have hsb := (sbox_alloc h 37).kept k2
  have bn := box_alloc (w.alloc (.cells #[.int .i64 S.id, .slice X.g S.groups.length X.gc, .slice X.a S.apart.length X.ac, .slice X.b S.between.length X.bc, .slice X.p S.phases.length X.pc, .slice X.e S.eyes.length X.ec, .int .i64 S.watch, .int .i64 S.feed, .int .i64 S.heal, .int .i64 S.low, .int .i64 S.high, .slice X.l S.plans.length X.lc] 37)) (.slice a F.groups.length c) (.int .i64 F.start) (.bool F.flashed) 26
  have hsz : ((w.alloc (.cells #[.int .i64 S.id, .slice X.g S.groups.length X.gc, .slice X.a S.apart.length X.ac, .slice X.b S.between.length X.bc, .slice X.p S.phases.length X.pc, .slice X.e S.eyes.length X.ec, .int .i64 S.watch, .int .i64 S.feed, .int .i64 S.heal, .int .i64 S.low, .int .i64 S.high, .slice X.l S.plans.length X.lc] 37)).alloc (.cells #[.slice a F.groups.length c, .int .i64 F.start, .bool F.flashed] 26)).heap.size = w.heap.size + 1 + 1 := by simp
  rw [World.size_alloc] at bn
  have hkA := k1.tr k2
  obtain ⟨WA, hWA⟩ : ∃ WA, ((w.alloc (.cells #[.int .i64 S.id, .slice X.g S.groups.length X.gc, .slice X.a S.apart.length X.ac, .slice X.b S.between.length X.bc, .slice X.p S.phases.length X.pc, .slice X.e S.eyes.length X.ec, .int .i64 S.watch, .int .i64 S.feed, .int .i64 S.heal, .int .i64 S.low, .int .i64 S.high, .slice X.l S.plans.length X.lc] 37)).alloc (.cells #[.slice a F.groups.length c, .int .i64 F.start, .bool F.flashed] 26)) = WA := ⟨_, rfl⟩
  rw [hWA] at hsb bn hsz hkA
  have HSB := Hid.mk' hsb
  have HBN := Hid.mk' bn
  have HSZ := Hid.mk' hsz
  have HK := Hid.mk' hkA
  have HS := Hid.mk' (h.kept hkA)
  have HT := Hid.mk' (hT.kept hkA)
  have HF := Hid.mk' (hF.kept hkA)
  have HB := Hid.mk' (hB.kept hkA)
  have n0_ : ∀ w', Kept WA w' none → w'.cell? ⟨w.heap.size + 1, 0, none⟩ = some (.slice a F.groups.length c) := fun w' q => (HBN.out.kept q).c0
  have n1_ : ∀ w', Kept WA w' none → w'.cell? ⟨w.heap.size + 1, 1, none⟩ = some (.int .i64 F.start) := fun w' q => (HBN.out.kept q).c1
  have n2_ : ∀ w', Kept WA w' none → w'.cell? ⟨w.heap.size + 1, 2, none⟩ = some (.bool F.flashed) := fun w' q => (HBN.out.kept q).c2
  have s0_ : ∀ w', Kept WA w' none → w'.cell? ⟨w.heap.size, 0, none⟩ = some (.int .i64 S.id) := fun w' q => (HSB.out.kept q).c0
  have s1_ : ∀ w', Kept WA w' none → w'.cell? ⟨w.heap.size, 1, none⟩ = some (.slice X.g S.groups.length X.gc) := fun w' q => (HSB.out.kept q).c1
  have s2_ : ∀ w', Kept WA w' none → w'.cell? ⟨w.heap.size, 2, none⟩ = some (.slice X.a S.apart.length X.ac) := fun w' q => (HSB.out.kept q).c2
  have s3_ : ∀ w', Kept WA w' none → w'.cell? ⟨w.heap.size, 3, none⟩ = some (.slice X.b S.between.length X.bc) := fun w' q => (HSB.out.kept q).c3
  have s4_ : ∀ w', Kept WA w' none → w'.cell? ⟨w.heap.size, 4, none⟩ = some (.slice X.p S.phases.length X.pc) := fun w' q => (HSB.out.kept q).c4
  have s5_ : ∀ w', Kept WA w' none → w'.cell? ⟨w.heap.size, 5, none⟩ = some (.slice X.e S.eyes.length X.ec) := fun w' q => (HSB.out.kept q).c5
  have s6_ : ∀ w', Kept WA w' none → w'.cell? ⟨w.heap.size, 6, none⟩ = some (.int .i64 S.watch) := fun w' q => (HSB.out.kept q).c6
  have s7_ : ∀ w', Kept WA w' none → w'.cell? ⟨w.heap.size, 7, none⟩ = some (.int .i64 S.feed) := fun w' q => (HSB.out.kept q).c7
  have s8_ : ∀ w', Kept WA w' none → w'.cell? ⟨w.heap.size, 8, none⟩ = some (.int .i64 S.heal) := fun w' q => (HSB.out.kept q).c8
  have s9_ : ∀ w', Kept WA w' none → w'.cell? ⟨w.heap.size, 9, none⟩ = some (.int .i64 S.low) := fun w' q => (HSB.out.kept q).c9
  have s10_ : ∀ w', Kept WA w' none → w'.cell? ⟨w.heap.size, 10, none⟩ = some (.int .i64 S.high) := fun w' q => (HSB.out.kept q).c10
  have s11_ : ∀ w', Kept WA w' none → w'.cell? ⟨w.heap.size, 11, none⟩ = some (.slice X.l S.plans.length X.lc) := fun w' q => (HSB.out.kept q).c11
  have hK0 := Kept.refl WA none
  clear h hT hF k1 k2 hsb bn hsz hkA
  clear hB
  go_enter Tryd.func35, Tryd.ntmps35
  go_wp2_with (first | rw [hWA] | (go_at_call 32; refine (HLET.out _ _ _ _ (HSB.out.kept hKN) (HF.out.kept hKN) (HB.out.kept hKN) rfl).mono ?_; rintro e wL ⟨b, rfl, hbm, hro, hkL⟩) | (go_at_call 30; have hg := ggoes_any HS.out HT.out HF.out; rw [hz] at hg; refine hg.mono ?_; rintro e wN ⟨rfl, hkN⟩; have hKN : Kept WA wN none := hkN))
  go_ret2
  exact ⟨b, ⟨rfl, Nat.le_trans (HK.out.tr hKN).size hbm, hro, (HK.out.tr hKN).tr hkL⟩⟩

/-! ### Open -/
set_option maxRecDepth 100000 in
set_option maxHeartbeats 2000000 in
theorem gopn_no {X : Sa} {S : St} {w : World} {a : Option Addr} {c : Nat} {F : Sf} (h : Sat w X S) (hT : Tabb w) (hF : SafeAt w a c F) (g : Int) (hz : goesE S F ≠ 0) : Calls Tryd.prog 16 #[siteV X S, safeV a c F, .int .i64 g] w fun e w' => e = .returned (.tuple #[.bool false, .int .i64 (goesE S F)]) ∧ Kept w w' none := by
  have hzb : (goesE S F != 0) = true := by simpa using hz
  have k1 : Kept w (w.alloc (.cells #[.int .i64 S.id, .slice X.g S.groups.length X.gc, .slice X.a S.apart.length X.ac, .slice X.b S.between.length X.bc, .slice X.p S.phases.length X.pc, .slice X.e S.eyes.length X.ec, .int .i64 S.watch, .int .i64 S.feed, .int .i64 S.heal, .int .i64 S.low, .int .i64 S.high, .slice X.l S.plans.length X.lc] 37)) none := Kept.alloc _ _ _ _ _
  have k2 : Kept (w.alloc (.cells #[.int .i64 S.id, .slice X.g S.groups.length X.gc, .slice X.a S.apart.length X.ac, .slice X.b S.between.length X.bc, .slice X.p S.phases.length X.pc, .slice X.e S.eyes.length X.ec, .int .i64 S.watch, .int .i64 S.feed, .int .i64 S.heal, .int .i64 S.low, .int .i64 S.high, .slice X.l S.plans.length X.lc] 37)) ((w.alloc (.cells #[.int .i64 S.id, .slice X.g S.groups.length X.gc, .slice X.a S.apart.length X.ac, .slice X.b S.between.length X.bc, .slice X.p S.phases.length X.pc, .slice X.e S.eyes.length X.ec, .int .i64 S.watch, .int .i64 S.feed, .int .i64 S.heal, .int .i64 S.low, .int .i64 S.high, .slice X.l S.plans.length X.lc] 37)).alloc (.cells #[.slice a F.groups.length c, .int .i64 F.start, .bool F.flashed] 26)) none := Kept.alloc _ _ _ _ _
  have hsb := (sbox_alloc h 37).kept k2
  have bn := box_alloc (w.alloc (.cells #[.int .i64 S.id, .slice X.g S.groups.length X.gc, .slice X.a S.apart.length X.ac, .slice X.b S.between.length X.bc, .slice X.p S.phases.length X.pc, .slice X.e S.eyes.length X.ec, .int .i64 S.watch, .int .i64 S.feed, .int .i64 S.heal, .int .i64 S.low, .int .i64 S.high, .slice X.l S.plans.length X.lc] 37)) (.slice a F.groups.length c) (.int .i64 F.start) (.bool F.flashed) 26
  have hsz : ((w.alloc (.cells #[.int .i64 S.id, .slice X.g S.groups.length X.gc, .slice X.a S.apart.length X.ac, .slice X.b S.between.length X.bc, .slice X.p S.phases.length X.pc, .slice X.e S.eyes.length X.ec, .int .i64 S.watch, .int .i64 S.feed, .int .i64 S.heal, .int .i64 S.low, .int .i64 S.high, .slice X.l S.plans.length X.lc] 37)).alloc (.cells #[.slice a F.groups.length c, .int .i64 F.start, .bool F.flashed] 26)).heap.size = w.heap.size + 1 + 1 := by simp
  rw [World.size_alloc] at bn
  have hkA := k1.tr k2
  obtain ⟨WA, hWA⟩ : ∃ WA, ((w.alloc (.cells #[.int .i64 S.id, .slice X.g S.groups.length X.gc, .slice X.a S.apart.length X.ac, .slice X.b S.between.length X.bc, .slice X.p S.phases.length X.pc, .slice X.e S.eyes.length X.ec, .int .i64 S.watch, .int .i64 S.feed, .int .i64 S.heal, .int .i64 S.low, .int .i64 S.high, .slice X.l S.plans.length X.lc] 37)).alloc (.cells #[.slice a F.groups.length c, .int .i64 F.start, .bool F.flashed] 26)) = WA := ⟨_, rfl⟩
  rw [hWA] at hsb bn hsz hkA
  have HSB := Hid.mk' hsb
  have HBN := Hid.mk' bn
  have HSZ := Hid.mk' hsz
  have HK := Hid.mk' hkA
  have HS := Hid.mk' (h.kept hkA)
  have HT := Hid.mk' (hT.kept hkA)
  have HF := Hid.mk' (hF.kept hkA)
  have n0_ : ∀ w', Kept WA w' none → w'.cell? ⟨w.heap.size + 1, 0, none⟩ = some (.slice a F.groups.length c) := fun w' q => (HBN.out.kept q).c0
  have n1_ : ∀ w', Kept WA w' none → w'.cell? ⟨w.heap.size + 1, 1, none⟩ = some (.int .i64 F.start) := fun w' q => (HBN.out.kept q).c1
  have n2_ : ∀ w', Kept WA w' none → w'.cell? ⟨w.heap.size + 1, 2, none⟩ = some (.bool F.flashed) := fun w' q => (HBN.out.kept q).c2
  have s0_ : ∀ w', Kept WA w' none → w'.cell? ⟨w.heap.size, 0, none⟩ = some (.int .i64 S.id) := fun w' q => (HSB.out.kept q).c0
  have s1_ : ∀ w', Kept WA w' none → w'.cell? ⟨w.heap.size, 1, none⟩ = some (.slice X.g S.groups.length X.gc) := fun w' q => (HSB.out.kept q).c1
  have s2_ : ∀ w', Kept WA w' none → w'.cell? ⟨w.heap.size, 2, none⟩ = some (.slice X.a S.apart.length X.ac) := fun w' q => (HSB.out.kept q).c2
  have s3_ : ∀ w', Kept WA w' none → w'.cell? ⟨w.heap.size, 3, none⟩ = some (.slice X.b S.between.length X.bc) := fun w' q => (HSB.out.kept q).c3
  have s4_ : ∀ w', Kept WA w' none → w'.cell? ⟨w.heap.size, 4, none⟩ = some (.slice X.p S.phases.length X.pc) := fun w' q => (HSB.out.kept q).c4
  have s5_ : ∀ w', Kept WA w' none → w'.cell? ⟨w.heap.size, 5, none⟩ = some (.slice X.e S.eyes.length X.ec) := fun w' q => (HSB.out.kept q).c5
  have s6_ : ∀ w', Kept WA w' none → w'.cell? ⟨w.heap.size, 6, none⟩ = some (.int .i64 S.watch) := fun w' q => (HSB.out.kept q).c6
  have s7_ : ∀ w', Kept WA w' none → w'.cell? ⟨w.heap.size, 7, none⟩ = some (.int .i64 S.feed) := fun w' q => (HSB.out.kept q).c7
  have s8_ : ∀ w', Kept WA w' none → w'.cell? ⟨w.heap.size, 8, none⟩ = some (.int .i64 S.heal) := fun w' q => (HSB.out.kept q).c8
  have s9_ : ∀ w', Kept WA w' none → w'.cell? ⟨w.heap.size, 9, none⟩ = some (.int .i64 S.low) := fun w' q => (HSB.out.kept q).c9
  have s10_ : ∀ w', Kept WA w' none → w'.cell? ⟨w.heap.size, 10, none⟩ = some (.int .i64 S.high) := fun w' q => (HSB.out.kept q).c10
  have s11_ : ∀ w', Kept WA w' none → w'.cell? ⟨w.heap.size, 11, none⟩ = some (.slice X.l S.plans.length X.lc) := fun w' q => (HSB.out.kept q).c11
  have hK0 := Kept.refl WA none
  clear h hT hF k1 k2 hsb bn hsz hkA
  go_enter Tryd.func16, Tryd.ntmps16
  go_wp2_with (first | rw [hWA] | (go_at_call 30; refine (ggoes_any HS.out HT.out HF.out).mono ?_; rintro e wN ⟨rfl, hkN⟩; have hKN : Kept WA wN none := hkN))
  go_ret2
  exact ⟨rfl, HK.out.tr hKN⟩
set_option maxRecDepth 100000 in
set_option maxHeartbeats 2000000 in
theorem gopn_arg {X : Sa} {S : St} {w : World} {a : Option Addr} {c : Nat} {F : Sf} (h : Sat w X S) (hT : Tabb w) (hF : SafeAt w a c F) (g : Int) (hz : goesE S F = 0) (hg : g < 0 ∨ (S.groups.length : Int) ≤ g) : Calls Tryd.prog 16 #[siteV X S, safeV a c F, .int .i64 g] w fun e w' => e = .returned (.tuple #[.bool false, .int .i64 2]) ∧ Kept w w' none := by
  by_cases h0 : g < 0
  · clear hg
    have k1 : Kept w (w.alloc (.cells #[.int .i64 S.id, .slice X.g S.groups.length X.gc, .slice X.a S.apart.length X.ac, .slice X.b S.between.length X.bc, .slice X.p S.phases.length X.pc, .slice X.e S.eyes.length X.ec, .int .i64 S.watch, .int .i64 S.feed, .int .i64 S.heal, .int .i64 S.low, .int .i64 S.high, .slice X.l S.plans.length X.lc] 37)) none := Kept.alloc _ _ _ _ _
    have k2 : Kept (w.alloc (.cells #[.int .i64 S.id, .slice X.g S.groups.length X.gc, .slice X.a S.apart.length X.ac, .slice X.b S.between.length X.bc, .slice X.p S.phases.length X.pc, .slice X.e S.eyes.length X.ec, .int .i64 S.watch, .int .i64 S.feed, .int .i64 S.heal, .int .i64 S.low, .int .i64 S.high, .slice X.l S.plans.length X.lc] 37)) ((w.alloc (.cells #[.int .i64 S.id, .slice X.g S.groups.length X.gc, .slice X.a S.apart.length X.ac, .slice X.b S.between.length X.bc, .slice X.p S.phases.length X.pc, .slice X.e S.eyes.length X.ec, .int .i64 S.watch, .int .i64 S.feed, .int .i64 S.heal, .int .i64 S.low, .int .i64 S.high, .slice X.l S.plans.length X.lc] 37)).alloc (.cells #[.slice a F.groups.length c, .int .i64 F.start, .bool F.flashed] 26)) none := Kept.alloc _ _ _ _ _
    have hsb := (sbox_alloc h 37).kept k2
    have bn := box_alloc (w.alloc (.cells #[.int .i64 S.id, .slice X.g S.groups.length X.gc, .slice X.a S.apart.length X.ac, .slice X.b S.between.length X.bc, .slice X.p S.phases.length X.pc, .slice X.e S.eyes.length X.ec, .int .i64 S.watch, .int .i64 S.feed, .int .i64 S.heal, .int .i64 S.low, .int .i64 S.high, .slice X.l S.plans.length X.lc] 37)) (.slice a F.groups.length c) (.int .i64 F.start) (.bool F.flashed) 26
    have hsz : ((w.alloc (.cells #[.int .i64 S.id, .slice X.g S.groups.length X.gc, .slice X.a S.apart.length X.ac, .slice X.b S.between.length X.bc, .slice X.p S.phases.length X.pc, .slice X.e S.eyes.length X.ec, .int .i64 S.watch, .int .i64 S.feed, .int .i64 S.heal, .int .i64 S.low, .int .i64 S.high, .slice X.l S.plans.length X.lc] 37)).alloc (.cells #[.slice a F.groups.length c, .int .i64 F.start, .bool F.flashed] 26)).heap.size = w.heap.size + 1 + 1 := by simp
    rw [World.size_alloc] at bn
    have hkA := k1.tr k2
    obtain ⟨WA, hWA⟩ : ∃ WA, ((w.alloc (.cells #[.int .i64 S.id, .slice X.g S.groups.length X.gc, .slice X.a S.apart.length X.ac, .slice X.b S.between.length X.bc, .slice X.p S.phases.length X.pc, .slice X.e S.eyes.length X.ec, .int .i64 S.watch, .int .i64 S.feed, .int .i64 S.heal, .int .i64 S.low, .int .i64 S.high, .slice X.l S.plans.length X.lc] 37)).alloc (.cells #[.slice a F.groups.length c, .int .i64 F.start, .bool F.flashed] 26)) = WA := ⟨_, rfl⟩
    rw [hWA] at hsb bn hsz hkA
    have HSB := Hid.mk' hsb
    have HBN := Hid.mk' bn
    have HSZ := Hid.mk' hsz
    have HK := Hid.mk' hkA
    have HS := Hid.mk' (h.kept hkA)
    have HT := Hid.mk' (hT.kept hkA)
    have HF := Hid.mk' (hF.kept hkA)
    have n0_ : ∀ w', Kept WA w' none → w'.cell? ⟨w.heap.size + 1, 0, none⟩ = some (.slice a F.groups.length c) := fun w' q => (HBN.out.kept q).c0
    have n1_ : ∀ w', Kept WA w' none → w'.cell? ⟨w.heap.size + 1, 1, none⟩ = some (.int .i64 F.start) := fun w' q => (HBN.out.kept q).c1
    have n2_ : ∀ w', Kept WA w' none → w'.cell? ⟨w.heap.size + 1, 2, none⟩ = some (.bool F.flashed) := fun w' q => (HBN.out.kept q).c2
    have s0_ : ∀ w', Kept WA w' none → w'.cell? ⟨w.heap.size, 0, none⟩ = some (.int .i64 S.id) := fun w' q => (HSB.out.kept q).c0
    have s1_ : ∀ w', Kept WA w' none → w'.cell? ⟨w.heap.size, 1, none⟩ = some (.slice X.g S.groups.length X.gc) := fun w' q => (HSB.out.kept q).c1
    have s2_ : ∀ w', Kept WA w' none → w'.cell? ⟨w.heap.size, 2, none⟩ = some (.slice X.a S.apart.length X.ac) := fun w' q => (HSB.out.kept q).c2
    have s3_ : ∀ w', Kept WA w' none → w'.cell? ⟨w.heap.size, 3, none⟩ = some (.slice X.b S.between.length X.bc) := fun w' q => (HSB.out.kept q).c3
    have s4_ : ∀ w', Kept WA w' none → w'.cell? ⟨w.heap.size, 4, none⟩ = some (.slice X.p S.phases.length X.pc) := fun w' q => (HSB.out.kept q).c4
    have s5_ : ∀ w', Kept WA w' none → w'.cell? ⟨w.heap.size, 5, none⟩ = some (.slice X.e S.eyes.length X.ec) := fun w' q => (HSB.out.kept q).c5
    have s6_ : ∀ w', Kept WA w' none → w'.cell? ⟨w.heap.size, 6, none⟩ = some (.int .i64 S.watch) := fun w' q => (HSB.out.kept q).c6
    have s7_ : ∀ w', Kept WA w' none → w'.cell? ⟨w.heap.size, 7, none⟩ = some (.int .i64 S.feed) := fun w' q => (HSB.out.kept q).c7
    have s8_ : ∀ w', Kept WA w' none → w'.cell? ⟨w.heap.size, 8, none⟩ = some (.int .i64 S.heal) := fun w' q => (HSB.out.kept q).c8
    have s9_ : ∀ w', Kept WA w' none → w'.cell? ⟨w.heap.size, 9, none⟩ = some (.int .i64 S.low) := fun w' q => (HSB.out.kept q).c9
    have s10_ : ∀ w', Kept WA w' none → w'.cell? ⟨w.heap.size, 10, none⟩ = some (.int .i64 S.high) := fun w' q => (HSB.out.kept q).c10
    have s11_ : ∀ w', Kept WA w' none → w'.cell? ⟨w.heap.size, 11, none⟩ = some (.slice X.l S.plans.length X.lc) := fun w' q => (HSB.out.kept q).c11
    have hK0 := Kept.refl WA none
    clear h hT hF k1 k2 hsb bn hsz hkA
    go_enter Tryd.func16, Tryd.ntmps16
    go_wp2_with (first | rw [hWA] | (go_at_call 30; have hg := ggoes_any HS.out HT.out HF.out; rw [hz] at hg; refine hg.mono ?_; rintro e wN ⟨rfl, hkN⟩; have hKN : Kept WA wN none := hkN))
    go_ret2
    exact ⟨rfl, HK.out.tr hKN⟩
  · have h0b : decide (g < 0) = false := by simp; omega
    have h1 : (S.groups.length : Int) ≤ g := by omega
    clear hg
    have k1 : Kept w (w.alloc (.cells #[.int .i64 S.id, .slice X.g S.groups.length X.gc, .slice X.a S.apart.length X.ac, .slice X.b S.between.length X.bc, .slice X.p S.phases.length X.pc, .slice X.e S.eyes.length X.ec, .int .i64 S.watch, .int .i64 S.feed, .int .i64 S.heal, .int .i64 S.low, .int .i64 S.high, .slice X.l S.plans.length X.lc] 37)) none := Kept.alloc _ _ _ _ _
    have k2 : Kept (w.alloc (.cells #[.int .i64 S.id, .slice X.g S.groups.length X.gc, .slice X.a S.apart.length X.ac, .slice X.b S.between.length X.bc, .slice X.p S.phases.length X.pc, .slice X.e S.eyes.length X.ec, .int .i64 S.watch, .int .i64 S.feed, .int .i64 S.heal, .int .i64 S.low, .int .i64 S.high, .slice X.l S.plans.length X.lc] 37)) ((w.alloc (.cells #[.int .i64 S.id, .slice X.g S.groups.length X.gc, .slice X.a S.apart.length X.ac, .slice X.b S.between.length X.bc, .slice X.p S.phases.length X.pc, .slice X.e S.eyes.length X.ec, .int .i64 S.watch, .int .i64 S.feed, .int .i64 S.heal, .int .i64 S.low, .int .i64 S.high, .slice X.l S.plans.length X.lc] 37)).alloc (.cells #[.slice a F.groups.length c, .int .i64 F.start, .bool F.flashed] 26)) none := Kept.alloc _ _ _ _ _
    have hsb := (sbox_alloc h 37).kept k2
    have bn := box_alloc (w.alloc (.cells #[.int .i64 S.id, .slice X.g S.groups.length X.gc, .slice X.a S.apart.length X.ac, .slice X.b S.between.length X.bc, .slice X.p S.phases.length X.pc, .slice X.e S.eyes.length X.ec, .int .i64 S.watch, .int .i64 S.feed, .int .i64 S.heal, .int .i64 S.low, .int .i64 S.high, .slice X.l S.plans.length X.lc] 37)) (.slice a F.groups.length c) (.int .i64 F.start) (.bool F.flashed) 26
    have hsz : ((w.alloc (.cells #[.int .i64 S.id, .slice X.g S.groups.length X.gc, .slice X.a S.apart.length X.ac, .slice X.b S.between.length X.bc, .slice X.p S.phases.length X.pc, .slice X.e S.eyes.length X.ec, .int .i64 S.watch, .int .i64 S.feed, .int .i64 S.heal, .int .i64 S.low, .int .i64 S.high, .slice X.l S.plans.length X.lc] 37)).alloc (.cells #[.slice a F.groups.length c, .int .i64 F.start, .bool F.flashed] 26)).heap.size = w.heap.size + 1 + 1 := by simp
    rw [World.size_alloc] at bn
    have hkA := k1.tr k2
    obtain ⟨WA, hWA⟩ : ∃ WA, ((w.alloc (.cells #[.int .i64 S.id, .slice X.g S.groups.length X.gc, .slice X.a S.apart.length X.ac, .slice X.b S.between.length X.bc, .slice X.p S.phases.length X.pc, .slice X.e S.eyes.length X.ec, .int .i64 S.watch, .int .i64 S.feed, .int .i64 S.heal, .int .i64 S.low, .int .i64 S.high, .slice X.l S.plans.length X.lc] 37)).alloc (.cells #[.slice a F.groups.length c, .int .i64 F.start, .bool F.flashed] 26)) = WA := ⟨_, rfl⟩
    rw [hWA] at hsb bn hsz hkA
    have HSB := Hid.mk' hsb
    have HBN := Hid.mk' bn
    have HSZ := Hid.mk' hsz
    have HK := Hid.mk' hkA
    have HS := Hid.mk' (h.kept hkA)
    have HT := Hid.mk' (hT.kept hkA)
    have HF := Hid.mk' (hF.kept hkA)
    have n0_ : ∀ w', Kept WA w' none → w'.cell? ⟨w.heap.size + 1, 0, none⟩ = some (.slice a F.groups.length c) := fun w' q => (HBN.out.kept q).c0
    have n1_ : ∀ w', Kept WA w' none → w'.cell? ⟨w.heap.size + 1, 1, none⟩ = some (.int .i64 F.start) := fun w' q => (HBN.out.kept q).c1
    have n2_ : ∀ w', Kept WA w' none → w'.cell? ⟨w.heap.size + 1, 2, none⟩ = some (.bool F.flashed) := fun w' q => (HBN.out.kept q).c2
    have s0_ : ∀ w', Kept WA w' none → w'.cell? ⟨w.heap.size, 0, none⟩ = some (.int .i64 S.id) := fun w' q => (HSB.out.kept q).c0
    have s1_ : ∀ w', Kept WA w' none → w'.cell? ⟨w.heap.size, 1, none⟩ = some (.slice X.g S.groups.length X.gc) := fun w' q => (HSB.out.kept q).c1
    have s2_ : ∀ w', Kept WA w' none → w'.cell? ⟨w.heap.size, 2, none⟩ = some (.slice X.a S.apart.length X.ac) := fun w' q => (HSB.out.kept q).c2
    have s3_ : ∀ w', Kept WA w' none → w'.cell? ⟨w.heap.size, 3, none⟩ = some (.slice X.b S.between.length X.bc) := fun w' q => (HSB.out.kept q).c3
    have s4_ : ∀ w', Kept WA w' none → w'.cell? ⟨w.heap.size, 4, none⟩ = some (.slice X.p S.phases.length X.pc) := fun w' q => (HSB.out.kept q).c4
    have s5_ : ∀ w', Kept WA w' none → w'.cell? ⟨w.heap.size, 5, none⟩ = some (.slice X.e S.eyes.length X.ec) := fun w' q => (HSB.out.kept q).c5
    have s6_ : ∀ w', Kept WA w' none → w'.cell? ⟨w.heap.size, 6, none⟩ = some (.int .i64 S.watch) := fun w' q => (HSB.out.kept q).c6
    have s7_ : ∀ w', Kept WA w' none → w'.cell? ⟨w.heap.size, 7, none⟩ = some (.int .i64 S.feed) := fun w' q => (HSB.out.kept q).c7
    have s8_ : ∀ w', Kept WA w' none → w'.cell? ⟨w.heap.size, 8, none⟩ = some (.int .i64 S.heal) := fun w' q => (HSB.out.kept q).c8
    have s9_ : ∀ w', Kept WA w' none → w'.cell? ⟨w.heap.size, 9, none⟩ = some (.int .i64 S.low) := fun w' q => (HSB.out.kept q).c9
    have s10_ : ∀ w', Kept WA w' none → w'.cell? ⟨w.heap.size, 10, none⟩ = some (.int .i64 S.high) := fun w' q => (HSB.out.kept q).c10
    have s11_ : ∀ w', Kept WA w' none → w'.cell? ⟨w.heap.size, 11, none⟩ = some (.slice X.l S.plans.length X.lc) := fun w' q => (HSB.out.kept q).c11
    have hK0 := Kept.refl WA none
    clear h hT hF k1 k2 hsb bn hsz hkA
    go_enter Tryd.func16, Tryd.ntmps16
    go_wp2_with (first | rw [hWA] | (go_at_call 30; have hg := ggoes_any HS.out HT.out HF.out; rw [hz] at hg; refine hg.mono ?_; rintro e wN ⟨rfl, hkN⟩; have hKN : Kept WA wN none := hkN))
    go_ret2
    exact ⟨rfl, HK.out.tr hKN⟩
/-- Green asked of one, red of all others. -/
def oneL (n g : Nat) : List Nat := (List.range n).map (fun i => if i = g then 2 else 1)
theorem oneL_lg {n g i : Nat} (h : i < n) : lg (oneL n g) i = if i = g then 2 else 1 := by simp [oneL, lg, h]
theorem oneL_len (n g : Nat) : (oneL n g).length = n := by simp [oneL]
theorem oneL_lt (n g : Nat) : ∀ x ∈ oneL n g, x < 256 := by
  intro x hx
  simp only [oneL, List.mem_map] at hx
  obtain ⟨i, _, rfl⟩ := hx
  split <;> omega
theorem one_cell {n g i : Nat} (h : i < n) : (if i = g then Value.int .u8 2 else Value.int .u8 ((1 : Nat) : Int)) = .int .u8 (((oneL n g).getD i 0 : Nat) : Int) := by
  rw [show (oneL n g).getD i 0 = lg (oneL n g) i from rfl, oneL_lg h]
  split <;> rfl
set_option maxRecDepth 100000 in
set_option maxHeartbeats 2000000 in
theorem gopn_go {X : Sa} {S : St} {w : World} {a : Option Addr} {c : Nat} {F : Sf} (h : Sat w X S) (hT : Tabb w) (hF : SafeAt w a c F) (g : Nat) (hz : goesE S F = 0) (hg : g < S.groups.length) : Calls Tryd.prog 16 #[siteV X S, safeV a c F, .int .i64 (g : Int)] w fun e w' => e = .returned (.tuple #[.bool (letF S F (oneL S.groups.length g) g == 2), .int .i64 0]) ∧ Kept w w' none := by
  obtain ⟨hs, hgo⟩ := goesE_ok hz
  have HSH := Hid.mk' (span_may hs).base.sh
  have hng := HSH.out.ok.ng
  have HFN := Hid.mk' (mayS_parts (goes_parts hgo).1).1
  have HLET := Hid.mk' (fun w' al' n' cl' (q1 : Sbox w' w.heap.size X S) (q2 : SafeAt w' a c F) (q3 : By w' al' n' (oneL S.groups.length g)) (q4 : n' = S.groups.length) => glet_any (cl := cl') q1 HSH.out q2 HFN.out q3 q4)
  have hn16 : S.groups.length ≤ 100 := by omega
  have h0b : decide ((g : Int) < 0) = false := by simp
  have HEQ : Hid ((((letF S F (oneL S.groups.length g) g : Nat) : Int) == 2) = (letF S F (oneL S.groups.length g) g == 2)) := by show _ = _; rw [Bool.eq_iff_iff]; simp; omega
  have k1 : Kept w (w.alloc (.cells #[.int .i64 S.id, .slice X.g S.groups.length X.gc, .slice X.a S.apart.length X.ac, .slice X.b S.between.length X.bc, .slice X.p S.phases.length X.pc, .slice X.e S.eyes.length X.ec, .int .i64 S.watch, .int .i64 S.feed, .int .i64 S.heal, .int .i64 S.low, .int .i64 S.high, .slice X.l S.plans.length X.lc] 37)) none := Kept.alloc _ _ _ _ _
  have k2 : Kept (w.alloc (.cells #[.int .i64 S.id, .slice X.g S.groups.length X.gc, .slice X.a S.apart.length X.ac, .slice X.b S.between.length X.bc, .slice X.p S.phases.length X.pc, .slice X.e S.eyes.length X.ec, .int .i64 S.watch, .int .i64 S.feed, .int .i64 S.heal, .int .i64 S.low, .int .i64 S.high, .slice X.l S.plans.length X.lc] 37)) ((w.alloc (.cells #[.int .i64 S.id, .slice X.g S.groups.length X.gc, .slice X.a S.apart.length X.ac, .slice X.b S.between.length X.bc, .slice X.p S.phases.length X.pc, .slice X.e S.eyes.length X.ec, .int .i64 S.watch, .int .i64 S.feed, .int .i64 S.heal, .int .i64 S.low, .int .i64 S.high, .slice X.l S.plans.length X.lc] 37)).alloc (.cells #[.slice a F.groups.length c, .int .i64 F.start, .bool F.flashed] 26)) none := Kept.alloc _ _ _ _ _
  have hsb := (sbox_alloc h 37).kept k2
  have bn := box_alloc (w.alloc (.cells #[.int .i64 S.id, .slice X.g S.groups.length X.gc, .slice X.a S.apart.length X.ac, .slice X.b S.between.length X.bc, .slice X.p S.phases.length X.pc, .slice X.e S.eyes.length X.ec, .int .i64 S.watch, .int .i64 S.feed, .int .i64 S.heal, .int .i64 S.low, .int .i64 S.high, .slice X.l S.plans.length X.lc] 37)) (.slice a F.groups.length c) (.int .i64 F.start) (.bool F.flashed) 26
  have hsz : ((w.alloc (.cells #[.int .i64 S.id, .slice X.g S.groups.length X.gc, .slice X.a S.apart.length X.ac, .slice X.b S.between.length X.bc, .slice X.p S.phases.length X.pc, .slice X.e S.eyes.length X.ec, .int .i64 S.watch, .int .i64 S.feed, .int .i64 S.heal, .int .i64 S.low, .int .i64 S.high, .slice X.l S.plans.length X.lc] 37)).alloc (.cells #[.slice a F.groups.length c, .int .i64 F.start, .bool F.flashed] 26)).heap.size = w.heap.size + 1 + 1 := by simp
  rw [World.size_alloc] at bn
  have hkA := k1.tr k2
  obtain ⟨WA, hWA⟩ : ∃ WA, ((w.alloc (.cells #[.int .i64 S.id, .slice X.g S.groups.length X.gc, .slice X.a S.apart.length X.ac, .slice X.b S.between.length X.bc, .slice X.p S.phases.length X.pc, .slice X.e S.eyes.length X.ec, .int .i64 S.watch, .int .i64 S.feed, .int .i64 S.heal, .int .i64 S.low, .int .i64 S.high, .slice X.l S.plans.length X.lc] 37)).alloc (.cells #[.slice a F.groups.length c, .int .i64 F.start, .bool F.flashed] 26)) = WA := ⟨_, rfl⟩
  rw [hWA] at hsb bn hsz hkA
  have HSB := Hid.mk' hsb
  have HBN := Hid.mk' bn
  have HSZ := Hid.mk' hsz
  have HK := Hid.mk' hkA
  have HS := Hid.mk' (h.kept hkA)
  have HT := Hid.mk' (hT.kept hkA)
  have HF := Hid.mk' (hF.kept hkA)
  have n0_ : ∀ w', Kept WA w' none → w'.cell? ⟨w.heap.size + 1, 0, none⟩ = some (.slice a F.groups.length c) := fun w' q => (HBN.out.kept q).c0
  have n1_ : ∀ w', Kept WA w' none → w'.cell? ⟨w.heap.size + 1, 1, none⟩ = some (.int .i64 F.start) := fun w' q => (HBN.out.kept q).c1
  have n2_ : ∀ w', Kept WA w' none → w'.cell? ⟨w.heap.size + 1, 2, none⟩ = some (.bool F.flashed) := fun w' q => (HBN.out.kept q).c2
  have s0_ : ∀ w', Kept WA w' none → w'.cell? ⟨w.heap.size, 0, none⟩ = some (.int .i64 S.id) := fun w' q => (HSB.out.kept q).c0
  have s1_ : ∀ w', Kept WA w' none → w'.cell? ⟨w.heap.size, 1, none⟩ = some (.slice X.g S.groups.length X.gc) := fun w' q => (HSB.out.kept q).c1
  have s2_ : ∀ w', Kept WA w' none → w'.cell? ⟨w.heap.size, 2, none⟩ = some (.slice X.a S.apart.length X.ac) := fun w' q => (HSB.out.kept q).c2
  have s3_ : ∀ w', Kept WA w' none → w'.cell? ⟨w.heap.size, 3, none⟩ = some (.slice X.b S.between.length X.bc) := fun w' q => (HSB.out.kept q).c3
  have s4_ : ∀ w', Kept WA w' none → w'.cell? ⟨w.heap.size, 4, none⟩ = some (.slice X.p S.phases.length X.pc) := fun w' q => (HSB.out.kept q).c4
  have s5_ : ∀ w', Kept WA w' none → w'.cell? ⟨w.heap.size, 5, none⟩ = some (.slice X.e S.eyes.length X.ec) := fun w' q => (HSB.out.kept q).c5
  have s6_ : ∀ w', Kept WA w' none → w'.cell? ⟨w.heap.size, 6, none⟩ = some (.int .i64 S.watch) := fun w' q => (HSB.out.kept q).c6
  have s7_ : ∀ w', Kept WA w' none → w'.cell? ⟨w.heap.size, 7, none⟩ = some (.int .i64 S.feed) := fun w' q => (HSB.out.kept q).c7
  have s8_ : ∀ w', Kept WA w' none → w'.cell? ⟨w.heap.size, 8, none⟩ = some (.int .i64 S.heal) := fun w' q => (HSB.out.kept q).c8
  have s9_ : ∀ w', Kept WA w' none → w'.cell? ⟨w.heap.size, 9, none⟩ = some (.int .i64 S.low) := fun w' q => (HSB.out.kept q).c9
  have s10_ : ∀ w', Kept WA w' none → w'.cell? ⟨w.heap.size, 10, none⟩ = some (.int .i64 S.high) := fun w' q => (HSB.out.kept q).c10
  have s11_ : ∀ w', Kept WA w' none → w'.cell? ⟨w.heap.size, 11, none⟩ = some (.slice X.l S.plans.length X.lc) := fun w' q => (HSB.out.kept q).c11
  have hK0 := Kept.refl WA none
  clear h hT hF k1 k2 hsb bn hsz hkA
  go_enter Tryd.func16, Tryd.ntmps16
  go_wp2_with (first
    | rw [hWA]
    | (have hgo := h6; clear hgo; go_at_call 32; refine (HLET.out _ _ _ _ (HSB.out.kept h6) (HF.out.kept h6) HB6.out rfl).mono ?_; rintro e wL ⟨b, rfl, hbm, hrl, hkL⟩; have yl := hrl.cell (i := g) hg)
    | (go_at_call 31; refine (gallOf_any 1 S.groups.length hn16).mono ?_; rintro e wO ⟨rfl, hro, hkO⟩; have hKO : Kept WA wO none := Kept.tr hKN hkO; have y0 := hro.cell (i := g) hg; have z0 := hro.frozen g; have h6 : Kept WA (wO.setCell ⟨wN.heap.size, g, none⟩ (.int .u8 2)) none := hKO.setNew hKN.size _; have o0 := n0_ _ h6; have o1 := n1_ _ h6; have o2 := n2_ _ h6; have hlo := hro.lt; have HB6 : Hid (By (wO.setCell ⟨wN.heap.size, g, none⟩ (.int .u8 2)) (some ⟨wN.heap.size, 0, none⟩) S.groups.length (oneL S.groups.length g)) := By.row (hro.set g _) _ S.groups.length (Nat.le_refl _) (oneL_len _ _) (by omega) (oneL_lt _ _) (fun i hi => one_cell hi))
    | (go_at_call 30; have hgo := ggoes_any HS.out HT.out HF.out; rw [hz] at hgo; refine hgo.mono ?_; rintro e wN ⟨rfl, hkN⟩; have hKN : Kept WA wN none := hkN; clear hgo))
  go_ret2
  exact ⟨by rw [← HEQ.out]; rfl, (HK.out.tr h6).tr hkL⟩

end Go.Proofs.YtkgimccffggfdaaDoor

/-
  THE CONTRACT of turn's Steps (made by a program).
-/
namespace Go.Proofs.YtkgimccffggfdaaDoor
open Go.RowKit Go.Lib Go.Deep
set_option linter.unusedVariables false
set_option linter.unusedSimpArgs false


theorem Box.set3t {w : World} {b : Nat} {v0 v1 v2 : Value} (h : Box w b v0 v1 v2) (x0 x1 x2 : Value) : Box (((w.setCell ⟨b, 0, none⟩ x0).setCell ⟨b, 1, none⟩ x1).setCell ⟨b, 2, none⟩ x2) b x0 x1 x2 := by
  have h1 : Box (w.setCell ⟨b, 0, none⟩ x0) b x0 v1 v2 := ⟨World.cell?_setCell_same _ _ _ h.c0, (World.cell?_setCell_other _ _ _ _ (by simp)).trans h.c1, (World.cell?_setCell_other _ _ _ _ (by simp)).trans h.c2, (World.frozen?_setCell ..).trans h.f0, (World.frozen?_setCell ..).trans h.f1, (World.frozen?_setCell ..).trans h.f2, by simpa [World.setCell] using h.lt⟩
  exact (h1.set1 x1).set2 x2
theorem next_got {X : Sa} {S : St} {w : World} {a : Option Addr} {c : Nat} {F : Sf} {al : Option Addr} {n cl : Nat} {L : List Nat} (h : Sat w X S) (hT : Tabb w) (hF : SafeAt w a c F) (hB : By w al n L) (hs : siteB S = true) (hm : mayS S F = true) (hz : faultV S F L = 0) : Calls Tryd.prog 36 #[siteV X S, .agg #[.slice a S.groups.length c, .int .i64 F.start, .bool F.flashed], .slice al n cl] w fun e w' => ∃ b, e = .returned (.tuple #[.agg #[.slice (some ⟨b, 0, none⟩) S.groups.length S.groups.length, .int .i64 (behindV S F L).start, .bool (behindV S F L).flashed], .int .u8 0, .int .i64 0]) ∧ w.heap.size ≤ b ∧ OwnG w' b S.groups.length (behindV S F L).g ∧ Kept w w' none := by
  have hfn := (mayS_parts hm).1
  have hl := fault_len hz
  have hx := next_go (cl := cl) h hT hF hB hs hm hz
  rw [safeV, hfn] at hx
  refine hx.mono ?_
  rintro e w' ⟨b, rfl, h1, h2, h3⟩
  refine ⟨b, by rw [safeV, behindV_len, hl], h1, h2.congr (fun q hq => ?_), h3⟩
  unfold gcell
  rw [behindV_g (by omega)]
theorem letV_ltt (S : St) (F : Sf) (A : List Nat) : ∀ x ∈ letV S F A, x < 256 := by
  intro x hx
  simp only [letV, List.mem_map] at hx
  obtain ⟨i, _, rfl⟩ := hx
  have := letF_rng S F A i
  omega
theorem askV_ltt (S : St) (p : Nat) : ∀ x ∈ askV S p, x < 256 := by
  intro x hx
  simp only [askV, List.mem_map] at hx
  obtain ⟨i, _, rfl⟩ := hx
  split <;> omega
theorem step_rngt (S : St) (p : Nat) (F : Sf) : ∀ s ∈ (stepT S p F).groups, s.asp < 256 ∧ i64B s.since ∧ i64B s.ended := fun s hs => by
  unfold stepT behindV at hs
  simp only [List.mem_map, List.mem_range] at hs
  obtain ⟨i, hi, rfl⟩ := hs
  exact sndV_rng _ _ (letV_ltt _ _ _ _ (lg_mem hi))
/-- What the ticks of a turn go by: the site's box, the standing's, what is asked. -/
structure Tn (w wr : World) (X : Sa) (S : St) (p bs bn ba bl : Nat) (G : Sf) : Prop where
  kp : Kept w wr none
  sb : Sbox wr bs X S
  bx : ∃ ag cg, Box wr bn (.slice ag S.groups.length cg) (.int .i64 G.start) (.bool G.flashed) ∧ SafeAt wr ag cg G ∧ ∀ b, ag = some b → b.block ≠ bn
  ask : wr.cell? ⟨ba, 0, none⟩ = some (.slice (some ⟨bl, 0, none⟩) S.groups.length S.groups.length)
  row : wr.rowIs bl 5 S.groups.length (fun i => .int .u8 ((lg (askV S p) i : Nat) : Int))
/-- The boxes are others than the standing's, which is new. -/
structure Td (w : World) (bs bn ba bl : Nat) : Prop where
  s : bs ≠ bn
  a : ba ≠ bn
  l : bl ≠ bn
  n : w.heap.size ≤ bn
theorem Tn.kept {w wr w' : World} {X : Sa} {S : St} {p bs bn ba bl : Nat} {G : Sf} (h : Tn w wr X S p bs bn ba bl G) (k : Kept wr w' none) : Tn w w' X S p bs bn ba bl G := by
  obtain ⟨ag, cg, hb, hs, hne⟩ := h.bx
  exact ⟨h.kp.tr k, h.sb.kept k, ⟨ag, cg, hb.kept k, hs.kept k, hne⟩, cell_kept0 h.ask k, row_kept h.row k (by simp)⟩
theorem Sbox.oth {w wr w' : World} {X : Sa} {S : St} {bs bn : Nat} (h0 : Sat w X S) (h : Sbox wr bs X S) (k : Kept w w' none) (q : Kept wr w' (some bn)) (hne : bs ≠ bn) : Sbox w' bs X S := by
  have hr : some bs ≠ some bn := fun e => hne (Option.some.inj e)
  exact ⟨cell_keptS h.c0 q hr, cell_keptS h.c1 q hr, cell_keptS h.c2 q hr, cell_keptS h.c3 q hr, cell_keptS h.c4 q hr, cell_keptS h.c5 q hr, cell_keptS h.c6 q hr, cell_keptS h.c7 q hr, cell_keptS h.c8 q hr, cell_keptS h.c9 q hr, cell_keptS h.c10 q hr, cell_keptS h.c11 q hr, h0.kept k⟩
theorem Tn.step {w wr w7 : World} {X : Sa} {S : St} {p bs bn ba bl b2 : Nat} {G G' : Sf} (h : Tn w wr X S p bs bn ba bl G) (d : Td w bs bn ba bl) (h0 : Sat w X S) (k : Kept wr w7 none) (ho : OwnG w7 b2 S.groups.length G'.g) (hb2 : wr.heap.size ≤ b2) (hl : G'.groups.length = S.groups.length) (hm : S.groups.length ≤ 100) (hr : ∀ s ∈ G'.groups, s.asp < 256 ∧ i64B s.since ∧ i64B s.ended) : Tn w (((w7.setCell ⟨bn, 0, none⟩ (.slice (some ⟨b2, 0, none⟩) S.groups.length S.groups.length)).setCell ⟨bn, 1, none⟩ (.int .i64 G'.start)).setCell ⟨bn, 2, none⟩ (.bool G'.flashed)) X S p bs bn ba bl G' := by
  obtain ⟨ag, cg, hb, hs, hne⟩ := h.bx
  have kn : Kept wr (((w7.setCell ⟨bn, 0, none⟩ (.slice (some ⟨b2, 0, none⟩) S.groups.length S.groups.length)).setCell ⟨bn, 1, none⟩ (.int .i64 G'.start)).setCell ⟨bn, 2, none⟩ (.bool G'.flashed)) (some bn) := (((k.weakS (some bn)).setRow _ _).setRow _ _).setRow _ _
  have kw := (((h.kp.tr k).setNew (p := ⟨bn, 0, none⟩) d.n (.slice (some ⟨b2, 0, none⟩) S.groups.length S.groups.length)).setNew (p := ⟨bn, 1, none⟩) d.n (.int .i64 G'.start)).setNew (p := ⟨bn, 2, none⟩) d.n (.bool G'.flashed)
  have h2 : b2 ≠ bn := by have := hb.lt; omega
  refine ⟨kw, Sbox.oth h0 h.sb kw kn d.s, ⟨some ⟨b2, 0, none⟩, S.groups.length, (hb.kept k).set3t _ _ _, ?_, fun b e => by injection e with e; subst e; exact h2⟩, cell_keptS h.ask kn (fun e => d.a (Option.some.inj e)), row_kept h.row kn (fun e => d.l (Option.some.inj e))⟩
  exact OwnG.safe (((World.rowIs.setOther ho (a := ⟨bn, 0, none⟩) h2 _).setOther (a := ⟨bn, 1, none⟩) h2 _).setOther (a := ⟨bn, 2, none⟩) h2 _) hl (fun _ _ => rfl) (by omega) hr
/-! ### Steps -/
def steE (S : St) (F : Sf) (p : Int) : Int := if goesE S F ≠ 0 then goesE S F else if phB S p = false then 2 else match stpO S F p.toNat with
  | some _ => 0
  | none => 4
def steV (S : St) (F : Sf) (p : Int) : Int := if goesE S F ≠ 0 then 0 else if phB S p = false then 0 else match stpO S F p.toNat with
  | some n => n
  | none => 0
theorem ste_go {S : St} {F : Sf} {p : Nat} (hz : goesE S F = 0) (hp : p < S.phases.length) {n : Nat} (h : stpO S F p = some n) : steE S F (p : Int) = 0 ∧ steV S F (p : Int) = n := by
  have hph : phB S (p : Int) = true := by unfold phB; simp; omega
  unfold steE steV
  rw [if_neg (by simp [hz]), if_neg (by rw [hph]; decide), if_neg (by simp [hz]), if_neg (by rw [hph]; decide), Int.toNat_natCast, h]
  exact ⟨rfl, rfl⟩
theorem ste_many {S : St} {F : Sf} {p : Nat} (hz : goesE S F = 0) (hp : p < S.phases.length) (h : stpO S F p = none) : steE S F (p : Int) = 4 ∧ steV S F (p : Int) = 0 := by
  have hph : phB S (p : Int) = true := by unfold phB; simp; omega
  unfold steE steV
  rw [if_neg (by simp [hz]), if_neg (by rw [hph]; decide), if_neg (by simp [hz]), if_neg (by rw [hph]; decide), Int.toNat_natCast, h]
  exact ⟨rfl, rfl⟩
theorem stpO_at {S : St} {F : Sf} {p k : Nat} (hk : k ≤ 4096) (h : ∀ j, j < k → fullB S (atT S p F j) p = false) (h1 : fullB S (atT S p F k) p = true) : stpO S F p = some k := firstN_some (by omega) (fun j hj => by rw [h j hj]; rfl) (by rw [h1]; decide)
theorem stpO_none {S : St} {F : Sf} {p : Nat} (h : ∀ j, j < 4097 → fullB S (atT S p F j) p = false) : stpO S F p = none := firstN_none (fun j hj => by rw [h j hj]; rfl)
end Go.Proofs.YtkgimccffggfdaaDoor

