/-
  THE CONTRACT of letThrough (made by a program).
-/
import Derived.Test.YtfhmfanmnhclfaaDoorGateA
import Derived.Laws.EntriesVeiled
namespace Go.Proofs.YtfhmfanmnhclfaaDoor
open Go.RowKit Go.Lib Go.Deep
set_option linter.unusedVariables false
set_option linter.unusedSimpArgs false

/-- What the passes go by: the boxes of the call, and the lights' own row. -/
structure Gl (w wr : World) (B n bs bl bn bb bf off c g : Nat) (F : Sf) (f : Nat → Nat) : Prop where
  k : Kept w wr none
  ps : wr.cell? ⟨bs, 0, none⟩ = some (.pointer (some ⟨B, 0, none⟩))
  pl : wr.cell? ⟨bl, 0, none⟩ = some (.slice (some ⟨g, 0, none⟩) n n)
  bx : Box wr bn (.slice (some ⟨bf, off, none⟩) n c) (.int .i64 F.start) (.bool F.flashed)
  pb : wr.cell? ⟨bb, 0, none⟩ = some (.func (.func 83) #[] #[.pointer (some ⟨bs, 0, none⟩), .pointer (some ⟨bl, 0, none⟩), .pointer (some ⟨bn, 0, none⟩)])
  row : wr.rowIs g 5 n (fun i => .int .u8 ((f i : Nat) : Int))
/-- The row's block is one of its own. -/
structure Gn (w : World) (bs bl bn bb g : Nat) : Prop where
  new : w.heap.size ≤ g
  s : bs ≠ g
  l : bl ≠ g
  n : bn ≠ g
  b : bb ≠ g
theorem Gl.kept {w wr w' : World} {B n bs bl bn bb bf off c g : Nat} {F : Sf} {f : Nat → Nat} (h : Gl w wr B n bs bl bn bb bf off c g F f) (k : Kept wr w' none) : Gl w w' B n bs bl bn bb bf off c g F f :=
  ⟨h.k.tr k, cell_kept0 h.ps k, cell_kept0 h.pl k, h.bx.kept k, cell_kept0 h.pb k, row_kept h.row k (by simp)⟩
theorem Gl.congr {w wr : World} {B n bs bl bn bb bf off c g : Nat} {F : Sf} {f f' : Nat → Nat} (h : Gl w wr B n bs bl bn bb bf off c g F f) (e : ∀ i, i < n → f i = f' i) : Gl w wr B n bs bl bn bb bf off c g F f' :=
  ⟨h.k, h.ps, h.pl, h.bx, h.pb, h.row.congr (fun i hi => by rw [e i hi])⟩
theorem Gl.set {w wr : World} {B n bs bl bn bb bf off c g : Nat} {F : Sf} {f : Nat → Nat} (h : Gl w wr B n bs bl bn bb bf off c g F f) (q : Gn w bs bl bn bb g) (k x : Nat) : Gl w (wr.setCell ⟨g, k, none⟩ (.int .u8 (x : Int))) B n bs bl bn bb bf off c g F (fun i => if i = k then x else f i) := by
  have oth : ∀ b, b ≠ g → ∀ v, wr.cell? ⟨b, 0, none⟩ = some v → (wr.setCell ⟨g, k, none⟩ (.int .u8 (x : Int))).cell? ⟨b, 0, none⟩ = some v := fun b hb v e => (World.cell?_setCell_other _ _ _ _ (by simp [hb])).trans e
  refine ⟨h.k.setNew q.new _, oth _ q.s _ h.ps, oth _ q.l _ h.pl, h.bx.other (fun e => q.n e.symm) _, oth _ q.b _ h.pb, (h.row.set k _).congr (fun i hi => ?_)⟩
  show (if i = k then _ else _) = _
  split <;> simp_all
theorem Gl.gt {w wr : World} {B : Nat} {X : Sa} {S : St} {bs bl bn bb bf off c g : Nat} {F : Sf} {f : Nat → Nat} (h : Gl w wr B S.groups.length bs bl bn bb bf off c g F f) (hs : Sbox w B X S) (hc : ∀ i, i < S.groups.length → ∀ j, j < 3 → w.cell? ⟨bf, off + i * 3 + j, none⟩ = some (snV (F.g i) j)) (h1 : S.groups.length ≤ c) (h2 : c ≤ 9223372036854775807) : Gt wr B X S bs bl bn bf off c g F f :=
  ⟨h.ps, h.pl, h.bx, hs.kept h.k, fun i hi j hj => cell_kept0 (hc i hi j hj) h.k, h.row, h1, h2⟩
theorem alloc_at9 (F : World) (cs : Array Value) (t : TypeId) {n j : Nat} {v : Value} (hz : F.heap.size = n) (hv : cs[j]? = some v) : (F.alloc (.cells cs t)).cell? ⟨n, j, none⟩ = some v := by
  subst hz
  simp only [World.cell?_alloc_mark]
  exact hv
def mixF (k : Nat) (f : Nat → Nat) (i : Nat) : Nat := if i < k then f i else 1
theorem mixF_set {k : Nat} {f : Nat → Nat} : (fun i => if i = k then f k else mixF k f i) = mixF (k + 1) f := by
  funext i
  unfold mixF
  by_cases h : i = k
  · subst h; simp
  · rw [if_neg h]
    by_cases h2 : i < k
    · rw [if_pos h2, if_pos (by omega)]
    · rw [if_neg h2, if_neg (by omega)]
set_option maxRecDepth 100000 in
set_option maxHeartbeats 2000000 in
theorem glet_flash {w : World} {B : Nat} {X : Sa} {S : St} {a : Option Addr} {c : Nat} {F : Sf} {al : Option Addr} {n cl : Nat} {L : List Nat} (h : Sbox w B X S) (hSh : Shape S) (hF : SafeAt w a c F) (hf : F.groups.length = S.groups.length) (hB : By w al n L) (hn : n = S.groups.length) (h4 : allIs L 4 = true) : Calls Tryd.prog 47 #[.pointer (some ⟨B, 0, none⟩), safeV a c F, .slice al n cl] w fun e w' => ∃ b, e = .returned (.slice (some ⟨b, 0, none⟩) S.groups.length S.groups.length) ∧ w.heap.size ≤ b ∧ w'.rowIs b 5 S.groups.length (fun i => .int .u8 ((letF S F L i : Nat) : Int)) ∧ Kept w w' none := by
  subst hn
  have hng := hSh.ok.ng
  obtain ⟨bf, off, rfl, hbf, hcf⟩ := hF.lie.at_ (by omega)
  have hFr : S.groups.length ≤ c := by have := hF.cap.room; omega
  have hFm := hF.cap.max
  have hBm := hB.max
  have k1 : Kept w (w.alloc (.cells #[.pointer (some ⟨B, 0, none⟩)] 72)) none := Kept.alloc _ _ _ _ _
  have k2 : Kept (w.alloc (.cells #[.pointer (some ⟨B, 0, none⟩)] 72)) ((w.alloc (.cells #[.pointer (some ⟨B, 0, none⟩)] 72)).alloc (.cells #[.slice (some ⟨bf, off, none⟩) S.groups.length c, .int .i64 F.start, .bool F.flashed] 61)) none := Kept.alloc _ _ _ _ _
  have bn := box_alloc (w.alloc (.cells #[.pointer (some ⟨B, 0, none⟩)] 72)) (.slice (some ⟨bf, off, none⟩) S.groups.length c) (.int .i64 F.start) (.bool F.flashed) 61
  have ps : ((w.alloc (.cells #[.pointer (some ⟨B, 0, none⟩)] 72)).alloc (.cells #[.slice (some ⟨bf, off, none⟩) S.groups.length c, .int .i64 F.start, .bool F.flashed] 61)).cell? ⟨w.heap.size, 0, none⟩ = some (.pointer (some ⟨B, 0, none⟩)) := cell_kept0 (by simp [World.cell?_alloc_mark]) k2
  rw [World.size_alloc] at bn
  have hsz : ((w.alloc (.cells #[.pointer (some ⟨B, 0, none⟩)] 72)).alloc (.cells #[.slice (some ⟨bf, off, none⟩) S.groups.length c, .int .i64 F.start, .bool F.flashed] 61)).heap.size = w.heap.size + 1 + 1 := by simp
  have hkA := k1.tr k2
  obtain ⟨WA, hWA⟩ : ∃ WA, ((w.alloc (.cells #[.pointer (some ⟨B, 0, none⟩)] 72)).alloc (.cells #[.slice (some ⟨bf, off, none⟩) S.groups.length c, .int .i64 F.start, .bool F.flashed] 61)) = WA := ⟨_, rfl⟩
  rw [hWA] at bn ps hsz hkA
  have HBN := Hid.mk' bn
  have HPS := Hid.mk' ps
  have HSZ := Hid.mk' hsz
  have HK := Hid.mk' hkA
  have HB := Hid.mk' (hB.kept hkA)
  have HB0 := Hid.mk' hB
  have HSB := Hid.mk' h
  have HSH := Hid.mk' hSh
  have HCF : Hid (∀ i, i < S.groups.length → ∀ j, j < 3 → w.cell? ⟨bf, off + i * 3 + j, none⟩ = some (snV (F.g i) j)) := fun i hi j hj => hcf i (by omega) j hj
  have HLN := Hid.mk' hB.size
  have n1_ : ∀ w', Kept WA w' none → w'.cell? ⟨w.heap.size + 1, 1, none⟩ = some (.int .i64 F.start) := fun w' q => (HBN.out.kept q).c1
  have n2_ : ∀ w', Kept WA w' none → w'.cell? ⟨w.heap.size + 1, 2, none⟩ = some (.bool F.flashed) := fun w' q => (HBN.out.kept q).c2
  have hn16 : S.groups.length ≤ 100 := by omega
  rw [show safeV (some ⟨bf, off, none⟩) c F = .agg #[.slice (some ⟨bf, off, none⟩) S.groups.length c, .int .i64 F.start, .bool F.flashed] by rw [safeV, hf]]
  clear h hSh hF hf hB k1 k2 bn ps hsz hkA hcf
  have HV : Hid (∀ i, letF S F L i = 4) := fun i => by unfold letF; rw [if_pos h4]
  have hall := gall_any (c := cl) HB.out 4
  rw [h4] at hall
  have HALL := Hid.mk' hall
  clear hall h4
  go_enter Tryd.func47, Tryd.ntmps47
  go_wp2_with (first | rw [hWA] | (go_at_call 82; refine (gallOf_any 4 S.groups.length hn16).mono ?_; rintro e wO ⟨rfl, hro, hkO⟩; have hKO : Kept WA wO none := Kept.tr hKA hkO) | (go_at_call 81; refine HALL.out.mono ?_; rintro e wA ⟨rfl, hkA⟩; have hKA : Kept WA wA none := hkA))
  go_ret
  exact ⟨wA.heap.size, ⟨rfl, Nat.le_trans HK.out.size hKA.size, hro.congr (fun i hi => by rw [HV.out i]; try rfl), HK.out.tr hKO⟩⟩
set_option maxRecDepth 100000 in
set_option maxHeartbeats 2000000 in
theorem glet_stay {w : World} {B : Nat} {X : Sa} {S : St} {a : Option Addr} {c : Nat} {F : Sf} {al : Option Addr} {n cl : Nat} {L : List Nat} (h : Sbox w B X S) (hSh : Shape S) (hF : SafeAt w a c F) (hf : F.groups.length = S.groups.length) (hB : By w al n L) (hn : n = S.groups.length) (h4 : allIs L 4 = false) (hs : F.flashed = true ∨ 0 < F.start) : Calls Tryd.prog 47 #[.pointer (some ⟨B, 0, none⟩), safeV a c F, .slice al n cl] w fun e w' => ∃ b, e = .returned (.slice (some ⟨b, 0, none⟩) S.groups.length S.groups.length) ∧ w.heap.size ≤ b ∧ w'.rowIs b 5 S.groups.length (fun i => .int .u8 ((letF S F L i : Nat) : Int)) ∧ Kept w w' none := by
  subst hn
  have hng := hSh.ok.ng
  obtain ⟨bf, off, rfl, hbf, hcf⟩ := hF.lie.at_ (by omega)
  have hFr : S.groups.length ≤ c := by have := hF.cap.room; omega
  have hFm := hF.cap.max
  have hBm := hB.max
  have k1 : Kept w (w.alloc (.cells #[.pointer (some ⟨B, 0, none⟩)] 72)) none := Kept.alloc _ _ _ _ _
  have k2 : Kept (w.alloc (.cells #[.pointer (some ⟨B, 0, none⟩)] 72)) ((w.alloc (.cells #[.pointer (some ⟨B, 0, none⟩)] 72)).alloc (.cells #[.slice (some ⟨bf, off, none⟩) S.groups.length c, .int .i64 F.start, .bool F.flashed] 61)) none := Kept.alloc _ _ _ _ _
  have bn := box_alloc (w.alloc (.cells #[.pointer (some ⟨B, 0, none⟩)] 72)) (.slice (some ⟨bf, off, none⟩) S.groups.length c) (.int .i64 F.start) (.bool F.flashed) 61
  have ps : ((w.alloc (.cells #[.pointer (some ⟨B, 0, none⟩)] 72)).alloc (.cells #[.slice (some ⟨bf, off, none⟩) S.groups.length c, .int .i64 F.start, .bool F.flashed] 61)).cell? ⟨w.heap.size, 0, none⟩ = some (.pointer (some ⟨B, 0, none⟩)) := cell_kept0 (by simp [World.cell?_alloc_mark]) k2
  rw [World.size_alloc] at bn
  have hsz : ((w.alloc (.cells #[.pointer (some ⟨B, 0, none⟩)] 72)).alloc (.cells #[.slice (some ⟨bf, off, none⟩) S.groups.length c, .int .i64 F.start, .bool F.flashed] 61)).heap.size = w.heap.size + 1 + 1 := by simp
  have hkA := k1.tr k2
  obtain ⟨WA, hWA⟩ : ∃ WA, ((w.alloc (.cells #[.pointer (some ⟨B, 0, none⟩)] 72)).alloc (.cells #[.slice (some ⟨bf, off, none⟩) S.groups.length c, .int .i64 F.start, .bool F.flashed] 61)) = WA := ⟨_, rfl⟩
  rw [hWA] at bn ps hsz hkA
  have HBN := Hid.mk' bn
  have HPS := Hid.mk' ps
  have HSZ := Hid.mk' hsz
  have HK := Hid.mk' hkA
  have HB := Hid.mk' (hB.kept hkA)
  have HB0 := Hid.mk' hB
  have HSB := Hid.mk' h
  have HSH := Hid.mk' hSh
  have HCF : Hid (∀ i, i < S.groups.length → ∀ j, j < 3 → w.cell? ⟨bf, off + i * 3 + j, none⟩ = some (snV (F.g i) j)) := fun i hi j hj => hcf i (by omega) j hj
  have HLN := Hid.mk' hB.size
  have n1_ : ∀ w', Kept WA w' none → w'.cell? ⟨w.heap.size + 1, 1, none⟩ = some (.int .i64 F.start) := fun w' q => (HBN.out.kept q).c1
  have n2_ : ∀ w', Kept WA w' none → w'.cell? ⟨w.heap.size + 1, 2, none⟩ = some (.bool F.flashed) := fun w' q => (HBN.out.kept q).c2
  have hn16 : S.groups.length ≤ 100 := by omega
  rw [show safeV (some ⟨bf, off, none⟩) c F = .agg #[.slice (some ⟨bf, off, none⟩) S.groups.length c, .int .i64 F.start, .bool F.flashed] by rw [safeV, hf]]
  clear h hSh hF hf hB k1 k2 bn ps hsz hkA hcf
  have HV : Hid (∀ i, letF S F L i = 1) := fun i => by unfold letF; rw [if_neg (by rw [h4]; decide), if_pos hs]
  have hall := gall_any (c := cl) HB.out 4
  rw [h4] at hall
  have HALL := Hid.mk' hall
  clear hall h4
  obtain ⟨G, st, fl⟩ := F
  dsimp only at hs n1_ n2_
  cases fl with
  | true =>
    go_enter Tryd.func47, Tryd.ntmps47
    go_wp2_with (first | rw [hWA] | (go_at_call 82; refine (gallOf_any 1 S.groups.length hn16).mono ?_; rintro e wO ⟨rfl, hro, hkO⟩; have hKO : Kept WA wO none := Kept.tr hKA hkO; have kL : Kept wO (wO.alloc (.cells #[.slice (some ⟨wA.heap.size, 0, none⟩) S.groups.length S.groups.length] 64)) none := Kept.alloc _ _ _ _ _; have m0 := (HBN.out.kept (hKO.tr kL)).c0; have m1 := n1_ _ (hKO.tr kL); have m2 := n2_ _ (hKO.tr kL)) | (go_at_call 81; refine HALL.out.mono ?_; rintro e wA ⟨rfl, hkA⟩; have hKA : Kept WA wA none := hkA))
    go_ret
    exact ⟨wA.heap.size, ⟨rfl, Nat.le_trans HK.out.size hKA.size, row_kept (hro.congr (fun i hi => by rw [HV.out i]; try rfl)) kL (by simp), HK.out.tr (hKO.tr kL)⟩⟩
  | false =>
    have hs : 0 < st := by simpa using hs
    go_enter Tryd.func47, Tryd.ntmps47
    go_wp2_with (first | rw [hWA] | (go_at_call 82; refine (gallOf_any 1 S.groups.length hn16).mono ?_; rintro e wO ⟨rfl, hro, hkO⟩; have hKO : Kept WA wO none := Kept.tr hKA hkO; have kL : Kept wO (wO.alloc (.cells #[.slice (some ⟨wA.heap.size, 0, none⟩) S.groups.length S.groups.length] 64)) none := Kept.alloc _ _ _ _ _; have m0 := (HBN.out.kept (hKO.tr kL)).c0; have m1 := n1_ _ (hKO.tr kL); have m2 := n2_ _ (hKO.tr kL)) | (go_at_call 81; refine HALL.out.mono ?_; rintro e wA ⟨rfl, hkA⟩; have hKA : Kept WA wA none := hkA))
    go_ret
    exact ⟨wA.heap.size, ⟨rfl, Nat.le_trans HK.out.size hKA.size, row_kept (hro.congr (fun i hi => by rw [HV.out i]; try rfl)) kL (by simp), HK.out.tr (hKO.tr kL)⟩⟩
set_option maxRecDepth 100000 in
set_option maxHeartbeats 4000000 in
theorem glet_go {w : World} {B : Nat} {X : Sa} {S : St} {a : Option Addr} {c : Nat} {F : Sf} {al : Option Addr} {n cl : Nat} {L : List Nat} (h : Sbox w B X S) (hSh : Shape S) (hF : SafeAt w a c F) (hf : F.groups.length = S.groups.length) (hB : By w al n L) (hn : n = S.groups.length) (h4 : allIs L 4 = false) (hs0 : F.flashed = false) (hs1 : ¬ 0 < F.start) : Calls Tryd.prog 47 #[.pointer (some ⟨B, 0, none⟩), safeV a c F, .slice al n cl] w fun e w' => ∃ b, e = .returned (.slice (some ⟨b, 0, none⟩) S.groups.length S.groups.length) ∧ w.heap.size ≤ b ∧ w'.rowIs b 5 S.groups.length (fun i => .int .u8 ((letF S F L i : Nat) : Int)) ∧ Kept w w' none := by
  subst hn
  have hng := hSh.ok.ng
  obtain ⟨bf, off, rfl, hbf, hcf⟩ := hF.lie.at_ (by omega)
  have hFr : S.groups.length ≤ c := by have := hF.cap.room; omega
  have hFm := hF.cap.max
  have hBm := hB.max
  have k1 : Kept w (w.alloc (.cells #[.pointer (some ⟨B, 0, none⟩)] 72)) none := Kept.alloc _ _ _ _ _
  have k2 : Kept (w.alloc (.cells #[.pointer (some ⟨B, 0, none⟩)] 72)) ((w.alloc (.cells #[.pointer (some ⟨B, 0, none⟩)] 72)).alloc (.cells #[.slice (some ⟨bf, off, none⟩) S.groups.length c, .int .i64 F.start, .bool F.flashed] 61)) none := Kept.alloc _ _ _ _ _
  have bn := box_alloc (w.alloc (.cells #[.pointer (some ⟨B, 0, none⟩)] 72)) (.slice (some ⟨bf, off, none⟩) S.groups.length c) (.int .i64 F.start) (.bool F.flashed) 61
  have ps : ((w.alloc (.cells #[.pointer (some ⟨B, 0, none⟩)] 72)).alloc (.cells #[.slice (some ⟨bf, off, none⟩) S.groups.length c, .int .i64 F.start, .bool F.flashed] 61)).cell? ⟨w.heap.size, 0, none⟩ = some (.pointer (some ⟨B, 0, none⟩)) := cell_kept0 (by simp [World.cell?_alloc_mark]) k2
  rw [World.size_alloc] at bn
  have hsz : ((w.alloc (.cells #[.pointer (some ⟨B, 0, none⟩)] 72)).alloc (.cells #[.slice (some ⟨bf, off, none⟩) S.groups.length c, .int .i64 F.start, .bool F.flashed] 61)).heap.size = w.heap.size + 1 + 1 := by simp
  have hkA := k1.tr k2
  obtain ⟨WA, hWA⟩ : ∃ WA, ((w.alloc (.cells #[.pointer (some ⟨B, 0, none⟩)] 72)).alloc (.cells #[.slice (some ⟨bf, off, none⟩) S.groups.length c, .int .i64 F.start, .bool F.flashed] 61)) = WA := ⟨_, rfl⟩
  rw [hWA] at bn ps hsz hkA
  have HBN := Hid.mk' bn
  have HPS := Hid.mk' ps
  have HSZ := Hid.mk' hsz
  have HK := Hid.mk' hkA
  have HB := Hid.mk' (hB.kept hkA)
  have HB0 := Hid.mk' hB
  have HSB := Hid.mk' h
  have HSH := Hid.mk' hSh
  have HCF : Hid (∀ i, i < S.groups.length → ∀ j, j < 3 → w.cell? ⟨bf, off + i * 3 + j, none⟩ = some (snV (F.g i) j)) := fun i hi j hj => hcf i (by omega) j hj
  have HLN := Hid.mk' hB.size
  have n1_ : ∀ w', Kept WA w' none → w'.cell? ⟨w.heap.size + 1, 1, none⟩ = some (.int .i64 F.start) := fun w' q => (HBN.out.kept q).c1
  have n2_ : ∀ w', Kept WA w' none → w'.cell? ⟨w.heap.size + 1, 2, none⟩ = some (.bool F.flashed) := fun w' q => (HBN.out.kept q).c2
  have hn16 : S.groups.length ≤ 100 := by omega
  rw [show safeV (some ⟨bf, off, none⟩) c F = .agg #[.slice (some ⟨bf, off, none⟩) S.groups.length c, .int .i64 F.start, .bool F.flashed] by rw [safeV, hf]]
  clear h hSh hF hf hB k1 k2 bn ps hsz hkA hcf
  have HV : Hid (∀ i, letF S F L i = p2F S F L S.groups.length S.groups.length i) := fun i => by unfold letF; rw [if_neg (by rw [h4]; decide), if_neg (by rw [hs0]; simp only [Bool.false_eq_true, false_or]; exact hs1), HLN.out]
  have hall := gall_any (c := cl) HB.out 4
  rw [h4] at hall
  have HALL := Hid.mk' hall
  clear hall h4
  have hsb : decide (0 < F.start) = false := by simp; omega
  rw [hs0] at hWA HBN n2_ ⊢
  have HS0 := Hid.mk' hs0
  have HBL := Hid.mk' HSB.out.lt
  have hnz : 0 < S.groups.length := by omega
  clear hs0
  go_enter Tryd.func47, Tryd.ntmps47
  go_wp2_with (first | rw [hWA] | (go_at_call 82; refine (gallOf_any 1 S.groups.length hn16).mono ?_; rintro e wO ⟨rfl, hro, hkO⟩; have hKO : Kept WA wO none := Kept.tr hKA hkO; have kL : Kept wO (wO.alloc (.cells #[.slice (some ⟨wA.heap.size, 0, none⟩) S.groups.length S.groups.length] 64)) none := Kept.alloc _ _ _ _ _; have m1 := n1_ _ (hKO.tr kL); have m2 := n2_ _ (hKO.tr kL); have kM : Kept (wO.alloc (.cells #[.slice (some ⟨wA.heap.size, 0, none⟩) S.groups.length S.groups.length] 64)) ((wO.alloc (.cells #[.slice (some ⟨wA.heap.size, 0, none⟩) S.groups.length S.groups.length] 64)).alloc (.cells #[.func (.func 83) #[] #[.pointer (some ⟨w.heap.size, 0, none⟩), .pointer (some ⟨wO.heap.size, 0, none⟩), .pointer (some ⟨w.heap.size + 1, 0, none⟩)]] 122)) none := Kept.alloc _ _ _ _ _; have m0 := (HBN.out.kept ((hKO.tr kL).tr kM)).c0) | (go_at_call 81; refine HALL.out.mono ?_; rintro e wA ⟨rfl, hkA⟩; have hKA : Kept WA wA none := hkA))
  have hgz := hro.lt
  have hwz := hKA.size
  have hoz := hkO.size
  rw [HSZ.out] at hwz
  obtain ⟨W5, hW5⟩ : ∃ W5, ((wO.alloc (.cells #[.slice (some ⟨wA.heap.size, 0, none⟩) S.groups.length S.groups.length] 64)).alloc (.cells #[.func (.func 83) #[] #[.pointer (some ⟨w.heap.size, 0, none⟩), .pointer (some ⟨wO.heap.size, 0, none⟩), .pointer (some ⟨w.heap.size + 1, 0, none⟩)]] 122)) = W5 := ⟨_, rfl⟩
  have hsz5 : ((wO.alloc (.cells #[.slice (some ⟨wA.heap.size, 0, none⟩) S.groups.length S.groups.length] 64)).alloc (.cells #[.func (.func 83) #[] #[.pointer (some ⟨w.heap.size, 0, none⟩), .pointer (some ⟨wO.heap.size, 0, none⟩), .pointer (some ⟨w.heap.size + 1, 0, none⟩)]] 122)).heap.size = wO.heap.size + 1 + 1 := by simp
  have cL : (wO.alloc (.cells #[.slice (some ⟨wA.heap.size, 0, none⟩) S.groups.length S.groups.length] 64)).cell? ⟨wO.heap.size, 0, none⟩ = some (.slice (some ⟨wA.heap.size, 0, none⟩) S.groups.length S.groups.length) := by simp [World.cell?_alloc_mark]
  have cB : ((wO.alloc (.cells #[.slice (some ⟨wA.heap.size, 0, none⟩) S.groups.length S.groups.length] 64)).alloc (.cells #[.func (.func 83) #[] #[.pointer (some ⟨w.heap.size, 0, none⟩), .pointer (some ⟨wO.heap.size, 0, none⟩), .pointer (some ⟨w.heap.size + 1, 0, none⟩)]] 122)).cell? ⟨wO.heap.size + 1, 0, none⟩ = some (.func (.func 83) #[] #[.pointer (some ⟨w.heap.size, 0, none⟩), .pointer (some ⟨wO.heap.size, 0, none⟩), .pointer (some ⟨w.heap.size + 1, 0, none⟩)]) := alloc_at9 _ _ _ (by simp) rfl
  have cL2 := cell_kept0 cL kM
  rw [hW5] at cB cL2 kM hsz5 ⊢
  have k5 : Kept WA W5 none := (hKO.tr kL).tr kM
  have hGL : Gl w W5 B S.groups.length w.heap.size wO.heap.size (w.heap.size + 1) (wO.heap.size + 1) bf off c wA.heap.size F (mixF 0 (w1F S F L)) :=
    ⟨HK.out.tr k5, cell_kept0 HPS.out k5, cL2, by rw [HS0.out]; exact HBN.out.kept k5, cB, (row_kept hro (kL.tr kM) (by simp)).congr (fun i hi => by unfold mixF; rw [if_neg (by omega)]; try rfl)⟩
  have HNE : Hid (Gn w w.heap.size wO.heap.size (w.heap.size + 1) (wO.heap.size + 1) wA.heap.size) := ⟨by omega, by omega, by omega, by omega, by omega⟩
  have HGL := Hid.mk' hGL
  have hb1 : w.heap.size < W5.heap.size := by omega
  clear hW5 cB cL cL2 kM kL hsz5 k5 hGL m0 m1 m2 n1_ n2_ hro hkO hkA hKA hKO
  generalize wO.heap.size = bl at *
  generalize wA.heap.size = g at *
  go_loopw [10, 11, 35] (fun _ _ i wr => ∃ k : Nat, k ≤ S.groups.length ∧ i = .int .i64 k ∧ Gl w wr B S.groups.length w.heap.size bl (w.heap.size + 1) (bl + 1) bf off c g F (mixF k (w1F S F L))) (fun _ _ i _ => S.groups.length - (intOf i).toNat)
  case atStart => exact ⟨0, by omega, rfl, HGL.out⟩
  case round =>
    obtain ⟨k, hk, rfl, hgl⟩ := hrel
    have HG := Hid.mk' hgl
    by_cases hlt : k < S.groups.length
    · have q0 := cell_kept0 (HCF.out k hlt 0 (by omega)) hgl.k
      have q1 := cell_kept0 (HCF.out k hlt 1 (by omega)) hgl.k
      have q2 := cell_kept0 (HCF.out k hlt 2 (by omega)) hgl.k
      simp only [snV, Nat.add_zero] at q0 q1 q2
      have hbq := block_lt q0
      have HASP : Hid ((F.g k).asp = 1 → w1F S F L k = 1) := fun e => by unfold w1F; rw [if_pos e]
      have HWI0 : Hid ((F.g k).asp ≠ 1 → ((w1F S F L k : Nat) : Int) = wantV (S.gr k).min (S.gr k).yellow (F.g k).asp (F.g k).since (lg L k)) := fun e => by unfold w1F; rw [if_neg e]; exact wantN_int S F L k
      have HMX : Hid (mixF (k + 1) (w1F S F L) = fun i => if i = k then w1F S F L k else mixF k (w1F S F L) i) := mixF_set.symm
      have HMK : Hid (mixF k (w1F S F L) k = 1) := by show _ = _; unfold mixF; rw [if_neg (by omega)]
      generalize F.g k = N at *
      by_cases h1 : N.asp = 1
      · have HW := Hid.mk' (HASP.out h1)
        rw [h1] at q0
        clear hgl h1
        go_wp2
        go_roundw
        case rel =>
          refine ⟨k + 1, by omega, by go_num, (HG.out.kept (Kept.alloc _ _ _ _ _)).congr (fun i hi => ?_)⟩
          rw [HMX.out]
          show mixF k (w1F S F L) i = if i = k then w1F S F L k else mixF k (w1F S F L) i
          by_cases e : i = k
          · subst e; rw [if_pos rfl, HW.out, HMK.out]
          · rw [if_neg e]
        case measure => simp [intOf]; omega
      · have h1b : ((N.asp : Int) != 1) = true := by simp; omega
        have HWI := Hid.mk' (HWI0.out h1)
        obtain ⟨bg, og, eg, g0, g1, g2⟩ := (HSB.out.kept hgl.k).sat.grAt hlt
        obtain ⟨ba, oa, rfl, hba, hca⟩ := HB0.out.at_ (by omega)
        have l0 := cell_kept0 (hca k hlt) hgl.k
        rw [show L.getD k 0 = lg L k from rfl] at l0
        have hgc := HSB.out.sat.gk.room
        have hgm := HSB.out.sat.gk.max
        have c1 := (HSB.out.kept hgl.k).c1
        rw [eg] at c1
        generalize S.gr k = G at *
        generalize lg L k = y at *
        generalize w1F S F L k = v at *
        clear h1 HASP HWI0 hca
        go_wp2
        obtain ⟨W1, hW1⟩ : ∃ W1, wr.alloc (.cells #[.int .u8 (N.asp : Int), .int .i64 N.since, .int .i64 N.ended] 95) = W1 := ⟨_, rfl⟩
        have bs1 := box_alloc wr (.int .u8 (N.asp : Int)) (.int .i64 N.since) (.int .i64 N.ended) 95
        have k01 : Kept wr W1 none := by rw [← hW1]; exact Kept.alloc _ _ _ _ _
        rw [hW1] at bs1 ⊢
        have hg1 := hgl.kept k01
        have HG1 := Hid.mk' hg1
        have hne := HNE.out
        have hgr := hgl.row.lt
        have hgw := hgl.k.size
        have e0 : ∀ w', Kept W1 w' (some g) → w'.cell? ⟨wr.heap.size, 0, none⟩ = some (.int .u8 (N.asp : Int)) := fun w' q => cell_keptS bs1.c0 q (by intro e; have := Option.some.inj e; omega)
        have e1 : ∀ w', Kept W1 w' (some g) → w'.cell? ⟨wr.heap.size, 1, none⟩ = some (.int .i64 N.since) := fun w' q => cell_keptS bs1.c1 q (by intro e; have := Option.some.inj e; omega)
        have e2 : ∀ w', Kept W1 w' (some g) → w'.cell? ⟨wr.heap.size, 2, none⟩ = some (.int .i64 N.ended) := fun w' q => cell_keptS bs1.c2 q (by intro e; have := Option.some.inj e; omega)
        have x0 : ∀ w', Kept W1 w' (some g) → w'.cell? ⟨bl, 0, none⟩ = some (.slice (some ⟨g, 0, none⟩) S.groups.length S.groups.length) := fun w' q => cell_keptS hg1.pl q (by intro e; exact hne.l (Option.some.inj e))
        have x1 : ∀ w', Kept W1 w' (some g) → w'.cell? ⟨w.heap.size, 0, none⟩ = some (.pointer (some ⟨B, 0, none⟩)) := fun w' q => cell_keptS hg1.ps q (by intro e; exact hne.s (Option.some.inj e))
        have x2 : ∀ w', Kept W1 w' (some g) → w'.cell? ⟨B, 1, none⟩ = some (.slice (some ⟨bg, og, none⟩) S.groups.length X.gc) := fun w' q => cell_keptS (cell_kept0 c1 k01) q (by intro e; have := Option.some.inj e; have := HBL.out; have := hne.new; omega)
        have hbg : bg < w.heap.size := by
          obtain ⟨b', o', e', hb', _⟩ := HSB.out.sat.g.at_ hnz
          rw [eg] at e'
          injection e' with e'
          injection e' with e1' e2'
          omega
        have x3 : ∀ w', Kept W1 w' (some g) → w'.cell? ⟨bg, og + k * 3, none⟩ = some (.int .u8 (G.kind : Int)) := fun w' q => cell_keptS (cell_kept0 g0 k01) q (by intro e; have := Option.some.inj e; have := hne.new; omega)
        have x4 : ∀ w', Kept W1 w' (some g) → w'.cell? ⟨bg, og + k * 3 + 1, none⟩ = some (.int .i64 G.min) := fun w' q => cell_keptS (cell_kept0 g1 k01) q (by intro e; have := Option.some.inj e; have := hne.new; omega)
        have x5 : ∀ w', Kept W1 w' (some g) → w'.cell? ⟨bg, og + k * 3 + 2, none⟩ = some (.int .i64 G.yellow) := fun w' q => cell_keptS (cell_kept0 g2 k01) q (by intro e; have := Option.some.inj e; have := hne.new; omega)
        have x6 : ∀ w', Kept W1 w' (some g) → w'.cell? ⟨ba, oa + k, none⟩ = some (.int .u8 (y : Int)) := fun w' q => cell_keptS (cell_kept0 l0 k01) q (by intro e; have := Option.some.inj e; have := hne.new; omega)
        clear hW1 bs1 k01 hgl hg1 q0 q1 q2 g0 g1 g2 l0 c1 eg hne hgr hgw hbg
        refine Code.wp_mono (Q := Rs ?A (fun w' => Gl w w' B S.groups.length w.heap.size bl (w.heap.size + 1) (bl + 1) bf off c g F (fun i => if i = k then v else mixF k (w1F S F L) i))) ?cont ?reg
        case reg =>
          repeat (rename_i hh; clear hh)
          refine wp_region_held_drew (S := fun w' => Kept W1 w' (some g)) (by kernel_rfl) (Kept.drew _ _) (fun hHeld => ?_)
          refine held_take (i := 0) (v := ?v1) rfl rfl (by kernel_rfl) (by kernel_rfl) (by kernel_rfl) (fun _ _ _ h => h) (Or.inl ⟨by rfl, ?hy1⟩) hHeld ?rest1
          case hy1 => first | (intro w hSw; (try dsimp only at hSw); go_simp; done) | (intro w hSw; (try dsimp only at hSw); go_simp; with_reducible rfl)
          try simp only [List.setIfInBounds_toArray, List.set_cons_zero, List.set_cons_succ]
          refine held_take (i := 1) (v := ?v2) rfl rfl (by kernel_rfl) (by kernel_rfl) (by kernel_rfl) (fun _ _ _ h => h) (Or.inl ⟨by rfl, ?hy2⟩) hHeld ?rest2
          case hy2 => first | (intro w hSw; (try dsimp only at hSw); go_simp; done) | (intro w hSw; (try dsimp only at hSw); go_simp; with_reducible rfl)
          try simp only [List.setIfInBounds_toArray, List.set_cons_zero, List.set_cons_succ]
          refine held_take (i := 2) (v := ?v3) rfl rfl (by kernel_rfl) (by kernel_rfl) (by kernel_rfl) (fun _ _ _ h => h) (Or.inl ⟨by rfl, ?hy3⟩) hHeld ?rest3
          case hy3 => first | (intro w hSw; (try dsimp only at hSw); go_simp; done) | (intro w hSw; (try dsimp only at hSw); go_simp; with_reducible rfl)
          try simp only [List.setIfInBounds_toArray, List.set_cons_zero, List.set_cons_succ]
          refine held_take (i := 3) (v := ?v4) rfl rfl (by kernel_rfl) (by kernel_rfl) (by kernel_rfl) (fun _ _ _ h => h) (Or.inl ⟨by rfl, ?hy4⟩) hHeld ?rest4
          case hy4 => first | (intro w hSw; (try dsimp only at hSw); go_simp; done) | (intro w hSw; (try dsimp only at hSw); go_simp; with_reducible rfl)
          try simp only [List.setIfInBounds_toArray, List.set_cons_zero, List.set_cons_succ]
          refine held_take (i := 4) (v := ?v5) rfl rfl (by kernel_rfl) (by kernel_rfl) (by kernel_rfl) (fun _ _ _ h => h) (Or.inl ⟨by rfl, ?hy5⟩) hHeld ?rest5
          case hy5 => first | (intro w hSw; (try dsimp only at hSw); go_simp; done) | (intro w hSw; (try dsimp only at hSw); go_simp; with_reducible rfl)
          try simp only [List.setIfInBounds_toArray, List.set_cons_zero, List.set_cons_succ]
          refine held_take (i := 5) (v := ?v6) rfl rfl (by kernel_rfl) (by kernel_rfl) (by kernel_rfl) (fun _ _ _ h => h) (Or.inl ⟨by rfl, ?hy6⟩) hHeld ?rest6
          case hy6 => first | (intro w hSw; (try dsimp only at hSw); go_simp; done) | (intro w hSw; (try dsimp only at hSw); go_simp; with_reducible rfl)
          try simp only [List.setIfInBounds_toArray, List.set_cons_zero, List.set_cons_succ]
          refine held_take (i := 6) (v := ?v7) rfl rfl (by kernel_rfl) (by kernel_rfl) (by kernel_rfl) (fun _ _ _ h => h) (Or.inl ⟨by rfl, ?hy7⟩) hHeld ?rest7
          case hy7 => first | (intro w hSw; (try dsimp only at hSw); go_simp; done) | (intro w hSw; (try dsimp only at hSw); go_simp; with_reducible rfl)
          try simp only [List.setIfInBounds_toArray, List.set_cons_zero, List.set_cons_succ]
          refine held_take (i := 7) (v := ?v8) rfl rfl (by kernel_rfl) (by kernel_rfl) (by kernel_rfl) (fun _ _ _ h => h) (Or.inl ⟨by rfl, ?hy8⟩) hHeld ?rest8
          case hy8 => first | (intro w hSw; (try dsimp only at hSw); go_simp; done) | (intro w hSw; (try dsimp only at hSw); go_simp; with_reducible rfl)
          try simp only [List.setIfInBounds_toArray, List.set_cons_zero, List.set_cons_succ]
          refine held_take (i := 8) (v := ?v9) rfl rfl (by kernel_rfl) (by kernel_rfl) (by kernel_rfl) (fun _ _ _ h => h) (Or.inl ⟨by rfl, ?hy9⟩) hHeld ?rest9
          case hy9 => first | (intro w hSw; (try dsimp only at hSw); go_simp; done) | (intro w hSw; (try dsimp only at hSw); go_simp; with_reducible rfl)
          try simp only [List.setIfInBounds_toArray, List.set_cons_zero, List.set_cons_succ]
          refine held_take (i := 9) (v := ?v10) rfl rfl (by kernel_rfl) (by kernel_rfl) (by kernel_rfl) (fun _ _ _ h => h) (Or.inl ⟨by rfl, ?hy10⟩) hHeld ?rest10
          case hy10 => first | (intro w hSw; (try dsimp only at hSw); go_simp; done) | (intro w hSw; (try dsimp only at hSw); go_simp; with_reducible rfl)
          try simp only [List.setIfInBounds_toArray, List.set_cons_zero, List.set_cons_succ]
          refine held_take (i := 10) (v := ?v11) rfl rfl (by kernel_rfl) (by kernel_rfl) (by kernel_rfl) (fun _ _ _ h => h) (Or.inl ⟨by rfl, ?hy11⟩) hHeld ?rest11
          case hy11 => first | (intro w hSw; (try dsimp only at hSw); go_simp; done) | (intro w hSw; (try dsimp only at hSw); go_simp; with_reducible rfl)
          try simp only [List.setIfInBounds_toArray, List.set_cons_zero, List.set_cons_succ]
          refine held_take (i := 11) (v := ?v12) rfl rfl (by kernel_rfl) (by kernel_rfl) (by kernel_rfl) (fun _ _ _ h => h) (Or.inl ⟨by rfl, ?hy12⟩) hHeld ?rest12
          case hy12 => first | (intro w hSw; (try dsimp only at hSw); go_simp; done) | (intro w hSw; (try dsimp only at hSw); go_simp; with_reducible rfl)
          try simp only [List.setIfInBounds_toArray, List.set_cons_zero, List.set_cons_succ]
          refine held_take (i := 12) (v := ?v13) rfl rfl (by kernel_rfl) (by kernel_rfl) (by kernel_rfl) (fun _ _ _ h => h) (Or.inl ⟨by rfl, ?hy13⟩) hHeld ?rest13
          case hy13 => first | (intro w hSw; (try dsimp only at hSw); go_simp; done) | (intro w hSw; (try dsimp only at hSw); go_simp; with_reducible rfl)
          try simp only [List.setIfInBounds_toArray, List.set_cons_zero, List.set_cons_succ]
          refine held_take (i := 13) (v := ?v14) rfl rfl (by kernel_rfl) (by kernel_rfl) (by kernel_rfl) (fun _ _ _ h => h) (Or.inl ⟨by rfl, ?hy14⟩) hHeld ?rest14
          case hy14 => first | (intro w hSw; (try dsimp only at hSw); go_simp; done) | (intro w hSw; (try dsimp only at hSw); go_simp; with_reducible rfl)
          try simp only [List.setIfInBounds_toArray, List.set_cons_zero, List.set_cons_succ]
          refine wpAnyH_ready (rs := [14]) (by kernel_rfl) (by simp) ?_
          refine AllReadyH.cons rfl (fun K hK => ?_) AllReadyH.nil
          go_simp
          go_wp2_with (go_at_call 86; refine (want_any _ _ _ _ _ _ _ _).mono ?_; rintro e wS ⟨rfl, hkS⟩)
          have hk1 : Kept W1 wS none := Kept.tr (Kept.drew _ _) hkS
          refine hK.out _ _ (hk1.weakS _) (fun hHeld => ?_)
          clear hK K hkS
          refine held_take (i := 15) (v := ?v15) rfl rfl (by kernel_rfl) (by kernel_rfl) (by kernel_rfl) (fun _ _ _ h => h) (Or.inl ⟨by rfl, ?hy15⟩) hHeld ?rest15
          case hy15 => first | (intro w hSw; (try dsimp only at hSw); go_simp; done) | (intro w hSw; (try dsimp only at hSw); go_simp; with_reducible rfl)
          try simp only [List.setIfInBounds_toArray, List.set_cons_zero, List.set_cons_succ]
          have HGS := Hid.mk' (row_kept HG1.out.row hk1 (by simp))
          have hz0 := HGS.out.frozen k
          have y0 := HGS.out.cell (i := k) hlt
          refine wpAnyH_ready (rs := [16]) (by kernel_rfl) (by simp) ?_
          refine AllReadyH.cons rfl (fun K hK => ?_) AllReadyH.nil
          go_simp
          refine hK.out _ _ (hHeld.setRow _ _) (fun hHeld => ?_)
          clear hK K
          refine wpAnyH_done (by kernel_rfl) ?_ _
          refine And.intro (by with_reducible rfl) ?_
          rw [← HWI.out]
          exact (HG1.out.kept hk1).set HNE.out k _
        case cont =>
        intro e a' w' hq
        obtain ⟨rfl, rfl, hgq⟩ := hq.out
        go_wp2
        go_roundw
        case rel => exact ⟨k + 1, by omega, by go_num, by rw [HMX.out]; exact hgq⟩
        case measure => simp [intOf]; omega
    · have e : k = S.groups.length := by omega
      subst e
      have m0 := hgl.bx.c0
      have HG2 : Hid (Gl w wr B S.groups.length w.heap.size bl (w.heap.size + 1) (bl + 1) bf off c g F (p2F S F L S.groups.length 0)) := hgl.congr (fun i hi => by unfold mixF; rw [if_pos hi]; rfl)
      clear hgl HG HGL
      go_wp2
      clear m0
      go_loopw [12, 13, 63] (fun _ _ i wr => ∃ k : Nat, k ≤ S.groups.length ∧ i = .int .i64 k ∧ Gl w wr B S.groups.length w.heap.size bl (w.heap.size + 1) (bl + 1) bf off c g F (p2F S F L S.groups.length k)) (fun _ _ i _ => S.groups.length - (intOf i).toNat)
      case atStart => exact ⟨0, by omega, rfl, HG2.out⟩
      case round =>
        obtain ⟨k, hk, rfl, hgl⟩ := hrel
        have HG := Hid.mk' hgl
        by_cases hlt : k < S.groups.length
        · have q0 := cell_kept0 (HCF.out k hlt 0 (by omega)) hgl.k
          have q1 := cell_kept0 (HCF.out k hlt 1 (by omega)) hgl.k
          have q2 := cell_kept0 (HCF.out k hlt 2 (by omega)) hgl.k
          simp only [snV, Nat.add_zero] at q0 q1 q2
          have hbq := block_lt q0
          obtain ⟨ba, oa, rfl, hba, hca⟩ := HB0.out.at_ (by omega)
          have l0 := cell_kept0 (hca k hlt) hgl.k
          rw [show L.getD k 0 = lg L k from rfl] at l0
          have hbl := block_lt l0
          have HTF : Hid (turnB S F L S.groups.length (p2F S F L S.groups.length k) k = false → ∀ i, p2F S F L S.groups.length k i = p2F S F L S.groups.length (k + 1) i) := fun h i => by rw [p2F, h]; simp
          have HTT : Hid (turnB S F L S.groups.length (p2F S F L S.groups.length k) k = true → p2F S F L S.groups.length (k + 1) = fun i => if i = k then 2 else p2F S F L S.groups.length k i) := fun h => by funext i; rw [p2F, h]; simp
          have HTB : Hid (turnB S F L S.groups.length (p2F S F L S.groups.length k) k = (((F.g k).asp == 1) && ((lg L k == 2) && openB S F S.groups.length (p2F S F L S.groups.length k) k))) := rfl
          have hopn := gopen_any ((hgl.kept (Kept.alloc wr #[.int .u8 ((F.g k).asp : Int), .int .i64 (F.g k).since, .int .i64 (F.g k).ended] 95 (0, 0) none)).gt HSB.out HCF.out hFr hFm) HSH.out (hgl.kept (Kept.alloc wr #[.int .u8 ((F.g k).asp : Int), .int .i64 (F.g k).since, .int .i64 (F.g k).ended] 95 (0, 0) none)).pb hlt
          have HOP := Hid.mk' hopn
          clear hopn hca
          generalize openB S F S.groups.length (p2F S F L S.groups.length k) k = t at *
          generalize turnB S F L S.groups.length (p2F S F L S.groups.length k) k = tb at *
          generalize F.g k = N at *
          generalize lg L k = y at *
          by_cases h1 : N.asp = 1
          · rw [h1] at q0 HOP HTB
            by_cases h2 : y = 2
            · subst h2
              cases t with
              | true =>
                have HTN := Hid.mk' (HTT.out (by rw [HTB.out]; rfl))
                clear hgl h1 HTF HTT HTB
                go_wp2_with (go_at_call 85; refine HOP.out.mono ?_; rintro e w2 ⟨rfl, hk2⟩; have hg2 := (HG.out.kept (Kept.alloc _ _ _ _ _)).kept hk2; have p0 := hg2.pl; have y0 := hg2.row.cell hlt; have z0 := hg2.row.frozen k)
                go_roundw
                case rel => exact ⟨k + 1, by omega, by go_num, by rw [HTN.out]; exact hg2.set HNE.out k 2⟩
                case measure => simp [intOf]; omega
              | false =>
                have HTN := Hid.mk' (HTF.out (by rw [HTB.out]; rfl))
                clear hgl h1 HTF HTT HTB
                go_wp2_with (go_at_call 85; refine HOP.out.mono ?_; rintro e w2 ⟨rfl, hk2⟩; have hg2 := (HG.out.kept (Kept.alloc _ _ _ _ _)).kept hk2)
                go_roundw
                case rel => exact ⟨k + 1, by omega, by go_num, hg2.congr (fun i hi => HTN.out i)⟩
                case measure => simp [intOf]; omega
            · have h2b : ((y : Int) == 2) = false := by simp; omega
              have HTN := Hid.mk' (HTF.out (by rw [HTB.out, show (y == 2) = false by simpa using h2]; rfl))
              clear hgl h1 h2 HTF HTT HTB HOP
              go_wp2
              go_roundw
              case rel => exact ⟨k + 1, by omega, by go_num, (HG.out.kept (Kept.alloc _ _ _ _ _)).congr (fun i hi => HTN.out i)⟩
              case measure => simp [intOf]; omega
          · have h1b : ((N.asp : Int) == 1) = false := by simp; omega
            have HTN := Hid.mk' (HTF.out (by rw [HTB.out, show (N.asp == 1) = false by simpa using h1]; rfl))
            clear hgl h1 HTF HTT HTB HOP
            go_wp2
            go_roundw
            case rel => exact ⟨k + 1, by omega, by go_num, (HG.out.kept (Kept.alloc _ _ _ _ _)).congr (fun i hi => HTN.out i)⟩
            case measure => simp [intOf]; omega
        · have e : k = S.groups.length := by omega
          subst e
          have p0 := hgl.pl
          clear hgl
          go_wp2
          go_ret
          exact ⟨g, ⟨rfl, HNE.out.new, HG.out.row.congr (fun i hi => by rw [HV.out i]), HG.out.k⟩⟩
theorem glet_any {w : World} {B : Nat} {X : Sa} {S : St} {a : Option Addr} {c : Nat} {F : Sf} {al : Option Addr} {n cl : Nat} {L : List Nat} (h : Sbox w B X S) (hSh : Shape S) (hF : SafeAt w a c F) (hf : F.groups.length = S.groups.length) (hB : By w al n L) (hn : n = S.groups.length) : Calls Tryd.prog 47 #[.pointer (some ⟨B, 0, none⟩), safeV a c F, .slice al n cl] w fun e w' => ∃ b, e = .returned (.slice (some ⟨b, 0, none⟩) S.groups.length S.groups.length) ∧ w.heap.size ≤ b ∧ w'.rowIs b 5 S.groups.length (fun i => .int .u8 ((letF S F L i : Nat) : Int)) ∧ Kept w w' none := by
  cases h4 : allIs L 4 with
  | true => exact glet_flash h hSh hF hf hB hn h4
  | false =>
    by_cases hs : F.flashed = true ∨ 0 < F.start
    · exact glet_stay h hSh hF hf hB hn h4 hs
    · refine glet_go h hSh hF hf hB hn h4 ?_ (fun e => hs (.inr e))
      cases e : F.flashed with
      | false => rfl
      | true => exact absurd (.inl e) hs

end Go.Proofs.YtfhmfanmnhclfaaDoor
