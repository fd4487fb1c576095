/-
  THE CONTRACT of store.Put (made by a program).
-/
import Derived.Test.YtlabjamkaebnjaaStoG
import Derived.Test.YtlabjamkaebnjaaStoDJ
namespace Go.Proofs.Ytlabjamkaebnjaa
open Go.RowKit Go.Lib Go.Deep
set_option linter.unusedVariables false
set_option linter.unusedSimpArgs false

/-- What Put answers. -/
def PtP (w : World) (L : List Nat) (md : Nat) (l : List Pl) (e : Ending) (w' : World) : Prop := ∃ pa cap, e = .returned (.tuple #[.slice pa (ptL L md l).length cap, .int .i64 (ptE L md l)]) ∧ PwF w' w.heap.size pa (ptL L md l).length (ptL L md l) ∧ Kept w w' none
theorem pt_no {w w' : World} {L : List Nat} {md : Nat} {l : List Pl} {E : Int} (hE : ptE L md l = E) (h0 : E ≠ 0) (hk : Kept w w' none) : PtP w L md l (.returned (.tuple #[.slice none 0 0, .int .i64 E])) w' := by
  have e : ptL L md l = [] := by unfold ptL; rw [hE, if_neg h0]
  exact ⟨none, 0, by rw [e, hE]; rfl, by rw [e]; exact PwF.nil _ _, hk⟩
theorem ptW_eq {L : List Nat} {md : Nat} {l : List Pl} (hp : pieE md l (manK L.length) = 0) : pwL ((wrI L * manK L.length : Nat) : Int) (bkL (ptN L) (pieL md l (manK L.length))) = ptW L md l := by
  have hl : (bkL (ptN L) (pieL md l (manK L.length))).length = manK L.length := by unfold bkL; rw [List.length_map, pie_len hp]
  unfold pwL ptW
  rw [hl]
  refine List.map_congr_left (fun i hi => ?_)
  have hi := List.mem_range.1 hi
  have e : (bkL (ptN L) (pieL md l (manK L.length))).getD i [] = bkK (ptN L) (pcK (filK md l (manK L.length)) i) := by
    unfold bkL pieL
    rw [if_pos hp]
    simp [hi]
  rw [e]
  congr 1
theorem ptW_len (L : List Nat) (md : Nat) (l : List Pl) : (ptW L md l).length = manK L.length := by unfold ptW; simp
set_option maxRecDepth 100000 in
set_option maxHeartbeats 2000000 in
theorem put_bad {a : Option Addr} {n c : Nat} {md : Nat} {la : Option Addr} {ln lc : Nat} {w : World} (hn : n ≤ 9223372036854775807) (h : askE n ≠ 0) : Calls Try.prog 11 #[dvV a n c, .int .u8 (md : Int), .slice la ln lc] w fun e w' => e = .returned (.tuple #[.slice none 0 0, .int .i64 (askE n)]) ∧ Kept w w' none := by
  have HS := Hid.mk' (fun w' => slots_bad a n c w' hn h)
  obtain ⟨E, hE⟩ : ∃ E, askE n = E := ⟨_, rfl⟩
  rw [hE] at HS h ⊢
  clear hE
  go_enter Try.func11, Try.ntmps11
  go_wp2_with (go_at_call 21; refine (HS.out _).mono ?_; rintro e w2 ⟨rfl, hk2⟩)
  go_ret2
  exact ⟨rfl, ((Kept.alloc _ _ _ _ _).tr hk2).tr ((Kept.alloc _ _ _ _ _).tr (Kept.alloc _ _ _ _ _))⟩
set_option maxRecDepth 100000 in
set_option maxHeartbeats 2000000 in
theorem put_mode {a : Option Addr} {n c : Nat} {L : List Nat} {md : Nat} {la : Option Addr} {ln lc : Nat} {l : List Pl} {w : World} (hC : Come w a n c L) (hask : askE n = 0) (hP : Plans w la ln lc l) (hm : 3 < md) : Calls Try.prog 11 #[dvV a n c, .int .u8 (md : Int), .slice la ln lc] w (PtP w L md l) := by
  have hs := hC.by_.size
  have HS := Hid.mk' (fun w' (hk : Kept w w' none) => slots_ok (hC.kpt hk) hask)
  obtain ⟨qa1, qa2, qa3, qa4, qa5, qa6, qa7⟩ := ask_ok hask
  unfold SlsP at HS
  have hwle : wrI L ≤ 1 := by unfold wrI; split <;> omega
  have hH64 : ∀ p ∈ ptB L, p.length = 64 := slt_64 (by rw [hs]; exact hask) hwle
  have HGE := Hid.mk' (fun (w' : World) (g' : Int) (m' : Nat) (pa' : Option Addr) (pn' pc' : Nat) (ba' : Option Addr) (bc' : Nat) (hb : Bl w' 0 ba' (manK L.length) (ptB L)) => gen_any (w := w') (g := g') (m' := 0) (m := m') (pa := pa') (pn := pn') (pc := pc') (f := ((wrI L * manK L.length : Nat) : Int)) (bc := bc') hb hH64 (by rw [hs]; exact qa5) (g0 := (ctK L).gen) (by unfold ctK; split <;> exact kep_lt _))
  have hwi0 : ((wrI L * manK L.length : Nat) : Int) ≤ 1000 := by
    have : wrI L * manK L.length ≤ 1 * 32 := Nat.mul_le_mul hwle (by rw [hs]; exact qa5)
    omega
  have hwi1 : (0 : Int) ≤ ((wrI L * manK L.length : Nat) : Int) := by omega
  have hpE : ptE L md l = if md ≤ 3 then (if pieE md l (manK L.length) = 0 then (if ptN L < gtop then 0 else 190) else pieE md l (manK L.length)) else 2 := by unfold ptE; rw [hs, if_pos hask]
  rw [if_neg (by omega)] at hpE
  obtain ⟨g, hg⟩ : ∃ g : Int, ((ctK L).gen : Int) = g := ⟨_, rfl⟩
  obtain ⟨gm, hgm⟩ : ∃ gm, (ctK L).mode = gm := ⟨_, rfl⟩
  obtain ⟨wi, hwi⟩ : ∃ wi : Int, ((wrI L * manK L.length : Nat) : Int) = wi := ⟨_, rfl⟩
  obtain ⟨many, hmy⟩ : ∃ many, manK L.length = many := ⟨_, rfl⟩
  rw [hwi] at HS HGE hwi0 hwi1
  rw [hmy, hg, hgm] at HS
  rw [hmy, hg] at HGE
  rw [← hs, hmy] at qa4 qa5
  have HPT := Hid.mk' hpE
  clear hC hs hg hgm hwi hmy hpE HGE hH64 qa1 qa2 qa3 qa6 qa7 hask hP
  have hm' : (3 : Int) < (md : Int) := by omega
  go_enter Try.func11, Try.ntmps11
  go_wp2_with (go_at_call 21; refine (HS.out _ (Kept.alloc _ _ _ _ _)).mono ?_; rintro e w2 ⟨pa, pn, pc, fc, ba, bn, bc, g', m', pa', pn', pc', ba', bc', rfl, hp2, hb2, hk2⟩; have B2 := Hid.mk' hb2; have K2 : Hid (Kept w w2 none) := Hid.mk' ((Kept.alloc _ _ _ _ _).tr hk2); have KV : Hid (Kept w2 ((w2.alloc (.cells #[(.int .i64 g), (.int .u8 (gm : Int)), (.slice pa pn pc), (.int .i64 fc), (.slice ba bn bc)] 66)).alloc (.cells #[(.int .i64 g'), (.int .u8 (m' : Int)), (.slice pa' pn' pc'), (.int .i64 wi), (.slice ba' many bc')] 66)) none) := Hid.mk' ((Kept.alloc _ _ _ _ _).tr (Kept.alloc _ _ _ _ _)); have TR := Hid.mk' (two_rowsV w2 (.int .i64 g) (.int .u8 (gm : Int)) (.slice pa pn pc) (.int .i64 fc) (.slice ba bn bc) (.int .i64 g') (.int .u8 (m' : Int)) (.slice pa' pn' pc') (.int .i64 wi) (.slice ba' many bc')); have t0 : ((w2.alloc (.cells #[(.int .i64 g), (.int .u8 (gm : Int)), (.slice pa pn pc), (.int .i64 fc), (.slice ba bn bc)] 66)).alloc (.cells #[(.int .i64 g'), (.int .u8 (m' : Int)), (.slice pa' pn' pc'), (.int .i64 wi), (.slice ba' many bc')] 66)).cell? ⟨w2.heap.size, 0, none⟩ = some (.int .i64 g) := TR.out.1.cell (i := 0) (by omega); have t1 : ((w2.alloc (.cells #[(.int .i64 g), (.int .u8 (gm : Int)), (.slice pa pn pc), (.int .i64 fc), (.slice ba bn bc)] 66)).alloc (.cells #[(.int .i64 g'), (.int .u8 (m' : Int)), (.slice pa' pn' pc'), (.int .i64 wi), (.slice ba' many bc')] 66)).cell? ⟨w2.heap.size, 1, none⟩ = some (.int .u8 (gm : Int)) := TR.out.1.cell (i := 1) (by omega); have t2 : ((w2.alloc (.cells #[(.int .i64 g), (.int .u8 (gm : Int)), (.slice pa pn pc), (.int .i64 fc), (.slice ba bn bc)] 66)).alloc (.cells #[(.int .i64 g'), (.int .u8 (m' : Int)), (.slice pa' pn' pc'), (.int .i64 wi), (.slice ba' many bc')] 66)).cell? ⟨w2.heap.size, 2, none⟩ = some (.slice pa pn pc) := TR.out.1.cell (i := 2) (by omega); have t3 : ((w2.alloc (.cells #[(.int .i64 g), (.int .u8 (gm : Int)), (.slice pa pn pc), (.int .i64 fc), (.slice ba bn bc)] 66)).alloc (.cells #[(.int .i64 g'), (.int .u8 (m' : Int)), (.slice pa' pn' pc'), (.int .i64 wi), (.slice ba' many bc')] 66)).cell? ⟨w2.heap.size, 3, none⟩ = some (.int .i64 fc) := TR.out.1.cell (i := 3) (by omega); have t4 : ((w2.alloc (.cells #[(.int .i64 g), (.int .u8 (gm : Int)), (.slice pa pn pc), (.int .i64 fc), (.slice ba bn bc)] 66)).alloc (.cells #[(.int .i64 g'), (.int .u8 (m' : Int)), (.slice pa' pn' pc'), (.int .i64 wi), (.slice ba' many bc')] 66)).cell? ⟨w2.heap.size, 4, none⟩ = some (.slice ba bn bc) := TR.out.1.cell (i := 4) (by omega); have s0 : ((w2.alloc (.cells #[(.int .i64 g), (.int .u8 (gm : Int)), (.slice pa pn pc), (.int .i64 fc), (.slice ba bn bc)] 66)).alloc (.cells #[(.int .i64 g'), (.int .u8 (m' : Int)), (.slice pa' pn' pc'), (.int .i64 wi), (.slice ba' many bc')] 66)).cell? ⟨w2.heap.size + 1, 0, none⟩ = some (.int .i64 g') := TR.out.2.cell (i := 0) (by omega); have s1 : ((w2.alloc (.cells #[(.int .i64 g), (.int .u8 (gm : Int)), (.slice pa pn pc), (.int .i64 fc), (.slice ba bn bc)] 66)).alloc (.cells #[(.int .i64 g'), (.int .u8 (m' : Int)), (.slice pa' pn' pc'), (.int .i64 wi), (.slice ba' many bc')] 66)).cell? ⟨w2.heap.size + 1, 1, none⟩ = some (.int .u8 (m' : Int)) := TR.out.2.cell (i := 1) (by omega); have s2 : ((w2.alloc (.cells #[(.int .i64 g), (.int .u8 (gm : Int)), (.slice pa pn pc), (.int .i64 fc), (.slice ba bn bc)] 66)).alloc (.cells #[(.int .i64 g'), (.int .u8 (m' : Int)), (.slice pa' pn' pc'), (.int .i64 wi), (.slice ba' many bc')] 66)).cell? ⟨w2.heap.size + 1, 2, none⟩ = some (.slice pa' pn' pc') := TR.out.2.cell (i := 2) (by omega); have s3 : ((w2.alloc (.cells #[(.int .i64 g), (.int .u8 (gm : Int)), (.slice pa pn pc), (.int .i64 fc), (.slice ba bn bc)] 66)).alloc (.cells #[(.int .i64 g'), (.int .u8 (m' : Int)), (.slice pa' pn' pc'), (.int .i64 wi), (.slice ba' many bc')] 66)).cell? ⟨w2.heap.size + 1, 3, none⟩ = some (.int .i64 wi) := TR.out.2.cell (i := 3) (by omega); have s4 : ((w2.alloc (.cells #[(.int .i64 g), (.int .u8 (gm : Int)), (.slice pa pn pc), (.int .i64 fc), (.slice ba bn bc)] 66)).alloc (.cells #[(.int .i64 g'), (.int .u8 (m' : Int)), (.slice pa' pn' pc'), (.int .i64 wi), (.slice ba' many bc')] 66)).cell? ⟨w2.heap.size + 1, 4, none⟩ = some (.slice ba' many bc') := TR.out.2.cell (i := 4) (by omega); clear hp2 hb2 hk2)
  go_ret2
  exact pt_no HPT.out (by decide) (K2.out.tr KV.out)
set_option maxRecDepth 100000 in
set_option maxHeartbeats 2000000 in
theorem put_pie {a : Option Addr} {n c : Nat} {L : List Nat} {md : Nat} {la : Option Addr} {ln lc : Nat} {l : List Pl} {w : World} (hC : Come w a n c L) (hask : askE n = 0) (hP : Plans w la ln lc l) (hm : md ≤ 3) (hp : pieE md l (manK L.length) ≠ 0) : Calls Try.prog 11 #[dvV a n c, .int .u8 (md : Int), .slice la ln lc] w (PtP w L md l) := by
  have hs := hC.by_.size
  have HS := Hid.mk' (fun w' (hk : Kept w w' none) => slots_ok (hC.kpt hk) hask)
  obtain ⟨qa1, qa2, qa3, qa4, qa5, qa6, qa7⟩ := ask_ok hask
  unfold SlsP at HS
  have hwle : wrI L ≤ 1 := by unfold wrI; split <;> omega
  have hH64 : ∀ p ∈ ptB L, p.length = 64 := slt_64 (by rw [hs]; exact hask) hwle
  have HGE := Hid.mk' (fun (w' : World) (g' : Int) (m' : Nat) (pa' : Option Addr) (pn' pc' : Nat) (ba' : Option Addr) (bc' : Nat) (hb : Bl w' 0 ba' (manK L.length) (ptB L)) => gen_any (w := w') (g := g') (m' := 0) (m := m') (pa := pa') (pn := pn') (pc := pc') (f := ((wrI L * manK L.length : Nat) : Int)) (bc := bc') hb hH64 (by rw [hs]; exact qa5) (g0 := (ctK L).gen) (by unfold ctK; split <;> exact kep_lt _))
  have hwi0 : ((wrI L * manK L.length : Nat) : Int) ≤ 1000 := by
    have : wrI L * manK L.length ≤ 1 * 32 := Nat.mul_le_mul hwle (by rw [hs]; exact qa5)
    omega
  have hwi1 : (0 : Int) ≤ ((wrI L * manK L.length : Nat) : Int) := by omega
  have hpE : ptE L md l = if md ≤ 3 then (if pieE md l (manK L.length) = 0 then (if ptN L < gtop then 0 else 190) else pieE md l (manK L.length)) else 2 := by unfold ptE; rw [hs, if_pos hask]
  rw [if_pos hm, if_neg hp] at hpE
  obtain ⟨g, hg⟩ : ∃ g : Int, ((ctK L).gen : Int) = g := ⟨_, rfl⟩
  obtain ⟨gm, hgm⟩ : ∃ gm, (ctK L).mode = gm := ⟨_, rfl⟩
  obtain ⟨wi, hwi⟩ : ∃ wi : Int, ((wrI L * manK L.length : Nat) : Int) = wi := ⟨_, rfl⟩
  obtain ⟨many, hmy⟩ : ∃ many, manK L.length = many := ⟨_, rfl⟩
  rw [hwi] at HS HGE hwi0 hwi1
  rw [hmy, hg, hgm] at HS
  rw [hmy, hg] at HGE
  rw [← hs, hmy] at qa4 qa5
  rw [hmy] at hpE hp
  have HPI := Hid.mk' (fun (w' : World) (hk : Kept w w' none) => pieces_any (m := md) (many := many) (hP.kept hk) hm qa4 qa5)
  obtain ⟨E, hE⟩ : ∃ E, pieE md l many = E := ⟨_, rfl⟩
  rw [hE] at hpE hp
  have HPE := Hid.mk' hE
  have HPL : Hid ((pieL md l many).length = 0) := Hid.mk' (by unfold pieL; rw [hE, if_neg hp]; rfl)
  have HPT := Hid.mk' hpE
  clear hC hs hg hgm hwi hmy hpE HGE hH64 qa1 qa2 qa3 qa6 qa7 hask hP hE
  have hm' : (md : Int) ≤ 3 := by omega
  go_enter Try.func11, Try.ntmps11
  go_wp2_with (first
    | (have hgo := TR; clear hgo; go_at_call 25; refine (HPI.out _ (K2.out.tr KV.out)).mono ?_; unfold PieP; rw [HPE.out, HPL.out]; rintro e w3 ⟨a3, c3, rfl, hb3, hk3⟩; have B3 := Hid.mk' hb3; have K3 := Hid.mk' (KV.out.tr hk3); have TR3 := Hid.mk' (And.intro (rowK TR.out.1 hk3) (rowK TR.out.2 hk3)); have tt0 : w3.cell? ⟨w2.heap.size, 0, none⟩ = some (.int .i64 g) := TR3.out.1.cell (i := 0) (by omega); have tt1 : w3.cell? ⟨w2.heap.size, 1, none⟩ = some (.int .u8 (gm : Int)) := TR3.out.1.cell (i := 1) (by omega); have tt2 : w3.cell? ⟨w2.heap.size, 2, none⟩ = some (.slice pa pn pc) := TR3.out.1.cell (i := 2) (by omega); have tt3 : w3.cell? ⟨w2.heap.size, 3, none⟩ = some (.int .i64 fc) := TR3.out.1.cell (i := 3) (by omega); have tt4 : w3.cell? ⟨w2.heap.size, 4, none⟩ = some (.slice ba bn bc) := TR3.out.1.cell (i := 4) (by omega); have ss0 : w3.cell? ⟨w2.heap.size + 1, 0, none⟩ = some (.int .i64 g') := TR3.out.2.cell (i := 0) (by omega); have ss1 : w3.cell? ⟨w2.heap.size + 1, 1, none⟩ = some (.int .u8 (m' : Int)) := TR3.out.2.cell (i := 1) (by omega); have ss2 : w3.cell? ⟨w2.heap.size + 1, 2, none⟩ = some (.slice pa' pn' pc') := TR3.out.2.cell (i := 2) (by omega); have ss3 : w3.cell? ⟨w2.heap.size + 1, 3, none⟩ = some (.int .i64 wi) := TR3.out.2.cell (i := 3) (by omega); have ss4 : w3.cell? ⟨w2.heap.size + 1, 4, none⟩ = some (.slice ba' many bc') := TR3.out.2.cell (i := 4) (by omega); clear hb3 hk3 TR)
    | (go_at_call 21; refine (HS.out _ (Kept.alloc _ _ _ _ _)).mono ?_; rintro e w2 ⟨pa, pn, pc, fc, ba, bn, bc, g', m', pa', pn', pc', ba', bc', rfl, hp2, hb2, hk2⟩; have B2 := Hid.mk' hb2; have K2 : Hid (Kept w w2 none) := Hid.mk' ((Kept.alloc _ _ _ _ _).tr hk2); have KV : Hid (Kept w2 ((w2.alloc (.cells #[(.int .i64 g), (.int .u8 (gm : Int)), (.slice pa pn pc), (.int .i64 fc), (.slice ba bn bc)] 66)).alloc (.cells #[(.int .i64 g'), (.int .u8 (m' : Int)), (.slice pa' pn' pc'), (.int .i64 wi), (.slice ba' many bc')] 66)) none) := Hid.mk' ((Kept.alloc _ _ _ _ _).tr (Kept.alloc _ _ _ _ _)); have TR := Hid.mk' (two_rowsV w2 (.int .i64 g) (.int .u8 (gm : Int)) (.slice pa pn pc) (.int .i64 fc) (.slice ba bn bc) (.int .i64 g') (.int .u8 (m' : Int)) (.slice pa' pn' pc') (.int .i64 wi) (.slice ba' many bc')); have t0 : ((w2.alloc (.cells #[(.int .i64 g), (.int .u8 (gm : Int)), (.slice pa pn pc), (.int .i64 fc), (.slice ba bn bc)] 66)).alloc (.cells #[(.int .i64 g'), (.int .u8 (m' : Int)), (.slice pa' pn' pc'), (.int .i64 wi), (.slice ba' many bc')] 66)).cell? ⟨w2.heap.size, 0, none⟩ = some (.int .i64 g) := TR.out.1.cell (i := 0) (by omega); have t1 : ((w2.alloc (.cells #[(.int .i64 g), (.int .u8 (gm : Int)), (.slice pa pn pc), (.int .i64 fc), (.slice ba bn bc)] 66)).alloc (.cells #[(.int .i64 g'), (.int .u8 (m' : Int)), (.slice pa' pn' pc'), (.int .i64 wi), (.slice ba' many bc')] 66)).cell? ⟨w2.heap.size, 1, none⟩ = some (.int .u8 (gm : Int)) := TR.out.1.cell (i := 1) (by omega); have t2 : ((w2.alloc (.cells #[(.int .i64 g), (.int .u8 (gm : Int)), (.slice pa pn pc), (.int .i64 fc), (.slice ba bn bc)] 66)).alloc (.cells #[(.int .i64 g'), (.int .u8 (m' : Int)), (.slice pa' pn' pc'), (.int .i64 wi), (.slice ba' many bc')] 66)).cell? ⟨w2.heap.size, 2, none⟩ = some (.slice pa pn pc) := TR.out.1.cell (i := 2) (by omega); have t3 : ((w2.alloc (.cells #[(.int .i64 g), (.int .u8 (gm : Int)), (.slice pa pn pc), (.int .i64 fc), (.slice ba bn bc)] 66)).alloc (.cells #[(.int .i64 g'), (.int .u8 (m' : Int)), (.slice pa' pn' pc'), (.int .i64 wi), (.slice ba' many bc')] 66)).cell? ⟨w2.heap.size, 3, none⟩ = some (.int .i64 fc) := TR.out.1.cell (i := 3) (by omega); have t4 : ((w2.alloc (.cells #[(.int .i64 g), (.int .u8 (gm : Int)), (.slice pa pn pc), (.int .i64 fc), (.slice ba bn bc)] 66)).alloc (.cells #[(.int .i64 g'), (.int .u8 (m' : Int)), (.slice pa' pn' pc'), (.int .i64 wi), (.slice ba' many bc')] 66)).cell? ⟨w2.heap.size, 4, none⟩ = some (.slice ba bn bc) := TR.out.1.cell (i := 4) (by omega); have s0 : ((w2.alloc (.cells #[(.int .i64 g), (.int .u8 (gm : Int)), (.slice pa pn pc), (.int .i64 fc), (.slice ba bn bc)] 66)).alloc (.cells #[(.int .i64 g'), (.int .u8 (m' : Int)), (.slice pa' pn' pc'), (.int .i64 wi), (.slice ba' many bc')] 66)).cell? ⟨w2.heap.size + 1, 0, none⟩ = some (.int .i64 g') := TR.out.2.cell (i := 0) (by omega); have s1 : ((w2.alloc (.cells #[(.int .i64 g), (.int .u8 (gm : Int)), (.slice pa pn pc), (.int .i64 fc), (.slice ba bn bc)] 66)).alloc (.cells #[(.int .i64 g'), (.int .u8 (m' : Int)), (.slice pa' pn' pc'), (.int .i64 wi), (.slice ba' many bc')] 66)).cell? ⟨w2.heap.size + 1, 1, none⟩ = some (.int .u8 (m' : Int)) := TR.out.2.cell (i := 1) (by omega); have s2 : ((w2.alloc (.cells #[(.int .i64 g), (.int .u8 (gm : Int)), (.slice pa pn pc), (.int .i64 fc), (.slice ba bn bc)] 66)).alloc (.cells #[(.int .i64 g'), (.int .u8 (m' : Int)), (.slice pa' pn' pc'), (.int .i64 wi), (.slice ba' many bc')] 66)).cell? ⟨w2.heap.size + 1, 2, none⟩ = some (.slice pa' pn' pc') := TR.out.2.cell (i := 2) (by omega); have s3 : ((w2.alloc (.cells #[(.int .i64 g), (.int .u8 (gm : Int)), (.slice pa pn pc), (.int .i64 fc), (.slice ba bn bc)] 66)).alloc (.cells #[(.int .i64 g'), (.int .u8 (m' : Int)), (.slice pa' pn' pc'), (.int .i64 wi), (.slice ba' many bc')] 66)).cell? ⟨w2.heap.size + 1, 3, none⟩ = some (.int .i64 wi) := TR.out.2.cell (i := 3) (by omega); have s4 : ((w2.alloc (.cells #[(.int .i64 g), (.int .u8 (gm : Int)), (.slice pa pn pc), (.int .i64 fc), (.slice ba bn bc)] 66)).alloc (.cells #[(.int .i64 g'), (.int .u8 (m' : Int)), (.slice pa' pn' pc'), (.int .i64 wi), (.slice ba' many bc')] 66)).cell? ⟨w2.heap.size + 1, 4, none⟩ = some (.slice ba' many bc') := TR.out.2.cell (i := 4) (by omega); clear hp2 hb2 hk2))
  go_ret2
  exact pt_no HPT.out hp (K2.out.tr K3.out)
set_option maxRecDepth 100000 in
set_option maxHeartbeats 2000000 in
theorem put_gen {a : Option Addr} {n c : Nat} {L : List Nat} {md : Nat} {la : Option Addr} {ln lc : Nat} {l : List Pl} {w : World} (hC : Come w a n c L) (hask : askE n = 0) (hP : Plans w la ln lc l) (hm : md ≤ 3) (hp : pieE md l (manK L.length) = 0) (hgt : ¬ ptN L < gtop) : Calls Try.prog 11 #[dvV a n c, .int .u8 (md : Int), .slice la ln lc] w (PtP w L md l) := by
  have hs := hC.by_.size
  have HS := Hid.mk' (fun w' (hk : Kept w w' none) => slots_ok (hC.kpt hk) hask)
  obtain ⟨qa1, qa2, qa3, qa4, qa5, qa6, qa7⟩ := ask_ok hask
  unfold SlsP at HS
  have hwle : wrI L ≤ 1 := by unfold wrI; split <;> omega
  have hH64 : ∀ p ∈ ptB L, p.length = 64 := slt_64 (by rw [hs]; exact hask) hwle
  have HGE := Hid.mk' (fun (w' : World) (g' : Int) (m' : Nat) (pa' : Option Addr) (pn' pc' : Nat) (ba' : Option Addr) (bc' : Nat) (hb : Bl w' 0 ba' (manK L.length) (ptB L)) => gen_any (w := w') (g := g') (m' := 0) (m := m') (pa := pa') (pn := pn') (pc := pc') (f := ((wrI L * manK L.length : Nat) : Int)) (bc := bc') hb hH64 (by rw [hs]; exact qa5) (g0 := (ctK L).gen) (by unfold ctK; split <;> exact kep_lt _))
  have hwi0 : ((wrI L * manK L.length : Nat) : Int) ≤ 1000 := by
    have : wrI L * manK L.length ≤ 1 * 32 := Nat.mul_le_mul hwle (by rw [hs]; exact qa5)
    omega
  have hwi1 : (0 : Int) ≤ ((wrI L * manK L.length : Nat) : Int) := by omega
  have hpE : ptE L md l = if md ≤ 3 then (if pieE md l (manK L.length) = 0 then (if ptN L < gtop then 0 else 190) else pieE md l (manK L.length)) else 2 := by unfold ptE; rw [hs, if_pos hask]
  rw [if_pos hm, if_pos hp, if_neg hgt] at hpE
  obtain ⟨g, hg⟩ : ∃ g : Int, ((ctK L).gen : Int) = g := ⟨_, rfl⟩
  obtain ⟨gm, hgm⟩ : ∃ gm, (ctK L).mode = gm := ⟨_, rfl⟩
  obtain ⟨wi, hwi⟩ : ∃ wi : Int, ((wrI L * manK L.length : Nat) : Int) = wi := ⟨_, rfl⟩
  obtain ⟨many, hmy⟩ : ∃ many, manK L.length = many := ⟨_, rfl⟩
  rw [hwi] at HS HGE hwi0 hwi1
  rw [hmy, hg, hgm] at HS
  rw [hmy, hg] at HGE
  rw [← hs, hmy] at qa4 qa5
  rw [hmy] at hp
  have HPI := Hid.mk' (fun (w' : World) (hk : Kept w w' none) => pieces_any (m := md) (many := many) (hP.kept hk) hm qa4 qa5)
  have HPE := Hid.mk' hp
  have HPL : Hid ((pieL md l many).length = many) := Hid.mk' (pie_len hp)
  have HGR : Hid (gnR (ctK L).gen (ptB L) = 0) := Hid.mk' (if_neg hgt)
  have HGX : Hid (gnE (ctK L).gen (ptB L) = 190) := Hid.mk' (if_neg hgt)
  have HPT := Hid.mk' hpE
  clear hC hs hg hgm hwi hmy hpE hH64 qa1 qa2 qa3 qa6 qa7 hask hP hp hgt
  have hm' : (md : Int) ≤ 3 := by omega
  go_enter Try.func11, Try.ntmps11
  go_wp2_with (first
    | (have hgo := TR3; clear hgo; go_at_call 26; refine (HGE.out w3 g' m' pa' pn' pc' ba' bc' ((B2.out.kept K3.out).mono (Nat.zero_le _))).mono ?_; rw [HGR.out, HGX.out]; rintro e w4 ⟨rfl, hk4⟩; have K4 := Hid.mk' (K3.out.tr hk4); have TR4 := Hid.mk' (rowK TR3.out.2 hk4); have B4 := Hid.mk' (B3.out.kept hk4); clear hk4 TR3)
    | (have hgo := TR; clear hgo; go_at_call 25; refine (HPI.out _ (K2.out.tr KV.out)).mono ?_; unfold PieP; rw [HPE.out, HPL.out]; rintro e w3 ⟨a3, c3, rfl, hb3, hk3⟩; have B3 := Hid.mk' hb3; have K3 := Hid.mk' (KV.out.tr hk3); have TR3 := Hid.mk' (And.intro (rowK TR.out.1 hk3) (rowK TR.out.2 hk3)); have tt0 : w3.cell? ⟨w2.heap.size, 0, none⟩ = some (.int .i64 g) := TR3.out.1.cell (i := 0) (by omega); have tt1 : w3.cell? ⟨w2.heap.size, 1, none⟩ = some (.int .u8 (gm : Int)) := TR3.out.1.cell (i := 1) (by omega); have tt2 : w3.cell? ⟨w2.heap.size, 2, none⟩ = some (.slice pa pn pc) := TR3.out.1.cell (i := 2) (by omega); have tt3 : w3.cell? ⟨w2.heap.size, 3, none⟩ = some (.int .i64 fc) := TR3.out.1.cell (i := 3) (by omega); have tt4 : w3.cell? ⟨w2.heap.size, 4, none⟩ = some (.slice ba bn bc) := TR3.out.1.cell (i := 4) (by omega); have ss0 : w3.cell? ⟨w2.heap.size + 1, 0, none⟩ = some (.int .i64 g') := TR3.out.2.cell (i := 0) (by omega); have ss1 : w3.cell? ⟨w2.heap.size + 1, 1, none⟩ = some (.int .u8 (m' : Int)) := TR3.out.2.cell (i := 1) (by omega); have ss2 : w3.cell? ⟨w2.heap.size + 1, 2, none⟩ = some (.slice pa' pn' pc') := TR3.out.2.cell (i := 2) (by omega); have ss3 : w3.cell? ⟨w2.heap.size + 1, 3, none⟩ = some (.int .i64 wi) := TR3.out.2.cell (i := 3) (by omega); have ss4 : w3.cell? ⟨w2.heap.size + 1, 4, none⟩ = some (.slice ba' many bc') := TR3.out.2.cell (i := 4) (by omega); clear hb3 hk3 TR)
    | (go_at_call 21; refine (HS.out _ (Kept.alloc _ _ _ _ _)).mono ?_; rintro e w2 ⟨pa, pn, pc, fc, ba, bn, bc, g', m', pa', pn', pc', ba', bc', rfl, hp2, hb2, hk2⟩; have B2 := Hid.mk' hb2; have K2 : Hid (Kept w w2 none) := Hid.mk' ((Kept.alloc _ _ _ _ _).tr hk2); have KV : Hid (Kept w2 ((w2.alloc (.cells #[(.int .i64 g), (.int .u8 (gm : Int)), (.slice pa pn pc), (.int .i64 fc), (.slice ba bn bc)] 66)).alloc (.cells #[(.int .i64 g'), (.int .u8 (m' : Int)), (.slice pa' pn' pc'), (.int .i64 wi), (.slice ba' many bc')] 66)) none) := Hid.mk' ((Kept.alloc _ _ _ _ _).tr (Kept.alloc _ _ _ _ _)); have TR := Hid.mk' (two_rowsV w2 (.int .i64 g) (.int .u8 (gm : Int)) (.slice pa pn pc) (.int .i64 fc) (.slice ba bn bc) (.int .i64 g') (.int .u8 (m' : Int)) (.slice pa' pn' pc') (.int .i64 wi) (.slice ba' many bc')); have t0 : ((w2.alloc (.cells #[(.int .i64 g), (.int .u8 (gm : Int)), (.slice pa pn pc), (.int .i64 fc), (.slice ba bn bc)] 66)).alloc (.cells #[(.int .i64 g'), (.int .u8 (m' : Int)), (.slice pa' pn' pc'), (.int .i64 wi), (.slice ba' many bc')] 66)).cell? ⟨w2.heap.size, 0, none⟩ = some (.int .i64 g) := TR.out.1.cell (i := 0) (by omega); have t1 : ((w2.alloc (.cells #[(.int .i64 g), (.int .u8 (gm : Int)), (.slice pa pn pc), (.int .i64 fc), (.slice ba bn bc)] 66)).alloc (.cells #[(.int .i64 g'), (.int .u8 (m' : Int)), (.slice pa' pn' pc'), (.int .i64 wi), (.slice ba' many bc')] 66)).cell? ⟨w2.heap.size, 1, none⟩ = some (.int .u8 (gm : Int)) := TR.out.1.cell (i := 1) (by omega); have t2 : ((w2.alloc (.cells #[(.int .i64 g), (.int .u8 (gm : Int)), (.slice pa pn pc), (.int .i64 fc), (.slice ba bn bc)] 66)).alloc (.cells #[(.int .i64 g'), (.int .u8 (m' : Int)), (.slice pa' pn' pc'), (.int .i64 wi), (.slice ba' many bc')] 66)).cell? ⟨w2.heap.size, 2, none⟩ = some (.slice pa pn pc) := TR.out.1.cell (i := 2) (by omega); have t3 : ((w2.alloc (.cells #[(.int .i64 g), (.int .u8 (gm : Int)), (.slice pa pn pc), (.int .i64 fc), (.slice ba bn bc)] 66)).alloc (.cells #[(.int .i64 g'), (.int .u8 (m' : Int)), (.slice pa' pn' pc'), (.int .i64 wi), (.slice ba' many bc')] 66)).cell? ⟨w2.heap.size, 3, none⟩ = some (.int .i64 fc) := TR.out.1.cell (i := 3) (by omega); have t4 : ((w2.alloc (.cells #[(.int .i64 g), (.int .u8 (gm : Int)), (.slice pa pn pc), (.int .i64 fc), (.slice ba bn bc)] 66)).alloc (.cells #[(.int .i64 g'), (.int .u8 (m' : Int)), (.slice pa' pn' pc'), (.int .i64 wi), (.slice ba' many bc')] 66)).cell? ⟨w2.heap.size, 4, none⟩ = some (.slice ba bn bc) := TR.out.1.cell (i := 4) (by omega); have s0 : ((w2.alloc (.cells #[(.int .i64 g), (.int .u8 (gm : Int)), (.slice pa pn pc), (.int .i64 fc), (.slice ba bn bc)] 66)).alloc (.cells #[(.int .i64 g'), (.int .u8 (m' : Int)), (.slice pa' pn' pc'), (.int .i64 wi), (.slice ba' many bc')] 66)).cell? ⟨w2.heap.size + 1, 0, none⟩ = some (.int .i64 g') := TR.out.2.cell (i := 0) (by omega); have s1 : ((w2.alloc (.cells #[(.int .i64 g), (.int .u8 (gm : Int)), (.slice pa pn pc), (.int .i64 fc), (.slice ba bn bc)] 66)).alloc (.cells #[(.int .i64 g'), (.int .u8 (m' : Int)), (.slice pa' pn' pc'), (.int .i64 wi), (.slice ba' many bc')] 66)).cell? ⟨w2.heap.size + 1, 1, none⟩ = some (.int .u8 (m' : Int)) := TR.out.2.cell (i := 1) (by omega); have s2 : ((w2.alloc (.cells #[(.int .i64 g), (.int .u8 (gm : Int)), (.slice pa pn pc), (.int .i64 fc), (.slice ba bn bc)] 66)).alloc (.cells #[(.int .i64 g'), (.int .u8 (m' : Int)), (.slice pa' pn' pc'), (.int .i64 wi), (.slice ba' many bc')] 66)).cell? ⟨w2.heap.size + 1, 2, none⟩ = some (.slice pa' pn' pc') := TR.out.2.cell (i := 2) (by omega); have s3 : ((w2.alloc (.cells #[(.int .i64 g), (.int .u8 (gm : Int)), (.slice pa pn pc), (.int .i64 fc), (.slice ba bn bc)] 66)).alloc (.cells #[(.int .i64 g'), (.int .u8 (m' : Int)), (.slice pa' pn' pc'), (.int .i64 wi), (.slice ba' many bc')] 66)).cell? ⟨w2.heap.size + 1, 3, none⟩ = some (.int .i64 wi) := TR.out.2.cell (i := 3) (by omega); have s4 : ((w2.alloc (.cells #[(.int .i64 g), (.int .u8 (gm : Int)), (.slice pa pn pc), (.int .i64 fc), (.slice ba bn bc)] 66)).alloc (.cells #[(.int .i64 g'), (.int .u8 (m' : Int)), (.slice pa' pn' pc'), (.int .i64 wi), (.slice ba' many bc')] 66)).cell? ⟨w2.heap.size + 1, 4, none⟩ = some (.slice ba' many bc') := TR.out.2.cell (i := 4) (by omega); clear hp2 hb2 hk2))
  go_ret2
  exact pt_no HPT.out (by decide) (K2.out.tr K4.out)
set_option maxRecDepth 100000 in
set_option maxHeartbeats 2000000 in
theorem put_ok {a : Option Addr} {n c : Nat} {L : List Nat} {md : Nat} {la : Option Addr} {ln lc : Nat} {l : List Pl} {w : World} (hC : Come w a n c L) (hask : askE n = 0) (hP : Plans w la ln lc l) (hm : md ≤ 3) (hp : pieE md l (manK L.length) = 0) (hgt : ptN L < gtop) : Calls Try.prog 11 #[dvV a n c, .int .u8 (md : Int), .slice la ln lc] w (PtP w L md l) := by
  have hs := hC.by_.size
  have HS := Hid.mk' (fun w' (hk : Kept w w' none) => slots_ok (hC.kpt hk) hask)
  obtain ⟨qa1, qa2, qa3, qa4, qa5, qa6, qa7⟩ := ask_ok hask
  unfold SlsP at HS
  have hwle : wrI L ≤ 1 := by unfold wrI; split <;> omega
  have hH64 : ∀ p ∈ ptB L, p.length = 64 := slt_64 (by rw [hs]; exact hask) hwle
  have HGE := Hid.mk' (fun (w' : World) (g' : Int) (m' : Nat) (pa' : Option Addr) (pn' pc' : Nat) (ba' : Option Addr) (bc' : Nat) (hb : Bl w' 0 ba' (manK L.length) (ptB L)) => gen_any (w := w') (g := g') (m' := 0) (m := m') (pa := pa') (pn := pn') (pc := pc') (f := ((wrI L * manK L.length : Nat) : Int)) (bc := bc') hb hH64 (by rw [hs]; exact qa5) (g0 := (ctK L).gen) (by unfold ctK; split <;> exact kep_lt _))
  have hwi0 : ((wrI L * manK L.length : Nat) : Int) ≤ 1000 := by
    have : wrI L * manK L.length ≤ 1 * 32 := Nat.mul_le_mul hwle (by rw [hs]; exact qa5)
    omega
  have hwi1 : (0 : Int) ≤ ((wrI L * manK L.length : Nat) : Int) := by omega
  have hpE : ptE L md l = if md ≤ 3 then (if pieE md l (manK L.length) = 0 then (if ptN L < gtop then 0 else 190) else pieE md l (manK L.length)) else 2 := by unfold ptE; rw [hs, if_pos hask]
  rw [if_pos hm, if_pos hp, if_pos hgt] at hpE
  have hWE := ptW_eq hp
  obtain ⟨g, hg⟩ : ∃ g : Int, ((ctK L).gen : Int) = g := ⟨_, rfl⟩
  obtain ⟨gm, hgm⟩ : ∃ gm, (ctK L).mode = gm := ⟨_, rfl⟩
  obtain ⟨wi, hwi⟩ : ∃ wi : Int, ((wrI L * manK L.length : Nat) : Int) = wi := ⟨_, rfl⟩
  obtain ⟨many, hmy⟩ : ∃ many, manK L.length = many := ⟨_, rfl⟩
  rw [hwi] at HS HGE hwi0 hwi1
  rw [hmy, hg, hgm] at HS
  rw [hmy, hg] at HGE
  rw [← hs, hmy] at qa4 qa5
  rw [hwi, hmy] at hWE
  rw [hmy] at hp
  have HPI := Hid.mk' (fun (w' : World) (hk : Kept w w' none) => pieces_any (m := md) (many := many) (hP.kept hk) hm qa4 qa5)
  have HPE := Hid.mk' hp
  have HPL : Hid ((pieL md l many).length = many) := Hid.mk' (pie_len hp)
  obtain ⟨N, hN⟩ : ∃ N : Int, (ptN L : Int) = N := ⟨_, rfl⟩
  have HGR : Hid (gnR (ctK L).gen (ptB L) = N) := Hid.mk' ((if_pos hgt).trans hN)
  have HGX : Hid (gnE (ctK L).gen (ptB L) = 0) := Hid.mk' (if_pos hgt)
  have HPT := Hid.mk' hpE
  have hNt : N.toNat = ptN L := by omega
  have hN0 : 0 ≤ N := by omega
  have hN1 : N < 4611686018427387904 := by unfold gtop at hgt; omega
  have HNN := Hid.mk' (And.intro hN0 hN1)
  have HNT := Hid.mk' hNt
  have HWE := Hid.mk' hWE
  have HMY := Hid.mk' hmy
  have HWI := Hid.mk' (And.intro hwi1 hwi0)
  clear hC hs hg hgm hwi hmy hpE hH64 qa1 qa2 qa3 qa6 qa7 hask hP hp hgt hN hNt hN0 hN1 hWE hwi0 hwi1
  have hm' : (md : Int) ≤ 3 := by omega
  go_enter Try.func11, Try.ntmps11
  go_wp2_with (first
    | (have hgo := TR3; clear hgo; go_at_call 26; refine (HGE.out w3 g' m' pa' pn' pc' ba' bc' ((B2.out.kept K3.out).mono (Nat.zero_le _))).mono ?_; rw [HGR.out, HGX.out]; rintro e w4 ⟨rfl, hk4⟩; have K4 := Hid.mk' (K3.out.tr hk4); have TR4 := Hid.mk' (rowK TR3.out.2 hk4); have B4 := Hid.mk' (B3.out.kept hk4); clear hk4 TR3)
    | (have hgo := TR; clear hgo; go_at_call 25; refine (HPI.out _ (K2.out.tr KV.out)).mono ?_; unfold PieP; rw [HPE.out, HPL.out]; rintro e w3 ⟨a3, c3, rfl, hb3, hk3⟩; have B3 := Hid.mk' hb3; have K3 := Hid.mk' (KV.out.tr hk3); have TR3 := Hid.mk' (And.intro (rowK TR.out.1 hk3) (rowK TR.out.2 hk3)); have tt0 : w3.cell? ⟨w2.heap.size, 0, none⟩ = some (.int .i64 g) := TR3.out.1.cell (i := 0) (by omega); have tt1 : w3.cell? ⟨w2.heap.size, 1, none⟩ = some (.int .u8 (gm : Int)) := TR3.out.1.cell (i := 1) (by omega); have tt2 : w3.cell? ⟨w2.heap.size, 2, none⟩ = some (.slice pa pn pc) := TR3.out.1.cell (i := 2) (by omega); have tt3 : w3.cell? ⟨w2.heap.size, 3, none⟩ = some (.int .i64 fc) := TR3.out.1.cell (i := 3) (by omega); have tt4 : w3.cell? ⟨w2.heap.size, 4, none⟩ = some (.slice ba bn bc) := TR3.out.1.cell (i := 4) (by omega); have ss0 : w3.cell? ⟨w2.heap.size + 1, 0, none⟩ = some (.int .i64 g') := TR3.out.2.cell (i := 0) (by omega); have ss1 : w3.cell? ⟨w2.heap.size + 1, 1, none⟩ = some (.int .u8 (m' : Int)) := TR3.out.2.cell (i := 1) (by omega); have ss2 : w3.cell? ⟨w2.heap.size + 1, 2, none⟩ = some (.slice pa' pn' pc') := TR3.out.2.cell (i := 2) (by omega); have ss3 : w3.cell? ⟨w2.heap.size + 1, 3, none⟩ = some (.int .i64 wi) := TR3.out.2.cell (i := 3) (by omega); have ss4 : w3.cell? ⟨w2.heap.size + 1, 4, none⟩ = some (.slice ba' many bc') := TR3.out.2.cell (i := 4) (by omega); clear hb3 hk3 TR)
    | (go_at_call 21; refine (HS.out _ (Kept.alloc _ _ _ _ _)).mono ?_; rintro e w2 ⟨pa, pn, pc, fc, ba, bn, bc, g', m', pa', pn', pc', ba', bc', rfl, hp2, hb2, hk2⟩; have B2 := Hid.mk' hb2; have K2 : Hid (Kept w w2 none) := Hid.mk' ((Kept.alloc _ _ _ _ _).tr hk2); have KV : Hid (Kept w2 ((w2.alloc (.cells #[(.int .i64 g), (.int .u8 (gm : Int)), (.slice pa pn pc), (.int .i64 fc), (.slice ba bn bc)] 66)).alloc (.cells #[(.int .i64 g'), (.int .u8 (m' : Int)), (.slice pa' pn' pc'), (.int .i64 wi), (.slice ba' many bc')] 66)) none) := Hid.mk' ((Kept.alloc _ _ _ _ _).tr (Kept.alloc _ _ _ _ _)); have TR := Hid.mk' (two_rowsV w2 (.int .i64 g) (.int .u8 (gm : Int)) (.slice pa pn pc) (.int .i64 fc) (.slice ba bn bc) (.int .i64 g') (.int .u8 (m' : Int)) (.slice pa' pn' pc') (.int .i64 wi) (.slice ba' many bc')); have t0 : ((w2.alloc (.cells #[(.int .i64 g), (.int .u8 (gm : Int)), (.slice pa pn pc), (.int .i64 fc), (.slice ba bn bc)] 66)).alloc (.cells #[(.int .i64 g'), (.int .u8 (m' : Int)), (.slice pa' pn' pc'), (.int .i64 wi), (.slice ba' many bc')] 66)).cell? ⟨w2.heap.size, 0, none⟩ = some (.int .i64 g) := TR.out.1.cell (i := 0) (by omega); have t1 : ((w2.alloc (.cells #[(.int .i64 g), (.int .u8 (gm : Int)), (.slice pa pn pc), (.int .i64 fc), (.slice ba bn bc)] 66)).alloc (.cells #[(.int .i64 g'), (.int .u8 (m' : Int)), (.slice pa' pn' pc'), (.int .i64 wi), (.slice ba' many bc')] 66)).cell? ⟨w2.heap.size, 1, none⟩ = some (.int .u8 (gm : Int)) := TR.out.1.cell (i := 1) (by omega); have t2 : ((w2.alloc (.cells #[(.int .i64 g), (.int .u8 (gm : Int)), (.slice pa pn pc), (.int .i64 fc), (.slice ba bn bc)] 66)).alloc (.cells #[(.int .i64 g'), (.int .u8 (m' : Int)), (.slice pa' pn' pc'), (.int .i64 wi), (.slice ba' many bc')] 66)).cell? ⟨w2.heap.size, 2, none⟩ = some (.slice pa pn pc) := TR.out.1.cell (i := 2) (by omega); have t3 : ((w2.alloc (.cells #[(.int .i64 g), (.int .u8 (gm : Int)), (.slice pa pn pc), (.int .i64 fc), (.slice ba bn bc)] 66)).alloc (.cells #[(.int .i64 g'), (.int .u8 (m' : Int)), (.slice pa' pn' pc'), (.int .i64 wi), (.slice ba' many bc')] 66)).cell? ⟨w2.heap.size, 3, none⟩ = some (.int .i64 fc) := TR.out.1.cell (i := 3) (by omega); have t4 : ((w2.alloc (.cells #[(.int .i64 g), (.int .u8 (gm : Int)), (.slice pa pn pc), (.int .i64 fc), (.slice ba bn bc)] 66)).alloc (.cells #[(.int .i64 g'), (.int .u8 (m' : Int)), (.slice pa' pn' pc'), (.int .i64 wi), (.slice ba' many bc')] 66)).cell? ⟨w2.heap.size, 4, none⟩ = some (.slice ba bn bc) := TR.out.1.cell (i := 4) (by omega); have s0 : ((w2.alloc (.cells #[(.int .i64 g), (.int .u8 (gm : Int)), (.slice pa pn pc), (.int .i64 fc), (.slice ba bn bc)] 66)).alloc (.cells #[(.int .i64 g'), (.int .u8 (m' : Int)), (.slice pa' pn' pc'), (.int .i64 wi), (.slice ba' many bc')] 66)).cell? ⟨w2.heap.size + 1, 0, none⟩ = some (.int .i64 g') := TR.out.2.cell (i := 0) (by omega); have s1 : ((w2.alloc (.cells #[(.int .i64 g), (.int .u8 (gm : Int)), (.slice pa pn pc), (.int .i64 fc), (.slice ba bn bc)] 66)).alloc (.cells #[(.int .i64 g'), (.int .u8 (m' : Int)), (.slice pa' pn' pc'), (.int .i64 wi), (.slice ba' many bc')] 66)).cell? ⟨w2.heap.size + 1, 1, none⟩ = some (.int .u8 (m' : Int)) := TR.out.2.cell (i := 1) (by omega); have s2 : ((w2.alloc (.cells #[(.int .i64 g), (.int .u8 (gm : Int)), (.slice pa pn pc), (.int .i64 fc), (.slice ba bn bc)] 66)).alloc (.cells #[(.int .i64 g'), (.int .u8 (m' : Int)), (.slice pa' pn' pc'), (.int .i64 wi), (.slice ba' many bc')] 66)).cell? ⟨w2.heap.size + 1, 2, none⟩ = some (.slice pa' pn' pc') := TR.out.2.cell (i := 2) (by omega); have s3 : ((w2.alloc (.cells #[(.int .i64 g), (.int .u8 (gm : Int)), (.slice pa pn pc), (.int .i64 fc), (.slice ba bn bc)] 66)).alloc (.cells #[(.int .i64 g'), (.int .u8 (m' : Int)), (.slice pa' pn' pc'), (.int .i64 wi), (.slice ba' many bc')] 66)).cell? ⟨w2.heap.size + 1, 3, none⟩ = some (.int .i64 wi) := TR.out.2.cell (i := 3) (by omega); have s4 : ((w2.alloc (.cells #[(.int .i64 g), (.int .u8 (gm : Int)), (.slice pa pn pc), (.int .i64 fc), (.slice ba bn bc)] 66)).alloc (.cells #[(.int .i64 g'), (.int .u8 (m' : Int)), (.slice pa' pn' pc'), (.int .i64 wi), (.slice ba' many bc')] 66)).cell? ⟨w2.heap.size + 1, 4, none⟩ = some (.slice ba' many bc') := TR.out.2.cell (i := 4) (by omega); clear hp2 hb2 hk2))
  have hTR := rowK TR4.out (kept_drw w4 none)
  refine wp_region_held_drew (S := fun w' => w'.rowIs (w2.heap.size + 1) 66 5 (f5 (.int .i64 g') (.int .u8 (m' : Int)) (.slice pa' pn' pc') (.int .i64 wi) (.slice ba' many bc'))) (by kernel_rfl) hTR (fun hHeld => ?_)
  have K5 := Hid.mk' (K4.out.tr (kept_drw w4 none))
  have B5 := Hid.mk' (B4.out.kept (kept_drw w4 none))
  obtain ⟨w5, hw5⟩ : ∃ v, w4.drew = v := ⟨_, rfl⟩
  rw [hw5] at hHeld K5 B5 ⊢
  clear hw5 hTR
  refine hold_take (i := 0) (v := ?rv101) rfl rfl (by kernel_rfl) (by kernel_rfl) (by kernel_rfl) (fun _ _ _ h => h) (Or.inl ⟨by rfl, ?rhy101⟩) hHeld ?rrest101
  case rhy101 => (intro w hSw; have p0 := hSw.cell (i := 0) (by omega); have p1 := hSw.cell (i := 1) (by omega); have p2 := hSw.cell (i := 2) (by omega); have p3 := hSw.cell (i := 3) (by omega); have p4 := hSw.cell (i := 4) (by omega); clear hSw; simp [f5] at p0 p1 p2 p3 p4; first | (go_simp; done) | (go_simp; with_reducible rfl))
  try simp only [List.setIfInBounds_toArray, List.set_cons_zero, List.set_cons_succ]
  refine hold_take (i := 1) (v := ?rv102) rfl rfl (by kernel_rfl) (by kernel_rfl) (by kernel_rfl) (fun _ _ _ h => h) (Or.inl ⟨by rfl, ?rhy102⟩) hHeld ?rrest102
  case rhy102 => (intro w hSw; clear hSw; first | (go_simp; done) | (go_simp; with_reducible rfl))
  try simp only [List.setIfInBounds_toArray, List.set_cons_zero, List.set_cons_succ]
  refine hold_take (i := 2) (v := ?rv103) rfl rfl (by kernel_rfl) (by kernel_rfl) (by kernel_rfl) (fun _ _ _ h => h) (Or.inl ⟨by rfl, ?rhy103⟩) hHeld ?rrest103
  case rhy103 => (intro w hSw; clear hSw; first | (go_simp; done) | (go_simp; with_reducible rfl))
  try simp only [List.setIfInBounds_toArray, List.set_cons_zero, List.set_cons_succ]
  refine wpAnyH_ready (rs := [3]) (by kernel_rfl) (by simp) ?_
  refine AllReadyH.cons rfl (fun K hK => ?_) AllReadyH.nil
  go_simp
  go_wp2_with (go_at_call 28; refine (blocksOf_anyI (B5.out.mono (Nat.zero_le _)) pie_48 HNN.out.1 HNN.out.2 (by omega)).mono ?_; rintro e w6 ⟨a6, c6, rfl, hb6, hk6⟩)
  have hnew := rowK hHeld hk6
  have K6 := Hid.mk' (K5.out.tr hk6)
  have B6 := Hid.mk' hb6
  have Z5 := Hid.mk' K5.out.size
  have hkk := hk6.size
  have Z6 := Hid.mk' hkk
  refine hK.out _ _ hnew (fun hHeld => ?_)
  clear hK K hnew hk6 hb6 hkk
  refine wpAnyH_ready (rs := [4]) (by kernel_rfl) (by simp) ?_
  refine AllReadyH.cons rfl (fun K hK => ?_) AllReadyH.nil
  go_simp
  go_wp2_with (go_at_call 27; refine (puts_any (H := w.heap.size) (B6.out.mono (by have := K2.out.size; have := Z5.out; omega)) (fun p hp => by (obtain ⟨q, hq, rfl⟩ := List.mem_map.1 hp; exact bk_len (pie_48 q hq))) qa4 (by omega) (by have := K2.out.size; have := Z5.out; have := Z6.out; omega) HWI.out.1 HWI.out.2).mono ?_; rintro e w7 ⟨b7, rfl, hp7, hk7⟩)
  have hnew := rowK hHeld hk7
  have K7 := Hid.mk' (K6.out.tr hk7)
  have P7 := Hid.mk' hp7
  refine hK.out _ _ hnew (fun hHeld => ?_)
  clear hK K hnew hk7 hp7
  refine hold_take (i := 5) (v := ?rv104) rfl rfl (by kernel_rfl) (by kernel_rfl) (by kernel_rfl) (fun _ _ _ h => h) (Or.inl ⟨by rfl, ?rhy104⟩) hHeld ?rrest104
  case rhy104 => (intro w hSw; clear hSw; first | (go_simp; done) | (go_simp; with_reducible rfl))
  try simp only [List.setIfInBounds_toArray, List.set_cons_zero, List.set_cons_succ]
  refine hold_take (i := 6) (v := ?rv105) rfl rfl (by kernel_rfl) (by kernel_rfl) (by kernel_rfl) (fun _ _ _ h => h) (Or.inl ⟨by rfl, ?rhy105⟩) hHeld ?rrest105
  case rhy105 => (intro w hSw; clear hSw; first | (go_simp; done) | (go_simp; with_reducible rfl))
  try simp only [List.setIfInBounds_toArray, List.set_cons_zero, List.set_cons_succ]
  refine wpAnyH_done (by kernel_rfl) ?_ _
  go_wp2
  go_ret2
  have hP7 := P7.out
  rw [HNT.out, HWE.out] at hP7
  have hL : ptL L md l = ptW L md l := by unfold ptL; rw [HPT.out, if_pos rfl]
  refine ⟨some ⟨b7, 0, none⟩, many, ?_, ?_, K2.out.tr K7.out⟩
  · rw [hL, ptW_len, HMY.out, HPT.out]; rfl
  · rw [hL, ptW_len, HMY.out]
    exact hP7
theorem sput_any {a : Option Addr} {n c : Nat} {L : List Nat} {md : Nat} {la : Option Addr} {ln lc : Nat} {l : List Pl} {w : World} (hC : Come w a n c L) (hP : Plans w la ln lc l) : Calls Try.prog 11 #[dvV a n c, .int .u8 (md : Int), .slice la ln lc] w (PtP w L md l) := by
  by_cases h : askE n = 0
  · by_cases hm : md ≤ 3
    · by_cases hp : pieE md l (manK L.length) = 0
      · by_cases hg : ptN L < gtop
        · exact put_ok hC h hP hm hp hg
        · exact put_gen hC h hP hm hp hg
      · exact put_pie hC h hP hm hp
    · exact put_mode hC h hP (by omega)
  · refine (put_bad hC.by_.max h).mono ?_
    rintro e w' ⟨rfl, hk⟩
    exact pt_no (by unfold ptE; rw [hC.by_.size, if_neg h]) h hk

end Go.Proofs.Ytlabjamkaebnjaa
