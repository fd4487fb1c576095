/-
  Texts joined: some of those that the proofs of this seat stand on.
-/
import Derived.Test.YtkgimccffggfdaaDoorTwinA
import Derived.Test.YtkgimccffggfdaaDoorSafeKJ
import Derived.Maps.AppendAt
import Derived.Test.YtkgimccffggfdaaDoorGateMJ
import Derived.Test.YtkgimccffggfdaaDoorJoin
import Derived.Test.YtkgimccffggfdaaDoorSeqHJ
import Derived.Test.YtkgimccffggfdaaDoorTurWJ
import Derived.Test.YtkgimccffggfdaaDoorRefK2
/-
  OWN LISTS OF ANY KIND, one more behind; lists of lights of one's own.
-/
namespace Go.Proofs.YtkgimccffggfdaaDoor
open Go.RowKit Go.Lib Go.Deep
set_option linter.unusedVariables false
set_option linter.unusedSimpArgs false

theorem cellsL_snoc8 {n k : Nat} {f : Nat → Nat → Value} {g : Nat → Value} (hk : 0 < k) : cellsL n k f ++ (List.range k).map g = cellsL (n + 1) k (fun i j => if i = n then g j else f i j) := by
  unfold cellsL
  rw [Nat.add_mul, Nat.one_mul, List.range_add, List.map_append]
  congr 1
  · refine List.map_congr_left fun q hq => ?_
    have h1 : q / k < n := by rw [Nat.div_lt_iff_lt_mul hk]; exact List.mem_range.1 hq
    show f (q / k) (q % k) = if q / k = n then g (q % k) else f (q / k) (q % k)
    rw [if_neg (by omega)]
  · rw [List.map_map]
    refine List.map_congr_left fun j hj => ?_
    have hj' := List.mem_range.1 hj
    have h3 : (n * k + j) / k = n := by rw [Nat.add_comm, Nat.add_mul_div_right _ _ hk, Nat.div_eq_of_lt hj', Nat.zero_add]
    have h4 : (n * k + j) % k = j := by rw [Nat.add_comm, Nat.add_mul_mod_self_right, Nat.mod_eq_of_lt hj']
    show g j = if (n * k + j) / k = n then g ((n * k + j) % k) else f ((n * k + j) / k) ((n * k + j) % k)
    rw [h3, h4, if_pos rfl]
/-- One more element. -/
theorem grow_run8 {w : World} {t ty e : TypeId} {i : TypeInfo} {z : Value} {k bytes : Nat} (ht : Tryd.prog.underlying t = some (.slice e)) (hi : Tryd.prog.info? e = some i) (hz : i.zero = some z) (hsize : i.size = k) (hby : i.bytes = bytes) (hzs : z.cells.size = k) (hk : 0 < k) (hbb : bytes ≤ 1000)
    {base n c : Nat} {v : Value} {f : Nat → Nat → Value} (hown : w.ownsRow base e k v n (cellsL n k f)) {b o : Nat} {g : Nat → Value} (hg : ∀ j, j < k → w.cell? ⟨b, o + j, none⟩ = some (g j)) (h1 : ∀ j, (g j).oneCell' = true) (hn : n ≤ 1000) (hbase : base ≤ w.heap.size) :
    ∃ v' w', (Builtin.append_ #[t, t] ty #[v, .slice (some ⟨b, o, none⟩) 1 c]).run Tryd.prog w = .ok v' w' ∧ w'.ownsRow base e k v' (n + 1) (cellsL (n + 1) k (fun i j => if i = n then g j else f i j)) ∧ w.grownBy w' v.ownBlock ∧ (v'.ownBlock = v.ownBlock ∨ v'.ownBlock = some w.heap.size) := by
  have hbytes : (n + 1) * bytes ≤ 140737488355328 := by
    have h2 : (n + 1) * bytes ≤ 1001 * 1000 := Nat.mul_le_mul (by omega) hbb
    omega
  obtain ⟨v', w', hr, h2, h3, _, h5⟩ := run_append_own_at (P := Tryd.prog) w base t ty e i z k bytes ht hi hz hsize hby hzs hk v n _ hown ⟨b, o, none⟩ 1 c ((List.range k).map g) (by simp) (fun j u hu => by
    rw [List.getElem?_map] at hu
    have hj : j < k := by
      by_cases h : j < k
      · exact h
      · rw [List.getElem?_eq_none (by simpa using h)] at hu; simp at hu
    rw [List.getElem?_range hj] at hu
    rw [Addr.add_lit, hg j hj]
    exact hu) (fun u hu => by
    simp only [List.mem_map] at hu
    obtain ⟨x, _, rfl⟩ := hu
    exact h1 x) (by unfold maxLen; omega) hbytes hbase
  rw [cellsL_snoc8 hk] at h2
  exact ⟨v', w', hr, h2, h3, h5⟩
theorem wpList_app8 {ops : Array Oper} {rest : List Oper} {o : Oper} {act : Act} {Q : Exit → Act → World → Prop} {w w' : World} {v u v' : Value} (hgd : o.guard = none) (s x : Operand) (t : TypeId) (ho : o.op = .call { callee := .builtin .append, args := #[s, x], argTypes := #[t, t] }) (hs : act.eval s = v) (hx : act.eval x = u)
    (hr : (Builtin.append_ #[t, t] o.type #[v, u]).run Tryd.prog w = .ok v' w') (h : wpList Tryd.prog ops Q rest (act.put o.dst v') w') : wpList Tryd.prog ops Q (o :: rest) act w :=
  wpList_plain hgd fun K hK => by
    unfold Oper.wp execOp
    simp only [ho, resolve, invoke, builtin, Sem.run_bind, Sem.run_pure, Result.andThen_ok, List.map_toArray, List.map_cons, List.map_nil, hs, hx, hr]
    exact hK _ _ h
theorem own_lt8 {w : World} {base n k : Nat} {e : TypeId} {v : Value} {xs : List Value} (h : w.ownsRow base e k v n xs) : ∀ g, v.ownBlock = some g → base ≤ g ∧ g < w.heap.size := fun g hg => by
  rcases id h.2 with ⟨rfl, _⟩ | ⟨b, cap, cur, rfl, hb, hh, _⟩
  · cases hg
  · injection hg with hg
    subst hg
    exact ⟨hb, (Array.getElem?_eq_some_iff.1 hh).1⟩
theorem own_kept8 {w w' : World} {r : Option Nat} {base n k : Nat} {e : TypeId} {v : Value} {xs : List Value} (h : w.ownsRow base e k v n xs) (q : Kept w w' r) (hr : ∀ g, v.ownBlock = some g → some g ≠ r) : w'.ownsRow base e k v n xs := by
  refine ⟨h.1, ?_⟩
  rcases id h.2 with ⟨rfl, h0⟩ | ⟨b, cap, cur, rfl, hb, hh, h4⟩
  · exact .inl ⟨rfl, h0⟩
  · exact .inr ⟨b, cap, cur, rfl, hb, (q.block b (Array.getElem?_eq_some_iff.1 hh).1 (hr _ rfl)).trans hh, h4⟩
theorem alloc_at8 (F : World) (cs : Array Value) (t : TypeId) {n j : Nat} {v : Value} (hz : F.heap.size = n) (hv : cs[j]? = some v) : (F.alloc (.cells cs t)).cell? ⟨n, j, none⟩ = some v := by
  subst hz
  simp only [World.cell?_alloc_mark]
  exact hv
theorem wp_app8 {o : Oper} {act : Act} {K : Act → World → Prop} {Q : Exit → Act → World → Prop} {w w' : World} {v u v' : Value} (s x : Operand) (t : TypeId) (ho : o.op = .call { callee := .builtin .append, args := #[s, x], argTypes := #[t, t] }) (hs : act.eval s = v) (hx : act.eval x = u)
    (hr : (Builtin.append_ #[t, t] o.type #[v, u]).run Tryd.prog w = .ok v' w') (h : K (act.put o.dst v') w') : o.wp Tryd.prog act w K Q := by
  unfold Oper.wp execOp
  simp only [ho, resolve, invoke, builtin, Sem.run_bind, Sem.run_pure, Result.andThen_ok, List.map_toArray, List.map_cons, List.map_nil, hs, hx, hr]
  exact h
def Ow8 {α : Type} (e : TypeId) (K : Nat) (f : α → Nat → Value) (d : α) (w : World) (base : Nat) (v : Value) (l : List α) : Prop := w.ownsRow base e K v l.length (cellsL l.length K (fun i j => f (l.getD i d) j))
theorem Ow8.nil {α : Type} (e : TypeId) (K : Nat) (f : α → Nat → Value) (d : α) (w : World) (base : Nat) : Ow8 e K f d w base (.slice none 0 0) [] := by
  unfold Ow8
  have h0 : cellsL ([] : List α).length K (fun i j => f (([] : List α).getD i d) j) = [] := by simp [cellsL]
  rw [h0]
  exact World.ownsRow_nil _ _ _ _
theorem Ow8.lt {α : Type} {e : TypeId} {K : Nat} {f : α → Nat → Value} {d : α} {w : World} {base : Nat} {v : Value} {l : List α} (h : Ow8 e K f d w base v l) : ∀ g, v.ownBlock = some g → base ≤ g ∧ g < w.heap.size := own_lt8 h
theorem Ow8.keptR {α : Type} {e : TypeId} {K : Nat} {f : α → Nat → Value} {d : α} {w w' : World} {base : Nat} {v : Value} {l : List α} {r : Option Nat} (h : Ow8 e K f d w base v l) (q : Kept w w' r) (hr : ∀ g, r = some g → g < base ∨ w.heap.size ≤ g) : Ow8 e K f d w' base v l := own_kept8 h q (fun g hg ec => by
  have h1 := own_lt8 h g hg
  rcases hr g ec.symm with q | q <;> omega)
theorem Ow8.lie {α : Type} {e : TypeId} {K : Nat} {f : α → Nat → Value} {d : α} {w : World} {base : Nat} {v : Value} {l : List α} (h : Ow8 e K f d w base v l) (hK : 0 < K) : ∃ a c, v = .slice a l.length c ∧ Lie w a l.length K (fun i j => f (l.getD i d) j) ∧ Cap a l.length c ∧ ∀ b, a = some b → base ≤ b.block ∧ b.block < w.heap.size := by
  obtain ⟨a, c, e1, h1, h2, h3⟩ := lie_own hK h
  exact ⟨a, c, e1, h1, h2, h3⟩
theorem getD_snoc8 {α : Type} (l : List α) (x d : α) (i : Nat) : (l ++ [x]).getD i d = if i = l.length then x else l.getD i d := by
  by_cases h : i = l.length
  · subst h; simp
  · rw [if_neg h]
    by_cases h2 : i < l.length
    · simp [h2, List.getElem?_append_left]
    · rw [List.getD_eq_getElem?_getD, List.getD_eq_getElem?_getD, List.getElem?_eq_none (by simp; omega), List.getElem?_eq_none (by omega)]
/-- One more behind. -/
theorem Ow8.grow {α : Type} {e t : TypeId} {K : Nat} {f : α → Nat → Value} {d : α} {w : World} {base : Nat} {v : Value} {l : List α} (h : Ow8 e K f d w base v l) (x : α) {cs : Array Value} (hcs : ∀ j, j < K → cs[j]? = some (f x j)) {inf : TypeInfo} {z : Value} {bytes : Nat} (ht : Tryd.prog.underlying t = some (.slice e)) (hi : Tryd.prog.info? e = some inf) (hz : inf.zero = some z) (hsize : inf.size = K) (hby : inf.bytes = bytes) (hzs : z.cells.size = K) (hK : 0 < K) (hbb : bytes ≤ 1000) (h1 : ∀ j, (f x j).oneCell' = true) (hn : l.length ≤ 900) (hb : base ≤ w.heap.size) :
    ∃ a' c' w', (Builtin.append_ #[t, t] t #[v, .slice (some ⟨w.heap.size, 0, none⟩) 1 1]).run Tryd.prog (w.alloc (.cells cs e)) = .ok (.slice a' (l.length + 1) c') w' ∧ Ow8 e K f d w' base (.slice a' (l.length + 1) c') (l ++ [x]) ∧ Kept w w' v.ownBlock := by
  have hk : Kept w (w.alloc (.cells cs e)) none := Kept.alloc _ _ _ _ _
  have hz4 : (w.alloc (.cells cs e)).heap.size = w.heap.size + 1 := by simp
  have hc : ∀ j, j < K → (w.alloc (.cells cs e)).cell? ⟨w.heap.size, 0 + j, none⟩ = some (f x j) := fun j hj => by
    rw [Nat.zero_add]
    exact alloc_at8 _ _ _ rfl (hcs j hj)
  have own4 : (w.alloc (.cells cs e)).ownsRow base e K v l.length (cellsL l.length K (fun i j => f (l.getD i d) j)) := own_kept8 h hk (fun g _ => by simp)
  obtain ⟨v', w', hr, g1, g2, g3⟩ := grow_run8 (t := t) (ty := t) (c := 1) ht hi hz hsize hby hzs hK hbb own4 hc h1 (by omega) (by omega)
  obtain ⟨a', c', rfl, _⟩ := lie_own hK g1
  refine ⟨a', c', w', hr, ?_, ?_⟩
  · unfold Ow8
    rw [List.length_append]
    have he : cellsL (l.length + 1) K (fun i j => if i = l.length then f x j else f (l.getD i d) j) = cellsL (l.length + [x].length) K (fun i j => f ((l ++ [x]).getD i d) j) := by
      show cellsL (l.length + 1) K _ = cellsL (l.length + 1) K _
      unfold cellsL
      refine List.map_congr_left fun q _ => ?_
      show (if q / K = l.length then f x (q % K) else f (l.getD (q / K) d) (q % K)) = f ((l ++ [x]).getD (q / K) d) (q % K)
      rw [getD_snoc8]
      split <;> rfl
    rw [← he]
    exact g1
  · have h2 : Kept (w.alloc (.cells cs e)) w' v.ownBlock := g2
    exact ⟨h2.os.trans hk.os, h2.tape.trans hk.tape, h2.output.trans hk.output, Nat.le_trans hk.size h2.size, fun i hi hne => (h2.block i (Nat.lt_of_lt_of_le hi hk.size) hne).trans (hk.block i hi (by simp))⟩


end Go.Proofs.YtkgimccffggfdaaDoor

/-
  ROWS OF ONE'S OWN, one more behind, written over; what is let through are aspects.
-/
namespace Go.Proofs.YtkgimccffggfdaaDoor
open Go.RowKit Go.Lib Go.Deep
set_option linter.unusedVariables false
set_option linter.unusedSimpArgs false

theorem mine_row9 {w : World} {base : Nat} {a : Option Addr} {n cap : Nat} {L : List Nat} (h : Mine w base a n cap L) (hp : 0 < n) : ∃ (g : Nat) (f : Nat → Value), a = some ⟨g, 0, none⟩ ∧ base ≤ g ∧ n ≤ cap ∧ w.rowIs g 5 cap (fun j => if j < n then .int .u8 ((lg L j : Nat) : Int) else f j) := by
  have hl : L.length = n := by have := h.own.1; simpa using this
  have hd := h.own.2
  rcases id hd with ⟨e, h0⟩ | ⟨g, cap', cur, e, hb, hh, hle, hmx, hsz, htk⟩
  · omega
  · injection e with e1 e2 e3
    subst e1 e3
    refine ⟨g, fun j => (cur[j]?).getD (.bool false), rfl, hb, hle, cur, hh, by omega, fun i hi => ?_⟩
    show cur[i]? = some (if i < n then _ else _)
    by_cases hin : i < n
    · rw [if_pos hin]
      have : (cur.toList.take (n * 1))[i]? = (L.map byteV)[i]? := by rw [htk]
      rw [List.getElem?_take_of_lt (by omega)] at this
      simp [show i < L.length by omega] at this
      simp [this, lg, show i < L.length by omega]
    · rw [if_neg hin]
      have : i < cur.size := by omega
      simp [this]
theorem own_step9 {w wr w2 : World} {v : Value} {n : Nat} {xs : List Value} {c : Array Value} {t : TypeId} (hk : Kept w wr none) (ho : wr.ownsRow w.heap.size 5 1 v n xs) (hg : (wr.alloc (.cells c t)).grownBy w2 v.ownBlock) : Kept w w2 none :=
  (hk.tr (Kept.alloc _ _ _ _ _)).newRow hg (fun i h => (own_lt8 ho i h).1)
theorem by_unit9 (w : World) (x : Nat) (h : x < 256) : By (w.alloc (.cells #[.int .u8 (x : Int)] 5)) (some ⟨w.heap.size, 0, none⟩) 1 [x] :=
  By.alloc w [x] 5 (0, 0) #[.int .u8 (x : Int)] (fun i hi => by
    obtain rfl : i = 0 := by simpa using hi
    rfl) (by simp) (by simpa using h)
theorem letV_lt9 (S : St) (F : Sf) (A : List Nat) : ∀ x ∈ letV S F A, x < 256 := by
  intro x hx
  simp only [letV, List.mem_map] at hx
  obtain ⟨i, _, rfl⟩ := hx
  have := letF_rng S F A i
  omega

end Go.Proofs.YtkgimccffggfdaaDoor

/-
  THE DOCUMENT'S In, Wants, Asks, Whole, Full, Worst of layer 15 (made by a program).
-/
namespace Go.Proofs.YtkgimccffggfdaaDoor
open Go.RowKit Go.Lib Go.Deep
set_option linter.unusedVariables false
set_option linter.unusedSimpArgs false


theorem rin15_any {X : Sa} {S : St} {w : World} (h : Sat w X S) {p g : Nat} (hp : p < S.phases.length) (hg : g < 32) : Calls Tryd.prog 49 #[siteV X S, .int .i64 (p : Int), .int .i64 (g : Int)] w fun e w' => e = .returned (.bool (inP S p g)) ∧ Kept w w' none := by
  have hbit := has_bit (S.ph p).groups g (h.phr p)
  have HV : Hid (inP S p g = (S.ph p).groups.testBit g) := rfl
  have hkA : Kept w (w.alloc (.cells #[.int .i64 S.id, .slice X.g S.groups.length X.gc, .slice X.a S.apart.length X.ac, .slice X.b S.between.length X.bc, .slice X.p S.phases.length X.pc, .slice X.e S.eyes.length X.ec, .int .i64 S.watch, .int .i64 S.feed, .int .i64 S.heal, .int .i64 S.low, .int .i64 S.high, .slice X.l S.plans.length X.lc] 37)) none := Kept.alloc _ _ _ _ _
  have HK := Hid.mk' hkA
  obtain ⟨xg, xgc, xa, xac, xb, xbc, xp, xpc, xe, xec, xl, xlc⟩ := X
  obtain ⟨pb, po, ep, k0, _⟩ := h.phAt hp
  dsimp only at ep
  subst ep
  have hpb := block_lt k0
  have hpm := h.pk.max
  have hpr := h.pk.room
  have hgu : ((g : Int) % 18446744073709551616) = (g : Int) := by omega
  clear h hkA
  generalize inP S p g = z at *
  generalize (S.ph p).groups = P at *
  have HBIT := Hid.mk' hbit
  clear hbit
  go_enter Tryd.func49, Tryd.ntmps49
  go_wp2
  go_ret
  exact ⟨by rw [HV.out, ← HBIT.out]; rfl, HK.out⟩

set_option maxRecDepth 100000 in
set_option maxHeartbeats 2000000 in
theorem rwants_any {X : Sa} {S : St} {w : World} (h : Sat w X S) (hng : S.groups.length ≤ 32) {p : Nat} (hp : p < S.phases.length) : Calls Tryd.prog 28 #[siteV X S, .int .i64 (p : Int)] w fun e w' => ∃ a' c', e = .returned (.slice a' S.groups.length c') ∧ By w' a' S.groups.length (askV S p) ∧ (∀ b, a' = some b → w.heap.size ≤ b.block) ∧ Kept w w' none := by
  obtain ⟨WA, hWA⟩ : ∃ WA, (w.alloc (.cells #[.int .i64 S.id, .slice X.g S.groups.length X.gc, .slice X.a S.apart.length X.ac, .slice X.b S.between.length X.bc, .slice X.p S.phases.length X.pc, .slice X.e S.eyes.length X.ec, .int .i64 S.watch, .int .i64 S.feed, .int .i64 S.heal, .int .i64 S.low, .int .i64 S.high, .slice X.l S.plans.length X.lc] 37)) = WA := ⟨_, rfl⟩
  obtain ⟨HSB, HK, HS, s0_, s1_, s2_, s3_, s4_, s5_, s6_, s7_, s8_, s9_, s10_, s11_⟩ := hd1 h hWA
  have hK0 := Kept.refl WA none
  clear h
  go_enter Tryd.func28, Tryd.ntmps28
  go_wp2_with (rw [hWA])
  go_loopw [5, 6] (fun o i wr => ∃ k : Nat, k ≤ S.groups.length ∧ i = .int .i64 k ∧ Kept WA wr none ∧ ∃ P : List Nat, P = (List.range k).map (fun i => if inP S p i = true then 2 else 1) ∧ wr.ownsRow WA.heap.size 5 1 o P.length (P.map byteV)) (fun _ i _ => S.groups.length - (intOf i).toNat)
  case atStart => exact ⟨0, by omega, rfl, Kept.refl _ _, [], rfl, World.ownsRow_nil _ _ _ _⟩
  case round =>
    obtain ⟨k, hk, rfl, hkw, P, hP, ho⟩ := hrel
    obtain ⟨a1, c1, rfl, hm1⟩ := mine_of ho
    have hPl : P.length = k := by rw [hP]; simp
    have HOW := Hid.mk' ho
    have HKW := Hid.mk' hkw
    have HP := Hid.mk' hP
    have hr1 := hm1.room
    have hx1 := hm1.max
    by_cases hlt : k < S.groups.length
    · have hPb : P.length ≤ 100 := by omega
      have HIN := Hid.mk' (rin15_any (HS.out.kept hkw) hp (g := k) (by omega))
      clear hP ho hm1 hPl
      cases hz : inP S p k with
      | true =>
        have HX : Hid ((if inP S p k = true then 2 else 1) = 2) := by show _ = _; rw [if_pos hz]
        rw [hz] at HIN
        clear hz
        go_wp2_with (first
          | (have hgo := HOI; clear hgo; at_builtin; refine wpList_join (by rfl) _ _ (by rfl) WA.heap.size _ P.length P (by rfl) (own_kept8 HOI.out (Kept.alloc _ _ _ _ none) (fun g _ => by simp)) _ 1 1 [2] (by rfl) (by_unit9 wI 2 (by omega)) (fun e => (nomatch e)) (by omega) (by have := HKI.out.size; simp; omega) ?_; intro a2 c2 w2 hm2 hg2)
          | (go_at_call 49; refine HIN.out.mono ?_; rintro e wI ⟨rfl, hkI⟩; have HKI := Hid.mk' (HKW.out.tr hkI); have HOI := Hid.mk' (own_kept8 HOW.out hkI (fun g _ => by simp))))
        go_roundw
        case rel => exact ⟨k + 1, by omega, by go_num, own_step9 HKI.out HOI.out hg2, P ++ [2], by rw [HP.out, List.range_succ, List.map_append, List.map_singleton, HX.out], by rw [List.length_append]; exact hm2.own⟩
        case measure => simp [intOf]; omega
      | false =>
        have HX : Hid ((if inP S p k = true then 2 else 1) = 1) := by show _ = _; rw [if_neg (by rw [hz]; decide)]
        rw [hz] at HIN
        clear hz
        go_wp2_with (first
          | (have hgo := HOI; clear hgo; at_builtin; refine wpList_join (by rfl) _ _ (by rfl) WA.heap.size _ P.length P (by rfl) (own_kept8 HOI.out (Kept.alloc _ _ _ _ none) (fun g _ => by simp)) _ 1 1 [1] (by rfl) (by_unit9 wI 1 (by omega)) (fun e => (nomatch e)) (by omega) (by have := HKI.out.size; simp; omega) ?_; intro a2 c2 w2 hm2 hg2)
          | (go_at_call 49; refine HIN.out.mono ?_; rintro e wI ⟨rfl, hkI⟩; have HKI := Hid.mk' (HKW.out.tr hkI); have HOI := Hid.mk' (own_kept8 HOW.out hkI (fun g _ => by simp))))
        go_roundw
        case rel => exact ⟨k + 1, by omega, by go_num, own_step9 HKI.out HOI.out hg2, P ++ [1], by rw [HP.out, List.range_succ, List.map_append, List.map_singleton, HX.out], by rw [List.length_append]; exact hm2.own⟩
        case measure => simp [intOf]; omega
    · have e : k = S.groups.length := by omega
      have hPe : P = askV S p := by rw [hP, e]; rfl
      have HBY := Hid.mk' (hm1.by (by rw [hPe]; exact askV_lt S p))
      have HNEW := Hid.mk' hm1.own
      have HPE := Hid.mk' hPe
      rw [show P.length = S.groups.length by omega] at HBY HNEW hr1 ⊢
      clear hP ho hm1 hPe hPl HOW
      go_wp2
      go_ret
      exact ⟨a1, c1, rfl, by rw [← HPE.out]; exact HBY.out, fun b e => Nat.le_trans HK.out.size (own_lt8 HNEW.out b.block (by rw [e]; rfl)).1, HK.out.tr HKW.out⟩

theorem phB_no {S : St} {p : Int} (h : phB S p = false) : p < 0 ∨ (0 ≤ p ∧ (S.phases.length : Int) ≤ p) := by
  unfold phB at h
  by_cases h0 : 0 ≤ p
  · rw [decide_eq_true h0, Bool.true_and, decide_eq_false_iff_not] at h
    exact .inr ⟨h0, by omega⟩
  · exact .inl (by omega)
set_option maxRecDepth 100000 in
set_option maxHeartbeats 2000000 in
theorem rwhole15_any {X : Sa} {S : St} {w : World} (h : Sat w X S) {a : Option Addr} {c : Nat} {F : Sf} (hF : SafeAt w a c F) (hng : S.groups.length ≤ 32) {p : Nat} (hp : p < S.phases.length) (hf : F.groups.length = S.groups.length) : Calls Tryd.prog 47 #[siteV X S, .agg #[.slice a S.groups.length c, .int .i64 F.start, .bool F.flashed], .int .i64 (p : Int)] w fun e w' => e = .returned (.bool (fullB S F p)) ∧ Kept w w' none := by
  have HFL := Hid.mk' hf
  have hcr : S.groups.length ≤ c := by have := hF.cap.room; omega
  have hcm := hF.cap.max
  have HYES : Hid ((∀ j, j < S.groups.length → inP S p j = true → (F.g j).asp = 2) → fullB S F p = true) := fullB_iff.2
  obtain ⟨WA, hWA⟩ : ∃ WA, ((w.alloc (.cells #[.int .i64 S.id, .slice X.g S.groups.length X.gc, .slice X.a S.apart.length X.ac, .slice X.b S.between.length X.bc, .slice X.p S.phases.length X.pc, .slice X.e S.eyes.length X.ec, .int .i64 S.watch, .int .i64 S.feed, .int .i64 S.heal, .int .i64 S.low, .int .i64 S.high, .slice X.l S.plans.length X.lc] 37)).alloc (.cells #[.slice a S.groups.length c, .int .i64 F.start, .bool F.flashed] 26)) = WA := ⟨_, rfl⟩
  obtain ⟨HSB, HBN, HSZ, HK, HS, HF, n0_, n1_, n2_, s0_, s1_, s2_, s3_, s4_, s5_, s6_, s7_, s8_, s9_, s10_, s11_⟩ := hd2 h hF hWA
  have hK0 := Kept.refl WA none
  clear h hF
  clear hf
  go_enter Tryd.func47, Tryd.ntmps47
  go_wp2_with (rw [hWA])
  go_loopw [7] (fun i wr => ∃ k : Nat, k ≤ S.groups.length ∧ i = .int .i64 k ∧ Kept WA wr none ∧ ∀ j, j < k → inP S p j = true → (F.g j).asp = 2) (fun i _ => S.groups.length - (intOf i).toNat)
  case atStart => exact ⟨0, by omega, rfl, Kept.refl _ _, fun j hj => by omega⟩
  case round =>
    obtain ⟨k, hk, rfl, hkw, hno⟩ := hrel
    have HKW := Hid.mk' hkw
    have HNO := Hid.mk' hno
    clear hno
    by_cases hlt : k < S.groups.length
    · obtain ⟨bf, off, ea, hbf, q0, q1, q2⟩ := (HF.out.kept hkw).at_ (i := k) (by have := HFL.out; omega)
      subst ea
      have HEX : Hid ((inP S p k = true → (F.g k).asp = 2) → ∀ j, j < k + 1 → inP S p j = true → (F.g j).asp = 2) := ext_ful HNO.out
      have HNF : Hid (inP S p k = true → (F.g k).asp ≠ 2 → fullB S F p = false) := full_no hlt
      have HIN := Hid.mk' (rin15_any (HS.out.kept hkw) hp (g := k) (by omega))
      clear q1 q2
      generalize F.g k = N at *
      cases hz : inP S p k with
      | true =>
        rw [hz] at HIN HNF HEX
        by_cases h2 : N.asp = 2
        · have h2b : (((N.asp : Nat) : Int) != 2) = false := by rw [h2]; rfl
          have HE := Hid.mk' (HEX.out (fun _ => h2))
          clear hz h2 HEX HNF
          go_wp2_with (go_at_call 49; refine HIN.out.mono ?_; rintro e wI ⟨rfl, hkI⟩; have hKI : Kept WA wI none := HKW.out.tr hkI; have v0 := cell_kept0 q0 hkI)
          go_roundw
          case rel => exact ⟨k + 1, by omega, by go_num, hKI, HE.out⟩
          case measure => simp [intOf]; omega
        · have h2b : (((N.asp : Nat) : Int) != 2) = true := by simp; omega
          have HE := Hid.mk' (HNF.out rfl h2)
          clear hz h2 HEX HNF
          go_wp2_with (go_at_call 49; refine HIN.out.mono ?_; rintro e wI ⟨rfl, hkI⟩; have hKI : Kept WA wI none := HKW.out.tr hkI; have v0 := cell_kept0 q0 hkI)
          go_ret
          exact ⟨by rw [HE.out]; rfl, HK.out.tr hKI⟩
      | false =>
        rw [hz] at HIN HEX
        have HE := Hid.mk' (HEX.out (fun e => by cases e))
        clear hz HEX HNF
        go_wp2_with (go_at_call 49; refine HIN.out.mono ?_; rintro e wI ⟨rfl, hkI⟩; have hKI : Kept WA wI none := HKW.out.tr hkI; have v0 := cell_kept0 q0 hkI)
        go_roundw
        case rel => exact ⟨k + 1, by omega, by go_num, hKI, HE.out⟩
        case measure => simp [intOf]; omega
    · have e : k = S.groups.length := by omega
      have HE := Hid.mk' (HYES.out (fun j hj => HNO.out j (by omega)))
      go_wp2
      go_ret
      exact ⟨by rw [HE.out]; rfl, HK.out.tr HKW.out⟩

/-! ### Full, Worst -/
end Go.Proofs.YtkgimccffggfdaaDoor

