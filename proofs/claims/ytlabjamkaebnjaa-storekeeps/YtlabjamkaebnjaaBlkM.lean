/-
  DEVICES, in numbers: what is asked of them; rows of bytes of a call's own.
-/
import Derived.Test.YtlabjamkaebnjaaSPlanLJ
import Derived.Test.YtlabjamkaebnjaaSep
import Derived.Laws.CopyOwn
import Derived.Deep.RegionHeld
import Derived.Deep.RegionHeld3
namespace Go.Proofs.Ytlabjamkaebnjaa
open Go.RowKit Go.Lib Go.Deep
set_option linter.unusedVariables false
set_option linter.unusedSimpArgs false

theorem _root_.Go.RowKit.Hid.mk' {P : Prop} (h : P) : Hid P := h
/-! ### What is asked -/
def bmayV (n : Int) : Bool := decide (1 ≤ n) && decide (n ≤ 64)
def chkE (m : Nat) : Int := if m % 64 = 0 ∧ 64 ≤ m ∧ m ≤ 4096 then 0 else 180
def hasV (m : Nat) (n : Int) : Bool := decide (0 ≤ n) && decide (n < ((m / 64 : Nat) : Int))
/-- What is wrong with writes on a device that may be. -/
def wrE (m : Nat) : List Pw → Int
  | [] => 0
  | p :: l => if hasV m p.n = true then (if p.data.length = 64 then wrE m l else 8) else 2
def cwE (m : Nat) (l : List Pw) : Int := if chkE m = 0 then wrE m l else 180
def doE (m : Nat) (l : List Pw) (whole torn : Int) : Int := if cwE m l = 0 then (if 0 ≤ whole ∧ whole ≤ (l.length : Int) ∧ 0 ≤ torn ∧ torn ≤ 64 then 0 else 2) else cwE m l
def doL (d : List Nat) (l : List Pw) (whole torn : Int) : List Nat := if doE d.length l whole torn = 0 then doD l whole.toNat torn.toNat d else []
def brE (m : Nat) (n : Int) : Int := if chkE m = 0 then (if hasV m n = true then 0 else 2) else 180
def brL (d : List Nat) (n : Int) : List Nat := if brE d.length n = 0 then blD d n.toNat else []
def newE (n : Int) : Int := if bmayV n = true then 0 else 180
def newL (n : Int) : List Nat := if bmayV n = true then List.replicate (64 * n.toNat) 0 else []
def manV (m : Nat) : Int := if chkE m = 0 then ((m / 64 : Nat) : Int) else 0
theorem chk_cases (m : Nat) : (chkE m = 0 ∧ m % 64 = 0 ∧ 64 ≤ m ∧ m ≤ 4096) ∨ chkE m = 180 := by
  unfold chkE
  split
  · next h => exact .inl ⟨rfl, h⟩
  · exact .inr rfl
theorem has_iff {m : Nat} {n : Int} (h : m % 64 = 0) : hasV m n = true ↔ 0 ≤ n ∧ 64 * n + 64 ≤ (m : Int) := by
  unfold hasV
  rw [Bool.and_eq_true, decide_eq_true_iff, decide_eq_true_iff]
  constructor
  · rintro ⟨a, b⟩; exact ⟨a, by omega⟩
  · rintro ⟨a, b⟩; exact ⟨a, by omega⟩
theorem wr_ok {m : Nat} (hm : m % 64 = 0) : ∀ {l : List Pw}, wrE m l = 0 → ∀ p ∈ l, okP m p
  | [], _, p, hp => by cases hp
  | q :: l, h, p, hp => by
    unfold wrE at h
    by_cases h1 : hasV m q.n = true
    · rw [if_pos h1] at h
      by_cases h2 : q.data.length = 64
      · rw [if_pos h2] at h
        rcases List.mem_cons.1 hp with rfl | hp
        · obtain ⟨a, b⟩ := (has_iff hm).1 h1
          exact ⟨a, b, h2⟩
        · exact wr_ok hm h p hp
      · rw [if_neg h2] at h; exact absurd h (by decide)
    · rw [if_neg h1] at h; exact absurd h (by decide)
theorem wr_cases (m : Nat) : ∀ l : List Pw, wrE m l = 0 ∨ wrE m l = 2 ∨ wrE m l = 8
  | [] => .inl rfl
  | q :: l => by
    unfold wrE
    split
    · split
      · exact wr_cases m l
      · exact .inr (.inr rfl)
    · exact .inr (.inl rfl)
/-- A write that may not be, at place k, the ones ahead of it being right. -/
theorem wr_at {m : Nat} : ∀ {l : List Pw} {k : Nat} (hk : k < l.length), wrE m (l.take k) = 0 → wrE m (l.take (k + 1)) = (if hasV m l[k].n = true then (if l[k].data.length = 64 then 0 else 8) else 2)
  | [], k, hk, _ => by simp at hk
  | p :: l, 0, hk, h => by
    show wrE m [p] = _
    unfold wrE
    rfl
  | p :: l, k + 1, hk, h => by
    have h' : wrE m (p :: l.take k) = 0 := h
    show wrE m (p :: l.take (k + 1)) = _
    unfold wrE at h' ⊢
    by_cases h1 : hasV m p.n = true
    · rw [if_pos h1] at h' ⊢
      by_cases h2 : p.data.length = 64
      · rw [if_pos h2] at h' ⊢
        have := wr_at (m := m) (l := l) (k := k) (by simpa using hk) h'
        simpa using this
      · rw [if_neg h2] at h'; exact absurd h' (by decide)
    · rw [if_neg h1] at h'; exact absurd h' (by decide)
/-- The first error stays. -/
theorem wr_take {m : Nat} : ∀ {l : List Pw} {k : Nat}, wrE m (l.take k) ≠ 0 → wrE m l = wrE m (l.take k)
  | [], k, h => by simp
  | p :: l, 0, h => absurd rfl h
  | p :: l, k + 1, h => by
    have h' : wrE m (p :: l.take k) ≠ 0 := h
    show wrE m (p :: l) = wrE m (p :: l.take k)
    unfold wrE at h' ⊢
    by_cases h1 : hasV m p.n = true
    · rw [if_pos h1] at h'
      rw [if_pos h1, if_pos h1]
      by_cases h2 : p.data.length = 64
      · rw [if_pos h2] at h'
        rw [if_pos h2, if_pos h2]
        exact wr_take h'
      · rw [if_neg h2, if_neg h2]
    · rw [if_neg h1, if_neg h1]
/-- So many whole ones, the last of them told by itself. -/
theorem doD_snoc : ∀ (l : List Pw) (k t : Nat) (d : List Nat) (hk : k < l.length), doD l k t d = wrD (doD l k 0 d) l[k].data l[k].n.toNat t
  | [], k, t, d, hk => by simp at hk
  | p :: l, 0, t, d, hk => by
    show wrD d p.data p.n.toNat t = wrD (wrD d p.data p.n.toNat 0) p.data p.n.toNat t
    rw [wrD_none]
  | p :: l, k + 1, t, d, hk => doD_snoc l k t _ (by simpa using hk)
theorem doD_next (l : List Pw) (k : Nat) (d : List Nat) (hk : k < l.length) : doD l (k + 1) 0 d = wrD (doD l k 0 d) l[k].data l[k].n.toNat 64 := by
  rw [← doD_full l k d hk, doD_snoc l k 64 d hk]
theorem wrD_lt {d b : List Nat} (hd : ∀ x ∈ d, x < 256) (hb : ∀ x ∈ b, x < 256) (n t : Nat) : ∀ x ∈ wrD d b n t, x < 256 := by
  intro x hx
  unfold wrD at hx
  simp only [List.mem_append] at hx
  rcases hx with hx | hx | hx
  · exact hd x (List.mem_of_mem_take hx)
  · exact hb x (List.mem_of_mem_take hx)
  · exact hd x (List.mem_of_mem_drop hx)
theorem doD_lt : ∀ (l : List Pw) (w t : Nat) (d : List Nat), (∀ p ∈ l, ∀ x ∈ p.data, x < 256) → (∀ x ∈ d, x < 256) → ∀ x ∈ doD l w t d, x < 256
  | [], _, _, d, _, hd => hd
  | p :: l, 0, t, d, h, hd => wrD_lt hd (h p (by simp)) _ _
  | p :: l, w + 1, t, d, h, hd => doD_lt l w t _ (fun q hq => h q (by simp [hq])) (wrD_lt hd (h p (by simp)) _ _)

/-! ### Rows of bytes -/
/-- Block g is these bytes just. -/
def Row (w : World) (g : Nat) (L : List Nat) : Prop := w.heap[g]? = some (.cells (L.map byteV).toArray 5 (0, 0))
theorem Row.lt {w : World} {g : Nat} {L : List Nat} (h : Row w g L) : g < w.heap.size := (Array.getElem?_eq_some_iff.1 h).1
theorem Row.kept {w w' : World} {g : Nat} {L : List Nat} {r : Option Nat} (h : Row w g L) (k : Kept w w' r) (hr : some g ≠ r) : Row w' g L := (k.block g h.lt hr).trans h
theorem Row.cell {w : World} {g : Nat} {L : List Nat} (h : Row w g L) {i : Nat} (hi : i < L.length) : w.cell? ⟨g, i, none⟩ = some (.int .u8 ((L.getD i 0 : Nat) : Int)) := by
  unfold Row at h
  simp only [World.cell?, h]
  simp [hi]
theorem Row.frozen {w : World} {g : Nat} {L : List Nat} (h : Row w g L) (i : Nat) : w.frozen? ⟨g, i, none⟩ = false := by
  unfold Row at h
  simp [World.frozen?, h]
theorem Row.by_ {w : World} {g : Nat} {L : List Nat} (h : Row w g L) (hl : L.length ≤ 9223372036854775807) (hb : ∀ x ∈ L, x < 256) : By w (some ⟨g, 0, none⟩) L.length L :=
  ⟨rfl, hl, hb, fun _ => ⟨g, 0, rfl, h.lt, fun i hi => by rw [Nat.zero_add]; exact h.cell hi⟩⟩
theorem Row.set {w : World} {g : Nat} {L : List Nat} (h : Row w g L) (i x : Nat) : Row (w.setCell ⟨g, i, none⟩ (byteV x)) g (L.set i x) := by
  unfold Row
  rw [setCell_eq_setRow w g i _ 5 (0, 0) _ h, setRow_heap w g _ _ 5 (0, 0) h]
  congr 2
  simp [List.map_set]
theorem row_made (w : World) (n : Nat) : Row (w.alloc (.cells (madeCells #[.int .u8 0] n) 5)) w.heap.size (List.replicate n 0) := by
  unfold Row
  rw [blk_alloc_new]
  congr 2
  apply Array.ext
  · simp [madeCells]
  · intro i h1 h2
    simp [madeCells, Nat.mod_one]
/-- A slice that a call made: nil, or a row of its own from its beginning to its end. -/
structure Dv (w0 w : World) (a : Option Addr) (n c : Nat) (L : List Nat) : Prop where
  size : L.length = n
  cap : c = n
  max : n ≤ 4096
  lt : ∀ x ∈ L, x < 256
  at_ : (a = none ∧ n = 0) ∨ ∃ g, a = some ⟨g, 0, none⟩ ∧ w0.heap.size ≤ g ∧ Row w g L
theorem Dv.none (w0 w : World) : Dv w0 w none 0 0 [] := ⟨rfl, rfl, by omega, fun _ h => (nomatch h), .inl ⟨rfl, rfl⟩⟩
theorem Dv.row {w0 w : World} {g : Nat} {L : List Nat} (h : Row w g L) (hg : w0.heap.size ≤ g) (hm : L.length ≤ 4096) (hb : ∀ x ∈ L, x < 256) : Dv w0 w (some ⟨g, 0, Option.none⟩) L.length L.length L := ⟨rfl, rfl, hm, hb, .inr ⟨g, rfl, hg, h⟩⟩
theorem Dv.come {w0 w : World} {a : Option Addr} {n c : Nat} {L : List Nat} (h : Dv w0 w a n c L) : Come w a n c L := by
  obtain ⟨h1, h2, h3, h4, h5⟩ := h
  subst h2
  rcases h5 with ⟨rfl, rfl⟩ | ⟨g, rfl, _, hr⟩
  · have : L = [] := List.length_eq_zero_iff.1 h1
    subst this
    exact ⟨By.nil _ _, fun _ => rfl, Nat.le_refl _, by omega⟩
  · subst h1
    exact ⟨hr.by_ (by omega) h4, fun e => (nomatch e), Nat.le_refl _, by omega⟩
theorem Dv.kept {w0 w w' : World} {a : Option Addr} {n c : Nat} {L : List Nat} (h : Dv w0 w a n c L) (k : Kept w w' Option.none) : Dv w0 w' a n c L := by
  obtain ⟨h1, h2, h3, h4, h5⟩ := h
  refine ⟨h1, h2, h3, h4, ?_⟩
  rcases h5 with h5 | ⟨g, e, hg, hr⟩
  · exact .inl h5
  · exact .inr ⟨g, e, hg, hr.kept k (by simp)⟩
theorem Dv.from {w0 w1 w : World} {a : Option Addr} {n c : Nat} {L : List Nat} (h : Dv w1 w a n c L) (hs : w0.heap.size ≤ w1.heap.size) : Dv w0 w a n c L := by
  obtain ⟨h1, h2, h3, h4, h5⟩ := h
  refine ⟨h1, h2, h3, h4, ?_⟩
  rcases h5 with h5 | ⟨g, e, hg, hr⟩
  · exact .inl h5
  · exact .inr ⟨g, e, by omega, hr⟩
theorem Come.kpt {w w' : World} {a : Option Addr} {n c : Nat} {L : List Nat} (h : Come w a n c L) (k : Kept w w' none) : Come w' a n c L := ⟨h.by_.kept k, h.nil, h.room, h.max⟩
theorem doD_all : ∀ (l : List Pw) (t : Nat) (d : List Nat), doD l l.length t d = doD l l.length 0 d
  | [], _, _ => rfl
  | p :: l, t, d => doD_all l t _
theorem getElem_getD {l : List Nat} {i : Nat} (h : i < l.length) : l[i] = l.getD i 0 := by simp [h]

theorem Row.far {w : World} {g : Nat} {L : List Nat} (h : Row w g L) {b : Nat} (hne : b ≠ g) (i : Nat) (v : Value) : Row (w.setCell ⟨b, i, none⟩ v) g L := by
  unfold Row at h ⊢
  simp only [World.setCell]
  rw [Array.getElem?_modify, if_neg hne]
  exact h
/-- A store into an elder block. -/
theorem Dv.far {w0 w : World} {a : Option Addr} {n c : Nat} {L : List Nat} (h : Dv w0 w a n c L) {b : Nat} (hb : b < w0.heap.size) (i : Nat) (v : Value) : Dv w0 (w.setCell ⟨b, i, Option.none⟩ v) a n c L := by
  obtain ⟨h1, h2, h3, h4, h5⟩ := h
  refine ⟨h1, h2, h3, h4, ?_⟩
  rcases h5 with h5 | ⟨g, e, hg, hr⟩
  · exact .inl h5
  · exact .inr ⟨g, e, hg, hr.far (by omega) _ _⟩
theorem cell_kpt {w w' : World} (k : Kept w w' none) {b i : Nat} (hb : b < w.heap.size) : w'.cell? ⟨b, i, none⟩ = w.cell? ⟨b, i, none⟩ := World.cell?_of_block (w := w) (a := ⟨b, i, none⟩) (k.block b hb (by simp))
theorem froz_kpt {w w' : World} (k : Kept w w' none) {b i : Nat} (hb : b < w.heap.size) : w'.frozen? ⟨b, i, none⟩ = w.frozen? ⟨b, i, none⟩ := by
  have := k.block b hb (by simp)
  simp only [World.frozen?, this]
/-- A device in a box of its own. -/
structure Db (w : World) (b : Nat) (a : Option Addr) (n c : Nat) : Prop where
  c0 : w.cell? ⟨b, 0, none⟩ = some (.slice a n c)
  f0 : w.frozen? ⟨b, 0, none⟩ = false
  lt : b < w.heap.size
theorem db_alloc (w : World) (a : Option Addr) (n c : Nat) (t : TypeId) : Db (w.alloc (.cells #[.slice a n c] t)) w.heap.size a n c := by
  have h := heap_alloc_new w (.cells #[.slice a n c] t)
  exact ⟨World.cell?_alloc_mark .., by simp only [World.frozen?, h]; rfl, by simp⟩
theorem Db.kept {w w' : World} {b : Nat} {a : Option Addr} {n c : Nat} (h : Db w b a n c) (k : Kept w w' none) : Db w' b a n c :=
  ⟨(cell_kpt k h.lt).trans h.c0, (froz_kpt k h.lt).trans h.f0, Nat.lt_of_lt_of_le h.lt k.size⟩
theorem Db.row {w w' : World} {b : Nat} {a : Option Addr} {n c : Nat} {r : Nat} (h : Db w b a n c) (k : Kept w w' (some r)) (hr : b ≠ r) : Db w' b a n c := by
  have e := k.block b h.lt (fun q => hr (Option.some.inj q))
  refine ⟨?_, ?_, Nat.lt_of_lt_of_le h.lt k.size⟩
  · exact (World.cell?_of_block (w := w) (a := ⟨b, 0, none⟩) e).trans h.c0
  · have := h.f0
    simp only [World.frozen?, e] at this ⊢
    exact this
theorem Db.set {w : World} {b : Nat} {a : Option Addr} {n c : Nat} (h : Db w b a n c) (a' : Option Addr) (n' c' : Nat) : Db (w.setCell ⟨b, 0, none⟩ (.slice a' n' c')) b a' n' c' :=
  ⟨World.cell?_setCell_same _ _ _ h.c0, by rw [World.frozen?_setCell]; exact h.f0, by simpa [World.setCell] using h.lt⟩
theorem Db.far {w : World} {b : Nat} {a : Option Addr} {n c : Nat} (h : Db w b a n c) {g : Nat} (hne : g ≠ b) (i : Nat) (v : Value) : Db (w.setCell ⟨g, i, none⟩ v) b a n c :=
  ⟨(World.cell?_setCell_other _ _ _ _ (by simp [hne])).trans h.c0, by rw [World.frozen?_setCell]; exact h.f0, by simpa [World.setCell] using h.lt⟩

/-! ### copy -/
theorem copy_cells {L M : List Nat} {off t : Nat} (ht : M.length = t) : (splice (L.map byteV) off (M.map byteV)) = (L.take off ++ (M ++ L.drop (off + t))).map byteV := by
  subst ht
  simp [splice, List.map_take, List.map_drop]
theorem bytes_news' {w : World} {a : Option Addr} {m : Nat} {M : List Nat} (h : By w a m M) (hp : 0 < m) : ∃ ad, a = some ad ∧ ∀ j u, (M.map byteV)[j]? = some u → w.cell? (ad.add j) = some u := by
  obtain ⟨b, off, rfl, hb, hc⟩ := h.at_ hp
  exact ⟨_, rfl, bytes_news h.size hc⟩
set_option maxRecDepth 100000 in
theorem wpList_cp {ops : Array Oper} {rest : List Oper} {o : Oper} {act : Act} {Q : Exit → Act → World → Prop} {w : World} (hgd : o.guard = none) (d s : Operand)
    (ho : o.op = .call { callee := .builtin .copy, args := #[d, s], argTypes := #[22, 22] })
    (dp sp : Option Addr) (dLen dCap sLen sCap : Nat) (hd : act.eval d = .slice dp dLen dCap) (hs : act.eval s = .slice sp sLen sCap)
    (g off : Nat) (L M : List Nat) (hR : Row w g L) (hB : By w sp sLen M) (hle : sLen ≤ dLen) (hfit : off + sLen ≤ L.length) (hdp : 0 < sLen → dp = some ⟨g, off, none⟩)
    (h : ∀ w', Row w' g (L.take off ++ (M ++ L.drop (off + sLen))) → Kept w w' (some g) → wpList Try.prog ops Q rest (act.put o.dst (goInt sLen)) w') : wpList Try.prog ops Q (o :: rest) act w := by
  have hsz : (Try.prog.info? 5).map (·.size) = some 1 := by
    have := Try.info5
    cases hq : Try.prog.info? 5 with
    | none => rw [hq] at this; simp at this
    | some i => rw [hq] at this; simp at this; simp [this]
  have hM := hB.size
  have e : (M.map byteV).length = sLen := by simp [hM]
  by_cases h0 : sLen = 0
  · subst h0
    have hM0 : M = [] := List.length_eq_zero_iff.1 hM
    subst hM0
    refine wpList_copy_nothing hgd d s 22 22 ho 5 Try.uB hsz dp sp dLen dCap 0 sCap hd hs (by simp) ?_
    exact h w (by simpa using hR) (Kept.refl _ _)
  · obtain ⟨ad, rfl, hsrc⟩ := bytes_news' hB (by omega)
    obtain rfl := hdp (by omega)
    refine wpList_copy_own hgd d s 22 22 ho 5 Try.uB hsz g off dLen dCap ad sLen sCap hd hs _ 5 hR (M.map byteV) (by rw [e]; exact (Nat.min_eq_left hle).symm) hsrc (by simp [hM]; omega) (bytes_one M) ?_
    rw [e]
    refine h _ ?_ ?_
    · unfold Row
      rw [setRow_heap w g _ _ 5 (0, 0) hR]
      congr 2
      simp [List.map_take, List.map_drop]
    · exact ⟨rfl, rfl, rfl, by simp [World.setRow], fun k hk hr => setRow_other w g k _ (fun e => hr (by rw [e]))⟩

end Go.Proofs.Ytlabjamkaebnjaa
