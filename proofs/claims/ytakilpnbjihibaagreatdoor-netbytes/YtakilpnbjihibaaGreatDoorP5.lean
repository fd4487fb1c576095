import Derived.Test.YtakilpnbjihibaaGreatDoorP4
import Derived.WalkMore
import Derived.Laws.EntriesVeiled
import Derived.Deep.LoopGhost
import Derived.Maps.AppendAt
import Derived.Test.YtakilpnbjihibaaGreatDoorP3
import Derived.Laws.AppendOwnNone
import Derived.Laws.MakeOwn
namespace Go.Proofs.YtakilpnbjihibaaGreatDoor
set_option linter.unusedVariables false
set_option linter.unusedSimpArgs false
set_option maxHeartbeats 4000000
set_option maxRecDepth 100000
section
open Go.RowKit Go.Lib Go.Deep
theorem cycles_any {B:Nat} {X:Sa} {S:St} {w:World} (h:Sbox w B X S) (hT:Tabb w) (hBs:Base S) (z:Int) :
 Calls Tryz.prog 106 #[.pointer (some ⟨B,0,none⟩),.int .i64 z] w fun e w'=>e=.returned (.bool (cyclesB S)) /\ Kept w w' none:=by
 have HB:=Hid.mk' h;have HT:=Hid.mk' hT;have HS:=Hid.mk' hBs;have hp8:=hBs.sh.ok.np;have c4:=h.c4;clear h hT hBs;go_enter Tryz.func106,Tryz.ntmps106;go_wp2;go_loopw [5,12] (fun s i wr=>∃ k:Nat,k <= S.phases.length /\ i=.int .i64 k /\ s=.int .i64 (roundN S k) /\ Kept w wr none) (fun _ i _=>S.phases.length - (intOf i).toNat)
 case atStart=>exact ⟨0,Nat.zero_le _,rfl,rfl,Kept.refl _ _⟩
 case round =>
  obtain ⟨k,hk,rfl,rfl,hkw⟩:=hrel;have hr:=HS.out.round k hk;by_cases hlt:k < S.phases.length
  . have hp:=HS.out.part hlt;have HR:Hid (roundN S (k + 1)=roundN S k + partM S k):=rfl;generalize roundN S k=R at *;go_wp2_with (go_at_call 126;refine (part_any (HB.out.kept hkw) (HT.out.kept hkw) HS.out k hlt).mono ?_;rintro e w2 ⟨rfl,hk2⟩);go_roundw
    case rel=>exact ⟨k + 1,by omega,by go_num,by rw [HR.out],hkw.tr hk2⟩
    case measure=>simp [intOf];omega
  . have hkk:k=S.phases.length:=by omega
    subst hkk;have c9:=(HB.out.kept hkw).c9;have c10:=(HB.out.kept hkw).c10;have hb0:=block_lt c9;have HR:Hid (roundM S=roundN S S.phases.length):=rfl;generalize roundN S S.phases.length=R at *
    cases h1:inB S.low R 1048576 with
    | false =>
     have HE:Hid (cyclesB S=false):=by show cyclesB S=false;unfold cyclesB;rw [HR.out,h1];rfl
     go_wp2;go_quiet ((go_at_call 121;exact Calls.quiet_of_same (within_is _ _ _ _ _ h1)));go_wp2;go_ret;exact ⟨by rw [HE.out];rfl,hkw.tr (Kept.drewN _ _ _)⟩
    | true =>
     have HE:Hid (cyclesB S=inB S.high S.low 1048576):=by show cyclesB S=_;unfold cyclesB;rw [HR.out,h1];rfl
     go_wp2;go_quiet ((first | (go_at_call_of 121 S.high;exact Calls.quiet_of_same (within_any _ _ _ _)) | (go_at_call 121;exact Calls.quiet_of_same (within_is _ _ _ _ _ h1))));go_wp2;go_ret;exact ⟨by rw [HE.out];rfl,hkw.tr (Kept.drewN _ _ _)⟩
theorem drop_getD {l:List Int} {k:Nat} (h:k < l.length):l.drop k=l.getD k 0 :: l.drop (k + 1):=by
 rw [List.drop_eq_getElem_cons h];simp [h]
theorem box3 (w:World) (a b c:Value) (t:TypeId):(w.alloc (.cells #[a,b,c] t)).cell? ⟨w.heap.size,0,none⟩=some a /\ (w.alloc (.cells #[a,b,c] t)).cell? ⟨w.heap.size,1,none⟩=some b /\ (w.alloc (.cells #[a,b,c] t)).cell? ⟨w.heap.size,2,none⟩=some c :=
 ⟨by simp [World.cell?_alloc_mark],by simp [World.cell?_alloc_mark],by simp [World.cell?_alloc_mark]⟩
structure Span (S:St):Prop where
 base:Base S
 low:0 <= S.low
 high:S.high <= 1048576
theorem fits_any {B:Nat} {X:Sa} {S:St} {w:World} (h:Sbox w B X S) (hT:Tabb w) (hSp:Span S) (p:Pl) (a:Option Addr) (c:Nat) (hI:Ints w a p.splits.length c p.splits) :
 Calls Tryz.prog 127 #[.pointer (some ⟨B,0,none⟩),planV p a c] w fun e w'=>e=.returned (.bool (planB S p)) /\ Kept w w' none:=by
 have HB:=Hid.mk' h;have HT:=Hid.mk' hT;have HS:=Hid.mk' hSp;have HI:=Hid.mk' hI;have hp8:=hSp.base.sh.ok.np;have hlow:=hSp.low;have hhigh:=hSp.high;have hBl:=h.lt;have c9:=h.c9;have c10:=h.c10;have c4:=h.c4;have hlm:p.splits.length <= 9223372036854775807:=by have:=hI.cap.room;have:=hI.cap.max;omega
 have hkA:Kept w (w.alloc (.cells #[.int .i64 p.cycle,.int .i64 p.offset,.slice a p.splits.length c] 79)) none:=Kept.alloc _ _ _ _ _;have HK:=Hid.mk' hkA;clear h hT hSp hI hkA
 cases h1:inB p.cycle S.low S.high with
 | false =>
  have HE:Hid (planB S p=false):=by show planB S p=false;unfold planB;rw [h1];rfl
  go_enter Tryz.func127,Tryz.ntmps127;go_wp2;go_quiet ((go_at_call 121;exact Calls.quiet_of_same (within_is _ _ _ _ _ h1)));go_wp2;go_ret;exact ⟨by rw [HE.out];rfl,HK.out.tr (Kept.drewN _ _ _)⟩
 | true =>
  have hcy:=inB_iff.1 h1;have hwr:IntKind.i64.wrap (p.cycle - 1)=p.cycle - 1:=wrap_in (by omega) (by omega)
  cases h2:inB p.offset 0 (p.cycle - 1) with
  | false =>
   have HE:Hid (planB S p=false):=by show planB S p=false;unfold planB;rw [h1,h2];rfl
   go_enter Tryz.func127,Tryz.ntmps127;go_wp2;go_quiet ((first | (go_at_call_of 121 S.low;exact Calls.quiet_of_same (within_is _ _ _ _ _ h1)) | (go_at_call 121;exact Calls.quiet_of_same (within_is _ _ _ _ _ h2))));go_wp2;go_ret;exact ⟨by rw [HE.out];rfl,HK.out.tr (Kept.drewN _ _ _)⟩
  | true =>
   by_cases hl:p.splits.length=S.phases.length
   . have h3:(((p.splits.length:Nat):Int) != ((S.phases.length:Nat):Int))=false:=by rw [hl];simp
     have HE:Hid (planB S p=splitsB S 0 p.splits p.cycle):=by show planB S p=_;unfold planB;rw [h1,h2,decide_eq_true hl];rfl
     have HL:=Hid.mk' hl;have hl1:p.splits.length <= S.phases.length:=by omega
     have hl2:S.phases.length <= p.splits.length:=by omega
     clear hl;obtain ⟨bi,oi,ei,hbi,hci⟩:=HI.out.at_ (by omega);subst ei;have HC:=Hid.mk' hci;clear hci;go_enter Tryz.func127,Tryz.ntmps127;go_wp2;go_quiet ((first | (go_at_call_of 121 S.low;exact Calls.quiet_of_same (within_is _ _ _ _ _ h1)) | (go_at_call 121;exact Calls.quiet_of_same (within_is _ _ _ _ _ h2))));go_wp2;go_loopw [5,45] (fun s i wr=>∃ (k:Nat) (left:Int),k <= p.splits.length /\ i=.int .i64 k /\ s=.int .i64 left /\ 0 <= left /\ left <= 1048576 /\ splitsB S k (p.splits.drop k) left=splitsB S 0 p.splits p.cycle /\ Kept w wr none) (fun _ i _=>p.splits.length - (intOf i).toNat)
     case atStart=>exact ⟨0,p.cycle,Nat.zero_le _,rfl,rfl,by omega,by omega,rfl,HK.out.tr (Kept.drewN _ _ _)⟩
     case round =>
      obtain ⟨k,left,hk,rfl,rfl,hl0,hl1',hsp,hkw⟩:=hrel;have HSP:=Hid.mk' hsp;clear hsp;by_cases hlt:k < p.splits.length
      . have hki:=cell_kept0 (HC.out k hlt) hkw;have hp:=HS.out.base.part (i:=k) (by omega);have hst:splitsB S k (p.splits.drop k) left=(inB (p.splits.getD k 0) (partM S k) left && splitsB S (k + 1) (p.splits.drop (k + 1)) (left - p.splits.getD k 0)):=by rw [drop_getD hlt];rfl
        have HST:=Hid.mk' hst;clear hst;generalize hv:p.splits.getD k 0=v at *;clear hv
        cases h4:inB v (partM S k) left with
        | true =>
         have hb:=inB_iff.1 h4;go_wp2_with (first | (go_at_call 126;refine (part_any (HB.out.kept hkw) (HT.out.kept hkw) HS.out.base k (by omega)).mono ?_;rintro e w2 ⟨rfl,hk2⟩) | (go_at_call 121;refine (within_is _ _ _ _ _ h4).mono ?_;rintro e w3 ⟨rfl,rfl⟩));go_roundw
         case rel=>exact ⟨k + 1,left - v,by omega,by go_num,rfl,by omega,by omega,by rw [<- HSP.out,HST.out,h4];rfl,hkw.tr hk2⟩
         case measure=>simp [intOf];omega
        | false =>
         have HF:Hid (planB S p=false):=by show planB S p=false;rw [HE.out,<- HSP.out,HST.out,h4];rfl
         go_wp2_with (first | (go_at_call 126;refine (part_any (HB.out.kept hkw) (HT.out.kept hkw) HS.out.base k (by omega)).mono ?_;rintro e w2 ⟨rfl,hk2⟩) | (go_at_call 121;refine (within_is _ _ _ _ _ h4).mono ?_;rintro e w3 ⟨rfl,rfl⟩));go_ret;exact ⟨by rw [HF.out];rfl,hkw.tr hk2⟩
      . have hkk:k=p.splits.length:=by omega
        have HF:Hid (planB S p=(left == 0)):=by
         show planB S p=_
         rw [HE.out,<- HSP.out,hkk,List.drop_length];show decide (left=0)=(left == 0)
         rw [Bool.eq_iff_iff];simp
        go_wp2;go_ret;exact ⟨by rw [HF.out];rfl,hkw⟩
   . have h3:(((p.splits.length:Nat):Int) != ((S.phases.length:Nat):Int))=true:=by rw [bne_iff_ne];omega
     have HE:Hid (planB S p=false):=by show planB S p=false;unfold planB;rw [h1,h2,decide_eq_false hl];rfl
     go_enter Tryz.func127,Tryz.ntmps127;go_wp2;go_quiet ((first | (go_at_call_of 121 S.low;exact Calls.quiet_of_same (within_is _ _ _ _ _ h1)) | (go_at_call 121;exact Calls.quiet_of_same (within_is _ _ _ _ _ h2))));go_wp2;go_ret;exact ⟨by rw [HE.out];rfl,HK.out.tr (Kept.drewN _ _ _)⟩
theorem planFits_any {B:Nat} {X:Sa} {S:St} {w:World} (h:Sbox w B X S) (hT:Tabb w) (hSp:Span S) (i:Nat) (hi:i < S.plans.length) (hl:S.plans.length <= 8) :
 Calls Tryz.prog 107 #[.pointer (some ⟨B,0,none⟩),.int .i64 i] w fun e w'=>e=.returned (.bool (planB S (S.pl i))) /\ Kept w w' none:=by
 have HB:=Hid.mk' h;have HT:=Hid.mk' hT;have HS:=Hid.mk' hSp;have c11:=h.c11;obtain ⟨b,off,a',c',e,k0,k1,k2,hI⟩:=h.sat.l.at_ hi;rw [e] at c11;have HP:Hid (S.pl i=S.plans.getD i q0):=rfl;generalize S.plans.getD i q0=P at *;have HI:=Hid.mk' hI;clear h hT hSp hI e;go_enter Tryz.func107,Tryz.ntmps107;go_wp2_with (go_at_call 127;refine (fits_any HB.out HT.out HS.out P a' c' HI.out).mono ?_;rintro e w2 ⟨rfl,hk2⟩);go_ret;exact ⟨by rw [HP.out];rfl,hk2⟩
def ofN (k:Nat):Nat:=[0,0,1,1,1,2,0,3,0,4].getD k 0
def fnN (k:Nat):Nat:=[98,99,100,101,102,103,104,105,106,107].getD k 0
def manyN (S:St) (o:Nat):Nat:=[1,S.groups.length,S.phases.length,S.eyes.length,S.plans.length].getD o 0
def condB (S:St) (k i:Nat):Bool:=match k with
 | 0=>countsB S
 | 1=>ownB S
 | 2=>groupB S i
 | 3=>apartB S i
 | 4=>betweenB S i
 | 5=>phaseB S i
 | 6=>servedB S
 | 7=>eyeB S i
 | 8=>cyclesB S
 | _=>planB S (S.pl i)
theorem allB_one (b:Bool):allB 1 (fun _=>b)=b:=by simp [allB]
theorem siteB_eq (S:St):siteB S=allB 10 (fun k=>allB (manyN S (ofN k)) (condB S k)):=by
 have:∀ f:Nat -> Bool,allB 10 f=(f 0 && f 1 && f 2 && f 3 && f 4 && f 5 && f 6 && f 7 && f 8 && f 9):=fun f=>by
  simp [allB,List.range,List.range.loop,Bool.and_assoc]
 rw [this];show siteB S=(allB 1 (fun _=>countsB S) && allB 1 (fun _=>ownB S) && allB S.groups.length (groupB S) && allB S.groups.length (apartB S) && allB S.groups.length (betweenB S) && allB S.phases.length (phaseB S) && allB 1 (fun _=>servedB S) && allB S.eyes.length (eyeB S) && allB 1 (fun _=>cyclesB S) && allB S.plans.length (fun i=>planB S (S.pl i)))
 rw [allB_one,allB_one,allB_one,allB_one];rfl
theorem okay_of {S:St} (h:∀ i,i < manyN S (ofN 0) -> condB S 0 i=true):Okay S:=counts_iff.1 (h 0 Nat.zero_lt_one)
theorem shape_of {S:St} (h:∀ j,j < 6 -> ∀ i,i < manyN S (ofN j) -> condB S j i=true):Shape S:=by
 have hO:=okay_of (h 0 (by omega));refine ⟨hO,fun a ha=>?_,fun i hi=>?_⟩
 . have h4:betweenB S a=true:=h 4 (by omega) a ha;unfold betweenB at h4;simp only [Bool.and_eq_true,decide_eq_true_eq] at h4;exact h4.1
 . have h5:phaseB S i=true:=h 5 (by omega) i hi;unfold phaseB at h5;simp only [Bool.and_eq_true,decide_eq_true_eq] at h5;exact h5.1.1.1.1.1.1.2
theorem base_of {S:St} (h:∀ j,j < 6 -> ∀ i,i < manyN S (ofN j) -> condB S j i=true):Base S:=by
 have hS:=shape_of h;refine ⟨hS,fun i hi=>?_,fun a b ha hb=>?_⟩
 . have h5:phaseB S i=true:=h 5 (by omega) i hi;unfold phaseB at h5;simp only [Bool.and_eq_true,decide_eq_true_eq] at h5;exact ⟨h5.1.1.1.1.2,h5.1.1.2⟩
 . have h4:betweenB S a=true:=h 4 (by omega) a ha;unfold betweenB at h4;simp only [Bool.and_eq_true,decide_eq_true_eq] at h4;have h6:=allB_iff.1 h4.2 b hb;unfold betB at h6;split at h6
   . exact (inB_iff.1 h6).2
   . have:=of_decide_eq_true h6;omega
theorem span_of {S:St} (h:∀ j,j < 9 -> ∀ i,i < manyN S (ofN j) -> condB S j i=true):Span S:=by
 have hB:=base_of (fun j hj=>h j (by omega));have h8:cyclesB S=true:=h 8 (by omega) 0 Nat.zero_lt_one;unfold cyclesB at h8;simp only [Bool.and_eq_true,inB_iff] at h8;have:=hB.round S.phases.length (Nat.le_refl _);unfold roundM at h8;exact ⟨hB,by omega,by omega⟩
theorem kept_drewn {w w':World} (h:∃ m,w'=w.drewN m):Kept w w' none:=by
 obtain ⟨m,rfl⟩:=h;exact Kept.drewN _ _ _
theorem cond_any {B:Nat} {X:Sa} {S:St} {w:World} (h:Sbox w B X S) (hT:Tabb w):∀ (k:Nat) (hk:k < 10) (hpre:∀ j,j < k -> ∀ i,i < manyN S (ofN j) -> condB S j i=true) (i:Nat) (hi:i < manyN S (ofN k)),
 Calls Tryz.prog (fnN k) #[.pointer (some ⟨B,0,none⟩),.int .i64 i] w fun e w'=>e=.returned (.bool (condB S k i)) /\ Kept w w' none
 | 0,_,_,i,_=>(counts_any h i).mono fun e w' ⟨h1,h2⟩=>⟨h1,by rw [h2];exact Kept.refl _ _⟩
 | 1,_,_,i,_=>(own_any h i).mono fun e w' ⟨h1,h2⟩=>⟨h1,by rw [h2];exact Kept.refl _ _⟩
 | 2,_,hp,i,hi=>group_any h i hi (okay_of (hp 0 (by omega))).ng.2
 | 3,_,hp,i,hi=>(apart_any h i hi (okay_of (hp 0 (by omega)))).mono fun e w' ⟨h1,h2⟩=>⟨h1,kept_drewn h2⟩
 | 4,_,hp,i,hi=>(between_any h i hi (okay_of (hp 0 (by omega)))).mono fun e w' ⟨h1,h2⟩=>⟨h1,kept_drewn h2⟩
 | 5,_,hp,i,hi=>phase_any h hT (okay_of (hp 0 (by omega))) i hi
 | 6,_,hp,i,hi=>served_any h i (okay_of (hp 0 (by omega)))
 | 7,_,hp,i,hi=>eye_any h i hi (okay_of (hp 0 (by omega)))
 | 8,_,hp,i,hi=>cycles_any h hT (base_of (fun j hj=>hp j (by omega))) i
 | 9,_,hp,i,hi=>planFits_any h hT (span_of (fun j hj=>hp j (by omega))) i hi (okay_of (hp 0 (by omega))).nl
 | k + 10,hk,_,_,_=>absurd hk (by omega)
structure Conds (w:World) (g:Nat):Prop where
 lt:g < w.heap.size
 of:∀ k,k < 10 -> w.cell? ⟨g,k * 2,none⟩=some (.int .u8 (ofN k:Int))
 fn:∀ k,k < 10 -> w.cell? ⟨g,k * 2 + 1,none⟩=some (.func (.func (fnN k)) #[] #[])
theorem Conds.kept {w w':World} {g:Nat} (h:Conds w g) (q:Kept w w' none):Conds w' g :=
 ⟨Nat.lt_of_lt_of_le h.lt q.size,fun k hk=>cell_kept0 (h.of k hk) q,fun k hk=>cell_kept0 (h.fn k hk) q⟩
theorem conditions_any (w:World):Calls Tryz.prog 87 #[] w fun e w'=>∃ g,e=.returned (.slice (some ⟨g,0,none⟩) 10 10) /\ Conds w' g /\ Kept w w' none:=by
 go_enter Tryz.func87,Tryz.ntmps87;go_wp2;go_ret;refine ⟨w.heap.size,rfl,⟨by simp,fun k hk=>?_,fun k hk=>?_⟩,Kept.alloc _ _ _ _ _⟩
 . have:k=0 \/ k=1 \/ k=2 \/ k=3 \/ k=4 \/ k=5 \/ k=6 \/ k=7 \/ k=8 \/ k=9:=by omega
   rcases this with rfl | rfl | rfl | rfl | rfl | rfl | rfl | rfl | rfl | rfl <;> simp [World.cell?_alloc_mark,ofN]
 . have:k=0 \/ k=1 \/ k=2 \/ k=3 \/ k=4 \/ k=5 \/ k=6 \/ k=7 \/ k=8 \/ k=9:=by omega
   rcases this with rfl | rfl | rfl | rfl | rfl | rfl | rfl | rfl | rfl | rfl <;> simp [World.cell?_alloc_mark,fnN]
structure Manys (w:World) (g:Nat) (S:St):Prop where
 at_:∀ o,o < 5 -> w.cell? ⟨g,o,none⟩=some (.int .i64 (manyN S o:Int))
theorem Manys.kept {w w':World} {g:Nat} {S:St} (h:Manys w g S) (q:Kept w w' none):Manys w' g S:=⟨fun o ho=>cell_kept0 (h.at_ o ho) q⟩
theorem ofN_lt (k:Nat) (h:k < 10):ofN k < 5:=by
 have:k=0 \/ k=1 \/ k=2 \/ k=3 \/ k=4 \/ k=5 \/ k=6 \/ k=7 \/ k=8 \/ k=9:=by omega
 rcases this with rfl | rfl | rfl | rfl | rfl | rfl | rfl | rfl | rfl | rfl <;> simp [ofN]
theorem manyN_le {X:Sa} {S:St} {w:World} (h:Sat w X S) (o:Nat):manyN S o <= 9223372036854775807:=by
 have h1:=h.gk;have h2:=h.pk;have h3:=h.ek;have h4:=h.l.cap;have a1:=h1.room;have b1:=h1.max;have a2:=h2.room;have b2:=h2.max;have a3:=h3.room;have b3:=h3.max;have a4:=h4.room;have b4:=h4.max
 match o with
 | 0=>show 1 <= _;omega
 | 1=>show S.groups.length <= _;omega
 | 2=>show S.phases.length <= _;omega
 | 3=>show S.eyes.length <= _;omega
 | 4=>show S.plans.length <= _;omega
 | o + 5=>show 0 <= _;omega
theorem call_in {P : Program} {f : FuncId} {fn : Func} {c : Code} (hf : P.funcs[f]? = some fn) (hn : (fn.name == "runtime.NumGoroutine") = false) (hb : fn.body = some c) (args : Array Value) (w : World) : (callFunc f args).run P w = .ok (.enter f args) w := by
 have h1 : fn.name ≠ "runtime.NumGoroutine" := by simpa using hn
 simp [callFunc,hf,h1,hb]
theorem enter_n (k:Nat) (hk:k < 10) (args:Array Value) (w:World):(callFunc (fnN k) args).run Tryz.prog w=.ok (.enter (fnN k) args) w:=by
 have:k=0 \/ k=1 \/ k=2 \/ k=3 \/ k=4 \/ k=5 \/ k=6 \/ k=7 \/ k=8 \/ k=9:=by omega
 rcases this with rfl | rfl | rfl | rfl | rfl | rfl | rfl | rfl | rfl | rfl
 . exact call_in Tryz.func98 (by kernel_rfl) rfl args w
 . exact call_in Tryz.func99 (by kernel_rfl) rfl args w
 . exact call_in Tryz.func100 (by kernel_rfl) rfl args w
 . exact call_in Tryz.func101 (by kernel_rfl) rfl args w
 . exact call_in Tryz.func102 (by kernel_rfl) rfl args w
 . exact call_in Tryz.func103 (by kernel_rfl) rfl args w
 . exact call_in Tryz.func104 (by kernel_rfl) rfl args w
 . exact call_in Tryz.func105 (by kernel_rfl) rfl args w
 . exact call_in Tryz.func106 (by kernel_rfl) rfl args w
 . exact call_in Tryz.func107 (by kernel_rfl) rfl args w
def checkE (S:St):Int:=if siteB S=true then 0 else 50
theorem check_any {X:Sa} {S:St} {w:World} (h:Sat w X S) (hT:Tabb w):Calls Tryz.prog 64 #[siteV X S] w fun e w'=>e=.returned (.int .i64 (checkE S)) /\ Kept w w' none:=by
 have hsb:=sbox_alloc h 49;have HML:=Hid.mk' (manyN_le h);have hl0:=HML.out 1;have hl1:=HML.out 2;have hl2:=HML.out 3;have hl3:=HML.out 4;have hl0':S.groups.length <= 9223372036854775807:=hl0;have hl1':S.phases.length <= 9223372036854775807:=hl1;have hl2':S.eyes.length <= 9223372036854775807:=hl2;have hl3':S.plans.length <= 9223372036854775807:=hl3;clear hl0 hl1 hl2 hl3;have HSB:=Hid.mk' hsb;have HT:=Hid.mk' hT;clear h hT hsb;go_enter Tryz.func64,Tryz.ntmps64;go_wp2;go_step3;go_wp2;go_step3;go_wp2_with (go_at_call 87;refine (conditions_any _).mono ?_;rintro e W0 ⟨g,rfl,hC,hk0⟩)
 have hM0:Manys (((w.alloc (.cells (cs9 X S) 49)).alloc (.cells #[.int .i64 1,.int .i64 (S.groups.length:Int),.int .i64 (S.phases.length:Int),.int .i64 (S.eyes.length:Int),.int .i64 (S.plans.length:Int)] 137))) (w.heap.size + 1) S:=by
  refine ⟨fun o ho=>?_⟩;have:o=0 \/ o=1 \/ o=2 \/ o=3 \/ o=4:=by omega
  rcases this with rfl | rfl | rfl | rfl | rfl <;> go_simp <;> rfl
 have hM:=hM0.kept hk0;have hS:=(HSB.out.kept (Kept.alloc _ #[.int .i64 1,.int .i64 (S.groups.length:Int),.int .i64 (S.phases.length:Int),.int .i64 (S.eyes.length:Int),.int .i64 (S.plans.length:Int)] 137 (0,0) none)).kept hk0;have hkw:Kept w W0 none:=((Kept.alloc w _ _ _ _).tr (Kept.alloc _ #[.int .i64 1,.int .i64 (S.groups.length:Int),.int .i64 (S.phases.length:Int),.int .i64 (S.eyes.length:Int),.int .i64 (S.plans.length:Int)] 137 (0,0) none)).tr hk0;have HM:=Hid.mk' hM;have HS:=Hid.mk' hS;have HC:=Hid.mk' hC;have HKW:=Hid.mk' hkw;clear hM0 hM hS hC hkw hk0;go_loopw [4,23] (fun ev i wr=>∃ k:Nat,k <= 10 /\ i=.int .i64 k /\ ev=.int .i64 0 /\ (∀ j,j < k -> ∀ i,i < manyN S (ofN j) -> condB S j i=true) /\ Kept W0 wr none) (fun _ i _=>10 - (intOf i).toNat)
 case atStart=>exact ⟨0,by omega,rfl,rfl,fun j hj=>by omega,Kept.refl _ _⟩
 case round =>
  obtain ⟨k,hk,rfl,rfl,hpre,hkr⟩:=hrel;have HPRE:=Hid.mk' hpre;clear hpre;by_cases hlt:k < 10
  . have ko:=(HC.out.kept hkr).of k hlt;have kf:=(HC.out.kept hkr).fn k hlt;have hog:=ofN_lt k hlt;have km:=(HM.out.kept hkr).at_ (ofN k) hog;have hmm:=HML.out (ofN k);have hbl:=block_lt km;generalize hq:ofN k=q at *;have HQ:=Hid.mk' hq;clear hq;generalize hn:manyN S q=n at *;have HN:=Hid.mk' hn;clear hn;have hen:=enter_n k hlt;go_wp2;have hkA:Kept W0 (wr.alloc (.cells #[.int .u8 (q:Int),.func (.func (fnN k)) #[] #[]] 143)) none:=hkr.tr (Kept.alloc _ _ _ _ _);have cA:=World.cell?_alloc_mark wr #[.int .u8 (q:Int),.func (.func (fnN k)) #[] #[]] 143 (0,0) 1;generalize hW1:wr.alloc (.cells #[.int .u8 (q:Int),.func (.func (fnN k)) #[] #[]] 143)=W1 at *;have hca:W1.cell? ⟨wr.heap.size,1,none⟩=some (.func (.func (fnN k)) #[] #[]):=by rw [cA];rfl
    clear hW1 cA;go_loopw [4,31] (fun ev i w2=>∃ j:Nat,j <= n /\ i=.int .i64 j /\ ev=.int .i64 0 /\ (∀ i,i < j -> condB S k i=true) /\ Kept W1 w2 none) (fun _ i _=>n - (intOf i).toNat)
    case atStart=>exact ⟨0,Nat.zero_le _,rfl,rfl,fun i hi=>by omega,Kept.refl _ _⟩
    case round =>
     obtain ⟨j,hj,rfl,rfl,hin,hk2⟩:=hrel;have HIN:=Hid.mk' hin;clear hin;by_cases hjn:j < n
     . have hcb:=cell_kept0 hca hk2;have hkk:=hkA.tr hk2;have hjm:j < manyN S (ofN k):=by rw [HQ.out,HN.out];exact hjn
       cases hb:condB S k j with
       | true =>
        go_wp2_with (refine (cond_any (HS.out.kept hkk) (HT.out.kept (HKW.out.tr hkk)) k hlt HPRE.out j hjm).mono ?_;rintro e w3 ⟨rfl,hk3⟩;rw [hb]);go_roundw
        case rel=>exact ⟨j + 1,by omega,by go_num,rfl,fun i hi=>(by
         by_cases e:i=j
         . subst e;exact hb
         . exact HIN.out i (by omega)),hk2.tr hk3⟩
        case measure=>simp [intOf];omega
       | false =>
        have HE:Hid (checkE S=50):=by
         show checkE S=50
         have:siteB S=false:=by rw [siteB_eq];exact allB_no hlt (allB_no hjm hb)
         unfold checkE;rw [this];rfl
        go_wp2_with (refine (cond_any (HS.out.kept hkk) (HT.out.kept (HKW.out.tr hkk)) k hlt HPRE.out j hjm).mono ?_;rintro e w3 ⟨rfl,hk3⟩;rw [hb])
        try rw [Exit.noGoto_ret]
        go_ret;exact ⟨by rw [HE.out];rfl,(HKW.out.tr hkk).tr hk3⟩
     . have hjj:j=n:=by omega
       go_wp2;go_roundw
       case rel=>exact ⟨k + 1,by omega,by go_num,rfl,fun j' hj'=>(by
        by_cases e:j'=k
        . subst e;intro i hi;rw [HQ.out,HN.out] at hi;exact HIN.out i (by omega)
        . exact HPRE.out j' (by omega)),hkA.tr hk2⟩
       case measure=>simp [intOf];omega
  . have hkk:k=10:=by omega
    have HE:Hid (checkE S=0):=by
     show checkE S=0
     have:siteB S=true:=by rw [siteB_eq];exact allB_iff.2 (fun j hj=>allB_iff.2 (HPRE.out j (by omega)))
     unfold checkE;rw [this];rfl
    go_wp2
    try rw [Exit.noGoto_ret]
    go_ret;exact ⟨by rw [HE.out];rfl,HKW.out.tr hkr⟩
theorem all_of {S:St} (h:siteB S=true):∀ j,j < 10 -> ∀ i,i < manyN S (ofN j) -> condB S j i=true:=fun j hj=>by
 rw [siteB_eq] at h;exact allB_iff.1 (allB_iff.1 h j hj)
theorem span_may {S:St} (h:siteB S=true):Span S:=span_of (fun j hj=>all_of h j (by omega))
theorem checkE_yes {S:St} (h:siteB S=true):checkE S=0:=by unfold checkE;rw [if_pos h]
theorem checkE_no {S:St} (h:siteB S=false):checkE S=50:=by unfold checkE;rw [if_neg (by rw [h];decide)]
theorem own_lower {w:World} {base b2 e size n:Nat} {v:Value} {xs:List Value} (h:w.ownsRow base e size v n xs) (hb:b2 <= base):w.ownsRow b2 e size v n xs:=by
 refine ⟨h.1,?_⟩;rcases h.2 with hn | ⟨g,cap,cur,rfl,hbg,rest⟩
 . exact .inl hn
 . exact .inr ⟨g,cap,cur,rfl,Nat.le_trans hb hbg,rest⟩
theorem Mine.lower {w:World} {base b2:Nat} {a:Option Addr} {n cap:Nat} {L:List Nat} (h:Mine w base a n cap L) (hb:b2 <= base):Mine w b2 a n cap L:=⟨own_lower h.own hb,h.nil,h.room,h.max⟩
abbrev Moved (w:World) (v v':Value):Prop:=v'.ownBlock=v.ownBlock \/ ∃ g,v'.ownBlock=some g /\ w.heap.size <= g
theorem own_keptR {w w':World} {r:Option Nat} {base e size n:Nat} {v:Value} {xs:List Value} (h:w.ownsRow base e size v n xs) (k:Kept w w' r) (hr:∀ i,v.ownBlock=some i -> some i ≠ r):w'.ownsRow base e size v n xs:=by
 refine ⟨h.1,?_⟩;rcases h.2 with hn | ⟨g,cap,cur,rfl,hb,hgg,rest⟩
 . exact .inl hn
 . refine .inr ⟨g,cap,cur,rfl,hb,?_,rest⟩;rw [k.block g (Array.getElem?_eq_some_iff.1 hgg).1 (hr g rfl)];exact hgg
theorem Mine.keptR {w w':World} {r:Option Nat} {base:Nat} {a:Option Addr} {n cap:Nat} {L:List Nat} (h:Mine w base a n cap L) (k:Kept w w' r) (hr:∀ i,(Value.slice a n cap).ownBlock=some i -> some i ≠ r):Mine w' base a n cap L:=⟨own_keptR h.own k hr,h.nil,h.room,h.max⟩
theorem Mine.kept {w w':World} {base:Nat} {a:Option Addr} {n cap:Nat} {L:List Nat} (h:Mine w base a n cap L) (k:Kept w w' none):Mine w' base a n cap L:=h.keptR k (fun _ _=>by simp)
theorem Mine.lt {w:World} {base:Nat} {a:Option Addr} {n cap:Nat} {L:List Nat} (h:Mine w base a n cap L):∀ k,(Value.slice a n cap).ownBlock=some k -> base <= k /\ k < w.heap.size:=fun k hk=>h.own.lt k hk
theorem Mine.empty (w:World) (base:Nat):Mine w base none 0 0 []:=⟨World.ownsRow_nil _ _ _ _,fun _=>⟨rfl,rfl⟩,Nat.le_refl _,by omega⟩
theorem cell_keptR {w w':World} {r:Option Nat} {B j:Nat} {v:Value} (h:w.cell? ⟨B,j,none⟩=some v) (q:Kept w w' r) (hr:some B ≠ r):w'.cell? ⟨B,j,none⟩=some v :=
 (World.cell?_of_block (w:=w) (a:=⟨B,j,none⟩) (q.block B (block_lt h) hr)).trans h
theorem Lie.keptR {w w':World} {r:Option Nat} {a:Option Addr} {n k:Nat} {f:Nat -> Nat -> Value} (h:Lie w a n k f) (q:Kept w w' r) (hr:0 < n -> ∀ x,a=some x -> some x.block ≠ r):Lie w' a n k f :=
 ⟨fun hp=>by
  obtain ⟨b,off,rfl,hb,hc⟩:=h.at_ hp;exact ⟨b,off,rfl,Nat.lt_of_lt_of_le hb q.size,fun i hi j hj=>(World.cell?_of_block (w:=w) (a:=⟨b,off + i * k + j,none⟩) (q.block b hb (hr hp _ rfl))).trans (hc i hi j hj)⟩⟩
theorem Ints.keptR {w w':World} {r:Option Nat} {a:Option Addr} {n c:Nat} {l:List Int} (h:Ints w a n c l) (q:Kept w w' r) (hr:0 < n -> ∀ x,a=some x -> some x.block ≠ r):Ints w' a n c l:=⟨h.lie.keptR q hr,h.size,h.cap,h.rng⟩
theorem Ints.lt {w:World} {a:Option Addr} {n c:Nat} {l:List Int} (h:Ints w a n c l) (hp:0 < n):∀ x,a=some x -> x.block < w.heap.size:=fun x hx=>by
 obtain ⟨b,off,e,hb,_⟩:=h.at_ hp;rw [e] at hx;injection hx with hx;subst hx;exact hb
theorem ints_lit (w:World) (l:List Int) (cs:Array Value) (t:TypeId) (n:Nat) (hn:l.length=n) (hc:∀ i,i < n -> cs[i]? = some (.int .i64 (l.getD i 0))) (hr:∀ x ∈ l,-9223372036854775808 <= x /\ x <= 9223372036854775807) (h2:n <= 9223372036854775807):Ints (w.alloc (.cells cs t)) (some ⟨w.heap.size,0,none⟩) n n l :=
 ⟨⟨fun hp=>⟨w.heap.size,0,rfl,by simp,fun i hi j hj=>by
   obtain rfl:j=0:=by omega
   rw [show 0 + i * 1 + 0=i by omega,World.cell?_alloc_mark];exact hc i hi⟩⟩,hn,⟨fun e=>by simp at e,Nat.le_refl _,h2⟩,hr⟩
theorem ints_of (w:World) (l:List Int) (t:TypeId) (hr:∀ x ∈ l,-9223372036854775808 <= x /\ x <= 9223372036854775807) (h2:l.length <= 9223372036854775807):Ints (w.alloc (.cells (l.map fun x=>Value.int .i64 x).toArray t)) (some ⟨w.heap.size,0,none⟩) l.length l.length l :=
 ints_lit w l _ t l.length rfl (fun i hi=>by simp [hi]) hr h2
theorem ne_own {w:World} {base:Nat} {a:Option Addr} {n cap:Nat} {L:List Nat} (h:Mine w base a n cap L) {q:Nat} (hq:q < base \/ w.heap.size <= q):some q ≠ (Value.slice a n cap).ownBlock:=fun e=>by
 have:=h.lt q e.symm;omega
theorem Kept.step {w w1 w2:World} {v v1:Value} (h:Kept w w1 v.ownBlock) (k:Kept w1 w2 v1.ownBlock) (m:Moved w v v1):Kept w w2 v.ownBlock:=by
 refine ⟨k.os.trans h.os,k.tape.trans h.tape,k.output.trans h.output,Nat.le_trans h.size k.size,fun i hi hr=>?_⟩;refine (k.block i (Nat.lt_of_lt_of_le hi h.size) ?_).trans (h.block i hi hr);rcases m with m | ⟨g,m,hg⟩
 . rw [m];exact hr
 . rw [m];intro e;injection e with e;omega
theorem Kept.weak {w w':World} (h:Kept w w' none) (r:Option Nat):Kept w w' r:=⟨h.os,h.tape,h.output,h.size,fun i hi _=>h.block i hi (by simp)⟩
theorem Kept.base {w w':World} {r:Option Nat} (h:Kept w w' r) (hr:∀ i,r=some i -> w.heap.size <= i):Kept w w' none:=⟨h.os,h.tape,h.output,h.size,fun i hi _=>h.block i hi (fun e=>by have:=hr i e.symm;omega)⟩
theorem Moved.tr {w w1:World} {v v1 v2:Value} (h:Moved w v v1) (k:Moved w1 v1 v2) (hs:w.heap.size <= w1.heap.size):Moved w v v2:=by
 rcases k with k | ⟨g,k,hg⟩
 . rcases h with h | ⟨g,h,hg⟩
   . exact .inl (k.trans h)
   . exact .inr ⟨g,k.trans h,hg⟩
 . exact .inr ⟨g,k,by omega⟩
theorem wpList_joinA {ops:Array Oper} {rest:List Oper} {o:Oper} {act:Act} {Q:Exit -> Act -> World -> Prop} {w:World} (hgd:o.guard=none) (s x:Operand)
 (ho:o.op=.call { callee:=.builtin .append,args:=#[s,x],argTypes:=#[27,27] })
 (base:Nat) (v:Value) (n:Nat) (L:List Nat) (hs:act.eval s=v) (hown:w.ownsRow base 5 1 v n (L.map byteV))
 (a:Option Addr) (m c:Nat) (M:List Nat) (hx:act.eval x=.slice a m c) (hB:By w a m M) (ha:a=none -> c=0)
 (hnm:n + m <= 70368744177664) (hbase:base <= w.heap.size)
 (h:∀ a' cap w',Mine w' base a' (n + m) cap (L ++ M) -> w.grownBy w' v.ownBlock -> ((Value.slice a' (n + m) cap).ownBlock=v.ownBlock \/ (Value.slice a' (n + m) cap).ownBlock=some w.heap.size) -> wpList Tryz.prog ops Q rest (act.put o.dst (.slice a' (n + m) cap)) w'):wpList Tryz.prog ops Q (o :: rest) act w:=by
 obtain ⟨i0,hi0,hz0,hz1,hz2⟩:=info_parts Tryz.info5
 have key:∀ v' w',w'.ownsRow base 5 1 v' (n + m) ((L ++ M).map byteV) -> w.grownBy w' v.ownBlock -> (v'.ownBlock=v.ownBlock \/ v'.ownBlock=some w.heap.size) -> wpList Tryz.prog ops Q rest (act.put o.dst v') w':=by
  intro v' w' h1 h2 h3;obtain ⟨a',cap,rfl,hm⟩:=mine_of h1;exact h a' cap w' hm h2 h3
 cases a with
 | none =>
  have hm0:m=0:=by
   by_cases hm:0 < m
   . obtain ⟨b,off,e,_⟩:=hB.at_ hm
     cases e
   . omega
  subst hm0;have hM:M=[]:=List.length_eq_zero_iff.1 hB.size;subst hM;have hc:=ha rfl;subst hc;refine wpList_append_own_none hgd s x 27 ho base 5 i0 1 Tryz.uB hi0 v n (L.map byteV) hs hown hx (key v w ?_ (World.grownBy.refl w _) (.inl rfl));simpa using hown
 | some ad =>
  by_cases hm:0 < m
  . obtain ⟨b,off,e,hb,hc⟩:=hB.at_ hm;injection e with e;subst e;refine wpList_append_own_at w hgd s x 27 ho base 5 i0 _ 1 1 Tryz.uB hi0 hz0 hz1 hz2 rfl (by omega) v n (L.map byteV) hs hown ⟨b,off,none⟩ m c (M.map byteV) hx (by simp [hB.size]) (bytes_news hB.size hc) (bytes_one M) (by unfold maxLen;omega) (by omega) hbase ?_;intro v' w' h1 h2 _ h4;exact key v' w' (by rw [List.map_append];exact h1) h2 h4
  . have hm0:m=0:=by omega
    subst hm0;have hM:M=[]:=List.length_eq_zero_iff.1 hB.size;subst hM;refine wpList_append_own_at w hgd s x 27 ho base 5 i0 _ 1 1 Tryz.uB hi0 hz0 hz1 hz2 rfl (by omega) v n (L.map byteV) hs hown ad 0 c [] hx (by simp) (fun j u hu=>by simp at hu) (fun u hu=>by cases hu) (by unfold maxLen;omega) (by omega) hbase ?_;intro v' w' h1 h2 _ h4;exact key v' w' (by simpa using h1) h2 h4
def smlI (l:List Int):List Nat:=l.flatMap fun x=>sml x.toNat
theorem smlI_append (l k:List Int):smlI (l ++ k)=smlI l ++ smlI k:=by simp [smlI]
theorem smlI_snoc (l:List Int) (x:Int):smlI (l ++ [x])=smlI l ++ sml x.toNat:=by simp [smlI]
theorem smlI_lt (l:List Int):∀ x ∈ smlI l,x < 256:=by
 intro x hx;simp only [smlI,List.mem_flatMap] at hx;obtain ⟨y,_,hx⟩:=hx;exact sml_lt _ x hx
theorem smlI_len:∀ (l:List Int),(∀ x ∈ l,x < 18446744073709551616) -> (smlI l).length <= 10 * l.length
 | [],_=>by simp [smlI]
 | x :: l,h=>by
  have h1:=smlI_len l (fun y hy=>h y (List.mem_cons_of_mem _ hy));have h2:=h x (List.mem_cons_self ..);have h3:=sml_len10 x.toNat (by omega);have:smlI (x :: l)=sml x.toNat ++ smlI l:=by simp [smlI]
  rw [this,List.length_append,List.length_cons];omega
theorem take_snocI {l:List Int} {k:Nat} (h:k < l.length):l.take (k + 1)=l.take k ++ [l.getD k 0]:=by
 rw [List.take_succ_eq_append_getElem h];simp [h]
theorem wsmall_any {w:World} {a:Option Addr} {n c:Nat} {L:List Nat} {b:Option Addr} {m d:Nat} {l:List Int} (base:Nat) (hM:Mine w base a n c L) (hbase:base <= w.heap.size) (hI:Ints w b m d l)
 (hne:0 < m -> ∀ x,b=some x -> some x.block ≠ (Value.slice a n c).ownBlock) (hpos:∀ x ∈ l,0 <= x) (hlen:n + 10 * m <= 1099511627776) :
 Calls Tryz.prog 34 #[.slice a n c,.slice b m d] w fun e w'=>∃ a' c',e=.returned (.slice a' (n + (smlI l).length) c') /\ Mine w' base a' (n + (smlI l).length) c' (L ++ smlI l) /\ Kept w w' (Value.slice a n c).ownBlock /\ Moved w (.slice a n c) (.slice a' (n + (smlI l).length) c'):=by
 have HM:=Hid.mk' hM;have HI:=Hid.mk' hI;have HNE:=Hid.mk' hne;have HPOS:=Hid.mk' hpos;have hsz:=hI.size;have HSZ:=Hid.mk' hsz;have hrng:=hI.rng;have HR:=Hid.mk' hrng;have hml:m <= 9223372036854775807:=by have:=hI.cap.room;have:=hI.cap.max;omega
 clear hM hI hne hpos hsz hrng;go_enter Tryz.func34,Tryz.ntmps34;go_wp2;go_loopw [0,9] (fun s i wr=>∃ k:Nat,k <= m /\ i=.int .i64 k /\ ∃ a1 n1 c1,s=.slice a1 n1 c1 /\ n1=n + (smlI (l.take k)).length /\ n1 <= n + 10 * k /\ Mine wr base a1 n1 c1 (L ++ smlI (l.take k)) /\ Kept w wr (Value.slice a n c).ownBlock /\ Moved w (.slice a n c) (.slice a1 n1 c1)) (fun _ i _=>m - (intOf i).toNat)
 case atStart=>exact ⟨0,Nat.zero_le _,rfl,a,n,c,rfl,by simp [smlI],by omega,by simpa [smlI] using HM.out,Kept.refl _ _,.inl rfl⟩
 case round =>
  obtain ⟨k,hk,rfl,a1,n1,c1,rfl,hn1,hle,hMi,hkw,hmv⟩:=hrel;have HMI:=Hid.mk' hMi;have HN1:=Hid.mk' hn1;have HKW:=Hid.mk' hkw;have HMV:=Hid.mk' hmv;clear hMi hn1 hmv;by_cases hlt:k < m
  . obtain ⟨bi,oi,rfl,hbi,hci⟩:=(HI.out.keptR hkw HNE.out).at_ (by omega);have kc:=hci k hlt;have hkl:k < l.length:=by have:=HSZ.out;omega
    have hv0:=HPOS.out (l.getD k 0) (getD_mem hkl);have hv1:=(HR.out (l.getD k 0) (getD_mem hkl)).2;have hst:smlI (l.take (k + 1))=smlI (l.take k) ++ sml (l.getD k 0).toNat:=by rw [take_snocI hkl,smlI_snoc]
    have HST:=Hid.mk' hst;have hs10:=sml_len10 (l.getD k 0).toNat (by omega);clear hci hst hkw;generalize hv:l.getD k 0=v at *;clear hv;obtain ⟨q,rfl⟩:∃ q:Nat,v=(q:Int):=⟨v.toNat,by omega⟩
    rw [Int.toNat_natCast] at *
    go_wp2_with (first
     | (have hgo:=O2;clear hgo;at_builtin;refine wpList_joinA (by rfl) _ _ (by rfl) base (.slice a1 n1 c1) n1 (L ++ smlI (l.take k)) (by rfl) (own_keptR HMI.out.own hk2 (fun i _=>by simp)) _ (sml q).length 10 (sml q) (by rfl) (O2.out.by (by omega) (sml_lt q)) (fun e=>by cases e) (by omega) (by have:=HKW.out.size;have:=hk2.size;omega) ?_;intro a3 c3 w3 hm3 hg3 hat3)
     | (go_at_call 63;refine (small_any q _ (by omega)).mono ?_;rintro e w2 ⟨rfl,ho2,hk2⟩;have O2:=Hid.mk' ho2;clear ho2))
    go_roundw
    case rel =>
     refine ⟨k + 1,by omega,by go_num,a3,_,c3,rfl,?_,by omega,?_,?_,?_⟩
     . rw [HST.out,List.length_append,HN1.out];omega
     . rw [HST.out,<- List.append_assoc];exact hm3
     . exact (HKW.out.step (hk2.weak _) HMV.out).step hg3 (HMV.out)
     . refine HMV.out.tr (w1:=wr) ?_ HKW.out.size;rcases hat3 with e | e
       . exact .inl e
       . exact .inr ⟨_,e,hk2.size⟩
    case measure=>simp [intOf];omega
  . have hkk:l.take k=l:=List.take_of_length_le (by have:=HSZ.out;omega);rw [hkk] at HMI HN1;have e:=HN1.out;subst e;go_wp2;go_ret;exact ⟨a1,c1,rfl,HMI.out,HKW.out,HMV.out⟩
def PairsP (S:St) (Q:Nat -> Nat -> Prop) (a b:Nat) (x:Int):Prop:=∃ a' b',(a' < a \/ a'=a /\ b' < b) /\ b' < S.groups.length /\ Q a' b' /\ x=S.bt a' b'
theorem pairs_start (S:St) (Q:Nat -> Nat -> Prop):IsMost (PairsP S Q 0 0) 0 :=
 IsMost.none.congr (fun x=>⟨fun h=>h.elim,fun ⟨a',b',h,_⟩=>by omega⟩)
theorem pairs_yes {S:St} {Q:Nat -> Nat -> Prop} {a b:Nat} {m:Int} (h:IsMost (PairsP S Q a b) m) (hb:b < S.groups.length) (hq:Q a b):IsMost (PairsP S Q a (b + 1)) (max m (S.bt a b)):=by
 refine (h.more (S.bt a b)).congr (fun x=>⟨?_,?_⟩)
 . rintro (⟨a',b',h1,h2,h3,rfl⟩ | rfl)
   . exact ⟨a',b',by omega,h2,h3,rfl⟩
   . exact ⟨a,b,by omega,hb,hq,rfl⟩
 . rintro ⟨a',b',h1,h2,h3,rfl⟩;by_cases he:a'=a /\ b'=b
   . obtain ⟨rfl,rfl⟩:=he;exact .inr rfl
   . exact .inl ⟨a',b',by omega,h2,h3,rfl⟩
theorem pairs_no {S:St} {Q:Nat -> Nat -> Prop} {a b:Nat} {m:Int} (h:IsMost (PairsP S Q a b) m) (hq:¬ Q a b):IsMost (PairsP S Q a (b + 1)) m:=by
 refine h.congr (fun x=>⟨?_,?_⟩)
 . rintro ⟨a',b',h1,h2,h3,rfl⟩;exact ⟨a',b',by omega,h2,h3,rfl⟩
 . rintro ⟨a',b',h1,h2,h3,rfl⟩;by_cases he:a'=a /\ b'=b
   . obtain ⟨rfl,rfl⟩:=he
     exact absurd h3 hq
   . exact ⟨a',b',by omega,h2,h3,rfl⟩
theorem pairs_row {S:St} {Q:Nat -> Nat -> Prop} {a:Nat} {m:Int} (h:IsMost (PairsP S Q a S.groups.length) m):IsMost (PairsP S Q (a + 1) 0) m:=by
 refine h.congr (fun x=>⟨?_,?_⟩)
 . rintro ⟨a',b',h1,h2,h3,rfl⟩;exact ⟨a',b',by omega,h2,h3,rfl⟩
 . rintro ⟨a',b',h1,h2,h3,rfl⟩;exact ⟨a',b',by omega,h2,h3,rfl⟩
def cellsL (n k:Nat) (f:Nat -> Nat -> Value):List Value:=(List.range (n * k)).map fun q=>f (q / k) (q % k)
theorem cellsL_len (n k:Nat) (f:Nat -> Nat -> Value):(cellsL n k f).length=n * k:=by simp [cellsL]
theorem cellsL_at {n k q:Nat} {f:Nat -> Nat -> Value} (h:q < n * k):(cellsL n k f)[q]? = some (f (q / k) (q % k)):=by
 unfold cellsL;rw [List.getElem?_map,List.getElem?_range h];rfl
theorem cellsL_news {w:World} {b off n k:Nat} {f:Nat -> Nat -> Value} (hk:0 < k) (hc:∀ i,i < n -> ∀ j,j < k -> w.cell? ⟨b,off + i * k + j,none⟩=some (f i j)) :
 ∀ j u,(cellsL n k f)[j]? = some u -> w.cell? ((⟨b,off,none⟩:Addr).add j)=some u:=by
 intro j u hu;have hj:j < n * k:=by have:=(List.getElem?_eq_some_iff.1 hu).1;rwa [cellsL_len] at this
 rw [cellsL_at hj] at hu;have h1:j / k < n:=by rw [Nat.div_lt_iff_lt_mul hk];exact hj
 have h2:j % k < k:=Nat.mod_lt _ hk;have h3:=hc _ h1 _ h2
 have h4:off + j / k * k + j % k=off + j:=by
  have:=Nat.div_add_mod j k;rw [Nat.mul_comm] at this;omega
 rw [h4] at h3;rw [Addr.add_lit,h3];exact hu
theorem cellsL_one {n k:Nat} {f:Nat -> Nat -> Value} (h:∀ i j,(f i j).oneCell'=true):∀ u ∈ cellsL n k f,u.oneCell'=true:=by
 intro u hu;unfold cellsL at hu;simp only [List.mem_map] at hu;obtain ⟨x,_,rfl⟩:=hu;exact h _ _
theorem lie_own {w:World} {base n k:Nat} {e:TypeId} {v:Value} {f:Nat -> Nat -> Value} (hk:0 < k) (h:w.ownsRow base e k v n (cellsL n k f)):∃ a cap,v=.slice a n cap /\ Lie w a n k f /\ Cap a n cap /\ (∀ b,a=some b -> base <= b.block /\ b.block < w.heap.size):=by
 rcases id h.2 with ⟨rfl,rfl⟩ | ⟨g,cap,cur,rfl,hb,hg,hle,hm,hcs,ht⟩
 . exact ⟨none,0,rfl,⟨fun hp=>absurd hp (by omega)⟩,⟨fun _=>⟨rfl,rfl⟩,Nat.le_refl _,by omega⟩,fun b e=>nomatch e⟩
 . unfold maxLen at hm;refine ⟨some ⟨g,0,none⟩,cap,rfl,⟨fun hp=>⟨g,0,rfl,(Array.getElem?_eq_some_iff.1 hg).1,fun i hi j hj=>?_⟩⟩,⟨fun e=>(nomatch e),hle,by omega⟩,fun b e=>by cases e;exact ⟨hb,(Array.getElem?_eq_some_iff.1 hg).1⟩⟩
   have hq:i * k + j < n * k:=by
    have h1:(i + 1) * k <= n * k:=Nat.mul_le_mul_right k (by omega);rw [Nat.add_mul] at h1;omega
   have h2:(cur.toList.take (n * k))[i * k + j]? = some (f i j):=by
    rw [ht,cellsL_at hq];have h3:(i * k + j) / k=i:=by rw [Nat.add_comm,Nat.add_mul_div_right _ _ hk,Nat.div_eq_of_lt hj,Nat.zero_add]
    have h4:(i * k + j) % k=j:=by rw [Nat.add_comm,Nat.add_mul_mod_self_right,Nat.mod_eq_of_lt hj]
    rw [h3,h4]
   rw [List.getElem?_take_of_lt hq,Array.getElem?_toList] at h2;rw [Nat.zero_add];simp only [World.cell?,hg];exact h2
theorem twin_run {w:World} {t ty e:TypeId} {i:TypeInfo} {z:Value} {k bytes:Nat} (ht:Tryz.prog.underlying t=some (.slice e)) (hi:Tryz.prog.info? e=some i) (hz:i.zero=some z) (hsize:i.size=k) (hby:i.bytes=bytes) (hzs:z.cells.size=k) (hk:0 < k) (hbb:bytes <= 1000)
 {a:Option Addr} {n c:Nat} {f:Nat -> Nat -> Value} (hL:Lie w a n k f) (hc:Cap a n c) (hn:n <= 1000) (h1:∀ i j,(f i j).oneCell'=true) :
 ∃ a' cap w',(Builtin.append_ #[t,t] ty #[.slice none 0 0,.slice a n c]).run Tryz.prog w=.ok (.slice a' n cap) w' /\ Lie w' a' n k f /\ Cap a' n cap /\ (∀ b,a'=some b -> w.heap.size <= b.block /\ b.block < w'.heap.size) /\ Kept w w' none:=by
 cases a with
 | none =>
  obtain ⟨rfl,rfl⟩:=hc.nil rfl;have hrun:=run_append_owned_none (P:=Tryz.prog) (w:=w) w.heap.size t ty e i k ht hi (.slice none 0 0) 0 [] (World.ownsRow_nil _ _ _ _);exact ⟨none,0,w,hrun,⟨fun hp=>absurd hp (by omega)⟩,⟨fun _=>⟨rfl,rfl⟩,Nat.le_refl _,by omega⟩,fun b e=>(nomatch e),Kept.refl _ _⟩
 | some ad =>
  have hnews:∀ j u,(cellsL n k f)[j]? = some u -> w.cell? (ad.add j)=some u:=by
   by_cases hp:0 < n
   . obtain ⟨b,off,e,_,hcell⟩:=hL.at_ hp;injection e with e;subst e;exact cellsL_news hk hcell
   . intro j u hu;have hn0:n=0:=by omega
     subst hn0;simp [cellsL] at hu
  have hbytes:(0 + n) * bytes <= 140737488355328:=by
   have h2:n * bytes <= 1000 * 1000:=Nat.mul_le_mul hn hbb;rw [Nat.zero_add];omega
  obtain ⟨v',w',hr,h2,h3,_⟩:=run_append_own (P:=Tryz.prog) w w.heap.size t ty e i z k bytes ht hi hz hsize hby hzs hk (.slice none 0 0) 0 [] (World.ownsRow_nil _ _ _ _) ad n c (cellsL n k f) (cellsL_len _ _ _) hnews (cellsL_one h1) (by unfold maxLen;omega) hbytes (Nat.le_refl _);rw [Nat.zero_add,List.nil_append] at h2;obtain ⟨a',cap,rfl,g1,g2,g3⟩:=lie_own hk h2;exact ⟨a',cap,w',hr,g1,g2,g3,h3⟩
theorem kept_set (w:World) (b j:Nat) (v:Value):Kept w (w.setCell ⟨b,j,none⟩ v) (some b) :=
 ⟨rfl,rfl,rfl,by simp [World.setCell],fun k hk hr=>by
  simp only [World.setCell];rw [Array.getElem?_modify,if_neg (fun e=>hr (by rw [e]))]⟩
theorem kept_new {w w':World} {r:Option Nat} (h:Kept w w' r) {g:Nat} (hg:w.heap.size <= g) (j:Nat) (v:Value):Kept w (w'.setCell ⟨g,j,none⟩ v) r :=
 ⟨h.os,h.tape,h.output,by simpa [World.setCell] using h.size,fun k hk hr=>(Below.heap_setCell _ _ _ _ (by show k ≠ g;omega)).trans (h.block k hk hr)⟩
abbrev zS:Array Value:=#[.int .i64 0,.slice none 0 0,.slice none 0 0,.slice none 0 0,.slice none 0 0,.slice none 0 0,.int .i64 0,.int .i64 0,.int .i64 0,.int .i64 0,.int .i64 0,.slice none 0 0]
def fS (c:Array Value) (i:Nat):Value:=c[i]?.getD undef
theorem fS_set (c:Array Value) (j:Nat) (v:Value) (hj:j < c.size) (i:Nat):(if i=j then v else fS c i)=fS (c.setIfInBounds j v) i:=by
 unfold fS;rw [Array.getElem?_setIfInBounds];by_cases h:i=j
 . subst h;simp [hj]
 . rw [if_neg h,if_neg (fun e=>h e.symm)]
structure Ltr (lo:Nat) (w w':World):Prop where
 size:w.heap.size <= w'.heap.size
 block:∀ k,lo <= k -> k < w.heap.size -> w'.heap[k]? = w.heap[k]?
theorem Ltr.tr {lo:Nat} {a b c:World} (h:Ltr lo a b) (k:Ltr lo b c):Ltr lo a c:=⟨Nat.le_trans h.size k.size,fun i hi hl=>(k.block i hi (Nat.lt_of_lt_of_le hl h.size)).trans (h.block i hi hl)⟩
theorem Ltr.up {lo lo':Nat} {a b:World} (h:Ltr lo a b) (q:lo <= lo'):Ltr lo' a b:=⟨h.size,fun i hi hl=>h.block i (Nat.le_trans q hi) hl⟩
theorem Ltr.rfl' {lo:Nat} {a:World}:Ltr lo a a:=⟨Nat.le_refl _,fun _ _ _=>rfl⟩
theorem Kept.ltr {w w':World} {x lo:Nat} (h:Kept w w' (some x)) (hx:x < lo):Ltr lo w w':=⟨h.size,fun k hk hl=>h.block k hl (fun e=>by have:=Option.some.inj e;omega)⟩
theorem Ltr.set {lo:Nat} (w:World) {g:Nat} (hg:g < lo) (j:Nat) (v:Value):Ltr lo w (w.setCell ⟨g,j,none⟩ v):=(kept_set w g j v).ltr hg
theorem Ltr.cell {lo:Nat} {w w':World} {b j:Nat} {v:Value} (q:Ltr lo w w') (h:w.cell? ⟨b,j,none⟩=some v) (hb:lo <= b):w'.cell? ⟨b,j,none⟩=some v :=
 (World.cell?_of_block (w:=w) (a:=⟨b,j,none⟩) (q.block b hb (block_lt h))).trans h
theorem set12 (v0 v1 v2 v3 v4 v5 v6 v7 v8 v9 v10 v11:Value):((((((((((((zS.setIfInBounds 0 v0).setIfInBounds 1 v1).setIfInBounds 2 v2).setIfInBounds 3 v3).setIfInBounds 4 v4).setIfInBounds 5 v5).setIfInBounds 6 v6).setIfInBounds 7 v7).setIfInBounds 8 v8).setIfInBounds 9 v9).setIfInBounds 10 v10).setIfInBounds 11 v11)=#[v0,v1,v2,v3,v4,v5,v6,v7,v8,v9,v10,v11]:=by simp only [zS,List.setIfInBounds_toArray,List.set_cons_zero,List.set_cons_succ]
theorem row12 {w0 wx:World} {B lo:Nat} (h:wx.rowIs B 49 12 (fS zS)) (hk:Kept w0 wx none) (hB:w0.heap.size <= B) (hl:B < lo) (v0 v1 v2 v3 v4 v5 v6 v7 v8 v9 v10 v11:Value) (W:World) (hW:W=((((((((((((wx.setCell ⟨B,0,none⟩ v0).setCell ⟨B,1,none⟩ v1).setCell ⟨B,2,none⟩ v2).setCell ⟨B,3,none⟩ v3).setCell ⟨B,4,none⟩ v4).setCell ⟨B,5,none⟩ v5).setCell ⟨B,6,none⟩ v6).setCell ⟨B,7,none⟩ v7).setCell ⟨B,8,none⟩ v8).setCell ⟨B,9,none⟩ v9).setCell ⟨B,10,none⟩ v10).setCell ⟨B,11,none⟩ v11)):Kept w0 W none /\ Ltr lo wx W /\ W.cell? ⟨B,0,none⟩=some v0 /\ W.cell? ⟨B,1,none⟩=some v1 /\ W.cell? ⟨B,2,none⟩=some v2 /\ W.cell? ⟨B,3,none⟩=some v3 /\ W.cell? ⟨B,4,none⟩=some v4 /\ W.cell? ⟨B,5,none⟩=some v5 /\ W.cell? ⟨B,6,none⟩=some v6 /\ W.cell? ⟨B,7,none⟩=some v7 /\ W.cell? ⟨B,8,none⟩=some v8 /\ W.cell? ⟨B,9,none⟩=some v9 /\ W.cell? ⟨B,10,none⟩=some v10 /\ W.cell? ⟨B,11,none⟩=some v11:=by
 subst hW;have e:=((((((((((((((((((((((((h.set 0 v0).congr (fun i _=>fS_set _ 0 v0 (by simp [zS]) i)).set 1 v1).congr (fun i _=>fS_set _ 1 v1 (by simp [zS]) i)).set 2 v2).congr (fun i _=>fS_set _ 2 v2 (by simp [zS]) i)).set 3 v3).congr (fun i _=>fS_set _ 3 v3 (by simp [zS]) i)).set 4 v4).congr (fun i _=>fS_set _ 4 v4 (by simp [zS]) i)).set 5 v5).congr (fun i _=>fS_set _ 5 v5 (by simp [zS]) i)).set 6 v6).congr (fun i _=>fS_set _ 6 v6 (by simp [zS]) i)).set 7 v7).congr (fun i _=>fS_set _ 7 v7 (by simp [zS]) i)).set 8 v8).congr (fun i _=>fS_set _ 8 v8 (by simp [zS]) i)).set 9 v9).congr (fun i _=>fS_set _ 9 v9 (by simp [zS]) i)).set 10 v10).congr (fun i _=>fS_set _ 10 v10 (by simp [zS]) i)).set 11 v11).congr (fun i _=>fS_set _ 11 v11 (by simp [zS]) i));rw [set12] at e;exact ⟨(kept_new (kept_new (kept_new (kept_new (kept_new (kept_new (kept_new (kept_new (kept_new (kept_new (kept_new (kept_new hk hB 0 v0) hB 1 v1) hB 2 v2) hB 3 v3) hB 4 v4) hB 5 v5) hB 6 v6) hB 7 v7) hB 8 v8) hB 9 v9) hB 10 v10) hB 11 v11),((((((((((((Ltr.rfl'.tr (Ltr.set _ hl 0 v0)).tr (Ltr.set _ hl 1 v1)).tr (Ltr.set _ hl 2 v2)).tr (Ltr.set _ hl 3 v3)).tr (Ltr.set _ hl 4 v4)).tr (Ltr.set _ hl 5 v5)).tr (Ltr.set _ hl 6 v6)).tr (Ltr.set _ hl 7 v7)).tr (Ltr.set _ hl 8 v8)).tr (Ltr.set _ hl 9 v9)).tr (Ltr.set _ hl 10 v10)).tr (Ltr.set _ hl 11 v11)),e.cell (i:=0) (by omega),e.cell (i:=1) (by omega),e.cell (i:=2) (by omega),e.cell (i:=3) (by omega),e.cell (i:=4) (by omega),e.cell (i:=5) (by omega),e.cell (i:=6) (by omega),e.cell (i:=7) (by omega),e.cell (i:=8) (by omega),e.cell (i:=9) (by omega),e.cell (i:=10) (by omega),e.cell (i:=11) (by omega)⟩
theorem frozen_block {w w':World} {b j:Nat} (h:w'.heap[b]? = w.heap[b]?):w'.frozen? ⟨b,j,none⟩=w.frozen? ⟨b,j,none⟩:=by
 unfold World.frozen?;simp only [h]
theorem Tryz.infoPl:(Tryz.prog.info? 79).map (fun i=>(i.zero,i.size,i.bytes))=some (some (.agg #[.int .i64 0,.int .i64 0,.slice none 0 0]),3,40):=by kernel_rfl
theorem Tryz.infoIn:(Tryz.prog.info? 3).map (fun i=>(i.zero,i.size,i.bytes))=some (some (.int .i64 0),1,8):=by kernel_rfl
theorem Tryz.uPls:Tryz.prog.underlying 47=some (.slice 79):=by kernel_rfl
theorem Tryz.uIns:Tryz.prog.underlying 50=some (.slice 3):=by kernel_rfl
theorem cellsL_snoc {n k:Nat} {f:Nat -> Nat -> Value} {g:Nat -> Value} (hk:0 < k):cellsL n k f ++ (List.range k).map g=cellsL (n + 1) k (fun i j=>if i=n then g j else f i j):=by
 unfold cellsL;rw [Nat.add_mul,Nat.one_mul,List.range_add,List.map_append]
 congr 1
 . refine List.map_congr_left fun q hq=>?_
   have h1:q / k < n:=by rw [Nat.div_lt_iff_lt_mul hk];exact List.mem_range.1 hq
   show f (q / k) (q % k)=if q / k=n then g (q % k) else f (q / k) (q % k)
   rw [if_neg (by omega)]
 . rw [List.map_map];refine List.map_congr_left fun j hj=>?_
   have hj':=List.mem_range.1 hj;have h3:(n * k + j) / k=n:=by rw [Nat.add_comm,Nat.add_mul_div_right _ _ hk,Nat.div_eq_of_lt hj',Nat.zero_add]
   have h4:(n * k + j) % k=j:=by rw [Nat.add_comm,Nat.add_mul_mod_self_right,Nat.mod_eq_of_lt hj']
   show g j=if (n * k + j) / k=n then g ((n * k + j) % k) else f ((n * k + j) / k) ((n * k + j) % k)
   rw [h3,h4,if_pos rfl]
theorem grow_run {w:World} {t ty e:TypeId} {i:TypeInfo} {z:Value} {k bytes:Nat} (ht:Tryz.prog.underlying t=some (.slice e)) (hi:Tryz.prog.info? e=some i) (hz:i.zero=some z) (hsize:i.size=k) (hby:i.bytes=bytes) (hzs:z.cells.size=k) (hk:0 < k) (hbb:bytes <= 1000)
 {base n c:Nat} {v:Value} {f:Nat -> Nat -> Value} (hown:w.ownsRow base e k v n (cellsL n k f)) {b o:Nat} {g:Nat -> Value} (hg:∀ j,j < k -> w.cell? ⟨b,o + j,none⟩=some (g j)) (h1:∀ j,(g j).oneCell'=true) (hn:n <= 1000) (hbase:base <= w.heap.size) :
 ∃ v' w',(Builtin.append_ #[t,t] ty #[v,.slice (some ⟨b,o,none⟩) 1 c]).run Tryz.prog w=.ok v' w' /\ w'.ownsRow base e k v' (n + 1) (cellsL (n + 1) k (fun i j=>if i=n then g j else f i j)) /\ w.grownBy w' v.ownBlock /\ (v'.ownBlock=v.ownBlock \/ v'.ownBlock=some w.heap.size):=by
 have hbytes:(n + 1) * bytes <= 140737488355328:=by
  have h2:(n + 1) * bytes <= 1001 * 1000:=Nat.mul_le_mul (by omega) hbb;omega
 obtain ⟨v',w',hr,h2,h3,_,h5⟩:=run_append_own_at (P:=Tryz.prog) w base t ty e i z k bytes ht hi hz hsize hby hzs hk v n _ hown ⟨b,o,none⟩ 1 c ((List.range k).map g) (by simp) (fun j u hu=>by
  rw [List.getElem?_map] at hu
  have hj:j < k:=by
   by_cases h:j < k
   . exact h
   . rw [List.getElem?_eq_none (by simpa using h)] at hu;simp at hu
  rw [List.getElem?_range hj] at hu;rw [Addr.add_lit,hg j hj];exact hu) (fun u hu=>by
  simp only [List.mem_map] at hu;obtain ⟨x,_,rfl⟩:=hu;exact h1 x) (by unfold maxLen;omega) hbytes hbase
 rw [cellsL_snoc hk] at h2;exact ⟨v',w',hr,h2,h3,h5⟩
theorem wpList_app {ops:Array Oper} {rest:List Oper} {o:Oper} {act:Act} {Q:Exit -> Act -> World -> Prop} {w w':World} {v u v':Value} (hgd:o.guard=none) (s x:Operand) (t:TypeId) (ho:o.op=.call { callee:=.builtin .append,args:=#[s,x],argTypes:=#[t,t] }) (hs:act.eval s=v) (hx:act.eval x=u)
 (hr:(Builtin.append_ #[t,t] o.type #[v,u]).run Tryz.prog w=.ok v' w') (h:wpList Tryz.prog ops Q rest (act.put o.dst v') w'):wpList Tryz.prog ops Q (o :: rest) act w :=
 wpList_plain hgd fun K hK=>by
  unfold Oper.wp execOp;simp only [ho,resolve,invoke,builtin,Sem.run_bind,Sem.run_pure,Result.andThen_ok,List.map_toArray,List.map_cons,List.map_nil,hs,hx,hr];exact hK _ _ h
theorem Ints.keptS {w w':World} {r:Option Nat} {a:Option Addr} {n c:Nat} {l:List Int} (h:Ints w a n c l) (q:Kept w w' r) (hr:∀ b,a=some b -> some b.block ≠ r):Ints w' a n c l :=
 ⟨⟨fun hp=>by
   obtain ⟨b,off,rfl,hb,hc⟩:=h.lie.at_ hp;exact ⟨b,off,rfl,Nat.lt_of_lt_of_le hb q.size,fun i hi j hj=>cell_keptR (hc i hi j hj) q (hr _ rfl)⟩⟩,h.size,h.cap,h.rng⟩
structure Tp (w:World) (l:List Pl) (wr:World) (k:Nat) (v:Value):Prop where
 ex:∃ r:Nat -> Option Addr × Nat,wr.ownsRow w.heap.size 79 3 v k (cellsL k 3 (fun i j=>plV (l.getD i q0) (r i).1 (r i).2 j)) /\ (∀ i,i < k -> Ints wr (r i).1 (l.getD i q0).splits.length (r i).2 (l.getD i q0).splits) /\ (∀ i,i < k -> ∀ b,(r i).1=some b -> v.ownBlock ≠ some b.block /\ b.block < wr.heap.size /\ w.heap.size <= b.block)
 kept:Kept w wr none
theorem own_lt {w:World} {base n k:Nat} {e:TypeId} {v:Value} {xs:List Value} (h:w.ownsRow base e k v n xs):∀ g,v.ownBlock=some g -> base <= g /\ g < w.heap.size:=fun g hg=>by
 rcases id h.2 with ⟨rfl,_⟩ | ⟨b,cap,cur,rfl,hb,hh,_⟩
 . cases hg
 . injection hg with hg;subst hg;exact ⟨hb,(Array.getElem?_eq_some_iff.1 hh).1⟩
theorem own_keptR' {w w':World} {r:Option Nat} {base n k:Nat} {e:TypeId} {v:Value} {xs:List Value} (h:w.ownsRow base e k v n xs) (q:Kept w w' r) (hr:∀ g,v.ownBlock=some g -> some g ≠ r):w'.ownsRow base e k v n xs:=by
 refine ⟨h.1,?_⟩;rcases id h.2 with ⟨rfl,h0⟩ | ⟨b,cap,cur,rfl,hb,hh,h4⟩
 . exact .inl ⟨rfl,h0⟩
 . exact .inr ⟨b,cap,cur,rfl,hb,(q.block b (Array.getElem?_eq_some_iff.1 hh).1 (hr _ rfl)).trans hh,h4⟩
theorem alloc_at2 (F:World) (cs:Array Value) (t:TypeId) {n j:Nat} {v:Value} (hz:F.heap.size=n) (hv:cs[j]? = some v):(F.alloc (.cells cs t)).cell? ⟨n,j,none⟩=some v:=by
 subst hz;simp only [World.cell?_alloc_mark];exact hv
abbrev plB (p:Pl) (a:Option Addr) (c:Nat):Obj:=.cells #[.int .i64 p.cycle,.int .i64 p.offset,.slice a p.splits.length c] 79
theorem Tp.step {w wr W2:World} {l:List Pl} {k:Nat} {v:Value} {ar a':Option Addr} {cr cap:Nat} (h:Tp w l wr k v) (hk:k <= 40)
 (h2:Kept (wr.alloc (plB (l.getD k q0) ar cr)) W2 none) (hI:Ints W2 a' (l.getD k q0).splits.length cap (l.getD k q0).splits) (hf:∀ b,a'=some b -> (wr.alloc (plB (l.getD k q0) ar cr)).heap.size <= b.block) (hl:∀ b,a'=some b -> b.block < W2.heap.size) :
 ∃ v' W5,(Builtin.append_ #[47,47] 47 #[v,.slice (some ⟨W2.heap.size,0,none⟩) 1 1]).run Tryz.prog ((W2.setCell ⟨wr.heap.size,2,none⟩ (.slice a' (l.getD k q0).splits.length cap)).alloc (plB (l.getD k q0) a' cap))=.ok v' W5 /\ Tp w l W5 (k + 1) v':=by
 obtain ⟨⟨r,ho,hi,hb⟩,hkw⟩:=h;obtain ⟨i0,hi0,hz0,hz1,hz2⟩:=info_parts Tryz.infoPl;generalize hp:l.getD k q0=p at *;have hz:(wr.alloc (plB p ar cr)).heap.size=wr.heap.size + 1:=by simp
 have k1:Kept wr W2 none:=(Kept.alloc wr _ _ _ _).tr h2;have k3:Kept W2 (W2.setCell ⟨wr.heap.size,2,none⟩ (.slice a' p.splits.length cap)) (some wr.heap.size):=kept_set _ _ _ _;have z3:(W2.setCell ⟨wr.heap.size,2,none⟩ (.slice a' p.splits.length cap)).heap.size=W2.heap.size:=by simp [World.setCell]
 have k4:Kept (W2.setCell ⟨wr.heap.size,2,none⟩ (.slice a' p.splits.length cap)) ((W2.setCell ⟨wr.heap.size,2,none⟩ (.slice a' p.splits.length cap)).alloc (plB p a' cap)) none:=Kept.alloc _ _ _ _ _;have s2:=h2.size;rw [hz] at s2;have sw:=hkw.size;have z4:((W2.setCell ⟨wr.heap.size,2,none⟩ (.slice a' p.splits.length cap)).alloc (plB p a' cap)).heap.size=W2.heap.size + 1:=by simp [World.setCell]
 have q0':∀ j,j < 3 -> ((W2.setCell ⟨wr.heap.size,2,none⟩ (.slice a' p.splits.length cap)).alloc (plB p a' cap)).cell? ⟨W2.heap.size,0 + j,none⟩=some (plV p a' cap j):=fun j hj=>by
  have:j=0 \/ j=1 \/ j=2:=by omega
  rw [Nat.zero_add];refine alloc_at2 _ _ _ z3 ?_;rcases this with rfl | rfl | rfl <;> rfl
 generalize (W2.setCell ⟨wr.heap.size,2,none⟩ (.slice a' p.splits.length cap))=W3 at *;generalize (W3.alloc (plB p a' cap))=W4 at *;have hol:=own_lt ho
 have own4:W4.ownsRow w.heap.size 79 3 v k (cellsL k 3 (fun i j=>plV (l.getD i q0) (r i).1 (r i).2 j)) :=
  own_keptR' (own_keptR' (own_keptR' ho k1 (fun g _=>by simp)) k3 (fun g hg e=>by have:=(hol g hg).2;cases e;omega)) k4 (fun g _=>by simp)
 obtain ⟨v',W5,hr,g1,g2,g3⟩:=grow_run (t:=47) (ty:=47) (c:=1) Tryz.uPls hi0 hz0 hz1 hz2 rfl (by omega) (by omega) own4 q0' (fun j=>by unfold plV;split <;> rfl) (by omega) (by omega);have bl:∀ b,(∃ i,i < k /\ (r i).1=some b) -> v.ownBlock ≠ some b.block /\ b.block < wr.heap.size /\ w.heap.size <= b.block:=fun b ⟨i,hik,e⟩=>hb i hik b e
 have vfr:∀ g,v'.ownBlock=some g -> v.ownBlock=some g \/ g=W4.heap.size:=fun g hg=>by
  rcases g3 with e | e
  . exact .inl (e.symm.trans hg)
  . rw [e] at hg;injection hg with hg;exact .inr hg.symm
 refine ⟨v',W5,hr,⟨fun i=>if i=k then (a',cap) else r i,?_,fun i hik=>?_,fun i hik b e=>?_⟩,?_⟩
 . have he:cellsL (k + 1) 3 (fun i j=>if i=k then plV p a' cap j else plV (l.getD i q0) (r i).1 (r i).2 j)=cellsL (k + 1) 3 (fun i j=>plV (l.getD i q0) ((if i=k then (a',cap) else r i):Option Addr × Nat).1 ((if i=k then (a',cap) else r i):Option Addr × Nat).2 j):=by
    unfold cellsL;refine List.map_congr_left fun q _=>?_
    show (if q / 3=k then plV p a' cap (q % 3) else plV (l.getD (q / 3) q0) (r (q / 3)).1 (r (q / 3)).2 (q % 3))=plV (l.getD (q / 3) q0) ((if q / 3=k then (a',cap) else r (q / 3)):Option Addr × Nat).1 ((if q / 3=k then (a',cap) else r (q / 3)):Option Addr × Nat).2 (q % 3)
    by_cases e:q / 3=k
    . rw [if_pos e,if_pos e,e,hp]
    . rw [if_neg e,if_neg e]
   rw [<- he];exact g1
 . show Ints W5 ((if i=k then (a',cap) else r i):Option Addr × Nat).1 (l.getD i q0).splits.length ((if i=k then (a',cap) else r i):Option Addr × Nat).2 (l.getD i q0).splits
   by_cases e:i=k
   . rw [if_pos e,e,hp];refine ((hI.keptS k3 (fun b eb ec=>?_)).kept k4).keptS g2 (fun b eb ec=>?_)
     . have:=hf b eb;rw [hz] at this;injection ec with ec;omega
     . have:=hf b eb;rw [hz] at this;have h7:=(hol _ ec.symm).2;omega
   . rw [if_neg e];have h8:=hi i (by omega);refine (((h8.kept k1).keptS k3 (fun b eb ec=>?_)).kept k4).keptS g2 (fun b eb ec=>?_)
     . have:=(hb i (by omega) b eb).2.1;injection ec with ec;omega
     . exact (hb i (by omega) b eb).1 ec.symm
 . have s5:=g2.size;change ((if i=k then (a',cap) else r i):Option Addr × Nat).1=some b at e;by_cases ek:i=k
   . rw [if_pos ek] at e;have h6:=hf b e;rw [hz] at h6;have h9:=hl b e;refine ⟨fun ec=>?_,by omega,by omega⟩;rcases vfr _ ec with h7 | h7
     . have:=(hol _ h7).2;omega
     . omega
   . rw [if_neg ek] at e;have h6:=hb i (by omega) b e;refine ⟨fun ec=>?_,by omega,h6.2.2⟩;rcases vfr _ ec with h7 | h7
     . exact h6.1 h7
     . omega
 . have h5:Kept w W4 none:=by
    refine ⟨k4.os.trans (k3.os.trans (k1.os.trans hkw.os)),k4.tape.trans (k3.tape.trans (k1.tape.trans hkw.tape)),k4.output.trans (k3.output.trans (k1.output.trans hkw.output)),by omega,fun b hbw _=>?_⟩;exact (k4.block b (by omega) (by simp)).trans ((k3.block b (by omega) (fun e=>by injection e with e;omega)).trans ((hkw.tr k1).block b hbw (by simp)))
   refine ⟨g2.os.trans h5.os,g2.tape.trans h5.tape,g2.output.trans h5.output,Nat.le_trans h5.size g2.size,fun b hbw _=>?_⟩;exact (g2.block b (by omega) (fun e=>by have:=(hol _ e.symm).1;omega)).trans (h5.block b hbw (by simp))
def OwI (w:World) (base:Nat) (v:Value) (l:List Int):Prop:=w.ownsRow base 3 1 v l.length (cellsL l.length 1 (fun i _=>.int .i64 (l.getD i 0)))
theorem OwI.nil (w:World) (base:Nat):OwI w base (.slice none 0 0) []:=World.ownsRow_nil _ _ _ _
theorem OwI.keptR {w w':World} {r:Option Nat} {base:Nat} {v:Value} {l:List Int} (h:OwI w base v l) (q:Kept w w' r) (hr:∀ g,v.ownBlock=some g -> some g ≠ r):OwI w' base v l:=own_keptR' h q hr
theorem OwI.kept {w w':World} {base:Nat} {v:Value} {l:List Int} (h:OwI w base v l) (q:Kept w w' none):OwI w' base v l:=h.keptR q (fun g _=>by simp)
theorem OwI.ints {w:World} {base:Nat} {v:Value} {l:List Int} (h:OwI w base v l) (hr:∀ x ∈ l,-9223372036854775808 <= x /\ x <= 9223372036854775807):∃ a c,v=.slice a l.length c /\ Ints w a l.length c l /\ ∀ b,a=some b -> base <= b.block /\ b.block < w.heap.size:=by
 obtain ⟨a,cap,e,h1,h2,h3⟩:=lie_own (by omega) h;exact ⟨a,cap,e,⟨h1,rfl,h2,hr⟩,h3⟩
theorem getD_snoc (l:List Int) (x:Int) (i:Nat):(l ++ [x]).getD i 0=if i=l.length then x else l.getD i 0:=by
 by_cases h:i=l.length
 . subst h;simp
 . rw [if_neg h];by_cases h2:i < l.length
   . simp [h2,List.getElem?_append_left]
   . rw [List.getD_eq_getElem?_getD,List.getD_eq_getElem?_getD,List.getElem?_eq_none (by simp;omega),List.getElem?_eq_none (by omega)]
theorem OwI.grow {w:World} {base:Nat} {v:Value} {l:List Int} (h:OwI w base v l) (x:Int) (hn:l.length <= 1000) (hb:base <= w.heap.size) :
 ∃ v' w',(Builtin.append_ #[50,50] 50 #[v,.slice (some ⟨w.heap.size,0,none⟩) 1 1]).run Tryz.prog (w.alloc (.cells #[.int .i64 x] 3))=.ok v' w' /\ OwI w' base v' (l ++ [x]) /\ Kept w w' v.ownBlock /\ (v'.ownBlock=v.ownBlock \/ v'.ownBlock=some (w.heap.size + 1)):=by
 obtain ⟨i0,hi0,hz0,hz1,hz2⟩:=info_parts Tryz.infoIn;have hk:Kept w (w.alloc (.cells #[.int .i64 x] 3)) none:=Kept.alloc _ _ _ _ _;have hz:(w.alloc (.cells #[.int .i64 x] 3)).heap.size=w.heap.size + 1:=by simp
 have hc:∀ j,j < 1 -> (w.alloc (.cells #[.int .i64 x] 3)).cell? ⟨w.heap.size,0 + j,none⟩=some (.int .i64 x):=fun j hj=>by
  have:j=0:=by omega
  subst this;simp [World.cell?_alloc_mark]
 obtain ⟨v',w',hr,g1,g2,g3⟩:=grow_run (t:=50) (ty:=50) (c:=1) (g:=fun _=>.int .i64 x) Tryz.uIns hi0 hz0 hz1 hz2 rfl (by omega) (by omega) (h.kept hk) hc (fun j=>rfl) hn (by omega);rw [hz] at g3;refine ⟨v',w',hr,?_,?_,g3⟩
 . unfold OwI;rw [List.length_append]
   have e:(fun (i _:Nat)=>if i=l.length then Value.int .i64 x else .int .i64 (l.getD i 0))=(fun (i _:Nat)=>Value.int .i64 ((l ++ [x]).getD i 0)):=by
    funext i _
    rw [getD_snoc];split <;> rfl
   rw [e] at g1;exact g1
 . have h2:Kept (w.alloc (.cells #[.int .i64 x] 3)) w' v.ownBlock:=g2;refine ⟨h2.os.trans hk.os,h2.tape.trans hk.tape,h2.output.trans hk.output,Nat.le_trans hk.size h2.size,fun i hi hne=>(h2.block i (Nat.lt_of_lt_of_le hi hk.size) hne).trans (hk.block i hi (by simp))⟩
theorem OwI.lt {w:World} {base:Nat} {v:Value} {l:List Int} (h:OwI w base v l):∀ g,v.ownBlock=some g -> base <= g /\ g < w.heap.size:=own_lt h
theorem OwI.far {w w':World} {base:Nat} {v:Value} {l:List Int} (h:OwI w base v l) (k:Kept w w' v.ownBlock) {w0:World} (h0:Kept w0 w none) (hb:w0.heap.size <= base):Kept w0 w' none :=
 ⟨k.os.trans h0.os,k.tape.trans h0.tape,k.output.trans h0.output,Nat.le_trans h0.size k.size,fun i hi _=>(k.block i (Nat.lt_of_lt_of_le hi h0.size) (fun e=>by have:=(h.lt i e.symm).1;omega)).trans (h0.block i hi (by simp))⟩
theorem i64_zero:i64B 0:=by unfold i64B;decide
theorem nwithin_any (n lo hi:Int) (w:World):Calls Tryz.prog 80 #[.int .i64 n,.int .i64 lo,.int .i64 hi] w fun e w'=>e=.returned (.bool (inB n lo hi)) /\ w'=w:=by
 go_enter Tryz.func80,Tryz.ntmps80;go_wp2
 all_goals
  go_ret;refine ⟨?_,rfl⟩;simp [inB, *] <;> (first | omega | (intros;omega))
theorem nwithin_is {n lo hi:Int} {b:Bool} {w:World} (h:inB n lo hi=b):Calls Tryz.prog 80 #[.int .i64 n,.int .i64 lo,.int .i64 hi] w fun e w'=>e=.returned (.bool b) /\ w'=w:=by
 rw [<- h];exact nwithin_any n lo hi w
theorem nwithin_isM {n lo hi:Int} {b:Bool} {w:World} {Q:Ending -> World -> Prop} (h:inB n lo hi=b) (hQ:Q (.returned (.bool b)) w):Calls Tryz.prog 80 #[.int .i64 n,.int .i64 lo,.int .i64 hi] w Q:=(nwithin_is h).mono (by rintro e w9 ⟨rfl,rfl⟩;exact hQ)
theorem checkE_yes' {S:St} (h:siteB S=true):checkE S=0:=by unfold checkE;rw [if_pos h]
theorem checkE_no' {S:St} (h:siteB S=false):checkE S=50:=by unfold checkE;rw [if_neg (by rw [h];decide)]
structure Far (w:World) (B:Nat) (Y:Na) (N:Nt):Prop where
 net:∀ w',Kept w w' (some B) -> NetAt w' Y N
 tab:∀ w',Kept w w' (some B) -> Tabb w'
theorem Far.kept {w w':World} {B:Nat} {Y:Na} {N:Nt} (h:Far w B Y N) (q:Kept w w' (some B)):Far w' B Y N:=⟨fun w'' k=>h.net w'' (q.tr k),fun w'' k=>h.tab w'' (q.tr k)⟩
def HoldP (r:Option Ms) (w:World) (B:Nat) (e:Ending) (w':World):Prop:=match r with
 | none=>e=.returned (.bool false) /\ Kept w w' (some B)
 | some M=>e=.returned (.bool true) /\ Marks w' B M /\ Kept w w' (some B)
theorem HoldP.no {r:Option Ms} {w w':World} {B:Nat} (h:r=none) (k:Kept w w' (some B)):HoldP r w B (.returned (.bool false)) w':=by subst h;exact ⟨rfl,k⟩
theorem HoldP.yes {r:Option Ms} {M:Ms} {w w':World} {B:Nat} (h:r=some M) (m:Marks w' B M) (k:Kept w w' (some B)):HoldP r w B (.returned (.bool true)) w':=by subst h;exact ⟨rfl,m,k⟩
theorem counts_net {w:World} {Y:Na} {N:Nt} (h:NetAt w Y N):Calls Tryz.prog 56 #[netV Y N] w fun e w'=>e=.returned (.bool (ncountsB N)) /\ Kept w w' none:=by
 have h1:N.sites.length <= 9223372036854775807:=by have:=h.sk.room;have:=h.sk.max;omega
 have h2:N.subs.length <= 9223372036854775807:=by have:=h.uk.room;have:=h.uk.max;omega
 have h3:N.weds.length <= 9223372036854775807:=by have:=h.dk.room;have:=h.dk.max;omega
 have hk:Kept w (w.alloc (.cells (cn9 Y N) 26)) none:=Kept.alloc _ _ _ _ _;have HK:=Hid.mk' hk;have HE:Hid (ncountsB N=(inB N.sites.length 1 12 && inB N.subs.length 1 6 && decide (N.weds.length <= 8))):=rfl;clear h hk;go_enter Tryz.func56,Tryz.ntmps56
 cases b1:inB N.sites.length 1 12 with
 | false =>
  go_wp2_with (go_at_call 80;refine nwithin_isM (by assumption) ?_);go_ret;exact ⟨by rw [HE.out,b1];rfl,HK.out⟩
 | true =>
  cases b2:inB N.subs.length 1 6 with
  | false =>
   go_wp2_with (go_at_call 80;refine nwithin_isM (by assumption) ?_);go_ret;exact ⟨by rw [HE.out,b1,b2];rfl,HK.out⟩
  | true =>
   go_wp2_with (go_at_call 80;refine nwithin_isM (by assumption) ?_);go_ret;exact ⟨ret_bool (by rw [HE.out,b1,b2,Bool.eq_iff_iff];simp;omega),HK.out⟩
theorem sites_net {w:World} {B:Nat} {Y:Na} {N:Nt} (h:Far w B Y N) (hM:Marks w B []) (hn:N.sites.length <= 12):Calls Tryz.prog 57 #[netV Y N,.map (some B)] w fun e w'=>HoldP (sitesF N N.sites.length) w B e w':=by
 obtain ⟨ys,ysc,yu,yuc,yd,ydc,X,r,t⟩:=Y;have hk:Kept w (w.alloc (.cells (cy9 ys ysc yu yuc yd ydc N) 26)) none:=Kept.alloc _ _ _ _ _;have HK:=Hid.mk' (kept_any (r:=some B) hk);have HF:=Hid.mk' (h.kept (kept_any hk));have HM:=Hid.mk' (hM.kept hk (by simp));clear h hM hk;go_enter Tryz.func57,Tryz.ntmps57;go_wp2;generalize hW:(w.alloc (.cells (cy9 ys ysc yu yuc yd ydc N) 26))=W at *;clear hW;go_loopw [10] (fun i wr=>∃ (k:Nat) (M:Ms),k <= N.sites.length /\ i=.int .i64 k /\ Hid (sitesF N k=some M) /\ Hid (Marks wr B M) /\ M.length <= k /\ Hid (Kept W wr (some B))) (fun i _=>N.sites.length - (intOf i).toNat)
 case atStart=>exact ⟨0,[],Nat.zero_le _,rfl,rfl,HM,Nat.le_refl _,Kept.refl _ _⟩
 case round =>
  obtain ⟨k,M,hk,rfl,HS,HMr,hl,KR⟩:=hrel;by_cases hlt:k < N.sites.length
  . have hL:=(HF.out.net _ KR.out).s1;have hX:=(HF.out.net _ KR.out).s2;obtain ⟨sb,so,es,hsb,hc⟩:=hL.at_ (by omega);dsimp only at es;subst es;have hXk:=hX k hlt
    have HR:Hid (sitesF N (k + 1)=if siteB (N.sites.getD k s0)=true then putF M (0,(N.sites.getD k s0).id,0) k else none):=by
     show sitesF N (k + 1)=_
     rw [sitesF,HS.out]
    have e0:=hc k hlt 0 (by omega);have e1:=hc k hlt 1 (by omega);have e2:=hc k hlt 2 (by omega);have e3:=hc k hlt 3 (by omega);have e4:=hc k hlt 4 (by omega);have e5:=hc k hlt 5 (by omega);have e6:=hc k hlt 6 (by omega);have e7:=hc k hlt 7 (by omega);have e8:=hc k hlt 8 (by omega);have e9:=hc k hlt 9 (by omega);have e10:=hc k hlt 10 (by omega);have e11:=hc k hlt 11 (by omega);generalize N.sites.getD k s0=S at *;dsimp only at e0 e1 e2 e3 e4 e5 e6 e7 e8 e9 e10 e11 hXk;generalize X k=Xk at *;obtain ⟨xg,xgc,xa,xac,xb,xbc,xp,xpc,xe,xec,xl,xlc⟩:=Xk;dsimp only [stV,Nat.add_zero] at e0 e1 e2 e3 e4 e5 e6 e7 e8 e9 e10 e11;clear hc hL hX;have hkA:Kept wr (wr.alloc (.cells (cx9 xg xgc xa xac xb xbc xp xpc xe xec xl xlc S) 49)) none:=Kept.alloc _ _ _ _ _;have HX2:=Hid.mk' (hXk.kept hkA);have HT2:=Hid.mk' (HF.out.tab _ (KR.out.tr (kept_any hkA)))
    have HC0:Hid ((wr.alloc (.cells (cx9 xg xgc xa xac xb xbc xp xpc xe xec xl xlc S) 49)).cell? ⟨wr.heap.size,0,none⟩=some (.int .i64 S.id)):=by
     show (wr.alloc (.cells (cx9 xg xgc xa xac xb xbc xp xpc xe xec xl xlc S) 49)).cell? ⟨wr.heap.size,0,none⟩=some (.int .i64 S.id)
     simp [World.cell?_alloc_mark]
    have HMA:=Hid.mk' (HMr.out.kept hkA (by simp));have HKA:=Hid.mk' (KR.out.tr (kept_any hkA));have hid:mkR (0,S.id,0):=⟨i64_zero,hXk.nr.1,i64_zero⟩;have hpl:i64B (k:Int):=by unfold i64B;omega
    have HNO:Hid (sitesF N (k + 1)=none -> sitesF N N.sites.length=none):=fun q=>sitesF_none q _ (by omega)
    clear hXk hkA HS HMr
    cases hs:siteB S with
    | false =>
     have hce:=checkE_no' hs;have HE:=Hid.mk' (HNO.out (by rw [HR.out,hs];rfl));go_wp2_with (go_at_call 64;have hn:=check_any HX2.out HT2.out;rw [hce] at hn;refine hn.mono ?_;rintro e w3 ⟨rfl,hk3⟩;have c0:=cell_kept0 HC0.out hk3);go_ret;exact HoldP.no HE.out (HK.out.tr (HKA.out.tr (kept_any hk3)))
    | true =>
     have hce:=checkE_yes' hs
     cases hf:mkF M (0,S.id,0) with
     | some v =>
      have HE:=Hid.mk' (HNO.out (by rw [HR.out,hs,if_pos rfl];exact putF_old hf))
      go_wp2_with (first
       | (go_at_call 81;refine (isFirst_old (HMA.out.kept hk3 (by simp)) hid _ v hf).mono ?_;rintro e w4 ⟨rfl,hk4⟩)
       | (go_at_call 64;have hn:=check_any HX2.out HT2.out;rw [hce] at hn;refine hn.mono ?_;rintro e w3 ⟨rfl,hk3⟩;have c0:=cell_kept0 HC0.out hk3))
      go_ret;exact HoldP.no HE.out (HK.out.tr (HKA.out.tr ((kept_any hk3).tr (kept_any hk4))))
     | none =>
      have HE:Hid (sitesF N (k + 1)=some (((0,S.id,0),(k:Int)) :: M)):=by
       show sitesF N (k + 1)=_
       rw [HR.out,hs,if_pos rfl];exact putF_new hf
      go_wp2_with (first
       | (go_at_call 81;refine (isFirst_new (HMA.out.kept hk3 (by simp)) hid _ hpl (by omega) hf).mono ?_;rintro e w4 ⟨rfl,hm4,hk4⟩)
       | (go_at_call 64;have hn:=check_any HX2.out HT2.out;rw [hce] at hn;refine hn.mono ?_;rintro e w3 ⟨rfl,hk3⟩;have c0:=cell_kept0 HC0.out hk3))
      go_roundw
      case rel=>exact ⟨k + 1,_,by omega,by go_num,HE,hm4,(by simp;omega),HKA.out.tr ((kept_any hk3).tr hk4)⟩
      case measure=>simp [intOf];omega
  . have e:k=N.sites.length:=by omega
    subst e;go_wp2;go_ret;exact HoldP.yes HS.out HMr.out (HK.out.tr KR.out)
end
section
open Go.RowKit Go.Lib Go.Deep Go.Maps
theorem countP_put {p q:Nat -> Bool} {x:Nat} (h0:p x=false) (h1:q x=true) (h2:∀ i,i ≠ x -> q i=p i):∀ n,(List.range n).countP q=(List.range n).countP p + (if x < n then 1 else 0)
 | 0=>by simp
 | n + 1=>by
  rw [List.range_succ,List.countP_append,List.countP_append,countP_put h0 h1 h2 n];by_cases e:n=x
  . subst e;simp [h0,h1]
  . have h3:=h2 n e;simp only [List.countP_singleton,h3];by_cases hx:x < n
    . rw [if_pos hx,if_pos (show x < n + 1 by omega)];omega
    . rw [if_neg hx,if_neg (show ¬ x < n + 1 by omega)];omega
def manyP (N:Nt) (M:Ms):Nat:=(List.range N.sites.length).countP (fun i:Nat=>(mkF M (1,(i:Int),0)).isSome)
theorem manyP_le (N:Nt) (M:Ms):manyP N M <= N.sites.length:=by
 have:=List.countP_le_length (p:=fun i=>(mkF M (1,((i:Nat):Int),0)).isSome) (l:=List.range N.sites.length);simpa [manyP] using this
theorem manyP_put {N:Nt} {M:Ms} {x:Int} {p:Int} (hx:inB x 0 ((N.sites.length:Int) - 1)=true) (h:mkF M (1,x,0)=none):manyP N (((1,x,0),p) :: M)=manyP N M + 1:=by
 have hb:=inB_iff.1 hx;obtain ⟨n,rfl⟩:∃ n:Nat,x=n:=⟨x.toNat,by omega⟩
 have:=countP_put (p:=fun i=>(mkF M (1,(i:Int),0)).isSome) (q:=fun i=>(mkF (((1,(n:Int),0),p) :: M) (1,(i:Int),0)).isSome) (x:=n) (by show (mkF M (1,(n:Int),0)).isSome=false;rw [h];rfl) (by show (mkF (((1,(n:Int),0),p) :: M) (1,(n:Int),0)).isSome=true;rw [mkF_same];rfl) (fun i hi=>by
  show (mkF (((1,(n:Int),0),p) :: M) (1,(i:Int),0)).isSome=(mkF M (1,(i:Int),0)).isSome
  rw [mkF_other _ _ (fun e=>hi (by have:=congrArg (fun z:Mk=>z.2.1) e;simp only at this;omega))]) N.sites.length
 unfold manyP;rw [this,if_pos (by omega)]
theorem takeF_many {N:Nt} {place:Nat} {l:List Int} {M:Ms}:∀ k M',takeF N place l M k=some M' -> manyP N M'=manyP N M + k /\ M'.length=M.length + k
 | 0,M',h=>by injection h with h;subst h;exact ⟨rfl,rfl⟩
 | k + 1,M',h=>by
  rw [takeF] at h
  cases h1:takeF N place l M k with
  | none=>rw [h1] at h;cases h
  | some M1 =>
   rw [h1] at h;simp only at h;split at h
   . rename_i hin
     cases h2:mkF M1 (1,l.getD k 0,0) with
     | some v=>rw [putF_old h2] at h;cases h
     | none =>
      rw [putF_new h2] at h;injection h with h;subst h;obtain ⟨i1,i2⟩:=takeF_many k M1 h1;refine ⟨by rw [manyP_put hin h2,i1];omega,by simp [i2];omega⟩
   . cases h
theorem take_net {w:World} {B:Nat} {Y:Na} {N:Nt} {M:Ms} (h:Far w B Y N) (hM:Marks w B M) (hn:N.sites.length <= 12) (hl:M.length <= 500) (place:Nat) (hp:place < N.subs.length):Calls Tryz.prog 82 #[netV Y N,.map (some B),.int .i64 place] w fun e w'=>HoldP (takeF N place (N.subs.getD place u0).sites M (N.subs.getD place u0).sites.length) w B e w':=by
 obtain ⟨ys,ysc,yu,yuc,yd,ydc,X,r,t⟩:=Y;have h0:=h.net w (Kept.refl _ _);have hsm:N.subs.length <= 9223372036854775807:=by have:=h0.uk.room;have:=h0.uk.max;omega
 obtain ⟨ub,uo,eu,hub,hc⟩:=h0.u1.at_ (by omega);dsimp only at eu;subst eu;have hk:Kept w (w.alloc (.cells (cy9 ys ysc (some ⟨ub,uo,none⟩) yuc yd ydc N) 26)) none:=Kept.alloc _ _ _ _ _;have HK:=Hid.mk' (kept_any (r:=some B) hk);have HF:=Hid.mk' (h.kept (kept_any hk));have HM:=Hid.mk' (hM.kept hk (by simp));have hBn:=hM.lt;have hI:=(h.kept (kept_any hk)).net _ (Kept.refl _ _);have hIu:=hI.u2 place hp;dsimp only at hIu;have e0:w.cell? ⟨ub,uo + place * 2,none⟩=some (.slice (r place).1 (N.subs.getD place u0).sites.length (r place).2):=hc place hp 0 (by omega);have HI:Hid (∀ w',Kept (w.alloc (.cells (cy9 ys ysc (some ⟨ub,uo,none⟩) yuc yd ydc N) 26)) w' (some B) -> Ints w' (r place).1 (N.subs.getD place u0).sites.length (r place).2 (N.subs.getD place u0).sites):=fun w' q=>((h.kept (kept_any hk)).net w' q).u2 place hp
 have hlm:(N.subs.getD place u0).sites.length <= 9223372036854775807:=by have:=hIu.cap.room;have:=hIu.cap.max;omega
 have hc0:(w.alloc (.cells (cy9 ys ysc (some ⟨ub,uo,none⟩) yuc yd ydc N) 26)).cell? ⟨w.heap.size,0,none⟩=some (.slice ys N.sites.length ysc):=by simp [World.cell?_alloc_mark]
 have HC:Hid (∀ w',Kept (w.alloc (.cells (cy9 ys ysc (some ⟨ub,uo,none⟩) yuc yd ydc N) 26)) w' (some B) -> w'.cell? ⟨w.heap.size,0,none⟩=some (.slice ys N.sites.length ysc)):=fun w' q=>(World.cell?_of_block (w:=(w.alloc (.cells (cy9 ys ysc (some ⟨ub,uo,none⟩) yuc yd ydc N) 26))) (a:=⟨w.heap.size,0,none⟩) (q.block w.heap.size (by simp) (fun e=>by injection e with e;omega))).trans hc0
 have hul:=block_lt e0;clear h hM hk h0 hc hI hIu hc0 hBn;generalize r place=rp at *;obtain ⟨ra,rc⟩:=rp;dsimp only at *;generalize hsu:(N.subs.getD place u0).sites=l at *;go_enter Tryz.func82,Tryz.ntmps82;go_wp2;generalize hW:(w.alloc (.cells (cy9 ys ysc (some ⟨ub,uo,none⟩) yuc yd ydc N) 26))=W at *;clear hW;go_loopw [16] (fun i wr=>∃ (k:Nat) (M':Ms),k <= l.length /\ i=.int .i64 k /\ Hid (takeF N place l M k=some M') /\ Hid (Marks wr B M') /\ Hid (Kept W wr (some B))) (fun i _=>l.length - (intOf i).toNat)
 case atStart=>exact ⟨0,M,Nat.zero_le _,rfl,rfl,HM,Kept.refl _ _⟩
 case round =>
  obtain ⟨k,M',hk,rfl,HS,HMr,KR⟩:=hrel;by_cases hlt:k < l.length
  . obtain ⟨rb,ro,er,hrb,hcr⟩:=(HI.out _ KR.out).at_ (by omega);subst er;have hx:=hcr k hlt;have hxr:i64B (l.getD k 0):=(HI.out _ KR.out).rng _ (getD_mem hlt);have c0:=HC.out _ KR.out
    have HRec:Hid (takeF N place l M (k + 1)=if inB (l.getD k 0) 0 ((N.sites.length:Int) - 1)=true then putF M' (1,l.getD k 0,0) place else none):=by
     show takeF N place l M (k + 1)=_
     rw [takeF,HS.out]
    have HNO:Hid (takeF N place l M (k + 1)=none -> takeF N place l M l.length=none):=fun q=>takeF_none q _ (by omega)
    have hml:M'.length <= 1000:=by
     have h1:=takeF_many k M' HS.out;have h2:=manyP_le N M';omega
    have hmk:mkR (1,l.getD k 0,0):=⟨by show i64B 1;unfold i64B;omega,hxr,i64_zero⟩;have hpl:i64B (place:Int):=by unfold i64B;omega
    have hwr:IntKind.i64.wrap ((N.sites.length:Int) - 1)=(N.sites.length:Int) - 1:=wrap_in (by omega) (by omega);clear hcr hxr;generalize l.getD k 0=x at *
    cases hin:inB x 0 ((N.sites.length:Int) - 1) with
    | false =>
     have HE:=Hid.mk' (HNO.out (by rw [HRec.out,hin];rfl));go_wp2_with (go_at_call 80;refine nwithin_isM (by assumption) ?_);go_ret;exact HoldP.no HE.out (HK.out.tr KR.out)
    | true =>
     cases hf:mkF M' (1,x,0) with
     | some v =>
      have HE:=Hid.mk' (HNO.out (by rw [HRec.out,hin,if_pos rfl];exact putF_old hf))
      go_wp2_with (first
       | (go_at_call 81;refine (isFirst_old HMr.out hmk _ v hf).mono ?_;rintro e w4 ⟨rfl,hk4⟩)
       | (go_at_call 80;refine nwithin_isM (by assumption) ?_))
      go_ret;exact HoldP.no HE.out (HK.out.tr (KR.out.tr (kept_any hk4)))
     | none =>
      have HE:Hid (takeF N place l M (k + 1)=some (((1,x,0),(place:Int)) :: M')):=by
       show takeF N place l M (k + 1)=_
       rw [HRec.out,hin,if_pos rfl];exact putF_new hf
      go_wp2_with (first
       | (go_at_call 81;refine (isFirst_new HMr.out hmk _ hpl hml hf).mono ?_;rintro e w4 ⟨rfl,hm4,hk4⟩)
       | (go_at_call 80;refine nwithin_isM (by assumption) ?_))
      go_roundw
      case rel=>exact ⟨k + 1,_,by omega,by go_num,HE,hm4,KR.out.tr hk4⟩
      case measure=>simp [intOf];omega
  . have e:k=l.length:=by omega
    subst e;go_wp2;go_ret;exact HoldP.yes HS.out HMr.out (HK.out.tr KR.out)
theorem placed_net {w:World} {B:Nat} {Y:Na} {N:Nt} {M:Ms} (hM:Marks w B M) (hn:N.sites.length <= 12):Calls Tryz.prog 83 #[netV Y N,.map (some B)] w fun e w'=>e=.returned (.bool (placedB N M)) /\ Kept w w' none:=by
 obtain ⟨ys,ysc,yu,yuc,yd,ydc,X,r,t⟩:=Y;have hk:Kept w (w.alloc (.cells (cy9 ys ysc yu yuc yd ydc N) 26)) none:=Kept.alloc _ _ _ _ _;have HK:=Hid.mk' hk;have HM:=Hid.mk' (hM.kept hk (by simp));have HA:=Hid.mk' hM.all;clear hM hk;go_enter Tryz.func83,Tryz.ntmps83;go_wp2;generalize hW:(w.alloc (.cells (cy9 ys ysc yu yuc yd ydc N) 26))=W at *;clear hW;go_loopw [11] (fun i wr=>∃ (k:Nat),k <= N.sites.length /\ i=.int .i64 k /\ Hid (∀ j,j < k -> (mkF M (1,(j:Int),0)).isSome=true) /\ wr=W) (fun i _=>N.sites.length - (intOf i).toNat)
 case atStart=>exact ⟨0,Nat.zero_le _,rfl,(fun j hj=>by omega),rfl⟩
 case round =>
  obtain ⟨k,hk,rfl,HJ,rfl⟩:=hrel;by_cases hlt:k < N.sites.length
  . have hmk:mkR (1,(k:Int),0):=⟨by show i64B 1;unfold i64B;omega,by show i64B (k:Int);unfold i64B;omega,i64_zero⟩;have HKY:=Hid.mk' (mk_key hmk);have hh:=mkD_has M HA.out _ hmk
    cases hf:(mkF M (1,(k:Int),0)).isSome with
    | false =>
     rw [hf] at hh;have HE:Hid (placedB N M=false):=allB_no hlt hf;go_wp2_with (at_lookup;refine wpList_lookup_own_ok_int _ rfl _ _ 82 rfl 130 3 .i64 Tryz.lawMk Tryz.uMks Tryz.uMi (Tryz.zeroMi _) B _ _ rfl HM.out.own _ _ rfl HKY.out ?_;intro x hat hwc;rw [hh]);go_ret;exact ⟨by rw [HE.out];rfl,HK.out⟩
    | true =>
     rw [hf] at hh;go_wp2_with (at_lookup;refine wpList_lookup_own_ok_int _ rfl _ _ 82 rfl 130 3 .i64 Tryz.lawMk Tryz.uMks Tryz.uMi (Tryz.zeroMi _) B _ _ rfl HM.out.own _ _ rfl HKY.out ?_;intro x hat hwc;rw [hh]);go_roundw
     case rel=>exact ⟨k + 1,by omega,by go_num,(fun j hj=>(by
      by_cases e:j=k
      . rw [e];exact hf
      . exact HJ.out j (by omega))),trivial⟩
     case measure=>simp [intOf];omega
  . have e:k=N.sites.length:=by omega
    subst e;have HE:Hid (placedB N M=true):=allB_iff.2 HJ.out;go_wp2;go_ret;exact ⟨by rw [HE.out];rfl,HK.out⟩
end
end Go.Proofs.YtakilpnbjihibaaGreatDoor
