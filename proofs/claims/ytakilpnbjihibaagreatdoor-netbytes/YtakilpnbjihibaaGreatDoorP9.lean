import Derived.Deep.RegionHeld3
import Derived.Test.YtakilpnbjihibaaGreatDoorP8
namespace Go.Proofs.YtakilpnbjihibaaGreatDoor
set_option linter.unusedVariables false
set_option linter.unusedSimpArgs false
set_option maxHeartbeats 20000000
set_option maxRecDepth 100000
open Go.RowKit Go.Lib Go.Deep
def Rg (A:Act) (W:World) (e:Exit) (a:Act) (w:World):Prop:=match e with
 | .normal=>a=A /\ Kept W w none
 | _=>False
theorem Rg.out {A:Act} {W w:World} {e:Exit} {a:Act} (h:Rg A W e a w):e=.normal /\ a=A /\ Kept W w none:=by
 cases e with
 | normal=>exact ⟨rfl,h.1,h.2⟩
 | _=>exact h.elim
def rowB (S:St) (i:Nat):Bool:=groupB S i && decide ((S.between.getD i []).length=S.groups.length) && decide (S.ap i < 2 ^ S.groups.length)
def pairB (S:St) (a b:Nat):Bool:=((S.ap a).testBit b == (S.ap b).testBit a) && !(decide (a=b) && (S.ap a).testBit b) && betB S a b
def rgrB (S:St):Bool:=inB S.id 0 65535 && inB S.groups.length 1 16 && decide (S.apart.length=S.groups.length) && decide (S.between.length=S.groups.length) && allB S.groups.length (rowB S) && allB S.groups.length (fun a=>allB S.groups.length (pairB S a))
theorem rapart_is {X:Sa} {S:St} {w:World} {v:Bool} {a b:Nat} (h:Sat w X S) (ha:a < S.apart.length) (hb:b < 32) (hv:(S.ap a).testBit b=v):Calls Tryz.prog 89 #[siteV X S,.int .i64 a,.int .i64 b] w fun e w'=>e=.returned (.bool v) /\ Kept w w' none:=by
 rw [<- hv];exact rapart_yes h a b ha hb
theorem rgr_row {S:St} {i:Nat} (hi:i < S.groups.length) (h:rowB S i=false):rgrB S=false:=by
 unfold rgrB;rw [allB_no hi h];simp
theorem rgr_pair {S:St} {a b:Nat} (ha:a < S.groups.length) (hb:b < S.groups.length) (h:pairB S a b=false):rgrB S=false:=by
 unfold rgrB;rw [show allB S.groups.length (fun a=>allB S.groups.length (pairB S a))=false from allB_no ha (allB_no hb h)];simp
theorem rgroups_no {X:Sa} {S:St} {w:World} (h:Sat w X S) (hno:¬ (inB S.id 0 65535=true /\ inB S.groups.length 1 16=true /\ S.apart.length=S.groups.length /\ S.between.length=S.groups.length)):Calls Tryz.prog 66 #[siteV X S] w fun e w'=>e=.returned (.bool (rgrB S)) /\ Kept w w' none:=by
 have hkA:Kept w (w.alloc (.cells (cs9 X S) 49)) none:=Kept.alloc _ _ _ _ _;have HK:=Hid.mk' hkA;have HNO:=Hid.mk' hno;have hg9:S.groups.length <= 9223372036854775807:=by have:=h.gk.room;have:=h.gk.max;omega
 have ha9:S.apart.length <= 9223372036854775807:=by have:=h.ak.room;have:=h.ak.max;omega
 have hb9:S.between.length <= 9223372036854775807:=by have:=h.b.cap.room;have:=h.b.cap.max;omega
 clear h hkA hno;go_enter Tryz.func66,Tryz.ntmps66
 cases h1:inB S.id 0 65535
 case false =>
  have HE:Hid (rgrB S=false):=(by show rgrB S=false;unfold rgrB;rw [h1];rfl);go_wp2_with (go_at_call 68;refine rin_isM (by assumption) ?_);go_ret;exact ⟨by rw [HE.out];rfl,HK.out⟩
 cases h2:inB S.groups.length 1 16
 case false =>
  have HE:Hid (rgrB S=false):=(by show rgrB S=false;unfold rgrB;rw [h1,h2];rfl);go_wp2_with (go_at_call 68;refine rin_isM (by assumption) ?_);go_ret;exact ⟨by rw [HE.out];rfl,HK.out⟩
 by_cases h3:S.apart.length=S.groups.length
 case neg =>
  have h3b:¬ (S.apart.length:Int)=(S.groups.length:Int):=by omega
  have HE:Hid (rgrB S=false):=(by show rgrB S=false;unfold rgrB;rw [h1,h2,decide_eq_false h3];rfl);go_wp2_with (go_at_call 68;refine rin_isM (by assumption) ?_);go_ret;exact ⟨by rw [HE.out];rfl,HK.out⟩
 have h3b:(S.apart.length:Int)=(S.groups.length:Int):=by omega
 have H3:=Hid.mk' h3;clear h3;by_cases h4:S.between.length=S.groups.length
 case neg =>
  have h4b:¬ (S.between.length:Int)=(S.groups.length:Int):=by omega
  have HE:Hid (rgrB S=false):=(by show rgrB S=false;unfold rgrB;rw [h1,h2,decide_eq_false h4];simp);go_wp2_with (go_at_call 68;refine rin_isM (by assumption) ?_);go_ret;exact ⟨by rw [HE.out];rfl,HK.out⟩
 exact absurd ⟨h1,h2,H3.out,h4⟩ HNO.out
theorem rgroups_yes {X:Sa} {S:St} {w:World} (h:Sat w X S) (h1:inB S.id 0 65535=true) (h2:inB S.groups.length 1 16=true) (h3:S.apart.length=S.groups.length) (h4:S.between.length=S.groups.length):Calls Tryz.prog 66 #[siteV X S] w fun e w'=>e=.returned (.bool (rgrB S)) /\ Kept w w' none:=by
 obtain ⟨xg,xgc,xa,xac,xb,xbc,xp,xpc,xe,xec,xl,xlc⟩:=X;have hg16:=inB_iff.1 h2;obtain ⟨bg,og,eg,_⟩:=h.grAt (i:=0) (by omega);obtain ⟨ba,oa,ea,hca⟩:=h.apAt (n:=S.apart.length) (by omega) (by omega);obtain ⟨bb,ob,_,_,eb,_⟩:=h.b.at_ (i:=0) (by omega);dsimp only at eg ea eb;subst eg ea eb;have hkA:Kept w (w.alloc (.cells (cx9 (some ⟨bg,og,none⟩) xgc (some ⟨ba,oa,none⟩) xac (some ⟨bb,ob,none⟩) xbc xp xpc xe xec xl xlc S) 49)) none:=Kept.alloc _ _ _ _ _;have HSB:=Hid.mk' (sbox_alloc h 49);have HK:=Hid.mk' hkA;have HAP:Hid (∀ w',Kept (w.alloc (.cells (cx9 (some ⟨bg,og,none⟩) xgc (some ⟨ba,oa,none⟩) xac (some ⟨bb,ob,none⟩) xbc xp xpc xe xec xl xlc S) 49)) w' none -> ∀ i,i < S.groups.length -> w'.cell? ⟨ba,oa + i,none⟩=some (.int .u32 (S.ap i:Int))):=fun w' q i hi=>cell_kept0 (hca i (by omega)) (HK.out.tr q)
 have HGR:Hid (∀ w',Kept (w.alloc (.cells (cx9 (some ⟨bg,og,none⟩) xgc (some ⟨ba,oa,none⟩) xac (some ⟨bb,ob,none⟩) xbc xp xpc xe xec xl xlc S) 49)) w' none -> ∀ i,i < S.groups.length -> w'.cell? ⟨bg,og + i * 3,none⟩=some (.int .u8 ((S.gr i).kind:Int)) /\ w'.cell? ⟨bg,og + i * 3 + 1,none⟩=some (.int .i64 (S.gr i).min) /\ w'.cell? ⟨bg,og + i * 3 + 2,none⟩=some (.int .i64 (S.gr i).yellow)):=fun w' q i hi=>by
  obtain ⟨b,o,e,p1,p2,p3⟩:=h.grAt hi;injection e with e;injection e with e1 e2
  subst e1 e2;exact ⟨cell_kept0 p1 (HK.out.tr q),cell_kept0 p2 (HK.out.tr q),cell_kept0 p3 (HK.out.tr q)⟩
 have HBT:Hid (∀ i,i < S.groups.length -> ∃ ar cr,(∀ w',Kept (w.alloc (.cells (cx9 (some ⟨bg,og,none⟩) xgc (some ⟨ba,oa,none⟩) xac (some ⟨bb,ob,none⟩) xbc xp xpc xe xec xl xlc S) 49)) w' none -> w'.cell? ⟨bb,ob + i,none⟩=some (.slice ar (S.between.getD i []).length cr)) /\ Ints (w.alloc (.cells (cx9 (some ⟨bg,og,none⟩) xgc (some ⟨ba,oa,none⟩) xac (some ⟨bb,ob,none⟩) xbc xp xpc xe xec xl xlc S) 49)) ar (S.between.getD i []).length cr (S.between.getD i [])):=fun i hi=>by
  obtain ⟨b,o,ar,cr,e,p1,hI⟩:=h.b.at_ (i:=i) (by omega);injection e with e;injection e with e1 e2
  subst e1 e2;exact ⟨ar,cr,fun w' q=>cell_kept0 p1 (HK.out.tr q),hI.kept HK.out⟩
 have hg9:S.groups.length <= 9223372036854775807:=by have:=h.gk.room;have:=h.gk.max;omega
 have ha9:S.apart.length <= 9223372036854775807:=by have:=h.ak.room;have:=h.ak.max;omega
 have hb9:S.between.length <= 9223372036854775807:=by have:=h.b.cap.room;have:=h.b.cap.max;omega
 have h3b:(S.apart.length:Int)=(S.groups.length:Int):=by omega
 have h4b:(S.between.length:Int)=(S.groups.length:Int):=by omega
 have H3:=Hid.mk' h3;have H4:=Hid.mk' h4
 have HE0:Hid (rgrB S=(allB S.groups.length (rowB S) && allB S.groups.length (fun a=>allB S.groups.length (pairB S a)))):=by
  show rgrB S=_
  unfold rgrB;rw [h1,h2,decide_eq_true h3,decide_eq_true h4];rfl
 clear h hkA hca h3 h4;go_enter Tryz.func66,Tryz.ntmps66;go_wp2_with (go_at_call 68;refine rin_isM (by assumption) ?_);generalize hW:(w.alloc (.cells (cx9 (some ⟨bg,og,none⟩) xgc (some ⟨ba,oa,none⟩) xac (some ⟨bb,ob,none⟩) xbc xp xpc xe xec xl xlc S) 49))=W at *;clear hW h1 h2 h3b h4b;go_loopw [4] (fun i wr=>∃ k:Nat,k <= S.groups.length /\ i=.int .i64 k /\ Hid (∀ j,j < k -> rowB S j=true) /\ Kept W wr none) (fun i _=>S.groups.length - (intOf i).toNat)
 case atStart=>exact ⟨0,Nat.zero_le _,rfl,(fun j hj=>by omega),Kept.refl _ _⟩
 case round =>
  obtain ⟨k,hk,rfl,HJ,hkr⟩:=hrel;by_cases hlt:k < S.groups.length
  . have h3:=H3.out;have h4:=H4.out;have c1:=(HSB.out.kept hkr).c1;have c2:=(HSB.out.kept hkr).c2;have c3:=(HSB.out.kept hkr).c3;obtain ⟨g0,g1,g2⟩:=HGR.out _ hkr k hlt;have ka:=HAP.out _ hkr k hlt;obtain ⟨ar,cr,hkb,hI⟩:=HBT.out k hlt;have kb:=hkb _ hkr;have hI1:=hI.cap.room;have hI2:=hI.cap.max;have har:=HSB.out.sat.apr k;have hbl:=HSB.out.lt;have hbw:w.heap.size < wr.heap.size:=Nat.lt_of_lt_of_le hbl hkr.size;clear hbl hkb hI;have l1:=block_lt g0;have l2:=block_lt ka;have l3:=block_lt kb;have hka:k < S.apart.length:=by omega
    have hkb:k < S.between.length:=by omega
    have HPI:=Hid.mk' (pow_int (i:=S.groups.length) (by omega));have HR:Hid (rowB S k=((decide ((S.gr k).kind=1) || decide ((S.gr k).kind=2)) && inB (S.gr k).min 1 1048576 && inB (S.gr k).yellow 1 1048576 && decide ((S.between.getD k []).length=S.groups.length) && decide (S.ap k < 2 ^ S.groups.length))):=rfl;clear h3 h4;have HRN:Hid (rowB S k=false -> rgrB S=false):=rgr_row hlt;have hpw:2 ^ S.groups.length < 4294967296:=pow_lt32 (i:=S.groups.length) (by omega);generalize (S.between.getD k []).length=m at *;generalize (S.gr k).kind=kd at *;generalize (S.gr k).min=mn at *;generalize (S.gr k).yellow=ye at *;generalize S.ap k=ap at *;by_cases k1:kd=1
    case pos =>
     subst k1
     cases hm:inB mn 1 1048576
     case false =>
      have HE:Hid (rgrB S=false):=(HRN.out (by rw [HR.out,hm];simp));go_wp2_with (go_at_call 68;refine rin_isM (by assumption) ?_);go_ret;exact ⟨by rw [HE.out];rfl,HK.out.tr (hkr.tr (Kept.alloc _ _ _ _ _))⟩
     cases hy:inB ye 1 1048576
     case false =>
      have HE:Hid (rgrB S=false):=(HRN.out (by rw [HR.out,hy];simp));go_wp2_with (go_at_call 68;refine rin_isM (by assumption) ?_);go_ret;exact ⟨by rw [HE.out];rfl,HK.out.tr (hkr.tr (Kept.alloc _ _ _ _ _))⟩
     by_cases hl:m=S.groups.length
     case neg =>
      have hlb:¬ (m:Int)=(S.groups.length:Int):=by omega
      have HE:Hid (rgrB S=false):=(HRN.out (by rw [HR.out,decide_eq_false hl];simp));go_wp2_with (go_at_call 68;refine rin_isM (by assumption) ?_);go_ret;exact ⟨by rw [HE.out];rfl,HK.out.tr (hkr.tr (Kept.alloc _ _ _ _ _))⟩
     have hlb:(m:Int)=(S.groups.length:Int):=by omega
     by_cases hap:ap < 2 ^ S.groups.length
     case neg =>
      have hapi:¬ (ap:Int) < 2 ^ S.groups.length % 4294967296:=by rw [HPI.out];omega
      have hapj:(2:Int) ^ S.groups.length % 4294967296 <= (ap:Int):=by omega
      have HE:Hid (rgrB S=false):=(HRN.out (by rw [HR.out,decide_eq_false hap];simp));go_wp2_with (go_at_call 68;refine rin_isM (by assumption) ?_);go_ret;exact ⟨by rw [HE.out];rfl,HK.out.tr (hkr.tr (Kept.alloc _ _ _ _ _))⟩
     have hapi:(ap:Int) < 2 ^ S.groups.length % 4294967296:=by rw [HPI.out];omega
     have hapj:¬ (2:Int) ^ S.groups.length % 4294967296 <= (ap:Int):=by omega
     have HY:Hid (rowB S k=true):=by
      show rowB S k=true
      rw [HR.out,hm,hy,decide_eq_true hl,decide_eq_true hap];rfl
     clear hl;go_wp2_with (go_at_call 68;refine rin_isM (by assumption) ?_);go_roundw
     case rel=>exact ⟨k + 1,by omega,by go_num,(fun j hj=>(by
      by_cases e:j=k
      . subst e;exact HY.out
      . exact HJ.out j (by omega))),hkr.tr (Kept.alloc _ _ _ _ _)⟩
     case measure=>simp [intOf];omega
    by_cases k2:kd=2
    case pos =>
     subst k2
     cases hm:inB mn 1 1048576
     case false =>
      have HE:Hid (rgrB S=false):=(HRN.out (by rw [HR.out,hm];simp));go_wp2_with (go_at_call 68;refine rin_isM (by assumption) ?_);go_ret;exact ⟨by rw [HE.out];rfl,HK.out.tr (hkr.tr (Kept.alloc _ _ _ _ _))⟩
     cases hy:inB ye 1 1048576
     case false =>
      have HE:Hid (rgrB S=false):=(HRN.out (by rw [HR.out,hy];simp));go_wp2_with (go_at_call 68;refine rin_isM (by assumption) ?_);go_ret;exact ⟨by rw [HE.out];rfl,HK.out.tr (hkr.tr (Kept.alloc _ _ _ _ _))⟩
     by_cases hl:m=S.groups.length
     case neg =>
      have hlb:¬ (m:Int)=(S.groups.length:Int):=by omega
      have HE:Hid (rgrB S=false):=(HRN.out (by rw [HR.out,decide_eq_false hl];simp));go_wp2_with (go_at_call 68;refine rin_isM (by assumption) ?_);go_ret;exact ⟨by rw [HE.out];rfl,HK.out.tr (hkr.tr (Kept.alloc _ _ _ _ _))⟩
     have hlb:(m:Int)=(S.groups.length:Int):=by omega
     by_cases hap:ap < 2 ^ S.groups.length
     case neg =>
      have hapi:¬ (ap:Int) < 2 ^ S.groups.length % 4294967296:=by rw [HPI.out];omega
      have hapj:(2:Int) ^ S.groups.length % 4294967296 <= (ap:Int):=by omega
      have HE:Hid (rgrB S=false):=(HRN.out (by rw [HR.out,decide_eq_false hap];simp));go_wp2_with (go_at_call 68;refine rin_isM (by assumption) ?_);go_ret;exact ⟨by rw [HE.out];rfl,HK.out.tr (hkr.tr (Kept.alloc _ _ _ _ _))⟩
     have hapi:(ap:Int) < 2 ^ S.groups.length % 4294967296:=by rw [HPI.out];omega
     have hapj:¬ (2:Int) ^ S.groups.length % 4294967296 <= (ap:Int):=by omega
     have HY:Hid (rowB S k=true):=by
      show rowB S k=true
      rw [HR.out,hm,hy,decide_eq_true hl,decide_eq_true hap];rfl
     clear hl;go_wp2_with (go_at_call 68;refine rin_isM (by assumption) ?_);go_roundw
     case rel=>exact ⟨k + 1,by omega,by go_num,(fun j hj=>(by
      by_cases e:j=k
      . subst e;exact HY.out
      . exact HJ.out j (by omega))),hkr.tr (Kept.alloc _ _ _ _ _)⟩
     case measure=>simp [intOf];omega
    have k1b:¬ (kd:Int)=1:=by omega
    have k2b:¬ (kd:Int)=2:=by omega
    have HE:Hid (rgrB S=false):=(HRN.out (by rw [HR.out,decide_eq_false k1,decide_eq_false k2];rfl));go_wp2_with (go_at_call 68;refine rin_isM (by assumption) ?_);go_ret;exact ⟨by rw [HE.out];rfl,HK.out.tr (hkr.tr (Kept.alloc _ _ _ _ _))⟩
  . have e:k=S.groups.length:=by omega
    subst e;go_wp2;go_loopw [6] (fun i wx=>∃ a:Nat,a <= S.groups.length /\ i=.int .i64 a /\ Hid (∀ x y,x < a -> y < S.groups.length -> pairB S x y=true) /\ Kept W wx none) (fun i _=>S.groups.length - (intOf i).toNat)
    case atStart=>exact ⟨0,Nat.zero_le _,rfl,(fun x y hx=>by omega),hkr⟩
    case round =>
     clear hkr;obtain ⟨a,ha,rfl,HA,hka⟩:=hrel;by_cases hal:a < S.groups.length
     . go_wp2;go_loopw [7] (fun i wx=>∃ b:Nat,b <= S.groups.length /\ i=.int .i64 b /\ Hid (∀ y,y < b -> pairB S a y=true) /\ Kept W wx none) (fun i _=>S.groups.length - (intOf i).toNat)
       case atStart=>exact ⟨0,Nat.zero_le _,rfl,(fun y hy=>by omega),hka⟩
       case round =>
       clear hka;obtain ⟨b,hb,rfl,HB,hkb⟩:=hrel;by_cases hbl:b < S.groups.length
       . have h3:=H3.out;have h4:=H4.out
         have hrl:(S.between.getD a []).length=S.groups.length:=by
          have:=HJ.out a hal;unfold rowB at this;simp only [Bool.and_eq_true,decide_eq_true_eq] at this;exact this.1.2
         obtain ⟨ar,cr,hrow,hI⟩:=HBT.out a hal;obtain ⟨bi,oi,ei,_,hci⟩:=hI.at_ (by omega);subst ei;have fb:∀ w',Kept W w' none -> w'.cell? ⟨bi,oi + b,none⟩=some (.int .i64 (S.bt a b)):=fun w' q=>cell_kept0 (hci b (by omega)) q
         rw [hrl] at hrow;have fy:∀ w',Kept W w' none -> w'.cell? ⟨bg,og + a * 3 + 2,none⟩=some (.int .i64 (S.gr a).yellow):=fun w' q=>(HGR.out w' q a hal).2.2
         have haa:a < S.apart.length:=by omega
         have hba:b < S.apart.length:=by omega
         have hab0:a < S.between.length:=by omega
         have HPB:Hid (pairB S a b=(((S.ap a).testBit b == (S.ap b).testBit a) && !(decide (a=b) && (S.ap a).testBit b) && (if (S.ap a).testBit b=true then inB (S.bt a b) (S.gr a).yellow 1048576 else decide (S.bt a b=0)))):=rfl;have HPN:Hid (pairB S a b=false -> rgrB S=false):=rgr_pair hal hbl;clear hI hci hrl h3 h4;have f0:∀ w',Kept W w' none -> w'.cell? ⟨w.heap.size,0,none⟩=some (.int .i64 S.id):=fun w' k=>(HSB.out.kept k).c0
         have f1:∀ w',Kept W w' none -> w'.cell? ⟨w.heap.size,1,none⟩=some (.slice (some ⟨bg,og,none⟩) S.groups.length xgc):=fun w' k=>(HSB.out.kept k).c1
         have f2:∀ w',Kept W w' none -> w'.cell? ⟨w.heap.size,2,none⟩=some (.slice (some ⟨ba,oa,none⟩) S.apart.length xac):=fun w' k=>(HSB.out.kept k).c2
         have f3:∀ w',Kept W w' none -> w'.cell? ⟨w.heap.size,3,none⟩=some (.slice (some ⟨bb,ob,none⟩) S.between.length xbc):=fun w' k=>(HSB.out.kept k).c3
         have f4:∀ w',Kept W w' none -> w'.cell? ⟨w.heap.size,4,none⟩=some (.slice xp S.phases.length xpc):=fun w' k=>(HSB.out.kept k).c4
         have f5:∀ w',Kept W w' none -> w'.cell? ⟨w.heap.size,5,none⟩=some (.slice xe S.eyes.length xec):=fun w' k=>(HSB.out.kept k).c5
         have f6:∀ w',Kept W w' none -> w'.cell? ⟨w.heap.size,6,none⟩=some (.int .i64 S.watch):=fun w' k=>(HSB.out.kept k).c6
         have f7:∀ w',Kept W w' none -> w'.cell? ⟨w.heap.size,7,none⟩=some (.int .i64 S.feed):=fun w' k=>(HSB.out.kept k).c7
         have f8:∀ w',Kept W w' none -> w'.cell? ⟨w.heap.size,8,none⟩=some (.int .i64 S.heal):=fun w' k=>(HSB.out.kept k).c8
         have f9:∀ w',Kept W w' none -> w'.cell? ⟨w.heap.size,9,none⟩=some (.int .i64 S.low):=fun w' k=>(HSB.out.kept k).c9
         have f10:∀ w',Kept W w' none -> w'.cell? ⟨w.heap.size,10,none⟩=some (.int .i64 S.high):=fun w' k=>(HSB.out.kept k).c10
         have f11:∀ w',Kept W w' none -> w'.cell? ⟨w.heap.size,11,none⟩=some (.slice xl S.plans.length xlc):=fun w' k=>(HSB.out.kept k).c11
         generalize S.bt a b=BT at *;generalize (S.gr a).yellow=YE at *
         cases hx:(S.ap a).testBit b with
         | true =>
          cases hv:(S.ap b).testBit a with
          | false =>
           have HE:Hid (rgrB S=false):=HPN.out (by rw [HPB.out,hx,hv];rfl);go_wp2
           as_aux_lemma =>
           refine Code.wp_mono (Q:=Rg ?A1 W) ?c1 ?r1
           case r1 =>
            repeat (rename_i hh;clear hh)
            refine wp_region_held_drew (S:=fun w'=>Kept W w' none) (by kernel_rfl) (Kept.tr hkb (Kept.drew _ _)) (fun kH=>?_);refine htI 0 ?_ rfl (by kernel_rfl) id ?_ kH ?_
            all_goals try (intro w h;(try simp only [st3] at h ⊢);go_simp <;> with_reducible rfl)
            (try simp only [st3]);refine htI 1 ?_ rfl (by kernel_rfl) id ?_ kH ?_
            all_goals try (intro w h;(try simp only [st3] at h ⊢);go_simp <;> with_reducible rfl)
            (try simp only [st3]);refine htI 2 ?_ rfl (by kernel_rfl) id ?_ kH ?_
            all_goals try (intro w h;(try simp only [st3] at h ⊢);go_simp <;> with_reducible rfl)
            (try simp only [st3]);refine htI 4 ?_ rfl (by kernel_rfl) id ?_ kH ?_
            all_goals try (intro w h;(try simp only [st3] at h ⊢);go_simp <;> with_reducible rfl)
            (try simp only [st3]);refine htI 5 ?_ rfl (by kernel_rfl) id ?_ kH ?_
            all_goals try (intro w h;(try simp only [st3] at h ⊢);go_simp <;> with_reducible rfl)
            (try simp only [st3]);refine htI 6 ?_ rfl (by kernel_rfl) id ?_ kH ?_
            all_goals try (intro w h;(try simp only [st3] at h ⊢);go_simp <;> with_reducible rfl)
            (try simp only [st3]);refine rdy 3 (by kernel_rfl) rfl (fun K hK=>?_);go_simp;go_wp2_with (go_at_call 89;refine (rapart_is (HSB.out.sat.kept kH) (by omega) (by omega) (by assumption)).mono ?_;rintro e wS ⟨rfl,hkS⟩;have hKS:=Kept.tr kH hkS);replace hK:=hK.out;refine hK _ _ hKS (fun kH=>?_);clear hK K;refine rdy 7 (by kernel_rfl) rfl (fun K hK=>?_);go_simp;go_wp2_with (go_at_call 89;refine (rapart_is (HSB.out.sat.kept kH) (by omega) (by omega) (by assumption)).mono ?_;rintro e wS ⟨rfl,hkS⟩;have hKS:=Kept.tr kH hkS);replace hK:=hK.out;refine hK _ _ hKS (fun kH=>?_);clear hK K;refine htI 8 ?_ rfl (by kernel_rfl) id ?_ kH ?_
            all_goals try (intro w h;(try simp only [st3] at h ⊢);go_simp <;> with_reducible rfl)
            (try simp only [st3]);refine htI 9 ?_ rfl (by kernel_rfl) id ?_ kH ?_
            all_goals try (intro w h;(try simp only [st3] at h ⊢);go_simp <;> with_reducible rfl)
            (try simp only [st3]);refine htU 10 rfl (by kernel_rfl) id kH ?_;(try simp only [st3]);refine htU 11 rfl (by kernel_rfl) id kH ?_;(try simp only [st3]);refine htU 12 rfl (by kernel_rfl) id kH ?_;(try simp only [st3]);refine htU 13 rfl (by kernel_rfl) id kH ?_;(try simp only [st3]);refine htU 14 rfl (by kernel_rfl) id kH ?_;(try simp only [st3]);refine htU 15 rfl (by kernel_rfl) id kH ?_;(try simp only [st3]);refine htU 16 rfl (by kernel_rfl) id kH ?_;(try simp only [st3]);refine htU 17 rfl (by kernel_rfl) id kH ?_;(try simp only [st3]);refine htU 18 rfl (by kernel_rfl) id kH ?_;(try simp only [st3]);refine htI 19 ?_ rfl (by kernel_rfl) id ?_ kH ?_
            all_goals try (intro w h;(try simp only [st3] at h ⊢);go_simp <;> with_reducible rfl)
            (try simp only [st3]);refine wpAnyH_done (by kernel_rfl) ?_ _;refine And.intro ?_ kH;with_reducible rfl
           case c1 =>
           intro e a' w' hq;obtain ⟨rfl,rfl,hkq⟩:=hq.out;go_wp2;go_ret;exact ⟨by rw [HE.out];rfl,HK.out.tr hkq⟩
          | true =>
           by_cases hab:a=b
           . subst hab;have HE:Hid (rgrB S=false):=HPN.out (by rw [HPB.out,hx,decide_eq_true (rfl:a=a)];rfl);go_wp2
             as_aux_lemma =>
             refine Code.wp_mono (Q:=Rg ?A11 W) ?c11 ?r11
             case r11 =>
              repeat (rename_i hh;clear hh)
              refine wp_region_held_drew (S:=fun w'=>Kept W w' none) (by kernel_rfl) (Kept.tr hkb (Kept.drew _ _)) (fun kH=>?_);refine htI 0 ?_ rfl (by kernel_rfl) id ?_ kH ?_
              all_goals try (intro w h;(try simp only [st3] at h ⊢);go_simp <;> with_reducible rfl)
              (try simp only [st3]);refine htI 1 ?_ rfl (by kernel_rfl) id ?_ kH ?_
              all_goals try (intro w h;(try simp only [st3] at h ⊢);go_simp <;> with_reducible rfl)
              (try simp only [st3]);refine htI 2 ?_ rfl (by kernel_rfl) id ?_ kH ?_
              all_goals try (intro w h;(try simp only [st3] at h ⊢);go_simp <;> with_reducible rfl)
              (try simp only [st3]);refine htI 4 ?_ rfl (by kernel_rfl) id ?_ kH ?_
              all_goals try (intro w h;(try simp only [st3] at h ⊢);go_simp <;> with_reducible rfl)
              (try simp only [st3]);refine htI 5 ?_ rfl (by kernel_rfl) id ?_ kH ?_
              all_goals try (intro w h;(try simp only [st3] at h ⊢);go_simp <;> with_reducible rfl)
              (try simp only [st3]);refine htI 6 ?_ rfl (by kernel_rfl) id ?_ kH ?_
              all_goals try (intro w h;(try simp only [st3] at h ⊢);go_simp <;> with_reducible rfl)
              (try simp only [st3]);refine rdy 3 (by kernel_rfl) rfl (fun K hK=>?_);go_simp;go_wp2_with (go_at_call 89;refine (rapart_is (HSB.out.sat.kept kH) (by omega) (by omega) (by assumption)).mono ?_;rintro e wS ⟨rfl,hkS⟩;have hKS:=Kept.tr kH hkS);replace hK:=hK.out;refine hK _ _ hKS (fun kH=>?_);clear hK K;refine rdy 7 (by kernel_rfl) rfl (fun K hK=>?_);go_simp;go_wp2_with (go_at_call 89;refine (rapart_is (HSB.out.sat.kept kH) (by omega) (by omega) (by assumption)).mono ?_;rintro e wS ⟨rfl,hkS⟩;have hKS:=Kept.tr kH hkS);replace hK:=hK.out;refine hK _ _ hKS (fun kH=>?_);clear hK K;refine htI 8 ?_ rfl (by kernel_rfl) id ?_ kH ?_
              all_goals try (intro w h;(try simp only [st3] at h ⊢);go_simp <;> with_reducible rfl)
              (try simp only [st3]);refine htI 9 ?_ rfl (by kernel_rfl) id ?_ kH ?_
              all_goals try (intro w h;(try simp only [st3] at h ⊢);go_simp <;> with_reducible rfl)
              (try simp only [st3]);refine htI 10 ?_ rfl (by kernel_rfl) id ?_ kH ?_
              all_goals try (intro w h;(try simp only [st3] at h ⊢);go_simp <;> with_reducible rfl)
              (try simp only [st3]);refine htI 11 ?_ rfl (by kernel_rfl) id ?_ kH ?_
              all_goals try (intro w h;(try simp only [st3] at h ⊢);go_simp <;> with_reducible rfl)
              (try simp only [st3]);refine htI 12 ?_ rfl (by kernel_rfl) id ?_ kH ?_
              all_goals try (intro w h;(try simp only [st3] at h ⊢);go_simp <;> with_reducible rfl)
              (try simp only [st3]);refine htI 13 ?_ rfl (by kernel_rfl) id ?_ kH ?_
              all_goals try (intro w h;(try simp only [st3] at h ⊢);go_simp <;> with_reducible rfl)
              (try simp only [st3]);refine htI 14 ?_ rfl (by kernel_rfl) id ?_ kH ?_
              all_goals try (intro w h;(try simp only [st3] at h ⊢);go_simp <;> with_reducible rfl)
              (try simp only [st3]);refine htI 15 ?_ rfl (by kernel_rfl) id ?_ kH ?_
              all_goals try (intro w h;(try simp only [st3] at h ⊢);go_simp <;> with_reducible rfl)
              (try simp only [st3]);refine htI 16 ?_ rfl (by kernel_rfl) id ?_ kH ?_
              all_goals try (intro w h;(try simp only [st3] at h ⊢);go_simp <;> with_reducible rfl)
              (try simp only [st3]);refine rdy 17 (by kernel_rfl) rfl (fun K hK=>?_);go_simp;go_wp2_with (go_at_call 89;refine (rapart_is (HSB.out.sat.kept kH) (by omega) (by omega) (by assumption)).mono ?_;rintro e wS ⟨rfl,hkS⟩;have hKS:=Kept.tr kH hkS);replace hK:=hK.out;refine hK _ _ hKS (fun kH=>?_);clear hK K;refine htI 18 ?_ rfl (by kernel_rfl) id ?_ kH ?_
              all_goals try (intro w h;(try simp only [st3] at h ⊢);go_simp <;> with_reducible rfl)
              (try simp only [st3]);refine htI 19 ?_ rfl (by kernel_rfl) id ?_ kH ?_
              all_goals try (intro w h;(try simp only [st3] at h ⊢);go_simp <;> with_reducible rfl)
              (try simp only [st3]);refine wpAnyH_done (by kernel_rfl) ?_ _;refine And.intro ?_ kH;with_reducible rfl
             case c11 =>
             intro e a' w' hq;obtain ⟨rfl,rfl,hkq⟩:=hq.out;go_wp2;go_ret;exact ⟨by rw [HE.out];rfl,HK.out.tr hkq⟩
           . have hab2:¬ (a:Int)=b:=by omega
             have hab3:((a:Int) == b)=false:=beq_eq_false_iff_ne.2 hab2
             cases hn:inB BT YE 1048576 with
             | false =>
              have HE:Hid (rgrB S=false):=HPN.out (by rw [HPB.out,hx,hv,if_pos rfl,hn];simp);go_wp2
              as_aux_lemma =>
              refine Code.wp_mono (Q:=Rg ?A29 W) ?c29 ?r29
              case r29 =>
               repeat (rename_i hh;clear hh)
               refine wp_region_held_drew (S:=fun w'=>Kept W w' none) (by kernel_rfl) (Kept.tr hkb (Kept.drew _ _)) (fun kH=>?_);refine htI 0 ?_ rfl (by kernel_rfl) id ?_ kH ?_
               all_goals try (intro w h;(try simp only [st3] at h ⊢);go_simp <;> with_reducible rfl)
               (try simp only [st3]);refine htI 1 ?_ rfl (by kernel_rfl) id ?_ kH ?_
               all_goals try (intro w h;(try simp only [st3] at h ⊢);go_simp <;> with_reducible rfl)
               (try simp only [st3]);refine htI 2 ?_ rfl (by kernel_rfl) id ?_ kH ?_
               all_goals try (intro w h;(try simp only [st3] at h ⊢);go_simp <;> with_reducible rfl)
               (try simp only [st3]);refine htI 4 ?_ rfl (by kernel_rfl) id ?_ kH ?_
               all_goals try (intro w h;(try simp only [st3] at h ⊢);go_simp <;> with_reducible rfl)
               (try simp only [st3]);refine htI 5 ?_ rfl (by kernel_rfl) id ?_ kH ?_
               all_goals try (intro w h;(try simp only [st3] at h ⊢);go_simp <;> with_reducible rfl)
               (try simp only [st3]);refine htI 6 ?_ rfl (by kernel_rfl) id ?_ kH ?_
               all_goals try (intro w h;(try simp only [st3] at h ⊢);go_simp <;> with_reducible rfl)
               (try simp only [st3]);refine rdy 3 (by kernel_rfl) rfl (fun K hK=>?_);go_simp;go_wp2_with (go_at_call 89;refine (rapart_is (HSB.out.sat.kept kH) (by omega) (by omega) (by assumption)).mono ?_;rintro e wS ⟨rfl,hkS⟩;have hKS:=Kept.tr kH hkS);replace hK:=hK.out;refine hK _ _ hKS (fun kH=>?_);clear hK K;refine rdy 7 (by kernel_rfl) rfl (fun K hK=>?_);go_simp;go_wp2_with (go_at_call 89;refine (rapart_is (HSB.out.sat.kept kH) (by omega) (by omega) (by assumption)).mono ?_;rintro e wS ⟨rfl,hkS⟩;have hKS:=Kept.tr kH hkS);replace hK:=hK.out;refine hK _ _ hKS (fun kH=>?_);clear hK K;refine htI 8 ?_ rfl (by kernel_rfl) id ?_ kH ?_
               all_goals try (intro w h;(try simp only [st3] at h ⊢);go_simp <;> with_reducible rfl)
               (try simp only [st3]);refine htI 9 ?_ rfl (by kernel_rfl) id ?_ kH ?_
               all_goals try (intro w h;(try simp only [st3] at h ⊢);go_simp <;> with_reducible rfl)
               (try simp only [st3]);refine htI 10 ?_ rfl (by kernel_rfl) id ?_ kH ?_
               all_goals try (intro w h;(try simp only [st3] at h ⊢);go_simp <;> with_reducible rfl)
               (try simp only [st3]);refine htI 11 ?_ rfl (by kernel_rfl) id ?_ kH ?_
               all_goals try (intro w h;(try simp only [st3] at h ⊢);go_simp <;> with_reducible rfl)
               (try simp only [st3]);refine htI 12 ?_ rfl (by kernel_rfl) id ?_ kH ?_
               all_goals try (intro w h;(try simp only [st3] at h ⊢);go_simp <;> with_reducible rfl)
               (try simp only [st3]);refine htI 13 ?_ rfl (by kernel_rfl) id ?_ kH ?_
               all_goals try (intro w h;(try simp only [st3] at h ⊢);go_simp <;> with_reducible rfl)
               (try simp only [st3]);refine htU 14 rfl (by kernel_rfl) id kH ?_;(try simp only [st3]);refine htU 15 rfl (by kernel_rfl) id kH ?_;(try simp only [st3]);refine htU 16 rfl (by kernel_rfl) id kH ?_;(try simp only [st3]);refine htU 17 rfl (by kernel_rfl) id kH ?_;(try simp only [st3]);refine htI 18 ?_ rfl (by kernel_rfl) id ?_ kH ?_
               all_goals try (intro w h;(try simp only [st3] at h ⊢);go_simp <;> with_reducible rfl)
               (try simp only [st3]);refine htI 19 ?_ rfl (by kernel_rfl) id ?_ kH ?_
               all_goals try (intro w h;(try simp only [st3] at h ⊢);go_simp <;> with_reducible rfl)
               (try simp only [st3]);refine wpAnyH_done (by kernel_rfl) ?_ _;refine And.intro ?_ kH;with_reducible rfl
              case c29 =>
              intro e a' w' hq;obtain ⟨rfl,rfl,hkq⟩:=hq.out;go_wp2
              as_aux_lemma =>
              refine Code.wp_mono (Q:=Rg ?A44 W) ?c44 ?r44
              case r44 =>
               repeat (rename_i hh;clear hh)
               refine wp_region_held_drew (S:=fun w'=>Kept W w' none) (by kernel_rfl) (Kept.tr hkq (Kept.drew _ _)) (fun kH=>?_);refine htI 0 ?_ rfl (by kernel_rfl) id ?_ kH ?_
               all_goals try (intro w h;(try simp only [st3] at h ⊢);go_simp <;> with_reducible rfl)
               (try simp only [st3]);refine htI 1 ?_ rfl (by kernel_rfl) id ?_ kH ?_
               all_goals try (intro w h;(try simp only [st3] at h ⊢);go_simp <;> with_reducible rfl)
               (try simp only [st3]);refine htI 2 ?_ rfl (by kernel_rfl) id ?_ kH ?_
               all_goals try (intro w h;(try simp only [st3] at h ⊢);go_simp <;> with_reducible rfl)
               (try simp only [st3]);refine rdy 3 (by kernel_rfl) rfl (fun K hK=>?_);go_simp;go_wp2_with (go_at_call 89;refine (rapart_is (HSB.out.sat.kept kH) (by omega) (by omega) (by assumption)).mono ?_;rintro e wS ⟨rfl,hkS⟩;have hKS:=Kept.tr kH hkS);replace hK:=hK.out;refine hK _ _ hKS (fun kH=>?_);clear hK K;refine htI 4 ?_ rfl (by kernel_rfl) id ?_ kH ?_
               all_goals try (intro w h;(try simp only [st3] at h ⊢);go_simp <;> with_reducible rfl)
               (try simp only [st3]);refine htI 5 ?_ rfl (by kernel_rfl) id ?_ kH ?_
               all_goals try (intro w h;(try simp only [st3] at h ⊢);go_simp <;> with_reducible rfl)
               (try simp only [st3]);refine htI 6 ?_ rfl (by kernel_rfl) id ?_ kH ?_
               all_goals try (intro w h;(try simp only [st3] at h ⊢);go_simp <;> with_reducible rfl)
               (try simp only [st3]);refine htI 7 ?_ rfl (by kernel_rfl) id ?_ kH ?_
               all_goals try (intro w h;(try simp only [st3] at h ⊢);go_simp <;> with_reducible rfl)
               (try simp only [st3]);refine htI 8 ?_ rfl (by kernel_rfl) id ?_ kH ?_
               all_goals try (intro w h;(try simp only [st3] at h ⊢);go_simp <;> with_reducible rfl)
               (try simp only [st3]);refine htI 9 ?_ rfl (by kernel_rfl) id ?_ kH ?_
               all_goals try (intro w h;(try simp only [st3] at h ⊢);go_simp <;> with_reducible rfl)
               (try simp only [st3]);refine htI 10 ?_ rfl (by kernel_rfl) id ?_ kH ?_
               all_goals try (intro w h;(try simp only [st3] at h ⊢);go_simp <;> with_reducible rfl)
               (try simp only [st3]);refine htI 11 ?_ rfl (by kernel_rfl) id ?_ kH ?_
               all_goals try (intro w h;(try simp only [st3] at h ⊢);go_simp <;> with_reducible rfl)
               (try simp only [st3]);refine htI 12 ?_ rfl (by kernel_rfl) id ?_ kH ?_
               all_goals try (intro w h;(try simp only [st3] at h ⊢);go_simp <;> with_reducible rfl)
               (try simp only [st3]);refine htI 13 ?_ rfl (by kernel_rfl) id ?_ kH ?_
               all_goals try (intro w h;(try simp only [st3] at h ⊢);go_simp <;> with_reducible rfl)
               (try simp only [st3]);refine htI 14 ?_ rfl (by kernel_rfl) id ?_ kH ?_
               all_goals try (intro w h;(try simp only [st3] at h ⊢);go_simp <;> with_reducible rfl)
               (try simp only [st3]);refine htI 15 ?_ rfl (by kernel_rfl) id ?_ kH ?_
               all_goals try (intro w h;(try simp only [st3] at h ⊢);go_simp <;> with_reducible rfl)
               (try simp only [st3]);refine htI 16 ?_ rfl (by kernel_rfl) id ?_ kH ?_
               all_goals try (intro w h;(try simp only [st3] at h ⊢);go_simp <;> with_reducible rfl)
               (try simp only [st3]);refine htI 17 ?_ rfl (by kernel_rfl) id ?_ kH ?_
               all_goals try (intro w h;(try simp only [st3] at h ⊢);go_simp <;> with_reducible rfl)
               (try simp only [st3]);refine htI 18 ?_ rfl (by kernel_rfl) id ?_ kH ?_
               all_goals try (intro w h;(try simp only [st3] at h ⊢);go_simp <;> with_reducible rfl)
               (try simp only [st3]);refine rdy 19 (by kernel_rfl) rfl (fun K hK=>?_);go_simp;go_wp2_with (go_at_call 68;refine rin_isM (by assumption) ?_;have hKS:=kH);replace hK:=hK.out;refine hK _ _ hKS (fun kH=>?_);clear hK K;refine htI 20 ?_ rfl (by kernel_rfl) id ?_ kH ?_
               all_goals try (intro w h;(try simp only [st3] at h ⊢);go_simp <;> with_reducible rfl)
               (try simp only [st3]);refine htI 21 ?_ rfl (by kernel_rfl) id ?_ kH ?_
               all_goals try (intro w h;(try simp only [st3] at h ⊢);go_simp <;> with_reducible rfl)
               (try simp only [st3]);refine htI 22 ?_ rfl (by kernel_rfl) id ?_ kH ?_
               all_goals try (intro w h;(try simp only [st3] at h ⊢);go_simp <;> with_reducible rfl)
               (try simp only [st3]);refine htU 23 rfl (by kernel_rfl) id kH ?_;(try simp only [st3]);refine htU 24 rfl (by kernel_rfl) id kH ?_;(try simp only [st3]);refine htU 25 rfl (by kernel_rfl) id kH ?_;(try simp only [st3]);refine htU 26 rfl (by kernel_rfl) id kH ?_;(try simp only [st3]);refine htU 27 rfl (by kernel_rfl) id kH ?_;(try simp only [st3]);refine htU 28 rfl (by kernel_rfl) id kH ?_;(try simp only [st3]);refine htU 29 rfl (by kernel_rfl) id kH ?_;(try simp only [st3]);refine htU 30 rfl (by kernel_rfl) id kH ?_;(try simp only [st3]);refine htU 31 rfl (by kernel_rfl) id kH ?_;(try simp only [st3]);refine htU 32 rfl (by kernel_rfl) id kH ?_;(try simp only [st3]);refine htU 33 rfl (by kernel_rfl) id kH ?_;(try simp only [st3]);refine htU 34 rfl (by kernel_rfl) id kH ?_;(try simp only [st3]);refine htU 35 rfl (by kernel_rfl) id kH ?_;(try simp only [st3]);refine htU 36 rfl (by kernel_rfl) id kH ?_;(try simp only [st3]);refine htU 37 rfl (by kernel_rfl) id kH ?_;(try simp only [st3]);refine htU 38 rfl (by kernel_rfl) id kH ?_;(try simp only [st3]);refine htI 39 ?_ rfl (by kernel_rfl) id ?_ kH ?_
               all_goals try (intro w h;(try simp only [st3] at h ⊢);go_simp <;> with_reducible rfl)
               (try simp only [st3]);refine wpAnyH_done (by kernel_rfl) ?_ _;refine And.intro ?_ kH;with_reducible rfl
              case c44 =>
              intro e a' w' hq;obtain ⟨rfl,rfl,hkq⟩:=hq.out;go_wp2;go_ret;exact ⟨by rw [HE.out];rfl,HK.out.tr hkq⟩
             | true =>
              have HY:Hid (pairB S a b=true):=by show pairB S a b=true;rw [HPB.out,hx,hv,if_pos rfl,hn,decide_eq_false hab];rfl
              go_wp2
              as_aux_lemma =>
              refine Code.wp_mono (Q:=Rg ?A67 W) ?c67 ?r67
              case r67 =>
               repeat (rename_i hh;clear hh)
               refine wp_region_held_drew (S:=fun w'=>Kept W w' none) (by kernel_rfl) (Kept.tr hkb (Kept.drew _ _)) (fun kH=>?_);refine htI 0 ?_ rfl (by kernel_rfl) id ?_ kH ?_
               all_goals try (intro w h;(try simp only [st3] at h ⊢);go_simp <;> with_reducible rfl)
               (try simp only [st3]);refine htI 1 ?_ rfl (by kernel_rfl) id ?_ kH ?_
               all_goals try (intro w h;(try simp only [st3] at h ⊢);go_simp <;> with_reducible rfl)
               (try simp only [st3]);refine htI 2 ?_ rfl (by kernel_rfl) id ?_ kH ?_
               all_goals try (intro w h;(try simp only [st3] at h ⊢);go_simp <;> with_reducible rfl)
               (try simp only [st3]);refine htI 4 ?_ rfl (by kernel_rfl) id ?_ kH ?_
               all_goals try (intro w h;(try simp only [st3] at h ⊢);go_simp <;> with_reducible rfl)
               (try simp only [st3]);refine htI 5 ?_ rfl (by kernel_rfl) id ?_ kH ?_
               all_goals try (intro w h;(try simp only [st3] at h ⊢);go_simp <;> with_reducible rfl)
               (try simp only [st3]);refine htI 6 ?_ rfl (by kernel_rfl) id ?_ kH ?_
               all_goals try (intro w h;(try simp only [st3] at h ⊢);go_simp <;> with_reducible rfl)
               (try simp only [st3]);refine rdy 3 (by kernel_rfl) rfl (fun K hK=>?_);go_simp;go_wp2_with (go_at_call 89;refine (rapart_is (HSB.out.sat.kept kH) (by omega) (by omega) (by assumption)).mono ?_;rintro e wS ⟨rfl,hkS⟩;have hKS:=Kept.tr kH hkS);replace hK:=hK.out;refine hK _ _ hKS (fun kH=>?_);clear hK K;refine rdy 7 (by kernel_rfl) rfl (fun K hK=>?_);go_simp;go_wp2_with (go_at_call 89;refine (rapart_is (HSB.out.sat.kept kH) (by omega) (by omega) (by assumption)).mono ?_;rintro e wS ⟨rfl,hkS⟩;have hKS:=Kept.tr kH hkS);replace hK:=hK.out;refine hK _ _ hKS (fun kH=>?_);clear hK K;refine htI 8 ?_ rfl (by kernel_rfl) id ?_ kH ?_
               all_goals try (intro w h;(try simp only [st3] at h ⊢);go_simp <;> with_reducible rfl)
               (try simp only [st3]);refine htI 9 ?_ rfl (by kernel_rfl) id ?_ kH ?_
               all_goals try (intro w h;(try simp only [st3] at h ⊢);go_simp <;> with_reducible rfl)
               (try simp only [st3]);refine htI 10 ?_ rfl (by kernel_rfl) id ?_ kH ?_
               all_goals try (intro w h;(try simp only [st3] at h ⊢);go_simp <;> with_reducible rfl)
               (try simp only [st3]);refine htI 11 ?_ rfl (by kernel_rfl) id ?_ kH ?_
               all_goals try (intro w h;(try simp only [st3] at h ⊢);go_simp <;> with_reducible rfl)
               (try simp only [st3]);refine htI 12 ?_ rfl (by kernel_rfl) id ?_ kH ?_
               all_goals try (intro w h;(try simp only [st3] at h ⊢);go_simp <;> with_reducible rfl)
               (try simp only [st3]);refine htI 13 ?_ rfl (by kernel_rfl) id ?_ kH ?_
               all_goals try (intro w h;(try simp only [st3] at h ⊢);go_simp <;> with_reducible rfl)
               (try simp only [st3]);refine htU 14 rfl (by kernel_rfl) id kH ?_;(try simp only [st3]);refine htU 15 rfl (by kernel_rfl) id kH ?_;(try simp only [st3]);refine htU 16 rfl (by kernel_rfl) id kH ?_;(try simp only [st3]);refine htU 17 rfl (by kernel_rfl) id kH ?_;(try simp only [st3]);refine htI 18 ?_ rfl (by kernel_rfl) id ?_ kH ?_
               all_goals try (intro w h;(try simp only [st3] at h ⊢);go_simp <;> with_reducible rfl)
               (try simp only [st3]);refine htI 19 ?_ rfl (by kernel_rfl) id ?_ kH ?_
               all_goals try (intro w h;(try simp only [st3] at h ⊢);go_simp <;> with_reducible rfl)
               (try simp only [st3]);refine wpAnyH_done (by kernel_rfl) ?_ _;refine And.intro ?_ kH;with_reducible rfl
              case c67 =>
              intro e a' w' hq;obtain ⟨rfl,rfl,hkq⟩:=hq.out;go_wp2
              as_aux_lemma =>
              refine Code.wp_mono (Q:=Rg ?A82 W) ?c82 ?r82
              case r82 =>
               repeat (rename_i hh;clear hh)
               refine wp_region_held_drew (S:=fun w'=>Kept W w' none) (by kernel_rfl) (Kept.tr hkq (Kept.drew _ _)) (fun kH=>?_);refine htI 0 ?_ rfl (by kernel_rfl) id ?_ kH ?_
               all_goals try (intro w h;(try simp only [st3] at h ⊢);go_simp <;> with_reducible rfl)
               (try simp only [st3]);refine htI 1 ?_ rfl (by kernel_rfl) id ?_ kH ?_
               all_goals try (intro w h;(try simp only [st3] at h ⊢);go_simp <;> with_reducible rfl)
               (try simp only [st3]);refine htI 2 ?_ rfl (by kernel_rfl) id ?_ kH ?_
               all_goals try (intro w h;(try simp only [st3] at h ⊢);go_simp <;> with_reducible rfl)
               (try simp only [st3]);refine rdy 3 (by kernel_rfl) rfl (fun K hK=>?_);go_simp;go_wp2_with (go_at_call 89;refine (rapart_is (HSB.out.sat.kept kH) (by omega) (by omega) (by assumption)).mono ?_;rintro e wS ⟨rfl,hkS⟩;have hKS:=Kept.tr kH hkS);replace hK:=hK.out;refine hK _ _ hKS (fun kH=>?_);clear hK K;refine htI 4 ?_ rfl (by kernel_rfl) id ?_ kH ?_
               all_goals try (intro w h;(try simp only [st3] at h ⊢);go_simp <;> with_reducible rfl)
               (try simp only [st3]);refine htI 5 ?_ rfl (by kernel_rfl) id ?_ kH ?_
               all_goals try (intro w h;(try simp only [st3] at h ⊢);go_simp <;> with_reducible rfl)
               (try simp only [st3]);refine htI 6 ?_ rfl (by kernel_rfl) id ?_ kH ?_
               all_goals try (intro w h;(try simp only [st3] at h ⊢);go_simp <;> with_reducible rfl)
               (try simp only [st3]);refine htI 7 ?_ rfl (by kernel_rfl) id ?_ kH ?_
               all_goals try (intro w h;(try simp only [st3] at h ⊢);go_simp <;> with_reducible rfl)
               (try simp only [st3]);refine htI 8 ?_ rfl (by kernel_rfl) id ?_ kH ?_
               all_goals try (intro w h;(try simp only [st3] at h ⊢);go_simp <;> with_reducible rfl)
               (try simp only [st3]);refine htI 9 ?_ rfl (by kernel_rfl) id ?_ kH ?_
               all_goals try (intro w h;(try simp only [st3] at h ⊢);go_simp <;> with_reducible rfl)
               (try simp only [st3]);refine htI 10 ?_ rfl (by kernel_rfl) id ?_ kH ?_
               all_goals try (intro w h;(try simp only [st3] at h ⊢);go_simp <;> with_reducible rfl)
               (try simp only [st3]);refine htI 11 ?_ rfl (by kernel_rfl) id ?_ kH ?_
               all_goals try (intro w h;(try simp only [st3] at h ⊢);go_simp <;> with_reducible rfl)
               (try simp only [st3]);refine htI 12 ?_ rfl (by kernel_rfl) id ?_ kH ?_
               all_goals try (intro w h;(try simp only [st3] at h ⊢);go_simp <;> with_reducible rfl)
               (try simp only [st3]);refine htI 13 ?_ rfl (by kernel_rfl) id ?_ kH ?_
               all_goals try (intro w h;(try simp only [st3] at h ⊢);go_simp <;> with_reducible rfl)
               (try simp only [st3]);refine htI 14 ?_ rfl (by kernel_rfl) id ?_ kH ?_
               all_goals try (intro w h;(try simp only [st3] at h ⊢);go_simp <;> with_reducible rfl)
               (try simp only [st3]);refine htI 15 ?_ rfl (by kernel_rfl) id ?_ kH ?_
               all_goals try (intro w h;(try simp only [st3] at h ⊢);go_simp <;> with_reducible rfl)
               (try simp only [st3]);refine htI 16 ?_ rfl (by kernel_rfl) id ?_ kH ?_
               all_goals try (intro w h;(try simp only [st3] at h ⊢);go_simp <;> with_reducible rfl)
               (try simp only [st3]);refine htI 17 ?_ rfl (by kernel_rfl) id ?_ kH ?_
               all_goals try (intro w h;(try simp only [st3] at h ⊢);go_simp <;> with_reducible rfl)
               (try simp only [st3]);refine htI 18 ?_ rfl (by kernel_rfl) id ?_ kH ?_
               all_goals try (intro w h;(try simp only [st3] at h ⊢);go_simp <;> with_reducible rfl)
               (try simp only [st3]);refine rdy 19 (by kernel_rfl) rfl (fun K hK=>?_);go_simp;go_wp2_with (go_at_call 68;refine rin_isM (by assumption) ?_;have hKS:=kH);replace hK:=hK.out;refine hK _ _ hKS (fun kH=>?_);clear hK K;refine htI 20 ?_ rfl (by kernel_rfl) id ?_ kH ?_
               all_goals try (intro w h;(try simp only [st3] at h ⊢);go_simp <;> with_reducible rfl)
               (try simp only [st3]);refine htI 21 ?_ rfl (by kernel_rfl) id ?_ kH ?_
               all_goals try (intro w h;(try simp only [st3] at h ⊢);go_simp <;> with_reducible rfl)
               (try simp only [st3]);refine htI 22 ?_ rfl (by kernel_rfl) id ?_ kH ?_
               all_goals try (intro w h;(try simp only [st3] at h ⊢);go_simp <;> with_reducible rfl)
               (try simp only [st3]);refine htI 23 ?_ rfl (by kernel_rfl) id ?_ kH ?_
               all_goals try (intro w h;(try simp only [st3] at h ⊢);go_simp <;> with_reducible rfl)
               (try simp only [st3]);refine htI 24 ?_ rfl (by kernel_rfl) id ?_ kH ?_
               all_goals try (intro w h;(try simp only [st3] at h ⊢);go_simp <;> with_reducible rfl)
               (try simp only [st3]);refine htI 25 ?_ rfl (by kernel_rfl) id ?_ kH ?_
               all_goals try (intro w h;(try simp only [st3] at h ⊢);go_simp <;> with_reducible rfl)
               (try simp only [st3]);refine rdy 26 (by kernel_rfl) rfl (fun K hK=>?_);go_simp;go_wp2_with (go_at_call 89;refine (rapart_is (HSB.out.sat.kept kH) (by omega) (by omega) (by assumption)).mono ?_;rintro e wS ⟨rfl,hkS⟩;have hKS:=Kept.tr kH hkS);replace hK:=hK.out;refine hK _ _ hKS (fun kH=>?_);clear hK K;refine htI 27 ?_ rfl (by kernel_rfl) id ?_ kH ?_
               all_goals try (intro w h;(try simp only [st3] at h ⊢);go_simp <;> with_reducible rfl)
               (try simp only [st3]);refine htI 28 ?_ rfl (by kernel_rfl) id ?_ kH ?_
               all_goals try (intro w h;(try simp only [st3] at h ⊢);go_simp <;> with_reducible rfl)
               (try simp only [st3]);refine htU 29 rfl (by kernel_rfl) id kH ?_;(try simp only [st3]);refine htU 30 rfl (by kernel_rfl) id kH ?_;(try simp only [st3]);refine htU 31 rfl (by kernel_rfl) id kH ?_;(try simp only [st3]);refine htU 32 rfl (by kernel_rfl) id kH ?_;(try simp only [st3]);refine htU 33 rfl (by kernel_rfl) id kH ?_;(try simp only [st3]);refine htU 34 rfl (by kernel_rfl) id kH ?_;(try simp only [st3]);refine htU 35 rfl (by kernel_rfl) id kH ?_;(try simp only [st3]);refine htU 36 rfl (by kernel_rfl) id kH ?_;(try simp only [st3]);refine htU 37 rfl (by kernel_rfl) id kH ?_;(try simp only [st3]);refine htI 38 ?_ rfl (by kernel_rfl) id ?_ kH ?_
               all_goals try (intro w h;(try simp only [st3] at h ⊢);go_simp <;> with_reducible rfl)
               (try simp only [st3]);refine htI 39 ?_ rfl (by kernel_rfl) id ?_ kH ?_
               all_goals try (intro w h;(try simp only [st3] at h ⊢);go_simp <;> with_reducible rfl)
               (try simp only [st3]);refine wpAnyH_done (by kernel_rfl) ?_ _;refine And.intro ?_ kH;with_reducible rfl
              case c82 =>
              intro e a' w' hq;obtain ⟨rfl,rfl,hkq⟩:=hq.out;go_wp2;go_roundw
              case rel=>exact ⟨b + 1,by omega,by go_num,(fun y hy=>(by
               by_cases e:y=b
               . rw [e];exact HY.out
               . exact HB.out y (by omega))),hkq⟩
              case measure=>simp [intOf];omega
         | false =>
          cases hv:(S.ap b).testBit a with
          | true =>
           have HE:Hid (rgrB S=false):=HPN.out (by rw [HPB.out,hx,hv];rfl);go_wp2
           as_aux_lemma =>
           refine Code.wp_mono (Q:=Rg ?A111 W) ?c111 ?r111
           case r111 =>
            repeat (rename_i hh;clear hh)
            refine wp_region_held_drew (S:=fun w'=>Kept W w' none) (by kernel_rfl) (Kept.tr hkb (Kept.drew _ _)) (fun kH=>?_);refine htI 0 ?_ rfl (by kernel_rfl) id ?_ kH ?_
            all_goals try (intro w h;(try simp only [st3] at h ⊢);go_simp <;> with_reducible rfl)
            (try simp only [st3]);refine htI 1 ?_ rfl (by kernel_rfl) id ?_ kH ?_
            all_goals try (intro w h;(try simp only [st3] at h ⊢);go_simp <;> with_reducible rfl)
            (try simp only [st3]);refine htI 2 ?_ rfl (by kernel_rfl) id ?_ kH ?_
            all_goals try (intro w h;(try simp only [st3] at h ⊢);go_simp <;> with_reducible rfl)
            (try simp only [st3]);refine htI 4 ?_ rfl (by kernel_rfl) id ?_ kH ?_
            all_goals try (intro w h;(try simp only [st3] at h ⊢);go_simp <;> with_reducible rfl)
            (try simp only [st3]);refine htI 5 ?_ rfl (by kernel_rfl) id ?_ kH ?_
            all_goals try (intro w h;(try simp only [st3] at h ⊢);go_simp <;> with_reducible rfl)
            (try simp only [st3]);refine htI 6 ?_ rfl (by kernel_rfl) id ?_ kH ?_
            all_goals try (intro w h;(try simp only [st3] at h ⊢);go_simp <;> with_reducible rfl)
            (try simp only [st3]);refine rdy 3 (by kernel_rfl) rfl (fun K hK=>?_);go_simp;go_wp2_with (go_at_call 89;refine (rapart_is (HSB.out.sat.kept kH) (by omega) (by omega) (by assumption)).mono ?_;rintro e wS ⟨rfl,hkS⟩;have hKS:=Kept.tr kH hkS);replace hK:=hK.out;refine hK _ _ hKS (fun kH=>?_);clear hK K;refine rdy 7 (by kernel_rfl) rfl (fun K hK=>?_);go_simp;go_wp2_with (go_at_call 89;refine (rapart_is (HSB.out.sat.kept kH) (by omega) (by omega) (by assumption)).mono ?_;rintro e wS ⟨rfl,hkS⟩;have hKS:=Kept.tr kH hkS);replace hK:=hK.out;refine hK _ _ hKS (fun kH=>?_);clear hK K;refine htI 8 ?_ rfl (by kernel_rfl) id ?_ kH ?_
            all_goals try (intro w h;(try simp only [st3] at h ⊢);go_simp <;> with_reducible rfl)
            (try simp only [st3]);refine htI 9 ?_ rfl (by kernel_rfl) id ?_ kH ?_
            all_goals try (intro w h;(try simp only [st3] at h ⊢);go_simp <;> with_reducible rfl)
            (try simp only [st3]);refine htU 10 rfl (by kernel_rfl) id kH ?_;(try simp only [st3]);refine htU 11 rfl (by kernel_rfl) id kH ?_;(try simp only [st3]);refine htU 12 rfl (by kernel_rfl) id kH ?_;(try simp only [st3]);refine htU 13 rfl (by kernel_rfl) id kH ?_;(try simp only [st3]);refine htU 14 rfl (by kernel_rfl) id kH ?_;(try simp only [st3]);refine htU 15 rfl (by kernel_rfl) id kH ?_;(try simp only [st3]);refine htU 16 rfl (by kernel_rfl) id kH ?_;(try simp only [st3]);refine htU 17 rfl (by kernel_rfl) id kH ?_;(try simp only [st3]);refine htU 18 rfl (by kernel_rfl) id kH ?_;(try simp only [st3]);refine htI 19 ?_ rfl (by kernel_rfl) id ?_ kH ?_
            all_goals try (intro w h;(try simp only [st3] at h ⊢);go_simp <;> with_reducible rfl)
            (try simp only [st3]);refine wpAnyH_done (by kernel_rfl) ?_ _;refine And.intro ?_ kH;with_reducible rfl
           case c111 =>
           intro e a' w' hq;obtain ⟨rfl,rfl,hkq⟩:=hq.out;go_wp2;go_ret;exact ⟨by rw [HE.out];rfl,HK.out.tr hkq⟩
          | false =>
           by_cases hn:BT=0
           . subst hn;have HY:Hid (pairB S a b=true):=by show pairB S a b=true;rw [HPB.out,hx,hv,if_neg (by decide)];simp
             by_cases hab:a=b
             . subst hab;go_wp2
               as_aux_lemma =>
               refine Code.wp_mono (Q:=Rg ?A121 W) ?c121 ?r121
               case r121 =>
                repeat (rename_i hh;clear hh)
                refine wp_region_held_drew (S:=fun w'=>Kept W w' none) (by kernel_rfl) (Kept.tr hkb (Kept.drew _ _)) (fun kH=>?_);refine htI 0 ?_ rfl (by kernel_rfl) id ?_ kH ?_
                all_goals try (intro w h;(try simp only [st3] at h ⊢);go_simp <;> with_reducible rfl)
                (try simp only [st3]);refine htI 1 ?_ rfl (by kernel_rfl) id ?_ kH ?_
                all_goals try (intro w h;(try simp only [st3] at h ⊢);go_simp <;> with_reducible rfl)
                (try simp only [st3]);refine htI 2 ?_ rfl (by kernel_rfl) id ?_ kH ?_
                all_goals try (intro w h;(try simp only [st3] at h ⊢);go_simp <;> with_reducible rfl)
                (try simp only [st3]);refine htI 4 ?_ rfl (by kernel_rfl) id ?_ kH ?_
                all_goals try (intro w h;(try simp only [st3] at h ⊢);go_simp <;> with_reducible rfl)
                (try simp only [st3]);refine htI 5 ?_ rfl (by kernel_rfl) id ?_ kH ?_
                all_goals try (intro w h;(try simp only [st3] at h ⊢);go_simp <;> with_reducible rfl)
                (try simp only [st3]);refine htI 6 ?_ rfl (by kernel_rfl) id ?_ kH ?_
                all_goals try (intro w h;(try simp only [st3] at h ⊢);go_simp <;> with_reducible rfl)
                (try simp only [st3]);refine rdy 3 (by kernel_rfl) rfl (fun K hK=>?_);go_simp;go_wp2_with (go_at_call 89;refine (rapart_is (HSB.out.sat.kept kH) (by omega) (by omega) (by assumption)).mono ?_;rintro e wS ⟨rfl,hkS⟩;have hKS:=Kept.tr kH hkS);replace hK:=hK.out;refine hK _ _ hKS (fun kH=>?_);clear hK K;refine rdy 7 (by kernel_rfl) rfl (fun K hK=>?_);go_simp;go_wp2_with (go_at_call 89;refine (rapart_is (HSB.out.sat.kept kH) (by omega) (by omega) (by assumption)).mono ?_;rintro e wS ⟨rfl,hkS⟩;have hKS:=Kept.tr kH hkS);replace hK:=hK.out;refine hK _ _ hKS (fun kH=>?_);clear hK K;refine htI 8 ?_ rfl (by kernel_rfl) id ?_ kH ?_
                all_goals try (intro w h;(try simp only [st3] at h ⊢);go_simp <;> with_reducible rfl)
                (try simp only [st3]);refine htI 9 ?_ rfl (by kernel_rfl) id ?_ kH ?_
                all_goals try (intro w h;(try simp only [st3] at h ⊢);go_simp <;> with_reducible rfl)
                (try simp only [st3]);refine htI 10 ?_ rfl (by kernel_rfl) id ?_ kH ?_
                all_goals try (intro w h;(try simp only [st3] at h ⊢);go_simp <;> with_reducible rfl)
                (try simp only [st3]);refine htI 11 ?_ rfl (by kernel_rfl) id ?_ kH ?_
                all_goals try (intro w h;(try simp only [st3] at h ⊢);go_simp <;> with_reducible rfl)
                (try simp only [st3]);refine htI 12 ?_ rfl (by kernel_rfl) id ?_ kH ?_
                all_goals try (intro w h;(try simp only [st3] at h ⊢);go_simp <;> with_reducible rfl)
                (try simp only [st3]);refine htI 13 ?_ rfl (by kernel_rfl) id ?_ kH ?_
                all_goals try (intro w h;(try simp only [st3] at h ⊢);go_simp <;> with_reducible rfl)
                (try simp only [st3]);refine htI 14 ?_ rfl (by kernel_rfl) id ?_ kH ?_
                all_goals try (intro w h;(try simp only [st3] at h ⊢);go_simp <;> with_reducible rfl)
                (try simp only [st3]);refine htI 15 ?_ rfl (by kernel_rfl) id ?_ kH ?_
                all_goals try (intro w h;(try simp only [st3] at h ⊢);go_simp <;> with_reducible rfl)
                (try simp only [st3]);refine htI 16 ?_ rfl (by kernel_rfl) id ?_ kH ?_
                all_goals try (intro w h;(try simp only [st3] at h ⊢);go_simp <;> with_reducible rfl)
                (try simp only [st3]);refine rdy 17 (by kernel_rfl) rfl (fun K hK=>?_);go_simp;go_wp2_with (go_at_call 89;refine (rapart_is (HSB.out.sat.kept kH) (by omega) (by omega) (by assumption)).mono ?_;rintro e wS ⟨rfl,hkS⟩;have hKS:=Kept.tr kH hkS);replace hK:=hK.out;refine hK _ _ hKS (fun kH=>?_);clear hK K;refine htI 18 ?_ rfl (by kernel_rfl) id ?_ kH ?_
                all_goals try (intro w h;(try simp only [st3] at h ⊢);go_simp <;> with_reducible rfl)
                (try simp only [st3]);refine htI 19 ?_ rfl (by kernel_rfl) id ?_ kH ?_
                all_goals try (intro w h;(try simp only [st3] at h ⊢);go_simp <;> with_reducible rfl)
                (try simp only [st3]);refine wpAnyH_done (by kernel_rfl) ?_ _;refine And.intro ?_ kH;with_reducible rfl
               case c121 =>
               intro e a' w' hq;obtain ⟨rfl,rfl,hkq⟩:=hq.out;go_wp2
               as_aux_lemma =>
               refine Code.wp_mono (Q:=Rg ?A139 W) ?c139 ?r139
               case r139 =>
                repeat (rename_i hh;clear hh)
                refine wp_region_held_drew (S:=fun w'=>Kept W w' none) (by kernel_rfl) (Kept.tr hkq (Kept.drew _ _)) (fun kH=>?_);refine htI 0 ?_ rfl (by kernel_rfl) id ?_ kH ?_
                all_goals try (intro w h;(try simp only [st3] at h ⊢);go_simp <;> with_reducible rfl)
                (try simp only [st3]);refine htI 1 ?_ rfl (by kernel_rfl) id ?_ kH ?_
                all_goals try (intro w h;(try simp only [st3] at h ⊢);go_simp <;> with_reducible rfl)
                (try simp only [st3]);refine htI 2 ?_ rfl (by kernel_rfl) id ?_ kH ?_
                all_goals try (intro w h;(try simp only [st3] at h ⊢);go_simp <;> with_reducible rfl)
                (try simp only [st3]);refine rdy 3 (by kernel_rfl) rfl (fun K hK=>?_);go_simp;go_wp2_with (go_at_call 89;refine (rapart_is (HSB.out.sat.kept kH) (by omega) (by omega) (by assumption)).mono ?_;rintro e wS ⟨rfl,hkS⟩;have hKS:=Kept.tr kH hkS);replace hK:=hK.out;refine hK _ _ hKS (fun kH=>?_);clear hK K;refine htI 4 ?_ rfl (by kernel_rfl) id ?_ kH ?_
                all_goals try (intro w h;(try simp only [st3] at h ⊢);go_simp <;> with_reducible rfl)
                (try simp only [st3]);refine htU 5 rfl (by kernel_rfl) id kH ?_;(try simp only [st3]);refine htU 6 rfl (by kernel_rfl) id kH ?_;(try simp only [st3]);refine htU 7 rfl (by kernel_rfl) id kH ?_;(try simp only [st3]);refine htU 8 rfl (by kernel_rfl) id kH ?_;(try simp only [st3]);refine htU 9 rfl (by kernel_rfl) id kH ?_;(try simp only [st3]);refine htU 10 rfl (by kernel_rfl) id kH ?_;(try simp only [st3]);refine htU 11 rfl (by kernel_rfl) id kH ?_;(try simp only [st3]);refine htU 12 rfl (by kernel_rfl) id kH ?_;(try simp only [st3]);refine htU 13 rfl (by kernel_rfl) id kH ?_;(try simp only [st3]);refine htU 14 rfl (by kernel_rfl) id kH ?_;(try simp only [st3]);refine htU 15 rfl (by kernel_rfl) id kH ?_;(try simp only [st3]);refine htU 16 rfl (by kernel_rfl) id kH ?_;(try simp only [st3]);refine htU 17 rfl (by kernel_rfl) id kH ?_;(try simp only [st3]);refine htU 18 rfl (by kernel_rfl) id kH ?_;(try simp only [st3]);refine htU 19 rfl (by kernel_rfl) id kH ?_;(try simp only [st3]);refine htU 20 rfl (by kernel_rfl) id kH ?_;(try simp only [st3]);refine htI 21 ?_ rfl (by kernel_rfl) id ?_ kH ?_
                all_goals try (intro w h;(try simp only [st3] at h ⊢);go_simp <;> with_reducible rfl)
                (try simp only [st3]);refine htI 22 ?_ rfl (by kernel_rfl) id ?_ kH ?_
                all_goals try (intro w h;(try simp only [st3] at h ⊢);go_simp <;> with_reducible rfl)
                (try simp only [st3]);refine htI 23 ?_ rfl (by kernel_rfl) id ?_ kH ?_
                all_goals try (intro w h;(try simp only [st3] at h ⊢);go_simp <;> with_reducible rfl)
                (try simp only [st3]);refine htI 24 ?_ rfl (by kernel_rfl) id ?_ kH ?_
                all_goals try (intro w h;(try simp only [st3] at h ⊢);go_simp <;> with_reducible rfl)
                (try simp only [st3]);refine htI 25 ?_ rfl (by kernel_rfl) id ?_ kH ?_
                all_goals try (intro w h;(try simp only [st3] at h ⊢);go_simp <;> with_reducible rfl)
                (try simp only [st3]);refine rdy 26 (by kernel_rfl) rfl (fun K hK=>?_);go_simp;go_wp2_with (go_at_call 89;refine (rapart_is (HSB.out.sat.kept kH) (by omega) (by omega) (by assumption)).mono ?_;rintro e wS ⟨rfl,hkS⟩;have hKS:=Kept.tr kH hkS);replace hK:=hK.out;refine hK _ _ hKS (fun kH=>?_);clear hK K;refine htI 27 ?_ rfl (by kernel_rfl) id ?_ kH ?_
                all_goals try (intro w h;(try simp only [st3] at h ⊢);go_simp <;> with_reducible rfl)
                (try simp only [st3]);refine htI 28 ?_ rfl (by kernel_rfl) id ?_ kH ?_
                all_goals try (intro w h;(try simp only [st3] at h ⊢);go_simp <;> with_reducible rfl)
                (try simp only [st3]);refine htI 29 ?_ rfl (by kernel_rfl) id ?_ kH ?_
                all_goals try (intro w h;(try simp only [st3] at h ⊢);go_simp <;> with_reducible rfl)
                (try simp only [st3]);refine htI 30 ?_ rfl (by kernel_rfl) id ?_ kH ?_
                all_goals try (intro w h;(try simp only [st3] at h ⊢);go_simp <;> with_reducible rfl)
                (try simp only [st3]);refine htI 31 ?_ rfl (by kernel_rfl) id ?_ kH ?_
                all_goals try (intro w h;(try simp only [st3] at h ⊢);go_simp <;> with_reducible rfl)
                (try simp only [st3]);refine htI 32 ?_ rfl (by kernel_rfl) id ?_ kH ?_
                all_goals try (intro w h;(try simp only [st3] at h ⊢);go_simp <;> with_reducible rfl)
                (try simp only [st3]);refine htI 33 ?_ rfl (by kernel_rfl) id ?_ kH ?_
                all_goals try (intro w h;(try simp only [st3] at h ⊢);go_simp <;> with_reducible rfl)
                (try simp only [st3]);refine htI 34 ?_ rfl (by kernel_rfl) id ?_ kH ?_
                all_goals try (intro w h;(try simp only [st3] at h ⊢);go_simp <;> with_reducible rfl)
                (try simp only [st3]);refine htI 35 ?_ rfl (by kernel_rfl) id ?_ kH ?_
                all_goals try (intro w h;(try simp only [st3] at h ⊢);go_simp <;> with_reducible rfl)
                (try simp only [st3]);refine htI 36 ?_ rfl (by kernel_rfl) id ?_ kH ?_
                all_goals try (intro w h;(try simp only [st3] at h ⊢);go_simp <;> with_reducible rfl)
                (try simp only [st3]);refine htI 37 ?_ rfl (by kernel_rfl) id ?_ kH ?_
                all_goals try (intro w h;(try simp only [st3] at h ⊢);go_simp <;> with_reducible rfl)
                (try simp only [st3]);refine htI 38 ?_ rfl (by kernel_rfl) id ?_ kH ?_
                all_goals try (intro w h;(try simp only [st3] at h ⊢);go_simp <;> with_reducible rfl)
                (try simp only [st3]);refine htI 39 ?_ rfl (by kernel_rfl) id ?_ kH ?_
                all_goals try (intro w h;(try simp only [st3] at h ⊢);go_simp <;> with_reducible rfl)
                (try simp only [st3]);refine wpAnyH_done (by kernel_rfl) ?_ _;refine And.intro ?_ kH;with_reducible rfl
               case c139 =>
               intro e a' w' hq;obtain ⟨rfl,rfl,hkq⟩:=hq.out;go_wp2;go_roundw
               case rel=>exact ⟨a + 1,by omega,by go_num,(fun y hy=>(by
                by_cases e:y=a
                . rw [e];exact HY.out
                . exact HB.out y (by omega))),hkq⟩
               case measure=>simp [intOf];omega
             . have hab2:¬ (a:Int)=b:=by omega
               have hab3:((a:Int) == b)=false:=beq_eq_false_iff_ne.2 hab2;go_wp2
               as_aux_lemma =>
               refine Code.wp_mono (Q:=Rg ?A162 W) ?c162 ?r162
               case r162 =>
                repeat (rename_i hh;clear hh)
                refine wp_region_held_drew (S:=fun w'=>Kept W w' none) (by kernel_rfl) (Kept.tr hkb (Kept.drew _ _)) (fun kH=>?_);refine htI 0 ?_ rfl (by kernel_rfl) id ?_ kH ?_
                all_goals try (intro w h;(try simp only [st3] at h ⊢);go_simp <;> with_reducible rfl)
                (try simp only [st3]);refine htI 1 ?_ rfl (by kernel_rfl) id ?_ kH ?_
                all_goals try (intro w h;(try simp only [st3] at h ⊢);go_simp <;> with_reducible rfl)
                (try simp only [st3]);refine htI 2 ?_ rfl (by kernel_rfl) id ?_ kH ?_
                all_goals try (intro w h;(try simp only [st3] at h ⊢);go_simp <;> with_reducible rfl)
                (try simp only [st3]);refine htI 4 ?_ rfl (by kernel_rfl) id ?_ kH ?_
                all_goals try (intro w h;(try simp only [st3] at h ⊢);go_simp <;> with_reducible rfl)
                (try simp only [st3]);refine htI 5 ?_ rfl (by kernel_rfl) id ?_ kH ?_
                all_goals try (intro w h;(try simp only [st3] at h ⊢);go_simp <;> with_reducible rfl)
                (try simp only [st3]);refine htI 6 ?_ rfl (by kernel_rfl) id ?_ kH ?_
                all_goals try (intro w h;(try simp only [st3] at h ⊢);go_simp <;> with_reducible rfl)
                (try simp only [st3]);refine rdy 3 (by kernel_rfl) rfl (fun K hK=>?_);go_simp;go_wp2_with (go_at_call 89;refine (rapart_is (HSB.out.sat.kept kH) (by omega) (by omega) (by assumption)).mono ?_;rintro e wS ⟨rfl,hkS⟩;have hKS:=Kept.tr kH hkS);replace hK:=hK.out;refine hK _ _ hKS (fun kH=>?_);clear hK K;refine rdy 7 (by kernel_rfl) rfl (fun K hK=>?_);go_simp;go_wp2_with (go_at_call 89;refine (rapart_is (HSB.out.sat.kept kH) (by omega) (by omega) (by assumption)).mono ?_;rintro e wS ⟨rfl,hkS⟩;have hKS:=Kept.tr kH hkS);replace hK:=hK.out;refine hK _ _ hKS (fun kH=>?_);clear hK K;refine htI 8 ?_ rfl (by kernel_rfl) id ?_ kH ?_
                all_goals try (intro w h;(try simp only [st3] at h ⊢);go_simp <;> with_reducible rfl)
                (try simp only [st3]);refine htI 9 ?_ rfl (by kernel_rfl) id ?_ kH ?_
                all_goals try (intro w h;(try simp only [st3] at h ⊢);go_simp <;> with_reducible rfl)
                (try simp only [st3]);refine htI 10 ?_ rfl (by kernel_rfl) id ?_ kH ?_
                all_goals try (intro w h;(try simp only [st3] at h ⊢);go_simp <;> with_reducible rfl)
                (try simp only [st3]);refine htI 11 ?_ rfl (by kernel_rfl) id ?_ kH ?_
                all_goals try (intro w h;(try simp only [st3] at h ⊢);go_simp <;> with_reducible rfl)
                (try simp only [st3]);refine htI 12 ?_ rfl (by kernel_rfl) id ?_ kH ?_
                all_goals try (intro w h;(try simp only [st3] at h ⊢);go_simp <;> with_reducible rfl)
                (try simp only [st3]);refine htI 13 ?_ rfl (by kernel_rfl) id ?_ kH ?_
                all_goals try (intro w h;(try simp only [st3] at h ⊢);go_simp <;> with_reducible rfl)
                (try simp only [st3]);refine htU 14 rfl (by kernel_rfl) id kH ?_;(try simp only [st3]);refine htU 15 rfl (by kernel_rfl) id kH ?_;(try simp only [st3]);refine htU 16 rfl (by kernel_rfl) id kH ?_;(try simp only [st3]);refine htU 17 rfl (by kernel_rfl) id kH ?_;(try simp only [st3]);refine htI 18 ?_ rfl (by kernel_rfl) id ?_ kH ?_
                all_goals try (intro w h;(try simp only [st3] at h ⊢);go_simp <;> with_reducible rfl)
                (try simp only [st3]);refine htI 19 ?_ rfl (by kernel_rfl) id ?_ kH ?_
                all_goals try (intro w h;(try simp only [st3] at h ⊢);go_simp <;> with_reducible rfl)
                (try simp only [st3]);refine wpAnyH_done (by kernel_rfl) ?_ _;refine And.intro ?_ kH;with_reducible rfl
               case c162 =>
               intro e a' w' hq;obtain ⟨rfl,rfl,hkq⟩:=hq.out;go_wp2
               as_aux_lemma =>
               refine Code.wp_mono (Q:=Rg ?A177 W) ?c177 ?r177
               case r177 =>
                repeat (rename_i hh;clear hh)
                refine wp_region_held_drew (S:=fun w'=>Kept W w' none) (by kernel_rfl) (Kept.tr hkq (Kept.drew _ _)) (fun kH=>?_);refine htI 0 ?_ rfl (by kernel_rfl) id ?_ kH ?_
                all_goals try (intro w h;(try simp only [st3] at h ⊢);go_simp <;> with_reducible rfl)
                (try simp only [st3]);refine htI 1 ?_ rfl (by kernel_rfl) id ?_ kH ?_
                all_goals try (intro w h;(try simp only [st3] at h ⊢);go_simp <;> with_reducible rfl)
                (try simp only [st3]);refine htI 2 ?_ rfl (by kernel_rfl) id ?_ kH ?_
                all_goals try (intro w h;(try simp only [st3] at h ⊢);go_simp <;> with_reducible rfl)
                (try simp only [st3]);refine rdy 3 (by kernel_rfl) rfl (fun K hK=>?_);go_simp;go_wp2_with (go_at_call 89;refine (rapart_is (HSB.out.sat.kept kH) (by omega) (by omega) (by assumption)).mono ?_;rintro e wS ⟨rfl,hkS⟩;have hKS:=Kept.tr kH hkS);replace hK:=hK.out;refine hK _ _ hKS (fun kH=>?_);clear hK K;refine htI 4 ?_ rfl (by kernel_rfl) id ?_ kH ?_
                all_goals try (intro w h;(try simp only [st3] at h ⊢);go_simp <;> with_reducible rfl)
                (try simp only [st3]);refine htU 5 rfl (by kernel_rfl) id kH ?_;(try simp only [st3]);refine htU 6 rfl (by kernel_rfl) id kH ?_;(try simp only [st3]);refine htU 7 rfl (by kernel_rfl) id kH ?_;(try simp only [st3]);refine htU 8 rfl (by kernel_rfl) id kH ?_;(try simp only [st3]);refine htU 9 rfl (by kernel_rfl) id kH ?_;(try simp only [st3]);refine htU 10 rfl (by kernel_rfl) id kH ?_;(try simp only [st3]);refine htU 11 rfl (by kernel_rfl) id kH ?_;(try simp only [st3]);refine htU 12 rfl (by kernel_rfl) id kH ?_;(try simp only [st3]);refine htU 13 rfl (by kernel_rfl) id kH ?_;(try simp only [st3]);refine htU 14 rfl (by kernel_rfl) id kH ?_;(try simp only [st3]);refine htU 15 rfl (by kernel_rfl) id kH ?_;(try simp only [st3]);refine htU 16 rfl (by kernel_rfl) id kH ?_;(try simp only [st3]);refine htU 17 rfl (by kernel_rfl) id kH ?_;(try simp only [st3]);refine htU 18 rfl (by kernel_rfl) id kH ?_;(try simp only [st3]);refine htU 19 rfl (by kernel_rfl) id kH ?_;(try simp only [st3]);refine htU 20 rfl (by kernel_rfl) id kH ?_;(try simp only [st3]);refine htI 21 ?_ rfl (by kernel_rfl) id ?_ kH ?_
                all_goals try (intro w h;(try simp only [st3] at h ⊢);go_simp <;> with_reducible rfl)
                (try simp only [st3]);refine htI 22 ?_ rfl (by kernel_rfl) id ?_ kH ?_
                all_goals try (intro w h;(try simp only [st3] at h ⊢);go_simp <;> with_reducible rfl)
                (try simp only [st3]);refine htI 23 ?_ rfl (by kernel_rfl) id ?_ kH ?_
                all_goals try (intro w h;(try simp only [st3] at h ⊢);go_simp <;> with_reducible rfl)
                (try simp only [st3]);refine htI 24 ?_ rfl (by kernel_rfl) id ?_ kH ?_
                all_goals try (intro w h;(try simp only [st3] at h ⊢);go_simp <;> with_reducible rfl)
                (try simp only [st3]);refine htI 25 ?_ rfl (by kernel_rfl) id ?_ kH ?_
                all_goals try (intro w h;(try simp only [st3] at h ⊢);go_simp <;> with_reducible rfl)
                (try simp only [st3]);refine rdy 26 (by kernel_rfl) rfl (fun K hK=>?_);go_simp;go_wp2_with (go_at_call 89;refine (rapart_is (HSB.out.sat.kept kH) (by omega) (by omega) (by assumption)).mono ?_;rintro e wS ⟨rfl,hkS⟩;have hKS:=Kept.tr kH hkS);replace hK:=hK.out;refine hK _ _ hKS (fun kH=>?_);clear hK K;refine htI 27 ?_ rfl (by kernel_rfl) id ?_ kH ?_
                all_goals try (intro w h;(try simp only [st3] at h ⊢);go_simp <;> with_reducible rfl)
                (try simp only [st3]);refine htI 28 ?_ rfl (by kernel_rfl) id ?_ kH ?_
                all_goals try (intro w h;(try simp only [st3] at h ⊢);go_simp <;> with_reducible rfl)
                (try simp only [st3]);refine htI 29 ?_ rfl (by kernel_rfl) id ?_ kH ?_
                all_goals try (intro w h;(try simp only [st3] at h ⊢);go_simp <;> with_reducible rfl)
                (try simp only [st3]);refine htI 30 ?_ rfl (by kernel_rfl) id ?_ kH ?_
                all_goals try (intro w h;(try simp only [st3] at h ⊢);go_simp <;> with_reducible rfl)
                (try simp only [st3]);refine htI 31 ?_ rfl (by kernel_rfl) id ?_ kH ?_
                all_goals try (intro w h;(try simp only [st3] at h ⊢);go_simp <;> with_reducible rfl)
                (try simp only [st3]);refine htI 32 ?_ rfl (by kernel_rfl) id ?_ kH ?_
                all_goals try (intro w h;(try simp only [st3] at h ⊢);go_simp <;> with_reducible rfl)
                (try simp only [st3]);refine htI 33 ?_ rfl (by kernel_rfl) id ?_ kH ?_
                all_goals try (intro w h;(try simp only [st3] at h ⊢);go_simp <;> with_reducible rfl)
                (try simp only [st3]);refine htI 34 ?_ rfl (by kernel_rfl) id ?_ kH ?_
                all_goals try (intro w h;(try simp only [st3] at h ⊢);go_simp <;> with_reducible rfl)
                (try simp only [st3]);refine htI 35 ?_ rfl (by kernel_rfl) id ?_ kH ?_
                all_goals try (intro w h;(try simp only [st3] at h ⊢);go_simp <;> with_reducible rfl)
                (try simp only [st3]);refine htI 36 ?_ rfl (by kernel_rfl) id ?_ kH ?_
                all_goals try (intro w h;(try simp only [st3] at h ⊢);go_simp <;> with_reducible rfl)
                (try simp only [st3]);refine htI 37 ?_ rfl (by kernel_rfl) id ?_ kH ?_
                all_goals try (intro w h;(try simp only [st3] at h ⊢);go_simp <;> with_reducible rfl)
                (try simp only [st3]);refine htI 38 ?_ rfl (by kernel_rfl) id ?_ kH ?_
                all_goals try (intro w h;(try simp only [st3] at h ⊢);go_simp <;> with_reducible rfl)
                (try simp only [st3]);refine htI 39 ?_ rfl (by kernel_rfl) id ?_ kH ?_
                all_goals try (intro w h;(try simp only [st3] at h ⊢);go_simp <;> with_reducible rfl)
                (try simp only [st3]);refine wpAnyH_done (by kernel_rfl) ?_ _;refine And.intro ?_ kH;with_reducible rfl
               case c177 =>
               intro e a' w' hq;obtain ⟨rfl,rfl,hkq⟩:=hq.out;go_wp2;go_roundw
               case rel=>exact ⟨b + 1,by omega,by go_num,(fun y hy=>(by
                by_cases e:y=b
                . rw [e];exact HY.out
                . exact HB.out y (by omega))),hkq⟩
               case measure=>simp [intOf];omega
           . skip
             have HE:Hid (rgrB S=false):=HPN.out (by rw [HPB.out,hx,hv,if_neg (by decide),decide_eq_false hn];simp);by_cases hab:a=b
             . subst hab;go_wp2
               as_aux_lemma =>
               refine Code.wp_mono (Q:=Rg ?A200 W) ?c200 ?r200
               case r200 =>
                repeat (rename_i hh;clear hh)
                refine wp_region_held_drew (S:=fun w'=>Kept W w' none) (by kernel_rfl) (Kept.tr hkb (Kept.drew _ _)) (fun kH=>?_);refine htI 0 ?_ rfl (by kernel_rfl) id ?_ kH ?_
                all_goals try (intro w h;(try simp only [st3] at h ⊢);go_simp <;> with_reducible rfl)
                (try simp only [st3]);refine htI 1 ?_ rfl (by kernel_rfl) id ?_ kH ?_
                all_goals try (intro w h;(try simp only [st3] at h ⊢);go_simp <;> with_reducible rfl)
                (try simp only [st3]);refine htI 2 ?_ rfl (by kernel_rfl) id ?_ kH ?_
                all_goals try (intro w h;(try simp only [st3] at h ⊢);go_simp <;> with_reducible rfl)
                (try simp only [st3]);refine htI 4 ?_ rfl (by kernel_rfl) id ?_ kH ?_
                all_goals try (intro w h;(try simp only [st3] at h ⊢);go_simp <;> with_reducible rfl)
                (try simp only [st3]);refine htI 5 ?_ rfl (by kernel_rfl) id ?_ kH ?_
                all_goals try (intro w h;(try simp only [st3] at h ⊢);go_simp <;> with_reducible rfl)
                (try simp only [st3]);refine htI 6 ?_ rfl (by kernel_rfl) id ?_ kH ?_
                all_goals try (intro w h;(try simp only [st3] at h ⊢);go_simp <;> with_reducible rfl)
                (try simp only [st3]);refine rdy 3 (by kernel_rfl) rfl (fun K hK=>?_);go_simp;go_wp2_with (go_at_call 89;refine (rapart_is (HSB.out.sat.kept kH) (by omega) (by omega) (by assumption)).mono ?_;rintro e wS ⟨rfl,hkS⟩;have hKS:=Kept.tr kH hkS);replace hK:=hK.out;refine hK _ _ hKS (fun kH=>?_);clear hK K;refine rdy 7 (by kernel_rfl) rfl (fun K hK=>?_);go_simp;go_wp2_with (go_at_call 89;refine (rapart_is (HSB.out.sat.kept kH) (by omega) (by omega) (by assumption)).mono ?_;rintro e wS ⟨rfl,hkS⟩;have hKS:=Kept.tr kH hkS);replace hK:=hK.out;refine hK _ _ hKS (fun kH=>?_);clear hK K;refine htI 8 ?_ rfl (by kernel_rfl) id ?_ kH ?_
                all_goals try (intro w h;(try simp only [st3] at h ⊢);go_simp <;> with_reducible rfl)
                (try simp only [st3]);refine htI 9 ?_ rfl (by kernel_rfl) id ?_ kH ?_
                all_goals try (intro w h;(try simp only [st3] at h ⊢);go_simp <;> with_reducible rfl)
                (try simp only [st3]);refine htI 10 ?_ rfl (by kernel_rfl) id ?_ kH ?_
                all_goals try (intro w h;(try simp only [st3] at h ⊢);go_simp <;> with_reducible rfl)
                (try simp only [st3]);refine htI 11 ?_ rfl (by kernel_rfl) id ?_ kH ?_
                all_goals try (intro w h;(try simp only [st3] at h ⊢);go_simp <;> with_reducible rfl)
                (try simp only [st3]);refine htI 12 ?_ rfl (by kernel_rfl) id ?_ kH ?_
                all_goals try (intro w h;(try simp only [st3] at h ⊢);go_simp <;> with_reducible rfl)
                (try simp only [st3]);refine htI 13 ?_ rfl (by kernel_rfl) id ?_ kH ?_
                all_goals try (intro w h;(try simp only [st3] at h ⊢);go_simp <;> with_reducible rfl)
                (try simp only [st3]);refine htI 14 ?_ rfl (by kernel_rfl) id ?_ kH ?_
                all_goals try (intro w h;(try simp only [st3] at h ⊢);go_simp <;> with_reducible rfl)
                (try simp only [st3]);refine htI 15 ?_ rfl (by kernel_rfl) id ?_ kH ?_
                all_goals try (intro w h;(try simp only [st3] at h ⊢);go_simp <;> with_reducible rfl)
                (try simp only [st3]);refine htI 16 ?_ rfl (by kernel_rfl) id ?_ kH ?_
                all_goals try (intro w h;(try simp only [st3] at h ⊢);go_simp <;> with_reducible rfl)
                (try simp only [st3]);refine rdy 17 (by kernel_rfl) rfl (fun K hK=>?_);go_simp;go_wp2_with (go_at_call 89;refine (rapart_is (HSB.out.sat.kept kH) (by omega) (by omega) (by assumption)).mono ?_;rintro e wS ⟨rfl,hkS⟩;have hKS:=Kept.tr kH hkS);replace hK:=hK.out;refine hK _ _ hKS (fun kH=>?_);clear hK K;refine htI 18 ?_ rfl (by kernel_rfl) id ?_ kH ?_
                all_goals try (intro w h;(try simp only [st3] at h ⊢);go_simp <;> with_reducible rfl)
                (try simp only [st3]);refine htI 19 ?_ rfl (by kernel_rfl) id ?_ kH ?_
                all_goals try (intro w h;(try simp only [st3] at h ⊢);go_simp <;> with_reducible rfl)
                (try simp only [st3]);refine wpAnyH_done (by kernel_rfl) ?_ _;refine And.intro ?_ kH;with_reducible rfl
               case c200 =>
               intro e a' w' hq;obtain ⟨rfl,rfl,hkq⟩:=hq.out;go_wp2
               as_aux_lemma =>
               refine Code.wp_mono (Q:=Rg ?A218 W) ?c218 ?r218
               case r218 =>
                repeat (rename_i hh;clear hh)
                refine wp_region_held_drew (S:=fun w'=>Kept W w' none) (by kernel_rfl) (Kept.tr hkq (Kept.drew _ _)) (fun kH=>?_);refine htI 0 ?_ rfl (by kernel_rfl) id ?_ kH ?_
                all_goals try (intro w h;(try simp only [st3] at h ⊢);go_simp <;> with_reducible rfl)
                (try simp only [st3]);refine htI 1 ?_ rfl (by kernel_rfl) id ?_ kH ?_
                all_goals try (intro w h;(try simp only [st3] at h ⊢);go_simp <;> with_reducible rfl)
                (try simp only [st3]);refine htI 2 ?_ rfl (by kernel_rfl) id ?_ kH ?_
                all_goals try (intro w h;(try simp only [st3] at h ⊢);go_simp <;> with_reducible rfl)
                (try simp only [st3]);refine rdy 3 (by kernel_rfl) rfl (fun K hK=>?_);go_simp;go_wp2_with (go_at_call 89;refine (rapart_is (HSB.out.sat.kept kH) (by omega) (by omega) (by assumption)).mono ?_;rintro e wS ⟨rfl,hkS⟩;have hKS:=Kept.tr kH hkS);replace hK:=hK.out;refine hK _ _ hKS (fun kH=>?_);clear hK K;refine htI 4 ?_ rfl (by kernel_rfl) id ?_ kH ?_
                all_goals try (intro w h;(try simp only [st3] at h ⊢);go_simp <;> with_reducible rfl)
                (try simp only [st3]);refine htU 5 rfl (by kernel_rfl) id kH ?_;(try simp only [st3]);refine htU 6 rfl (by kernel_rfl) id kH ?_;(try simp only [st3]);refine htU 7 rfl (by kernel_rfl) id kH ?_;(try simp only [st3]);refine htU 8 rfl (by kernel_rfl) id kH ?_;(try simp only [st3]);refine htU 9 rfl (by kernel_rfl) id kH ?_;(try simp only [st3]);refine htU 10 rfl (by kernel_rfl) id kH ?_;(try simp only [st3]);refine htU 11 rfl (by kernel_rfl) id kH ?_;(try simp only [st3]);refine htU 12 rfl (by kernel_rfl) id kH ?_;(try simp only [st3]);refine htU 13 rfl (by kernel_rfl) id kH ?_;(try simp only [st3]);refine htU 14 rfl (by kernel_rfl) id kH ?_;(try simp only [st3]);refine htU 15 rfl (by kernel_rfl) id kH ?_;(try simp only [st3]);refine htU 16 rfl (by kernel_rfl) id kH ?_;(try simp only [st3]);refine htU 17 rfl (by kernel_rfl) id kH ?_;(try simp only [st3]);refine htU 18 rfl (by kernel_rfl) id kH ?_;(try simp only [st3]);refine htU 19 rfl (by kernel_rfl) id kH ?_;(try simp only [st3]);refine htU 20 rfl (by kernel_rfl) id kH ?_;(try simp only [st3]);refine htI 21 ?_ rfl (by kernel_rfl) id ?_ kH ?_
                all_goals try (intro w h;(try simp only [st3] at h ⊢);go_simp <;> with_reducible rfl)
                (try simp only [st3]);refine htI 22 ?_ rfl (by kernel_rfl) id ?_ kH ?_
                all_goals try (intro w h;(try simp only [st3] at h ⊢);go_simp <;> with_reducible rfl)
                (try simp only [st3]);refine htI 23 ?_ rfl (by kernel_rfl) id ?_ kH ?_
                all_goals try (intro w h;(try simp only [st3] at h ⊢);go_simp <;> with_reducible rfl)
                (try simp only [st3]);refine htI 24 ?_ rfl (by kernel_rfl) id ?_ kH ?_
                all_goals try (intro w h;(try simp only [st3] at h ⊢);go_simp <;> with_reducible rfl)
                (try simp only [st3]);refine htI 25 ?_ rfl (by kernel_rfl) id ?_ kH ?_
                all_goals try (intro w h;(try simp only [st3] at h ⊢);go_simp <;> with_reducible rfl)
                (try simp only [st3]);refine rdy 26 (by kernel_rfl) rfl (fun K hK=>?_);go_simp;go_wp2_with (go_at_call 89;refine (rapart_is (HSB.out.sat.kept kH) (by omega) (by omega) (by assumption)).mono ?_;rintro e wS ⟨rfl,hkS⟩;have hKS:=Kept.tr kH hkS);replace hK:=hK.out;refine hK _ _ hKS (fun kH=>?_);clear hK K;refine htI 27 ?_ rfl (by kernel_rfl) id ?_ kH ?_
                all_goals try (intro w h;(try simp only [st3] at h ⊢);go_simp <;> with_reducible rfl)
                (try simp only [st3]);refine htI 28 ?_ rfl (by kernel_rfl) id ?_ kH ?_
                all_goals try (intro w h;(try simp only [st3] at h ⊢);go_simp <;> with_reducible rfl)
                (try simp only [st3]);refine htI 29 ?_ rfl (by kernel_rfl) id ?_ kH ?_
                all_goals try (intro w h;(try simp only [st3] at h ⊢);go_simp <;> with_reducible rfl)
                (try simp only [st3]);refine htI 30 ?_ rfl (by kernel_rfl) id ?_ kH ?_
                all_goals try (intro w h;(try simp only [st3] at h ⊢);go_simp <;> with_reducible rfl)
                (try simp only [st3]);refine htI 31 ?_ rfl (by kernel_rfl) id ?_ kH ?_
                all_goals try (intro w h;(try simp only [st3] at h ⊢);go_simp <;> with_reducible rfl)
                (try simp only [st3]);refine htI 32 ?_ rfl (by kernel_rfl) id ?_ kH ?_
                all_goals try (intro w h;(try simp only [st3] at h ⊢);go_simp <;> with_reducible rfl)
                (try simp only [st3]);refine htI 33 ?_ rfl (by kernel_rfl) id ?_ kH ?_
                all_goals try (intro w h;(try simp only [st3] at h ⊢);go_simp <;> with_reducible rfl)
                (try simp only [st3]);refine htI 34 ?_ rfl (by kernel_rfl) id ?_ kH ?_
                all_goals try (intro w h;(try simp only [st3] at h ⊢);go_simp <;> with_reducible rfl)
                (try simp only [st3]);refine htI 35 ?_ rfl (by kernel_rfl) id ?_ kH ?_
                all_goals try (intro w h;(try simp only [st3] at h ⊢);go_simp <;> with_reducible rfl)
                (try simp only [st3]);refine htI 36 ?_ rfl (by kernel_rfl) id ?_ kH ?_
                all_goals try (intro w h;(try simp only [st3] at h ⊢);go_simp <;> with_reducible rfl)
                (try simp only [st3]);refine htI 37 ?_ rfl (by kernel_rfl) id ?_ kH ?_
                all_goals try (intro w h;(try simp only [st3] at h ⊢);go_simp <;> with_reducible rfl)
                (try simp only [st3]);refine htI 38 ?_ rfl (by kernel_rfl) id ?_ kH ?_
                all_goals try (intro w h;(try simp only [st3] at h ⊢);go_simp <;> with_reducible rfl)
                (try simp only [st3]);refine htI 39 ?_ rfl (by kernel_rfl) id ?_ kH ?_
                all_goals try (intro w h;(try simp only [st3] at h ⊢);go_simp <;> with_reducible rfl)
                (try simp only [st3]);refine wpAnyH_done (by kernel_rfl) ?_ _;refine And.intro ?_ kH;with_reducible rfl
               case c218 =>
               intro e a' w' hq;obtain ⟨rfl,rfl,hkq⟩:=hq.out;go_wp2;go_ret;exact ⟨by rw [HE.out];rfl,HK.out.tr hkq⟩
             . have hab2:¬ (a:Int)=b:=by omega
               have hab3:((a:Int) == b)=false:=beq_eq_false_iff_ne.2 hab2;go_wp2
               as_aux_lemma =>
               refine Code.wp_mono (Q:=Rg ?A241 W) ?c241 ?r241
               case r241 =>
                repeat (rename_i hh;clear hh)
                refine wp_region_held_drew (S:=fun w'=>Kept W w' none) (by kernel_rfl) (Kept.tr hkb (Kept.drew _ _)) (fun kH=>?_);refine htI 0 ?_ rfl (by kernel_rfl) id ?_ kH ?_
                all_goals try (intro w h;(try simp only [st3] at h ⊢);go_simp <;> with_reducible rfl)
                (try simp only [st3]);refine htI 1 ?_ rfl (by kernel_rfl) id ?_ kH ?_
                all_goals try (intro w h;(try simp only [st3] at h ⊢);go_simp <;> with_reducible rfl)
                (try simp only [st3]);refine htI 2 ?_ rfl (by kernel_rfl) id ?_ kH ?_
                all_goals try (intro w h;(try simp only [st3] at h ⊢);go_simp <;> with_reducible rfl)
                (try simp only [st3]);refine htI 4 ?_ rfl (by kernel_rfl) id ?_ kH ?_
                all_goals try (intro w h;(try simp only [st3] at h ⊢);go_simp <;> with_reducible rfl)
                (try simp only [st3]);refine htI 5 ?_ rfl (by kernel_rfl) id ?_ kH ?_
                all_goals try (intro w h;(try simp only [st3] at h ⊢);go_simp <;> with_reducible rfl)
                (try simp only [st3]);refine htI 6 ?_ rfl (by kernel_rfl) id ?_ kH ?_
                all_goals try (intro w h;(try simp only [st3] at h ⊢);go_simp <;> with_reducible rfl)
                (try simp only [st3]);refine rdy 3 (by kernel_rfl) rfl (fun K hK=>?_);go_simp;go_wp2_with (go_at_call 89;refine (rapart_is (HSB.out.sat.kept kH) (by omega) (by omega) (by assumption)).mono ?_;rintro e wS ⟨rfl,hkS⟩;have hKS:=Kept.tr kH hkS);replace hK:=hK.out;refine hK _ _ hKS (fun kH=>?_);clear hK K;refine rdy 7 (by kernel_rfl) rfl (fun K hK=>?_);go_simp;go_wp2_with (go_at_call 89;refine (rapart_is (HSB.out.sat.kept kH) (by omega) (by omega) (by assumption)).mono ?_;rintro e wS ⟨rfl,hkS⟩;have hKS:=Kept.tr kH hkS);replace hK:=hK.out;refine hK _ _ hKS (fun kH=>?_);clear hK K;refine htI 8 ?_ rfl (by kernel_rfl) id ?_ kH ?_
                all_goals try (intro w h;(try simp only [st3] at h ⊢);go_simp <;> with_reducible rfl)
                (try simp only [st3]);refine htI 9 ?_ rfl (by kernel_rfl) id ?_ kH ?_
                all_goals try (intro w h;(try simp only [st3] at h ⊢);go_simp <;> with_reducible rfl)
                (try simp only [st3]);refine htI 10 ?_ rfl (by kernel_rfl) id ?_ kH ?_
                all_goals try (intro w h;(try simp only [st3] at h ⊢);go_simp <;> with_reducible rfl)
                (try simp only [st3]);refine htI 11 ?_ rfl (by kernel_rfl) id ?_ kH ?_
                all_goals try (intro w h;(try simp only [st3] at h ⊢);go_simp <;> with_reducible rfl)
                (try simp only [st3]);refine htI 12 ?_ rfl (by kernel_rfl) id ?_ kH ?_
                all_goals try (intro w h;(try simp only [st3] at h ⊢);go_simp <;> with_reducible rfl)
                (try simp only [st3]);refine htI 13 ?_ rfl (by kernel_rfl) id ?_ kH ?_
                all_goals try (intro w h;(try simp only [st3] at h ⊢);go_simp <;> with_reducible rfl)
                (try simp only [st3]);refine htU 14 rfl (by kernel_rfl) id kH ?_;(try simp only [st3]);refine htU 15 rfl (by kernel_rfl) id kH ?_;(try simp only [st3]);refine htU 16 rfl (by kernel_rfl) id kH ?_;(try simp only [st3]);refine htU 17 rfl (by kernel_rfl) id kH ?_;(try simp only [st3]);refine htI 18 ?_ rfl (by kernel_rfl) id ?_ kH ?_
                all_goals try (intro w h;(try simp only [st3] at h ⊢);go_simp <;> with_reducible rfl)
                (try simp only [st3]);refine htI 19 ?_ rfl (by kernel_rfl) id ?_ kH ?_
                all_goals try (intro w h;(try simp only [st3] at h ⊢);go_simp <;> with_reducible rfl)
                (try simp only [st3]);refine wpAnyH_done (by kernel_rfl) ?_ _;refine And.intro ?_ kH;with_reducible rfl
               case c241 =>
               intro e a' w' hq;obtain ⟨rfl,rfl,hkq⟩:=hq.out;go_wp2
               as_aux_lemma =>
               refine Code.wp_mono (Q:=Rg ?A256 W) ?c256 ?r256
               case r256 =>
                repeat (rename_i hh;clear hh)
                refine wp_region_held_drew (S:=fun w'=>Kept W w' none) (by kernel_rfl) (Kept.tr hkq (Kept.drew _ _)) (fun kH=>?_);refine htI 0 ?_ rfl (by kernel_rfl) id ?_ kH ?_
                all_goals try (intro w h;(try simp only [st3] at h ⊢);go_simp <;> with_reducible rfl)
                (try simp only [st3]);refine htI 1 ?_ rfl (by kernel_rfl) id ?_ kH ?_
                all_goals try (intro w h;(try simp only [st3] at h ⊢);go_simp <;> with_reducible rfl)
                (try simp only [st3]);refine htI 2 ?_ rfl (by kernel_rfl) id ?_ kH ?_
                all_goals try (intro w h;(try simp only [st3] at h ⊢);go_simp <;> with_reducible rfl)
                (try simp only [st3]);refine rdy 3 (by kernel_rfl) rfl (fun K hK=>?_);go_simp;go_wp2_with (go_at_call 89;refine (rapart_is (HSB.out.sat.kept kH) (by omega) (by omega) (by assumption)).mono ?_;rintro e wS ⟨rfl,hkS⟩;have hKS:=Kept.tr kH hkS);replace hK:=hK.out;refine hK _ _ hKS (fun kH=>?_);clear hK K;refine htI 4 ?_ rfl (by kernel_rfl) id ?_ kH ?_
                all_goals try (intro w h;(try simp only [st3] at h ⊢);go_simp <;> with_reducible rfl)
                (try simp only [st3]);refine htU 5 rfl (by kernel_rfl) id kH ?_;(try simp only [st3]);refine htU 6 rfl (by kernel_rfl) id kH ?_;(try simp only [st3]);refine htU 7 rfl (by kernel_rfl) id kH ?_;(try simp only [st3]);refine htU 8 rfl (by kernel_rfl) id kH ?_;(try simp only [st3]);refine htU 9 rfl (by kernel_rfl) id kH ?_;(try simp only [st3]);refine htU 10 rfl (by kernel_rfl) id kH ?_;(try simp only [st3]);refine htU 11 rfl (by kernel_rfl) id kH ?_;(try simp only [st3]);refine htU 12 rfl (by kernel_rfl) id kH ?_;(try simp only [st3]);refine htU 13 rfl (by kernel_rfl) id kH ?_;(try simp only [st3]);refine htU 14 rfl (by kernel_rfl) id kH ?_;(try simp only [st3]);refine htU 15 rfl (by kernel_rfl) id kH ?_;(try simp only [st3]);refine htU 16 rfl (by kernel_rfl) id kH ?_;(try simp only [st3]);refine htU 17 rfl (by kernel_rfl) id kH ?_;(try simp only [st3]);refine htU 18 rfl (by kernel_rfl) id kH ?_;(try simp only [st3]);refine htU 19 rfl (by kernel_rfl) id kH ?_;(try simp only [st3]);refine htU 20 rfl (by kernel_rfl) id kH ?_;(try simp only [st3]);refine htI 21 ?_ rfl (by kernel_rfl) id ?_ kH ?_
                all_goals try (intro w h;(try simp only [st3] at h ⊢);go_simp <;> with_reducible rfl)
                (try simp only [st3]);refine htI 22 ?_ rfl (by kernel_rfl) id ?_ kH ?_
                all_goals try (intro w h;(try simp only [st3] at h ⊢);go_simp <;> with_reducible rfl)
                (try simp only [st3]);refine htI 23 ?_ rfl (by kernel_rfl) id ?_ kH ?_
                all_goals try (intro w h;(try simp only [st3] at h ⊢);go_simp <;> with_reducible rfl)
                (try simp only [st3]);refine htI 24 ?_ rfl (by kernel_rfl) id ?_ kH ?_
                all_goals try (intro w h;(try simp only [st3] at h ⊢);go_simp <;> with_reducible rfl)
                (try simp only [st3]);refine htI 25 ?_ rfl (by kernel_rfl) id ?_ kH ?_
                all_goals try (intro w h;(try simp only [st3] at h ⊢);go_simp <;> with_reducible rfl)
                (try simp only [st3]);refine rdy 26 (by kernel_rfl) rfl (fun K hK=>?_);go_simp;go_wp2_with (go_at_call 89;refine (rapart_is (HSB.out.sat.kept kH) (by omega) (by omega) (by assumption)).mono ?_;rintro e wS ⟨rfl,hkS⟩;have hKS:=Kept.tr kH hkS);replace hK:=hK.out;refine hK _ _ hKS (fun kH=>?_);clear hK K;refine htI 27 ?_ rfl (by kernel_rfl) id ?_ kH ?_
                all_goals try (intro w h;(try simp only [st3] at h ⊢);go_simp <;> with_reducible rfl)
                (try simp only [st3]);refine htI 28 ?_ rfl (by kernel_rfl) id ?_ kH ?_
                all_goals try (intro w h;(try simp only [st3] at h ⊢);go_simp <;> with_reducible rfl)
                (try simp only [st3]);refine htI 29 ?_ rfl (by kernel_rfl) id ?_ kH ?_
                all_goals try (intro w h;(try simp only [st3] at h ⊢);go_simp <;> with_reducible rfl)
                (try simp only [st3]);refine htI 30 ?_ rfl (by kernel_rfl) id ?_ kH ?_
                all_goals try (intro w h;(try simp only [st3] at h ⊢);go_simp <;> with_reducible rfl)
                (try simp only [st3]);refine htI 31 ?_ rfl (by kernel_rfl) id ?_ kH ?_
                all_goals try (intro w h;(try simp only [st3] at h ⊢);go_simp <;> with_reducible rfl)
                (try simp only [st3]);refine htI 32 ?_ rfl (by kernel_rfl) id ?_ kH ?_
                all_goals try (intro w h;(try simp only [st3] at h ⊢);go_simp <;> with_reducible rfl)
                (try simp only [st3]);refine htI 33 ?_ rfl (by kernel_rfl) id ?_ kH ?_
                all_goals try (intro w h;(try simp only [st3] at h ⊢);go_simp <;> with_reducible rfl)
                (try simp only [st3]);refine htI 34 ?_ rfl (by kernel_rfl) id ?_ kH ?_
                all_goals try (intro w h;(try simp only [st3] at h ⊢);go_simp <;> with_reducible rfl)
                (try simp only [st3]);refine htI 35 ?_ rfl (by kernel_rfl) id ?_ kH ?_
                all_goals try (intro w h;(try simp only [st3] at h ⊢);go_simp <;> with_reducible rfl)
                (try simp only [st3]);refine htI 36 ?_ rfl (by kernel_rfl) id ?_ kH ?_
                all_goals try (intro w h;(try simp only [st3] at h ⊢);go_simp <;> with_reducible rfl)
                (try simp only [st3]);refine htI 37 ?_ rfl (by kernel_rfl) id ?_ kH ?_
                all_goals try (intro w h;(try simp only [st3] at h ⊢);go_simp <;> with_reducible rfl)
                (try simp only [st3]);refine htI 38 ?_ rfl (by kernel_rfl) id ?_ kH ?_
                all_goals try (intro w h;(try simp only [st3] at h ⊢);go_simp <;> with_reducible rfl)
                (try simp only [st3]);refine htI 39 ?_ rfl (by kernel_rfl) id ?_ kH ?_
                all_goals try (intro w h;(try simp only [st3] at h ⊢);go_simp <;> with_reducible rfl)
                (try simp only [st3]);refine wpAnyH_done (by kernel_rfl) ?_ _;refine And.intro ?_ kH;with_reducible rfl
               case c256 =>
               intro e a' w' hq;obtain ⟨rfl,rfl,hkq⟩:=hq.out;go_wp2;go_ret;exact ⟨by rw [HE.out];rfl,HK.out.tr hkq⟩
       . have e:b=S.groups.length:=by omega
         subst e;go_wp2;go_roundw
         case rel=>exact ⟨a + 1,by omega,by go_num,(fun x y hx hy=>(by
          by_cases e:x=a
          . rw [e];exact HB.out y hy
          . exact HA.out x y (by omega) hy)),hkb⟩
         case measure=>simp [intOf];omega
     . have e:a=S.groups.length:=by omega
       subst e
       have HE:Hid (rgrB S=true):=by
        show rgrB S=true
        rw [HE0.out,Bool.and_eq_true,allB_iff,allB_iff];exact ⟨HJ.out,fun x hx=>allB_iff.2 fun y hy=>HA.out x y hx hy⟩
       go_wp2;go_ret;exact ⟨by rw [HE.out];rfl,HK.out.tr hka⟩
theorem rgroups_any {X:Sa} {S:St} {w:World} (h:Sat w X S):Calls Tryz.prog 66 #[siteV X S] w fun e w'=>e=.returned (.bool (rgrB S)) /\ Kept w w' none:=by
 by_cases hy:inB S.id 0 65535=true /\ inB S.groups.length 1 16=true /\ S.apart.length=S.groups.length /\ S.between.length=S.groups.length
 . exact rgroups_yes h hy.1 hy.2.1 hy.2.2.1 hy.2.2.2
 . exact rgroups_no h hy
end Go.Proofs.YtakilpnbjihibaaGreatDoor
